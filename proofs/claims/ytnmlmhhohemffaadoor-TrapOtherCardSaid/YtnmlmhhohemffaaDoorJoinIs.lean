/- What is proved here: errors.is and errors.As of a joinError of two: the first error that fits is found. Conditions: the parts' own contracts. -/
import Derived.Test.YtnmlmhhohemffaaDoorJoin
namespace Go.Proofs.YtnmlmhhohemffaaDoor
open Go.RowKit Go.Extern.Stop Go.Stop Go.Extern

/-- errors.is of a joinError and a trap: the first error is it. -/
theorem is_join_first (j t : Nat) (v1 v2 : Value) (w : World) (hj : JoinAt w j v1 v2)
    (H1 : Calls Tryd.prog 29 #[v1, ptrErr t, .bool true] w fun e w' => e = .returned (.bool true) ∧ Below w.heap.size w w') :
    Calls Tryd.prog 29 #[joinErr j, ptrErr t, .bool true] w fun e w' => e = .returned (.bool true) ∧ Below w.heap.size w w' := by
  have heq := run_eql_iface_types (P := Tryd.prog) 67 34 (.pointer (some ⟨j, 0, none⟩)) (.pointer (some ⟨t, 0, none⟩)) Tryd.underlying30 (by decide) w
  obtain ⟨r, hj1, hj2⟩ := hj
  have HU := Lib.hid (unwraps_any j _ w (cell_of_block hj1 0))
  have c0 := cell_of_block hj2 0
  have HH := Lib.hid H1
  clear hj1 hj2 H1
  have nI := Tryd.noIsJ
  have nU := Tryd.noUnwrapJ
  have nV := Tryd.hasUnwrapsJ
  have mV := Tryd.methodUnwrapsJ
  go_enter Tryd.func29, Tryd.ntmps29
  go_wp2_with fail
  refine wp_loop_rounds 1 ?_
  rw [rounds_succ]
  go_wp2_with (go_at_call 76; refine HU.out.mono ?_; rintro e w' ⟨rfl, rfl⟩)
  refine wp_loop_rounds 1 ?_
  rw [rounds_succ]
  go_wp2_with fail
  refine HH.out.mono ?_
  rintro e w1 ⟨rfl, hb1⟩
  have HB1 := Lib.hid hb1
  clear hb1
  go_wp2_with fail
  go_ret
  exact ⟨rfl, HB1.out⟩

/-- .. the second one is it. -/
theorem is_join_second (j t : Nat) (v1 v2 : Value) (w : World) (hj : JoinAt w j v1 v2)
    (H1 : Calls Tryd.prog 29 #[v1, ptrErr t, .bool true] w fun e w' => e = .returned (.bool false) ∧ Below w.heap.size w w')
    (H2 : ∀ W, Below w.heap.size w W → Calls Tryd.prog 29 #[v2, ptrErr t, .bool true] W fun e w' => e = .returned (.bool true) ∧ Below W.heap.size W w') :
    Calls Tryd.prog 29 #[joinErr j, ptrErr t, .bool true] w fun e w' => e = .returned (.bool true) ∧ Below w.heap.size w w' := by
  have heq := run_eql_iface_types (P := Tryd.prog) 67 34 (.pointer (some ⟨j, 0, none⟩)) (.pointer (some ⟨t, 0, none⟩)) Tryd.underlying30 (by decide) w
  obtain ⟨r, hj1, hj2⟩ := hj
  have HU := Lib.hid (unwraps_any j _ w (cell_of_block hj1 0))
  have c0 := cell_of_block hj2 0
  have HR : Hid (∀ W, Below w.heap.size w W → W.cell? ⟨r, 1, none⟩ = some v2) := fun W hW => (hW.cell (p := ⟨r, 1, none⟩) (lt_of_block hj2)).trans (cell_of_block hj2 1)
  have HH := Lib.hid H1
  have HH2 := Lib.hid H2
  clear hj1 hj2 H1 H2
  have nI := Tryd.noIsJ
  have nU := Tryd.noUnwrapJ
  have nV := Tryd.hasUnwrapsJ
  have mV := Tryd.methodUnwrapsJ
  go_enter Tryd.func29, Tryd.ntmps29
  go_wp2_with fail
  refine wp_loop_rounds 1 ?_
  rw [rounds_succ]
  go_wp2_with (go_at_call 76; refine HU.out.mono ?_; rintro e w' ⟨rfl, rfl⟩)
  refine wp_loop_rounds 2 ?_
  rw [rounds_succ]
  go_wp2_with fail
  refine HH.out.mono ?_
  rintro e w1 ⟨rfl, hb1⟩
  have HB1 := Lib.hid hb1
  have c1 := HR.out w1 hb1
  clear hb1
  go_wp2_with fail
  rw [rounds_succ]
  go_wp2_with fail
  refine (HH2.out _ HB1.out).mono ?_
  rintro e w2 ⟨rfl, hb2⟩
  have HB2 := Lib.hid (HB1.out.trans (hb2.mono HB1.out.size))
  clear hb2
  go_wp2_with fail
  go_ret
  exact ⟨rfl, HB2.out⟩

/-- errors.is of an error of errors.New and a trap: false. -/
theorem is_str_trap (x t : Nat) (w : World) :
    Calls Tryd.prog 29 #[strErr x, ptrErr t, .bool true] w fun e w' => e = .returned (.bool false) ∧ Below w.heap.size w w' := by
  have heq := run_eql_iface_types (P := Tryd.prog) 63 34 (.pointer (some ⟨x, 0, none⟩)) (.pointer (some ⟨t, 0, none⟩)) Tryd.underlying30 (by decide) w
  have nI := Tryd.noIsS
  have nU := Tryd.noUnwrapS
  have nV := Tryd.noUnwrapsS
  go_enter Tryd.func29, Tryd.ntmps29
  go_wp2_with fail
  refine wp_loop_rounds 1 ?_
  rw [rounds_succ]
  go_wp2_with fail
  go_ret
  exact ⟨rfl, Below.refl _ _⟩

theorem asHit_join_first (w : World) (hg : Held w) (j b : Nat) (v2 : Value) (hj : JoinAt w j (ptrErr b) v2) : AsHit w (joinErr j) ⟨b, 0, none⟩ := fun W t hW hc hf => by
  have htl := lt_of_cell hc
  refine As_some _ _ t W (hg.below hW hg.pos) (fun tv W2 hb htv => (as_join_first j v2 b t tv (.pointer none) W2 ((hj.later hW).later hb) htv ?_ ?_).mono ?_)
  · rw [hb.cell htl]; exact hc
  · rw [hb.frozen htl]; exact hf
  · rintro ev w' ⟨rfl, w1, h1, rfl⟩
    exact ⟨true, rfl, rfl, w1, hb.trans (h1.mono hb.size), rfl⟩
theorem asHit_join_second (w : World) (hg : Held w) (j x b : Nat) (hj : JoinAt w j (strErr x) (ptrErr b)) : AsHit w (joinErr j) ⟨b, 0, none⟩ := fun W t hW hc hf => by
  have htl := lt_of_cell hc
  refine As_some _ _ t W (hg.below hW hg.pos) (fun tv W2 hb htv => (as_join_second j x b t tv (.pointer none) W2 ((hj.later hW).later hb) htv ?_ ?_).mono ?_)
  · rw [hb.cell htl]; exact hc
  · rw [hb.frozen htl]; exact hf
  · rintro ev w' ⟨rfl, w1, h1, rfl⟩
    exact ⟨true, rfl, rfl, w1, hb.trans (h1.mono hb.size), rfl⟩
end Go.Proofs.YtnmlmhhohemffaaDoor
