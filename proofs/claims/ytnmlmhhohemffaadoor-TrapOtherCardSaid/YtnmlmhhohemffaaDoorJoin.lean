/- What is proved here: errors.Join of two errors makes a joinError of both; what errors.as and errors.is tell of it: as the first one has it, or, where that one has it not, as the second one. Conditions: neither is nil. -/
import Derived.Test.YtnmlmhhohemffaaDoorCommon
namespace Go.Proofs.YtnmlmhhohemffaaDoor
open Go.RowKit Go.Extern.Stop Go.Stop Go.Extern

/-- Block j is a joinError of v1 and v2. -/
def JoinAt (w : World) (j : Nat) (v1 v2 : Value) : Prop :=
  ∃ r, w.heap[j]? = some (.cells #[.slice (some ⟨r, 0, none⟩) 2 2] 69 (0, 0)) ∧ w.heap[r]? = some (.cells #[v1, v2] 30 (0, 0))
theorem JoinAt.later {w w' : World} {j : Nat} {v1 v2 : Value} (h : JoinAt w j v1 v2) (hb : Below w.heap.size w w') : JoinAt w' j v1 v2 := by
  obtain ⟨r, h1, h2⟩ := h
  exact ⟨r, by rw [hb.block j (lt_of_block h1)]; exact h1, by rw [hb.block r (lt_of_block h2)]; exact h2⟩
abbrev joinErr (j : Nat) : Value := .iface 67 (.pointer (some ⟨j, 0, none⟩))
def JoinPost (w : World) (v1 v2 : Value) (e : Ending) (w' : World) : Prop := ∃ j, e = .returned (joinErr j) ∧ JoinAt w' j v1 v2 ∧ Below w.heap.size w w'

theorem four_new (w : World) (v1 v2 : Value) (o3 o4 : Obj) :
    JoinAt ((((w.alloc (.cells #[v1, v2] 30)).alloc (.cells #[.slice (some ⟨w.heap.size, 0, none⟩) 2 2] 69)).alloc o3).alloc o4) (w.heap.size + 1) v1 v2 := by
  refine ⟨w.heap.size, ?_, ?_⟩
  · rw [RowKit.Below.heap_alloc _ _ _ (by simp), RowKit.Below.heap_alloc _ _ _ (by simp)]
    have h := (MapKept.heap_alloc (w.alloc (.cells #[v1, v2] 30)) (.cells #[.slice (some ⟨w.heap.size, 0, none⟩) 2 2] 69)).1
    rw [World.size_alloc] at h
    exact h
  · rw [RowKit.Below.heap_alloc _ _ _ (by simp; omega), RowKit.Below.heap_alloc _ _ _ (by simp; omega), RowKit.Below.heap_alloc _ _ _ (by simp)]
    exact (MapKept.heap_alloc w _).1

set_option maxRecDepth 100000 in
set_option maxHeartbeats 1000000 in
theorem join_two (u1 u2 : TypeId) (y1 y2 : Value) (g : Nat) (w : World) (h0 : w.cell? ⟨g, 0, none⟩ = some (.iface u1 y1)) (h1 : w.cell? ⟨g, 1, none⟩ = some (.iface u2 y2)) :
    Calls Tryd.prog 21 #[.slice (some ⟨g, 0, none⟩) 2 2] w (JoinPost w (.iface u1 y1) (.iface u2 y2)) := by
  have hne1 := fun W => run_neq_held_nil (P := Tryd.prog) W 30 u1 y1 (by kernel_rfl)
  have hne2 := fun W => run_neq_held_nil (P := Tryd.prog) W 30 u2 y2 (by kernel_rfl)
  have hgl : g < w.heap.size := lt_of_cell h0
  have hk : ∀ o1 o2 o3, (((w.alloc o1).alloc o2).alloc o3).cell? ⟨g, 1, none⟩ = some (.iface u2 y2) := fun o1 o2 o3 => by
    rw [World.cell?_alloc_lt _ _ ⟨g, 1, none⟩ (by simp; omega), World.cell?_alloc_lt _ _ ⟨g, 1, none⟩ (by simp; omega), World.cell?_alloc_lt _ _ ⟨g, 1, none⟩ hgl]; exact h1
  have hmk : ∀ w, (Instr.makeSlice 66 (.int .i64 0) (.int .i64 2)).run Tryd.prog w = .ok (.slice (some ⟨w.heap.size, 0, none⟩) 0 2) (w.alloc (.cells #[.nilIface, .nilIface] 30)) := fun _ => by kernel_rfl
  go_enter Tryd.func21, Tryd.ntmps21
  go_wp2
  refine wp_loop_rounds 3 ?_
  rw [rounds_succ]
  go_wp2
  rw [rounds_succ]
  go_wp2
  rw [rounds_succ]
  go_wp2
  refine wp_loop_rounds 3 ?_
  rw [rounds_succ]
  go_wp2
  rw [rounds_succ]
  go_wp2
  rw [rounds_succ]
  go_wp2
  go_ret
  exact ⟨_, rfl, four_new w _ _ _ _, ((((Below.refl _ _).alloc (Nat.le_refl _) _).alloc (by simp) _).alloc (by simp; omega) _).alloc (by simp; omega) _⟩

theorem unwraps_any (j : Nat) (v : Value) (w : World) (hc : w.cell? ⟨j, 0, none⟩ = some v) :
    Calls Tryd.prog 76 #[.pointer (some ⟨j, 0, none⟩)] w fun e w' => e = .returned v ∧ w = w' := by
  go_enter Tryd.func76, Tryd.ntmps76
  go_wp2
  go_ret
  exact ⟨rfl, rfl⟩

/-- errors.as of a joinError whose first error is a trap. -/
theorem as_join_first (j : Nat) (v2 : Value) (b : Nat) (t tv : Addr) (old : Value) (w : World) (hj : JoinAt w j (ptrErr b) v2) (htv : w.cell? tv = some (.pointer (some t))) (ht0 : w.cell? t = some old) (hf0 : w.frozen? t = false) :
    Calls Tryd.prog 33 #[joinErr j, .iface 49 (.pointer (some t)), .agg #[.pointer (some ⟨4, 49, none⟩), .pointer (some tv), .int .u64 150], .iface 90 (.agg #[.pointer (some ⟨4, 34, none⟩)])] w (HitAt w t ⟨b, 0, none⟩) := by
  have htl := lt_of_cell ht0
  have htvl := lt_of_cell htv
  have hb0 := (Below.refl w.heap.size w).alloc (Nat.le_refl _) (.cells #[.pointer (some ⟨4, 49, none⟩), .pointer (some tv), .int .u64 150] 75)
  have hne := fun W => run_eql_held_nil (P := Tryd.prog) W 30 34 (.pointer (some ⟨b, 0, none⟩)) (by kernel_rfl)
  obtain ⟨r, hj1, hj2⟩ := hj.later hb0
  have HU := Lib.hid (unwraps_any j _ _ (cell_of_block hj1 0))
  have c0 := cell_of_block hj2 0
  have HH := Lib.hid (as_hit ⟨b, 0, none⟩ t tv old _ ((hb0.cell htvl).trans htv) ((hb0.cell htl).trans ht0) ((hb0.frozen htl).trans hf0))
  have HB := Lib.hid hb0
  clear hj1 hj2 hj hb0
  have h10 := call_typeOf
  have h35 := call_assignable
  have tO := Tryd.typeOfJ
  have mA := Tryd.methodAssignableTo
  have a25 := Tryd.assignableJ
  have nA := Tryd.noAsJ
  have nU := Tryd.noUnwrapJ
  have nV := Tryd.hasUnwrapsJ
  have mV := Tryd.methodUnwrapsJ
  go_enter Tryd.func33, Tryd.ntmps33
  go_wp2
  refine wp_loop_rounds 1 ?_
  rw [rounds_succ]
  go_wp2_with (go_at_call 76; refine HU.out.mono ?_; rintro e w' ⟨rfl, rfl⟩)
  refine wp_loop_rounds 1 ?_
  rw [rounds_succ]
  go_wp2_with fail
  refine HH.out.mono ?_
  rintro e w' ⟨rfl, w1, hb1, rfl⟩
  have HB1 := Lib.hid hb1
  clear hb1
  go_wp2_with fail
  go_ret
  exact ⟨rfl, w1, HB.out.trans (HB1.out.mono (by simp)), rfl⟩

/-- errors.as of a joinError whose first error is of errors.New, the second one a trap. -/
theorem as_join_second (j x b : Nat) (t tv : Addr) (old : Value) (w : World) (hj : JoinAt w j (strErr x) (ptrErr b)) (htv : w.cell? tv = some (.pointer (some t))) (ht0 : w.cell? t = some old) (hf0 : w.frozen? t = false) :
    Calls Tryd.prog 33 #[joinErr j, .iface 49 (.pointer (some t)), .agg #[.pointer (some ⟨4, 49, none⟩), .pointer (some tv), .int .u64 150], .iface 90 (.agg #[.pointer (some ⟨4, 34, none⟩)])] w (HitAt w t ⟨b, 0, none⟩) := by
  have htl := lt_of_cell ht0
  have htvl := lt_of_cell htv
  have hb0 := (Below.refl w.heap.size w).alloc (Nat.le_refl _) (.cells #[.pointer (some ⟨4, 49, none⟩), .pointer (some tv), .int .u64 150] 75)
  have hne := fun W => run_eql_held_nil (P := Tryd.prog) W 30 34 (.pointer (some ⟨b, 0, none⟩)) (by kernel_rfl)
  have hne2 := fun W => run_eql_held_nil (P := Tryd.prog) W 30 63 (.pointer (some ⟨x, 0, none⟩)) (by kernel_rfl)
  have HJ := Lib.hid (hj.later hb0)
  obtain ⟨r, hj1, hj2⟩ := HJ.out
  have HU := Lib.hid (unwraps_any j _ _ (cell_of_block hj1 0))
  have c0 := cell_of_block hj2 0
  have HM := Lib.hid (as_miss ⟨x, 0, none⟩ t tv (w.alloc (.cells #[.pointer (some ⟨4, 49, none⟩), .pointer (some tv), .int .u64 150] 75)))
  have HT : Hid (∀ W, Below w.heap.size w W → W.cell? tv = some (.pointer (some t)) ∧ W.cell? t = some old ∧ W.frozen? t = false) := fun W hW => ⟨(hW.cell htvl).trans htv, (hW.cell htl).trans ht0, (hW.frozen htl).trans hf0⟩
  have HB := Lib.hid hb0
  have HR2 := Lib.hid hj2
  have hbx := cell_of_block (w := w.alloc (.cells #[.pointer (some ⟨4, 49, none⟩), .pointer (some tv), .int .u64 150] 75)) (b := w.heap.size) (MapKept.heap_alloc w _).1
  have Hbx := Lib.hid hbx
  clear hj1 hj2 hj hb0 hbx htv ht0 hf0
  have h10 := call_typeOf
  have h35 := call_assignable
  have tO := Tryd.typeOfJ
  have mA := Tryd.methodAssignableTo
  have a25 := Tryd.assignableJ
  have nA := Tryd.noAsJ
  have nU := Tryd.noUnwrapJ
  have nV := Tryd.hasUnwrapsJ
  have mV := Tryd.methodUnwrapsJ
  go_enter Tryd.func33, Tryd.ntmps33
  go_wp2
  refine wp_loop_rounds 1 ?_
  rw [rounds_succ]
  go_wp2_with (go_at_call 76; refine HU.out.mono ?_; rintro e w' ⟨rfl, rfl⟩)
  refine wp_loop_rounds 2 ?_
  rw [rounds_succ]
  go_wp2_with fail
  refine HM.out.mono ?_
  rintro e w1 ⟨rfl, hb1⟩
  have HB1 : Hid (Below w.heap.size w w1) := HB.out.trans (hb1.mono (by simp))
  have c1 : w1.cell? ⟨r, 1, none⟩ = some (ptrErr b) := by
    rw [hb1.cell (p := ⟨r, 1, none⟩) (lt_of_block HR2.out)]; exact cell_of_block HR2.out 1
  have d0 : w1.cell? ⟨w.heap.size, 0, none⟩ = some (.pointer (some ⟨4, 49, none⟩)) := by
    rw [hb1.cell (p := ⟨w.heap.size, 0, none⟩) (by simp)]; exact Hbx.out 0
  have d1 : w1.cell? ⟨w.heap.size, 1, none⟩ = some (.pointer (some tv)) := by
    rw [hb1.cell (p := ⟨w.heap.size, 1, none⟩) (by simp)]; exact Hbx.out 1
  have d2 : w1.cell? ⟨w.heap.size, 2, none⟩ = some (.int .u64 150) := by
    rw [hb1.cell (p := ⟨w.heap.size, 2, none⟩) (by simp)]; exact Hbx.out 2
  clear hb1
  go_wp2_with fail
  rw [rounds_succ]
  go_wp2_with fail
  refine (as_hit ⟨b, 0, none⟩ t tv old _ (HT.out _ HB1.out).1 (HT.out _ HB1.out).2.1 (HT.out _ HB1.out).2.2).mono ?_
  rintro e w' ⟨rfl, w2, hb2, rfl⟩
  have HB2 : Hid (Below w.heap.size w w2) := HB1.out.trans (hb2.mono HB1.out.size)
  clear hb2
  go_wp2_with fail
  go_ret
  exact ⟨rfl, w2, HB2.out, rfl⟩
end Go.Proofs.YtnmlmhhohemffaaDoor
