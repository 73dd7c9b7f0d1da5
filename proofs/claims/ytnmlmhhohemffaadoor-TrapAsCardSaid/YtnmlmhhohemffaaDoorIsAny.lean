/- What is proved here: errors.is and errors.Is of a chain of traps at a target trap of whatever make: true just if the codes are one. Conditions: the chain lies in memory, nothing stands behind it, the target stands beside it. -/
import Derived.Test.YtnmlmhhohemffaaDoorChain
import Derived.LoopTactic
namespace Go.Proofs.YtnmlmhhohemffaaDoor
open Go.RowKit Go.Extern.Stop Go.Stop Go.Extern

/-- errors.is of a trap of the target's own code: true. -/
theorem is_same_code_any (c : Int) (b t : Nat) (env : Int) (k0 k1 k2 k3 k4 v1 : Value) (w : World) (hg : Held w) (hb : TrapAt w b c env k0 k1 k2 k3 k4 v1) {tenv : Int} {q0 q1 q2 q3 q4 qv : Value} (ht : TrapAt w t c tenv q0 q1 q2 q3 q4 qv) (hne : b ≠ t) :
    Calls Tryd.prog 29 #[.iface 34 (.pointer (some ⟨b, 0, none⟩)), .iface 34 (.pointer (some ⟨t, 0, none⟩)), .bool true] w fun e w' => e = .returned (.bool true) ∧ Below w.heap.size w w' := by
  obtain ⟨i, hi, hcmp⟩ := Option.map_eq_some_iff.1 Tryd.isCompP
  obtain ⟨j, hj, hjs⟩ := Option.map_eq_some_iff.1 Tryd.isSizeP
  have heq := run_eql_iface_ptr_other (P := Tryd.prog) (a := ⟨b, 0, none⟩) (b := ⟨t, 0, none⟩) w Tryd.underlying30 Tryd.underlying34 hi hcmp hj (by rw [hjs]; decide) (fun h => hne (congrArg Addr.block h)) hb ht
  have hIs := Tryd.hasIsP
  have mI := Tryd.methodIsP
  have HI := Lib.hid (is_trap_yes b t c w hg (cell_of_block hb 0) (cell_of_block ht 0))
  clear hg hb ht hi hcmp hj hjs hne
  go_enter Tryd.func29, Tryd.ntmps29
  go_wp2_with fail
  refine wp_loop_rounds 1 ?_
  rw [rounds_succ]
  go_wp2_with (go_at_call 26; refine HI.out.mono ?_; rintro e w1 ⟨rfl, hb⟩)
  go_ret
  exact ⟨rfl, hb⟩

/-- errors.is of a chain whose codes are another one than the target's, nothing behind it: false. -/
theorem is_chain_no_any (c d : Int) (hne : (d == c) = false) (n B t : Nat) (v : Value) (w : World) (hg : Held w) {tenv : Int} {p0 p1 p2 p3 p4 pv : Value} (ht : TrapAt w t d tenv p0 p1 p2 p3 p4 pv) (hBt : ∀ b, b < B → b ≠ t) (h : Chain w c .nilIface (n + 1) B v) :
    Calls Tryd.prog 29 #[v, .iface 34 (.pointer (some ⟨t, 0, none⟩)), .bool true] w fun e w' => e = .returned (.bool false) ∧ Below w.heap.size w w' := by
  obtain ⟨i, hi, hcmp⟩ := Option.map_eq_some_iff.1 Tryd.isCompP
  obtain ⟨j, hj, hjs⟩ := Option.map_eq_some_iff.1 Tryd.isSizeP
  have hIs := Tryd.hasIsP
  have hUn := Tryd.hasUnwrapP
  have mI := Tryd.methodIsP
  have mU := Tryd.methodUnwrapP
  have Hne := Lib.hid hne
  clear hne
  have htl := lt_of_block ht
  go_enter Tryd.func29, Tryd.ntmps29
  go_wp2_with fail
  go_loopw [0] (fun v wr => ∃ m C, C ≤ B ∧ Chain wr c .nilIface (m + 1) C v ∧ Below w.heap.size w wr) (fun v _ => blockOf v)
  case atStart => exact ⟨n, B, Nat.le_refl _, h, Below.refl _ _⟩
  case round =>
    obtain ⟨m, C, hC, ⟨b, env, k0, k1, k2, k3, k4, v1, rfl, hlt, htr, hr⟩, hbl⟩ := hrel
    have ht1 := ht.later hbl htl
    have hg1 := hg.below hbl hg.pos
    have heq := run_eql_iface_ptr_other (P := Tryd.prog) (a := ⟨b, 0, none⟩) (b := ⟨t, 0, none⟩) wr Tryd.underlying30 Tryd.underlying34 hi hcmp hj (by rw [hjs]; decide) (fun h => hBt b (by omega) (congrArg Addr.block h)) htr ht1
    have HI := Lib.hid (is_trap_no b t c d Hne.out wr hg1 (cell_of_block htr 0) (cell_of_block ht1 0))
    have hbl1 : b < wr.heap.size := lt_of_block htr
    have HU : Hid (∀ W, Below wr.heap.size wr W → W.cell? ⟨b, 7, none⟩ = some v1) := fun W hW => (hW.cell (p := ⟨b, 7, none⟩) hbl1).trans (cell_of_block htr 7)
    have Hr := Lib.hid hr
    have Hb := Lib.hid hbl
    clear hr hbl htr ht1 hg1
    rcases m with _ | m
    · obtain rfl : v1 = .nilIface := Hr.out
      go_wp2_with (first
        | (go_at_call 26; refine HI.out.mono ?_; rintro e w1 ⟨rfl, hb⟩; have hu := HU.out w1 hb; have Hb1 := Lib.hid hb; clear hb)
        | (go_at_call 25; refine (unwrap_some b _ _ hu).mono ?_; rintro e w2 ⟨rfl, rfl⟩))
      go_ret
      exact ⟨rfl, Hb.out.trans (Hb1.out.mono Hb.out.size)⟩
    · obtain ⟨b2, env2, q0, q1, q2, q3, q4, v2, rfl, hlt2, htr2, hr2⟩ := Hr.out
      have Htr2 := Lib.hid htr2
      have Hr2 := Lib.hid hr2
      clear htr2 hr2 Hr
      go_wp2_with (first
        | (go_at_call 26; refine HI.out.mono ?_; rintro e w1 ⟨rfl, hb⟩; have hu := HU.out w1 hb; have Hb1 := Lib.hid hb; clear hb)
        | (go_at_call 25; refine (unwrap_some b _ _ hu).mono ?_; rintro e w2 ⟨rfl, rfl⟩))
      go_roundw
      case rel =>
        refine ⟨m, b, by omega, ⟨b2, env2, q0, q1, q2, q3, q4, v2, rfl, hlt2, Htr2.out.later Hb1.out (by omega), Hr2.out.later Hb1.out (by omega)⟩, Hb.out.trans (Hb1.out.mono Hb.out.size)⟩
      case measure => simp [blockOf]; omega

theorem chain_is_any {w : World} {c d : Int} {n B b t : Nat} (hg : Held w) (h : Chain w c .nilIface (n + 1) B (ptrErr b)) {tenv : Int} {q0 q1 q2 q3 q4 qv : Value} (ht : TrapAt w t d tenv q0 q1 q2 q3 q4 qv) (hBt : B ≤ t) :
    Calls Tryd.prog 19 #[ptrErr b, ptrErr t] w fun e w' => e = .returned (.bool (d == c)) ∧ Below w.heap.size w w' := by
  obtain ⟨env, k0, k1, k2, k3, k4, v1, hlt, hb, _⟩ := chain_trap h
  by_cases hd : d = c
  · subst hd
    rw [beq_self_eq_true]
    refine Is_trap _ _ _ w ((is_same_code_any d b t env k0 k1 k2 k3 k4 v1 w hg hb ht (by omega)).mono ?_)
    rintro e w' ⟨rfl, hb⟩
    exact ⟨true, rfl, rfl, hb⟩
  · have hd' : (d == c) = false := beq_eq_false_iff_ne.2 hd
    rw [hd']
    refine Is_trap _ _ _ w ((is_chain_no_any c d hd' n B t _ w hg ht (fun i hi => by omega) h).mono ?_)
    rintro e w' ⟨rfl, hb⟩
    exact ⟨false, rfl, rfl, hb⟩
theorem chain_is_str {w : World} {c : Int} {n B b t : Nat} (hg : Held w) (h : Chain w c .nilIface (n + 1) B (ptrErr b)) :
    Calls Tryd.prog 19 #[ptrErr b, .iface 63 (.pointer (some ⟨t, 0, none⟩))] w fun e w' => e = .returned (.bool false) ∧ Below w.heap.size w w' := by
  refine Is_str _ _ _ w ((is_chain_str c n B t _ w hg h).mono ?_)
  rintro e w' ⟨rfl, hb⟩
  exact ⟨false, rfl, rfl, hb⟩

/-- errors.As of a trap, the target a new variable at the end of the memory w: behind it w stands as it was and the variable leads to the trap. -/
theorem As_into {w : World} (hg : Held w) (b : Nat) (W : World) (hW : Below w.heap.size w W) (hc : W.cell? ⟨w.heap.size, 0, none⟩ = some (.pointer none)) (hf : W.frozen? ⟨w.heap.size, 0, none⟩ = false) :
    Calls Tryd.prog 23 #[ptrErr b, .iface 49 (.pointer (some ⟨w.heap.size, 0, none⟩))] W fun e w' => e = .returned (.bool true) ∧ Below w.heap.size w w' ∧ w'.cell? ⟨w.heap.size, 0, none⟩ = some (.pointer (some ⟨b, 0, none⟩)) ∧ w.heap.size < w'.heap.size := by
  refine (asHit_trap w hg ⟨b, 0, none⟩ W ⟨w.heap.size, 0, none⟩ hW hc hf).mono ?_
  rintro e w' ⟨rfl, w1, hb, rfl⟩
  have h1 : w.heap.size < W.heap.size := lt_of_cell hc
  have c1 := (hb.cell (p := ⟨w.heap.size, 0, none⟩) h1).trans hc
  refine ⟨rfl, (hW.trans (hb.mono hW.size)).setCell (by simp) _, World.cell?_setCell_same _ _ _ c1, ?_⟩
  have := hb.size
  simp [World.setCell]
  omega
end Go.Proofs.YtnmlmhhohemffaaDoor
