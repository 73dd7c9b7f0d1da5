/- What is proved here: contracts of errors.is and errors.Is on chains of traps. Conditions: the chain lies in memory; the target is a trap, or an error of errors.New. -/
import Derived.Test.YtnmlmhhohemffaaDoorTrap
import Derived.LoopTactic
namespace Go.Proofs.YtnmlmhhohemffaaDoor
open Go.RowKit Go.Extern.Stop Go.Stop Go.Extern

/-- A chain of n traps, all of code c, from v on, each in a block below the one that wraps it, the first below B; behind the last one stands z. -/
def Chain (w : World) (c : Int) (z : Value) : Nat → Nat → Value → Prop
  | 0, _, v => v = z
  | n + 1, B, v => ∃ b env k0 k1 k2 k3 k4 v1, v = .iface 34 (.pointer (some ⟨b, 0, none⟩)) ∧ b < B ∧ TrapAt w b c env k0 k1 k2 k3 k4 v1 ∧ Chain w c z n b v1

theorem Chain.later {w w' : World} {c : Int} {z : Value} {D : Nat} (hb : Below D w w') : ∀ {n B : Nat} {v : Value}, B ≤ D → Chain w c z n B v → Chain w' c z n B v
  | 0, _, _, _, h => h
  | _ + 1, _, _, hB, ⟨b, env, k0, k1, k2, k3, k4, v1, e, hlt, ht, hr⟩ =>
    ⟨b, env, k0, k1, k2, k3, k4, v1, e, hlt, ht.later hb (Nat.lt_of_lt_of_le hlt hB), Chain.later hb (Nat.le_of_lt (Nat.lt_of_lt_of_le hlt hB)) hr⟩
theorem Chain.mono {w : World} {c : Int} {z : Value} : ∀ {n B B' : Nat} {v : Value}, B ≤ B' → Chain w c z n B v → Chain w c z n B' v
  | 0, _, _, _, _, h => h
  | _ + 1, _, _, _, hB, ⟨b, env, k0, k1, k2, k3, k4, v1, e, hlt, ht, hr⟩ => ⟨b, env, k0, k1, k2, k3, k4, v1, e, Nat.lt_of_lt_of_le hlt hB, ht, hr⟩

/-- A trap as trap.Of makes it, at block t. -/
def OfAt (w : World) (t : Nat) (d : Int) : Prop := w.heap[t]? = some (.cells #[.int .i64 d, .int .i64 (-1), .int .u64 0, .int .u64 0, .int .u64 0, .int .u64 0, .int .u64 0, .nilIface] 38 (0, 0))
theorem OfAt.later {w w' : World} {t B : Nat} {d : Int} (h : OfAt w t d) (hb : Below B w w') (hB : t < B) : OfAt w' t d := by
  unfold OfAt at *
  rw [hb.block t hB]; exact h

theorem is_trap_no (a b : Nat) (c d : Int) (hne : (d == c) = false) (w : World) (hg : Held w) (hc : w.cell? ⟨a, 0, none⟩ = some (.int .i64 c)) (hd : w.cell? ⟨b, 0, none⟩ = some (.int .i64 d)) :
    Calls Tryd.prog 26 #[.pointer (some ⟨a, 0, none⟩), .iface 34 (.pointer (some ⟨b, 0, none⟩))] w fun e w' => e = .returned (.bool false) ∧ Below w.heap.size w w' := by
  have h := is_trap a b c d w (asHit_trap w hg _) hc hd
  rw [hne] at h; exact h
theorem is_trap_yes (a b : Nat) (c : Int) (w : World) (hg : Held w) (hc : w.cell? ⟨a, 0, none⟩ = some (.int .i64 c)) (hd : w.cell? ⟨b, 0, none⟩ = some (.int .i64 c)) :
    Calls Tryd.prog 26 #[.pointer (some ⟨a, 0, none⟩), .iface 34 (.pointer (some ⟨b, 0, none⟩))] w fun e w' => e = .returned (.bool true) ∧ Below w.heap.size w w' := by
  have h := is_trap a b c c w (asHit_trap w hg _) hc hd
  rw [beq_self_eq_true] at h; exact h

/-- The block that an error leads to. -/
def blockOf : Value → Nat | .iface _ (.pointer (some a)) => a.block | _ => 0

/-- errors.is of a trap of the target's own code: true. -/
theorem is_same_code (c : Int) (b t : Nat) (env : Int) (k0 k1 k2 k3 k4 v1 : Value) (w : World) (hg : Held w) (hb : TrapAt w b c env k0 k1 k2 k3 k4 v1) (ht : OfAt w t c) (hne : b ≠ t) :
    Calls Tryd.prog 29 #[.iface 34 (.pointer (some ⟨b, 0, none⟩)), .iface 34 (.pointer (some ⟨t, 0, none⟩)), .bool true] w fun e w' => e = .returned (.bool true) ∧ Below w.heap.size w w' := by
  obtain ⟨i, hi, hcmp⟩ := Option.map_eq_some_iff.1 Tryd.isCompP
  obtain ⟨j, hj, hjs⟩ := Option.map_eq_some_iff.1 Tryd.isSizeP
  have heq := run_eql_iface_ptr_other (P := Tryd.prog) (a := ⟨b, 0, none⟩) (b := ⟨t, 0, none⟩) w Tryd.underlying30 Tryd.underlying34 hi hcmp hj (by rw [hjs]; decide) (fun h => hne (congrArg Addr.block h)) hb ht
  have hIs := Tryd.hasIsP
  have mI := Tryd.methodIsP
  have HI := Lib.hid (is_trap_yes b t c w hg (cell_of_block hb 0) (cell_of_block ht 0))
  clear hg hb ht hi hcmp hj hjs hne
  go_enter Tryd.func29, Tryd.ntmps29
  go_wp2_with fail
  refine wp_loop_rounds 1 ?_
  rw [rounds_succ]
  go_wp2_with (go_at_call 26; refine HI.out.mono ?_; rintro e w1 ⟨rfl, hb⟩)
  go_ret
  exact ⟨rfl, hb⟩

/-- errors.is of a chain whose codes are another one than the target's, nothing behind it: false. -/
theorem is_chain_no (c d : Int) (hne : (d == c) = false) (n B t : Nat) (v : Value) (w : World) (hg : Held w) (ht : OfAt w t d) (hBt : ∀ b, b < B → b ≠ t) (h : Chain w c .nilIface (n + 1) B v) :
    Calls Tryd.prog 29 #[v, .iface 34 (.pointer (some ⟨t, 0, none⟩)), .bool true] w fun e w' => e = .returned (.bool false) ∧ Below w.heap.size w w' := by
  obtain ⟨i, hi, hcmp⟩ := Option.map_eq_some_iff.1 Tryd.isCompP
  obtain ⟨j, hj, hjs⟩ := Option.map_eq_some_iff.1 Tryd.isSizeP
  have hIs := Tryd.hasIsP
  have hUn := Tryd.hasUnwrapP
  have mI := Tryd.methodIsP
  have mU := Tryd.methodUnwrapP
  have Hne := Lib.hid hne
  clear hne
  have htl := lt_of_block ht
  go_enter Tryd.func29, Tryd.ntmps29
  go_wp2_with fail
  go_loopw [0] (fun v wr => ∃ m C, C ≤ B ∧ Chain wr c .nilIface (m + 1) C v ∧ Below w.heap.size w wr) (fun v _ => blockOf v)
  case atStart => exact ⟨n, B, Nat.le_refl _, h, Below.refl _ _⟩
  case round =>
    obtain ⟨m, C, hC, ⟨b, env, k0, k1, k2, k3, k4, v1, rfl, hlt, htr, hr⟩, hbl⟩ := hrel
    have ht1 := ht.later hbl htl
    have hg1 := hg.below hbl hg.pos
    have heq := run_eql_iface_ptr_other (P := Tryd.prog) (a := ⟨b, 0, none⟩) (b := ⟨t, 0, none⟩) wr Tryd.underlying30 Tryd.underlying34 hi hcmp hj (by rw [hjs]; decide) (fun h => hBt b (by omega) (congrArg Addr.block h)) htr ht1
    have HI := Lib.hid (is_trap_no b t c d Hne.out wr hg1 (cell_of_block htr 0) (cell_of_block ht1 0))
    have hbl1 : b < wr.heap.size := lt_of_block htr
    have HU : Hid (∀ W, Below wr.heap.size wr W → W.cell? ⟨b, 7, none⟩ = some v1) := fun W hW => (hW.cell (p := ⟨b, 7, none⟩) hbl1).trans (cell_of_block htr 7)
    have Hr := Lib.hid hr
    have Hb := Lib.hid hbl
    clear hr hbl htr ht1 hg1
    rcases m with _ | m
    · obtain rfl : v1 = .nilIface := Hr.out
      go_wp2_with (first
        | (go_at_call 26; refine HI.out.mono ?_; rintro e w1 ⟨rfl, hb⟩; have hu := HU.out w1 hb; have Hb1 := Lib.hid hb; clear hb)
        | (go_at_call 25; refine (unwrap_some b _ _ hu).mono ?_; rintro e w2 ⟨rfl, rfl⟩))
      go_ret
      exact ⟨rfl, Hb.out.trans (Hb1.out.mono Hb.out.size)⟩
    · obtain ⟨b2, env2, q0, q1, q2, q3, q4, v2, rfl, hlt2, htr2, hr2⟩ := Hr.out
      have Htr2 := Lib.hid htr2
      have Hr2 := Lib.hid hr2
      clear htr2 hr2 Hr
      go_wp2_with (first
        | (go_at_call 26; refine HI.out.mono ?_; rintro e w1 ⟨rfl, hb⟩; have hu := HU.out w1 hb; have Hb1 := Lib.hid hb; clear hb)
        | (go_at_call 25; refine (unwrap_some b _ _ hu).mono ?_; rintro e w2 ⟨rfl, rfl⟩))
      go_roundw
      case rel =>
        refine ⟨m, b, by omega, ⟨b2, env2, q0, q1, q2, q3, q4, v2, rfl, hlt2, Htr2.out.later Hb1.out (by omega), Hr2.out.later Hb1.out (by omega)⟩, Hb.out.trans (Hb1.out.mono Hb.out.size)⟩
      case measure => simp [blockOf]; omega

/-- errors.is of a chain, nothing behind it, and an error of errors.New: false. -/
theorem is_chain_str (c : Int) (n B t : Nat) (v : Value) (w : World) (hg : Held w) (h : Chain w c .nilIface (n + 1) B v) :
    Calls Tryd.prog 29 #[v, .iface 63 (.pointer (some ⟨t, 0, none⟩)), .bool true] w fun e w' => e = .returned (.bool false) ∧ Below w.heap.size w w' := by
  have hIs := Tryd.hasIsP
  have hUn := Tryd.hasUnwrapP
  have mI := Tryd.methodIsP
  have mU := Tryd.methodUnwrapP
  go_enter Tryd.func29, Tryd.ntmps29
  go_wp2_with fail
  go_loopw [0] (fun v wr => ∃ m C, C ≤ B ∧ Chain wr c .nilIface (m + 1) C v ∧ Below w.heap.size w wr) (fun v _ => blockOf v)
  case atStart => exact ⟨n, B, Nat.le_refl _, h, Below.refl _ _⟩
  case round =>
    obtain ⟨m, C, hC, ⟨b, env, k0, k1, k2, k3, k4, v1, rfl, hlt, htr, hr⟩, hbl⟩ := hrel
    have hg1 := hg.below hbl hg.pos
    have heq := run_eql_iface_types (P := Tryd.prog) 34 63 (.pointer (some ⟨b, 0, none⟩)) (.pointer (some ⟨t, 0, none⟩)) Tryd.underlying30 (by decide) wr
    have HI := Lib.hid (is_miss b _ wr (asMiss_other wr hg1 ⟨t, 0, none⟩))
    have hbl1 : b < wr.heap.size := lt_of_block htr
    have HU : Hid (∀ W, Below wr.heap.size wr W → W.cell? ⟨b, 7, none⟩ = some v1) := fun W hW => (hW.cell (p := ⟨b, 7, none⟩) hbl1).trans (cell_of_block htr 7)
    have Hr := Lib.hid hr
    have Hb := Lib.hid hbl
    clear hr hbl htr hg1
    rcases m with _ | m
    · obtain rfl : v1 = .nilIface := Hr.out
      go_wp2_with (first
        | (go_at_call 26; refine HI.out.mono ?_; rintro e w1 ⟨rfl, hb⟩; have hu := HU.out w1 hb; have Hb1 := Lib.hid hb; clear hb)
        | (go_at_call 25; refine (unwrap_some b _ _ hu).mono ?_; rintro e w2 ⟨rfl, rfl⟩))
      go_ret
      exact ⟨rfl, Hb.out.trans (Hb1.out.mono Hb.out.size)⟩
    · obtain ⟨b2, env2, q0, q1, q2, q3, q4, v2, rfl, hlt2, htr2, hr2⟩ := Hr.out
      have Htr2 := Lib.hid htr2
      have Hr2 := Lib.hid hr2
      clear htr2 hr2 Hr
      go_wp2_with (first
        | (go_at_call 26; refine HI.out.mono ?_; rintro e w1 ⟨rfl, hb⟩; have hu := HU.out w1 hb; have Hb1 := Lib.hid hb; clear hb)
        | (go_at_call 25; refine (unwrap_some b _ _ hu).mono ?_; rintro e w2 ⟨rfl, rfl⟩))
      go_roundw
      case rel =>
        refine ⟨m, b, by omega, ⟨b2, env2, q0, q1, q2, q3, q4, v2, rfl, hlt2, Htr2.out.later Hb1.out (by omega), Hr2.out.later Hb1.out (by omega)⟩, Hb.out.trans (Hb1.out.mono Hb.out.size)⟩
      case measure => simp [blockOf]; omega

/-- errors.is of a trap that wraps the very target, an error of errors.New: true. -/
theorem is_wraps_str (c : Int) (b t : Nat) (env : Int) (k0 k1 k2 k3 k4 : Value) (w : World) (hg : Held w) (hb : TrapAt w b c env k0 k1 k2 k3 k4 (.iface 63 (.pointer (some ⟨t, 0, none⟩)))) :
    Calls Tryd.prog 29 #[.iface 34 (.pointer (some ⟨b, 0, none⟩)), .iface 63 (.pointer (some ⟨t, 0, none⟩)), .bool true] w fun e w' => e = .returned (.bool true) ∧ Below w.heap.size w w' := by
  obtain ⟨i, hi, hcmp⟩ := Option.map_eq_some_iff.1 Tryd.isCompS
  obtain ⟨j, hj, _⟩ := Option.map_eq_some_iff.1 Tryd.isSizeS
  have hIs := Tryd.hasIsP
  have hUn := Tryd.hasUnwrapP
  have mI := Tryd.methodIsP
  have mU := Tryd.methodUnwrapP
  have heq := run_eql_iface_types (P := Tryd.prog) 34 63 (.pointer (some ⟨b, 0, none⟩)) (.pointer (some ⟨t, 0, none⟩)) Tryd.underlying30 (by decide) w
  have heq2 := fun W => run_eql_iface_ptr_same (P := Tryd.prog) W ⟨t, 0, none⟩ Tryd.underlying30 Tryd.underlying63 hi hcmp hj
  have HI := Lib.hid (is_miss b _ w (asMiss_other w hg ⟨t, 0, none⟩))
  have hbl1 : b < w.heap.size := lt_of_block hb
  have HU : Hid (∀ W, Below w.heap.size w W → W.cell? ⟨b, 7, none⟩ = some (.iface 63 (.pointer (some ⟨t, 0, none⟩)))) := fun W hW => (hW.cell (p := ⟨b, 7, none⟩) hbl1).trans (cell_of_block hb 7)
  clear hg hb hi hcmp hj
  go_enter Tryd.func29, Tryd.ntmps29
  go_wp2_with fail
  refine wp_loop_rounds 2 ?_
  rw [rounds_succ]
  go_wp2_with (first
    | (go_at_call 26; refine HI.out.mono ?_; rintro e w1 ⟨rfl, hb⟩; have hu := HU.out w1 hb; have Hb1 := Lib.hid hb; clear hb)
    | (go_at_call 25; refine (unwrap_some b _ _ hu).mono ?_; rintro e w2 ⟨rfl, rfl⟩))
  rw [rounds_succ]
  go_wp2_with fail
  go_ret
  exact ⟨rfl, Hb1.out⟩

/-- errors.Is, the target a trap: as errors.is has it. -/
theorem Is_trap (u : TypeId) (x : Value) (t : Addr) (w : World) {R : Ending → World → Prop}
    (H : Calls Tryd.prog 29 #[.iface u x, .iface 34 (.pointer (some t)), .bool true] w fun e w' => ∃ b : Bool, e = .returned (.bool b) ∧ R e w') :
    Calls Tryd.prog 19 #[.iface u x, .iface 34 (.pointer (some t))] w R := by
  have h10 := call_typeOf
  have tO := Tryd.typeOfP
  have mC := Tryd.methodComparable
  have cC := call_comparableP
  have h1 := fun w => run_eql_held_nil (P := Tryd.prog) w 30 u x (by kernel_rfl)
  have h2 := fun w => run_eql_held_nil (P := Tryd.prog) w 30 34 (.pointer (some t)) (by kernel_rfl)
  have HH := Lib.hid H
  clear H
  go_enter Tryd.func19, Tryd.ntmps19
  go_wp2_with (go_at_call 29; refine HH.out.mono ?_; rintro e w' ⟨b, rfl, hR⟩)
  exact hR
/-- errors.Is, the target an error of errors.New: as errors.is has it. -/
theorem Is_str (u : TypeId) (x : Value) (t : Addr) (w : World) {R : Ending → World → Prop}
    (H : Calls Tryd.prog 29 #[.iface u x, .iface 63 (.pointer (some t)), .bool true] w fun e w' => ∃ b : Bool, e = .returned (.bool b) ∧ R e w') :
    Calls Tryd.prog 19 #[.iface u x, .iface 63 (.pointer (some t))] w R := by
  have h10 := call_typeOf
  have tO := Tryd.typeOfS
  have mC := Tryd.methodComparable
  have cC := call_comparableS
  have h1 := fun w => run_eql_held_nil (P := Tryd.prog) w 30 u x (by kernel_rfl)
  have h2 := fun w => run_eql_held_nil (P := Tryd.prog) w 30 63 (.pointer (some t)) (by kernel_rfl)
  have HH := Lib.hid H
  clear H
  go_enter Tryd.func19, Tryd.ntmps19
  go_wp2_with (go_at_call 29; refine HH.out.mono ?_; rintro e w' ⟨b, rfl, hR⟩)
  exact hR
end Go.Proofs.YtnmlmhhohemffaaDoor
