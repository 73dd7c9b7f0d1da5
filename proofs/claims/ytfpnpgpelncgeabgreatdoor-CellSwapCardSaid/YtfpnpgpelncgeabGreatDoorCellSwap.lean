/- What is proved here: the statement CellSwap: whatever its word and its slice, the statement returns true and leaves what was there. Conditions: the slice's words are there and are words; the statements' own beginning returns true. -/
import Derived.Test.YtfpnpgpelncgeabGreatDoorGCell
import Derived.OpenShut
namespace Go.Proofs.YtfpnpgpelncgeabGreatDoor
open Go.RowKit Go.Extern.Stop Go.Stop Go.Extern

theorem wrap_next {v : Int} (h : (Lit.int .u64 v).wf = true) : (v == IntKind.u64.wrap (v + 1)) = false := by
  have hb := bounds_u64 h
  refine beq_eq_false_iff_ne.2 fun e => ?_
  have : IntKind.u64.wrap (v + 1) = (v + 1) % 18446744073709551616 := by
    simp [IntKind.wrap, IntKind.signed, IntKind.bits]
  rw [this] at e
  omega
set_option maxRecDepth 100000 in
set_option maxHeartbeats 2000000 in
theorem cswap_any (v0 : Int) (hv0 : (Lit.int .u64 v0).wf = true) (ao : Option Addr) (a : Addr) (len cap : Nat) (hao : 0 < len → ao = some a) (E : Nat → Int) (w : World) (hz : ∀ i, i < len → w.cell? (a.add i) = some (.int .u64 (E i))) (hwf : ∀ i, i < len → (Lit.int .u64 (E i)).wf = true) (hbeg : ∀ V, Below w.heap.size w V → BegunAt V) :
    Calls Tryz.prog 10 #[.int .u64 v0, .slice ao len cap] w fun e w' => e = .returned (.bool true) ∧ Below w.heap.size w w' := by
  have HA := Lib.hid hao
  have HZ := Lib.hid hz
  have HW := Lib.hid hwf
  have HV := Lib.hid hv0
  have HB := Lib.hid (hbeg w (Below.refl _ _))
  clear hao hz hwf hbeg hv0
  go_enter Tryz.func10, Tryz.ntmps10
  go_wp2_with fail
  refine HB.out.mono ?_
  rintro e w1 ⟨rfl, hb1⟩
  have B1 := Lib.hid hb1
  clear hb1 HB
  go_wp2_with fail
  refine (cell_new v0 w1).mono ?_
  rintro e w2 ⟨C, rfl, hc, hb2, hC⟩
  have B2 := Lib.hid (bl_trans B1.out hb2)
  have HC : Hid (w.heap.size ≤ C) := by have := B1.out.size; show w.heap.size ≤ C; omega
  have C2 := Lib.hid hc
  clear hc hb2 hC B1
  go_wp2_with fail
  go_loopw [0, 7] (fun vv iv W => ∃ (v : Int) (i : Nat), vv = .int .u64 v ∧ iv = .int .i64 i ∧ i ≤ len ∧ i ≤ 30 ∧ Hid ((Lit.int .u64 v).wf = true) ∧ Below w.heap.size w W ∧ CellB W C 0 v ((i + i : Nat) : Int)) (fun _ iv _ => (30 - intOf iv).toNat)
  case atStart => exact ⟨v0, 0, rfl, rfl, by omega, by omega, HV, B2.out, C2.out⟩
  case round =>
    obtain ⟨v, i, rfl, rfl, hil, hi30, HVI, hb, hc⟩ := hrel
    have HB := Lib.hid hb
    have HCI := Lib.hid hc
    clear hb hc
    rcases (show (i < len ∧ i < 30) ∨ ¬ i < len ∨ (i < len ∧ i = 30) by omega) with ⟨h1, h2⟩ | h1 | ⟨h1, h2⟩
    · obtain rfl : ao = some a := HA.out (by omega)
      have i0 : (0 : Int) ≤ (i : Int) := by omega
      have i1 : (i : Int) < (len : Int) := by omega
      have i2 : (i : Int) < 30 := by omega
      go_wp2_with fail
      refine (cell_cas_no C v ((i + i : Nat) : Int) _ 5 _ HCI.out (by omega) (by omega) (wrap_next HVI.out)).mono ?_
      rintro e w3 ⟨rfl, hc3, ho3⟩
      have B3 := Lib.hid (tp_bl HB.out HC.out ho3)
      have C3 := Lib.hid hc3
      have c3 := B3.out.cell (p := a.add i) (World.block_lt_of_cell? _ _ (HZ.out i h1))
      rw [HZ.out i h1] at c3
      clear hc3 ho3
      go_wp2_with fail
      refine (cell_cas_yes C v _ (E i) _ C3.out (by omega) (by omega)).mono ?_
      rintro e w4 ⟨rfl, hc4, ho4⟩
      have B4 := Lib.hid (tp_bl B3.out HC.out ho4)
      have C4 := Lib.hid hc4
      have c4 := B4.out.cell (p := a.add i) (World.block_lt_of_cell? _ _ (HZ.out i h1))
      rw [HZ.out i h1] at c4
      clear hc4 ho4 c3
      go_wp2_with fail
      go_roundw
      case rel => exact ⟨E i, i + 1, rfl, by go_num, by omega, by omega, Lib.hid (HW.out i h1), B4.out, by have := C4.out; rw [show ((i + 1 + (i + 1) : Nat) : Int) = ((i + i : Nat) : Int) + 1 + 1 by omega]; exact this⟩
      case measure => simp [intOf]; omega
    all_goals
      first
        | (have i1 : ¬ (i : Int) < (len : Int) := by omega
           go_wp2_with fail)
        | (have i1 : (i : Int) < (len : Int) := by omega
           have i2 : ¬ (i : Int) < 30 := by omega
           go_wp2_with fail)
      refine (cell_load C v ((i + i : Nat) : Int) _ HCI.out (by omega) (by omega)).mono ?_
      rintro e w3 ⟨rfl, hc3, ho3⟩
      have B3 := Lib.hid (tp_bl HB.out HC.out ho3)
      clear hc3 ho3
      go_wp2_with fail
      go_ret
      exact ⟨rfl, B3.out⟩
end Go.Proofs.YtfpnpgpelncgeabGreatDoor
