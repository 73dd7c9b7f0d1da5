/- What is proved here: the statement CellCount: whatever its slice and its word, the statement returns true and leaves what was there. Conditions: the slice's bools are there; the statements' own beginning returns true. -/
import Derived.Test.YtfpnpgpelncgeabGreatDoorGCell
import Derived.OpenShut
namespace Go.Proofs.YtfpnpgpelncgeabGreatDoor
open Go.RowKit Go.Extern.Stop Go.Stop Go.Extern

theorem and7 {x : Int} (h : (Lit.int .u64 x).wf = true) : 0 ≤ bits .and .u64 x 7 ∧ bits .and .u64 x 7 ≤ 7 := by
  have hb := bounds_u64 h
  rw [u64_and x 7 (by omega) (by omega) (by omega) (by omega), show ((7 : Int).toNat) = 2 ^ 3 - 1 from rfl, Nat.and_two_pow_sub_one_eq_mod]
  omega
set_option maxRecDepth 100000 in
set_option maxHeartbeats 2000000 in
theorem ccount_any (m0 : Int) (hm0 : (Lit.int .u64 m0).wf = true) (ao : Option Addr) (a : Addr) (len cap : Nat) (hao : 0 < len → ao = some a) (E : Nat → Bool) (w : World) (hz : ∀ i, i < len → w.cell? (a.add i) = some (.bool (E i))) (hbeg : ∀ V, Below w.heap.size w V → BegunAt V) :
    Calls Tryz.prog 9 #[.slice ao len cap, .int .u64 m0] w fun e w' => e = .returned (.bool true) ∧ Below w.heap.size w w' := by
  have HA := Lib.hid hao
  have HZ := Lib.hid hz
  have HV := Lib.hid hm0
  have HB := Lib.hid (hbeg w (Below.refl _ _))
  clear hao hz hbeg hm0
  go_enter Tryz.func9, Tryz.ntmps9
  go_wp2_with fail
  refine HB.out.mono ?_
  rintro e w1 ⟨rfl, hb1⟩
  have B1 := Lib.hid hb1
  clear hb1 HB
  go_wp2_with fail
  refine (cell_new 0 w1).mono ?_
  rintro e w2 ⟨C, rfl, hc, hb2, hC⟩
  have B2 := Lib.hid (bl_trans B1.out hb2)
  have HC : Hid (w.heap.size ≤ C) := by have := B1.out.size; show w.heap.size ≤ C; omega
  have C2 := Lib.hid hc
  clear hc hb2 hC B1
  go_wp2_with fail
  obtain ⟨m, hm⟩ : ∃ m, bits .and .u64 m0 7 = m := ⟨_, rfl⟩
  have HM := and7 HV.out
  rw [hm] at HM ⊢
  obtain ⟨m1, m2⟩ := HM
  clear hm HV
  go_loopw [7, 8] (fun xv iv W => ∃ (x : Int) (i : Nat), xv = .int .u64 x ∧ iv = .int .i64 i ∧ i ≤ len ∧ i ≤ 60 ∧ 0 ≤ x ∧ x ≤ m ∧ Below w.heap.size w W ∧ CellB W C 0 x (i : Int)) (fun _ iv _ => (60 - intOf iv).toNat)
  case atStart => exact ⟨0, 0, rfl, rfl, by omega, by omega, by omega, by omega, B2.out, C2.out⟩
  case round =>
    obtain ⟨x, i, rfl, rfl, hil, hi60, hx0, hxm, hb, hc⟩ := hrel
    have HB := Lib.hid hb
    have HCI := Lib.hid hc
    clear hb hc
    rcases (show (i < len ∧ i < 60) ∨ ¬ i < len ∨ (i < len ∧ i = 60) by omega) with ⟨h1, h2⟩ | h1 | ⟨h1, h2⟩
    · obtain rfl : ao = some a := HA.out (by omega)
      have i0 : (0 : Int) ≤ (i : Int) := by omega
      have i1 : (i : Int) < (len : Int) := by omega
      have i2 : (i : Int) < 60 := by omega
      have c1 := HB.out.cell (p := a.add i) (World.block_lt_of_cell? _ _ (HZ.out i h1))
      rw [HZ.out i h1] at c1
      cases hE : E i
      · rw [hE] at c1
        clear hE
        by_cases hx : 0 < x
        · have g1 : max x 1 = x := by omega
          have g2 : ¬ x = 0 := by omega
          go_wp2_with fail
          refine (cell_down_yes C x (i : Int) _ HCI.out (by omega) (by omega) hx (by omega)).mono ?_
          rintro e w3 ⟨rfl, hc3, ho3⟩
          have B3 := Lib.hid (tp_bl HB.out HC.out ho3)
          have C3 := Lib.hid hc3
          clear hc3 ho3 c1
          go_wp2_with fail
          go_roundw
          case rel => exact ⟨x - 1, i + 1, rfl, by go_num, by omega, by omega, by omega, by omega, B3.out, by have := C3.out; rw [show ((i + 1 : Nat) : Int) = (i : Int) + 1 by omega]; exact this⟩
          case measure => simp [intOf]; omega
        · obtain rfl : x = 0 := by omega
          go_wp2_with fail
          refine (cell_down_no C (i : Int) _ HCI.out (by omega) (by omega)).mono ?_
          rintro e w3 ⟨rfl, hc3, ho3⟩
          have B3 := Lib.hid (tp_bl HB.out HC.out ho3)
          have C3 := Lib.hid hc3
          clear hc3 ho3 c1
          go_wp2_with fail
          go_roundw
          case rel => exact ⟨0, i + 1, rfl, by go_num, by omega, by omega, by omega, by omega, B3.out, by have := C3.out; rw [show ((i + 1 : Nat) : Int) = (i : Int) + 1 by omega]; exact this⟩
          case measure => simp [intOf]; omega
      · rw [hE] at c1
        clear hE
        by_cases hx : x < m
        · go_wp2_with fail
          refine (cell_up_yes C x (i : Int) m _ HCI.out (by omega) (by omega) hx0 hx (by omega)).mono ?_
          rintro e w3 ⟨rfl, hc3, ho3⟩
          have B3 := Lib.hid (tp_bl HB.out HC.out ho3)
          have C3 := Lib.hid hc3
          clear hc3 ho3 c1
          go_wp2_with fail
          go_roundw
          case rel => exact ⟨x + 1, i + 1, rfl, by go_num, by omega, by omega, by omega, by omega, B3.out, by have := C3.out; rw [show ((i + 1 : Nat) : Int) = (i : Int) + 1 by omega]; exact this⟩
          case measure => simp [intOf]; omega
        · go_wp2_with fail
          refine (cell_up_no C x (i : Int) m _ HCI.out (by omega) (by omega) (by omega)).mono ?_
          rintro e w3 ⟨rfl, hc3, ho3⟩
          have B3 := Lib.hid (tp_bl HB.out HC.out ho3)
          have C3 := Lib.hid hc3
          clear hc3 ho3 c1
          go_wp2_with fail
          go_roundw
          case rel => exact ⟨x, i + 1, rfl, by go_num, by omega, by omega, by omega, by omega, B3.out, by have := C3.out; rw [show ((i + 1 : Nat) : Int) = (i : Int) + 1 by omega]; exact this⟩
          case measure => simp [intOf]; omega
    all_goals
      first
        | (have i1 : ¬ (i : Int) < (len : Int) := by omega
           go_wp2_with fail)
        | (have i1 : (i : Int) < (len : Int) := by omega
           have i2 : ¬ (i : Int) < 60 := by omega
           go_wp2_with fail)
      refine (cell_load C x (i : Int) _ HCI.out (by omega) (by omega)).mono ?_
      rintro e w3 ⟨rfl, hc3, ho3⟩
      have B3 := Lib.hid (tp_bl HB.out HC.out ho3)
      clear hc3 ho3
      go_wp2_with fail
      go_ret
      exact ⟨rfl, B3.out⟩
end Go.Proofs.YtfpnpgpelncgeabGreatDoor
