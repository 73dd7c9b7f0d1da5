/- What is proved here: the statement TicketFair: whatever its number and its slice, the statement returns true and leaves what was there. Conditions: the slice's numbers are there; the statements' own beginning returns true. -/
import Derived.Test.YtfpnpgpelncgeabGreatDoorGCell
import Derived.RegionTactic
import Derived.Deep.CutBlock
import Derived.Deep.DeepCutAuto
import Derived.WalkArith
namespace Go.Proofs.YtfpnpgpelncgeabGreatDoor
open Go.RowKit Go.Extern.Stop Go.Stop Go.Extern Go.WalkArith

theorem tmod_near (x : Int) (n : Int) (h : 0 < n) : -n < x.tmod n ∧ x.tmod n < n := by
  refine ⟨?_, Int.tmod_lt_of_pos x h⟩
  rcases Int.lt_or_le x 0 with hx | hx
  · have := Int.tmod_lt_of_pos (-x) h
    rw [Int.neg_tmod] at this
    omega
  · have := Int.tmod_nonneg n hx
    omega
theorem tmod_up (x : Int) (n : Int) (h : 0 < n) : 0 ≤ (x.tmod n + n).tmod n ∧ (x.tmod n + n).tmod n < n := by
  have h1 := tmod_near x n h
  exact ⟨Int.tmod_nonneg n (by omega), Int.tmod_lt_of_pos _ h⟩
theorem tmod_low (x : Int) (n : Nat) (h : 0 < n) (h2 : n ≤ 12) : ∃ t : Nat, x.tmod n % n = (t : Int) ∧ IntKind.u64.wrap (x.tmod n % n) = (t : Int) ∧ t < n := by
  have h1 := Int.emod_nonneg (x.tmod n) (show (n : Int) ≠ 0 by omega)
  have h2 := Int.emod_lt_of_pos (x.tmod n) (show (0 : Int) < n by omega)
  refine ⟨(x.tmod n % n).toNat, by omega, ?_, by omega⟩
  have : IntKind.u64.wrap (x.tmod n % n) = (x.tmod n % n) % 18446744073709551616 := by
    simp [IntKind.wrap, IntKind.signed, IntKind.bits]
  omega
set_option maxRecDepth 100000 in
set_option maxHeartbeats 8000000 in
theorem tfair_any (n0 : Int) (ao : Option Addr) (a : Addr) (len cap : Nat) (hao : 0 < len → ao = some a) (E : Nat → Int) (w : World) (hz : ∀ i, i < len → w.cell? (a.add i) = some (.int .i64 (E i))) (hbeg : ∀ V, Below w.heap.size w V → BegunAt V) :
    Calls Tryz.prog 11 #[.int .i64 n0, .slice ao len cap] w fun e w' => e = .returned (.bool true) ∧ Below w.heap.size w w' := by
  have HA := Lib.hid hao
  have HZ := Lib.hid hz
  have HB := Lib.hid (hbeg w (Below.refl _ _))
  clear hao hz hbeg
  obtain ⟨m1, m2⟩ := tmod_near n0 12 (by omega)
  obtain ⟨m3, m4⟩ := tmod_up n0 12 (by omega)
  go_enter Tryz.func11, Tryz.ntmps11
  go_wp2_with fail
  refine HB.out.mono ?_
  rintro e w1 ⟨rfl, hb1⟩
  have B1 := Lib.hid hb1
  clear hb1 HB
  go_wp2_with fail
  refine (tick_new w1).mono ?_
  rintro e w2 ⟨L, C, D, rfl, hl, hb2, hL, hC, hD⟩
  have B2 := Lib.hid (bl_trans B1.out hb2)
  have HC : Hid (w.heap.size ≤ C) := by have := B1.out.size; show w.heap.size ≤ C; omega
  have HD : Hid (w.heap.size ≤ D) := by have := B1.out.size; show w.heap.size ≤ D; omega
  have L2 := Lib.hid hl
  clear hl hb2 hL hC hD B1
  go_wp2_with fail
  obtain ⟨N, hN⟩ : ∃ N : Nat, 1 + n0.tmod 12 % 12 = (N : Int) := ⟨(1 + n0.tmod 12 % 12).toNat, by omega⟩
  have hN1 : 1 ≤ N := by omega
  have hN2 : N ≤ 12 := by omega
  simp only [hN]
  generalize n0.tmod 12 + 12 = y1
  generalize n0.tmod 12 % 12 = y2
  generalize n0.tmod 12 = y3
  clear m1 m2 m3 m4 hN
  go_loopw [7] (fun iv W => ∃ (i : Nat), iv = .int .i64 i ∧ i ≤ N ∧ Below w.heap.size w W ∧ LockAt W L C D (i : Int) 0 (i : Int)) (fun iv _ => (N - intOf iv).toNat)
  case atStart => exact ⟨0, rfl, by omega, B2.out, L2.out⟩
  case round =>
    obtain ⟨i, rfl, hiN, hb, hl⟩ := hrel
    have HB := Lib.hid hb
    have HL := Lib.hid hl
    clear hb hl
    by_cases h1 : i < N
    · have i1 : (i : Int) < (N : Int) := by omega
      go_wp2_with fail
      refine (tick_draw L C D (i : Int) 0 (i : Int) _ HL.out (by omega) (by omega) (by omega)).mono ?_
      rintro e' w3 ⟨rfl, hg, ho⟩
      have D3 := Lib.hid hg
      have B3 := Lib.hid (ol_bl HB.out HC.out HD.out ho)
      clear hg ho
      go_wp2_with fail
      go_roundw
      case rel => exact ⟨i + 1, by go_num, by omega, B3.out, by have := D3.out; rw [show ((i + 1 : Nat) : Int) = (i : Int) + 1 by omega]; exact this⟩
      case measure => simp [intOf]; omega
    · obtain rfl : N = i := by omega
      clear h1 hiN B2 L2
      have i1 : ¬ (N : Int) < (N : Int) := by omega
      go_wp2_with fail
      clear i1
      go_loopw [8] (fun iv W => ∃ (i : Nat), iv = .int .i64 i ∧ i ≤ N ∧ Below w.heap.size w W ∧ LockAt W L C D (N : Int) (i : Int) ((N : Int) + 21 * (i : Int))) (fun iv _ => (N - intOf iv).toNat)
      case atStart => exact ⟨0, rfl, by omega, HB.out, HL.out⟩
      case round =>
        clear HB HL
        obtain ⟨i, rfl, hiN, hb, hl⟩ := hrel
        have HB := Lib.hid hb
        have HL := Lib.hid hl
        clear hb hl
        by_cases h1 : i < N
        · have i1 : (i : Int) < (N : Int) := by omega
          go_wp2_with fail
          go_loopw [9] (fun iv W => ∃ (k : Nat), iv = .int .i64 k ∧ k ≤ len ∧ k ≤ 10 ∧ Below w.heap.size w W ∧ LockAt W L C D (N : Int) (i : Int) ((N : Int) + 21 * (i : Int) + 2 * (k : Int))) (fun iv _ => (10 - intOf iv).toNat)
          case atStart => exact ⟨0, rfl, by omega, by omega, HB.out, HL.out⟩
          case round =>
            clear HB HL
            obtain ⟨k, rfl, hkl, hk10, hb, hl⟩ := hrel
            have HB := Lib.hid hb
            have HL := Lib.hid hl
            clear hb hl
            rcases (show (k < len ∧ k < 10) ∨ ¬ k < len ∨ (k < len ∧ k = 10) by omega) with ⟨g1, g2⟩ | g1 | ⟨g1, g2⟩
            · obtain rfl : ao = some a := HA.out (by omega)
              have k0 : (0 : Int) ≤ (k : Int) := by omega
              have k1 : (k : Int) < (len : Int) := by omega
              have k2 : (k : Int) < 10 := by omega
              have c1 := HB.out.cell (p := a.add k) (World.block_lt_of_cell? _ _ (HZ.out k g1))
              rw [HZ.out k g1] at c1
              obtain ⟨x, hx⟩ : ∃ x, E k = x := ⟨_, rfl⟩
              rw [hx] at c1
              clear hx
              have n0 : ¬ (N : Int) = 0 := by omega
              have n1 : ((N : Int) == 0) = false := by simpa using n0
              obtain ⟨m1, m2⟩ := tmod_near x N (by omega)
              obtain ⟨m3, m4⟩ := tmod_up x N (by omega)
              obtain ⟨t, ht, hw, htN⟩ := tmod_low x N (by omega) hN2
              by_cases hti : t = i
              · subst hti
                have f1 : (t : Int) < (N : Int) := by omega
                go_wp2_with fail
                refine (tick_turn_yes L C D N t _ f1 wr HL.out (by omega)).mono ?_
                rintro e' w3 ⟨rfl, hg, ho⟩
                have D3 := Lib.hid hg
                have B3 := Lib.hid (ol_bl HB.out HC.out HD.out ho)
                clear hg ho c1 hw ht m1 m2 m3 m4
                go_wp2_with fail
                go_roundw
                case rel => exact ⟨k + 1, by go_num, by omega, by omega, B3.out, lk_le D3.out (by omega)⟩
                case measure => simp [intOf]; omega
              · have f1 : ((t : Int) == (i : Int)) = false := beq_eq_false_iff_ne.2 (by omega)
                go_wp2_with fail
                refine (tick_turn_no L C D N i _ t (by omega) wr HL.out (by omega)).mono ?_
                rintro e' w3 ⟨rfl, hg, ho⟩
                have D3 := Lib.hid hg
                have B3 := Lib.hid (ol_bl HB.out HC.out HD.out ho)
                clear hg ho c1 hw ht m1 m2 m3 m4
                go_wp2_with fail
                refine (tick_pass_no L C D N i _ t (by omega) w3 D3.out (by omega)).mono ?_
                rintro e' w4 ⟨rfl, hg, ho⟩
                have D4 := Lib.hid hg
                have B4 := Lib.hid (ol_bl B3.out HC.out HD.out ho)
                clear hg ho
                go_wp2_with fail
                go_roundw
                case rel => exact ⟨k + 1, by go_num, by omega, by omega, B4.out, lk_le D4.out (by omega)⟩
                case measure => simp [intOf]; omega
            all_goals
              first
                | (have k1 : ¬ (k : Int) < (len : Int) := by omega
                   go_wp2_with fail)
                | (have k1 : (k : Int) < (len : Int) := by omega
                   have k2 : ¬ (k : Int) < 10 := by omega
                   go_wp2_with fail)
              refine (tick_pass_yes L C D N i _ (by omega) i1 (by omega) wr HL.out (by omega)).mono ?_
              rintro e' w3 ⟨rfl, hg, ho⟩
              have D3 := Lib.hid hg
              have B3 := Lib.hid (ol_bl HB.out HC.out HD.out ho)
              clear hg ho
              go_wp2_with fail
              go_roundw
              case rel => exact ⟨i + 1, by go_num, by omega, B3.out, by have := lk_le (k' := (N : Int) + 21 * ((i + 1 : Nat) : Int)) D3.out (by omega); rw [show ((i + 1 : Nat) : Int) = (i : Int) + 1 by omega] at this ⊢; exact this⟩
              case measure => simp [intOf]; omega
        · obtain rfl : N = i := by omega
          clear h1 hiN
          have i1 : ¬ (N : Int) < (N : Int) := by omega
          have e0 : ((N : Int) - (N : Int)) = 0 := by omega
          go_wp2_with fail
          refine (tick_waits L C D N N _ wr HL.out (by omega) (by omega) (by omega) (by omega)).mono ?_
          rw [e0]
          rintro e' w3 ⟨rfl, hg, ho⟩
          have D3 := Lib.hid hg
          have B3 := Lib.hid (ol_bl HB.out HC.out HD.out ho)
          clear hg ho e0
          go_wp2_with fail
          refine (tick_turn_no L C D N N _ N (by omega) w3 D3.out (by omega)).mono ?_
          rintro e' w4 ⟨rfl, hg, ho⟩
          have D4 := Lib.hid hg
          have B4 := Lib.hid (ol_bl B3.out HC.out HD.out ho)
          clear hg ho
          go_wp2_with fail
          refine (tick_draw L C D N N _ w4 D4.out (by omega) (by omega) (by omega)).mono ?_
          rintro e' w5 ⟨rfl, hg, ho⟩
          have D5 := Lib.hid hg
          have B5 := Lib.hid (ol_bl B4.out HC.out HD.out ho)
          clear hg ho
          go_wp2_with fail
          refine (tick_turn_yes L C D _ N _ (by omega) w5 D5.out (by omega)).mono ?_
          rintro e' w6 ⟨rfl, hg, ho⟩
          have B6 := Lib.hid (ol_bl B5.out HC.out HD.out ho)
          clear hg ho
          go_wp2_with fail
          go_ret
          exact ⟨rfl, B6.out⟩
end Go.Proofs.YtfpnpgpelncgeabGreatDoor
