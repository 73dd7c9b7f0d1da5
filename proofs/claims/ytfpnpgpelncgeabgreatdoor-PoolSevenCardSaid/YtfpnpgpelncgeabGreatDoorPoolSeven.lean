/- What is proved here: the statement PoolSeven: whatever its number, the statement returns true and leaves what was there. Conditions: the statements' own beginning returns true. -/
import Derived.Test.YtfpnpgpelncgeabGreatDoorGCell
import Derived.RegionTactic
import Derived.WalkArith
namespace Go.Proofs.YtfpnpgpelncgeabGreatDoor
open Go.RowKit Go.Extern.Stop Go.Stop Go.Extern Go.WalkArith

/-- The first frame has c references, the others are free. -/
def oneR (c : Int) (j : Nat) : Int := if j = 0 then c else 0
theorem oneR_up (c d : Int) : upR (oneR c) 0 d = oneR d := by
  funext j
  unfold upR oneR
  by_cases h : j = 0
  · rw [if_pos h, if_pos h]
  · rw [if_neg h, if_neg h, if_neg h]
theorem oneR_new (d : Int) : upR (fun _ => 0) 0 d = oneR d := rfl
theorem seven_take (Y Z : Nat) (w : World) (h : PoolIs w Y Z 3 (fun _ => 0)) :
    Calls Tryz.prog 46 #[.pointer (some ⟨Y, 0, none⟩)] w fun e w' => e = .returned (.tuple #[.int .i64 0, .bool true]) ∧ PoolIs w' Y Z 3 (oneR 1) ∧ OnlyT Z w w' :=
  pool_take Y Z 3 (fun _ => 0) 0 (by omega) (by omega) rfl (fun i h => absurd h (by omega)) w h
theorem seven_hold (Y Z : Nat) (c : Int) (h1 : 1 ≤ c) (h6 : c ≤ 6) (w : World) (h : PoolIs w Y Z 3 (oneR c)) :
    Calls Tryz.prog 50 #[.pointer (some ⟨Y, 0, none⟩), .int .i64 0] w fun e w' => e = .returned (.bool true) ∧ PoolIs w' Y Z 3 (oneR (c + 1)) ∧ OnlyT Z w w' := by
  have h := pool_hold Y Z 3 0 (oneR c) (by omega) (by omega) h1 h6 w h
  rw [oneR_up] at h
  exact h
theorem seven_let (Y Z : Nat) (c : Int) (h1 : 0 ≤ c) (h6 : c ≤ 6) (w : World) (h : PoolIs w Y Z 3 (oneR (c + 1))) :
    Calls Tryz.prog 47 #[.pointer (some ⟨Y, 0, none⟩), .int .i64 0] w fun e w' => e = .returned (.tuple #[.int .i64 c, .bool true]) ∧ PoolIs w' Y Z 3 (oneR c) ∧ OnlyT Z w w' := by
  have e1 : oneR (c + 1) 0 - 1 = c := by show c + 1 - 1 = c; omega
  have h := pool_let Y Z 3 0 (oneR (c + 1)) (by omega) (by omega) (by show 1 ≤ c + 1; omega) (by show c + 1 ≤ 7; omega) w h
  rw [oneR_up, e1] at h
  exact h
theorem seven_free (Y Z : Nat) (w : World) (h : PoolIs w Y Z 3 (oneR 0)) :
    Calls Tryz.prog 48 #[.pointer (some ⟨Y, 0, none⟩)] w fun e w' => (∃ ao cap, e = .returned (.slice ao 3 cap)) ∧ Below w.heap.size w w' :=
  pool_free Y Z 3 (oneR 0) (by omega) w h
set_option maxRecDepth 100000 in
set_option maxHeartbeats 4000000 in
theorem pseven_any (n0 : Int) (w : World) (hbeg : ∀ V, Below w.heap.size w V → BegunAt V) :
    Calls Tryz.prog 13 #[.int .i64 n0] w fun e w' => e = .returned (.bool true) ∧ Below w.heap.size w w' := by
  have HB := Lib.hid (hbeg w (Below.refl _ _))
  clear hbeg
  have m1 := Int.lt_tmod_of_pos n0 (show (0 : Int) < 12 by omega)
  have m2 := Int.tmod_lt_of_pos n0 (show (0 : Int) < 12 by omega)
  go_enter Tryz.func13, Tryz.ntmps13
  go_wp2_with fail
  refine HB.out.mono ?_
  rintro e w1 ⟨rfl, hb1⟩
  have B1 := Lib.hid hb1
  clear hb1 HB
  go_wp2_with fail
  refine (pool_new 3 (by omega) (by omega) w1).mono ?_
  rintro e w2 ⟨Y, Z, rfl, hp, hb2, hY, hZ⟩
  have B2 := Lib.hid (bl_trans B1.out hb2)
  have HZ : Hid (w.heap.size ≤ Z) := by have := B1.out.size; show w.heap.size ≤ Z; omega
  have P2 := Lib.hid hp
  clear hp hb2 hY hZ B1
  go_wp2_with fail
  refine (seven_take Y Z w2 P2.out).mono ?_
  rintro e w3 ⟨rfl, hp, ho⟩
  have B3 := Lib.hid (tp_bl B2.out HZ.out ho)
  have P3 := Lib.hid hp
  clear hp ho P2 B2
  go_wp2_with fail
  obtain ⟨N, hN⟩ : ∃ N : Nat, n0.tmod 12 % 12 = (N : Int) := ⟨(n0.tmod 12 % 12).toNat, by omega⟩
  have hN2 : N ≤ 11 := by omega
  simp only [hN]
  generalize n0.tmod 12 + 12 = y1
  generalize n0.tmod 12 = y3
  clear m1 m2 hN
  go_loopw [7] (fun iv W => ∃ (i : Nat), iv = .int .i64 i ∧ i ≤ N ∧ Below w.heap.size w W ∧ PoolIs W Y Z 3 (oneR (min ((i : Int) + 1) 7))) (fun iv _ => (N - intOf iv).toNat)
  case atStart => exact ⟨0, rfl, by omega, B3.out, P3.out⟩
  case round =>
    obtain ⟨i, rfl, hiN, hb, hp⟩ := hrel
    have HB := Lib.hid hb
    have HP := Lib.hid hp
    clear hb hp P3 B3
    by_cases h1 : i < N
    · have i1 : (i : Int) < (N : Int) := by omega
      by_cases h6 : i < 6
      · have i2 : (i : Int) < 6 := by omega
        go_wp2_with fail
        refine (seven_hold Y Z ((i : Int) + 1) (by omega) (by omega) wr (by rw [show (i : Int) + 1 = min ((i : Int) + 1) 7 by omega]; exact HP.out)).mono ?_
        rintro e' w4 ⟨rfl, hg, ho⟩
        have B4 := Lib.hid (tp_bl HB.out HZ.out ho)
        have P4 := Lib.hid hg
        clear hg ho
        go_wp2_with fail
        go_roundw
        case rel => exact ⟨i + 1, by go_num, by omega, B4.out, by have := P4.out; rw [show min (((i + 1 : Nat) : Int) + 1) 7 = (i : Int) + 1 + 1 by omega]; exact this⟩
        case measure => simp [intOf]; omega
      · have i2 : decide ((i : Int) < 6) = false := decide_eq_false (by omega)
        go_wp2_with fail
        refine (pool_hold_most Y Z 3 0 _ (by omega) (by omega) (by show min ((i : Int) + 1) 7 = 7; omega) wr HP.out).mono ?_
        rintro e' w4 ⟨rfl, rfl⟩
        go_wp2_with fail
        go_roundw
        case rel => exact ⟨i + 1, by go_num, by omega, HB.out, by have := HP.out; rw [show min (((i + 1 : Nat) : Int) + 1) 7 = min ((i : Int) + 1) 7 by omega]; exact this⟩
        case measure => simp [intOf]; omega
    · obtain rfl : N = i := by omega
      have i1 : ¬ (N : Int) < (N : Int) := by omega
      clear h1 hiN
      by_cases hA : N ≤ 6
      · have hA2 : (N : Int) + 1 ≤ 7 := by omega
        rw [show min ((N : Int) + 1) 7 = (N : Int) + 1 by omega] at HP
        go_wp2_with fail
        refine (pool_refs Y Z 3 0 _ (by omega) (by omega) ((N : Int) + 1) rfl (by omega) wr HP.out).mono ?_
        rintro e' w4 ⟨rfl, rfl⟩
        go_wp2_with fail
        clear i1
        go_loopw [9] (fun iv W => ∃ (x : Int), iv = .int .i64 x ∧ -1 ≤ x ∧ x ≤ 6 ∧ Below w.heap.size w W ∧ PoolIs W Y Z 3 (oneR (x + 1))) (fun iv _ => (intOf iv + 1).toNat)
        case atStart => exact ⟨(N : Int), rfl, by omega, by omega, HB.out, HP.out⟩
        case round =>
          clear HB HP
          obtain ⟨x, rfl, hx1, hx6, hb, hp⟩ := hrel
          have HB := Lib.hid hb
          have HP := Lib.hid hp
          clear hb hp
          by_cases h0 : 0 ≤ x
          · go_wp2_with fail
            refine (seven_let Y Z x h0 hx6 wr HP.out).mono ?_
            rintro e' w5 ⟨rfl, hg, ho⟩
            have B5 := Lib.hid (tp_bl HB.out HZ.out ho)
            have P5 := Lib.hid hg
            clear hg ho
            go_wp2_with fail
            go_roundw
            case rel => exact ⟨x - 1, rfl, by omega, by omega, B5.out, by have := P5.out; rw [show x - 1 + 1 = x by omega]; exact this⟩
            case measure => simp [intOf]; omega
          · obtain rfl : x = -1 := by omega
            go_wp2_with fail
            refine (pool_let_free Y Z 3 0 (oneR 0) (by omega) (by omega) rfl wr HP.out).mono ?_
            rintro e' w5 ⟨rfl, rfl⟩
            go_wp2_with fail
            refine (seven_free Y Z wr HP.out).mono ?_
            rintro e' w6 ⟨⟨ao, cap, rfl⟩, hb6⟩
            have B6 := Lib.hid (bl_trans HB.out hb6)
            have P6 := Lib.hid (HP.out.later hb6)
            clear hb6
            go_wp2_with fail
            refine (pool_hold_free Y Z 3 0 (oneR 0) (by omega) (by omega) rfl w6 P6.out).mono ?_
            rintro e' w7 ⟨rfl, rfl⟩
            go_wp2_with fail
            go_ret
            exact ⟨rfl, B6.out⟩
      · have hA2 : ¬ (N : Int) + 1 ≤ 7 := by omega
        rw [show min ((N : Int) + 1) 7 = 7 by omega] at HP
        go_wp2_with fail
        refine (pool_refs Y Z 3 0 _ (by omega) (by omega) 7 rfl (by omega) wr HP.out).mono ?_
        rintro e' w4 ⟨rfl, rfl⟩
        go_wp2_with fail
        clear i1
        go_loopw [9] (fun iv W => ∃ (x : Int), iv = .int .i64 x ∧ -1 ≤ x ∧ x ≤ 6 ∧ Below w.heap.size w W ∧ PoolIs W Y Z 3 (oneR (x + 1))) (fun iv _ => (intOf iv + 1).toNat)
        case atStart => exact ⟨6, rfl, by omega, by omega, HB.out, HP.out⟩
        case round =>
          clear HB HP
          obtain ⟨x, rfl, hx1, hx6, hb, hp⟩ := hrel
          have HB := Lib.hid hb
          have HP := Lib.hid hp
          clear hb hp
          by_cases h0 : 0 ≤ x
          · go_wp2_with fail
            refine (seven_let Y Z x h0 hx6 wr HP.out).mono ?_
            rintro e' w5 ⟨rfl, hg, ho⟩
            have B5 := Lib.hid (tp_bl HB.out HZ.out ho)
            have P5 := Lib.hid hg
            clear hg ho
            go_wp2_with fail
            go_roundw
            case rel => exact ⟨x - 1, rfl, by omega, by omega, B5.out, by have := P5.out; rw [show x - 1 + 1 = x by omega]; exact this⟩
            case measure => simp [intOf]; omega
          · obtain rfl : x = -1 := by omega
            go_wp2_with fail
            refine (pool_let_free Y Z 3 0 (oneR 0) (by omega) (by omega) rfl wr HP.out).mono ?_
            rintro e' w5 ⟨rfl, rfl⟩
            go_wp2_with fail
            refine (seven_free Y Z wr HP.out).mono ?_
            rintro e' w6 ⟨⟨ao, cap, rfl⟩, hb6⟩
            have B6 := Lib.hid (bl_trans HB.out hb6)
            have P6 := Lib.hid (HP.out.later hb6)
            clear hb6
            go_wp2_with fail
            refine (pool_hold_free Y Z 3 0 (oneR 0) (by omega) (by omega) rfl w6 P6.out).mono ?_
            rintro e' w7 ⟨rfl, rfl⟩
            go_wp2_with fail
            go_ret
            exact ⟨rfl, B6.out⟩
end Go.Proofs.YtfpnpgpelncgeabGreatDoor
