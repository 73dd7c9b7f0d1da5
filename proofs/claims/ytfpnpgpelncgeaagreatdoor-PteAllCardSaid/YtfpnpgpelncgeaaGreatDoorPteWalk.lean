/- What is proved here: the walks of the statements PteAll, PteOne and PteEach: each answers true and leaves the memory that was there as it was. Conditions: the statements' beginning does so in every later world; the numbers are of their types. -/
import Derived.Test.YtfpnpgpelncgeaaGreatDoorPteRef
import Derived.Test.YtfpnpgpelncgeaaGreatDoorGParts
namespace Go.Proofs.YtfpnpgpelncgeaaGreatDoor
open Go.RowKit Go.Extern.Stop Go.Stop Go.Extern

theorem putW_range (f s r : Int) : 0 ≤ putW f s r ∧ putW f s r < 18446744073709551616 := by
  unfold putW
  split
  · rename_i h
    have h1 := h.1
    simp only [putB, Bool.or_eq_true, Bool.and_eq_true, decide_eq_true_eq] at h1
    omega
  · omega
theorem put_back {f s r : Int} (h : putB f s r = true) : okB (putW f s r) = true ∧ gF (putW f s r) = f ∧ gS (putW f s r) = s ∧ gR (putW f s r) = r := by
  have h1 := h
  simp only [putB, Bool.or_eq_true, Bool.and_eq_true, decide_eq_true_eq] at h1
  by_cases hr : r = 0
  · obtain ⟨rfl, rfl, rfl⟩ : f = 0 ∧ s = 0 ∧ r = 0 := by omega
    exact ⟨rfl, rfl, rfl, rfl⟩
  · have e : putW f s r = 32768 + 256 * f + 16 * s + r := by unfold putW; rw [if_pos ⟨h, hr⟩]
    rw [e]
    exact hit (by omega) (by omega) (by omega) (by omega) (by omega) (by omega) rfl
theorem Get_back (f s r : Int) (h : putB f s r = true) (w : World) :
    Calls Tryz.prog 28 #[.int .u64 (putW f s r)] w fun e w' => e = .returned (.tuple #[.agg #[.int .i64 f, .int .i64 s, .int .i64 r], .bool true]) ∧ Below w.heap.size w w' := by
  have H := Get_any (putW f s r) (putW_range f s r).1 (putW_range f s r).2 w
  obtain ⟨e1, e2, e3, e4⟩ := put_back h
  rw [e1, e2, e3, e4] at H
  exact H

theorem Get_zero (w : World) :
    Calls Tryz.prog 28 #[.int .u64 0] w fun e w' => e = .returned (.tuple #[.agg #[.int .i64 0, .int .i64 0, .int .i64 0], .bool true]) ∧ Below w.heap.size w w' :=
  Get_any 0 (by omega) (by omega) w

set_option maxRecDepth 100000 in
set_option maxHeartbeats 2000000 in
theorem pteAll_walk (a b k f s r x : Int) (h0 : 0 ≤ x) (h1 : x < 18446744073709551616) (w : World) (hbeg : ∀ W, Below w.heap.size w W → BegunAt W) :
    Calls Tryz.prog 4 #[.int .i64 a, .int .i64 b, .int .i64 k, .agg #[.int .i64 f, .int .i64 s, .int .i64 r], .int .u64 x] w fun e w' => e = .returned (.bool true) ∧ Below w.heap.size w w' := by
  have HG := Lib.hid hbeg
  clear hbeg
  rcases Bool.eq_false_or_eq_true (putB f s r) with hp | hp
  · have HP := Lib.hid hp
    have H2 : Hid (∀ W, Calls Tryz.prog 26 #[.agg #[.int .i64 f, .int .i64 s, .int .i64 r]] W fun e w' => e = .returned (.tuple #[.int .u64 (putW f s r), .bool true]) ∧ Below W.heap.size W w') := fun W => by have := put_any f s r W; rw [hp] at this; exact this
    have H3 : Hid (∀ W, Calls Tryz.prog 27 #[.agg #[.int .i64 f, .int .i64 s, .int .i64 r]] W fun e w' => e = .returned (.tuple #[.int .u64 (putW f s r), .bool true]) ∧ Below W.heap.size W w') := fun W => by have := ref_pte_any f s r W; rw [hp] at this; exact this
    clear hp
    go_enter Tryz.func4, Tryz.ntmps4
    go_wp2_with fail
    refine Calls.mono (HG.out _ ((Below.refl _ _).alloc (Nat.le_refl _) _)) ?_
    rintro e w1 ⟨rfl, hb1⟩
    have B1 := Lib.hid (bl_alloc (Below.refl _ _) hb1)
    have K1 := Lib.hid (bk_one hb1)
    clear hb1
    have c0 := bk_cell K1.out 0
    have c1 := bk_cell K1.out 1
    have c2 := bk_cell K1.out 2
    go_wp2_with fail
    refine (H2.out _).mono ?_
    rintro e w2 ⟨rfl, hb2⟩
    have B2 := Lib.hid (bl_trans B1.out hb2)
    have K2 := Lib.hid (bk_below K1.out hb2)
    clear hb2 c0 c1 c2
    have c0 := bk_cell K2.out 0
    have c1 := bk_cell K2.out 1
    have c2 := bk_cell K2.out 2
    go_wp2_with fail
    refine (H3.out _).mono ?_
    rintro e w3 ⟨rfl, hb3⟩
    have B3 := Lib.hid (bl_trans B2.out hb3)
    have K3 := Lib.hid (bk_below K2.out hb3)
    clear hb3 c0 c1 c2
    go_wp2_with fail
    refine (Get_any x h0 h1 _).mono ?_
    rintro e w4 ⟨rfl, hb4⟩
    have B4 := Lib.hid (bl_trans B3.out hb4)
    have K4 := Lib.hid (bk_below K3.out hb4)
    clear hb4
    go_wp2_with fail
    refine (ref_Get_any x h0 h1 _).mono ?_
    rintro e w5 ⟨rfl, hb5⟩
    have B5 := Lib.hid (bl_alloc B4.out hb5)
    have K5 := Lib.hid (bk_keep K4.out hb5)
    have L5 := Lib.hid (bk_one hb5)
    clear hb5
    go_wp2_with fail
    refine (Get_back f s r HP.out _).mono ?_
    rintro e w6 ⟨rfl, hb6⟩
    have B6 := Lib.hid (bl_alloc B5.out hb6)
    have K6 := Lib.hid (bk_keep K5.out hb6)
    have L6 := Lib.hid (bk_keep L5.out hb6)
    have M6 := Lib.hid (bk_one hb6)
    clear hb6
    have lt1 := bk_lt K6.out
    have lt2 := bk_lt L6.out
    have lt3 := bk_lt M6.out
    have c0 := bk_cell K6.out 0
    have c1 := bk_cell K6.out 1
    have c2 := bk_cell K6.out 2
    have d0 := bk_cell L6.out 0
    have d1 := bk_cell L6.out 1
    have d2 := bk_cell L6.out 2
    have e0 := bk_cell M6.out 0
    have e1 := bk_cell M6.out 1
    have e2 := bk_cell M6.out 2
    go_wp2_with (first
      | (go_at_call 30; refine (may_any _ _).mono ?_; rintro e w' ⟨rfl, rfl⟩)
      | (go_at_call 31; refine (ref_may_any _ _).mono ?_; rintro e w' ⟨rfl, rfl⟩)
      | (go_at_call 32; refine (within_any _ _ _).mono ?_; rintro e w' ⟨rfl, rfl⟩)
      | (go_at_call 33; refine (ref_within_any _ _ _).mono ?_; rintro e w' ⟨rfl, rfl⟩)
      | (go_at_call 34; refine (lets_any _ _ _).mono ?_; rintro e w' ⟨rfl, rfl⟩)
      | (go_at_call 35; refine (ref_lets_any _ _ _).mono ?_; rintro e w' ⟨rfl, rfl⟩))
    go_ret
    exact ⟨rfl, B6.out.alloc B6.out.size _⟩
  · have HW : putW f s r = 0 := by simp [putW, hp]
    have H2 : Hid (∀ W, Calls Tryz.prog 26 #[.agg #[.int .i64 f, .int .i64 s, .int .i64 r]] W fun e w' => e = .returned (.tuple #[.int .u64 0, .bool false]) ∧ Below W.heap.size W w') := fun W => by have := put_any f s r W; rw [hp, HW] at this; exact this
    have H3 : Hid (∀ W, Calls Tryz.prog 27 #[.agg #[.int .i64 f, .int .i64 s, .int .i64 r]] W fun e w' => e = .returned (.tuple #[.int .u64 0, .bool false]) ∧ Below W.heap.size W w') := fun W => by have := ref_pte_any f s r W; rw [hp, HW] at this; exact this
    clear hp HW
    go_enter Tryz.func4, Tryz.ntmps4
    go_wp2_with fail
    refine Calls.mono (HG.out _ ((Below.refl _ _).alloc (Nat.le_refl _) _)) ?_
    rintro e w1 ⟨rfl, hb1⟩
    have B1 := Lib.hid (bl_alloc (Below.refl _ _) hb1)
    have K1 := Lib.hid (bk_one hb1)
    clear hb1
    have c0 := bk_cell K1.out 0
    have c1 := bk_cell K1.out 1
    have c2 := bk_cell K1.out 2
    go_wp2_with fail
    refine (H2.out _).mono ?_
    rintro e w2 ⟨rfl, hb2⟩
    have B2 := Lib.hid (bl_trans B1.out hb2)
    have K2 := Lib.hid (bk_below K1.out hb2)
    clear hb2 c0 c1 c2
    have c0 := bk_cell K2.out 0
    have c1 := bk_cell K2.out 1
    have c2 := bk_cell K2.out 2
    go_wp2_with fail
    refine (H3.out _).mono ?_
    rintro e w3 ⟨rfl, hb3⟩
    have B3 := Lib.hid (bl_trans B2.out hb3)
    have K3 := Lib.hid (bk_below K2.out hb3)
    clear hb3 c0 c1 c2
    go_wp2_with fail
    refine (Get_any x h0 h1 _).mono ?_
    rintro e w4 ⟨rfl, hb4⟩
    have B4 := Lib.hid (bl_trans B3.out hb4)
    have K4 := Lib.hid (bk_below K3.out hb4)
    clear hb4
    go_wp2_with fail
    refine (ref_Get_any x h0 h1 _).mono ?_
    rintro e w5 ⟨rfl, hb5⟩
    have B5 := Lib.hid (bl_alloc B4.out hb5)
    have K5 := Lib.hid (bk_keep K4.out hb5)
    have L5 := Lib.hid (bk_one hb5)
    clear hb5
    go_wp2_with fail
    refine (Get_zero _).mono ?_
    rintro e w6 ⟨rfl, hb6⟩
    have B6 := Lib.hid (bl_alloc B5.out hb6)
    have K6 := Lib.hid (bk_keep K5.out hb6)
    have L6 := Lib.hid (bk_keep L5.out hb6)
    have M6 := Lib.hid (bk_one hb6)
    clear hb6
    have lt1 := bk_lt K6.out
    have lt2 := bk_lt L6.out
    have lt3 := bk_lt M6.out
    have c0 := bk_cell K6.out 0
    have c1 := bk_cell K6.out 1
    have c2 := bk_cell K6.out 2
    have d0 := bk_cell L6.out 0
    have d1 := bk_cell L6.out 1
    have d2 := bk_cell L6.out 2
    have e0 := bk_cell M6.out 0
    have e1 := bk_cell M6.out 1
    have e2 := bk_cell M6.out 2
    go_wp2_with (first
      | (go_at_call 30; refine (may_any _ _).mono ?_; rintro e w' ⟨rfl, rfl⟩)
      | (go_at_call 31; refine (ref_may_any _ _).mono ?_; rintro e w' ⟨rfl, rfl⟩)
      | (go_at_call 32; refine (within_any _ _ _).mono ?_; rintro e w' ⟨rfl, rfl⟩)
      | (go_at_call 33; refine (ref_within_any _ _ _).mono ?_; rintro e w' ⟨rfl, rfl⟩)
      | (go_at_call 34; refine (lets_any _ _ _).mono ?_; rintro e w' ⟨rfl, rfl⟩)
      | (go_at_call 35; refine (ref_lets_any _ _ _).mono ?_; rintro e w' ⟨rfl, rfl⟩))
    go_ret
    exact ⟨rfl, B6.out.alloc B6.out.size _⟩

theorem xor_range (x : Int) (m : Nat) (h0 : 0 ≤ x) (h1 : x < 18446744073709551616) (hm : m < 64) :
    0 ≤ bits .xor .u64 x (IntKind.u64.wrap (2 ^ m)) ∧ bits .xor .u64 x (IntKind.u64.wrap (2 ^ m)) < 18446744073709551616 ∧ bits .xor .u64 x (IntKind.u64.wrap (2 ^ m)) ≠ x := by
  have hb : (2 : Int) ^ m = ((2 ^ m : Nat) : Int) := by simp
  have hp : 2 ^ m < 2 ^ 64 := Nat.pow_lt_pow_right (by omega) hm
  have hp0 : 0 < 2 ^ m := Nat.two_pow_pos m
  obtain ⟨n, rfl⟩ : ∃ n : Nat, x = (n : Int) := ⟨x.toNat, by omega⟩
  rw [u64_bit m hm, hb, u64_xor_nat n (2 ^ m) (by omega) (by omega)]
  have hlt : n ^^^ 2 ^ m < 2 ^ 64 := Nat.xor_lt_two_pow (by omega) (by omega)
  refine ⟨by omega, by omega, fun h => ?_⟩
  have h2 : n ^^^ 2 ^ m = n := Int.ofNat.inj h
  have h3 : n ^^^ (n ^^^ 2 ^ m) = n ^^^ n := by rw [h2]
  rw [← Nat.xor_assoc, Nat.xor_self, Nat.zero_xor] at h3
  omega

/-- The word of a turned bit isn't that entry's. -/
theorem not_back {f s r y : Int} (hy : y ≠ putW f s r) (h : okB y = true) : ¬ (gF y = f ∧ gS y = s ∧ gR y = r) := by
  rintro ⟨e1, e2, e3⟩
  have h1 := (get_ok h).2
  unfold gF at e1
  unfold gS at e2
  unfold gR at e3
  rw [if_pos h] at e1 e2 e3
  rw [e1, e2, e3] at h1
  exact hy h1.symm

theorem putW_inj {f s r f2 s2 r2 : Int} (h : putB f s r = true) (h2 : putB f2 s2 r2 = true) (e : putW f s r = putW f2 s2 r2) : f = f2 ∧ s = s2 ∧ r = r2 := by
  obtain ⟨_, a1, a2, a3⟩ := put_back h
  obtain ⟨_, b1, b2, b3⟩ := put_back h2
  rw [e] at a1 a2 a3
  exact ⟨a1.symm.trans b1, a2.symm.trans b2, a3.symm.trans b3⟩

end Go.Proofs.YtfpnpgpelncgeaaGreatDoor
