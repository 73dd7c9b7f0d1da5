/- What is proved here: the walks of the statements PteAll, PteOne and PteEach: each answers true and leaves the memory that was there as it was. Conditions: the statements' beginning does so in every later world; the numbers are of their types. -/
import Derived.Test.YtfpnpgpelncgeabGreatDoorPteRef
import Derived.Test.YtfpnpgpelncgeabGreatDoorGParts
namespace Go.Proofs.YtfpnpgpelncgeabGreatDoor
open Go.RowKit Go.Extern.Stop Go.Stop Go.Extern

theorem putW_range (f s r : Int) : 0 ≤ putW f s r ∧ putW f s r < 18446744073709551616 := by
  unfold putW
  split
  · rename_i h
    have h1 := h.1
    simp only [putB, Bool.or_eq_true, Bool.and_eq_true, decide_eq_true_eq] at h1
    omega
  · omega
theorem put_back {f s r : Int} (h : putB f s r = true) : okB (putW f s r) = true ∧ gF (putW f s r) = f ∧ gS (putW f s r) = s ∧ gR (putW f s r) = r := by
  have h1 := h
  simp only [putB, Bool.or_eq_true, Bool.and_eq_true, decide_eq_true_eq] at h1
  by_cases hr : r = 0
  · obtain ⟨rfl, rfl, rfl⟩ : f = 0 ∧ s = 0 ∧ r = 0 := by omega
    exact ⟨rfl, rfl, rfl, rfl⟩
  · have e : putW f s r = 32768 + 256 * f + 16 * s + r := by unfold putW; rw [if_pos ⟨h, hr⟩]
    rw [e]
    exact hit (by omega) (by omega) (by omega) (by omega) (by omega) (by omega) rfl
theorem Get_back (f s r : Int) (h : putB f s r = true) (w : World) :
    Calls Tryz.prog 20 #[.int .u64 (putW f s r)] w fun e w' => e = .returned (.tuple #[.agg #[.int .i64 f, .int .i64 s, .int .i64 r], .bool true]) ∧ Below w.heap.size w w' := by
  have H := Get_any (putW f s r) (putW_range f s r).1 (putW_range f s r).2 w
  obtain ⟨e1, e2, e3, e4⟩ := put_back h
  rw [e1, e2, e3, e4] at H
  exact H

theorem Get_zero (w : World) :
    Calls Tryz.prog 20 #[.int .u64 0] w fun e w' => e = .returned (.tuple #[.agg #[.int .i64 0, .int .i64 0, .int .i64 0], .bool true]) ∧ Below w.heap.size w w' :=
  Get_any 0 (by omega) (by omega) w

set_option maxRecDepth 100000 in
set_option maxHeartbeats 2000000 in
theorem one_no (f s r f2 s2 r2 b g1 g2 g3 y : Int) (ok2 : Bool) (inn : Bool) (m : Nat) (hm : (wrap64 (b.tmod 64 + 64)).tmod 64 = (m : Int)) (_hm2 : m < 64)
    (H2 : Hid (∀ W, Calls Tryz.prog 19 #[.agg #[.int .i64 f, .int .i64 s, .int .i64 r]] W fun e w' => e = .returned (.tuple #[.int .u64 0, .bool false]) ∧ Below W.heap.size W w'))
    (H3 : Hid (∀ W, Calls Tryz.prog 19 #[.agg #[.int .i64 f2, .int .i64 s2, .int .i64 r2]] W fun e w' => e = .returned (.tuple #[.int .u64 y, .bool ok2]) ∧ Below W.heap.size W w'))
    (H4 : Hid (∀ W, Calls Tryz.prog 20 #[.int .u64 (bits .xor .u64 0 (IntKind.u64.wrap (2 ^ m)))] W fun e w' => e = .returned (.tuple #[.agg #[.int .i64 g1, .int .i64 g2, .int .i64 g3], .bool inn]) ∧ Below W.heap.size W w'))
    (w : World) (HG : Hid (∀ W, Below w.heap.size w W → BegunAt W)) :
    Calls Tryz.prog 4 #[.agg #[.int .i64 f, .int .i64 s, .int .i64 r], .agg #[.int .i64 f2, .int .i64 s2, .int .i64 r2], .int .i64 b] w fun e w' => e = .returned (.bool true) ∧ Below w.heap.size w w' := by
  go_enter Tryz.func4, Tryz.ntmps4
  go_wp2_with fail
  refine Calls.mono (HG.out _ (((Below.refl _ _).alloc (Nat.le_refl _) _).alloc (by simp) _)) ?_
  rintro e w1 ⟨rfl, hb1⟩
  have B1 := Lib.hid (bl_alloc ((Below.refl _ _).alloc (Nat.le_refl _) _) hb1)
  have K1 := Lib.hid (bk_two hb1)
  have L1 := Lib.hid (bk_snd hb1)
  clear hb1
  have c0 := bk_cell K1.out 0
  have c1 := bk_cell K1.out 1
  have c2 := bk_cell K1.out 2
  go_wp2_with fail
  refine (H2.out _).mono ?_
  rintro e w2 ⟨rfl, hb2⟩
  have B2 := Lib.hid (bl_trans B1.out hb2)
  have K2 := Lib.hid (bk_below K1.out hb2)
  have L2 := Lib.hid (bk_below L1.out hb2)
  clear hb2 c0 c1 c2
  have c0 := bk_cell L2.out 0
  have c1 := bk_cell L2.out 1
  have c2 := bk_cell L2.out 2
  go_wp2_with fail
  refine (H3.out _).mono ?_
  rintro e w3 ⟨rfl, hb3⟩
  have B3 := Lib.hid (bl_trans B2.out hb3)
  have K3 := Lib.hid (bk_below K2.out hb3)
  have L3 := Lib.hid (bk_below L2.out hb3)
  clear hb3 c0 c1 c2
  have c0 := bk_cell K3.out 0
  have c1 := bk_cell K3.out 1
  have c2 := bk_cell K3.out 2
  have d0 := bk_cell L3.out 0
  have d1 := bk_cell L3.out 1
  have d2 := bk_cell L3.out 2
  go_wp2_with fail
  all_goals
    refine (H4.out _).mono ?_
    rintro e w4 ⟨rfl, hb4⟩
    have B4 := Lib.hid (bl_trans B3.out hb4)
    have K4 := Lib.hid (bk_below K3.out hb4)
    clear hb4 c0 c1 c2 d0 d1 d2
    have lt1 := bk_lt K4.out
    have c0 := bk_cell K4.out 0
    have c1 := bk_cell K4.out 1
    have c2 := bk_cell K4.out 2
    go_wp2_with fail
  all_goals (go_ret; exact ⟨rfl, B4.out.alloc B4.out.size _⟩)

set_option maxRecDepth 100000 in
set_option maxHeartbeats 2000000 in
theorem one_other_t (f s r f2 s2 r2 b g1 g2 g3 x y : Int) (m : Nat) (hm : (wrap64 (b.tmod 64 + 64)).tmod 64 = (m : Int)) (_hm2 : m < 64) (HD : Hid ¬ (g1 = f ∧ g2 = s ∧ g3 = r))
    (H2 : Hid (∀ W, Calls Tryz.prog 19 #[.agg #[.int .i64 f, .int .i64 s, .int .i64 r]] W fun e w' => e = .returned (.tuple #[.int .u64 x, .bool true]) ∧ Below W.heap.size W w'))
    (H3 : Hid (∀ W, Calls Tryz.prog 19 #[.agg #[.int .i64 f2, .int .i64 s2, .int .i64 r2]] W fun e w' => e = .returned (.tuple #[.int .u64 y, .bool false]) ∧ Below W.heap.size W w'))
    (H4 : Hid (∀ W, Calls Tryz.prog 20 #[.int .u64 (bits .xor .u64 x (IntKind.u64.wrap (2 ^ m)))] W fun e w' => e = .returned (.tuple #[.agg #[.int .i64 g1, .int .i64 g2, .int .i64 g3], .bool true]) ∧ Below W.heap.size W w'))
    (w : World) (HG : Hid (∀ W, Below w.heap.size w W → BegunAt W)) :
    Calls Tryz.prog 4 #[.agg #[.int .i64 f, .int .i64 s, .int .i64 r], .agg #[.int .i64 f2, .int .i64 s2, .int .i64 r2], .int .i64 b] w fun e w' => e = .returned (.bool true) ∧ Below w.heap.size w w' := by
  go_enter Tryz.func4, Tryz.ntmps4
  go_wp2_with fail
  refine Calls.mono (HG.out _ (((Below.refl _ _).alloc (Nat.le_refl _) _).alloc (by simp) _)) ?_
  rintro e w1 ⟨rfl, hb1⟩
  have B1 := Lib.hid (bl_alloc ((Below.refl _ _).alloc (Nat.le_refl _) _) hb1)
  have K1 := Lib.hid (bk_two hb1)
  have L1 := Lib.hid (bk_snd hb1)
  clear hb1
  have c0 := bk_cell K1.out 0
  have c1 := bk_cell K1.out 1
  have c2 := bk_cell K1.out 2
  go_wp2_with fail
  refine (H2.out _).mono ?_
  rintro e w2 ⟨rfl, hb2⟩
  have B2 := Lib.hid (bl_trans B1.out hb2)
  have K2 := Lib.hid (bk_below K1.out hb2)
  have L2 := Lib.hid (bk_below L1.out hb2)
  clear hb2 c0 c1 c2
  have c0 := bk_cell L2.out 0
  have c1 := bk_cell L2.out 1
  have c2 := bk_cell L2.out 2
  go_wp2_with fail
  refine (H3.out _).mono ?_
  rintro e w3 ⟨rfl, hb3⟩
  have B3 := Lib.hid (bl_trans B2.out hb3)
  have K3 := Lib.hid (bk_below K2.out hb3)
  have L3 := Lib.hid (bk_below L2.out hb3)
  clear hb3 c0 c1 c2
  have c0 := bk_cell K3.out 0
  have c1 := bk_cell K3.out 1
  have c2 := bk_cell K3.out 2
  have d0 := bk_cell L3.out 0
  have d1 := bk_cell L3.out 1
  have d2 := bk_cell L3.out 2
  go_wp2_with fail
  all_goals
    refine (H4.out _).mono ?_
    rintro e w4 ⟨rfl, hb4⟩
    have B4 := Lib.hid (bl_trans B3.out hb4)
    have K4 := Lib.hid (bk_below K3.out hb4)
    clear hb4 c0 c1 c2 d0 d1 d2
    have lt1 := bk_lt K4.out
    have c0 := bk_cell K4.out 0
    have c1 := bk_cell K4.out 1
    have c2 := bk_cell K4.out 2
    go_wp2_with fail
  all_goals first
    | (exfalso; exact HD.out ⟨by omega, by omega, by omega⟩)
    | (go_ret; exact ⟨rfl, B4.out.alloc B4.out.size _⟩)

set_option maxRecDepth 100000 in
set_option maxHeartbeats 2000000 in
theorem one_same_t (f s r b g1 g2 g3 x : Int) (m : Nat) (hm : (wrap64 (b.tmod 64 + 64)).tmod 64 = (m : Int)) (_hm2 : m < 64) (HD : Hid ¬ (g1 = f ∧ g2 = s ∧ g3 = r))
    (H2 : Hid (∀ W, Calls Tryz.prog 19 #[.agg #[.int .i64 f, .int .i64 s, .int .i64 r]] W fun e w' => e = .returned (.tuple #[.int .u64 x, .bool true]) ∧ Below W.heap.size W w'))
    (H3 : Hid (∀ W, Calls Tryz.prog 19 #[.agg #[.int .i64 f, .int .i64 s, .int .i64 r]] W fun e w' => e = .returned (.tuple #[.int .u64 x, .bool true]) ∧ Below W.heap.size W w'))
    (H4 : Hid (∀ W, Calls Tryz.prog 20 #[.int .u64 (bits .xor .u64 x (IntKind.u64.wrap (2 ^ m)))] W fun e w' => e = .returned (.tuple #[.agg #[.int .i64 g1, .int .i64 g2, .int .i64 g3], .bool true]) ∧ Below W.heap.size W w'))
    (w : World) (HG : Hid (∀ W, Below w.heap.size w W → BegunAt W)) :
    Calls Tryz.prog 4 #[.agg #[.int .i64 f, .int .i64 s, .int .i64 r], .agg #[.int .i64 f, .int .i64 s, .int .i64 r], .int .i64 b] w fun e w' => e = .returned (.bool true) ∧ Below w.heap.size w w' := by
  go_enter Tryz.func4, Tryz.ntmps4
  go_wp2_with fail
  refine Calls.mono (HG.out _ (((Below.refl _ _).alloc (Nat.le_refl _) _).alloc (by simp) _)) ?_
  rintro e w1 ⟨rfl, hb1⟩
  have B1 := Lib.hid (bl_alloc ((Below.refl _ _).alloc (Nat.le_refl _) _) hb1)
  have K1 := Lib.hid (bk_two hb1)
  have L1 := Lib.hid (bk_snd hb1)
  clear hb1
  have c0 := bk_cell K1.out 0
  have c1 := bk_cell K1.out 1
  have c2 := bk_cell K1.out 2
  go_wp2_with fail
  refine (H2.out _).mono ?_
  rintro e w2 ⟨rfl, hb2⟩
  have B2 := Lib.hid (bl_trans B1.out hb2)
  have K2 := Lib.hid (bk_below K1.out hb2)
  have L2 := Lib.hid (bk_below L1.out hb2)
  clear hb2 c0 c1 c2
  have c0 := bk_cell L2.out 0
  have c1 := bk_cell L2.out 1
  have c2 := bk_cell L2.out 2
  go_wp2_with fail
  refine (H3.out _).mono ?_
  rintro e w3 ⟨rfl, hb3⟩
  have B3 := Lib.hid (bl_trans B2.out hb3)
  have K3 := Lib.hid (bk_below K2.out hb3)
  have L3 := Lib.hid (bk_below L2.out hb3)
  clear hb3 c0 c1 c2
  have c0 := bk_cell K3.out 0
  have c1 := bk_cell K3.out 1
  have c2 := bk_cell K3.out 2
  have d0 := bk_cell L3.out 0
  have d1 := bk_cell L3.out 1
  have d2 := bk_cell L3.out 2
  go_wp2_with fail
  all_goals
    refine (H4.out _).mono ?_
    rintro e w4 ⟨rfl, hb4⟩
    have B4 := Lib.hid (bl_trans B3.out hb4)
    have K4 := Lib.hid (bk_below K3.out hb4)
    clear hb4 c0 c1 c2 d0 d1 d2
    have lt1 := bk_lt K4.out
    have c0 := bk_cell K4.out 0
    have c1 := bk_cell K4.out 1
    have c2 := bk_cell K4.out 2
    go_wp2_with fail
  all_goals first
    | (exfalso; exact HD.out ⟨by omega, by omega, by omega⟩)
    | (go_ret; exact ⟨rfl, B4.out.alloc B4.out.size _⟩)

set_option maxRecDepth 100000 in
set_option maxHeartbeats 2000000 in
theorem one_two_t (f s r f2 s2 r2 b g1 g2 g3 x y : Int) (m : Nat) (hm : (wrap64 (b.tmod 64 + 64)).tmod 64 = (m : Int)) (_hm2 : m < 64) (_hxy : (x == y) = false) (HN : Hid ¬ (f = f2 ∧ s = s2 ∧ r = r2)) (HD : Hid ¬ (g1 = f ∧ g2 = s ∧ g3 = r))
    (H2 : Hid (∀ W, Calls Tryz.prog 19 #[.agg #[.int .i64 f, .int .i64 s, .int .i64 r]] W fun e w' => e = .returned (.tuple #[.int .u64 x, .bool true]) ∧ Below W.heap.size W w'))
    (H3 : Hid (∀ W, Calls Tryz.prog 19 #[.agg #[.int .i64 f2, .int .i64 s2, .int .i64 r2]] W fun e w' => e = .returned (.tuple #[.int .u64 y, .bool true]) ∧ Below W.heap.size W w'))
    (H4 : Hid (∀ W, Calls Tryz.prog 20 #[.int .u64 (bits .xor .u64 x (IntKind.u64.wrap (2 ^ m)))] W fun e w' => e = .returned (.tuple #[.agg #[.int .i64 g1, .int .i64 g2, .int .i64 g3], .bool true]) ∧ Below W.heap.size W w'))
    (w : World) (HG : Hid (∀ W, Below w.heap.size w W → BegunAt W)) :
    Calls Tryz.prog 4 #[.agg #[.int .i64 f, .int .i64 s, .int .i64 r], .agg #[.int .i64 f2, .int .i64 s2, .int .i64 r2], .int .i64 b] w fun e w' => e = .returned (.bool true) ∧ Below w.heap.size w w' := by
  go_enter Tryz.func4, Tryz.ntmps4
  go_wp2_with fail
  refine Calls.mono (HG.out _ (((Below.refl _ _).alloc (Nat.le_refl _) _).alloc (by simp) _)) ?_
  rintro e w1 ⟨rfl, hb1⟩
  have B1 := Lib.hid (bl_alloc ((Below.refl _ _).alloc (Nat.le_refl _) _) hb1)
  have K1 := Lib.hid (bk_two hb1)
  have L1 := Lib.hid (bk_snd hb1)
  clear hb1
  have c0 := bk_cell K1.out 0
  have c1 := bk_cell K1.out 1
  have c2 := bk_cell K1.out 2
  go_wp2_with fail
  refine (H2.out _).mono ?_
  rintro e w2 ⟨rfl, hb2⟩
  have B2 := Lib.hid (bl_trans B1.out hb2)
  have K2 := Lib.hid (bk_below K1.out hb2)
  have L2 := Lib.hid (bk_below L1.out hb2)
  clear hb2 c0 c1 c2
  have c0 := bk_cell L2.out 0
  have c1 := bk_cell L2.out 1
  have c2 := bk_cell L2.out 2
  go_wp2_with fail
  refine (H3.out _).mono ?_
  rintro e w3 ⟨rfl, hb3⟩
  have B3 := Lib.hid (bl_trans B2.out hb3)
  have K3 := Lib.hid (bk_below K2.out hb3)
  have L3 := Lib.hid (bk_below L2.out hb3)
  clear hb3 c0 c1 c2
  have c0 := bk_cell K3.out 0
  have c1 := bk_cell K3.out 1
  have c2 := bk_cell K3.out 2
  have d0 := bk_cell L3.out 0
  have d1 := bk_cell L3.out 1
  have d2 := bk_cell L3.out 2
  go_wp2_with fail
  all_goals first
    | (exfalso; exact HN.out ⟨by assumption, by assumption, by assumption⟩)
    | skip
  all_goals
    refine (H4.out _).mono ?_
    rintro e w4 ⟨rfl, hb4⟩
    have B4 := Lib.hid (bl_trans B3.out hb4)
    have K4 := Lib.hid (bk_below K3.out hb4)
    clear hb4 c0 c1 c2 d0 d1 d2
    have lt1 := bk_lt K4.out
    have c0 := bk_cell K4.out 0
    have c1 := bk_cell K4.out 1
    have c2 := bk_cell K4.out 2
    go_wp2_with fail
  all_goals first
    | (exfalso; exact HD.out ⟨by omega, by omega, by omega⟩)
    | (go_ret; exact ⟨rfl, B4.out.alloc B4.out.size _⟩)

set_option maxRecDepth 100000 in
set_option maxHeartbeats 2000000 in
theorem one_other_f (f s r f2 s2 r2 b g1 g2 g3 x y : Int) (m : Nat) (hm : (wrap64 (b.tmod 64 + 64)).tmod 64 = (m : Int)) (_hm2 : m < 64)
    (H2 : Hid (∀ W, Calls Tryz.prog 19 #[.agg #[.int .i64 f, .int .i64 s, .int .i64 r]] W fun e w' => e = .returned (.tuple #[.int .u64 x, .bool true]) ∧ Below W.heap.size W w'))
    (H3 : Hid (∀ W, Calls Tryz.prog 19 #[.agg #[.int .i64 f2, .int .i64 s2, .int .i64 r2]] W fun e w' => e = .returned (.tuple #[.int .u64 y, .bool false]) ∧ Below W.heap.size W w'))
    (H4 : Hid (∀ W, Calls Tryz.prog 20 #[.int .u64 (bits .xor .u64 x (IntKind.u64.wrap (2 ^ m)))] W fun e w' => e = .returned (.tuple #[.agg #[.int .i64 g1, .int .i64 g2, .int .i64 g3], .bool false]) ∧ Below W.heap.size W w'))
    (w : World) (HG : Hid (∀ W, Below w.heap.size w W → BegunAt W)) :
    Calls Tryz.prog 4 #[.agg #[.int .i64 f, .int .i64 s, .int .i64 r], .agg #[.int .i64 f2, .int .i64 s2, .int .i64 r2], .int .i64 b] w fun e w' => e = .returned (.bool true) ∧ Below w.heap.size w w' := by
  go_enter Tryz.func4, Tryz.ntmps4
  go_wp2_with fail
  refine Calls.mono (HG.out _ (((Below.refl _ _).alloc (Nat.le_refl _) _).alloc (by simp) _)) ?_
  rintro e w1 ⟨rfl, hb1⟩
  have B1 := Lib.hid (bl_alloc ((Below.refl _ _).alloc (Nat.le_refl _) _) hb1)
  have K1 := Lib.hid (bk_two hb1)
  have L1 := Lib.hid (bk_snd hb1)
  clear hb1
  have c0 := bk_cell K1.out 0
  have c1 := bk_cell K1.out 1
  have c2 := bk_cell K1.out 2
  go_wp2_with fail
  refine (H2.out _).mono ?_
  rintro e w2 ⟨rfl, hb2⟩
  have B2 := Lib.hid (bl_trans B1.out hb2)
  have K2 := Lib.hid (bk_below K1.out hb2)
  have L2 := Lib.hid (bk_below L1.out hb2)
  clear hb2 c0 c1 c2
  have c0 := bk_cell L2.out 0
  have c1 := bk_cell L2.out 1
  have c2 := bk_cell L2.out 2
  go_wp2_with fail
  refine (H3.out _).mono ?_
  rintro e w3 ⟨rfl, hb3⟩
  have B3 := Lib.hid (bl_trans B2.out hb3)
  have K3 := Lib.hid (bk_below K2.out hb3)
  have L3 := Lib.hid (bk_below L2.out hb3)
  clear hb3 c0 c1 c2
  have c0 := bk_cell K3.out 0
  have c1 := bk_cell K3.out 1
  have c2 := bk_cell K3.out 2
  have d0 := bk_cell L3.out 0
  have d1 := bk_cell L3.out 1
  have d2 := bk_cell L3.out 2
  go_wp2_with fail
  all_goals
    refine (H4.out _).mono ?_
    rintro e w4 ⟨rfl, hb4⟩
    have B4 := Lib.hid (bl_trans B3.out hb4)
    have K4 := Lib.hid (bk_below K3.out hb4)
    clear hb4 c0 c1 c2 d0 d1 d2
    have lt1 := bk_lt K4.out
    have c0 := bk_cell K4.out 0
    have c1 := bk_cell K4.out 1
    have c2 := bk_cell K4.out 2
    go_wp2_with fail
  all_goals (go_ret; exact ⟨rfl, B4.out.alloc B4.out.size _⟩)

set_option maxRecDepth 100000 in
set_option maxHeartbeats 2000000 in
theorem one_same_f (f s r b g1 g2 g3 x : Int) (m : Nat) (hm : (wrap64 (b.tmod 64 + 64)).tmod 64 = (m : Int)) (_hm2 : m < 64)
    (H2 : Hid (∀ W, Calls Tryz.prog 19 #[.agg #[.int .i64 f, .int .i64 s, .int .i64 r]] W fun e w' => e = .returned (.tuple #[.int .u64 x, .bool true]) ∧ Below W.heap.size W w'))
    (H3 : Hid (∀ W, Calls Tryz.prog 19 #[.agg #[.int .i64 f, .int .i64 s, .int .i64 r]] W fun e w' => e = .returned (.tuple #[.int .u64 x, .bool true]) ∧ Below W.heap.size W w'))
    (H4 : Hid (∀ W, Calls Tryz.prog 20 #[.int .u64 (bits .xor .u64 x (IntKind.u64.wrap (2 ^ m)))] W fun e w' => e = .returned (.tuple #[.agg #[.int .i64 g1, .int .i64 g2, .int .i64 g3], .bool false]) ∧ Below W.heap.size W w'))
    (w : World) (HG : Hid (∀ W, Below w.heap.size w W → BegunAt W)) :
    Calls Tryz.prog 4 #[.agg #[.int .i64 f, .int .i64 s, .int .i64 r], .agg #[.int .i64 f, .int .i64 s, .int .i64 r], .int .i64 b] w fun e w' => e = .returned (.bool true) ∧ Below w.heap.size w w' := by
  go_enter Tryz.func4, Tryz.ntmps4
  go_wp2_with fail
  refine Calls.mono (HG.out _ (((Below.refl _ _).alloc (Nat.le_refl _) _).alloc (by simp) _)) ?_
  rintro e w1 ⟨rfl, hb1⟩
  have B1 := Lib.hid (bl_alloc ((Below.refl _ _).alloc (Nat.le_refl _) _) hb1)
  have K1 := Lib.hid (bk_two hb1)
  have L1 := Lib.hid (bk_snd hb1)
  clear hb1
  have c0 := bk_cell K1.out 0
  have c1 := bk_cell K1.out 1
  have c2 := bk_cell K1.out 2
  go_wp2_with fail
  refine (H2.out _).mono ?_
  rintro e w2 ⟨rfl, hb2⟩
  have B2 := Lib.hid (bl_trans B1.out hb2)
  have K2 := Lib.hid (bk_below K1.out hb2)
  have L2 := Lib.hid (bk_below L1.out hb2)
  clear hb2 c0 c1 c2
  have c0 := bk_cell L2.out 0
  have c1 := bk_cell L2.out 1
  have c2 := bk_cell L2.out 2
  go_wp2_with fail
  refine (H3.out _).mono ?_
  rintro e w3 ⟨rfl, hb3⟩
  have B3 := Lib.hid (bl_trans B2.out hb3)
  have K3 := Lib.hid (bk_below K2.out hb3)
  have L3 := Lib.hid (bk_below L2.out hb3)
  clear hb3 c0 c1 c2
  have c0 := bk_cell K3.out 0
  have c1 := bk_cell K3.out 1
  have c2 := bk_cell K3.out 2
  have d0 := bk_cell L3.out 0
  have d1 := bk_cell L3.out 1
  have d2 := bk_cell L3.out 2
  go_wp2_with fail
  all_goals
    refine (H4.out _).mono ?_
    rintro e w4 ⟨rfl, hb4⟩
    have B4 := Lib.hid (bl_trans B3.out hb4)
    have K4 := Lib.hid (bk_below K3.out hb4)
    clear hb4 c0 c1 c2 d0 d1 d2
    have lt1 := bk_lt K4.out
    have c0 := bk_cell K4.out 0
    have c1 := bk_cell K4.out 1
    have c2 := bk_cell K4.out 2
    go_wp2_with fail
  all_goals (go_ret; exact ⟨rfl, B4.out.alloc B4.out.size _⟩)

set_option maxRecDepth 100000 in
set_option maxHeartbeats 2000000 in
theorem one_two_f (f s r f2 s2 r2 b g1 g2 g3 x y : Int) (m : Nat) (hm : (wrap64 (b.tmod 64 + 64)).tmod 64 = (m : Int)) (_hm2 : m < 64) (_hxy : (x == y) = false) (HN : Hid ¬ (f = f2 ∧ s = s2 ∧ r = r2))
    (H2 : Hid (∀ W, Calls Tryz.prog 19 #[.agg #[.int .i64 f, .int .i64 s, .int .i64 r]] W fun e w' => e = .returned (.tuple #[.int .u64 x, .bool true]) ∧ Below W.heap.size W w'))
    (H3 : Hid (∀ W, Calls Tryz.prog 19 #[.agg #[.int .i64 f2, .int .i64 s2, .int .i64 r2]] W fun e w' => e = .returned (.tuple #[.int .u64 y, .bool true]) ∧ Below W.heap.size W w'))
    (H4 : Hid (∀ W, Calls Tryz.prog 20 #[.int .u64 (bits .xor .u64 x (IntKind.u64.wrap (2 ^ m)))] W fun e w' => e = .returned (.tuple #[.agg #[.int .i64 g1, .int .i64 g2, .int .i64 g3], .bool false]) ∧ Below W.heap.size W w'))
    (w : World) (HG : Hid (∀ W, Below w.heap.size w W → BegunAt W)) :
    Calls Tryz.prog 4 #[.agg #[.int .i64 f, .int .i64 s, .int .i64 r], .agg #[.int .i64 f2, .int .i64 s2, .int .i64 r2], .int .i64 b] w fun e w' => e = .returned (.bool true) ∧ Below w.heap.size w w' := by
  go_enter Tryz.func4, Tryz.ntmps4
  go_wp2_with fail
  refine Calls.mono (HG.out _ (((Below.refl _ _).alloc (Nat.le_refl _) _).alloc (by simp) _)) ?_
  rintro e w1 ⟨rfl, hb1⟩
  have B1 := Lib.hid (bl_alloc ((Below.refl _ _).alloc (Nat.le_refl _) _) hb1)
  have K1 := Lib.hid (bk_two hb1)
  have L1 := Lib.hid (bk_snd hb1)
  clear hb1
  have c0 := bk_cell K1.out 0
  have c1 := bk_cell K1.out 1
  have c2 := bk_cell K1.out 2
  go_wp2_with fail
  refine (H2.out _).mono ?_
  rintro e w2 ⟨rfl, hb2⟩
  have B2 := Lib.hid (bl_trans B1.out hb2)
  have K2 := Lib.hid (bk_below K1.out hb2)
  have L2 := Lib.hid (bk_below L1.out hb2)
  clear hb2 c0 c1 c2
  have c0 := bk_cell L2.out 0
  have c1 := bk_cell L2.out 1
  have c2 := bk_cell L2.out 2
  go_wp2_with fail
  refine (H3.out _).mono ?_
  rintro e w3 ⟨rfl, hb3⟩
  have B3 := Lib.hid (bl_trans B2.out hb3)
  have K3 := Lib.hid (bk_below K2.out hb3)
  have L3 := Lib.hid (bk_below L2.out hb3)
  clear hb3 c0 c1 c2
  have c0 := bk_cell K3.out 0
  have c1 := bk_cell K3.out 1
  have c2 := bk_cell K3.out 2
  have d0 := bk_cell L3.out 0
  have d1 := bk_cell L3.out 1
  have d2 := bk_cell L3.out 2
  go_wp2_with fail
  all_goals first
    | (exfalso; exact HN.out ⟨by assumption, by assumption, by assumption⟩)
    | skip
  all_goals
    refine (H4.out _).mono ?_
    rintro e w4 ⟨rfl, hb4⟩
    have B4 := Lib.hid (bl_trans B3.out hb4)
    have K4 := Lib.hid (bk_below K3.out hb4)
    clear hb4 c0 c1 c2 d0 d1 d2
    have lt1 := bk_lt K4.out
    have c0 := bk_cell K4.out 0
    have c1 := bk_cell K4.out 1
    have c2 := bk_cell K4.out 2
    go_wp2_with fail
  all_goals (go_ret; exact ⟨rfl, B4.out.alloc B4.out.size _⟩)
theorem xor_range (x : Int) (m : Nat) (h0 : 0 ≤ x) (h1 : x < 18446744073709551616) (hm : m < 64) :
    0 ≤ bits .xor .u64 x (IntKind.u64.wrap (2 ^ m)) ∧ bits .xor .u64 x (IntKind.u64.wrap (2 ^ m)) < 18446744073709551616 ∧ bits .xor .u64 x (IntKind.u64.wrap (2 ^ m)) ≠ x := by
  have hb : (2 : Int) ^ m = ((2 ^ m : Nat) : Int) := by simp
  have hp : 2 ^ m < 2 ^ 64 := Nat.pow_lt_pow_right (by omega) hm
  have hp0 : 0 < 2 ^ m := Nat.two_pow_pos m
  obtain ⟨n, rfl⟩ : ∃ n : Nat, x = (n : Int) := ⟨x.toNat, by omega⟩
  rw [u64_bit m hm, hb, u64_xor_nat n (2 ^ m) (by omega) (by omega)]
  have hlt : n ^^^ 2 ^ m < 2 ^ 64 := Nat.xor_lt_two_pow (by omega) (by omega)
  refine ⟨by omega, by omega, fun h => ?_⟩
  have h2 : n ^^^ 2 ^ m = n := Int.ofNat.inj h
  have h3 : n ^^^ (n ^^^ 2 ^ m) = n ^^^ n := by rw [h2]
  rw [← Nat.xor_assoc, Nat.xor_self, Nat.zero_xor] at h3
  omega

/-- The word of a turned bit isn't that entry's. -/
theorem not_back {f s r y : Int} (hy : y ≠ putW f s r) (h : okB y = true) : ¬ (gF y = f ∧ gS y = s ∧ gR y = r) := by
  rintro ⟨e1, e2, e3⟩
  have h1 := (get_ok h).2
  unfold gF at e1
  unfold gS at e2
  unfold gR at e3
  rw [if_pos h] at e1 e2 e3
  rw [e1, e2, e3] at h1
  exact hy h1.symm

theorem putW_inj {f s r f2 s2 r2 : Int} (h : putB f s r = true) (h2 : putB f2 s2 r2 = true) (e : putW f s r = putW f2 s2 r2) : f = f2 ∧ s = s2 ∧ r = r2 := by
  obtain ⟨_, a1, a2, a3⟩ := put_back h
  obtain ⟨_, b1, b2, b3⟩ := put_back h2
  rw [e] at a1 a2 a3
  exact ⟨a1.symm.trans b1, a2.symm.trans b2, a3.symm.trans b3⟩

theorem pteOne_walk (f s r f2 s2 r2 b : Int) (w : World) (hbeg : ∀ W, Below w.heap.size w W → BegunAt W) :
    Calls Tryz.prog 4 #[.agg #[.int .i64 f, .int .i64 s, .int .i64 r], .agg #[.int .i64 f2, .int .i64 s2, .int .i64 r2], .int .i64 b] w fun e w' => e = .returned (.bool true) ∧ Below w.heap.size w w' := by
  obtain ⟨m, hm, hm2⟩ := pmod b 64 (by omega) (by omega)
  have hm : (wrap64 (b.tmod 64 + 64)).tmod 64 = (m : Int) := hm
  have HG : Hid (∀ W, Below w.heap.size w W → BegunAt W) := hbeg
  have hr := putW_range f s r
  obtain ⟨y0, y1, y2⟩ := xor_range (putW f s r) m hr.1 hr.2 hm2
  have H4 := fun W => Get_any (bits .xor .u64 (putW f s r) (IntKind.u64.wrap (2 ^ m))) y0 y1 W
  have H2 := fun W => put_any f s r W
  have H3 := fun W => put_any f2 s2 r2 W
  rcases Bool.eq_false_or_eq_true (putB f s r) with hp | hp
  · rw [hp] at H2
    rcases Bool.eq_false_or_eq_true (okB (bits .xor .u64 (putW f s r) (IntKind.u64.wrap (2 ^ m)))) with hi | hi
    · have HD := not_back y2 hi
      rw [hi] at H4
      rcases Bool.eq_false_or_eq_true (putB f2 s2 r2) with hq | hq
      · rw [hq] at H3
        by_cases he : f = f2 ∧ s = s2 ∧ r = r2
        · obtain ⟨rfl, rfl, rfl⟩ := he
          exact one_same_t _ _ _ _ _ _ _ _ m hm hm2 HD H2 H3 H4 w HG
        · exact one_two_t _ _ _ _ _ _ _ _ _ _ _ _ m hm hm2 (beq_eq_false_iff_ne.2 fun e => he (putW_inj hp hq e)) he HD H2 H3 H4 w HG
      · rw [hq] at H3
        exact one_other_t _ _ _ _ _ _ _ _ _ _ _ _ m hm hm2 HD H2 H3 H4 w HG
    · rw [hi] at H4
      rcases Bool.eq_false_or_eq_true (putB f2 s2 r2) with hq | hq
      · rw [hq] at H3
        by_cases he : f = f2 ∧ s = s2 ∧ r = r2
        · obtain ⟨rfl, rfl, rfl⟩ := he
          exact one_same_f _ _ _ _ _ _ _ _ m hm hm2 H2 H3 H4 w HG
        · exact one_two_f _ _ _ _ _ _ _ _ _ _ _ _ m hm hm2 (beq_eq_false_iff_ne.2 fun e => he (putW_inj hp hq e)) he H2 H3 H4 w HG
      · rw [hq] at H3
        exact one_other_f _ _ _ _ _ _ _ _ _ _ _ _ m hm hm2 H2 H3 H4 w HG
  · have hw : putW f s r = 0 := by simp [putW, hp]
    rw [hp] at H2
    rw [hw] at H2 H4
    exact one_no _ _ _ _ _ _ _ _ _ _ _ _ _ m hm hm2 H2 H3 H4 w HG
end Go.Proofs.YtfpnpgpelncgeabGreatDoor
