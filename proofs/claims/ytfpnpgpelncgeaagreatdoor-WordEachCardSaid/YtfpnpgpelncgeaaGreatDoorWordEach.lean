/- What is proved here: the walk of the statement WordEach: it answers true and leaves the memory that was there as it was. Conditions: the statements' beginning does so in every later world; the numbers are of their types. -/
import Derived.Test.YtfpnpgpelncgeaaGreatDoorWordRef
import Derived.Test.YtfpnpgpelncgeaaGreatDoorGParts
namespace Go.Proofs.YtfpnpgpelncgeaaGreatDoor
open Go.RowKit Go.Extern.Stop Go.Stop Go.Extern

theorem bk_set {w : World} {b : Nat} {cs : Array Value} {t : TypeId} (h : w.heap[b]? = some (.cells cs t (0, 0))) (i : Nat) (u : Value) : (w.setCell ⟨b, i, none⟩ u).heap[b]? = some (.cells (cs.setIfInBounds i u) t (0, 0)) := by
  simp [World.setCell, Array.getElem?_modify, h]

set_option maxRecDepth 100000 in
set_option maxHeartbeats 4000000 in
theorem weach_k (x0 y x1 x2 x3 x4 : Int) (h1 : 1 ≤ x0) (h2 : x0 ≤ 10) (hw : wordsIn x0 x1 x2 x3 x4) (w : World) (HG : Hid (∀ W, Below w.heap.size w W → BegunAt W)) :
    Calls Tryz.prog 10 #[.int .u64 x0, callV y x1 x2 x3 x4] w fun e w' => e = .returned (.bool true) ∧ Below w.heap.size w w' := by
  have hk : isKind x0 = true := by simp only [isKind, decide_eq_true_eq]; omega
  have HK : Hid (∀ W, Calls Tryz.prog 16 #[callV x0 x1 x2 x3 x4] W fun e w' => e = .returned (.tuple #[.int .i64 x0, .bool true]) ∧ Below W.heap.size W w') := fun W => by
    have H := Kind_any x0 x1 x2 x3 x4 hw.1.1 hw.1.2 W
    have en : kindN x0 = x0 := by simp [kindN, hk]
    rw [en, hk] at H
    exact H
  have HU : Hid (∀ W, Calls Tryz.prog 22 #[.int .i64 x0] W fun e w' => e = .returned (.bool false) ∧ W = w') := fun W => by
    have H := user_any x0 W
    have en : userB x0 = false := by unfold userB; simp; omega
    rw [en] at H
    exact H
  have p0 := hw.1.1
  have p1 := hw.1.2
  clear hk hw
  go_enter Tryz.func10, Tryz.ntmps10
  go_wp2_with fail
  refine Calls.mono (HG.out _ ((Below.refl _ _).alloc (Nat.le_refl _) _)) ?_
  rintro e w1 ⟨rfl, hb1⟩
  have B1 := Lib.hid (bl_alloc (Below.refl _ _) hb1)
  have K1 := Lib.hid (bk_one hb1)
  clear hb1
  have lt1 := bk_lt K1.out
  have c0 := bk_cell K1.out 0
  have c1 := bk_cell K1.out 1
  have c2 := bk_cell K1.out 2
  have c3 := bk_cell K1.out 3
  have c4 := bk_cell K1.out 4
  have f0 := bk_free K1.out 0
  go_wp2_with fail
  refine (HK.out _).mono ?_
  rintro e w2 ⟨rfl, hb2⟩
  have B2 := Lib.hid (bl_trans (B1.out.setCell (by simp) _) hb2)
  have K2 := Lib.hid (bk_below (bk_set K1.out 0 _) hb2)
  clear hb2 c0 c1 c2 c3 c4 f0
  have lt2 := bk_lt K2.out
  have c0 := bk_cell K2.out 0
  have c1 := bk_cell K2.out 1
  have c2 := bk_cell K2.out 2
  have c3 := bk_cell K2.out 3
  have c4 := bk_cell K2.out 4
  simp only [Array.setIfInBounds] at c0 c1 c2 c3 c4
  go_wp2_with fail
  refine (HU.out _).mono ?_
  rintro e w' ⟨rfl, rfl⟩
  go_wp2_with fail
  go_ret
  exact ⟨rfl, B2.out⟩

set_option maxRecDepth 100000 in
set_option maxHeartbeats 4000000 in
theorem weach_u (x0 y x1 x2 x3 x4 : Int) (h1 : 20 ≤ x0) (h2 : x0 ≤ 23) (hw : wordsIn x0 x1 x2 x3 x4) (w : World) (HG : Hid (∀ W, Below w.heap.size w W → BegunAt W)) :
    Calls Tryz.prog 10 #[.int .u64 x0, callV y x1 x2 x3 x4] w fun e w' => e = .returned (.bool true) ∧ Below w.heap.size w w' := by
  have hk : isKind x0 = true := by simp only [isKind, decide_eq_true_eq]; omega
  have HK : Hid (∀ W, Calls Tryz.prog 16 #[callV x0 x1 x2 x3 x4] W fun e w' => e = .returned (.tuple #[.int .i64 x0, .bool true]) ∧ Below W.heap.size W w') := fun W => by
    have H := Kind_any x0 x1 x2 x3 x4 hw.1.1 hw.1.2 W
    have en : kindN x0 = x0 := by simp [kindN, hk]
    rw [en, hk] at H
    exact H
  have HU : Hid (∀ W, Calls Tryz.prog 22 #[.int .i64 x0] W fun e w' => e = .returned (.bool true) ∧ W = w') := fun W => by
    have H := user_any x0 W
    have en : userB x0 = true := by unfold userB; simp; omega
    rw [en] at H
    exact H
  have p0 := hw.1.1
  have p1 := hw.1.2
  have g1 : 1 ≤ x0 := by omega
  have g2 : 10 < x0 := by omega
  clear hk hw
  go_enter Tryz.func10, Tryz.ntmps10
  go_wp2_with fail
  refine Calls.mono (HG.out _ ((Below.refl _ _).alloc (Nat.le_refl _) _)) ?_
  rintro e w1 ⟨rfl, hb1⟩
  have B1 := Lib.hid (bl_alloc (Below.refl _ _) hb1)
  have K1 := Lib.hid (bk_one hb1)
  clear hb1
  have lt1 := bk_lt K1.out
  have c0 := bk_cell K1.out 0
  have c1 := bk_cell K1.out 1
  have c2 := bk_cell K1.out 2
  have c3 := bk_cell K1.out 3
  have c4 := bk_cell K1.out 4
  have f0 := bk_free K1.out 0
  go_wp2_with fail
  refine (HK.out _).mono ?_
  rintro e w2 ⟨rfl, hb2⟩
  have B2 := Lib.hid (bl_trans (B1.out.setCell (by simp) _) hb2)
  have K2 := Lib.hid (bk_below (bk_set K1.out 0 _) hb2)
  clear hb2 c0 c1 c2 c3 c4 f0
  have lt2 := bk_lt K2.out
  have c0 := bk_cell K2.out 0
  have c1 := bk_cell K2.out 1
  have c2 := bk_cell K2.out 2
  have c3 := bk_cell K2.out 3
  have c4 := bk_cell K2.out 4
  simp only [Array.setIfInBounds] at c0 c1 c2 c3 c4
  go_wp2_with fail
  refine (HU.out _).mono ?_
  rintro e w' ⟨rfl, rfl⟩
  go_wp2_with fail
  go_ret
  exact ⟨rfl, B2.out⟩

set_option maxRecDepth 100000 in
set_option maxHeartbeats 4000000 in
theorem weach_0 (x0 y x1 x2 x3 x4 : Int) (h1 : x0 < 1) (hw : wordsIn x0 x1 x2 x3 x4) (w : World) (HG : Hid (∀ W, Below w.heap.size w W → BegunAt W)) :
    Calls Tryz.prog 10 #[.int .u64 x0, callV y x1 x2 x3 x4] w fun e w' => e = .returned (.bool true) ∧ Below w.heap.size w w' := by
  have hk : isKind x0 = false := by simp only [isKind, decide_eq_false_iff_not]; omega
  have HK : Hid (∀ W, Calls Tryz.prog 16 #[callV x0 x1 x2 x3 x4] W fun e w' => e = .returned (.tuple #[.int .i64 0, .bool false]) ∧ Below W.heap.size W w') := fun W => by
    have H := Kind_any x0 x1 x2 x3 x4 hw.1.1 hw.1.2 W
    have en : kindN x0 = 0 := by simp [kindN, hk]
    rw [en, hk] at H
    exact H
  have HC : Hid (∀ W, Calls Tryz.prog 24 #[callV x0 x1 x2 x3 x4, .int .i64 4] W fun e w' => e = .returned (.int .i64 1) ∧ Below W.heap.size W w') := fun W => Check_no x0 x1 x2 x3 x4 4 hk hw W
  have HU : Hid (∀ W, Calls Tryz.prog 22 #[.int .i64 0] W fun e w' => e = .returned (.bool false) ∧ W = w') := fun W => by
    have H := user_any 0 W
    have en : userB 0 = false := rfl
    rw [en] at H
    exact H
  have p0 := hw.1.1
  have p1 := hw.1.2
  clear hk hw
  go_enter Tryz.func10, Tryz.ntmps10
  go_wp2_with fail
  refine Calls.mono (HG.out _ ((Below.refl _ _).alloc (Nat.le_refl _) _)) ?_
  rintro e w1 ⟨rfl, hb1⟩
  have B1 := Lib.hid (bl_alloc (Below.refl _ _) hb1)
  have K1 := Lib.hid (bk_one hb1)
  clear hb1
  have lt1 := bk_lt K1.out
  have c0 := bk_cell K1.out 0
  have c1 := bk_cell K1.out 1
  have c2 := bk_cell K1.out 2
  have c3 := bk_cell K1.out 3
  have c4 := bk_cell K1.out 4
  have f0 := bk_free K1.out 0
  go_wp2_with fail
  refine (HK.out _).mono ?_
  rintro e w2 ⟨rfl, hb2⟩
  have B2 := Lib.hid (bl_trans (B1.out.setCell (by simp) _) hb2)
  have K2 := Lib.hid (bk_below (bk_set K1.out 0 _) hb2)
  clear hb2 c0 c1 c2 c3 c4 f0
  have lt2 := bk_lt K2.out
  have c0 := bk_cell K2.out 0
  have c1 := bk_cell K2.out 1
  have c2 := bk_cell K2.out 2
  have c3 := bk_cell K2.out 3
  have c4 := bk_cell K2.out 4
  simp only [Array.setIfInBounds] at c0 c1 c2 c3 c4
  go_wp2_with fail
  refine (HC.out _).mono ?_
  rintro e w3 ⟨rfl, hb3⟩
  have B3 := Lib.hid (bl_trans B2.out hb3)
  clear hb3
  go_wp2_with fail
  refine (HU.out _).mono ?_
  rintro e w' ⟨rfl, rfl⟩
  go_wp2_with fail
  go_ret
  exact ⟨rfl, B3.out⟩

set_option maxRecDepth 100000 in
set_option maxHeartbeats 4000000 in
theorem weach_m (x0 y x1 x2 x3 x4 : Int) (h1 : 10 < x0) (h2 : x0 < 20) (hw : wordsIn x0 x1 x2 x3 x4) (w : World) (HG : Hid (∀ W, Below w.heap.size w W → BegunAt W)) :
    Calls Tryz.prog 10 #[.int .u64 x0, callV y x1 x2 x3 x4] w fun e w' => e = .returned (.bool true) ∧ Below w.heap.size w w' := by
  have hk : isKind x0 = false := by simp only [isKind, decide_eq_false_iff_not]; omega
  have HK : Hid (∀ W, Calls Tryz.prog 16 #[callV x0 x1 x2 x3 x4] W fun e w' => e = .returned (.tuple #[.int .i64 0, .bool false]) ∧ Below W.heap.size W w') := fun W => by
    have H := Kind_any x0 x1 x2 x3 x4 hw.1.1 hw.1.2 W
    have en : kindN x0 = 0 := by simp [kindN, hk]
    rw [en, hk] at H
    exact H
  have HC : Hid (∀ W, Calls Tryz.prog 24 #[callV x0 x1 x2 x3 x4, .int .i64 4] W fun e w' => e = .returned (.int .i64 1) ∧ Below W.heap.size W w') := fun W => Check_no x0 x1 x2 x3 x4 4 hk hw W
  have HU : Hid (∀ W, Calls Tryz.prog 22 #[.int .i64 0] W fun e w' => e = .returned (.bool false) ∧ W = w') := fun W => by
    have H := user_any 0 W
    have en : userB 0 = false := rfl
    rw [en] at H
    exact H
  have p0 := hw.1.1
  have p1 := hw.1.2
  have g1 : 1 ≤ x0 := by omega
  have d1 : decide (x0 ≤ 10) = false := decide_eq_false (by omega)
  clear hk hw
  go_enter Tryz.func10, Tryz.ntmps10
  go_wp2_with fail
  refine Calls.mono (HG.out _ ((Below.refl _ _).alloc (Nat.le_refl _) _)) ?_
  rintro e w1 ⟨rfl, hb1⟩
  have B1 := Lib.hid (bl_alloc (Below.refl _ _) hb1)
  have K1 := Lib.hid (bk_one hb1)
  clear hb1
  have lt1 := bk_lt K1.out
  have c0 := bk_cell K1.out 0
  have c1 := bk_cell K1.out 1
  have c2 := bk_cell K1.out 2
  have c3 := bk_cell K1.out 3
  have c4 := bk_cell K1.out 4
  have f0 := bk_free K1.out 0
  go_wp2_with fail
  refine (HK.out _).mono ?_
  rintro e w2 ⟨rfl, hb2⟩
  have B2 := Lib.hid (bl_trans (B1.out.setCell (by simp) _) hb2)
  have K2 := Lib.hid (bk_below (bk_set K1.out 0 _) hb2)
  clear hb2 c0 c1 c2 c3 c4 f0
  have lt2 := bk_lt K2.out
  have c0 := bk_cell K2.out 0
  have c1 := bk_cell K2.out 1
  have c2 := bk_cell K2.out 2
  have c3 := bk_cell K2.out 3
  have c4 := bk_cell K2.out 4
  simp only [Array.setIfInBounds] at c0 c1 c2 c3 c4
  go_wp2_with fail
  refine (HC.out _).mono ?_
  rintro e w3 ⟨rfl, hb3⟩
  have B3 := Lib.hid (bl_trans B2.out hb3)
  clear hb3
  go_wp2_with fail
  refine (HU.out _).mono ?_
  rintro e w' ⟨rfl, rfl⟩
  go_wp2_with fail
  go_ret
  exact ⟨rfl, B3.out⟩

set_option maxRecDepth 100000 in
set_option maxHeartbeats 4000000 in
theorem weach_h (x0 y x1 x2 x3 x4 : Int) (h1 : 23 < x0) (hw : wordsIn x0 x1 x2 x3 x4) (w : World) (HG : Hid (∀ W, Below w.heap.size w W → BegunAt W)) :
    Calls Tryz.prog 10 #[.int .u64 x0, callV y x1 x2 x3 x4] w fun e w' => e = .returned (.bool true) ∧ Below w.heap.size w w' := by
  have hk : isKind x0 = false := by simp only [isKind, decide_eq_false_iff_not]; omega
  have HK : Hid (∀ W, Calls Tryz.prog 16 #[callV x0 x1 x2 x3 x4] W fun e w' => e = .returned (.tuple #[.int .i64 0, .bool false]) ∧ Below W.heap.size W w') := fun W => by
    have H := Kind_any x0 x1 x2 x3 x4 hw.1.1 hw.1.2 W
    have en : kindN x0 = 0 := by simp [kindN, hk]
    rw [en, hk] at H
    exact H
  have HC : Hid (∀ W, Calls Tryz.prog 24 #[callV x0 x1 x2 x3 x4, .int .i64 4] W fun e w' => e = .returned (.int .i64 1) ∧ Below W.heap.size W w') := fun W => Check_no x0 x1 x2 x3 x4 4 hk hw W
  have HU : Hid (∀ W, Calls Tryz.prog 22 #[.int .i64 0] W fun e w' => e = .returned (.bool false) ∧ W = w') := fun W => by
    have H := user_any 0 W
    have en : userB 0 = false := rfl
    rw [en] at H
    exact H
  have p0 := hw.1.1
  have p1 := hw.1.2
  have g1 : 1 ≤ x0 := by omega
  have g2 : 10 < x0 := by omega
  have g3 : 20 ≤ x0 := by omega
  have d1 : decide (x0 ≤ 10) = false := decide_eq_false (by omega)
  have d2 : decide (x0 ≤ 23) = false := decide_eq_false (by omega)
  clear hk hw
  go_enter Tryz.func10, Tryz.ntmps10
  go_wp2_with fail
  refine Calls.mono (HG.out _ ((Below.refl _ _).alloc (Nat.le_refl _) _)) ?_
  rintro e w1 ⟨rfl, hb1⟩
  have B1 := Lib.hid (bl_alloc (Below.refl _ _) hb1)
  have K1 := Lib.hid (bk_one hb1)
  clear hb1
  have lt1 := bk_lt K1.out
  have c0 := bk_cell K1.out 0
  have c1 := bk_cell K1.out 1
  have c2 := bk_cell K1.out 2
  have c3 := bk_cell K1.out 3
  have c4 := bk_cell K1.out 4
  have f0 := bk_free K1.out 0
  go_wp2_with fail
  refine (HK.out _).mono ?_
  rintro e w2 ⟨rfl, hb2⟩
  have B2 := Lib.hid (bl_trans (B1.out.setCell (by simp) _) hb2)
  have K2 := Lib.hid (bk_below (bk_set K1.out 0 _) hb2)
  clear hb2 c0 c1 c2 c3 c4 f0
  have lt2 := bk_lt K2.out
  have c0 := bk_cell K2.out 0
  have c1 := bk_cell K2.out 1
  have c2 := bk_cell K2.out 2
  have c3 := bk_cell K2.out 3
  have c4 := bk_cell K2.out 4
  simp only [Array.setIfInBounds] at c0 c1 c2 c3 c4
  go_wp2_with fail
  refine (HC.out _).mono ?_
  rintro e w3 ⟨rfl, hb3⟩
  have B3 := Lib.hid (bl_trans B2.out hb3)
  clear hb3
  go_wp2_with fail
  refine (HU.out _).mono ?_
  rintro e w' ⟨rfl, rfl⟩
  go_wp2_with fail
  go_ret
  exact ⟨rfl, B3.out⟩

theorem wordEach_walk (x0 y x1 x2 x3 x4 : Int) (hw : wordsIn x0 x1 x2 x3 x4) (w : World) (hbeg : ∀ W, Below w.heap.size w W → BegunAt W) :
    Calls Tryz.prog 10 #[.int .u64 x0, callV y x1 x2 x3 x4] w fun e w' => e = .returned (.bool true) ∧ Below w.heap.size w w' := by
  have HG : Hid (∀ W, Below w.heap.size w W → BegunAt W) := hbeg
  by_cases h1 : x0 < 1
  · exact weach_0 x0 y x1 x2 x3 x4 h1 hw w HG
  by_cases h2 : x0 ≤ 10
  · exact weach_k x0 y x1 x2 x3 x4 (by omega) h2 hw w HG
  by_cases h3 : x0 < 20
  · exact weach_m x0 y x1 x2 x3 x4 (by omega) h3 hw w HG
  by_cases h4 : x0 ≤ 23
  · exact weach_u x0 y x1 x2 x3 x4 (by omega) h4 hw w HG
  · exact weach_h x0 y x1 x2 x3 x4 (by omega) hw w HG
end Go.Proofs.YtfpnpgpelncgeaaGreatDoor
