/- What is proved here: the walk of the statement WordOrder: it answers true and leaves the memory that was there as it was. Conditions: the statements' beginning does so in every later world; the numbers are of their types. -/
import Derived.Test.YtfpnpgpelncgeaaGreatDoorWordRef
import Derived.Test.YtfpnpgpelncgeaaGreatDoorGParts
import Derived.Deep.RegionHeld3
namespace Go.Proofs.YtfpnpgpelncgeaaGreatDoor
open Go.RowKit Go.Extern.Stop Go.Stop Go.Extern

theorem mayW_mono {m x lo hi : Int} (h : lo ≤ hi) (hm : mayW m x lo = true) : mayW m x hi = true := by
  unfold mayW at hm ⊢
  by_cases h1 : m = 1 ∨ m = 2
  · simpa only [if_pos h1] using hm
  by_cases h3 : m = 3
  · simpa only [if_neg h1, if_pos h3] using hm
  by_cases h4 : m = 4
  · simp only [if_neg h1, if_neg h3, if_pos h4, belowB, decide_eq_true_eq] at hm ⊢
    omega
  · simpa only [if_neg h1, if_neg h3, if_neg h4] using hm
/-- What two answers of the same words may be, the environments being no fewer. -/
theorem chk_mono (x0 x1 x2 x3 x4 lo hi : Int) (h : lo ≤ hi) :
    (chkN x0 x1 x2 x3 x4 lo = 1 ∧ chkN x0 x1 x2 x3 x4 hi = 1) ∨ (chkN x0 x1 x2 x3 x4 lo = 0 ∧ chkN x0 x1 x2 x3 x4 hi = 0) ∨ (chkN x0 x1 x2 x3 x4 lo = 2 ∧ chkN x0 x1 x2 x3 x4 hi = 0) ∨ (chkN x0 x1 x2 x3 x4 lo = 2 ∧ chkN x0 x1 x2 x3 x4 hi = 2) := by
  unfold chkN
  by_cases hk : isKind x0 = true
  · rw [if_pos hk, if_pos hk]
    unfold res4
    rw [pre_4, pre_4]
    have e : ∀ j x, mayW (mean x0 j) x lo = true → mayW (mean x0 j) x hi = true := fun j x => mayW_mono h
    by_cases hl : (mayW (mean x0 0) x1 lo && mayW (mean x0 1) x2 lo && mayW (mean x0 2) x3 lo && mayW (mean x0 3) x4 lo) = true
    · have hh : (mayW (mean x0 0) x1 hi && mayW (mean x0 1) x2 hi && mayW (mean x0 2) x3 hi && mayW (mean x0 3) x4 hi) = true := by
        simp only [Bool.and_eq_true] at hl ⊢
        exact ⟨⟨⟨e _ _ hl.1.1.1, e _ _ hl.1.1.2⟩, e _ _ hl.1.2⟩, e _ _ hl.2⟩
      rw [if_pos hl, if_pos hh]
      exact .inr (.inl ⟨rfl, rfl⟩)
    · rw [if_neg hl]
      by_cases hh : (mayW (mean x0 0) x1 hi && mayW (mean x0 1) x2 hi && mayW (mean x0 2) x3 hi && mayW (mean x0 3) x4 hi) = true
      · rw [if_pos hh]
        exact .inr (.inr (.inl ⟨rfl, rfl⟩))
      · rw [if_neg hh]
        exact .inr (.inr (.inr ⟨rfl, rfl⟩))
  · rw [if_neg hk, if_neg hk]
    exact .inl ⟨rfl, rfl⟩

set_option maxRecDepth 100000 in
set_option maxHeartbeats 4000000 in
theorem order_alt (x0 x1 x2 x3 x4 a b : Int) (ma mb : Nat) (ha : (wrap64 (a.tmod 4 + 4)).tmod 4 = (ma : Int)) (hb4 : (wrap64 (b.tmod 4 + 4)).tmod 4 = (mb : Int)) (_ha4 : ma < 4) (_hb4 : mb < 4) (_h1 : ma < mb) (_h2 : ¬ mb < ma)
    (HX : Hid (∀ W, Calls Tryz.prog 24 #[callV x0 x1 x2 x3 x4, .int .i64 (1 + (ma : Int))] W fun e w' => e = .returned (.int .i64 1) ∧ Below W.heap.size W w'))
    (HY : Hid (∀ W, Calls Tryz.prog 24 #[callV x0 x1 x2 x3 x4, .int .i64 (1 + (mb : Int))] W fun e w' => e = .returned (.int .i64 1) ∧ Below W.heap.size W w'))
    (w : World) (HG : Hid (∀ W, Below w.heap.size w W → BegunAt W)) :
    Calls Tryz.prog 12 #[callV x0 x1 x2 x3 x4, .int .i64 a, .int .i64 b] w fun e w' => e = .returned (.bool true) ∧ Below w.heap.size w w' := by
  go_enter Tryz.func12, Tryz.ntmps12
  go_wp2_with fail
  refine Calls.mono (HG.out _ ((Below.refl _ _).alloc (Nat.le_refl _) _)) ?_
  rintro e w1 ⟨rfl, hb1⟩
  have B1 := Lib.hid (bl_alloc (Below.refl _ _) hb1)
  have K1 := Lib.hid (bk_one hb1)
  clear hb1
  have c0 : w1.cell? ⟨w.heap.size, 0, none⟩ = some (.int .u64 x0) := bk_cell K1.out 0
  have c1 : w1.cell? ⟨w.heap.size, 1, none⟩ = some (.int .u64 x1) := bk_cell K1.out 1
  have c2 : w1.cell? ⟨w.heap.size, 2, none⟩ = some (.int .u64 x2) := bk_cell K1.out 2
  have c3 : w1.cell? ⟨w.heap.size, 3, none⟩ = some (.int .u64 x3) := bk_cell K1.out 3
  have c4 : w1.cell? ⟨w.heap.size, 4, none⟩ = some (.int .u64 x4) := bk_cell K1.out 4
  have hl := bk_lt K1.out
  have hB := B1.out
  have hS : w1.cell? ⟨w.heap.size, 0, none⟩ = some (.int .u64 x0) ∧ w1.cell? ⟨w.heap.size, 1, none⟩ = some (.int .u64 x1) ∧ w1.cell? ⟨w.heap.size, 2, none⟩ = some (.int .u64 x2) ∧ w1.cell? ⟨w.heap.size, 3, none⟩ = some (.int .u64 x3) ∧ w1.cell? ⟨w.heap.size, 4, none⟩ = some (.int .u64 x4) ∧ w.heap.size < w1.heap.size ∧ Below w.heap.size w w1 := ⟨c0, c1, c2, c3, c4, hl, hB⟩
  go_wp2_with fail
  clear HG B1 K1
  go_region_held3 (fun w' => w'.cell? ⟨w.heap.size, 0, none⟩ = some (.int .u64 x0) ∧ w'.cell? ⟨w.heap.size, 1, none⟩ = some (.int .u64 x1) ∧ w'.cell? ⟨w.heap.size, 2, none⟩ = some (.int .u64 x2) ∧ w'.cell? ⟨w.heap.size, 3, none⟩ = some (.int .u64 x3) ∧ w'.cell? ⟨w.heap.size, 4, none⟩ = some (.int .u64 x4) ∧ w.heap.size < w'.heap.size ∧ Below w.heap.size w w')
    (first | exact hS | (refine ⟨?_, ?_, ?_, ?_, ?_, ?_, ?_⟩ <;> (first | assumption | exact Below.drew (by assumption) | go_keep)))
    (first
      | (go_at_call 24; (with_reducible refine (HX.out _).mono ?_); rintro e wn ⟨rfl, hb⟩; have hS := keepS (w := w) (x0 := .int .u64 x0) (x1 := .int .u64 x1) (x2 := .int .u64 x2) (x3 := .int .u64 x3) (x4 := .int .u64 x4) (by unfold KS; assumption) hb; clear hb)
      | (go_at_call 24; (with_reducible refine (HY.out _).mono ?_); rintro e wn ⟨rfl, hb⟩; have hS := keepS (w := w) (x0 := .int .u64 x0) (x1 := .int .u64 x1) (x2 := .int .u64 x2) (x3 := .int .u64 x3) (x4 := .int .u64 x4) (by unfold KS; assumption) hb; clear hb))
  all_goals
    go_wp2_with fail
    go_ret
    exact ⟨rfl, hS.2.2.2.2.2.2⟩

set_option maxRecDepth 100000 in
set_option maxHeartbeats 4000000 in
theorem order_blt (x0 x1 x2 x3 x4 a b : Int) (ma mb : Nat) (ha : (wrap64 (a.tmod 4 + 4)).tmod 4 = (ma : Int)) (hb4 : (wrap64 (b.tmod 4 + 4)).tmod 4 = (mb : Int)) (_ha4 : ma < 4) (_hb4 : mb < 4) (_h1 : ma < mb) (_h2 : ¬ mb < ma)
    (HX : Hid (∀ W, Calls Tryz.prog 24 #[callV x0 x1 x2 x3 x4, .int .i64 (1 + (ma : Int))] W fun e w' => e = .returned (.int .i64 0) ∧ Below W.heap.size W w'))
    (HY : Hid (∀ W, Calls Tryz.prog 24 #[callV x0 x1 x2 x3 x4, .int .i64 (1 + (mb : Int))] W fun e w' => e = .returned (.int .i64 0) ∧ Below W.heap.size W w'))
    (w : World) (HG : Hid (∀ W, Below w.heap.size w W → BegunAt W)) :
    Calls Tryz.prog 12 #[callV x0 x1 x2 x3 x4, .int .i64 a, .int .i64 b] w fun e w' => e = .returned (.bool true) ∧ Below w.heap.size w w' := by
  go_enter Tryz.func12, Tryz.ntmps12
  go_wp2_with fail
  refine Calls.mono (HG.out _ ((Below.refl _ _).alloc (Nat.le_refl _) _)) ?_
  rintro e w1 ⟨rfl, hb1⟩
  have B1 := Lib.hid (bl_alloc (Below.refl _ _) hb1)
  have K1 := Lib.hid (bk_one hb1)
  clear hb1
  have c0 : w1.cell? ⟨w.heap.size, 0, none⟩ = some (.int .u64 x0) := bk_cell K1.out 0
  have c1 : w1.cell? ⟨w.heap.size, 1, none⟩ = some (.int .u64 x1) := bk_cell K1.out 1
  have c2 : w1.cell? ⟨w.heap.size, 2, none⟩ = some (.int .u64 x2) := bk_cell K1.out 2
  have c3 : w1.cell? ⟨w.heap.size, 3, none⟩ = some (.int .u64 x3) := bk_cell K1.out 3
  have c4 : w1.cell? ⟨w.heap.size, 4, none⟩ = some (.int .u64 x4) := bk_cell K1.out 4
  have hl := bk_lt K1.out
  have hB := B1.out
  have hS : w1.cell? ⟨w.heap.size, 0, none⟩ = some (.int .u64 x0) ∧ w1.cell? ⟨w.heap.size, 1, none⟩ = some (.int .u64 x1) ∧ w1.cell? ⟨w.heap.size, 2, none⟩ = some (.int .u64 x2) ∧ w1.cell? ⟨w.heap.size, 3, none⟩ = some (.int .u64 x3) ∧ w1.cell? ⟨w.heap.size, 4, none⟩ = some (.int .u64 x4) ∧ w.heap.size < w1.heap.size ∧ Below w.heap.size w w1 := ⟨c0, c1, c2, c3, c4, hl, hB⟩
  go_wp2_with fail
  clear HG B1 K1
  go_region_held3 (fun w' => w'.cell? ⟨w.heap.size, 0, none⟩ = some (.int .u64 x0) ∧ w'.cell? ⟨w.heap.size, 1, none⟩ = some (.int .u64 x1) ∧ w'.cell? ⟨w.heap.size, 2, none⟩ = some (.int .u64 x2) ∧ w'.cell? ⟨w.heap.size, 3, none⟩ = some (.int .u64 x3) ∧ w'.cell? ⟨w.heap.size, 4, none⟩ = some (.int .u64 x4) ∧ w.heap.size < w'.heap.size ∧ Below w.heap.size w w')
    (first | exact hS | (refine ⟨?_, ?_, ?_, ?_, ?_, ?_, ?_⟩ <;> (first | assumption | exact Below.drew (by assumption) | go_keep)))
    (first
      | (go_at_call 24; (with_reducible refine (HX.out _).mono ?_); rintro e wn ⟨rfl, hb⟩; have hS := keepS (w := w) (x0 := .int .u64 x0) (x1 := .int .u64 x1) (x2 := .int .u64 x2) (x3 := .int .u64 x3) (x4 := .int .u64 x4) (by unfold KS; assumption) hb; clear hb)
      | (go_at_call 24; (with_reducible refine (HY.out _).mono ?_); rintro e wn ⟨rfl, hb⟩; have hS := keepS (w := w) (x0 := .int .u64 x0) (x1 := .int .u64 x1) (x2 := .int .u64 x2) (x3 := .int .u64 x3) (x4 := .int .u64 x4) (by unfold KS; assumption) hb; clear hb))
  all_goals
    go_wp2_with fail
    go_ret
    exact ⟨rfl, hS.2.2.2.2.2.2⟩

set_option maxRecDepth 100000 in
set_option maxHeartbeats 4000000 in
theorem order_clt (x0 x1 x2 x3 x4 a b : Int) (ma mb : Nat) (ha : (wrap64 (a.tmod 4 + 4)).tmod 4 = (ma : Int)) (hb4 : (wrap64 (b.tmod 4 + 4)).tmod 4 = (mb : Int)) (_ha4 : ma < 4) (_hb4 : mb < 4) (_h1 : ma < mb) (_h2 : ¬ mb < ma)
    (HX : Hid (∀ W, Calls Tryz.prog 24 #[callV x0 x1 x2 x3 x4, .int .i64 (1 + (ma : Int))] W fun e w' => e = .returned (.int .i64 2) ∧ Below W.heap.size W w'))
    (HY : Hid (∀ W, Calls Tryz.prog 24 #[callV x0 x1 x2 x3 x4, .int .i64 (1 + (mb : Int))] W fun e w' => e = .returned (.int .i64 0) ∧ Below W.heap.size W w'))
    (w : World) (HG : Hid (∀ W, Below w.heap.size w W → BegunAt W)) :
    Calls Tryz.prog 12 #[callV x0 x1 x2 x3 x4, .int .i64 a, .int .i64 b] w fun e w' => e = .returned (.bool true) ∧ Below w.heap.size w w' := by
  go_enter Tryz.func12, Tryz.ntmps12
  go_wp2_with fail
  refine Calls.mono (HG.out _ ((Below.refl _ _).alloc (Nat.le_refl _) _)) ?_
  rintro e w1 ⟨rfl, hb1⟩
  have B1 := Lib.hid (bl_alloc (Below.refl _ _) hb1)
  have K1 := Lib.hid (bk_one hb1)
  clear hb1
  have c0 : w1.cell? ⟨w.heap.size, 0, none⟩ = some (.int .u64 x0) := bk_cell K1.out 0
  have c1 : w1.cell? ⟨w.heap.size, 1, none⟩ = some (.int .u64 x1) := bk_cell K1.out 1
  have c2 : w1.cell? ⟨w.heap.size, 2, none⟩ = some (.int .u64 x2) := bk_cell K1.out 2
  have c3 : w1.cell? ⟨w.heap.size, 3, none⟩ = some (.int .u64 x3) := bk_cell K1.out 3
  have c4 : w1.cell? ⟨w.heap.size, 4, none⟩ = some (.int .u64 x4) := bk_cell K1.out 4
  have hl := bk_lt K1.out
  have hB := B1.out
  have hS : w1.cell? ⟨w.heap.size, 0, none⟩ = some (.int .u64 x0) ∧ w1.cell? ⟨w.heap.size, 1, none⟩ = some (.int .u64 x1) ∧ w1.cell? ⟨w.heap.size, 2, none⟩ = some (.int .u64 x2) ∧ w1.cell? ⟨w.heap.size, 3, none⟩ = some (.int .u64 x3) ∧ w1.cell? ⟨w.heap.size, 4, none⟩ = some (.int .u64 x4) ∧ w.heap.size < w1.heap.size ∧ Below w.heap.size w w1 := ⟨c0, c1, c2, c3, c4, hl, hB⟩
  go_wp2_with fail
  clear HG B1 K1
  go_region_held3 (fun w' => w'.cell? ⟨w.heap.size, 0, none⟩ = some (.int .u64 x0) ∧ w'.cell? ⟨w.heap.size, 1, none⟩ = some (.int .u64 x1) ∧ w'.cell? ⟨w.heap.size, 2, none⟩ = some (.int .u64 x2) ∧ w'.cell? ⟨w.heap.size, 3, none⟩ = some (.int .u64 x3) ∧ w'.cell? ⟨w.heap.size, 4, none⟩ = some (.int .u64 x4) ∧ w.heap.size < w'.heap.size ∧ Below w.heap.size w w')
    (first | exact hS | (refine ⟨?_, ?_, ?_, ?_, ?_, ?_, ?_⟩ <;> (first | assumption | exact Below.drew (by assumption) | go_keep)))
    (first
      | (go_at_call 24; (with_reducible refine (HX.out _).mono ?_); rintro e wn ⟨rfl, hb⟩; have hS := keepS (w := w) (x0 := .int .u64 x0) (x1 := .int .u64 x1) (x2 := .int .u64 x2) (x3 := .int .u64 x3) (x4 := .int .u64 x4) (by unfold KS; assumption) hb; clear hb)
      | (go_at_call 24; (with_reducible refine (HY.out _).mono ?_); rintro e wn ⟨rfl, hb⟩; have hS := keepS (w := w) (x0 := .int .u64 x0) (x1 := .int .u64 x1) (x2 := .int .u64 x2) (x3 := .int .u64 x3) (x4 := .int .u64 x4) (by unfold KS; assumption) hb; clear hb))
  all_goals
    go_wp2_with fail
    go_ret
    exact ⟨rfl, hS.2.2.2.2.2.2⟩

set_option maxRecDepth 100000 in
set_option maxHeartbeats 4000000 in
theorem order_dlt (x0 x1 x2 x3 x4 a b : Int) (ma mb : Nat) (ha : (wrap64 (a.tmod 4 + 4)).tmod 4 = (ma : Int)) (hb4 : (wrap64 (b.tmod 4 + 4)).tmod 4 = (mb : Int)) (_ha4 : ma < 4) (_hb4 : mb < 4) (_h1 : ma < mb) (_h2 : ¬ mb < ma)
    (HX : Hid (∀ W, Calls Tryz.prog 24 #[callV x0 x1 x2 x3 x4, .int .i64 (1 + (ma : Int))] W fun e w' => e = .returned (.int .i64 2) ∧ Below W.heap.size W w'))
    (HY : Hid (∀ W, Calls Tryz.prog 24 #[callV x0 x1 x2 x3 x4, .int .i64 (1 + (mb : Int))] W fun e w' => e = .returned (.int .i64 2) ∧ Below W.heap.size W w'))
    (w : World) (HG : Hid (∀ W, Below w.heap.size w W → BegunAt W)) :
    Calls Tryz.prog 12 #[callV x0 x1 x2 x3 x4, .int .i64 a, .int .i64 b] w fun e w' => e = .returned (.bool true) ∧ Below w.heap.size w w' := by
  go_enter Tryz.func12, Tryz.ntmps12
  go_wp2_with fail
  refine Calls.mono (HG.out _ ((Below.refl _ _).alloc (Nat.le_refl _) _)) ?_
  rintro e w1 ⟨rfl, hb1⟩
  have B1 := Lib.hid (bl_alloc (Below.refl _ _) hb1)
  have K1 := Lib.hid (bk_one hb1)
  clear hb1
  have c0 : w1.cell? ⟨w.heap.size, 0, none⟩ = some (.int .u64 x0) := bk_cell K1.out 0
  have c1 : w1.cell? ⟨w.heap.size, 1, none⟩ = some (.int .u64 x1) := bk_cell K1.out 1
  have c2 : w1.cell? ⟨w.heap.size, 2, none⟩ = some (.int .u64 x2) := bk_cell K1.out 2
  have c3 : w1.cell? ⟨w.heap.size, 3, none⟩ = some (.int .u64 x3) := bk_cell K1.out 3
  have c4 : w1.cell? ⟨w.heap.size, 4, none⟩ = some (.int .u64 x4) := bk_cell K1.out 4
  have hl := bk_lt K1.out
  have hB := B1.out
  have hS : w1.cell? ⟨w.heap.size, 0, none⟩ = some (.int .u64 x0) ∧ w1.cell? ⟨w.heap.size, 1, none⟩ = some (.int .u64 x1) ∧ w1.cell? ⟨w.heap.size, 2, none⟩ = some (.int .u64 x2) ∧ w1.cell? ⟨w.heap.size, 3, none⟩ = some (.int .u64 x3) ∧ w1.cell? ⟨w.heap.size, 4, none⟩ = some (.int .u64 x4) ∧ w.heap.size < w1.heap.size ∧ Below w.heap.size w w1 := ⟨c0, c1, c2, c3, c4, hl, hB⟩
  go_wp2_with fail
  clear HG B1 K1
  go_region_held3 (fun w' => w'.cell? ⟨w.heap.size, 0, none⟩ = some (.int .u64 x0) ∧ w'.cell? ⟨w.heap.size, 1, none⟩ = some (.int .u64 x1) ∧ w'.cell? ⟨w.heap.size, 2, none⟩ = some (.int .u64 x2) ∧ w'.cell? ⟨w.heap.size, 3, none⟩ = some (.int .u64 x3) ∧ w'.cell? ⟨w.heap.size, 4, none⟩ = some (.int .u64 x4) ∧ w.heap.size < w'.heap.size ∧ Below w.heap.size w w')
    (first | exact hS | (refine ⟨?_, ?_, ?_, ?_, ?_, ?_, ?_⟩ <;> (first | assumption | exact Below.drew (by assumption) | go_keep)))
    (first
      | (go_at_call 24; (with_reducible refine (HX.out _).mono ?_); rintro e wn ⟨rfl, hb⟩; have hS := keepS (w := w) (x0 := .int .u64 x0) (x1 := .int .u64 x1) (x2 := .int .u64 x2) (x3 := .int .u64 x3) (x4 := .int .u64 x4) (by unfold KS; assumption) hb; clear hb)
      | (go_at_call 24; (with_reducible refine (HY.out _).mono ?_); rintro e wn ⟨rfl, hb⟩; have hS := keepS (w := w) (x0 := .int .u64 x0) (x1 := .int .u64 x1) (x2 := .int .u64 x2) (x3 := .int .u64 x3) (x4 := .int .u64 x4) (by unfold KS; assumption) hb; clear hb))
  all_goals
    go_wp2_with fail
    go_ret
    exact ⟨rfl, hS.2.2.2.2.2.2⟩

set_option maxRecDepth 100000 in
set_option maxHeartbeats 4000000 in
theorem order_aeq (x0 x1 x2 x3 x4 a b : Int) (ma : Nat) (ha : (wrap64 (a.tmod 4 + 4)).tmod 4 = (ma : Int)) (hb4 : (wrap64 (b.tmod 4 + 4)).tmod 4 = (ma : Int)) (_ha4 : ma < 4) (_hb4 : ma < 4) 
    (HX : Hid (∀ W, Calls Tryz.prog 24 #[callV x0 x1 x2 x3 x4, .int .i64 (1 + (ma : Int))] W fun e w' => e = .returned (.int .i64 1) ∧ Below W.heap.size W w'))
    (w : World) (HG : Hid (∀ W, Below w.heap.size w W → BegunAt W)) :
    Calls Tryz.prog 12 #[callV x0 x1 x2 x3 x4, .int .i64 a, .int .i64 b] w fun e w' => e = .returned (.bool true) ∧ Below w.heap.size w w' := by
  go_enter Tryz.func12, Tryz.ntmps12
  go_wp2_with fail
  refine Calls.mono (HG.out _ ((Below.refl _ _).alloc (Nat.le_refl _) _)) ?_
  rintro e w1 ⟨rfl, hb1⟩
  have B1 := Lib.hid (bl_alloc (Below.refl _ _) hb1)
  have K1 := Lib.hid (bk_one hb1)
  clear hb1
  have c0 : w1.cell? ⟨w.heap.size, 0, none⟩ = some (.int .u64 x0) := bk_cell K1.out 0
  have c1 : w1.cell? ⟨w.heap.size, 1, none⟩ = some (.int .u64 x1) := bk_cell K1.out 1
  have c2 : w1.cell? ⟨w.heap.size, 2, none⟩ = some (.int .u64 x2) := bk_cell K1.out 2
  have c3 : w1.cell? ⟨w.heap.size, 3, none⟩ = some (.int .u64 x3) := bk_cell K1.out 3
  have c4 : w1.cell? ⟨w.heap.size, 4, none⟩ = some (.int .u64 x4) := bk_cell K1.out 4
  have hl := bk_lt K1.out
  have hB := B1.out
  have hS : w1.cell? ⟨w.heap.size, 0, none⟩ = some (.int .u64 x0) ∧ w1.cell? ⟨w.heap.size, 1, none⟩ = some (.int .u64 x1) ∧ w1.cell? ⟨w.heap.size, 2, none⟩ = some (.int .u64 x2) ∧ w1.cell? ⟨w.heap.size, 3, none⟩ = some (.int .u64 x3) ∧ w1.cell? ⟨w.heap.size, 4, none⟩ = some (.int .u64 x4) ∧ w.heap.size < w1.heap.size ∧ Below w.heap.size w w1 := ⟨c0, c1, c2, c3, c4, hl, hB⟩
  go_wp2_with fail
  clear HG B1 K1
  go_region_held3 (fun w' => w'.cell? ⟨w.heap.size, 0, none⟩ = some (.int .u64 x0) ∧ w'.cell? ⟨w.heap.size, 1, none⟩ = some (.int .u64 x1) ∧ w'.cell? ⟨w.heap.size, 2, none⟩ = some (.int .u64 x2) ∧ w'.cell? ⟨w.heap.size, 3, none⟩ = some (.int .u64 x3) ∧ w'.cell? ⟨w.heap.size, 4, none⟩ = some (.int .u64 x4) ∧ w.heap.size < w'.heap.size ∧ Below w.heap.size w w')
    (first | exact hS | (refine ⟨?_, ?_, ?_, ?_, ?_, ?_, ?_⟩ <;> (first | assumption | exact Below.drew (by assumption) | go_keep)))
    (first
      | (go_at_call 24; (with_reducible refine (HX.out _).mono ?_); rintro e wn ⟨rfl, hb⟩; have hS := keepS (w := w) (x0 := .int .u64 x0) (x1 := .int .u64 x1) (x2 := .int .u64 x2) (x3 := .int .u64 x3) (x4 := .int .u64 x4) (by unfold KS; assumption) hb; clear hb)
      | (go_at_call 24; (with_reducible refine (HX.out _).mono ?_); rintro e wn ⟨rfl, hb⟩; have hS := keepS (w := w) (x0 := .int .u64 x0) (x1 := .int .u64 x1) (x2 := .int .u64 x2) (x3 := .int .u64 x3) (x4 := .int .u64 x4) (by unfold KS; assumption) hb; clear hb))
  all_goals
    go_wp2_with fail
    go_ret
    exact ⟨rfl, hS.2.2.2.2.2.2⟩

set_option maxRecDepth 100000 in
set_option maxHeartbeats 4000000 in
theorem order_beq (x0 x1 x2 x3 x4 a b : Int) (ma : Nat) (ha : (wrap64 (a.tmod 4 + 4)).tmod 4 = (ma : Int)) (hb4 : (wrap64 (b.tmod 4 + 4)).tmod 4 = (ma : Int)) (_ha4 : ma < 4) (_hb4 : ma < 4) 
    (HX : Hid (∀ W, Calls Tryz.prog 24 #[callV x0 x1 x2 x3 x4, .int .i64 (1 + (ma : Int))] W fun e w' => e = .returned (.int .i64 0) ∧ Below W.heap.size W w'))
    (w : World) (HG : Hid (∀ W, Below w.heap.size w W → BegunAt W)) :
    Calls Tryz.prog 12 #[callV x0 x1 x2 x3 x4, .int .i64 a, .int .i64 b] w fun e w' => e = .returned (.bool true) ∧ Below w.heap.size w w' := by
  go_enter Tryz.func12, Tryz.ntmps12
  go_wp2_with fail
  refine Calls.mono (HG.out _ ((Below.refl _ _).alloc (Nat.le_refl _) _)) ?_
  rintro e w1 ⟨rfl, hb1⟩
  have B1 := Lib.hid (bl_alloc (Below.refl _ _) hb1)
  have K1 := Lib.hid (bk_one hb1)
  clear hb1
  have c0 : w1.cell? ⟨w.heap.size, 0, none⟩ = some (.int .u64 x0) := bk_cell K1.out 0
  have c1 : w1.cell? ⟨w.heap.size, 1, none⟩ = some (.int .u64 x1) := bk_cell K1.out 1
  have c2 : w1.cell? ⟨w.heap.size, 2, none⟩ = some (.int .u64 x2) := bk_cell K1.out 2
  have c3 : w1.cell? ⟨w.heap.size, 3, none⟩ = some (.int .u64 x3) := bk_cell K1.out 3
  have c4 : w1.cell? ⟨w.heap.size, 4, none⟩ = some (.int .u64 x4) := bk_cell K1.out 4
  have hl := bk_lt K1.out
  have hB := B1.out
  have hS : w1.cell? ⟨w.heap.size, 0, none⟩ = some (.int .u64 x0) ∧ w1.cell? ⟨w.heap.size, 1, none⟩ = some (.int .u64 x1) ∧ w1.cell? ⟨w.heap.size, 2, none⟩ = some (.int .u64 x2) ∧ w1.cell? ⟨w.heap.size, 3, none⟩ = some (.int .u64 x3) ∧ w1.cell? ⟨w.heap.size, 4, none⟩ = some (.int .u64 x4) ∧ w.heap.size < w1.heap.size ∧ Below w.heap.size w w1 := ⟨c0, c1, c2, c3, c4, hl, hB⟩
  go_wp2_with fail
  clear HG B1 K1
  go_region_held3 (fun w' => w'.cell? ⟨w.heap.size, 0, none⟩ = some (.int .u64 x0) ∧ w'.cell? ⟨w.heap.size, 1, none⟩ = some (.int .u64 x1) ∧ w'.cell? ⟨w.heap.size, 2, none⟩ = some (.int .u64 x2) ∧ w'.cell? ⟨w.heap.size, 3, none⟩ = some (.int .u64 x3) ∧ w'.cell? ⟨w.heap.size, 4, none⟩ = some (.int .u64 x4) ∧ w.heap.size < w'.heap.size ∧ Below w.heap.size w w')
    (first | exact hS | (refine ⟨?_, ?_, ?_, ?_, ?_, ?_, ?_⟩ <;> (first | assumption | exact Below.drew (by assumption) | go_keep)))
    (first
      | (go_at_call 24; (with_reducible refine (HX.out _).mono ?_); rintro e wn ⟨rfl, hb⟩; have hS := keepS (w := w) (x0 := .int .u64 x0) (x1 := .int .u64 x1) (x2 := .int .u64 x2) (x3 := .int .u64 x3) (x4 := .int .u64 x4) (by unfold KS; assumption) hb; clear hb)
      | (go_at_call 24; (with_reducible refine (HX.out _).mono ?_); rintro e wn ⟨rfl, hb⟩; have hS := keepS (w := w) (x0 := .int .u64 x0) (x1 := .int .u64 x1) (x2 := .int .u64 x2) (x3 := .int .u64 x3) (x4 := .int .u64 x4) (by unfold KS; assumption) hb; clear hb))
  all_goals
    go_wp2_with fail
    go_ret
    exact ⟨rfl, hS.2.2.2.2.2.2⟩

set_option maxRecDepth 100000 in
set_option maxHeartbeats 4000000 in
theorem order_deq (x0 x1 x2 x3 x4 a b : Int) (ma : Nat) (ha : (wrap64 (a.tmod 4 + 4)).tmod 4 = (ma : Int)) (hb4 : (wrap64 (b.tmod 4 + 4)).tmod 4 = (ma : Int)) (_ha4 : ma < 4) (_hb4 : ma < 4) 
    (HX : Hid (∀ W, Calls Tryz.prog 24 #[callV x0 x1 x2 x3 x4, .int .i64 (1 + (ma : Int))] W fun e w' => e = .returned (.int .i64 2) ∧ Below W.heap.size W w'))
    (w : World) (HG : Hid (∀ W, Below w.heap.size w W → BegunAt W)) :
    Calls Tryz.prog 12 #[callV x0 x1 x2 x3 x4, .int .i64 a, .int .i64 b] w fun e w' => e = .returned (.bool true) ∧ Below w.heap.size w w' := by
  go_enter Tryz.func12, Tryz.ntmps12
  go_wp2_with fail
  refine Calls.mono (HG.out _ ((Below.refl _ _).alloc (Nat.le_refl _) _)) ?_
  rintro e w1 ⟨rfl, hb1⟩
  have B1 := Lib.hid (bl_alloc (Below.refl _ _) hb1)
  have K1 := Lib.hid (bk_one hb1)
  clear hb1
  have c0 : w1.cell? ⟨w.heap.size, 0, none⟩ = some (.int .u64 x0) := bk_cell K1.out 0
  have c1 : w1.cell? ⟨w.heap.size, 1, none⟩ = some (.int .u64 x1) := bk_cell K1.out 1
  have c2 : w1.cell? ⟨w.heap.size, 2, none⟩ = some (.int .u64 x2) := bk_cell K1.out 2
  have c3 : w1.cell? ⟨w.heap.size, 3, none⟩ = some (.int .u64 x3) := bk_cell K1.out 3
  have c4 : w1.cell? ⟨w.heap.size, 4, none⟩ = some (.int .u64 x4) := bk_cell K1.out 4
  have hl := bk_lt K1.out
  have hB := B1.out
  have hS : w1.cell? ⟨w.heap.size, 0, none⟩ = some (.int .u64 x0) ∧ w1.cell? ⟨w.heap.size, 1, none⟩ = some (.int .u64 x1) ∧ w1.cell? ⟨w.heap.size, 2, none⟩ = some (.int .u64 x2) ∧ w1.cell? ⟨w.heap.size, 3, none⟩ = some (.int .u64 x3) ∧ w1.cell? ⟨w.heap.size, 4, none⟩ = some (.int .u64 x4) ∧ w.heap.size < w1.heap.size ∧ Below w.heap.size w w1 := ⟨c0, c1, c2, c3, c4, hl, hB⟩
  go_wp2_with fail
  clear HG B1 K1
  go_region_held3 (fun w' => w'.cell? ⟨w.heap.size, 0, none⟩ = some (.int .u64 x0) ∧ w'.cell? ⟨w.heap.size, 1, none⟩ = some (.int .u64 x1) ∧ w'.cell? ⟨w.heap.size, 2, none⟩ = some (.int .u64 x2) ∧ w'.cell? ⟨w.heap.size, 3, none⟩ = some (.int .u64 x3) ∧ w'.cell? ⟨w.heap.size, 4, none⟩ = some (.int .u64 x4) ∧ w.heap.size < w'.heap.size ∧ Below w.heap.size w w')
    (first | exact hS | (refine ⟨?_, ?_, ?_, ?_, ?_, ?_, ?_⟩ <;> (first | assumption | exact Below.drew (by assumption) | go_keep)))
    (first
      | (go_at_call 24; (with_reducible refine (HX.out _).mono ?_); rintro e wn ⟨rfl, hb⟩; have hS := keepS (w := w) (x0 := .int .u64 x0) (x1 := .int .u64 x1) (x2 := .int .u64 x2) (x3 := .int .u64 x3) (x4 := .int .u64 x4) (by unfold KS; assumption) hb; clear hb)
      | (go_at_call 24; (with_reducible refine (HX.out _).mono ?_); rintro e wn ⟨rfl, hb⟩; have hS := keepS (w := w) (x0 := .int .u64 x0) (x1 := .int .u64 x1) (x2 := .int .u64 x2) (x3 := .int .u64 x3) (x4 := .int .u64 x4) (by unfold KS; assumption) hb; clear hb))
  all_goals
    go_wp2_with fail
    go_ret
    exact ⟨rfl, hS.2.2.2.2.2.2⟩

set_option maxRecDepth 100000 in
set_option maxHeartbeats 4000000 in
theorem order_agt (x0 x1 x2 x3 x4 a b : Int) (ma mb : Nat) (ha : (wrap64 (a.tmod 4 + 4)).tmod 4 = (ma : Int)) (hb4 : (wrap64 (b.tmod 4 + 4)).tmod 4 = (mb : Int)) (_ha4 : ma < 4) (_hb4 : mb < 4) (_h1 : mb < ma) (_h2 : ¬ ma < mb)
    (HX : Hid (∀ W, Calls Tryz.prog 24 #[callV x0 x1 x2 x3 x4, .int .i64 (1 + (mb : Int))] W fun e w' => e = .returned (.int .i64 1) ∧ Below W.heap.size W w'))
    (HY : Hid (∀ W, Calls Tryz.prog 24 #[callV x0 x1 x2 x3 x4, .int .i64 (1 + (ma : Int))] W fun e w' => e = .returned (.int .i64 1) ∧ Below W.heap.size W w'))
    (w : World) (HG : Hid (∀ W, Below w.heap.size w W → BegunAt W)) :
    Calls Tryz.prog 12 #[callV x0 x1 x2 x3 x4, .int .i64 a, .int .i64 b] w fun e w' => e = .returned (.bool true) ∧ Below w.heap.size w w' := by
  go_enter Tryz.func12, Tryz.ntmps12
  go_wp2_with fail
  refine Calls.mono (HG.out _ ((Below.refl _ _).alloc (Nat.le_refl _) _)) ?_
  rintro e w1 ⟨rfl, hb1⟩
  have B1 := Lib.hid (bl_alloc (Below.refl _ _) hb1)
  have K1 := Lib.hid (bk_one hb1)
  clear hb1
  have c0 : w1.cell? ⟨w.heap.size, 0, none⟩ = some (.int .u64 x0) := bk_cell K1.out 0
  have c1 : w1.cell? ⟨w.heap.size, 1, none⟩ = some (.int .u64 x1) := bk_cell K1.out 1
  have c2 : w1.cell? ⟨w.heap.size, 2, none⟩ = some (.int .u64 x2) := bk_cell K1.out 2
  have c3 : w1.cell? ⟨w.heap.size, 3, none⟩ = some (.int .u64 x3) := bk_cell K1.out 3
  have c4 : w1.cell? ⟨w.heap.size, 4, none⟩ = some (.int .u64 x4) := bk_cell K1.out 4
  have hl := bk_lt K1.out
  have hB := B1.out
  have hS : w1.cell? ⟨w.heap.size, 0, none⟩ = some (.int .u64 x0) ∧ w1.cell? ⟨w.heap.size, 1, none⟩ = some (.int .u64 x1) ∧ w1.cell? ⟨w.heap.size, 2, none⟩ = some (.int .u64 x2) ∧ w1.cell? ⟨w.heap.size, 3, none⟩ = some (.int .u64 x3) ∧ w1.cell? ⟨w.heap.size, 4, none⟩ = some (.int .u64 x4) ∧ w.heap.size < w1.heap.size ∧ Below w.heap.size w w1 := ⟨c0, c1, c2, c3, c4, hl, hB⟩
  go_wp2_with fail
  clear HG B1 K1
  go_region_held3 (fun w' => w'.cell? ⟨w.heap.size, 0, none⟩ = some (.int .u64 x0) ∧ w'.cell? ⟨w.heap.size, 1, none⟩ = some (.int .u64 x1) ∧ w'.cell? ⟨w.heap.size, 2, none⟩ = some (.int .u64 x2) ∧ w'.cell? ⟨w.heap.size, 3, none⟩ = some (.int .u64 x3) ∧ w'.cell? ⟨w.heap.size, 4, none⟩ = some (.int .u64 x4) ∧ w.heap.size < w'.heap.size ∧ Below w.heap.size w w')
    (first | exact hS | (refine ⟨?_, ?_, ?_, ?_, ?_, ?_, ?_⟩ <;> (first | assumption | exact Below.drew (by assumption) | go_keep)))
    (first
      | (go_at_call 24; (with_reducible refine (HX.out _).mono ?_); rintro e wn ⟨rfl, hb⟩; have hS := keepS (w := w) (x0 := .int .u64 x0) (x1 := .int .u64 x1) (x2 := .int .u64 x2) (x3 := .int .u64 x3) (x4 := .int .u64 x4) (by unfold KS; assumption) hb; clear hb)
      | (go_at_call 24; (with_reducible refine (HY.out _).mono ?_); rintro e wn ⟨rfl, hb⟩; have hS := keepS (w := w) (x0 := .int .u64 x0) (x1 := .int .u64 x1) (x2 := .int .u64 x2) (x3 := .int .u64 x3) (x4 := .int .u64 x4) (by unfold KS; assumption) hb; clear hb))
  all_goals
    go_wp2_with fail
    go_ret
    exact ⟨rfl, hS.2.2.2.2.2.2⟩

set_option maxRecDepth 100000 in
set_option maxHeartbeats 4000000 in
theorem order_bgt (x0 x1 x2 x3 x4 a b : Int) (ma mb : Nat) (ha : (wrap64 (a.tmod 4 + 4)).tmod 4 = (ma : Int)) (hb4 : (wrap64 (b.tmod 4 + 4)).tmod 4 = (mb : Int)) (_ha4 : ma < 4) (_hb4 : mb < 4) (_h1 : mb < ma) (_h2 : ¬ ma < mb)
    (HX : Hid (∀ W, Calls Tryz.prog 24 #[callV x0 x1 x2 x3 x4, .int .i64 (1 + (mb : Int))] W fun e w' => e = .returned (.int .i64 0) ∧ Below W.heap.size W w'))
    (HY : Hid (∀ W, Calls Tryz.prog 24 #[callV x0 x1 x2 x3 x4, .int .i64 (1 + (ma : Int))] W fun e w' => e = .returned (.int .i64 0) ∧ Below W.heap.size W w'))
    (w : World) (HG : Hid (∀ W, Below w.heap.size w W → BegunAt W)) :
    Calls Tryz.prog 12 #[callV x0 x1 x2 x3 x4, .int .i64 a, .int .i64 b] w fun e w' => e = .returned (.bool true) ∧ Below w.heap.size w w' := by
  go_enter Tryz.func12, Tryz.ntmps12
  go_wp2_with fail
  refine Calls.mono (HG.out _ ((Below.refl _ _).alloc (Nat.le_refl _) _)) ?_
  rintro e w1 ⟨rfl, hb1⟩
  have B1 := Lib.hid (bl_alloc (Below.refl _ _) hb1)
  have K1 := Lib.hid (bk_one hb1)
  clear hb1
  have c0 : w1.cell? ⟨w.heap.size, 0, none⟩ = some (.int .u64 x0) := bk_cell K1.out 0
  have c1 : w1.cell? ⟨w.heap.size, 1, none⟩ = some (.int .u64 x1) := bk_cell K1.out 1
  have c2 : w1.cell? ⟨w.heap.size, 2, none⟩ = some (.int .u64 x2) := bk_cell K1.out 2
  have c3 : w1.cell? ⟨w.heap.size, 3, none⟩ = some (.int .u64 x3) := bk_cell K1.out 3
  have c4 : w1.cell? ⟨w.heap.size, 4, none⟩ = some (.int .u64 x4) := bk_cell K1.out 4
  have hl := bk_lt K1.out
  have hB := B1.out
  have hS : w1.cell? ⟨w.heap.size, 0, none⟩ = some (.int .u64 x0) ∧ w1.cell? ⟨w.heap.size, 1, none⟩ = some (.int .u64 x1) ∧ w1.cell? ⟨w.heap.size, 2, none⟩ = some (.int .u64 x2) ∧ w1.cell? ⟨w.heap.size, 3, none⟩ = some (.int .u64 x3) ∧ w1.cell? ⟨w.heap.size, 4, none⟩ = some (.int .u64 x4) ∧ w.heap.size < w1.heap.size ∧ Below w.heap.size w w1 := ⟨c0, c1, c2, c3, c4, hl, hB⟩
  go_wp2_with fail
  clear HG B1 K1
  go_region_held3 (fun w' => w'.cell? ⟨w.heap.size, 0, none⟩ = some (.int .u64 x0) ∧ w'.cell? ⟨w.heap.size, 1, none⟩ = some (.int .u64 x1) ∧ w'.cell? ⟨w.heap.size, 2, none⟩ = some (.int .u64 x2) ∧ w'.cell? ⟨w.heap.size, 3, none⟩ = some (.int .u64 x3) ∧ w'.cell? ⟨w.heap.size, 4, none⟩ = some (.int .u64 x4) ∧ w.heap.size < w'.heap.size ∧ Below w.heap.size w w')
    (first | exact hS | (refine ⟨?_, ?_, ?_, ?_, ?_, ?_, ?_⟩ <;> (first | assumption | exact Below.drew (by assumption) | go_keep)))
    (first
      | (go_at_call 24; (with_reducible refine (HX.out _).mono ?_); rintro e wn ⟨rfl, hb⟩; have hS := keepS (w := w) (x0 := .int .u64 x0) (x1 := .int .u64 x1) (x2 := .int .u64 x2) (x3 := .int .u64 x3) (x4 := .int .u64 x4) (by unfold KS; assumption) hb; clear hb)
      | (go_at_call 24; (with_reducible refine (HY.out _).mono ?_); rintro e wn ⟨rfl, hb⟩; have hS := keepS (w := w) (x0 := .int .u64 x0) (x1 := .int .u64 x1) (x2 := .int .u64 x2) (x3 := .int .u64 x3) (x4 := .int .u64 x4) (by unfold KS; assumption) hb; clear hb))
  all_goals
    go_wp2_with fail
    go_ret
    exact ⟨rfl, hS.2.2.2.2.2.2⟩

set_option maxRecDepth 100000 in
set_option maxHeartbeats 4000000 in
theorem order_cgt (x0 x1 x2 x3 x4 a b : Int) (ma mb : Nat) (ha : (wrap64 (a.tmod 4 + 4)).tmod 4 = (ma : Int)) (hb4 : (wrap64 (b.tmod 4 + 4)).tmod 4 = (mb : Int)) (_ha4 : ma < 4) (_hb4 : mb < 4) (_h1 : mb < ma) (_h2 : ¬ ma < mb)
    (HX : Hid (∀ W, Calls Tryz.prog 24 #[callV x0 x1 x2 x3 x4, .int .i64 (1 + (mb : Int))] W fun e w' => e = .returned (.int .i64 2) ∧ Below W.heap.size W w'))
    (HY : Hid (∀ W, Calls Tryz.prog 24 #[callV x0 x1 x2 x3 x4, .int .i64 (1 + (ma : Int))] W fun e w' => e = .returned (.int .i64 0) ∧ Below W.heap.size W w'))
    (w : World) (HG : Hid (∀ W, Below w.heap.size w W → BegunAt W)) :
    Calls Tryz.prog 12 #[callV x0 x1 x2 x3 x4, .int .i64 a, .int .i64 b] w fun e w' => e = .returned (.bool true) ∧ Below w.heap.size w w' := by
  go_enter Tryz.func12, Tryz.ntmps12
  go_wp2_with fail
  refine Calls.mono (HG.out _ ((Below.refl _ _).alloc (Nat.le_refl _) _)) ?_
  rintro e w1 ⟨rfl, hb1⟩
  have B1 := Lib.hid (bl_alloc (Below.refl _ _) hb1)
  have K1 := Lib.hid (bk_one hb1)
  clear hb1
  have c0 : w1.cell? ⟨w.heap.size, 0, none⟩ = some (.int .u64 x0) := bk_cell K1.out 0
  have c1 : w1.cell? ⟨w.heap.size, 1, none⟩ = some (.int .u64 x1) := bk_cell K1.out 1
  have c2 : w1.cell? ⟨w.heap.size, 2, none⟩ = some (.int .u64 x2) := bk_cell K1.out 2
  have c3 : w1.cell? ⟨w.heap.size, 3, none⟩ = some (.int .u64 x3) := bk_cell K1.out 3
  have c4 : w1.cell? ⟨w.heap.size, 4, none⟩ = some (.int .u64 x4) := bk_cell K1.out 4
  have hl := bk_lt K1.out
  have hB := B1.out
  have hS : w1.cell? ⟨w.heap.size, 0, none⟩ = some (.int .u64 x0) ∧ w1.cell? ⟨w.heap.size, 1, none⟩ = some (.int .u64 x1) ∧ w1.cell? ⟨w.heap.size, 2, none⟩ = some (.int .u64 x2) ∧ w1.cell? ⟨w.heap.size, 3, none⟩ = some (.int .u64 x3) ∧ w1.cell? ⟨w.heap.size, 4, none⟩ = some (.int .u64 x4) ∧ w.heap.size < w1.heap.size ∧ Below w.heap.size w w1 := ⟨c0, c1, c2, c3, c4, hl, hB⟩
  go_wp2_with fail
  clear HG B1 K1
  go_region_held3 (fun w' => w'.cell? ⟨w.heap.size, 0, none⟩ = some (.int .u64 x0) ∧ w'.cell? ⟨w.heap.size, 1, none⟩ = some (.int .u64 x1) ∧ w'.cell? ⟨w.heap.size, 2, none⟩ = some (.int .u64 x2) ∧ w'.cell? ⟨w.heap.size, 3, none⟩ = some (.int .u64 x3) ∧ w'.cell? ⟨w.heap.size, 4, none⟩ = some (.int .u64 x4) ∧ w.heap.size < w'.heap.size ∧ Below w.heap.size w w')
    (first | exact hS | (refine ⟨?_, ?_, ?_, ?_, ?_, ?_, ?_⟩ <;> (first | assumption | exact Below.drew (by assumption) | go_keep)))
    (first
      | (go_at_call 24; (with_reducible refine (HX.out _).mono ?_); rintro e wn ⟨rfl, hb⟩; have hS := keepS (w := w) (x0 := .int .u64 x0) (x1 := .int .u64 x1) (x2 := .int .u64 x2) (x3 := .int .u64 x3) (x4 := .int .u64 x4) (by unfold KS; assumption) hb; clear hb)
      | (go_at_call 24; (with_reducible refine (HY.out _).mono ?_); rintro e wn ⟨rfl, hb⟩; have hS := keepS (w := w) (x0 := .int .u64 x0) (x1 := .int .u64 x1) (x2 := .int .u64 x2) (x3 := .int .u64 x3) (x4 := .int .u64 x4) (by unfold KS; assumption) hb; clear hb))
  all_goals
    go_wp2_with fail
    go_ret
    exact ⟨rfl, hS.2.2.2.2.2.2⟩

set_option maxRecDepth 100000 in
set_option maxHeartbeats 4000000 in
theorem order_dgt (x0 x1 x2 x3 x4 a b : Int) (ma mb : Nat) (ha : (wrap64 (a.tmod 4 + 4)).tmod 4 = (ma : Int)) (hb4 : (wrap64 (b.tmod 4 + 4)).tmod 4 = (mb : Int)) (_ha4 : ma < 4) (_hb4 : mb < 4) (_h1 : mb < ma) (_h2 : ¬ ma < mb)
    (HX : Hid (∀ W, Calls Tryz.prog 24 #[callV x0 x1 x2 x3 x4, .int .i64 (1 + (mb : Int))] W fun e w' => e = .returned (.int .i64 2) ∧ Below W.heap.size W w'))
    (HY : Hid (∀ W, Calls Tryz.prog 24 #[callV x0 x1 x2 x3 x4, .int .i64 (1 + (ma : Int))] W fun e w' => e = .returned (.int .i64 2) ∧ Below W.heap.size W w'))
    (w : World) (HG : Hid (∀ W, Below w.heap.size w W → BegunAt W)) :
    Calls Tryz.prog 12 #[callV x0 x1 x2 x3 x4, .int .i64 a, .int .i64 b] w fun e w' => e = .returned (.bool true) ∧ Below w.heap.size w w' := by
  go_enter Tryz.func12, Tryz.ntmps12
  go_wp2_with fail
  refine Calls.mono (HG.out _ ((Below.refl _ _).alloc (Nat.le_refl _) _)) ?_
  rintro e w1 ⟨rfl, hb1⟩
  have B1 := Lib.hid (bl_alloc (Below.refl _ _) hb1)
  have K1 := Lib.hid (bk_one hb1)
  clear hb1
  have c0 : w1.cell? ⟨w.heap.size, 0, none⟩ = some (.int .u64 x0) := bk_cell K1.out 0
  have c1 : w1.cell? ⟨w.heap.size, 1, none⟩ = some (.int .u64 x1) := bk_cell K1.out 1
  have c2 : w1.cell? ⟨w.heap.size, 2, none⟩ = some (.int .u64 x2) := bk_cell K1.out 2
  have c3 : w1.cell? ⟨w.heap.size, 3, none⟩ = some (.int .u64 x3) := bk_cell K1.out 3
  have c4 : w1.cell? ⟨w.heap.size, 4, none⟩ = some (.int .u64 x4) := bk_cell K1.out 4
  have hl := bk_lt K1.out
  have hB := B1.out
  have hS : w1.cell? ⟨w.heap.size, 0, none⟩ = some (.int .u64 x0) ∧ w1.cell? ⟨w.heap.size, 1, none⟩ = some (.int .u64 x1) ∧ w1.cell? ⟨w.heap.size, 2, none⟩ = some (.int .u64 x2) ∧ w1.cell? ⟨w.heap.size, 3, none⟩ = some (.int .u64 x3) ∧ w1.cell? ⟨w.heap.size, 4, none⟩ = some (.int .u64 x4) ∧ w.heap.size < w1.heap.size ∧ Below w.heap.size w w1 := ⟨c0, c1, c2, c3, c4, hl, hB⟩
  go_wp2_with fail
  clear HG B1 K1
  go_region_held3 (fun w' => w'.cell? ⟨w.heap.size, 0, none⟩ = some (.int .u64 x0) ∧ w'.cell? ⟨w.heap.size, 1, none⟩ = some (.int .u64 x1) ∧ w'.cell? ⟨w.heap.size, 2, none⟩ = some (.int .u64 x2) ∧ w'.cell? ⟨w.heap.size, 3, none⟩ = some (.int .u64 x3) ∧ w'.cell? ⟨w.heap.size, 4, none⟩ = some (.int .u64 x4) ∧ w.heap.size < w'.heap.size ∧ Below w.heap.size w w')
    (first | exact hS | (refine ⟨?_, ?_, ?_, ?_, ?_, ?_, ?_⟩ <;> (first | assumption | exact Below.drew (by assumption) | go_keep)))
    (first
      | (go_at_call 24; (with_reducible refine (HX.out _).mono ?_); rintro e wn ⟨rfl, hb⟩; have hS := keepS (w := w) (x0 := .int .u64 x0) (x1 := .int .u64 x1) (x2 := .int .u64 x2) (x3 := .int .u64 x3) (x4 := .int .u64 x4) (by unfold KS; assumption) hb; clear hb)
      | (go_at_call 24; (with_reducible refine (HY.out _).mono ?_); rintro e wn ⟨rfl, hb⟩; have hS := keepS (w := w) (x0 := .int .u64 x0) (x1 := .int .u64 x1) (x2 := .int .u64 x2) (x3 := .int .u64 x3) (x4 := .int .u64 x4) (by unfold KS; assumption) hb; clear hb))
  all_goals
    go_wp2_with fail
    go_ret
    exact ⟨rfl, hS.2.2.2.2.2.2⟩

theorem wordOrder_walk (x0 x1 x2 x3 x4 a b : Int) (hw : wordsIn x0 x1 x2 x3 x4) (w : World) (hbeg : ∀ W, Below w.heap.size w W → BegunAt W) :
    Calls Tryz.prog 12 #[callV x0 x1 x2 x3 x4, .int .i64 a, .int .i64 b] w fun e w' => e = .returned (.bool true) ∧ Below w.heap.size w w' := by
  obtain ⟨ma, ha, ha4⟩ := pmod a 4 (by omega) (by omega)
  obtain ⟨mb, hb, hb4⟩ := pmod b 4 (by omega) (by omega)
  have ha : (wrap64 (a.tmod 4 + 4)).tmod 4 = (ma : Int) := ha
  have hb : (wrap64 (b.tmod 4 + 4)).tmod 4 = (mb : Int) := hb
  have HG : Hid (∀ W, Below w.heap.size w W → BegunAt W) := hbeg
  have HA := fun W => Check_any x0 x1 x2 x3 x4 (1 + (ma : Int)) hw ⟨by omega, by omega⟩ W
  have HB := fun W => Check_any x0 x1 x2 x3 x4 (1 + (mb : Int)) hw ⟨by omega, by omega⟩ W
  rcases Nat.lt_trichotomy ma mb with h | h | h
  · rcases chk_mono x0 x1 x2 x3 x4 (1 + (ma : Int)) (1 + (mb : Int)) (by omega) with ⟨e1, e2⟩ | ⟨e1, e2⟩ | ⟨e1, e2⟩ | ⟨e1, e2⟩ <;> rw [e1] at HA <;> rw [e2] at HB
    · exact order_alt x0 x1 x2 x3 x4 a b ma mb ha hb ha4 hb4 h (by omega) HA HB w HG
    · exact order_blt x0 x1 x2 x3 x4 a b ma mb ha hb ha4 hb4 h (by omega) HA HB w HG
    · exact order_clt x0 x1 x2 x3 x4 a b ma mb ha hb ha4 hb4 h (by omega) HA HB w HG
    · exact order_dlt x0 x1 x2 x3 x4 a b ma mb ha hb ha4 hb4 h (by omega) HA HB w HG
  · subst h
    rcases chk_mono x0 x1 x2 x3 x4 (1 + (ma : Int)) (1 + (ma : Int)) (by omega) with ⟨e1, _⟩ | ⟨e1, _⟩ | ⟨e1, e2⟩ | ⟨e1, _⟩
    · rw [e1] at HA
      exact order_aeq x0 x1 x2 x3 x4 a b ma ha hb ha4 hb4 HA w HG
    · rw [e1] at HA
      exact order_beq x0 x1 x2 x3 x4 a b ma ha hb ha4 hb4 HA w HG
    · omega
    · rw [e1] at HA
      exact order_deq x0 x1 x2 x3 x4 a b ma ha hb ha4 hb4 HA w HG
  · rcases chk_mono x0 x1 x2 x3 x4 (1 + (mb : Int)) (1 + (ma : Int)) (by omega) with ⟨e1, e2⟩ | ⟨e1, e2⟩ | ⟨e1, e2⟩ | ⟨e1, e2⟩ <;> rw [e1] at HB <;> rw [e2] at HA
    · exact order_agt x0 x1 x2 x3 x4 a b ma mb ha hb ha4 hb4 h (by omega) HB HA w HG
    · exact order_bgt x0 x1 x2 x3 x4 a b ma mb ha hb ha4 hb4 h (by omega) HB HA w HG
    · exact order_cgt x0 x1 x2 x3 x4 a b ma mb ha hb ha4 hb4 h (by omega) HB HA w HG
    · exact order_dgt x0 x1 x2 x3 x4 a b ma mb ha hb ha4 hb4 h (by omega) HB HA w HG
end Go.Proofs.YtfpnpgpelncgeaaGreatDoor
