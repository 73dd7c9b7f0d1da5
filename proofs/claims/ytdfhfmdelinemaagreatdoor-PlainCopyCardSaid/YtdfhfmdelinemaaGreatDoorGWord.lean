/- What is proved here: the words of calls by the document's package, and a buffer that fills and flushes. Conditions: those that each theorem names. -/
import Derived.Test.YtdfhfmdelinemaaGreatDoorGParts
import Derived.Test.YtdfhfmdelinemaaGreatDoorTlb4
namespace Go.Proofs.YtdfhfmdelinemaaGreatDoor
open Go.RowKit Go.Extern.Stop Go.Stop Go.Extern
def operB (x : Int) : Bool := decide (1 ≤ x ∧ x ≤ 4)
theorem what_1 (w : World) : Calls Tryz.prog 108 #[.int .i64 1] w fun e w' => e = .returned (.string ⟨#[115]⟩) ∧ Below w.heap.size w w' := by
 go_enter Tryz.func108, Tryz.ntmps108
 go_wp2
 go_ret
 refine ⟨rfl, ?_⟩
 first
  | exact (Below.refl _ _).alloc (Nat.le_refl _) _
  | exact ((Below.refl _ _).alloc (Nat.le_refl _) _).alloc (by simp) _
theorem what_2 (w : World) : Calls Tryz.prog 108 #[.int .i64 2] w fun e w' => e = .returned (.string ⟨#[115, 115, 114]⟩) ∧ Below w.heap.size w w' := by
 go_enter Tryz.func108, Tryz.ntmps108
 go_wp2
 go_ret
 refine ⟨rfl, ?_⟩
 first
  | exact (Below.refl _ _).alloc (Nat.le_refl _) _
  | exact ((Below.refl _ _).alloc (Nat.le_refl _) _).alloc (by simp) _
theorem what_3 (w : World) : Calls Tryz.prog 108 #[.int .i64 3] w fun e w' => e = .returned (.string ⟨#[115, 101, 115, 114]⟩) ∧ Below w.heap.size w w' := by
 go_enter Tryz.func108, Tryz.ntmps108
 go_wp2
 go_ret
 refine ⟨rfl, ?_⟩
 first
  | exact (Below.refl _ _).alloc (Nat.le_refl _) _
  | exact ((Below.refl _ _).alloc (Nat.le_refl _) _).alloc (by simp) _
theorem what_4 (w : World) : Calls Tryz.prog 108 #[.int .i64 4] w fun e w' => e = .returned (.string ⟨#[115]⟩) ∧ Below w.heap.size w w' := by
 go_enter Tryz.func108, Tryz.ntmps108
 go_wp2
 go_ret
 refine ⟨rfl, ?_⟩
 first
  | exact (Below.refl _ _).alloc (Nat.le_refl _) _
  | exact ((Below.refl _ _).alloc (Nat.le_refl _) _).alloc (by simp) _
theorem what_5 (w : World) : Calls Tryz.prog 108 #[.int .i64 5] w fun e w' => e = .returned (.string ⟨#[115]⟩) ∧ Below w.heap.size w w' := by
 go_enter Tryz.func108, Tryz.ntmps108
 go_wp2
 go_ret
 refine ⟨rfl, ?_⟩
 first
  | exact (Below.refl _ _).alloc (Nat.le_refl _) _
  | exact ((Below.refl _ _).alloc (Nat.le_refl _) _).alloc (by simp) _
theorem what_6 (w : World) : Calls Tryz.prog 108 #[.int .i64 6] w fun e w' => e = .returned (.string ⟨#[112, 115, 114]⟩) ∧ Below w.heap.size w w' := by
 go_enter Tryz.func108, Tryz.ntmps108
 go_wp2
 go_ret
 refine ⟨rfl, ?_⟩
 first
  | exact (Below.refl _ _).alloc (Nat.le_refl _) _
  | exact ((Below.refl _ _).alloc (Nat.le_refl _) _).alloc (by simp) _
theorem what_7 (w : World) : Calls Tryz.prog 108 #[.int .i64 7] w fun e w' => e = .returned (.string ⟨#[112]⟩) ∧ Below w.heap.size w w' := by
 go_enter Tryz.func108, Tryz.ntmps108
 go_wp2
 go_ret
 refine ⟨rfl, ?_⟩
 first
  | exact (Below.refl _ _).alloc (Nat.le_refl _) _
  | exact ((Below.refl _ _).alloc (Nat.le_refl _) _).alloc (by simp) _
theorem what_8 (w : World) : Calls Tryz.prog 108 #[.int .i64 8] w fun e w' => e = .returned (.string ⟨#[112, 114]⟩) ∧ Below w.heap.size w w' := by
 go_enter Tryz.func108, Tryz.ntmps108
 go_wp2
 go_ret
 refine ⟨rfl, ?_⟩
 first
  | exact (Below.refl _ _).alloc (Nat.le_refl _) _
  | exact ((Below.refl _ _).alloc (Nat.le_refl _) _).alloc (by simp) _
theorem what_9 (w : World) : Calls Tryz.prog 108 #[.int .i64 9] w fun e w' => e = .returned (.string ⟨#[115, 119, 111, 46]⟩) ∧ Below w.heap.size w w' := by
 go_enter Tryz.func108, Tryz.ntmps108
 go_wp2
 go_ret
 refine ⟨rfl, ?_⟩
 first
  | exact (Below.refl _ _).alloc (Nat.le_refl _) _
  | exact ((Below.refl _ _).alloc (Nat.le_refl _) _).alloc (by simp) _
theorem what_10 (w : World) : Calls Tryz.prog 108 #[.int .i64 10] w fun e w' => e = .returned (.string ⟨#[]⟩) ∧ Below w.heap.size w w' := by
 go_enter Tryz.func108, Tryz.ntmps108
 go_wp2
 go_ret
 refine ⟨rfl, ?_⟩
 first
  | exact (Below.refl _ _).alloc (Nat.le_refl _) _
  | exact ((Below.refl _ _).alloc (Nat.le_refl _) _).alloc (by simp) _
theorem what_20 (w : World) : Calls Tryz.prog 108 #[.int .i64 20] w fun e w' => e = .returned (.string ⟨#[112, 119]⟩) ∧ Below w.heap.size w w' := by
 go_enter Tryz.func108, Tryz.ntmps108
 go_wp2
 go_ret
 refine ⟨rfl, ?_⟩
 first
  | exact (Below.refl _ _).alloc (Nat.le_refl _) _
  | exact ((Below.refl _ _).alloc (Nat.le_refl _) _).alloc (by simp) _
theorem what_21 (w : World) : Calls Tryz.prog 108 #[.int .i64 21] w fun e w' => e = .returned (.string ⟨#[112, 119, 46]⟩) ∧ Below w.heap.size w w' := by
 go_enter Tryz.func108, Tryz.ntmps108
 go_wp2
 go_ret
 refine ⟨rfl, ?_⟩
 first
  | exact (Below.refl _ _).alloc (Nat.le_refl _) _
  | exact ((Below.refl _ _).alloc (Nat.le_refl _) _).alloc (by simp) _
theorem what_22 (w : World) : Calls Tryz.prog 108 #[.int .i64 22] w fun e w' => e = .returned (.string ⟨#[112, 119, 46, 46]⟩) ∧ Below w.heap.size w w' := by
 go_enter Tryz.func108, Tryz.ntmps108
 go_wp2
 go_ret
 refine ⟨rfl, ?_⟩
 first
  | exact (Below.refl _ _).alloc (Nat.le_refl _) _
  | exact ((Below.refl _ _).alloc (Nat.le_refl _) _).alloc (by simp) _
theorem what_23 (w : World) : Calls Tryz.prog 108 #[.int .i64 23] w fun e w' => e = .returned (.string ⟨#[112, 119, 46]⟩) ∧ Below w.heap.size w w' := by
 go_enter Tryz.func108, Tryz.ntmps108
 go_wp2
 go_ret
 refine ⟨rfl, ?_⟩
 first
  | exact (Below.refl _ _).alloc (Nat.le_refl _) _
  | exact ((Below.refl _ _).alloc (Nat.le_refl _) _).alloc (by simp) _
set_option maxRecDepth 20000 in
set_option maxHeartbeats 2000000 in
theorem ref_check_1 (x1 x2 x3 x4 envs : Int) (hx : wordsIn 1 x1 x2 x3 x4) (he : intIn envs) (w : World) :
  Calls Tryz.prog 50 #[callV 1 x1 x2 x3 x4, .int .i64 envs] w fun e w' => e = .returned (.int .i64 (res4 (belowB x1 8) true true true)) ∧ Below w.heap.size w w' := by
 obtain ⟨_, ⟨p1, q1⟩, ⟨p2, q2⟩, ⟨p3, q3⟩, p4, q4⟩ := hx
 obtain ⟨e1, e2⟩ := he
 have HK := Lib.hid (fun W => Kind_is 1 x1 x2 x3 x4 rfl W)
 go_enter Tryz.func50, Tryz.ntmps50
 go_wp2_with fail
 refine (HK.out _).mono ?_
 rintro e w1 ⟨rfl, hb1⟩
 have B1 := Lib.hid (bl_alloc (Below.refl _ _) hb1)
 have K1 := Lib.hid (bk_one hb1)
 clear hb1
 go_wp2_with fail
 refine (what_1 _).mono ?_
 rintro e w2 ⟨rfl, hb2⟩
 have B2 := Lib.hid (bl_trans B1.out hb2)
 have K2 := Lib.hid (bk_below K1.out hb2)
 clear hb2
 have lt2 := bk_lt K2.out
 have c0 := bk_cell K2.out 0
 have c1 := bk_cell K2.out 1
 have c2 := bk_cell K2.out 2
 have c3 := bk_cell K2.out 3
 have c4 := bk_cell K2.out 4
 go_wp2_with fail
 go_loop [8] (fun v => ∃ i : Int, 0 ≤ i ∧ i ≤ 1 ∧ v = .int .i64 i ∧ Hid (pre (belowB x1 8) true true true i.toNat = true)) (fun v => (1 - intOf v).toNat)
 case atStart => exact ⟨0, by omega, by omega, rfl, rfl⟩
 case round =>
  obtain ⟨i, hi0, hi, rfl, hp⟩ := hrel
  have hc : i = 0 ∨ i = 1 := by omega
  clear hi0 hi
  rcases hc with rfl | rfl
  ·by_cases h : x1 < 8
   ·skip
    go_wp2_with fail
    go_round
    case rel => exact ⟨1, by omega, by omega, rfl, by have hb : belowB x1 8 = true := decide_eq_true (by omega); show pre (belowB x1 8) true true true 1 = true; simp [pre, hb]⟩
    case measure => simp [intOf]
   ·skip
    have HR : Hid (res4 (belowB x1 8) true true true = 2) := by
     have hb : belowB x1 8 = false := decide_eq_false (by omega)
     show res4 (belowB x1 8) true true true = 2
     simp [res4, pre, hb]
    go_wp2_with fail
    go_ret
    exact ⟨by rw [HR.out]; rfl, B2.out⟩
  ·have h1 : pre (belowB x1 8) true true true 1 = true := hp.out
   have HR : Hid (res4 (belowB x1 8) true true true = 0) := by
    show res4 (belowB x1 8) true true true = 0
    simp only [pre, List.take, List.all, Bool.and_eq_true, id] at h1
    simp [res4, pre, h1]
   clear h1
   go_wp2_with fail
   go_ret
   exact ⟨by rw [HR.out]; rfl, B2.out⟩
set_option maxRecDepth 20000 in
set_option maxHeartbeats 2000000 in
theorem ref_check_2 (x1 x2 x3 x4 envs : Int) (hx : wordsIn 2 x1 x2 x3 x4) (he : intIn envs) (w : World) :
  Calls Tryz.prog 50 #[callV 2 x1 x2 x3 x4, .int .i64 envs] w fun e w' => e = .returned (.int .i64 (res4 (belowB x1 8) (belowB x2 8) (rightsB x3) true)) ∧ Below w.heap.size w w' := by
 obtain ⟨_, ⟨p1, q1⟩, ⟨p2, q2⟩, ⟨p3, q3⟩, p4, q4⟩ := hx
 obtain ⟨e1, e2⟩ := he
 have HK := Lib.hid (fun W => Kind_is 2 x1 x2 x3 x4 rfl W)
 go_enter Tryz.func50, Tryz.ntmps50
 go_wp2_with fail
 refine (HK.out _).mono ?_
 rintro e w1 ⟨rfl, hb1⟩
 have B1 := Lib.hid (bl_alloc (Below.refl _ _) hb1)
 have K1 := Lib.hid (bk_one hb1)
 clear hb1
 go_wp2_with fail
 refine (what_2 _).mono ?_
 rintro e w2 ⟨rfl, hb2⟩
 have B2 := Lib.hid (bl_trans B1.out hb2)
 have K2 := Lib.hid (bk_below K1.out hb2)
 clear hb2
 have lt2 := bk_lt K2.out
 have c0 := bk_cell K2.out 0
 have c1 := bk_cell K2.out 1
 have c2 := bk_cell K2.out 2
 have c3 := bk_cell K2.out 3
 have c4 := bk_cell K2.out 4
 go_wp2_with fail
 go_loop [8] (fun v => ∃ i : Int, 0 ≤ i ∧ i ≤ 3 ∧ v = .int .i64 i ∧ Hid (pre (belowB x1 8) (belowB x2 8) (rightsB x3) true i.toNat = true)) (fun v => (3 - intOf v).toNat)
 case atStart => exact ⟨0, by omega, by omega, rfl, rfl⟩
 case round =>
  obtain ⟨i, hi0, hi, rfl, hp⟩ := hrel
  have hc : i = 0 ∨ i = 1 ∨ i = 2 ∨ i = 3 := by omega
  clear hi0 hi
  rcases hc with rfl | rfl | rfl | rfl
  ·by_cases h : x1 < 8
   ·skip
    go_wp2_with fail
    go_round
    case rel => exact ⟨1, by omega, by omega, rfl, by have hb : belowB x1 8 = true := decide_eq_true (by omega); show pre (belowB x1 8) (belowB x2 8) (rightsB x3) true 1 = true; simp [pre, hb]⟩
    case measure => simp [intOf]
   ·skip
    have HR : Hid (res4 (belowB x1 8) (belowB x2 8) (rightsB x3) true = 2) := by
     have hb : belowB x1 8 = false := decide_eq_false (by omega)
     show res4 (belowB x1 8) (belowB x2 8) (rightsB x3) true = 2
     simp [res4, pre, hb]
    go_wp2_with fail
    go_ret
    exact ⟨by rw [HR.out]; rfl, B2.out⟩
  ·by_cases h : x2 < 8
   ·skip
    go_wp2_with fail
    go_round
    case rel => exact ⟨2, by omega, by omega, rfl, by have h1 : pre (belowB x1 8) (belowB x2 8) (rightsB x3) true 1 = true := hp.out; have hb : belowB x2 8 = true := decide_eq_true (by omega); show pre (belowB x1 8) (belowB x2 8) (rightsB x3) true 2 = true; simp only [pre, List.take, List.all, Bool.and_eq_true, id] at h1 ⊢; simp [h1, hb]⟩
    case measure => simp [intOf]
   ·skip
    have HR : Hid (res4 (belowB x1 8) (belowB x2 8) (rightsB x3) true = 2) := by
     have hb : belowB x2 8 = false := decide_eq_false (by omega)
     show res4 (belowB x1 8) (belowB x2 8) (rightsB x3) true = 2
     simp [res4, pre, hb]
    go_wp2_with fail
    go_ret
    exact ⟨by rw [HR.out]; rfl, B2.out⟩
  ·by_cases h : x3 < 1
   ·skip
    have HR : Hid (res4 (belowB x1 8) (belowB x2 8) (rightsB x3) true = 2) := by
     have hb : rightsB x3 = false := decide_eq_false (by omega)
     show res4 (belowB x1 8) (belowB x2 8) (rightsB x3) true = 2
     simp [res4, pre, hb]
    go_wp2_with fail
    go_ret
    exact ⟨by rw [HR.out]; rfl, B2.out⟩
   by_cases h2 : x3 ≤ 3
   ·skip
    go_wp2_with fail
    go_round
    case rel => exact ⟨3, by omega, by omega, rfl, by have h1 : pre (belowB x1 8) (belowB x2 8) (rightsB x3) true 2 = true := hp.out; have hb : rightsB x3 = true := decide_eq_true (by omega); show pre (belowB x1 8) (belowB x2 8) (rightsB x3) true 3 = true; simp only [pre, List.take, List.all, Bool.and_eq_true, id] at h1 ⊢; simp [h1, hb]⟩
    case measure => simp [intOf]
   ·skip
    have HR : Hid (res4 (belowB x1 8) (belowB x2 8) (rightsB x3) true = 2) := by
     have hb : rightsB x3 = false := decide_eq_false (by omega)
     show res4 (belowB x1 8) (belowB x2 8) (rightsB x3) true = 2
     simp [res4, pre, hb]
    go_wp2_with fail
    go_ret
    exact ⟨by rw [HR.out]; rfl, B2.out⟩
  ·have h1 : pre (belowB x1 8) (belowB x2 8) (rightsB x3) true 3 = true := hp.out
   have HR : Hid (res4 (belowB x1 8) (belowB x2 8) (rightsB x3) true = 0) := by
    show res4 (belowB x1 8) (belowB x2 8) (rightsB x3) true = 0
    simp only [pre, List.take, List.all, Bool.and_eq_true, id] at h1
    simp [res4, pre, h1]
   clear h1
   go_wp2_with fail
   go_ret
   exact ⟨by rw [HR.out]; rfl, B2.out⟩
set_option maxRecDepth 20000 in
set_option maxHeartbeats 2000000 in
theorem ref_check_3 (x1 x2 x3 x4 envs : Int) (hx : wordsIn 3 x1 x2 x3 x4) (he : intIn envs) (w : World) :
  Calls Tryz.prog 50 #[callV 3 x1 x2 x3 x4, .int .i64 envs] w fun e w' => e = .returned (.int .i64 (res4 (belowB x1 8) (belowB x2 envs) (belowB x3 8) (rightsB x4))) ∧ Below w.heap.size w w' := by
 obtain ⟨_, ⟨p1, q1⟩, ⟨p2, q2⟩, ⟨p3, q3⟩, p4, q4⟩ := hx
 obtain ⟨e1, e2⟩ := he
 have HK := Lib.hid (fun W => Kind_is 3 x1 x2 x3 x4 rfl W)
 go_enter Tryz.func50, Tryz.ntmps50
 go_wp2_with fail
 refine (HK.out _).mono ?_
 rintro e w1 ⟨rfl, hb1⟩
 have B1 := Lib.hid (bl_alloc (Below.refl _ _) hb1)
 have K1 := Lib.hid (bk_one hb1)
 clear hb1
 go_wp2_with fail
 refine (what_3 _).mono ?_
 rintro e w2 ⟨rfl, hb2⟩
 have B2 := Lib.hid (bl_trans B1.out hb2)
 have K2 := Lib.hid (bk_below K1.out hb2)
 clear hb2
 have lt2 := bk_lt K2.out
 have c0 := bk_cell K2.out 0
 have c1 := bk_cell K2.out 1
 have c2 := bk_cell K2.out 2
 have c3 := bk_cell K2.out 3
 have c4 := bk_cell K2.out 4
 go_wp2_with fail
 go_loop [8] (fun v => ∃ i : Int, 0 ≤ i ∧ i ≤ 4 ∧ v = .int .i64 i ∧ Hid (pre (belowB x1 8) (belowB x2 envs) (belowB x3 8) (rightsB x4) i.toNat = true)) (fun v => (4 - intOf v).toNat)
 case atStart => exact ⟨0, by omega, by omega, rfl, rfl⟩
 case round =>
  obtain ⟨i, hi0, hi, rfl, hp⟩ := hrel
  have hc : i = 0 ∨ i = 1 ∨ i = 2 ∨ i = 3 ∨ i = 4 := by omega
  clear hi0 hi
  rcases hc with rfl | rfl | rfl | rfl | rfl
  ·by_cases h : x1 < 8
   ·skip
    go_wp2_with fail
    go_round
    case rel => exact ⟨1, by omega, by omega, rfl, by have hb : belowB x1 8 = true := decide_eq_true (by omega); show pre (belowB x1 8) (belowB x2 envs) (belowB x3 8) (rightsB x4) 1 = true; simp [pre, hb]⟩
    case measure => simp [intOf]
   ·skip
    have HR : Hid (res4 (belowB x1 8) (belowB x2 envs) (belowB x3 8) (rightsB x4) = 2) := by
     have hb : belowB x1 8 = false := decide_eq_false (by omega)
     show res4 (belowB x1 8) (belowB x2 envs) (belowB x3 8) (rightsB x4) = 2
     simp [res4, pre, hb]
    go_wp2_with fail
    go_ret
    exact ⟨by rw [HR.out]; rfl, B2.out⟩
  ·by_cases h : envs < 1
   ·skip
    have HR : Hid (res4 (belowB x1 8) (belowB x2 envs) (belowB x3 8) (rightsB x4) = 2) := by
     have hb : belowB x2 envs = false := decide_eq_false (by omega)
     show res4 (belowB x1 8) (belowB x2 envs) (belowB x3 8) (rightsB x4) = 2
     simp [res4, pre, hb]
    go_wp2_with fail
    go_ret
    exact ⟨by rw [HR.out]; rfl, B2.out⟩
   by_cases h2 : x2 < envs
   ·skip
    go_wp2_with fail
    go_round
    case rel => exact ⟨2, by omega, by omega, rfl, by have h1 : pre (belowB x1 8) (belowB x2 envs) (belowB x3 8) (rightsB x4) 1 = true := hp.out; have hb : belowB x2 envs = true := decide_eq_true (by omega); show pre (belowB x1 8) (belowB x2 envs) (belowB x3 8) (rightsB x4) 2 = true; simp only [pre, List.take, List.all, Bool.and_eq_true, id] at h1 ⊢; simp [h1, hb]⟩
    case measure => simp [intOf]
   ·skip
    have HR : Hid (res4 (belowB x1 8) (belowB x2 envs) (belowB x3 8) (rightsB x4) = 2) := by
     have hb : belowB x2 envs = false := decide_eq_false (by omega)
     show res4 (belowB x1 8) (belowB x2 envs) (belowB x3 8) (rightsB x4) = 2
     simp [res4, pre, hb]
    go_wp2_with fail
    go_ret
    exact ⟨by rw [HR.out]; rfl, B2.out⟩
  ·by_cases h : x3 < 8
   ·skip
    go_wp2_with fail
    go_round
    case rel => exact ⟨3, by omega, by omega, rfl, by have h1 : pre (belowB x1 8) (belowB x2 envs) (belowB x3 8) (rightsB x4) 2 = true := hp.out; have hb : belowB x3 8 = true := decide_eq_true (by omega); show pre (belowB x1 8) (belowB x2 envs) (belowB x3 8) (rightsB x4) 3 = true; simp only [pre, List.take, List.all, Bool.and_eq_true, id] at h1 ⊢; simp [h1, hb]⟩
    case measure => simp [intOf]
   ·skip
    have HR : Hid (res4 (belowB x1 8) (belowB x2 envs) (belowB x3 8) (rightsB x4) = 2) := by
     have hb : belowB x3 8 = false := decide_eq_false (by omega)
     show res4 (belowB x1 8) (belowB x2 envs) (belowB x3 8) (rightsB x4) = 2
     simp [res4, pre, hb]
    go_wp2_with fail
    go_ret
    exact ⟨by rw [HR.out]; rfl, B2.out⟩
  ·by_cases h : x4 < 1
   ·skip
    have HR : Hid (res4 (belowB x1 8) (belowB x2 envs) (belowB x3 8) (rightsB x4) = 2) := by
     have hb : rightsB x4 = false := decide_eq_false (by omega)
     show res4 (belowB x1 8) (belowB x2 envs) (belowB x3 8) (rightsB x4) = 2
     simp [res4, pre, hb]
    go_wp2_with fail
    go_ret
    exact ⟨by rw [HR.out]; rfl, B2.out⟩
   by_cases h2 : x4 ≤ 3
   ·skip
    go_wp2_with fail
    go_round
    case rel => exact ⟨4, by omega, by omega, rfl, by have h1 : pre (belowB x1 8) (belowB x2 envs) (belowB x3 8) (rightsB x4) 3 = true := hp.out; have hb : rightsB x4 = true := decide_eq_true (by omega); show pre (belowB x1 8) (belowB x2 envs) (belowB x3 8) (rightsB x4) 4 = true; simp only [pre, List.take, List.all, Bool.and_eq_true, id] at h1 ⊢; simp [h1, hb]⟩
    case measure => simp [intOf]
   ·skip
    have HR : Hid (res4 (belowB x1 8) (belowB x2 envs) (belowB x3 8) (rightsB x4) = 2) := by
     have hb : rightsB x4 = false := decide_eq_false (by omega)
     show res4 (belowB x1 8) (belowB x2 envs) (belowB x3 8) (rightsB x4) = 2
     simp [res4, pre, hb]
    go_wp2_with fail
    go_ret
    exact ⟨by rw [HR.out]; rfl, B2.out⟩
  ·have h1 : pre (belowB x1 8) (belowB x2 envs) (belowB x3 8) (rightsB x4) 4 = true := hp.out
   have HR : Hid (res4 (belowB x1 8) (belowB x2 envs) (belowB x3 8) (rightsB x4) = 0) := by
    show res4 (belowB x1 8) (belowB x2 envs) (belowB x3 8) (rightsB x4) = 0
    simp only [pre, List.take, List.all, Bool.and_eq_true, id] at h1
    simp [res4, pre, h1]
   clear h1
   go_wp2_with fail
   go_ret
   exact ⟨by rw [HR.out]; rfl, B2.out⟩
set_option maxRecDepth 20000 in
set_option maxHeartbeats 2000000 in
theorem ref_check_4 (x1 x2 x3 x4 envs : Int) (hx : wordsIn 4 x1 x2 x3 x4) (he : intIn envs) (w : World) :
  Calls Tryz.prog 50 #[callV 4 x1 x2 x3 x4, .int .i64 envs] w fun e w' => e = .returned (.int .i64 (res4 (belowB x1 8) true true true)) ∧ Below w.heap.size w w' := by
 obtain ⟨_, ⟨p1, q1⟩, ⟨p2, q2⟩, ⟨p3, q3⟩, p4, q4⟩ := hx
 obtain ⟨e1, e2⟩ := he
 have HK := Lib.hid (fun W => Kind_is 4 x1 x2 x3 x4 rfl W)
 go_enter Tryz.func50, Tryz.ntmps50
 go_wp2_with fail
 refine (HK.out _).mono ?_
 rintro e w1 ⟨rfl, hb1⟩
 have B1 := Lib.hid (bl_alloc (Below.refl _ _) hb1)
 have K1 := Lib.hid (bk_one hb1)
 clear hb1
 go_wp2_with fail
 refine (what_4 _).mono ?_
 rintro e w2 ⟨rfl, hb2⟩
 have B2 := Lib.hid (bl_trans B1.out hb2)
 have K2 := Lib.hid (bk_below K1.out hb2)
 clear hb2
 have lt2 := bk_lt K2.out
 have c0 := bk_cell K2.out 0
 have c1 := bk_cell K2.out 1
 have c2 := bk_cell K2.out 2
 have c3 := bk_cell K2.out 3
 have c4 := bk_cell K2.out 4
 go_wp2_with fail
 go_loop [8] (fun v => ∃ i : Int, 0 ≤ i ∧ i ≤ 1 ∧ v = .int .i64 i ∧ Hid (pre (belowB x1 8) true true true i.toNat = true)) (fun v => (1 - intOf v).toNat)
 case atStart => exact ⟨0, by omega, by omega, rfl, rfl⟩
 case round =>
  obtain ⟨i, hi0, hi, rfl, hp⟩ := hrel
  have hc : i = 0 ∨ i = 1 := by omega
  clear hi0 hi
  rcases hc with rfl | rfl
  ·by_cases h : x1 < 8
   ·skip
    go_wp2_with fail
    go_round
    case rel => exact ⟨1, by omega, by omega, rfl, by have hb : belowB x1 8 = true := decide_eq_true (by omega); show pre (belowB x1 8) true true true 1 = true; simp [pre, hb]⟩
    case measure => simp [intOf]
   ·skip
    have HR : Hid (res4 (belowB x1 8) true true true = 2) := by
     have hb : belowB x1 8 = false := decide_eq_false (by omega)
     show res4 (belowB x1 8) true true true = 2
     simp [res4, pre, hb]
    go_wp2_with fail
    go_ret
    exact ⟨by rw [HR.out]; rfl, B2.out⟩
  ·have h1 : pre (belowB x1 8) true true true 1 = true := hp.out
   have HR : Hid (res4 (belowB x1 8) true true true = 0) := by
    show res4 (belowB x1 8) true true true = 0
    simp only [pre, List.take, List.all, Bool.and_eq_true, id] at h1
    simp [res4, pre, h1]
   clear h1
   go_wp2_with fail
   go_ret
   exact ⟨by rw [HR.out]; rfl, B2.out⟩
set_option maxRecDepth 20000 in
set_option maxHeartbeats 2000000 in
theorem ref_check_5 (x1 x2 x3 x4 envs : Int) (hx : wordsIn 5 x1 x2 x3 x4) (he : intIn envs) (w : World) :
  Calls Tryz.prog 50 #[callV 5 x1 x2 x3 x4, .int .i64 envs] w fun e w' => e = .returned (.int .i64 (res4 (belowB x1 8) true true true)) ∧ Below w.heap.size w w' := by
 obtain ⟨_, ⟨p1, q1⟩, ⟨p2, q2⟩, ⟨p3, q3⟩, p4, q4⟩ := hx
 obtain ⟨e1, e2⟩ := he
 have HK := Lib.hid (fun W => Kind_is 5 x1 x2 x3 x4 rfl W)
 go_enter Tryz.func50, Tryz.ntmps50
 go_wp2_with fail
 refine (HK.out _).mono ?_
 rintro e w1 ⟨rfl, hb1⟩
 have B1 := Lib.hid (bl_alloc (Below.refl _ _) hb1)
 have K1 := Lib.hid (bk_one hb1)
 clear hb1
 go_wp2_with fail
 refine (what_5 _).mono ?_
 rintro e w2 ⟨rfl, hb2⟩
 have B2 := Lib.hid (bl_trans B1.out hb2)
 have K2 := Lib.hid (bk_below K1.out hb2)
 clear hb2
 have lt2 := bk_lt K2.out
 have c0 := bk_cell K2.out 0
 have c1 := bk_cell K2.out 1
 have c2 := bk_cell K2.out 2
 have c3 := bk_cell K2.out 3
 have c4 := bk_cell K2.out 4
 go_wp2_with fail
 go_loop [8] (fun v => ∃ i : Int, 0 ≤ i ∧ i ≤ 1 ∧ v = .int .i64 i ∧ Hid (pre (belowB x1 8) true true true i.toNat = true)) (fun v => (1 - intOf v).toNat)
 case atStart => exact ⟨0, by omega, by omega, rfl, rfl⟩
 case round =>
  obtain ⟨i, hi0, hi, rfl, hp⟩ := hrel
  have hc : i = 0 ∨ i = 1 := by omega
  clear hi0 hi
  rcases hc with rfl | rfl
  ·by_cases h : x1 < 8
   ·skip
    go_wp2_with fail
    go_round
    case rel => exact ⟨1, by omega, by omega, rfl, by have hb : belowB x1 8 = true := decide_eq_true (by omega); show pre (belowB x1 8) true true true 1 = true; simp [pre, hb]⟩
    case measure => simp [intOf]
   ·skip
    have HR : Hid (res4 (belowB x1 8) true true true = 2) := by
     have hb : belowB x1 8 = false := decide_eq_false (by omega)
     show res4 (belowB x1 8) true true true = 2
     simp [res4, pre, hb]
    go_wp2_with fail
    go_ret
    exact ⟨by rw [HR.out]; rfl, B2.out⟩
  ·have h1 : pre (belowB x1 8) true true true 1 = true := hp.out
   have HR : Hid (res4 (belowB x1 8) true true true = 0) := by
    show res4 (belowB x1 8) true true true = 0
    simp only [pre, List.take, List.all, Bool.and_eq_true, id] at h1
    simp [res4, pre, h1]
   clear h1
   go_wp2_with fail
   go_ret
   exact ⟨by rw [HR.out]; rfl, B2.out⟩
set_option maxRecDepth 20000 in
set_option maxHeartbeats 2000000 in
theorem ref_check_6 (x1 x2 x3 x4 envs : Int) (hx : wordsIn 6 x1 x2 x3 x4) (he : intIn envs) (w : World) :
  Calls Tryz.prog 50 #[callV 6 x1 x2 x3 x4, .int .i64 envs] w fun e w' => e = .returned (.int .i64 (res4 (belowB x1 8) (belowB x2 8) (rightsB x3) true)) ∧ Below w.heap.size w w' := by
 obtain ⟨_, ⟨p1, q1⟩, ⟨p2, q2⟩, ⟨p3, q3⟩, p4, q4⟩ := hx
 obtain ⟨e1, e2⟩ := he
 have HK := Lib.hid (fun W => Kind_is 6 x1 x2 x3 x4 rfl W)
 go_enter Tryz.func50, Tryz.ntmps50
 go_wp2_with fail
 refine (HK.out _).mono ?_
 rintro e w1 ⟨rfl, hb1⟩
 have B1 := Lib.hid (bl_alloc (Below.refl _ _) hb1)
 have K1 := Lib.hid (bk_one hb1)
 clear hb1
 go_wp2_with fail
 refine (what_6 _).mono ?_
 rintro e w2 ⟨rfl, hb2⟩
 have B2 := Lib.hid (bl_trans B1.out hb2)
 have K2 := Lib.hid (bk_below K1.out hb2)
 clear hb2
 have lt2 := bk_lt K2.out
 have c0 := bk_cell K2.out 0
 have c1 := bk_cell K2.out 1
 have c2 := bk_cell K2.out 2
 have c3 := bk_cell K2.out 3
 have c4 := bk_cell K2.out 4
 go_wp2_with fail
 go_loop [8] (fun v => ∃ i : Int, 0 ≤ i ∧ i ≤ 3 ∧ v = .int .i64 i ∧ Hid (pre (belowB x1 8) (belowB x2 8) (rightsB x3) true i.toNat = true)) (fun v => (3 - intOf v).toNat)
 case atStart => exact ⟨0, by omega, by omega, rfl, rfl⟩
 case round =>
  obtain ⟨i, hi0, hi, rfl, hp⟩ := hrel
  have hc : i = 0 ∨ i = 1 ∨ i = 2 ∨ i = 3 := by omega
  clear hi0 hi
  rcases hc with rfl | rfl | rfl | rfl
  ·by_cases h : x1 < 8
   ·skip
    go_wp2_with fail
    go_round
    case rel => exact ⟨1, by omega, by omega, rfl, by have hb : belowB x1 8 = true := decide_eq_true (by omega); show pre (belowB x1 8) (belowB x2 8) (rightsB x3) true 1 = true; simp [pre, hb]⟩
    case measure => simp [intOf]
   ·skip
    have HR : Hid (res4 (belowB x1 8) (belowB x2 8) (rightsB x3) true = 2) := by
     have hb : belowB x1 8 = false := decide_eq_false (by omega)
     show res4 (belowB x1 8) (belowB x2 8) (rightsB x3) true = 2
     simp [res4, pre, hb]
    go_wp2_with fail
    go_ret
    exact ⟨by rw [HR.out]; rfl, B2.out⟩
  ·by_cases h : x2 < 8
   ·skip
    go_wp2_with fail
    go_round
    case rel => exact ⟨2, by omega, by omega, rfl, by have h1 : pre (belowB x1 8) (belowB x2 8) (rightsB x3) true 1 = true := hp.out; have hb : belowB x2 8 = true := decide_eq_true (by omega); show pre (belowB x1 8) (belowB x2 8) (rightsB x3) true 2 = true; simp only [pre, List.take, List.all, Bool.and_eq_true, id] at h1 ⊢; simp [h1, hb]⟩
    case measure => simp [intOf]
   ·skip
    have HR : Hid (res4 (belowB x1 8) (belowB x2 8) (rightsB x3) true = 2) := by
     have hb : belowB x2 8 = false := decide_eq_false (by omega)
     show res4 (belowB x1 8) (belowB x2 8) (rightsB x3) true = 2
     simp [res4, pre, hb]
    go_wp2_with fail
    go_ret
    exact ⟨by rw [HR.out]; rfl, B2.out⟩
  ·by_cases h : x3 < 1
   ·skip
    have HR : Hid (res4 (belowB x1 8) (belowB x2 8) (rightsB x3) true = 2) := by
     have hb : rightsB x3 = false := decide_eq_false (by omega)
     show res4 (belowB x1 8) (belowB x2 8) (rightsB x3) true = 2
     simp [res4, pre, hb]
    go_wp2_with fail
    go_ret
    exact ⟨by rw [HR.out]; rfl, B2.out⟩
   by_cases h2 : x3 ≤ 3
   ·skip
    go_wp2_with fail
    go_round
    case rel => exact ⟨3, by omega, by omega, rfl, by have h1 : pre (belowB x1 8) (belowB x2 8) (rightsB x3) true 2 = true := hp.out; have hb : rightsB x3 = true := decide_eq_true (by omega); show pre (belowB x1 8) (belowB x2 8) (rightsB x3) true 3 = true; simp only [pre, List.take, List.all, Bool.and_eq_true, id] at h1 ⊢; simp [h1, hb]⟩
    case measure => simp [intOf]
   ·skip
    have HR : Hid (res4 (belowB x1 8) (belowB x2 8) (rightsB x3) true = 2) := by
     have hb : rightsB x3 = false := decide_eq_false (by omega)
     show res4 (belowB x1 8) (belowB x2 8) (rightsB x3) true = 2
     simp [res4, pre, hb]
    go_wp2_with fail
    go_ret
    exact ⟨by rw [HR.out]; rfl, B2.out⟩
  ·have h1 : pre (belowB x1 8) (belowB x2 8) (rightsB x3) true 3 = true := hp.out
   have HR : Hid (res4 (belowB x1 8) (belowB x2 8) (rightsB x3) true = 0) := by
    show res4 (belowB x1 8) (belowB x2 8) (rightsB x3) true = 0
    simp only [pre, List.take, List.all, Bool.and_eq_true, id] at h1
    simp [res4, pre, h1]
   clear h1
   go_wp2_with fail
   go_ret
   exact ⟨by rw [HR.out]; rfl, B2.out⟩
set_option maxRecDepth 20000 in
set_option maxHeartbeats 2000000 in
theorem ref_check_7 (x1 x2 x3 x4 envs : Int) (hx : wordsIn 7 x1 x2 x3 x4) (he : intIn envs) (w : World) :
  Calls Tryz.prog 50 #[callV 7 x1 x2 x3 x4, .int .i64 envs] w fun e w' => e = .returned (.int .i64 (res4 (belowB x1 8) true true true)) ∧ Below w.heap.size w w' := by
 obtain ⟨_, ⟨p1, q1⟩, ⟨p2, q2⟩, ⟨p3, q3⟩, p4, q4⟩ := hx
 obtain ⟨e1, e2⟩ := he
 have HK := Lib.hid (fun W => Kind_is 7 x1 x2 x3 x4 rfl W)
 go_enter Tryz.func50, Tryz.ntmps50
 go_wp2_with fail
 refine (HK.out _).mono ?_
 rintro e w1 ⟨rfl, hb1⟩
 have B1 := Lib.hid (bl_alloc (Below.refl _ _) hb1)
 have K1 := Lib.hid (bk_one hb1)
 clear hb1
 go_wp2_with fail
 refine (what_7 _).mono ?_
 rintro e w2 ⟨rfl, hb2⟩
 have B2 := Lib.hid (bl_trans B1.out hb2)
 have K2 := Lib.hid (bk_below K1.out hb2)
 clear hb2
 have lt2 := bk_lt K2.out
 have c0 := bk_cell K2.out 0
 have c1 := bk_cell K2.out 1
 have c2 := bk_cell K2.out 2
 have c3 := bk_cell K2.out 3
 have c4 := bk_cell K2.out 4
 go_wp2_with fail
 go_loop [8] (fun v => ∃ i : Int, 0 ≤ i ∧ i ≤ 1 ∧ v = .int .i64 i ∧ Hid (pre (belowB x1 8) true true true i.toNat = true)) (fun v => (1 - intOf v).toNat)
 case atStart => exact ⟨0, by omega, by omega, rfl, rfl⟩
 case round =>
  obtain ⟨i, hi0, hi, rfl, hp⟩ := hrel
  have hc : i = 0 ∨ i = 1 := by omega
  clear hi0 hi
  rcases hc with rfl | rfl
  ·by_cases h : x1 < 8
   ·skip
    go_wp2_with fail
    go_round
    case rel => exact ⟨1, by omega, by omega, rfl, by have hb : belowB x1 8 = true := decide_eq_true (by omega); show pre (belowB x1 8) true true true 1 = true; simp [pre, hb]⟩
    case measure => simp [intOf]
   ·skip
    have HR : Hid (res4 (belowB x1 8) true true true = 2) := by
     have hb : belowB x1 8 = false := decide_eq_false (by omega)
     show res4 (belowB x1 8) true true true = 2
     simp [res4, pre, hb]
    go_wp2_with fail
    go_ret
    exact ⟨by rw [HR.out]; rfl, B2.out⟩
  ·have h1 : pre (belowB x1 8) true true true 1 = true := hp.out
   have HR : Hid (res4 (belowB x1 8) true true true = 0) := by
    show res4 (belowB x1 8) true true true = 0
    simp only [pre, List.take, List.all, Bool.and_eq_true, id] at h1
    simp [res4, pre, h1]
   clear h1
   go_wp2_with fail
   go_ret
   exact ⟨by rw [HR.out]; rfl, B2.out⟩
set_option maxRecDepth 20000 in
set_option maxHeartbeats 2000000 in
theorem ref_check_8 (x1 x2 x3 x4 envs : Int) (hx : wordsIn 8 x1 x2 x3 x4) (he : intIn envs) (w : World) :
  Calls Tryz.prog 50 #[callV 8 x1 x2 x3 x4, .int .i64 envs] w fun e w' => e = .returned (.int .i64 (res4 (belowB x1 8) (rightsB x2) true true)) ∧ Below w.heap.size w w' := by
 obtain ⟨_, ⟨p1, q1⟩, ⟨p2, q2⟩, ⟨p3, q3⟩, p4, q4⟩ := hx
 obtain ⟨e1, e2⟩ := he
 have HK := Lib.hid (fun W => Kind_is 8 x1 x2 x3 x4 rfl W)
 go_enter Tryz.func50, Tryz.ntmps50
 go_wp2_with fail
 refine (HK.out _).mono ?_
 rintro e w1 ⟨rfl, hb1⟩
 have B1 := Lib.hid (bl_alloc (Below.refl _ _) hb1)
 have K1 := Lib.hid (bk_one hb1)
 clear hb1
 go_wp2_with fail
 refine (what_8 _).mono ?_
 rintro e w2 ⟨rfl, hb2⟩
 have B2 := Lib.hid (bl_trans B1.out hb2)
 have K2 := Lib.hid (bk_below K1.out hb2)
 clear hb2
 have lt2 := bk_lt K2.out
 have c0 := bk_cell K2.out 0
 have c1 := bk_cell K2.out 1
 have c2 := bk_cell K2.out 2
 have c3 := bk_cell K2.out 3
 have c4 := bk_cell K2.out 4
 go_wp2_with fail
 go_loop [8] (fun v => ∃ i : Int, 0 ≤ i ∧ i ≤ 2 ∧ v = .int .i64 i ∧ Hid (pre (belowB x1 8) (rightsB x2) true true i.toNat = true)) (fun v => (2 - intOf v).toNat)
 case atStart => exact ⟨0, by omega, by omega, rfl, rfl⟩
 case round =>
  obtain ⟨i, hi0, hi, rfl, hp⟩ := hrel
  have hc : i = 0 ∨ i = 1 ∨ i = 2 := by omega
  clear hi0 hi
  rcases hc with rfl | rfl | rfl
  ·by_cases h : x1 < 8
   ·skip
    go_wp2_with fail
    go_round
    case rel => exact ⟨1, by omega, by omega, rfl, by have hb : belowB x1 8 = true := decide_eq_true (by omega); show pre (belowB x1 8) (rightsB x2) true true 1 = true; simp [pre, hb]⟩
    case measure => simp [intOf]
   ·skip
    have HR : Hid (res4 (belowB x1 8) (rightsB x2) true true = 2) := by
     have hb : belowB x1 8 = false := decide_eq_false (by omega)
     show res4 (belowB x1 8) (rightsB x2) true true = 2
     simp [res4, pre, hb]
    go_wp2_with fail
    go_ret
    exact ⟨by rw [HR.out]; rfl, B2.out⟩
  ·by_cases h : x2 < 1
   ·skip
    have HR : Hid (res4 (belowB x1 8) (rightsB x2) true true = 2) := by
     have hb : rightsB x2 = false := decide_eq_false (by omega)
     show res4 (belowB x1 8) (rightsB x2) true true = 2
     simp [res4, pre, hb]
    go_wp2_with fail
    go_ret
    exact ⟨by rw [HR.out]; rfl, B2.out⟩
   by_cases h2 : x2 ≤ 3
   ·skip
    go_wp2_with fail
    go_round
    case rel => exact ⟨2, by omega, by omega, rfl, by have h1 : pre (belowB x1 8) (rightsB x2) true true 1 = true := hp.out; have hb : rightsB x2 = true := decide_eq_true (by omega); show pre (belowB x1 8) (rightsB x2) true true 2 = true; simp only [pre, List.take, List.all, Bool.and_eq_true, id] at h1 ⊢; simp [h1, hb]⟩
    case measure => simp [intOf]
   ·skip
    have HR : Hid (res4 (belowB x1 8) (rightsB x2) true true = 2) := by
     have hb : rightsB x2 = false := decide_eq_false (by omega)
     show res4 (belowB x1 8) (rightsB x2) true true = 2
     simp [res4, pre, hb]
    go_wp2_with fail
    go_ret
    exact ⟨by rw [HR.out]; rfl, B2.out⟩
  ·have h1 : pre (belowB x1 8) (rightsB x2) true true 2 = true := hp.out
   have HR : Hid (res4 (belowB x1 8) (rightsB x2) true true = 0) := by
    show res4 (belowB x1 8) (rightsB x2) true true = 0
    simp only [pre, List.take, List.all, Bool.and_eq_true, id] at h1
    simp [res4, pre, h1]
   clear h1
   go_wp2_with fail
   go_ret
   exact ⟨by rw [HR.out]; rfl, B2.out⟩
set_option maxRecDepth 20000 in
set_option maxHeartbeats 2000000 in
theorem ref_check_9 (x1 x2 x3 x4 envs : Int) (hx : wordsIn 9 x1 x2 x3 x4) (he : intIn envs) (w : World) :
  Calls Tryz.prog 50 #[callV 9 x1 x2 x3 x4, .int .i64 envs] w fun e w' => e = .returned (.int .i64 (res4 (belowB x1 8) (belowB x2 16) (operB x3) (true))) ∧ Below w.heap.size w w' := by
 obtain ⟨_, ⟨p1, q1⟩, ⟨p2, q2⟩, ⟨p3, q3⟩, p4, q4⟩ := hx
 obtain ⟨e1, e2⟩ := he
 have HK := Lib.hid (fun W => Kind_is 9 x1 x2 x3 x4 rfl W)
 go_enter Tryz.func50, Tryz.ntmps50
 go_wp2_with fail
 refine (HK.out _).mono ?_
 rintro e w1 ⟨rfl, hb1⟩
 have B1 := Lib.hid (bl_alloc (Below.refl _ _) hb1)
 have K1 := Lib.hid (bk_one hb1)
 clear hb1
 go_wp2_with fail
 refine (what_9 _).mono ?_
 rintro e w2 ⟨rfl, hb2⟩
 have B2 := Lib.hid (bl_trans B1.out hb2)
 have K2 := Lib.hid (bk_below K1.out hb2)
 clear hb2
 have lt2 := bk_lt K2.out
 have c0 := bk_cell K2.out 0
 have c1 := bk_cell K2.out 1
 have c2 := bk_cell K2.out 2
 have c3 := bk_cell K2.out 3
 have c4 := bk_cell K2.out 4
 go_wp2_with fail
 go_loop [8] (fun v => ∃ i : Int, 0 ≤ i ∧ i ≤ 4 ∧ v = .int .i64 i ∧ Hid (pre (belowB x1 8) (belowB x2 16) (operB x3) (true) i.toNat = true)) (fun v => (4 - intOf v).toNat)
 case atStart => exact ⟨0, by omega, by omega, rfl, rfl⟩
 case round =>
  obtain ⟨i, hi0, hi, rfl, hp⟩ := hrel
  have hc : i = 0 ∨ i = 1 ∨ i = 2 ∨ i = 3 ∨ i = 4 := by omega
  clear hi0 hi
  rcases hc with rfl | rfl | rfl | rfl | rfl
  ·by_cases h : x1 < 8
   ·skip
    go_wp2_with fail
    go_round
    case rel => exact ⟨1, by omega, by omega, rfl, by have hb : belowB x1 8 = true := decide_eq_true (by omega); show pre (belowB x1 8) (belowB x2 16) (operB x3) (true) 1 = true; simp [pre, hb]⟩
    case measure => simp [intOf]
   ·skip
    have HR : Hid (res4 (belowB x1 8) (belowB x2 16) (operB x3) (true) = 2) := by
     have hb : belowB x1 8 = false := decide_eq_false (by omega)
     show res4 (belowB x1 8) (belowB x2 16) (operB x3) (true) = 2
     simp [res4, pre, hb]
    go_wp2_with fail
    go_ret
    exact ⟨by rw [HR.out]; rfl, B2.out⟩
  ·by_cases h : x2 < 16
   ·skip
    go_wp2_with fail
    go_round
    case rel => exact ⟨2, by omega, by omega, rfl, by have h1 : pre (belowB x1 8) (belowB x2 16) (operB x3) (true) 1 = true := hp.out; have hb : belowB x2 16 = true := decide_eq_true (by omega); show pre (belowB x1 8) (belowB x2 16) (operB x3) (true) 2 = true; simp only [pre, List.take, List.all, Bool.and_eq_true, id] at h1 ⊢; simp [h1, hb]⟩
    case measure => simp [intOf]
   ·skip
    have HR : Hid (res4 (belowB x1 8) (belowB x2 16) (operB x3) (true) = 2) := by
     have hb : belowB x2 16 = false := decide_eq_false (by omega)
     show res4 (belowB x1 8) (belowB x2 16) (operB x3) (true) = 2
     simp [res4, pre, hb]
    go_wp2_with fail
    go_ret
    exact ⟨by rw [HR.out]; rfl, B2.out⟩
  ·by_cases h : x3 < 1
   ·skip
    have HR : Hid (res4 (belowB x1 8) (belowB x2 16) (operB x3) (true) = 2) := by
     have hb : operB x3 = false := decide_eq_false (by omega)
     show res4 (belowB x1 8) (belowB x2 16) (operB x3) (true) = 2
     simp [res4, pre, hb]
    go_wp2_with fail
    go_ret
    exact ⟨by rw [HR.out]; rfl, B2.out⟩
   by_cases h2 : x3 ≤ 4
   ·skip
    go_wp2_with fail
    go_round
    case rel => exact ⟨3, by omega, by omega, rfl, by have h1 : pre (belowB x1 8) (belowB x2 16) (operB x3) (true) 2 = true := hp.out; have hb : operB x3 = true := decide_eq_true (by omega); show pre (belowB x1 8) (belowB x2 16) (operB x3) (true) 3 = true; simp only [pre, List.take, List.all, Bool.and_eq_true, id] at h1 ⊢; simp [h1, hb]⟩
    case measure => simp [intOf]
   ·skip
    have HR : Hid (res4 (belowB x1 8) (belowB x2 16) (operB x3) (true) = 2) := by
     have hb : operB x3 = false := decide_eq_false (by omega)
     show res4 (belowB x1 8) (belowB x2 16) (operB x3) (true) = 2
     simp [res4, pre, hb]
    go_wp2_with fail
    go_ret
    exact ⟨by rw [HR.out]; rfl, B2.out⟩
  ·go_wp2_with fail
   go_round
   case rel => exact ⟨4, by omega, by omega, rfl, by have h1 : pre (belowB x1 8) (belowB x2 16) (operB x3) (true) 3 = true := hp.out; show pre (belowB x1 8) (belowB x2 16) (operB x3) (true) 4 = true; simp only [pre, List.take, List.all, Bool.and_eq_true, id] at h1 ⊢; simp [h1]⟩
   case measure => simp [intOf]
  ·have h1 : pre (belowB x1 8) (belowB x2 16) (operB x3) (true) 4 = true := hp.out
   have HR : Hid (res4 (belowB x1 8) (belowB x2 16) (operB x3) (true) = 0) := by
    show res4 (belowB x1 8) (belowB x2 16) (operB x3) (true) = 0
    simp only [pre, List.take, List.all, Bool.and_eq_true, id] at h1
    simp [res4, pre, h1]
   clear h1
   go_wp2_with fail
   go_ret
   exact ⟨by rw [HR.out]; rfl, B2.out⟩
set_option maxRecDepth 20000 in
set_option maxHeartbeats 2000000 in
theorem ref_check_10 (x1 x2 x3 x4 envs : Int) (hx : wordsIn 10 x1 x2 x3 x4) (he : intIn envs) (w : World) :
  Calls Tryz.prog 50 #[callV 10 x1 x2 x3 x4, .int .i64 envs] w fun e w' => e = .returned (.int .i64 (res4 true true true true)) ∧ Below w.heap.size w w' := by
 obtain ⟨_, ⟨p1, q1⟩, ⟨p2, q2⟩, ⟨p3, q3⟩, p4, q4⟩ := hx
 obtain ⟨e1, e2⟩ := he
 have HK := Lib.hid (fun W => Kind_is 10 x1 x2 x3 x4 rfl W)
 go_enter Tryz.func50, Tryz.ntmps50
 go_wp2_with fail
 refine (HK.out _).mono ?_
 rintro e w1 ⟨rfl, hb1⟩
 have B1 := Lib.hid (bl_alloc (Below.refl _ _) hb1)
 have K1 := Lib.hid (bk_one hb1)
 clear hb1
 go_wp2_with fail
 refine (what_10 _).mono ?_
 rintro e w2 ⟨rfl, hb2⟩
 have B2 := Lib.hid (bl_trans B1.out hb2)
 have K2 := Lib.hid (bk_below K1.out hb2)
 clear hb2
 have lt2 := bk_lt K2.out
 have c0 := bk_cell K2.out 0
 have c1 := bk_cell K2.out 1
 have c2 := bk_cell K2.out 2
 have c3 := bk_cell K2.out 3
 have c4 := bk_cell K2.out 4
 go_wp2_with fail
 go_loop [8] (fun v => ∃ i : Int, 0 ≤ i ∧ i ≤ 0 ∧ v = .int .i64 i ∧ Hid (pre true true true true i.toNat = true)) (fun v => (0 - intOf v).toNat)
 case atStart => exact ⟨0, by omega, by omega, rfl, rfl⟩
 case round =>
  obtain ⟨i, hi0, hi, rfl, hp⟩ := hrel
  have hc : i = 0 := by omega
  clear hi0 hi
  subst hc
  have HR : Hid (res4 true true true true = 0) := rfl
  go_wp2_with fail
  go_ret
  exact ⟨by rw [HR.out]; rfl, B2.out⟩
set_option maxRecDepth 20000 in
set_option maxHeartbeats 2000000 in
theorem ref_check_20 (x1 x2 x3 x4 envs : Int) (hx : wordsIn 20 x1 x2 x3 x4) (he : intIn envs) (w : World) :
  Calls Tryz.prog 50 #[callV 20 x1 x2 x3 x4, .int .i64 envs] w fun e w' => e = .returned (.int .i64 (res4 (belowB x1 8) (belowB x2 16) true true)) ∧ Below w.heap.size w w' := by
 obtain ⟨_, ⟨p1, q1⟩, ⟨p2, q2⟩, ⟨p3, q3⟩, p4, q4⟩ := hx
 obtain ⟨e1, e2⟩ := he
 have HK := Lib.hid (fun W => Kind_is 20 x1 x2 x3 x4 rfl W)
 go_enter Tryz.func50, Tryz.ntmps50
 go_wp2_with fail
 refine (HK.out _).mono ?_
 rintro e w1 ⟨rfl, hb1⟩
 have B1 := Lib.hid (bl_alloc (Below.refl _ _) hb1)
 have K1 := Lib.hid (bk_one hb1)
 clear hb1
 go_wp2_with fail
 refine (what_20 _).mono ?_
 rintro e w2 ⟨rfl, hb2⟩
 have B2 := Lib.hid (bl_trans B1.out hb2)
 have K2 := Lib.hid (bk_below K1.out hb2)
 clear hb2
 have lt2 := bk_lt K2.out
 have c0 := bk_cell K2.out 0
 have c1 := bk_cell K2.out 1
 have c2 := bk_cell K2.out 2
 have c3 := bk_cell K2.out 3
 have c4 := bk_cell K2.out 4
 go_wp2_with fail
 go_loop [8] (fun v => ∃ i : Int, 0 ≤ i ∧ i ≤ 2 ∧ v = .int .i64 i ∧ Hid (pre (belowB x1 8) (belowB x2 16) true true i.toNat = true)) (fun v => (2 - intOf v).toNat)
 case atStart => exact ⟨0, by omega, by omega, rfl, rfl⟩
 case round =>
  obtain ⟨i, hi0, hi, rfl, hp⟩ := hrel
  have hc : i = 0 ∨ i = 1 ∨ i = 2 := by omega
  clear hi0 hi
  rcases hc with rfl | rfl | rfl
  ·by_cases h : x1 < 8
   ·skip
    go_wp2_with fail
    go_round
    case rel => exact ⟨1, by omega, by omega, rfl, by have hb : belowB x1 8 = true := decide_eq_true (by omega); show pre (belowB x1 8) (belowB x2 16) true true 1 = true; simp [pre, hb]⟩
    case measure => simp [intOf]
   ·skip
    have HR : Hid (res4 (belowB x1 8) (belowB x2 16) true true = 2) := by
     have hb : belowB x1 8 = false := decide_eq_false (by omega)
     show res4 (belowB x1 8) (belowB x2 16) true true = 2
     simp [res4, pre, hb]
    go_wp2_with fail
    go_ret
    exact ⟨by rw [HR.out]; rfl, B2.out⟩
  ·by_cases h : x2 < 16
   ·skip
    go_wp2_with fail
    go_round
    case rel => exact ⟨2, by omega, by omega, rfl, by have h1 : pre (belowB x1 8) (belowB x2 16) true true 1 = true := hp.out; have hb : belowB x2 16 = true := decide_eq_true (by omega); show pre (belowB x1 8) (belowB x2 16) true true 2 = true; simp only [pre, List.take, List.all, Bool.and_eq_true, id] at h1 ⊢; simp [h1, hb]⟩
    case measure => simp [intOf]
   ·skip
    have HR : Hid (res4 (belowB x1 8) (belowB x2 16) true true = 2) := by
     have hb : belowB x2 16 = false := decide_eq_false (by omega)
     show res4 (belowB x1 8) (belowB x2 16) true true = 2
     simp [res4, pre, hb]
    go_wp2_with fail
    go_ret
    exact ⟨by rw [HR.out]; rfl, B2.out⟩
  ·have h1 : pre (belowB x1 8) (belowB x2 16) true true 2 = true := hp.out
   have HR : Hid (res4 (belowB x1 8) (belowB x2 16) true true = 0) := by
    show res4 (belowB x1 8) (belowB x2 16) true true = 0
    simp only [pre, List.take, List.all, Bool.and_eq_true, id] at h1
    simp [res4, pre, h1]
   clear h1
   go_wp2_with fail
   go_ret
   exact ⟨by rw [HR.out]; rfl, B2.out⟩
set_option maxRecDepth 20000 in
set_option maxHeartbeats 2000000 in
theorem ref_check_21 (x1 x2 x3 x4 envs : Int) (hx : wordsIn 21 x1 x2 x3 x4) (he : intIn envs) (w : World) :
  Calls Tryz.prog 50 #[callV 21 x1 x2 x3 x4, .int .i64 envs] w fun e w' => e = .returned (.int .i64 (res4 (belowB x1 8) (belowB x2 16) (true) true)) ∧ Below w.heap.size w w' := by
 obtain ⟨_, ⟨p1, q1⟩, ⟨p2, q2⟩, ⟨p3, q3⟩, p4, q4⟩ := hx
 obtain ⟨e1, e2⟩ := he
 have HK := Lib.hid (fun W => Kind_is 21 x1 x2 x3 x4 rfl W)
 go_enter Tryz.func50, Tryz.ntmps50
 go_wp2_with fail
 refine (HK.out _).mono ?_
 rintro e w1 ⟨rfl, hb1⟩
 have B1 := Lib.hid (bl_alloc (Below.refl _ _) hb1)
 have K1 := Lib.hid (bk_one hb1)
 clear hb1
 go_wp2_with fail
 refine (what_21 _).mono ?_
 rintro e w2 ⟨rfl, hb2⟩
 have B2 := Lib.hid (bl_trans B1.out hb2)
 have K2 := Lib.hid (bk_below K1.out hb2)
 clear hb2
 have lt2 := bk_lt K2.out
 have c0 := bk_cell K2.out 0
 have c1 := bk_cell K2.out 1
 have c2 := bk_cell K2.out 2
 have c3 := bk_cell K2.out 3
 have c4 := bk_cell K2.out 4
 go_wp2_with fail
 go_loop [8] (fun v => ∃ i : Int, 0 ≤ i ∧ i ≤ 3 ∧ v = .int .i64 i ∧ Hid (pre (belowB x1 8) (belowB x2 16) (true) true i.toNat = true)) (fun v => (3 - intOf v).toNat)
 case atStart => exact ⟨0, by omega, by omega, rfl, rfl⟩
 case round =>
  obtain ⟨i, hi0, hi, rfl, hp⟩ := hrel
  have hc : i = 0 ∨ i = 1 ∨ i = 2 ∨ i = 3 := by omega
  clear hi0 hi
  rcases hc with rfl | rfl | rfl | rfl
  ·by_cases h : x1 < 8
   ·skip
    go_wp2_with fail
    go_round
    case rel => exact ⟨1, by omega, by omega, rfl, by have hb : belowB x1 8 = true := decide_eq_true (by omega); show pre (belowB x1 8) (belowB x2 16) (true) true 1 = true; simp [pre, hb]⟩
    case measure => simp [intOf]
   ·skip
    have HR : Hid (res4 (belowB x1 8) (belowB x2 16) (true) true = 2) := by
     have hb : belowB x1 8 = false := decide_eq_false (by omega)
     show res4 (belowB x1 8) (belowB x2 16) (true) true = 2
     simp [res4, pre, hb]
    go_wp2_with fail
    go_ret
    exact ⟨by rw [HR.out]; rfl, B2.out⟩
  ·by_cases h : x2 < 16
   ·skip
    go_wp2_with fail
    go_round
    case rel => exact ⟨2, by omega, by omega, rfl, by have h1 : pre (belowB x1 8) (belowB x2 16) (true) true 1 = true := hp.out; have hb : belowB x2 16 = true := decide_eq_true (by omega); show pre (belowB x1 8) (belowB x2 16) (true) true 2 = true; simp only [pre, List.take, List.all, Bool.and_eq_true, id] at h1 ⊢; simp [h1, hb]⟩
    case measure => simp [intOf]
   ·skip
    have HR : Hid (res4 (belowB x1 8) (belowB x2 16) (true) true = 2) := by
     have hb : belowB x2 16 = false := decide_eq_false (by omega)
     show res4 (belowB x1 8) (belowB x2 16) (true) true = 2
     simp [res4, pre, hb]
    go_wp2_with fail
    go_ret
    exact ⟨by rw [HR.out]; rfl, B2.out⟩
  ·go_wp2_with fail
   go_round
   case rel => exact ⟨3, by omega, by omega, rfl, by have h1 : pre (belowB x1 8) (belowB x2 16) (true) true 2 = true := hp.out; show pre (belowB x1 8) (belowB x2 16) (true) true 3 = true; simp only [pre, List.take, List.all, Bool.and_eq_true, id] at h1 ⊢; simp [h1]⟩
   case measure => simp [intOf]
  ·have h1 : pre (belowB x1 8) (belowB x2 16) (true) true 3 = true := hp.out
   have HR : Hid (res4 (belowB x1 8) (belowB x2 16) (true) true = 0) := by
    show res4 (belowB x1 8) (belowB x2 16) (true) true = 0
    simp only [pre, List.take, List.all, Bool.and_eq_true, id] at h1
    simp [res4, pre, h1]
   clear h1
   go_wp2_with fail
   go_ret
   exact ⟨by rw [HR.out]; rfl, B2.out⟩
set_option maxRecDepth 20000 in
set_option maxHeartbeats 2000000 in
theorem ref_check_22 (x1 x2 x3 x4 envs : Int) (hx : wordsIn 22 x1 x2 x3 x4) (he : intIn envs) (w : World) :
  Calls Tryz.prog 50 #[callV 22 x1 x2 x3 x4, .int .i64 envs] w fun e w' => e = .returned (.int .i64 (res4 (belowB x1 8) (belowB x2 16) (true) (true))) ∧ Below w.heap.size w w' := by
 obtain ⟨_, ⟨p1, q1⟩, ⟨p2, q2⟩, ⟨p3, q3⟩, p4, q4⟩ := hx
 obtain ⟨e1, e2⟩ := he
 have HK := Lib.hid (fun W => Kind_is 22 x1 x2 x3 x4 rfl W)
 go_enter Tryz.func50, Tryz.ntmps50
 go_wp2_with fail
 refine (HK.out _).mono ?_
 rintro e w1 ⟨rfl, hb1⟩
 have B1 := Lib.hid (bl_alloc (Below.refl _ _) hb1)
 have K1 := Lib.hid (bk_one hb1)
 clear hb1
 go_wp2_with fail
 refine (what_22 _).mono ?_
 rintro e w2 ⟨rfl, hb2⟩
 have B2 := Lib.hid (bl_trans B1.out hb2)
 have K2 := Lib.hid (bk_below K1.out hb2)
 clear hb2
 have lt2 := bk_lt K2.out
 have c0 := bk_cell K2.out 0
 have c1 := bk_cell K2.out 1
 have c2 := bk_cell K2.out 2
 have c3 := bk_cell K2.out 3
 have c4 := bk_cell K2.out 4
 go_wp2_with fail
 go_loop [8] (fun v => ∃ i : Int, 0 ≤ i ∧ i ≤ 4 ∧ v = .int .i64 i ∧ Hid (pre (belowB x1 8) (belowB x2 16) (true) (true) i.toNat = true)) (fun v => (4 - intOf v).toNat)
 case atStart => exact ⟨0, by omega, by omega, rfl, rfl⟩
 case round =>
  obtain ⟨i, hi0, hi, rfl, hp⟩ := hrel
  have hc : i = 0 ∨ i = 1 ∨ i = 2 ∨ i = 3 ∨ i = 4 := by omega
  clear hi0 hi
  rcases hc with rfl | rfl | rfl | rfl | rfl
  ·by_cases h : x1 < 8
   ·skip
    go_wp2_with fail
    go_round
    case rel => exact ⟨1, by omega, by omega, rfl, by have hb : belowB x1 8 = true := decide_eq_true (by omega); show pre (belowB x1 8) (belowB x2 16) (true) (true) 1 = true; simp [pre, hb]⟩
    case measure => simp [intOf]
   ·skip
    have HR : Hid (res4 (belowB x1 8) (belowB x2 16) (true) (true) = 2) := by
     have hb : belowB x1 8 = false := decide_eq_false (by omega)
     show res4 (belowB x1 8) (belowB x2 16) (true) (true) = 2
     simp [res4, pre, hb]
    go_wp2_with fail
    go_ret
    exact ⟨by rw [HR.out]; rfl, B2.out⟩
  ·by_cases h : x2 < 16
   ·skip
    go_wp2_with fail
    go_round
    case rel => exact ⟨2, by omega, by omega, rfl, by have h1 : pre (belowB x1 8) (belowB x2 16) (true) (true) 1 = true := hp.out; have hb : belowB x2 16 = true := decide_eq_true (by omega); show pre (belowB x1 8) (belowB x2 16) (true) (true) 2 = true; simp only [pre, List.take, List.all, Bool.and_eq_true, id] at h1 ⊢; simp [h1, hb]⟩
    case measure => simp [intOf]
   ·skip
    have HR : Hid (res4 (belowB x1 8) (belowB x2 16) (true) (true) = 2) := by
     have hb : belowB x2 16 = false := decide_eq_false (by omega)
     show res4 (belowB x1 8) (belowB x2 16) (true) (true) = 2
     simp [res4, pre, hb]
    go_wp2_with fail
    go_ret
    exact ⟨by rw [HR.out]; rfl, B2.out⟩
  ·go_wp2_with fail
   go_round
   case rel => exact ⟨3, by omega, by omega, rfl, by have h1 : pre (belowB x1 8) (belowB x2 16) (true) (true) 2 = true := hp.out; show pre (belowB x1 8) (belowB x2 16) (true) (true) 3 = true; simp only [pre, List.take, List.all, Bool.and_eq_true, id] at h1 ⊢; simp [h1]⟩
   case measure => simp [intOf]
  ·go_wp2_with fail
   go_round
   case rel => exact ⟨4, by omega, by omega, rfl, by have h1 : pre (belowB x1 8) (belowB x2 16) (true) (true) 3 = true := hp.out; show pre (belowB x1 8) (belowB x2 16) (true) (true) 4 = true; simp only [pre, List.take, List.all, Bool.and_eq_true, id] at h1 ⊢; simp [h1]⟩
   case measure => simp [intOf]
  ·have h1 : pre (belowB x1 8) (belowB x2 16) (true) (true) 4 = true := hp.out
   have HR : Hid (res4 (belowB x1 8) (belowB x2 16) (true) (true) = 0) := by
    show res4 (belowB x1 8) (belowB x2 16) (true) (true) = 0
    simp only [pre, List.take, List.all, Bool.and_eq_true, id] at h1
    simp [res4, pre, h1]
   clear h1
   go_wp2_with fail
   go_ret
   exact ⟨by rw [HR.out]; rfl, B2.out⟩
set_option maxRecDepth 20000 in
set_option maxHeartbeats 2000000 in
theorem ref_check_23 (x1 x2 x3 x4 envs : Int) (hx : wordsIn 23 x1 x2 x3 x4) (he : intIn envs) (w : World) :
  Calls Tryz.prog 50 #[callV 23 x1 x2 x3 x4, .int .i64 envs] w fun e w' => e = .returned (.int .i64 (res4 (belowB x1 8) (belowB x2 16) (true) true)) ∧ Below w.heap.size w w' := by
 obtain ⟨_, ⟨p1, q1⟩, ⟨p2, q2⟩, ⟨p3, q3⟩, p4, q4⟩ := hx
 obtain ⟨e1, e2⟩ := he
 have HK := Lib.hid (fun W => Kind_is 23 x1 x2 x3 x4 rfl W)
 go_enter Tryz.func50, Tryz.ntmps50
 go_wp2_with fail
 refine (HK.out _).mono ?_
 rintro e w1 ⟨rfl, hb1⟩
 have B1 := Lib.hid (bl_alloc (Below.refl _ _) hb1)
 have K1 := Lib.hid (bk_one hb1)
 clear hb1
 go_wp2_with fail
 refine (what_23 _).mono ?_
 rintro e w2 ⟨rfl, hb2⟩
 have B2 := Lib.hid (bl_trans B1.out hb2)
 have K2 := Lib.hid (bk_below K1.out hb2)
 clear hb2
 have lt2 := bk_lt K2.out
 have c0 := bk_cell K2.out 0
 have c1 := bk_cell K2.out 1
 have c2 := bk_cell K2.out 2
 have c3 := bk_cell K2.out 3
 have c4 := bk_cell K2.out 4
 go_wp2_with fail
 go_loop [8] (fun v => ∃ i : Int, 0 ≤ i ∧ i ≤ 3 ∧ v = .int .i64 i ∧ Hid (pre (belowB x1 8) (belowB x2 16) (true) true i.toNat = true)) (fun v => (3 - intOf v).toNat)
 case atStart => exact ⟨0, by omega, by omega, rfl, rfl⟩
 case round =>
  obtain ⟨i, hi0, hi, rfl, hp⟩ := hrel
  have hc : i = 0 ∨ i = 1 ∨ i = 2 ∨ i = 3 := by omega
  clear hi0 hi
  rcases hc with rfl | rfl | rfl | rfl
  ·by_cases h : x1 < 8
   ·skip
    go_wp2_with fail
    go_round
    case rel => exact ⟨1, by omega, by omega, rfl, by have hb : belowB x1 8 = true := decide_eq_true (by omega); show pre (belowB x1 8) (belowB x2 16) (true) true 1 = true; simp [pre, hb]⟩
    case measure => simp [intOf]
   ·skip
    have HR : Hid (res4 (belowB x1 8) (belowB x2 16) (true) true = 2) := by
     have hb : belowB x1 8 = false := decide_eq_false (by omega)
     show res4 (belowB x1 8) (belowB x2 16) (true) true = 2
     simp [res4, pre, hb]
    go_wp2_with fail
    go_ret
    exact ⟨by rw [HR.out]; rfl, B2.out⟩
  ·by_cases h : x2 < 16
   ·skip
    go_wp2_with fail
    go_round
    case rel => exact ⟨2, by omega, by omega, rfl, by have h1 : pre (belowB x1 8) (belowB x2 16) (true) true 1 = true := hp.out; have hb : belowB x2 16 = true := decide_eq_true (by omega); show pre (belowB x1 8) (belowB x2 16) (true) true 2 = true; simp only [pre, List.take, List.all, Bool.and_eq_true, id] at h1 ⊢; simp [h1, hb]⟩
    case measure => simp [intOf]
   ·skip
    have HR : Hid (res4 (belowB x1 8) (belowB x2 16) (true) true = 2) := by
     have hb : belowB x2 16 = false := decide_eq_false (by omega)
     show res4 (belowB x1 8) (belowB x2 16) (true) true = 2
     simp [res4, pre, hb]
    go_wp2_with fail
    go_ret
    exact ⟨by rw [HR.out]; rfl, B2.out⟩
  ·go_wp2_with fail
   go_round
   case rel => exact ⟨3, by omega, by omega, rfl, by have h1 : pre (belowB x1 8) (belowB x2 16) (true) true 2 = true := hp.out; show pre (belowB x1 8) (belowB x2 16) (true) true 3 = true; simp only [pre, List.take, List.all, Bool.and_eq_true, id] at h1 ⊢; simp [h1]⟩
   case measure => simp [intOf]
  ·have h1 : pre (belowB x1 8) (belowB x2 16) (true) true 3 = true := hp.out
   have HR : Hid (res4 (belowB x1 8) (belowB x2 16) (true) true = 0) := by
    show res4 (belowB x1 8) (belowB x2 16) (true) true = 0
    simp only [pre, List.take, List.all, Bool.and_eq_true, id] at h1
    simp [res4, pre, h1]
   clear h1
   go_wp2_with fail
   go_ret
   exact ⟨by rw [HR.out]; rfl, B2.out⟩
theorem Check_any (x0 x1 x2 x3 x4 envs : Int) (hx : wordsIn x0 x1 x2 x3 x4) (he : intIn envs) (w : World) :
  Calls Tryz.prog 47 #[callV x0 x1 x2 x3 x4, .int .i64 envs] w fun e w' => e = .returned (.int .i64 (chkN x0 x1 x2 x3 x4 envs)) ∧ Below w.heap.size w w' := by
 rcases Bool.eq_false_or_eq_true (isKind x0) with h | h
 ·rw [show chkN x0 x1 x2 x3 x4 envs = res4 (mayW (mean x0 0) x1 envs) (mayW (mean x0 1) x2 envs) (mayW (mean x0 2) x3 envs) (mayW (mean x0 3) x4 envs) by simp [chkN, h]]
  refine check_of x0 x1 x2 x3 x4 envs _ _ _ _ _ _ _ _ h (fun W => ?_) (fun W => means_any _ x1 envs (mean_07 x0 0).1 (mean_07 x0 0).2 hx.2.1.1 hx.2.1.2 he.1 he.2 W) (fun W => means_any _ x2 envs (mean_07 x0 1).1 (mean_07 x0 1).2 hx.2.2.1.1 hx.2.2.1.2 he.1 he.2 W)
   (fun W => means_any _ x3 envs (mean_07 x0 2).1 (mean_07 x0 2).2 hx.2.2.2.1.1 hx.2.2.2.1.2 he.1 he.2 W) (fun W => means_any _ x4 envs (mean_07 x0 3).1 (mean_07 x0 3).2 hx.2.2.2.2.1 hx.2.2.2.2.2 he.1 he.2 W) w
  have H := shape_any x0 W
  rw [h] at H
  exact H
 ·rw [show chkN x0 x1 x2 x3 x4 envs = 1 by simp [chkN, h]]
  exact Check_no x0 x1 x2 x3 x4 envs h hx w
theorem ref_Check_any (x0 x1 x2 x3 x4 envs : Int) (hx : wordsIn x0 x1 x2 x3 x4) (he : intIn envs) (w : World) :
  Calls Tryz.prog 50 #[callV x0 x1 x2 x3 x4, .int .i64 envs] w fun e w' => e = .returned (.int .i64 (chkN x0 x1 x2 x3 x4 envs)) ∧ Below w.heap.size w w' := by
 rcases Bool.eq_false_or_eq_true (isKind x0) with h | h
 ·rcases kind_cases h with rfl | rfl | rfl | rfl | rfl | rfl | rfl | rfl | rfl | rfl | rfl | rfl | rfl | rfl
  ·rw [show chkN 1 x1 x2 x3 x4 envs = res4 (belowB x1 8) true true true from rfl]
   exact ref_check_1 x1 x2 x3 x4 envs hx he w
  ·rw [show chkN 2 x1 x2 x3 x4 envs = res4 (belowB x1 8) (belowB x2 8) (rightsB x3) true from rfl]
   exact ref_check_2 x1 x2 x3 x4 envs hx he w
  ·rw [show chkN 3 x1 x2 x3 x4 envs = res4 (belowB x1 8) (belowB x2 envs) (belowB x3 8) (rightsB x4) from rfl]
   exact ref_check_3 x1 x2 x3 x4 envs hx he w
  ·rw [show chkN 4 x1 x2 x3 x4 envs = res4 (belowB x1 8) true true true from rfl]
   exact ref_check_4 x1 x2 x3 x4 envs hx he w
  ·rw [show chkN 5 x1 x2 x3 x4 envs = res4 (belowB x1 8) true true true from rfl]
   exact ref_check_5 x1 x2 x3 x4 envs hx he w
  ·rw [show chkN 6 x1 x2 x3 x4 envs = res4 (belowB x1 8) (belowB x2 8) (rightsB x3) true from rfl]
   exact ref_check_6 x1 x2 x3 x4 envs hx he w
  ·rw [show chkN 7 x1 x2 x3 x4 envs = res4 (belowB x1 8) true true true from rfl]
   exact ref_check_7 x1 x2 x3 x4 envs hx he w
  ·rw [show chkN 8 x1 x2 x3 x4 envs = res4 (belowB x1 8) (rightsB x2) true true from rfl]
   exact ref_check_8 x1 x2 x3 x4 envs hx he w
  ·rw [show chkN 9 x1 x2 x3 x4 envs = res4 (belowB x1 8) (belowB x2 16) (operB x3) (true) from rfl]
   exact ref_check_9 x1 x2 x3 x4 envs hx he w
  ·rw [show chkN 10 x1 x2 x3 x4 envs = res4 true true true true from rfl]
   exact ref_check_10 x1 x2 x3 x4 envs hx he w
  ·rw [show chkN 20 x1 x2 x3 x4 envs = res4 (belowB x1 8) (belowB x2 16) true true from rfl]
   exact ref_check_20 x1 x2 x3 x4 envs hx he w
  ·rw [show chkN 21 x1 x2 x3 x4 envs = res4 (belowB x1 8) (belowB x2 16) (true) true from rfl]
   exact ref_check_21 x1 x2 x3 x4 envs hx he w
  ·rw [show chkN 22 x1 x2 x3 x4 envs = res4 (belowB x1 8) (belowB x2 16) (true) (true) from rfl]
   exact ref_check_22 x1 x2 x3 x4 envs hx he w
  ·rw [show chkN 23 x1 x2 x3 x4 envs = res4 (belowB x1 8) (belowB x2 16) (true) true from rfl]
   exact ref_check_23 x1 x2 x3 x4 envs hx he w
 ·rw [show chkN x0 x1 x2 x3 x4 envs = 1 by simp [chkN, h]]
  exact ref_Check_no x0 x1 x2 x3 x4 envs h hx w
end Go.Proofs.YtdfhfmdelinemaaGreatDoor
namespace Go.Proofs.YtdfhfmdelinemaaGreatDoor
def VU (g : Nat → Int) : Prop :=
 (∀ k, k < 8 → ¬ g (k * 5 + 4) = 0 → 0 ≤ g (k * 5) ∧ g (k * 5) < 4 ∧ 0 ≤ g (k * 5 + 1) ∧ g (k * 5 + 1) < 8 ∧ g (k * 5 + 1) % 4 = ((k / 2 : Nat) : Int)) ∧
 (∀ j k, j < 8 → k < 8 → ¬ g (j * 5 + 4) = 0 → ¬ g (k * 5 + 4) = 0 → g (j * 5) = g (k * 5) → g (j * 5 + 1) = g (k * 5 + 1) → j = k)
theorem VU.start : VU (fun _ => 0) := ⟨fun _ _ h => absurd rfl h, fun _ _ _ _ h => absurd rfl h⟩
theorem VU.page {g : Nat → Int} (h : VU g) {e p : Int} {k : Nat} (hk : k < 8) (hh : hitB g e p k = true) : 0 ≤ p ∧ p < 8 ∧ p % 4 = ((k / 2 : Nat) : Int) := by
 obtain ⟨h0, h1, h2⟩ := of_decide_eq_true hh
 have := h.1 k hk h0
 rw [h2] at this
 exact this.2.2
theorem VU.fill {g : Nat → Int} (h : VU g) {k : Nat} (hk : k < 8) {e p f r : Int} (hl : lineB e p f r = true) (hp : p % 4 = ((k / 2 : Nat) : Int)) (hno : ∀ j, j < 8 → ¬ j = k → hitB g e p j = false) : VU (fillG g k e p f r) := by
 obtain ⟨he, hpp, _, _⟩ := lineB_yes hl
 have key : ∀ m, m < 8 → ¬ m = k → fillG g k e p f r (m * 5) = g (m * 5) ∧ fillG g k e p f r (m * 5 + 1) = g (m * 5 + 1) ∧ fillG g k e p f r (m * 5 + 4) = g (m * 5 + 4) := fun m hm hmk =>
  ⟨fillG_far g k e p f r m 0 hmk (by omega) hm, fillG_far g k e p f r m 1 hmk (by omega) hm, fillG_far g k e p f r m 4 hmk (by omega) hm⟩
 obtain ⟨o0, o1, _, _, o4⟩ := fillG_own g k e p f r
 refine ⟨fun m hm => ?_, fun i j hi hj => ?_⟩
 ·by_cases hmk : m = k
  ·subst hmk
   rw [o0, o1]
   exact fun _ => ⟨he.1, he.2, hpp.1, hpp.2, hp⟩
  ·obtain ⟨k0, k1, k4⟩ := key m hm hmk
   rw [k0, k1, k4]
   exact h.1 m hm
 ·by_cases hik : i = k
  ·subst hik
   by_cases hjk : j = i
   ·exact fun _ _ _ _ => hjk.symm
   ·obtain ⟨k0, k1, k4⟩ := key j hj hjk
    rw [o0, o1, o4, k0, k1, k4]
    intro _ a b c
    have := of_decide_eq_false (hno j hj hjk)
    exact absurd ⟨a, b.symm, c.symm⟩ this
  ·by_cases hjk : j = k
   ·subst hjk
    obtain ⟨k0, k1, k4⟩ := key i hi hik
    rw [o0, o1, o4, k0, k1, k4]
    intro a _ b c
    have := of_decide_eq_false (hno i hi hik)
    exact absurd ⟨a, b, c⟩ this
   ·obtain ⟨k0, k1, k4⟩ := key i hi hik
    obtain ⟨m0, m1, m4⟩ := key j hj hjk
    rw [k0, k1, k4, m0, m1, m4]
    exact h.2 i j hi hj
theorem VU.one {g : Nat → Int} (h : VU g) {e p : Int} {k : Nat} (hk : k < 8) (hh : hitB g e p k = true) : ∀ j, j < 8 → ¬ j = k → hitB g e p j = false := fun j hj hjk => by
 obtain ⟨a0, a1, a2⟩ := of_decide_eq_true hh
 refine decide_eq_false fun ⟨b0, b1, b2⟩ => hjk (h.2 j k hj hk b0 a0 (by omega) (by omega))
def TakenG (g G : Nat → Int) (e p : Int) : Prop := ∀ m, m < 8 → ∀ i, i < 5 → G (m * 5 + i) = if hitB g e p m = true then 0 else g (m * 5 + i)
theorem ffG_all (g : Nat → Int) (f : Int) (m i : Nat) (hi : i < 5) : ∀ k, ffG g f k (m * 5 + i) = if m < k ∧ ¬ g (m * 5 + 4) = 0 ∧ g (m * 5 + 2) = f then 0 else g (m * 5 + i)
 | 0 => by rw [if_neg (by omega)]; rfl
 | k + 1 => by
  have hi' := ffG_all g f m i hi k
  have h2 := ffG_all g f k 2 (by omega) k
  have h4 := ffG_all g f k 4 (by omega) k
  rw [if_neg (by omega)] at h2 h4
  unfold ffG
  rw [h2, h4]
  by_cases hc : ¬ g (k * 5 + 4) = 0 ∧ g (k * 5 + 2) = f
  ·rw [if_pos hc]
   by_cases hmk : m = k
   ·subst hmk
    rw [if_pos ⟨by omega, hc⟩]
    obtain ⟨o0, o1, o2, o3, o4⟩ := clearG_own (ffG g f m) m
    have hcc : i = 0 ∨ i = 1 ∨ i = 2 ∨ i = 3 ∨ i = 4 := by omega
    rcases hcc with rfl | rfl | rfl | rfl | rfl
    ·exact o0
    ·exact o1
    ·exact o2
    ·exact o3
    ·exact o4
   ·rw [clearG_far _ k m i hmk hi, hi']
    by_cases hl : m < k
    ·have hl2 : m < k + 1 := by omega
     simp only [hl, hl2, true_and]
    ·have hl2 : ¬ m < k + 1 := by omega
     simp only [hl, hl2, false_and]
  ·rw [if_neg hc, hi']
   by_cases hmk : m = k
   ·subst hmk
    rw [if_neg (by omega), if_neg (fun h => hc h.2)]
   ·by_cases hl : m < k
    ·have hl2 : m < k + 1 := by omega
     simp only [hl, hl2, true_and]
    ·have hl2 : ¬ m < k + 1 := by omega
     simp only [hl, hl2, false_and]
theorem gone {g G : Nat → Int} {e p f : Int} (h : TakenG g G e p) {m : Nat} (hm : m < 8) (hf : g (m * 5 + 4) = 0) : ffG G f 8 (m * 5 + 4) = 0 := by
 rw [ffG_all G f m 4 (by omega) 8, h m hm 4 (by omega), hf]
 simp
end Go.Proofs.YtdfhfmdelinemaaGreatDoor
namespace Go.Proofs.YtdfhfmdelinemaaGreatDoor
open Go.RowKit Go.Extern.Stop Go.Stop Go.Extern
theorem ln_off (a : Addr) (m j : Nat) (hj : 0 < j) : (⟨(a.add m).block, (a.add m).off + j, none⟩ : Addr) = a.add (m + j) := by
 unfold Addr.add
 by_cases hm : m = 0
 ·subst hm
  rw [if_pos rfl, if_neg (by omega), Nat.zero_add]
 ·rw [if_neg hm, if_neg (by omega), Nat.add_assoc]
end Go.Proofs.YtdfhfmdelinemaaGreatDoor
