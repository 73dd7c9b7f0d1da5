/- What is proved here: the statement PlainRemap: whatever its slice and its words, the statement returns true and leaves what was there. Conditions: package plain keeps its contracts; the slice's numbers are there, the words are words; the statements' own beginning returns true. -/
import Derived.Test.YtbmekfjcpdbapaaGreatDoorGTree
import Derived.Test.YtbmekfjcpdbapaaGreatDoorGPair
import Derived.RegionTactic
import Derived.WalkArith
namespace Go.Proofs.YtbmekfjcpdbapaaGreatDoor
open Go.RowKit Go.Extern.Stop Go.Stop Go.Extern Go.WalkArith
theorem i64_and1 (n : Int) : bits .and .i64 n 1 = n % 2 := by
  have h : bits .and .i64 n 1 = IntKind.i64.wrap ((((n % 18446744073709551616).toNat &&& 1 : Nat)) : Int) := rfl
  rw [h, show (1 : Nat) = 2 ^ 1 - 1 from rfl, Nat.and_two_pow_sub_one_eq_mod]
  have e : (((n % 18446744073709551616).toNat % 2 ^ 1 : Nat) : Int) = n % 2 := by omega
  rw [e, Go.IntWalk.i64_in _ (by omega)]
def rmC (v u : Int) (m j : Nat) : Int := (([[1, 0, 0, 0, 0], [1, 1, 0, 0, 0], [6, 0, 0, 3, 0], [21, 0, 2, v, 0], [7, 0, 0, 0, 0], [6, 0, 1, 3, 0], [21, 0, 2, u, 0], [7, 0, 0, 0, 0]] : List (List Int)).getD m []).getD j 0
def rmV (v u : Int) : Array Value := #[.int .u64 1, .int .u64 0, .int .u64 0, .int .u64 0, .int .u64 0, .int .u64 1, .int .u64 1, .int .u64 0, .int .u64 0, .int .u64 0, .int .u64 6, .int .u64 0, .int .u64 0, .int .u64 3, .int .u64 0, .int .u64 21, .int .u64 0, .int .u64 2, .int .u64 v, .int .u64 0, .int .u64 7, .int .u64 0, .int .u64 0, .int .u64 0, .int .u64 0, .int .u64 6, .int .u64 0, .int .u64 1, .int .u64 3, .int .u64 0, .int .u64 21, .int .u64 0, .int .u64 2, .int .u64 u, .int .u64 0, .int .u64 7, .int .u64 0, .int .u64 0, .int .u64 0, .int .u64 0]
def rmK (v u : Int) : Nat → KernS
  | 0 => newK 1 2 2
  | m + 1 => (kdo (rmK v u m) 0 (rmC v u m 0) (rmC v u m 1) (rmC v u m 2) (rmC v u m 3) (rmC v u m 4)).1
theorem eight {m : Nat} (h : m < 8) : m = 0 ∨ m = 1 ∨ m = 2 ∨ m = 3 ∨ m = 4 ∨ m = 5 ∨ m = 6 ∨ m = 7 := by omega
theorem rm_step (v u : Int) (m : Nat) (h : m < 8) : kdo (rmK v u m) 0 (rmC v u m 0) (rmC v u m 1) (rmC v u m 2) (rmC v u m 3) (rmC v u m 4) = (rmK v u (m + 1), 0, 0, true) := by
  rcases eight h with rfl | rfl | rfl | rfl | rfl | rfl | rfl | rfl <;> kernel_rfl
theorem rm_cells (v u : Int) (m : Nat) (h : m < 8) : (rmV v u)[m * 5]? = some (.int .u64 (rmC v u m 0)) ∧ (rmV v u)[m * 5 + 1]? = some (.int .u64 (rmC v u m 1)) ∧ (rmV v u)[m * 5 + 2]? = some (.int .u64 (rmC v u m 2)) ∧ (rmV v u)[m * 5 + 3]? = some (.int .u64 (rmC v u m 3)) ∧ (rmV v u)[m * 5 + 4]? = some (.int .u64 (rmC v u m 4)) := by
  rcases eight h with rfl | rfl | rfl | rfl | rfl | rfl | rfl | rfl <;> exact ⟨rfl, rfl, rfl, rfl, rfl⟩
theorem rm_words (v u : Int) (hv : 0 ≤ v ∧ v < 18446744073709551616) (hu : 0 ≤ u ∧ u < 18446744073709551616) (m : Nat) (h : m < 8) : wordsIn (rmC v u m 0) (rmC v u m 1) (rmC v u m 2) (rmC v u m 3) (rmC v u m 4) := by
  rcases eight h with rfl | rfl | rfl | rfl | rfl | rfl | rfl | rfl <;> (unfold wordsIn rmC; simp; try omega)
def rmM (v u : Int) (s : Int) : KernS := (rmK v u 8).setPte 0 5 ⟨s, s, 1⟩
theorem rm_turn (v u s : Int) (hs : s = 0 ∨ s = 1) : kdo (rmK v u 8) 0 6 5 s 1 0 = (rmM v u s, 0, 0, true) ∧ kdo (rmM v u s) 0 20 5 2 0 0 = (rmM v u s, 0, (if s = 0 then v else u), true) ∧ kdo (rmM v u s) 0 6 5 (1 - s) 1 0 = (rmM v u s, 4, 0, true) := by
  rcases hs with rfl | rfl <;> (refine ⟨?_, ?_, ?_⟩ <;> kernel_rfl)
theorem rm_back (v u s : Int) (hs : s = 0 ∨ s = 1) : kdo (rmM v u s) 0 7 5 0 0 0 = (rmK v u 8, 0, 0, true) := by
  have e : (rmM v u s).setPte 0 5 ⟨0, 0, 0⟩ = rmK v u 8 := by
    unfold rmM
    rw [setPte_twice]
    exact setPte_same (by kernel_rfl)
  have g : kdo (rmM v u s) 0 7 5 0 0 0 = ((rmM v u s).setPte 0 5 ⟨0, 0, 0⟩, 0, 0, true) := by
    clear e
    rcases hs with rfl | rfl <;> kernel_rfl
  rw [g, e]
set_option maxRecDepth 100000 in
set_option maxHeartbeats 8000000 in
theorem premap_any {At : World → (Nat → Prop) → Nat → KernS → Prop} (H : PlainC At) (ao : Option Addr) (a : Addr) (len cap : Nat) (hao : 0 < len → ao = some a) (E : Nat → Int) (v u : Int) (hv : 0 ≤ v ∧ v < 18446744073709551616) (hu : 0 ≤ u ∧ u < 18446744073709551616) (w : World) (hz : ∀ i, i < len → w.cell? (a.add i) = some (.int .i64 (E i))) (hbeg : BegunAt11 w) :
    Calls Tryz.prog 15 #[.slice ao len cap, .int .u64 v, .int .u64 u] w fun e w' => e = .returned (.bool true) ∧ Below w.heap.size w w' := by
  have HB := Lib.hid hbeg
  have HH := Lib.hid H
  have HA := Lib.hid hao
  have HZ := Lib.hid hz
  have HWD := Lib.hid (rm_words v u hv hu)
  clear hbeg H hao hz hv hu
  go_enter Tryz.func15, Tryz.ntmps15
  go_wp2_with fail
  refine HB.out.mono ?_
  rintro e w1 ⟨rfl, hb1⟩
  have B1 := Lib.hid hb1
  clear hb1 HB
  go_wp2_with fail
  refine (small_any HH.out 2 B1.out (by omega)).mono ?_
  rintro e w2 ⟨P, rfl, hr⟩
  have R2 : Hid (KRun HH.out w P (rmK v u 0) [] w2) := hr
  have RB := Lib.hid (R2.out.box (.cells (rmV v u) 36))
  clear hr B1 R2
  unfold rmV at RB
  go_wp2_with fail
  go_loopw [34] (fun mv W => ∃ m : Nat, mv = .int .i64 m ∧ m ≤ 8 ∧ KRun HH.out w P (rmK v u m) [fixT w2.heap.size (.cells (rmV v u) 36)] W) (fun mv _ => (8 - intOf mv).toNat)
  case atStart => exact ⟨0, rfl, by omega, RB.out⟩
  case round =>
    clear RB
    obtain ⟨m, rfl, hm8, h⟩ := hrel
    have RM := Lib.hid h
    clear h
    by_cases hm : m < 8
    · have m0 : (0 : Int) ≤ (m : Int) := by omega
      have m1 : (m : Int) < 8 := by omega
      obtain ⟨d0, d1, d2, d3, d4⟩ := rm_cells v u m hm
      have HS := Lib.hid (rm_step v u m hm)
      have HW := Lib.hid (HWD.out m hm)
      have k1 := RM.out.read (List.mem_cons_self ..)
      have z0 := (bk_cell k1 (m * 5)).trans d0
      have z1 := (bk_cell k1 (m * 5 + 1)).trans d1
      have z2 := (bk_cell k1 (m * 5 + 2)).trans d2
      have z3 := (bk_cell k1 (m * 5 + 3)).trans d3
      have z4 := (bk_cell k1 (m * 5 + 4)).trans d4
      have lz := bk_lt k1
      clear k1 d0 d1 d2 d3 d4
      generalize rmC v u m 0 = x0 at z0 HS HW
      generalize rmC v u m 1 = x1 at z1 HS HW
      generalize rmC v u m 2 = x2 at z2 HS HW
      generalize rmC v u m 3 = x3 at z3 HS HW
      generalize rmC v u m 4 = x4 at z4 HS HW
      go_wp2_with fail
      refine (ok_yes (RM.out.alloc _) HW.out HS.out).mono ?_
      rintro e w4 ⟨rfl, hr⟩
      have R4 := Lib.hid hr
      clear hr RM z0 z1 z2 z3 z4 lz
      go_wp2_with fail
      go_roundw
      case rel => exact ⟨m + 1, by go_num, by omega, R4.out⟩
      case measure => simp [intOf]; omega
    · have RM2 : Hid (KRun HH.out w P (rmK v u 8) [] wr) := by
        obtain ⟨S, h⟩ := RM.out
        rw [show m = 8 by omega] at h
        exact ⟨S, h.2.2.2⟩
      have m1 : ¬ (m : Int) < 8 := by omega
      clear RM hm8
      go_wp2_with fail
      go_loopw [11] (fun iv W => ∃ i : Nat, iv = .int .i64 i ∧ i ≤ len ∧ i ≤ 20 ∧ KRun HH.out w P (rmK v u 8) [] W) (fun iv _ => (20 - intOf iv).toNat)
      case atStart => exact ⟨0, rfl, by omega, by omega, RM2.out⟩
      case round =>
        clear RM2
        obtain ⟨i, rfl, hil, hi20, h⟩ := hrel
        have HR := Lib.hid h
        clear h
        rcases (show (i < len ∧ i < 20) ∨ ¬ i < len ∨ (i < len ∧ ¬ i < 20) by omega) with ⟨h1, h2⟩ | h1 | ⟨h1, h2⟩
        · obtain rfl : ao = some a := HA.out (by omega)
          have i0 : (0 : Int) ≤ (i : Int) := by omega
          have i1 : (i : Int) < (len : Int) := by omega
          have i2 : (i : Int) < 20 := by omega
          have z := HZ.out i h1
          have z1 := (HR.out.below.cell (p := a.add i) (World.block_lt_of_cell? _ _ z)).trans z
          clear z
          generalize E i = q at z1
          have hq := i64_and1 q
          rcases (show q % 2 = 0 ∨ q % 2 = 1 by omega) with hs | hs
          · rw [hs] at hq
            clear hs
            have HT1 : Hid (kdo (rmK v u 8) 0 6 5 0 1 0 = (rmM v u 0, 0, 0, true)) := (rm_turn v u 0 (by omega)).1
            have HT2 : Hid (kdo (rmM v u 0) 0 20 5 2 0 0 = (rmM v u 0, 0, v, true)) := (rm_turn v u 0 (by omega)).2.1
            have HT3 : Hid (kdo (rmM v u 0) 0 6 5 1 1 0 = (rmM v u 0, 4, 0, true)) := (rm_turn v u 0 (by omega)).2.2
            have HT4 := Lib.hid (rm_back v u 0 (by omega))
            go_wp2_with fail
            refine (ok_yes (HR.out.alloc _) (by unfold wordsIn; omega) HT1.out).mono ?_
            rintro e w4 ⟨rfl, hr⟩
            have R4 := Lib.hid hr
            clear hr HR z1 hq
            go_wp2_with fail
            refine (run_do R4.out (by unfold wordsIn; omega) HT2.out).mono ?_
            rintro e w5 ⟨rfl, hr⟩
            have R5 := Lib.hid hr
            clear hr R4
            go_wp2_with fail
            refine (run_do (R5.out.alloc _) (by unfold wordsIn; omega) HT3.out).mono ?_
            rintro e w6 ⟨rfl, hr⟩
            have R6 := Lib.hid hr
            clear hr R5
            go_wp2_with fail
            refine (ok_yes (R6.out.alloc _) (by unfold wordsIn; omega) HT4.out).mono ?_
            rintro e w7 ⟨rfl, hr⟩
            have R7 := Lib.hid hr
            clear hr R6
            go_wp2_with fail
            go_roundw
            case rel => exact ⟨i + 1, by go_num, by omega, by omega, R7.out⟩
            case measure => simp [intOf]; omega
          · rw [hs] at hq
            clear hs
            have HT1 : Hid (kdo (rmK v u 8) 0 6 5 1 1 0 = (rmM v u 1, 0, 0, true)) := (rm_turn v u 1 (by omega)).1
            have HT2 : Hid (kdo (rmM v u 1) 0 20 5 2 0 0 = (rmM v u 1, 0, u, true)) := (rm_turn v u 1 (by omega)).2.1
            have HT3 : Hid (kdo (rmM v u 1) 0 6 5 0 1 0 = (rmM v u 1, 4, 0, true)) := (rm_turn v u 1 (by omega)).2.2
            have HT4 := Lib.hid (rm_back v u 1 (by omega))
            go_wp2_with fail
            refine (ok_yes (HR.out.alloc _) (by unfold wordsIn; omega) HT1.out).mono ?_
            rintro e w4 ⟨rfl, hr⟩
            have R4 := Lib.hid hr
            clear hr HR z1 hq
            go_wp2_with fail
            refine (run_do R4.out (by unfold wordsIn; omega) HT2.out).mono ?_
            rintro e w5 ⟨rfl, hr⟩
            have R5 := Lib.hid hr
            clear hr R4
            go_wp2_with fail
            refine (run_do (R5.out.alloc _) (by unfold wordsIn; omega) HT3.out).mono ?_
            rintro e w6 ⟨rfl, hr⟩
            have R6 := Lib.hid hr
            clear hr R5
            go_wp2_with fail
            refine (ok_yes (R6.out.alloc _) (by unfold wordsIn; omega) HT4.out).mono ?_
            rintro e w7 ⟨rfl, hr⟩
            have R7 := Lib.hid hr
            clear hr R6
            go_wp2_with fail
            go_roundw
            case rel => exact ⟨i + 1, by go_num, by omega, by omega, R7.out⟩
            case measure => simp [intOf]; omega
        all_goals
          first
            | (have i1 : ¬ (i : Int) < (len : Int) := by omega
               go_wp2_with fail)
            | (have i1 : (i : Int) < (len : Int) := by omega
               have i2 : ¬ (i : Int) < 20 := by omega
               go_wp2_with fail)
          go_ret
          exact ⟨rfl, HR.out.below⟩
end Go.Proofs.YtbmekfjcpdbapaaGreatDoor

