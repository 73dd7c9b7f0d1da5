/- What is proved here: the statement PlainProtect: whatever its slice and its number, the statement returns true and leaves what was there. Conditions: package plain keeps its contracts; the slice's numbers are there; the statements' own beginning returns true. -/
import Derived.Test.YtbmekfjcpdbapaaGreatDoorGTree
import Derived.Test.YtbmekfjcpdbapaaGreatDoorGPair
import Derived.Test.YtbmekfjcpdbapaaGreatDoorGParts
import Derived.RegionTactic
import Derived.WalkArith
import Derived.Deep.QuietTactic
import Derived.BigQuiet
namespace Go.Proofs.YtbmekfjcpdbapaaGreatDoor
open Go.RowKit Go.Extern.Stop Go.Stop Go.Extern Go.WalkArith
theorem i64_and3 (n : Int) : bits .and .i64 n 3 = n % 4 := by
  have h : bits .and .i64 n 3 = IntKind.i64.wrap ((((n % 18446744073709551616).toNat &&& 3 : Nat)) : Int) := rfl
  rw [h, show (3 : Nat) = 2 ^ 2 - 1 from rfl, Nat.and_two_pow_sub_one_eq_mod]
  have e : (((n % 18446744073709551616).toNat % 2 ^ 2 : Nat) : Int) = n % 4 := by omega
  rw [e, Go.IntWalk.i64_in _ (by omega)]
theorem four_of (n : Int) : n % 4 = 0 ∨ n % 4 = 1 ∨ n % 4 = 2 ∨ n % 4 = 3 := by omega
theorem Side.tailN {w W : World} {o : Thing} {l : List Thing} (h : Side w W (o :: l)) : Side w W l := h.2.2.2
theorem prE_next (f r : Int) : prE f r = 0 ∨ prE f r = 2 ∨ prE f r = 5 := by
  unfold prE
  split
  · exact Or.inr (Or.inl rfl)
  · split
    · exact Or.inl rfl
    · exact Or.inr (Or.inr rfl)
theorem within_three {a b : Int} (h : withinB a b = true) : a = 1 ∨ a = 2 ∨ a = 3 := by
  unfold withinB mayB at h
  simp at h
  omega
def uK (m : Nat) : Int := if m = 0 then 20 else if m = 1 then 21 else 23
theorem uK_of (m : Nat) (h : m < 3) : (uK m = 20 ∨ uK m = 21 ∨ uK m = 23) ∧ (#[Value.int .i64 20, Value.int .i64 21, Value.int .i64 23] : Array Value)[m]? = some (.int .i64 (uK m)) ∧ IntKind.u64.wrap (uK m) = uK m := by
  rcases (show m = 0 ∨ m = 1 ∨ m = 2 by omega) with rfl | rfl | rfl
  · exact ⟨Or.inl rfl, rfl, rfl⟩
  · exact ⟨Or.inr (Or.inl rfl), rfl, rfl⟩
  · exact ⟨Or.inr (Or.inr rfl), rfl, rfl⟩
theorem prot_any (f n u : Int) (hf : f = 1 ∨ f = 2 ∨ f = 3) (hn : n = 1 ∨ n = 2 ∨ n = 3) (hu : u = 20 ∨ u = 21 ∨ u = 23) : kdo (prN f n) 0 u 3 0 0 0 = (prN f n, (if withinB (needN u) n = true then 0 else 7), 0, true) := by
  cases h : withinB (needN u) n
  · exact prot_fault f n hf hn u hu h
  · rcases hu with rfl | rfl | rfl
    · exact prot_load f n hf hn h
    · exact prot_store f n hf hn h
    · exact prot_add f n hf hn h
set_option maxRecDepth 100000 in
set_option maxHeartbeats 8000000 in
theorem pprot_any {At : World → (Nat → Prop) → Nat → KernS → Prop} (H : PlainC At) (ao : Option Addr) (a : Addr) (len cap : Nat) (hao : 0 < len → ao = some a) (E : Nat → Int) (f0 : Int) (w : World) (hz : ∀ i, i < len → w.cell? (a.add i) = some (.int .i64 (E i))) (hbeg : BegunAt11 w) :
    Calls Tryz.prog 9 #[.slice ao len cap, .int .i64 f0] w fun e w' => e = .returned (.bool true) ∧ Below w.heap.size w w' := by
  have HB := Lib.hid hbeg
  have HH := Lib.hid H
  have HA := Lib.hid hao
  have HZ := Lib.hid hz
  clear hbeg H hao hz
  have m1 := Int.lt_tmod_of_pos f0 (show (0 : Int) < 3 by omega)
  have m2 := Int.tmod_lt_of_pos f0 (show (0 : Int) < 3 by omega)
  go_enter Tryz.func9, Tryz.ntmps9
  go_wp2_with fail
  refine HB.out.mono ?_
  rintro e w1 ⟨rfl, hb1⟩
  have B1 := Lib.hid hb1
  clear hb1 HB
  go_wp2_with fail
  obtain ⟨F, hF⟩ : ∃ F : Nat, 1 + f0.tmod 3 % 3 = (F : Int) := ⟨(1 + f0.tmod 3 % 3).toNat, by omega⟩
  have hf : (F : Int) = 1 ∨ (F : Int) = 2 ∨ (F : Int) = 3 := by omega
  have HF := Lib.hid hf
  have hFW : IntKind.u64.wrap (F : Int) = (F : Int) := u64_small F (by omega)
  simp only [hF]
  generalize f0.tmod 3 % 3 = y1
  generalize f0.tmod 3 + 3 = y2
  generalize f0.tmod 3 = y3
  clear m1 m2 hF hf
  refine (small_any HH.out 1 B1.out (by omega)).mono ?_
  rintro e w2 ⟨P, rfl, hr⟩
  have R2 := Lib.hid hr
  clear hr B1
  have F1 := Lib.hid (prot_up (F : Int) HF.out)
  have HW3 : Hid (0 ≤ (F : Int) ∧ (F : Int) < 18446744073709551616) := by have := HF.out; show 0 ≤ (F : Int) ∧ (F : Int) < 18446744073709551616; omega
  go_wp2_with fail
  refine (ok_yes R2.out (by unfold wordsIn; omega) F1.out.1).mono ?_
  rintro e w3 ⟨rfl, hr⟩
  have R3 := Lib.hid hr
  clear hr R2
  go_wp2_with fail
  refine (ok_yes R3.out (by have := HW3.out; unfold wordsIn; omega) F1.out.2.1).mono ?_
  rintro e w4 ⟨rfl, hr⟩
  have R4 := Lib.hid hr
  clear hr R3
  go_wp2_with fail
  refine (ok_yes R4.out (by have := HW3.out; unfold wordsIn; omega) F1.out.2.2).mono ?_
  rintro e w5 ⟨rfl, hr⟩
  have R5 := Lib.hid hr
  clear hr R4
  go_wp2_with fail
  go_loopw [7, 8] (fun nv iv W => ∃ (i : Nat) (n : Int), nv = .int .i64 n ∧ iv = .int .i64 i ∧ i ≤ len ∧ i ≤ 20 ∧ Hid (n = 1 ∨ n = 2 ∨ n = 3) ∧ KRun HH.out w P (prN F n) [] W) (fun _ iv _ => (20 - intOf iv).toNat)
  case atStart => exact ⟨0, F, rfl, rfl, by omega, by omega, HF, R5.out⟩
  case round =>
    obtain ⟨i, n, rfl, rfl, hil, hi20, HN, h⟩ := hrel
    have HR := Lib.hid h
    clear h R5
    rcases (show (i < len ∧ i < 20) ∨ ¬ i < len ∨ (i < len ∧ ¬ i < 20) by omega) with ⟨h1, h2⟩ | h1 | ⟨h1, h2⟩
    · obtain rfl : ao = some a := HA.out (by omega)
      have i0 : (0 : Int) ≤ (i : Int) := by omega
      have i1 : (i : Int) < (len : Int) := by omega
      have i2 : (i : Int) < 20 := by omega
      have z := HZ.out i h1
      have z1 := (HR.out.below.cell (p := a.add i) (World.block_lt_of_cell? _ _ z)).trans z
      clear z
      generalize E i = q at z1
      have hq := i64_and3 q
      have hq4 := four_of q
      generalize q % 4 = r at hq hq4
      have HQ4 := Lib.hid hq4
      have hrw : IntKind.u64.wrap r = r := by rcases hq4 with rfl | rfl | rfl | rfl <;> rfl
      have hr0 : 0 ≤ r := by omega
      have hr3 : r ≤ 3 := by omega
      clear hq4
      have HWI := Lib.hid (fun W => ref_within_any r (F : Int) W)
      by_cases hp : prE (F : Int) r = 0
      · have P1 := Lib.hid (prot_yes (F : Int) n r HF.out HN.out HQ4.out hp)
        have hrz : (r == 0) = false := by
          unfold prE at hp
          split at hp
          · exact absurd hp (by decide)
          · rename_i h
            exact beq_eq_false_iff_ne.2 h
        have hwi : withinB r (F : Int) = true := by
          unfold prE at hp
          split at hp
          · exact absurd hp (by decide)
          · split at hp
            · rename_i h
              exact h
            · exact absurd hp (by decide)
        rw [hwi] at HWI
        have HM : Hid (r = 1 ∨ r = 2 ∨ r = 3) := within_three hwi
        clear hp hwi
        go_wp2_with fail
        refine (run_do HR.out (by unfold wordsIn; omega) P1.out).mono ?_
        rintro e w6 ⟨rfl, h⟩
        have R6 := Lib.hid h
        clear h HR z1
        go_wp2_with fail
        refine (HWI.out _).mono ?_
        rintro e w' ⟨rfl, rfl⟩
        go_wp2_with fail
        have hpt := prot_pte (F : Int) r
        refine (run_pte (e := 0) (p := 3) (R6.out.box _) (by rw [prot_envs _ _ HF.out]; decide) (by omega) (by rw [hpt]; exact fun h => by have h : r = 0 := h; have := HM.out; omega)).mono ?_
        rintro e w7 ⟨rfl, h⟩
        rw [hpt]
        have R7 := Lib.hid h
        clear h R6 hpt
        have k1 := R7.out.read (List.mem_cons_self ..)
        have z0 := bk_cell k1 0
        have z1 := bk_cell k1 1
        have lz := bk_lt k1
        clear k1
        unfold pteT
        go_wp2_with fail
        have RB : Hid (KRun HH.out w P (prN F r) _ _) := (R7.out.alloc (.cells #[.int .i64 0, .int .i64 1, .int .i64 r] 70)).boxAt (.cells #[.int .i64 20, .int .i64 21, .int .i64 23] 3) (w7.heap.size + 1) (by simp)
        clear z0 z1 lz
        go_loopw [96] (fun mv W => ∃ m : Nat, mv = .int .i64 m ∧ m ≤ 3 ∧ KRun HH.out w P (prN F r) [fixT (w7.heap.size + 1) (.cells #[.int .i64 20, .int .i64 21, .int .i64 23] 3), fixT w6.heap.size (.cells #[.int .i64 0, .int .u64 0] 41)] W) (fun mv _ => (3 - intOf mv).toNat)
        case atStart => exact ⟨0, rfl, by omega, RB.out⟩
        case round =>
          clear RB R7
          obtain ⟨m, rfl, hm3, h⟩ := hrel
          have RM := Lib.hid h
          clear h
          by_cases hm : m < 3
          · have m0 : (0 : Int) ≤ (m : Int) := by omega
            have m1 : (m : Int) < 3 := by omega
            obtain ⟨hu, hc, huw⟩ := uK_of m hm
            have k1 := RM.out.read (List.mem_cons_self ..)
            have z0 := (bk_cell k1 m).trans hc
            have lz := bk_lt k1
            clear k1 hc
            have PA := prot_any (F : Int) r (uK m) HF.out HM.out hu
            have HWL := Lib.hid (fun W => ref_lets_any r (uK m) W)
            have hux : 0 ≤ uK m ∧ uK m ≤ 23 := by omega
            generalize uK m = u at z0 PA HWL huw hux
            have HUX := Lib.hid hux
            clear hu hux
            cases hb : withinB (needN u) r
            all_goals
              rw [hb] at PA HWL
              have HPA := Lib.hid PA
              clear PA hb
              go_wp2_with fail
              refine (run_do RM.out (by have := HUX.out; unfold wordsIn; omega) HPA.out).mono ?_
              rintro e w8 ⟨rfl, h⟩
              have R8 := Lib.hid h
              clear h z0 lz
              simp only [reduceCtorEq, if_true, if_false]
              go_wp2_with fail
              go_quiet ((go_at_call 39; exact Calls.quiet_of_same ((HWL.out _).mono (fun _ _ h => ⟨h.1, h.2.symm⟩))))
              go_wp2_with fail
              go_roundw
              case rel => exact ⟨m + 1, by go_num, by omega, (R8.out.alloc _).under (dn (Below.refl _ _) _)⟩
              case measure => simp [intOf]; omega
          · obtain rfl : m = 3 := by omega
            go_wp2_with fail
            go_roundw
            case rel => exact ⟨i + 1, r, rfl, by go_num, by omega, by omega, HM, by obtain ⟨S, h⟩ := RM.out; exact ⟨S, h.tailN.tailN⟩⟩
            case measure => simp [intOf]; omega
      · have hp2 := prE_next (F : Int) r
        have P1 := Lib.hid (prot_no (F : Int) n r HF.out HN.out HQ4.out hp)
        by_cases hrz : r = 0
        · subst hrz
          have hpe : prE (F : Int) 0 = 2 := rfl
          rw [hpe] at P1
          clear hp hp2 hpe HWI
          go_wp2_with fail
          refine (run_do HR.out (by unfold wordsIn; omega) P1.out).mono ?_
          rintro e w6 ⟨rfl, h⟩
          have R6 := Lib.hid h
          clear h HR z1
          go_wp2_with fail
          have hpt := prot_pte (F : Int) n
          refine (run_pte (e := 0) (p := 3) (R6.out.box _) (by rw [prot_envs _ _ HF.out]; decide) (by omega) (by rw [hpt]; exact fun h => by have h : n = 0 := h; have := HN.out; omega)).mono ?_
          rintro e w7 ⟨rfl, h⟩
          rw [hpt]
          have R7 := Lib.hid h
          clear h R6 hpt
          have k1 := R7.out.read (List.mem_cons_self ..)
          have z0 := bk_cell k1 0
          have z1 := bk_cell k1 1
          have lz := bk_lt k1
          clear k1
          unfold pteT
          go_wp2_with fail
          have RB : Hid (KRun HH.out w P (prN F n) _ _) := (R7.out.alloc (.cells #[.int .i64 0, .int .i64 1, .int .i64 n] 70)).boxAt (.cells #[.int .i64 20, .int .i64 21, .int .i64 23] 3) (w7.heap.size + 1) (by simp)
          clear z0 z1 lz
          go_loopw [96] (fun mv W => ∃ m : Nat, mv = .int .i64 m ∧ m ≤ 3 ∧ KRun HH.out w P (prN F n) [fixT (w7.heap.size + 1) (.cells #[.int .i64 20, .int .i64 21, .int .i64 23] 3), fixT w6.heap.size (.cells #[.int .i64 2, .int .u64 0] 41)] W) (fun mv _ => (3 - intOf mv).toNat)
          case atStart => exact ⟨0, rfl, by omega, RB.out⟩
          case round =>
            clear RB R7
            obtain ⟨m, rfl, hm3, h⟩ := hrel
            have RM := Lib.hid h
            clear h
            by_cases hm : m < 3
            · have m0 : (0 : Int) ≤ (m : Int) := by omega
              have m1 : (m : Int) < 3 := by omega
              obtain ⟨hu, hc, huw⟩ := uK_of m hm
              have k1 := RM.out.read (List.mem_cons_self ..)
              have z0 := (bk_cell k1 m).trans hc
              have lz := bk_lt k1
              clear k1 hc
              have PA := prot_any (F : Int) n (uK m) HF.out HN.out hu
              have HWL := Lib.hid (fun W => ref_lets_any n (uK m) W)
              have hux : 0 ≤ uK m ∧ uK m ≤ 23 := by omega
              generalize uK m = u at z0 PA HWL huw hux
              have HUX := Lib.hid hux
              clear hu hux
              cases hb : withinB (needN u) n
              all_goals
                rw [hb] at PA HWL
                have HPA := Lib.hid PA
                clear PA hb
                go_wp2_with fail
                refine (run_do RM.out (by have := HUX.out; unfold wordsIn; omega) HPA.out).mono ?_
                rintro e w8 ⟨rfl, h⟩
                have R8 := Lib.hid h
                clear h z0 lz
                simp only [reduceCtorEq, if_true, if_false]
                go_wp2_with fail
                go_quiet ((go_at_call 39; exact Calls.quiet_of_same ((HWL.out _).mono (fun _ _ h => ⟨h.1, h.2.symm⟩))))
                go_wp2_with fail
                go_roundw
                case rel => exact ⟨m + 1, by go_num, by omega, (R8.out.alloc _).under (dn (Below.refl _ _) _)⟩
                case measure => simp [intOf]; omega
            · obtain rfl : m = 3 := by omega
              go_wp2_with fail
              go_roundw
              case rel => exact ⟨i + 1, n, rfl, by go_num, by omega, by omega, HN, by obtain ⟨S, h⟩ := RM.out; exact ⟨S, h.tailN.tailN⟩⟩
              case measure => simp [intOf]; omega
        · have hwi : withinB r (F : Int) = false := by
            cases h : withinB r (F : Int)
            · rfl
            · exact absurd (by unfold prE; rw [if_neg hrz, if_pos h]) hp
          have hpe : prE (F : Int) r = 5 := by unfold prE; rw [if_neg hrz, if_neg (by rw [hwi]; decide)]
          rw [hpe] at P1
          rw [hwi] at HWI
          have hrz2 : (r == 0) = false := beq_eq_false_iff_ne.2 hrz
          clear hp hp2 hpe hrz hwi
          go_wp2_with fail
          refine (run_do HR.out (by unfold wordsIn; omega) P1.out).mono ?_
          rintro e w6 ⟨rfl, h⟩
          have R6 := Lib.hid h
          clear h HR z1
          go_wp2_with fail
          refine (HWI.out _).mono ?_
          rintro e w' ⟨rfl, rfl⟩
          go_wp2_with fail
          have hpt := prot_pte (F : Int) n
          refine (run_pte (e := 0) (p := 3) (R6.out.box _) (by rw [prot_envs _ _ HF.out]; decide) (by omega) (by rw [hpt]; exact fun h => by have h : n = 0 := h; have := HN.out; omega)).mono ?_
          rintro e w7 ⟨rfl, h⟩
          rw [hpt]
          have R7 := Lib.hid h
          clear h R6 hpt
          have k1 := R7.out.read (List.mem_cons_self ..)
          have z0 := bk_cell k1 0
          have z1 := bk_cell k1 1
          have lz := bk_lt k1
          clear k1
          unfold pteT
          go_wp2_with fail
          have RB : Hid (KRun HH.out w P (prN F n) _ _) := (R7.out.alloc (.cells #[.int .i64 0, .int .i64 1, .int .i64 n] 70)).boxAt (.cells #[.int .i64 20, .int .i64 21, .int .i64 23] 3) (w7.heap.size + 1) (by simp)
          clear z0 z1 lz
          go_loopw [96] (fun mv W => ∃ m : Nat, mv = .int .i64 m ∧ m ≤ 3 ∧ KRun HH.out w P (prN F n) [fixT (w7.heap.size + 1) (.cells #[.int .i64 20, .int .i64 21, .int .i64 23] 3), fixT w6.heap.size (.cells #[.int .i64 5, .int .u64 0] 41)] W) (fun mv _ => (3 - intOf mv).toNat)
          case atStart => exact ⟨0, rfl, by omega, RB.out⟩
          case round =>
            clear RB R7
            obtain ⟨m, rfl, hm3, h⟩ := hrel
            have RM := Lib.hid h
            clear h
            by_cases hm : m < 3
            · have m0 : (0 : Int) ≤ (m : Int) := by omega
              have m1 : (m : Int) < 3 := by omega
              obtain ⟨hu, hc, huw⟩ := uK_of m hm
              have k1 := RM.out.read (List.mem_cons_self ..)
              have z0 := (bk_cell k1 m).trans hc
              have lz := bk_lt k1
              clear k1 hc
              have PA := prot_any (F : Int) n (uK m) HF.out HN.out hu
              have HWL := Lib.hid (fun W => ref_lets_any n (uK m) W)
              have hux : 0 ≤ uK m ∧ uK m ≤ 23 := by omega
              generalize uK m = u at z0 PA HWL huw hux
              have HUX := Lib.hid hux
              clear hu hux
              cases hb : withinB (needN u) n
              all_goals
                rw [hb] at PA HWL
                have HPA := Lib.hid PA
                clear PA hb
                go_wp2_with fail
                refine (run_do RM.out (by have := HUX.out; unfold wordsIn; omega) HPA.out).mono ?_
                rintro e w8 ⟨rfl, h⟩
                have R8 := Lib.hid h
                clear h z0 lz
                simp only [reduceCtorEq, if_true, if_false]
                go_wp2_with fail
                go_quiet ((go_at_call 39; exact Calls.quiet_of_same ((HWL.out _).mono (fun _ _ h => ⟨h.1, h.2.symm⟩))))
                go_wp2_with fail
                go_roundw
                case rel => exact ⟨m + 1, by go_num, by omega, (R8.out.alloc _).under (dn (Below.refl _ _) _)⟩
                case measure => simp [intOf]; omega
            · obtain rfl : m = 3 := by omega
              go_wp2_with fail
              go_roundw
              case rel => exact ⟨i + 1, n, rfl, by go_num, by omega, by omega, HN, by obtain ⟨S, h⟩ := RM.out; exact ⟨S, h.tailN.tailN⟩⟩
              case measure => simp [intOf]; omega
    all_goals
      first
        | (have i1 : ¬ (i : Int) < (len : Int) := by omega
           go_wp2_with fail)
        | (have i1 : (i : Int) < (len : Int) := by omega
           have i2 : ¬ (i : Int) < 20 := by omega
           go_wp2_with fail)
      go_ret
      exact ⟨rfl, HR.out.below⟩
end Go.Proofs.YtbmekfjcpdbapaaGreatDoor

