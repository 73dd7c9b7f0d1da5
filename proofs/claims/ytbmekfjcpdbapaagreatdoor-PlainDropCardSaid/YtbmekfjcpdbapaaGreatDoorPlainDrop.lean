/- What is proved here: the statement PlainDrop: whatever its number, the statement returns true and leaves what was there. Conditions: package plain keeps its contracts; the statements' own beginning returns true. -/
import Derived.Test.YtbmekfjcpdbapaaGreatDoorGTree
import Derived.Test.YtbmekfjcpdbapaaGreatDoorGPair
import Derived.RegionTactic
import Derived.WalkArith
import Derived.Deep.CutBlock
import Derived.Deep.DeepCutAuto
import Derived.Deep.RegionWith
namespace Go.Proofs.YtbmekfjcpdbapaaGreatDoor
open Go.RowKit Go.Extern.Stop Go.Stop Go.Extern Go.WalkArith
def pdE (m : Nat) : Nat := m / 2
def pdS (m : Nat) : Nat := m % 2
def pdV : Array Value := #[.int .i64 0, .int .i64 0, .int .i64 0, .int .i64 1, .int .i64 1, .int .i64 0, .int .i64 1, .int .i64 1]
def pd1 : KernS := (kdo (newK 1 2 1) 0 1 0 0 0 0).1
def pd2 : KernS := (kdo pd1 0 2 0 1 3 0).1
def pd3 : KernS := (kdo pd2 0 3 1 1 0 3).1
def pdM : Nat → KernS
  | 0 => (kdo pd3 1 2 0 1 1 0).1
  | m + 1 => (kdo (pdM m) (pdE m) 6 m (pdS m) 1 0).1
theorem pd_up : kdo (newK 1 2 1) 0 1 0 0 0 0 = (pd1, 0, 0, true) ∧ kdo pd1 0 2 0 1 3 0 = (pd2, 0, 0, true) ∧ kdo pd2 0 3 1 1 0 3 = (pd3, 0, 0, true) ∧ kdo pd3 1 2 0 1 1 0 = (pdM 0, 0, 0, true) := by
  refine ⟨?_, ?_, ?_, ?_⟩ <;> kernel_rfl
theorem four_lt {m : Nat} (h : m < 4) : m = 0 ∨ m = 1 ∨ m = 2 ∨ m = 3 := by omega
theorem pd_step (m : Nat) (h : m < 4) : kdo (pdM m) (pdE m) 6 m (pdS m) 1 0 = (pdM (m + 1), 0, 0, true) := by
  rcases four_lt h with rfl | rfl | rfl | rfl <;> kernel_rfl
theorem pd_cells (m : Nat) (h : m < 4) : pdV[m * 2]? = some (.int .i64 (pdE m : Nat)) ∧ pdV[m * 2 + 1]? = some (.int .i64 (pdS m : Nat)) ∧ pdE m < 2 ∧ pdS m < 2 := by
  rcases four_lt h with rfl | rfl | rfl | rfl <;> exact ⟨rfl, rfl, by decide, by decide⟩
def pdD (a : Nat) : KernS := (kdo (pdM 4) (pdE a) 5 (pdS a) 0 0 0).1
theorem pd_drop (a : Nat) (h : a < 4) : kdo (pdM 4) (pdE a) 5 (pdS a) 0 0 0 = (pdD a, 0, 4 - (a : Int), true) := by
  rcases four_lt h with rfl | rfl | rfl | rfl <;> kernel_rfl
theorem pd_after : ∀ a : Nat, a < 4 → ∀ m : Nat, m < 4 → ((pdD a).sl (pdE m) (pdS m)).is = decide (m < a) ∧ ((pdD a).pt (pdE m) m).rights = (if m < a then 1 else 0) := by decide +kernel
theorem pd_envs : ∀ a : Nat, a < 4 → (pdD a).envs = 2 ∧ (freeK (pdD a) (pdD a).frames.toNat).length = (if a = 0 then 1 else 0) := by decide +kernel
section
variable {At : World → (Nat → Prop) → Nat → KernS → Prop} {H : PlainC At} {w W W' : World} {P : Nat} {k k' : KernS} {L : List Thing}
theorem run_has {e s : Nat} {b : Bool} (h : KRun H w P k L W) (he : (e : Int) < k.envs) (hs : s < 8) (hi : (k.sl e s).is = b) :
    Calls Tryz.prog 32 #[.pointer (some ⟨P, 0, none⟩), .int .i64 (e : Int), .int .i64 (s : Int)] W fun x W' => (∃ c1 c2 c3 c4 : Int, x = .returned (.tuple #[.agg #[.int .i64 c1, .int .i64 c2, .int .i64 c3, .int .i64 c4], .bool b])) ∧ KRun H w P k L W' := by
  cases b
  · refine (run_nocap h he hs hi).mono ?_
    rintro x W' ⟨rfl, h⟩
    exact ⟨⟨0, 0, 0, 0, rfl⟩, h⟩
  · refine (run_cap h he hs hi).mono ?_
    rintro x W' ⟨⟨a, b, rfl, _⟩, h⟩
    exact ⟨⟨_, _, a, b, rfl⟩, h⟩
theorem run_mapped {e p : Nat} {r : Int} (h : KRun H w P k L W) (he : (e : Int) < k.envs) (hp : p < 8) (hr : (k.pt e p).rights = r) :
    Calls Tryz.prog 37 #[.pointer (some ⟨P, 0, none⟩), .int .i64 (e : Int), .int .i64 (p : Int)] W fun x W' => (∃ c1 c2 c3 : Int, x = .returned (.tuple #[.agg #[.int .i64 c1, .int .i64 c2, .int .i64 c3], .bool (!(r == 0))])) ∧ KRun H w P k L W' := by
  subst hr
  by_cases h0 : (k.pt e p).rights = 0
  · refine (run_nopte h he hp h0).mono ?_
    rintro x W' ⟨rfl, h⟩
    exact ⟨⟨0, 0, 0, by rw [h0]; rfl⟩, h⟩
  · refine (run_pte h he hp h0).mono ?_
    rintro x W' ⟨rfl, h⟩
    exact ⟨⟨_, _, _, by rw [beq_eq_false_iff_ne.2 h0]; rfl⟩, h⟩
end
set_option maxRecDepth 100000 in
set_option maxHeartbeats 8000000 in
theorem pdrop_any {At : World → (Nat → Prop) → Nat → KernS → Prop} (H : PlainC At) (a0 : Int) (w : World) (hbeg : BegunAt11 w) :
    Calls Tryz.prog 13 #[.int .i64 a0] w fun e w' => e = .returned (.bool true) ∧ Below w.heap.size w w' := by
  have HB := Lib.hid hbeg
  have HH := Lib.hid H
  clear hbeg H
  go_enter Tryz.func13, Tryz.ntmps13
  go_wp2_with fail
  refine HB.out.mono ?_
  rintro e w1 ⟨rfl, hb1⟩
  have B1 := Lib.hid hb1
  clear hb1 HB
  go_wp2_with fail
  refine (small_any HH.out 1 B1.out (by omega)).mono ?_
  rintro e w2 ⟨P, rfl, hr⟩
  have R2 := Lib.hid hr
  clear hr B1
  go_wp2_with fail
  refine (ok_yes R2.out (by unfold wordsIn; omega) pd_up.1).mono ?_
  rintro e w3 ⟨rfl, hr⟩
  have R3 := Lib.hid hr
  clear hr R2
  go_wp2_with fail
  refine (ok_yes R3.out (by unfold wordsIn; omega) pd_up.2.1).mono ?_
  rintro e w4 ⟨rfl, hr⟩
  have R4 := Lib.hid hr
  clear hr R3
  go_wp2_with fail
  refine (ok_yes R4.out (by unfold wordsIn; omega) pd_up.2.2.1).mono ?_
  rintro e w5 ⟨rfl, hr⟩
  have R5 := Lib.hid hr
  clear hr R4
  go_wp2_with fail
  refine (ok_yes R5.out (by unfold wordsIn; omega) pd_up.2.2.2).mono ?_
  rintro e w6 ⟨rfl, hr⟩
  have RB := Lib.hid (KRun.box hr (.cells pdV 80))
  clear hr R5
  unfold pdV at RB
  go_wp2_with fail
  go_loopw [49] (fun mv W => ∃ m : Nat, mv = .int .i64 m ∧ m ≤ 4 ∧ KRun HH.out w P (pdM m) [fixT w6.heap.size (.cells pdV 80)] W) (fun mv _ => (4 - intOf mv).toNat)
  case atStart => exact ⟨0, rfl, by omega, RB.out⟩
  case round =>
    clear RB
    obtain ⟨m, rfl, hm4, h⟩ := hrel
    have RM := Lib.hid h
    clear h
    by_cases hm : m < 4
    · have m0 : (0 : Int) ≤ (m : Int) := by omega
      have m1 : (m : Int) < 4 := by omega
      obtain ⟨d0, d1, d2, d3⟩ := pd_cells m hm
      have HS := Lib.hid (pd_step m hm)
      have k1 := RM.out.read (List.mem_cons_self ..)
      have z0 := (bk_cell k1 (m * 2)).trans d0
      have z1 := (bk_cell k1 (m * 2 + 1)).trans d1
      have lz := bk_lt k1
      have hw1 : IntKind.u64.wrap (m : Int) = (m : Int) := u64_small m (by omega)
      have hw2 : IntKind.u64.wrap ((pdS m : Nat) : Int) = ((pdS m : Nat) : Int) := u64_small _ (by omega)
      clear k1 d0 d1
      generalize pdE m = x0 at z0 HS d2
      generalize pdS m = x1 at z1 HS d3 hw2
      go_wp2_with fail
      refine (ok_yes (RM.out.alloc _) (by unfold wordsIn; omega) HS.out).mono ?_
      rintro e v4 ⟨rfl, hr⟩
      have R4 := Lib.hid hr
      clear hr RM z0 z1 lz
      go_wp2_with fail
      go_roundw
      case rel => exact ⟨m + 1, by go_num, by omega, R4.out⟩
      case measure => simp [intOf]; omega
    · have RM2 : Hid (KRun HH.out w P (pdM 4) [fixT w6.heap.size (.cells pdV 80)] wr) := by
        have h := RM.out
        rw [show m = 4 by omega] at h
        exact h
      have m1 : ¬ (m : Int) < 4 := by omega
      clear RM hm4
      have p1 := tnear a0 4 (by omega)
      have p2 := tupm a0 4 (by omega)
      obtain ⟨A, hA⟩ : ∃ A : Nat, (a0.tmod 4 + 4) % 4 = (A : Int) := ⟨((a0.tmod 4 + 4) % 4).toNat, by omega⟩
      have hA4 : A < 4 := by omega
      have A0 : (0 : Int) ≤ (A : Int) := by omega
      have A4 : (A : Int) < 4 := by omega
      obtain ⟨d0, d1, d2, d3⟩ := pd_cells A hA4
      have HD := Lib.hid (pd_drop A hA4)
      have k1 := RM2.out.read (List.mem_cons_self ..)
      have z0 := (bk_cell k1 (A * 2)).trans d0
      have z1 := (bk_cell k1 (A * 2 + 1)).trans d1
      have lz := bk_lt k1
      have hw2 : IntKind.u64.wrap ((pdS A : Nat) : Int) = ((pdS A : Nat) : Int) := u64_small _ (by omega)
      clear k1 d0 d1
      generalize pdE A = x0 at z0 HD d2
      generalize pdS A = x1 at z1 HD d3 hw2
      go_wp2_with fail
      go_cut [8] (fun av W => ∃ B : Nat, av = .pointer (some ⟨B, 0, none⟩) ∧ KRun HH.out w P (pdD A) [fixT B (.cells #[.int .i64 0, .int .u64 (4 - (A : Int))] 41), fixT w6.heap.size (.cells pdV 80)] W)
      case first =>
        have RD := Lib.hid (RM2.out.under (dn (Below.refl _ _) 1))
        go_region_with ((go_at_call 22; first | (refine (run_do RD.out (by unfold wordsIn; omega) HD.out).mono ?_; rintro e1 w9 ⟨rfl, h⟩; have SN := Lib.hid h; clear h) | (refine (run_do (RD.out.boxAt _ wr.heap.size rfl) (by unfold wordsIn; omega) HD.out).mono ?_; rintro e1 w9 ⟨rfl, h⟩; have SN := Lib.hid h; clear h; have kb := SN.out.read (List.mem_cons_self ..); have b0 := bk_cell kb 0; have b1 := bk_cell kb 1; have f0 := bk_free kb 0; have f1 := bk_free kb 1; have lb := bk_lt kb; clear kb)))
        all_goals
          go_wp2_with fail
          go_meet
          case rel => first | exact ⟨_, rfl, SN.out.box _⟩ | exact ⟨_, rfl, KRun.store (l1 := []) (KRun.store (l1 := []) SN.out 0 _) 1 _⟩
      case rest =>
        obtain ⟨B, rfl, h⟩ := hcut
        have R9 := Lib.hid h
        clear h z0 z1 lz RM2 d2 d3 hw2 HD
        go_wp2_with fail
        have HEV := Lib.hid (pd_envs A hA4)
        have HAF := Lib.hid (pd_after A hA4)
        go_loopw [89] (fun mv W => ∃ j : Nat, mv = .int .i64 j ∧ j ≤ 4 ∧ KRun HH.out w P (pdD A) [fixT B (.cells #[.int .i64 0, .int .u64 (4 - (A : Int))] 41), fixT w6.heap.size (.cells pdV 80)] W) (fun mv _ => (4 - intOf mv).toNat)
        case atStart => exact ⟨0, rfl, by omega, R9.out⟩
        case round =>
          clear R9
          obtain ⟨j, rfl, hj4, h⟩ := hrel
          have RL := Lib.hid h
          clear h
          by_cases hj : j < 4
          · have j0 : (0 : Int) ≤ (j : Int) := by omega
            have j1 : (j : Int) < 4 := by omega
            obtain ⟨d0, d1, d2, d3⟩ := pd_cells j hj
            have HI := Lib.hid (HAF.out j hj)
            have k1 := RL.out.read (List.mem_cons_of_mem _ (List.mem_cons_self ..))
            have z0 := (bk_cell k1 (j * 2)).trans d0
            have z1 := (bk_cell k1 (j * 2 + 1)).trans d1
            have lz := bk_lt k1
            clear k1 d0 d1
            by_cases h3 : j < A
            · have j2 : (j : Int) < (A : Int) := by omega
              have HI2 : Hid (((pdD A).sl (pdE j) (pdS j)).is = true) := HI.out.1.trans (decide_eq_true h3)
              have HR2 : Hid (((pdD A).pt (pdE j) j).rights = 1) := HI.out.2.trans (if_pos h3)
              clear HI
              generalize pdE j = x0 at z0 HI2 HR2 d2
              generalize pdS j = x1 at z1 HI2 d3
              go_wp2_with fail
              refine (run_has (RL.out.box _) (by rw [HEV.out.1]; omega) (by omega) HI2.out).mono ?_
              rintro e v1 ⟨⟨c1, c2, c3, c4, rfl⟩, h⟩
              have RP := Lib.hid h
              clear h RL z0 z1 lz
              have k1 := RP.out.read (List.mem_cons_self ..)
              have z0 := bk_cell k1 0
              have z1 := bk_cell k1 1
              have lz := bk_lt k1
              clear k1
              go_wp2_with fail
              refine (run_mapped (RP.out.alloc _) (by rw [HEV.out.1]; omega) (by omega) HR2.out).mono ?_
              rintro e v2 ⟨⟨c5, c6, c7, rfl⟩, h⟩
              have RQ := Lib.hid h
              clear h RP z0 z1 lz
              have e01 : (!((1 : Int) == 0)) = true := rfl
              rw [e01]
              go_wp2_with fail
              go_roundw
              case rel => exact ⟨j + 1, by go_num, by omega, by obtain ⟨S, h⟩ := RQ.out.alloc _; exact ⟨S, h.2.2.2⟩⟩
              case measure => simp [intOf]; omega
            · have j2 : ¬ (j : Int) < (A : Int) := by omega
              have HI2 : Hid (((pdD A).sl (pdE j) (pdS j)).is = false) := HI.out.1.trans (decide_eq_false h3)
              have HR2 : Hid (((pdD A).pt (pdE j) j).rights = 0) := HI.out.2.trans (if_neg h3)
              clear HI
              generalize pdE j = x0 at z0 HI2 HR2 d2
              generalize pdS j = x1 at z1 HI2 d3
              go_wp2_with fail
              refine (run_has (RL.out.box _) (by rw [HEV.out.1]; omega) (by omega) HI2.out).mono ?_
              rintro e v1 ⟨⟨c1, c2, c3, c4, rfl⟩, h⟩
              have RP := Lib.hid h
              clear h RL z0 z1 lz
              have k1 := RP.out.read (List.mem_cons_self ..)
              have z0 := bk_cell k1 0
              have z1 := bk_cell k1 1
              have lz := bk_lt k1
              clear k1
              go_wp2_with fail
              refine (run_mapped (RP.out.alloc _) (by rw [HEV.out.1]; omega) (by omega) HR2.out).mono ?_
              rintro e v2 ⟨⟨c5, c6, c7, rfl⟩, h⟩
              have RQ := Lib.hid h
              clear h RP z0 z1 lz
              have e01 : (!((0 : Int) == 0)) = false := rfl
              rw [e01]
              go_wp2_with fail
              go_roundw
              case rel => exact ⟨j + 1, by go_num, by omega, by obtain ⟨S, h⟩ := RQ.out.alloc _; exact ⟨S, h.2.2.2⟩⟩
              case measure => simp [intOf]; omega
          · have j1 : ¬ (j : Int) < 4 := by omega
            have k1 := RL.out.read (List.mem_cons_self ..)
            have z0 := bk_cell k1 0
            have z1 := bk_cell k1 1
            have lz := bk_lt k1
            clear k1
            have hw4 : IntKind.u64.wrap (4 - (A : Int)) = 4 - (A : Int) := by
              rw [show 4 - (A : Int) = ((4 - A : Nat) : Int) by omega]
              exact u64_small _ (by omega)
            have HLN := Lib.hid HEV.out.2
            by_cases hA0 : A = 0
            · subst hA0
              go_wp2_with fail
              refine (run_free RL.out).mono ?_
              rintro e v1 ⟨⟨ao6, cap6, rfl⟩, hr⟩
              have R6 := Lib.hid hr
              clear hr
              rw [HLN.out]
              go_wp2_with fail
              go_ret
              exact ⟨rfl, R6.out.below⟩
            · have a1 : ((A : Int) == 0) = false := beq_eq_false_iff_ne.2 (by omega)
              have HLN2 : Hid ((freeK (pdD A) (pdD A).frames.toNat).length = 0) := HLN.out.trans (if_neg hA0)
              go_wp2_with fail
              refine (run_free RL.out).mono ?_
              rintro e v1 ⟨⟨ao6, cap6, rfl⟩, hr⟩
              have R6 := Lib.hid hr
              clear hr
              rw [HLN2.out]
              go_wp2_with fail
              go_ret
              exact ⟨rfl, R6.out.below⟩
end Go.Proofs.YtbmekfjcpdbapaaGreatDoor

