/- What is proved here: the statement PlainAlloc: whatever its numbers, the statement returns true and leaves what was there. Conditions: package plain keeps its contracts; the statements' own beginning returns true. -/
import Derived.Test.YtbmekfjcpdbapaaGreatDoorGTree
import Derived.Test.YtbmekfjcpdbapaaGreatDoorGPair
import Derived.RegionTactic
import Derived.WalkArith
namespace Go.Proofs.YtbmekfjcpdbapaaGreatDoor
open Go.RowKit Go.Extern.Stop Go.Stop Go.Extern Go.WalkArith
set_option maxRecDepth 100000 in
set_option maxHeartbeats 4000000 in
theorem palloc_any {At : World → (Nat → Prop) → Nat → KernS → Prop} (H : PlainC At) (f0 d0 : Int) (w : World) (hbeg : BegunAt11 w) :
    Calls Tryz.prog 7 #[.int .i64 f0, .int .i64 d0] w fun e w' => e = .returned (.bool true) ∧ Below w.heap.size w w' := by
  have HB := Lib.hid hbeg
  have HH := Lib.hid H
  clear hbeg H
  have m1 := Int.lt_tmod_of_pos f0 (show (0 : Int) < 8 by omega)
  have m2 := Int.tmod_lt_of_pos f0 (show (0 : Int) < 8 by omega)
  go_enter Tryz.func7, Tryz.ntmps7
  go_wp2_with fail
  refine HB.out.mono ?_
  rintro e w1 ⟨rfl, hb1⟩
  have B1 := Lib.hid hb1
  clear hb1 HB
  go_wp2_with fail
  obtain ⟨F, hF⟩ : ∃ F : Nat, 1 + f0.tmod 8 % 8 = (F : Int) := ⟨(1 + f0.tmod 8 % 8).toNat, by omega⟩
  have hF1 : 1 ≤ F := by omega
  have hF2 : F < 9 := by omega
  simp only [hF]
  generalize f0.tmod 8 % 8 = y1
  generalize f0.tmod 8 + 8 = y2
  generalize f0.tmod 8 = y3
  clear m1 m2 hF
  refine (small_any HH.out (F : Int) B1.out (by omega)).mono ?_
  rintro e w2 ⟨P, rfl, hr⟩
  have R2 := Lib.hid hr
  clear hr B1
  go_wp2_with fail
  go_loopw [7] (fun iv W => ∃ i : Nat, iv = .int .i64 i ∧ i ≤ F ∧ KRun HH.out w P (alN F i) [] W) (fun iv _ => (F - intOf iv).toNat)
  case atStart => exact ⟨0, rfl, by omega, R2.out⟩
  case round =>
    obtain ⟨i, rfl, hiF, hr⟩ := hrel
    have HR := Lib.hid hr
    clear hr R2
    by_cases h1 : i < F
    · have i1 : (i : Int) < (F : Int) := by omega
      obtain ⟨a1, a2, a3⟩ := alloc_up F hF2 i h1
      have A1 : Hid (kdo (alN F i) 0 1 i 0 0 0 = (alN F (i + 1), 0, 0, true)) := by
        show kdo (alN F i) 0 1 i 0 0 0 = (alN F (i + 1), 0, 0, true)
        rw [← a1]
        rfl
      have A2 := Lib.hid a2
      have A3 := Lib.hid a3
      clear a1 a2 a3
      have A4 : Hid ((alN F (i + 1)).envs = 2) := alN_envs F (i + 1) hF2 (by omega)
      go_wp2_with fail
      refine (ok_yes HR.out (by unfold wordsIn; omega) A1.out).mono ?_
      rintro e w3 ⟨rfl, hr⟩
      have R3 := Lib.hid hr
      clear hr
      go_wp2_with fail
      refine (run_cap (e := 0) (s := i) R3.out (by rw [A4.out]; decide) (by omega) A2.out).mono ?_
      rintro e w4 ⟨⟨a, b, rfl, _⟩, hr⟩
      have R4 := Lib.hid hr
      clear hr
      rw [A3.out]
      generalize ((alN F (i + 1)).sl 0 i).rights = rr
      go_wp2_with fail
      go_roundw
      case rel => exact ⟨i + 1, by go_num, by omega, R4.out.alloc _⟩
      case measure => simp [intOf]; omega
    · obtain rfl : i = F := by omega
      obtain ⟨a1, a2⟩ := alloc_full i hF2 (by omega)
      have A1 : Hid (kdo (alN i i) 1 1 0 0 0 0 = (alN i i, 6, 0, true)) := alloc_one hF2 hF1
      have A2 : Hid (kdo (alN i i) 0 1 0 0 0 0 = (alN i i, 4, 0, true)) := alloc_two hF2 hF1
      clear a1 a2
      have p0 : (0 : Int) < (i : Int) := by omega
      have m1 := tnear d0 (i : Int) p0
      have m2 := tupm d0 (i : Int) p0
      go_wp2_with fail
      refine (run_do HR.out (by unfold wordsIn; omega) A1.out).mono ?_
      rintro e w3 ⟨rfl, hr⟩
      have R3 := Lib.hid hr
      clear hr
      have hs3 : w.heap.size ≤ w3.heap.size := R3.out.below.size
      go_wp2_with fail
      refine (run_do (R3.out.box _) (by unfold wordsIn; omega) A2.out).mono ?_
      rintro e w4 ⟨rfl, hr⟩
      have R4 := Lib.hid hr
      clear hr
      go_wp2_with fail
      have e1 := Int.emod_nonneg (d0.tmod (i : Int)) (show (i : Int) ≠ 0 by omega)
      have e2 := Int.emod_lt_of_pos (d0.tmod (i : Int)) p0
      obtain ⟨D, hD⟩ : ∃ D : Nat, d0.tmod (i : Int) % (i : Int) = (D : Int) := ⟨(d0.tmod (i : Int) % (i : Int)).toNat, by omega⟩
      have hD2 : D < i := by omega
      have hD3 : (d0.tmod (i : Int) + (i : Int)) % (i : Int) = (D : Int) := by rw [Int.add_emod_right]; exact hD
      simp only [hD, hD3]
      generalize d0.tmod (i : Int) + (i : Int) = z1
      generalize d0.tmod (i : Int) = z2
      have hW : IntKind.u64.wrap (D : Int) = (D : Int) := u64_small D (by omega)
      simp only [hW]
      clear m1 m2 e1 e2 hD hD3 hW
      have A3 : Hid (kdo (alN i i) 0 5 D 0 0 0 = (alD i D, 0, 1, true)) := alloc_drop hF2 hD2
      have A4 : Hid (kdo (alD i D) 1 1 0 0 0 0 = (alE i D, 0, 0, true)) := alloc_again hF2 hD2
      have A5 : Hid (((alE i D).sl 1 0).frame = D ∧ ((alE i D).sl 1 0).is = true ∧ (alE i D).envs = 2) := alloc_last i hF2 D hD2
      refine (run_do (R4.out.box _) (by unfold wordsIn; omega) A3.out).mono ?_
      rintro e w5 ⟨rfl, hr⟩
      have R5 := Lib.hid hr
      clear hr
      go_wp2_with fail
      refine (run_do (R5.out.box _) (by unfold wordsIn; omega) A4.out).mono ?_
      rintro e w6 ⟨rfl, hr⟩
      have R6 := Lib.hid hr
      clear hr
      go_wp2_with fail
      refine (run_cap (e := 1) (s := 0) (R6.out.box _) (by rw [A5.out.2.2]; decide) (by omega) A5.out.2.1).mono ?_
      rintro e w7 ⟨⟨a, b, rfl, _⟩, hr⟩
      have R7 := Lib.hid hr
      clear hr
      rw [A5.out.1]
      generalize ((alE i D).sl 1 0).rights = rr
      have k3 := R7.out.read (List.mem_cons_of_mem _ (List.mem_cons_of_mem _ (List.mem_cons_of_mem _ (List.mem_cons_self ..))))
      have k4 := R7.out.read (List.mem_cons_of_mem _ (List.mem_cons_of_mem _ (List.mem_cons_self ..)))
      have k5 := R7.out.read (List.mem_cons_of_mem _ (List.mem_cons_self ..))
      have k6 := R7.out.read (List.mem_cons_self ..)
      have l3 := bk_lt k3
      have l4 := bk_lt k4
      have l5 := bk_lt k5
      have l6 := bk_lt k6
      have c3 := bk_cell k3 0
      have c4 := bk_cell k4 0
      have c5 := bk_cell k5 0
      have d5 := bk_cell k5 1
      have c6 := bk_cell k6 0
      clear k3 k4 k5 k6
      go_wp2_with fail
      go_ret
      exact ⟨by simp, (R7.out.alloc _).below⟩
end Go.Proofs.YtbmekfjcpdbapaaGreatDoor

