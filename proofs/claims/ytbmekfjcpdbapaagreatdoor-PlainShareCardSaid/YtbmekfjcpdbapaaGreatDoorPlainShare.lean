/- What is proved here: the statement PlainShare: whatever its numbers, the statement returns true and leaves what was there. Conditions: package plain keeps its contracts; the statements' own beginning returns true. -/
import Derived.Test.YtbmekfjcpdbapaaGreatDoorGTree
import Derived.Test.YtbmekfjcpdbapaaGreatDoorGPair
import Derived.RegionTactic
import Derived.WalkArith
namespace Go.Proofs.YtbmekfjcpdbapaaGreatDoor
open Go.RowKit Go.Extern.Stop Go.Stop Go.Extern Go.WalkArith
set_option maxRecDepth 100000 in
set_option maxHeartbeats 4000000 in
theorem pshare_any {At : World → (Nat → Prop) → Nat → KernS → Prop} (H : PlainC At) (at0 : Int) (v : Int) (u : Int) (r0 : Int) (hv : 0 ≤ v ∧ v < 18446744073709551616) (hu : 0 ≤ u ∧ u < 18446744073709551616) (w : World) (hbeg : BegunAt11 w) :
    Calls Tryz.prog 8 #[.int .i64 at0, .int .u64 v, .int .u64 u, .int .i64 r0] w fun e w' => e = .returned (.bool true) ∧ Below w.heap.size w w' := by
  have HB := Lib.hid hbeg
  have HH := Lib.hid H
  clear hbeg H
  have m1 := Int.lt_tmod_of_pos at0 (show (0 : Int) < 16 by omega)
  have m2 := Int.tmod_lt_of_pos at0 (show (0 : Int) < 16 by omega)
  have m3 := Int.lt_tmod_of_pos r0 (show (0 : Int) < 3 by omega)
  have m4 := Int.tmod_lt_of_pos r0 (show (0 : Int) < 3 by omega)
  go_enter Tryz.func8, Tryz.ntmps8
  go_wp2_with fail
  refine HB.out.mono ?_
  rintro e w1 ⟨rfl, hb1⟩
  have B1 := Lib.hid hb1
  clear hb1 HB
  go_wp2_with fail
  obtain ⟨O, hO⟩ : ∃ O : Nat, (at0.tmod 16 + 16) % 16 = (O : Int) := ⟨((at0.tmod 16 + 16) % 16).toNat, by omega⟩
  obtain ⟨r, hr⟩ : ∃ r : Int, 1 + r0.tmod 3 % 3 = r := ⟨_, rfl⟩
  have hO2 : O < 16 := by omega
  have hr2 : r = 1 ∨ r = 2 ∨ r = 3 := by omega
  simp only [hO, hr]
  generalize at0.tmod 16 + 16 = y1
  generalize at0.tmod 16 = y2
  generalize r0.tmod 3 % 3 = y3
  generalize r0.tmod 3 + 3 = y4
  generalize r0.tmod 3 = y5
  clear m1 m2 m3 m4 hO hr
  refine (small_any HH.out 2 B1.out (by omega)).mono ?_
  rintro e w2 ⟨P, rfl, hr⟩
  have R2 := Lib.hid hr
  clear hr B1
  have hW : IntKind.u64.wrap (O : Int) = (O : Int) := u64_small O (by omega)
  have F1 := Lib.hid (share_up r hr2)
  have F8 := Lib.hid (share_gone r hr2 O hO2 v u)
  rcases hr2 with rfl | rfl | rfl
  · have F2 := Lib.hid (share_1 O hO2 v u)
    go_wp2_with fail
    refine (ok_yes R2.out (by unfold wordsIn; omega) F1.out.1).mono ?_
    rintro e w3 ⟨rfl, hr⟩
    have R3 := Lib.hid hr
    clear hr
    go_wp2_with fail
    refine (ok_yes R3.out (by unfold wordsIn; omega) F1.out.2.1).mono ?_
    rintro e w4 ⟨rfl, hr⟩
    have R4 := Lib.hid hr
    clear hr
    go_wp2_with fail
    refine (ok_yes R4.out (by unfold wordsIn; omega) F1.out.2.2.1).mono ?_
    rintro e w5 ⟨rfl, hr⟩
    have R5 := Lib.hid hr
    clear hr
    go_wp2_with fail
    refine (ok_yes R5.out (by unfold wordsIn; omega) F1.out.2.2.2).mono ?_
    rintro e w6 ⟨rfl, hr⟩
    have R6 := Lib.hid hr
    clear hr
    go_wp2_with fail
    refine (ok_yes R6.out (by unfold wordsIn; omega) F2.out.1).mono ?_
    rintro e w7 ⟨rfl, hr⟩
    have R7 := Lib.hid hr
    clear hr
    go_wp2_with fail
    refine (run_do R7.out (by unfold wordsIn; omega) F2.out.2.1).mono ?_
    rintro e w8 ⟨rfl, hr⟩
    have R8 := Lib.hid hr
    clear hr
    go_wp2_with fail
    refine (run_do (R8.out.box _) (by unfold wordsIn; omega) F2.out.2.2.1).mono ?_
    rintro e w9 ⟨rfl, hr⟩
    have R9 := Lib.hid hr
    clear hr
    go_wp2_with fail
    refine (run_do (R9.out.box _) (by unfold wordsIn; omega) F2.out.2.2.2.1).mono ?_
    rintro e w10 ⟨rfl, hr⟩
    have R10 := Lib.hid hr
    clear hr
    have k0 := R10.out.read (List.mem_cons_of_mem _ (List.mem_cons_self ..))
    have l0 := bk_lt k0
    have c0_0 := bk_cell k0 0
    have c0_1 := bk_cell k0 1
    clear k0
    have k1 := R10.out.read (List.mem_cons_self ..)
    have l1 := bk_lt k1
    have c1_0 := bk_cell k1 0
    clear k1
    go_wp2_with fail
    refine (run_do (R10.out.box _) (by unfold wordsIn; omega) F2.out.2.2.2.2.1).mono ?_
    rintro e w11 ⟨rfl, hr⟩
    have R11 := Lib.hid hr
    clear hr
    go_wp2_with fail
    refine (run_do (R11.out.box _) (by unfold wordsIn; omega) F2.out.2.2.2.2.2.1).mono ?_
    rintro e w12 ⟨rfl, hr⟩
    have R12 := Lib.hid hr
    clear hr
    go_wp2_with fail
    refine (run_nocap (e := 1) (s := 5) (R12.out.box _) (by rw [F8.out.2.2]; omega) (by omega) F8.out.1).mono ?_
    rintro e w13 ⟨rfl, hr⟩
    have R13 := Lib.hid hr
    clear hr
    go_wp2_with fail
    refine (run_nopte (e := 1) (p := 2) (R13.out.box _) (by rw [F8.out.2.2]; omega) (by omega) F8.out.2.1).mono ?_
    rintro e w14 ⟨rfl, hr⟩
    have R14 := Lib.hid hr
    clear hr
    clear l0 l1 c0_0 c0_1 c1_0
    have k3 := R14.out.read (List.mem_cons_of_mem _ (List.mem_cons_of_mem _ (List.mem_cons_self ..)))
    have l3 := bk_lt k3
    have c3_0 := bk_cell k3 0
    have c3_1 := bk_cell k3 1
    clear k3
    have k4 := R14.out.read (List.mem_cons_of_mem _ (List.mem_cons_self ..))
    have l4 := bk_lt k4
    have c4_0 := bk_cell k4 0
    clear k4
    go_wp2_with fail
    refine (ok_yes (R14.out.box _) (by unfold wordsIn; omega) F2.out.2.2.2.2.2.2).mono ?_
    rintro e w15 ⟨rfl, hr⟩
    have R15 := Lib.hid hr
    clear hr
    go_wp2_with fail
    go_ret
    exact ⟨rfl, R15.out.below⟩
  · have F2 := Lib.hid (share_2 O hO2 v u)
    go_wp2_with fail
    refine (ok_yes R2.out (by unfold wordsIn; omega) F1.out.1).mono ?_
    rintro e w3 ⟨rfl, hr⟩
    have R3 := Lib.hid hr
    clear hr
    go_wp2_with fail
    refine (ok_yes R3.out (by unfold wordsIn; omega) F1.out.2.1).mono ?_
    rintro e w4 ⟨rfl, hr⟩
    have R4 := Lib.hid hr
    clear hr
    go_wp2_with fail
    refine (ok_yes R4.out (by unfold wordsIn; omega) F1.out.2.2.1).mono ?_
    rintro e w5 ⟨rfl, hr⟩
    have R5 := Lib.hid hr
    clear hr
    go_wp2_with fail
    refine (ok_yes R5.out (by unfold wordsIn; omega) F1.out.2.2.2).mono ?_
    rintro e w6 ⟨rfl, hr⟩
    have R6 := Lib.hid hr
    clear hr
    go_wp2_with fail
    refine (ok_yes R6.out (by unfold wordsIn; omega) F2.out.1).mono ?_
    rintro e w7 ⟨rfl, hr⟩
    have R7 := Lib.hid hr
    clear hr
    go_wp2_with fail
    refine (run_do R7.out (by unfold wordsIn; omega) F2.out.2.1).mono ?_
    rintro e w8 ⟨rfl, hr⟩
    have R8 := Lib.hid hr
    clear hr
    go_wp2_with fail
    refine (run_do (R8.out.box _) (by unfold wordsIn; omega) F2.out.2.2.1).mono ?_
    rintro e w9 ⟨rfl, hr⟩
    have R9 := Lib.hid hr
    clear hr
    go_wp2_with fail
    refine (run_do (R9.out.box _) (by unfold wordsIn; omega) F2.out.2.2.2.1).mono ?_
    rintro e w10 ⟨rfl, hr⟩
    have R10 := Lib.hid hr
    clear hr
    have k0 := R10.out.read (List.mem_cons_of_mem _ (List.mem_cons_self ..))
    have l0 := bk_lt k0
    have c0_0 := bk_cell k0 0
    have c0_1 := bk_cell k0 1
    clear k0
    have k1 := R10.out.read (List.mem_cons_self ..)
    have l1 := bk_lt k1
    have c1_0 := bk_cell k1 0
    clear k1
    go_wp2_with fail
    refine (run_do (R10.out.box _) (by unfold wordsIn; omega) F2.out.2.2.2.2.1).mono ?_
    rintro e w11 ⟨rfl, hr⟩
    have R11 := Lib.hid hr
    clear hr
    go_wp2_with fail
    refine (run_do (R11.out.box _) (by unfold wordsIn; omega) F2.out.2.2.2.2.2.1).mono ?_
    rintro e w12 ⟨rfl, hr⟩
    have R12 := Lib.hid hr
    clear hr
    go_wp2_with fail
    refine (run_nocap (e := 1) (s := 5) (R12.out.box _) (by rw [F8.out.2.2]; omega) (by omega) F8.out.1).mono ?_
    rintro e w13 ⟨rfl, hr⟩
    have R13 := Lib.hid hr
    clear hr
    go_wp2_with fail
    refine (run_nopte (e := 1) (p := 2) (R13.out.box _) (by rw [F8.out.2.2]; omega) (by omega) F8.out.2.1).mono ?_
    rintro e w14 ⟨rfl, hr⟩
    have R14 := Lib.hid hr
    clear hr
    clear l0 l1 c0_0 c0_1 c1_0
    have k3 := R14.out.read (List.mem_cons_of_mem _ (List.mem_cons_of_mem _ (List.mem_cons_self ..)))
    have l3 := bk_lt k3
    have c3_0 := bk_cell k3 0
    have c3_1 := bk_cell k3 1
    clear k3
    have k4 := R14.out.read (List.mem_cons_of_mem _ (List.mem_cons_self ..))
    have l4 := bk_lt k4
    have c4_0 := bk_cell k4 0
    clear k4
    go_wp2_with fail
    refine (ok_yes (R14.out.box _) (by unfold wordsIn; omega) F2.out.2.2.2.2.2.2).mono ?_
    rintro e w15 ⟨rfl, hr⟩
    have R15 := Lib.hid hr
    clear hr
    go_wp2_with fail
    go_ret
    exact ⟨rfl, R15.out.below⟩
  · have F2 := Lib.hid (share_3 O hO2 v u)
    go_wp2_with fail
    refine (ok_yes R2.out (by unfold wordsIn; omega) F1.out.1).mono ?_
    rintro e w3 ⟨rfl, hr⟩
    have R3 := Lib.hid hr
    clear hr
    go_wp2_with fail
    refine (ok_yes R3.out (by unfold wordsIn; omega) F1.out.2.1).mono ?_
    rintro e w4 ⟨rfl, hr⟩
    have R4 := Lib.hid hr
    clear hr
    go_wp2_with fail
    refine (ok_yes R4.out (by unfold wordsIn; omega) F1.out.2.2.1).mono ?_
    rintro e w5 ⟨rfl, hr⟩
    have R5 := Lib.hid hr
    clear hr
    go_wp2_with fail
    refine (ok_yes R5.out (by unfold wordsIn; omega) F1.out.2.2.2).mono ?_
    rintro e w6 ⟨rfl, hr⟩
    have R6 := Lib.hid hr
    clear hr
    go_wp2_with fail
    refine (ok_yes R6.out (by unfold wordsIn; omega) F2.out.1).mono ?_
    rintro e w7 ⟨rfl, hr⟩
    have R7 := Lib.hid hr
    clear hr
    go_wp2_with fail
    refine (run_do R7.out (by unfold wordsIn; omega) F2.out.2.1).mono ?_
    rintro e w8 ⟨rfl, hr⟩
    have R8 := Lib.hid hr
    clear hr
    go_wp2_with fail
    refine (run_do (R8.out.box _) (by unfold wordsIn; omega) F2.out.2.2.1).mono ?_
    rintro e w9 ⟨rfl, hr⟩
    have R9 := Lib.hid hr
    clear hr
    go_wp2_with fail
    refine (run_do (R9.out.box _) (by unfold wordsIn; omega) F2.out.2.2.2.1).mono ?_
    rintro e w10 ⟨rfl, hr⟩
    have R10 := Lib.hid hr
    clear hr
    have k0 := R10.out.read (List.mem_cons_of_mem _ (List.mem_cons_self ..))
    have l0 := bk_lt k0
    have c0_0 := bk_cell k0 0
    have c0_1 := bk_cell k0 1
    clear k0
    have k1 := R10.out.read (List.mem_cons_self ..)
    have l1 := bk_lt k1
    have c1_0 := bk_cell k1 0
    clear k1
    go_wp2_with fail
    refine (run_do (R10.out.box _) (by unfold wordsIn; omega) F2.out.2.2.2.2.1).mono ?_
    rintro e w11 ⟨rfl, hr⟩
    have R11 := Lib.hid hr
    clear hr
    go_wp2_with fail
    refine (run_do (R11.out.box _) (by unfold wordsIn; omega) F2.out.2.2.2.2.2.1).mono ?_
    rintro e w12 ⟨rfl, hr⟩
    have R12 := Lib.hid hr
    clear hr
    go_wp2_with fail
    refine (run_nocap (e := 1) (s := 5) (R12.out.box _) (by rw [F8.out.2.2]; omega) (by omega) F8.out.1).mono ?_
    rintro e w13 ⟨rfl, hr⟩
    have R13 := Lib.hid hr
    clear hr
    go_wp2_with fail
    refine (run_nopte (e := 1) (p := 2) (R13.out.box _) (by rw [F8.out.2.2]; omega) (by omega) F8.out.2.1).mono ?_
    rintro e w14 ⟨rfl, hr⟩
    have R14 := Lib.hid hr
    clear hr
    clear l0 l1 c0_0 c0_1 c1_0
    have k3 := R14.out.read (List.mem_cons_of_mem _ (List.mem_cons_of_mem _ (List.mem_cons_self ..)))
    have l3 := bk_lt k3
    have c3_0 := bk_cell k3 0
    have c3_1 := bk_cell k3 1
    clear k3
    have k4 := R14.out.read (List.mem_cons_of_mem _ (List.mem_cons_self ..))
    have l4 := bk_lt k4
    have c4_0 := bk_cell k4 0
    clear k4
    go_wp2_with fail
    refine (ok_yes (R14.out.box _) (by unfold wordsIn; omega) F2.out.2.2.2.2.2.2).mono ?_
    rintro e w15 ⟨rfl, hr⟩
    have R15 := Lib.hid hr
    clear hr
    go_wp2_with fail
    go_ret
    exact ⟨rfl, R15.out.below⟩
end Go.Proofs.YtbmekfjcpdbapaaGreatDoor

