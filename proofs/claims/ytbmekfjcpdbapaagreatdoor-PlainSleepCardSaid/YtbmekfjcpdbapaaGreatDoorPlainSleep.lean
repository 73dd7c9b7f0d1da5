/- What is proved here: the statement PlainSleep: whatever its numbers, the statement returns true and leaves what was there. Conditions: package plain keeps its contracts; the statements' own beginning returns true. -/
import Derived.Test.YtbmekfjcpdbapaaGreatDoorGTree
import Derived.Test.YtbmekfjcpdbapaaGreatDoorGPair
import Derived.RegionTactic
import Derived.WalkArith
namespace Go.Proofs.YtbmekfjcpdbapaaGreatDoor
open Go.RowKit Go.Extern.Stop Go.Stop Go.Extern Go.WalkArith
set_option maxRecDepth 100000 in
set_option maxHeartbeats 4000000 in
theorem psleep_any {At : World → (Nat → Prop) → Nat → KernS → Prop} (H : PlainC At) (op0 : Int) (v : Int) (x : Int) (at0 : Int) (hv : 0 ≤ v ∧ v < 18446744073709551616) (hx : 0 ≤ x ∧ x < 18446744073709551616) (w : World) (hg : Held w) (hbeg : BegunAt11 w) :
    Calls Tryz.prog 11 #[.int .i64 op0, .int .u64 v, .int .u64 x, .int .i64 at0] w fun e w' => e = .returned (.bool true) ∧ Below w.heap.size w w' := by
  have HB := Lib.hid hbeg
  have HH := Lib.hid H
  clear hbeg H
  have HG : Hid (∀ W, Below w.heap.size w W → Held W) := fun W hW => hg.below hW hg.pos
  clear hg
  have m1 := Int.lt_tmod_of_pos at0 (show (0 : Int) < 16 by omega)
  have m2 := Int.tmod_lt_of_pos at0 (show (0 : Int) < 16 by omega)
  have m3 := Int.lt_tmod_of_pos op0 (show (0 : Int) < 4 by omega)
  have m4 := Int.tmod_lt_of_pos op0 (show (0 : Int) < 4 by omega)
  go_enter Tryz.func11, Tryz.ntmps11
  go_wp2_with fail
  refine HB.out.mono ?_
  rintro e w1 ⟨rfl, hb1⟩
  have B1 := Lib.hid hb1
  clear hb1 HB
  go_wp2_with fail
  obtain ⟨O, hO⟩ : ∃ O : Nat, (at0.tmod 16 + 16) % 16 = (O : Int) := ⟨((at0.tmod 16 + 16) % 16).toNat, by omega⟩
  obtain ⟨r, hr⟩ : ∃ r : Nat, 1 + op0.tmod 4 % 4 = (r : Int) := ⟨(1 + op0.tmod 4 % 4).toNat, by omega⟩
  have hO2 : O < 16 := by omega
  have hr2 : (r : Int) = 1 ∨ (r : Int) = 2 ∨ (r : Int) = 3 ∨ (r : Int) = 4 := by omega
  simp only [hO, hr]
  generalize at0.tmod 16 + 16 = y1
  generalize at0.tmod 16 = y2
  generalize op0.tmod 4 % 4 = y3
  generalize op0.tmod 4 + 4 = y4
  generalize op0.tmod 4 = y5
  clear m1 m2 m3 m4 hO hr
  refine (small_any HH.out 1 B1.out (by omega)).mono ?_
  rintro e w2 ⟨P, rfl, hr⟩
  have R2 := Lib.hid hr
  clear hr B1
  have hW : IntKind.u64.wrap (O : Int) = (O : Int) := u64_small O (by omega)
  have hW2 : IntKind.u64.wrap (r : Int) = (r : Int) := u64_small r (by omega)
  have F1 := Lib.hid sleep_up
  have F2 := Lib.hid (sleep_more O hO2 v)
  have F3 := Lib.hid (sleep_any O hO2 r hr2 v x).2
  cases hh : holdsB r v x
  · have F4 := Lib.hid (sleep_wait O hO2 r hr2 v x hh)
    have F5 := Lib.hid (fun W => kref_holds r v x W)
    rw [hh] at F5
    clear hh
    go_wp2_with fail
    refine (ok_yes R2.out (by unfold wordsIn; omega) F1.out.1).mono ?_
    rintro e w3 ⟨rfl, hr⟩
    have R3 := Lib.hid hr
    clear hr
    go_wp2_with fail
    refine (ok_yes R3.out (by unfold wordsIn; omega) F1.out.2).mono ?_
    rintro e w4 ⟨rfl, hr⟩
    have R4 := Lib.hid hr
    clear hr
    go_wp2_with fail
    refine (ok_yes R4.out (by unfold wordsIn; omega) F2.out.1).mono ?_
    rintro e w5 ⟨rfl, hr⟩
    have R5 := Lib.hid hr
    clear hr
    go_wp2_with fail
    refine (run_do (R5.out.box _) (by unfold wordsIn; omega) F4.out).mono ?_
    rintro e w6 ⟨rfl, hr⟩
    have R6 := Lib.hid hr
    clear hr
    go_wp2_with fail
    refine (F5.out _).mono ?_
    rintro e w' ⟨rfl, rfl⟩
    have k0 := R6.out.read (List.mem_cons_self ..)
    have l0 := bk_lt k0
    have c0_0 := bk_cell k0 0
    have c0_1 := bk_cell k0 1
    have c0_2 := bk_cell k0 2
    have c0_3 := bk_cell k0 3
    have c0_4 := bk_cell k0 4
    clear k0
    go_wp2_with fail
    refine (run_err0 (R6.out.box _) (by unfold wordsIn; omega) (HG.out _ (R6.out.box _).below) (by rw [F4.out])).mono ?_
    rintro e w7 ⟨rfl, hr⟩
    have R7 := Lib.hid hr
    clear hr
    clear l0 c0_0 c0_1 c0_2 c0_3 c0_4
    go_wp2_with fail
    refine (run_do R7.out (by unfold wordsIn; omega) F2.out.2).mono ?_
    rintro e w8 ⟨rfl, hr⟩
    have R8 := Lib.hid hr
    clear hr
    have k0 := R8.out.read (List.mem_cons_of_mem _ (List.mem_cons_self ..))
    have l0 := bk_lt k0
    have c0_0 := bk_cell k0 0
    have c0_1 := bk_cell k0 1
    have c0_2 := bk_cell k0 2
    have c0_3 := bk_cell k0 3
    have c0_4 := bk_cell k0 4
    clear k0
    have f0 := bk_free (R8.out.read (List.mem_cons_of_mem _ (List.mem_cons_self ..)) : _) 1
    go_wp2_with fail
    refine (run_do (R8.out.store (l1 := [_]) 1 _) (by unfold wordsIn; omega) F3.out.1).mono ?_
    rintro e w9 ⟨rfl, hr⟩
    have R9 := Lib.hid hr
    clear hr
    clear l0 c0_0 c0_1 c0_2 c0_3 c0_4 f0
    have k0 := R9.out.read (List.mem_cons_of_mem _ (List.mem_cons_self ..))
    have l0 := bk_lt k0
    have c0_0 : w9.cell? ⟨_, 0, none⟩ = some (.int .u64 9) := bk_cell k0 0
    have c0_1 : w9.cell? ⟨_, 1, none⟩ = some (.int .u64 5) := bk_cell k0 1
    have c0_2 : w9.cell? ⟨_, 2, none⟩ = some (.int .u64 (O : Int)) := bk_cell k0 2
    have c0_3 : w9.cell? ⟨_, 3, none⟩ = some (.int .u64 (r : Int)) := bk_cell k0 3
    have c0_4 : w9.cell? ⟨_, 4, none⟩ = some (.int .u64 x) := bk_cell k0 4
    clear k0
    have f0 := bk_free (R9.out.read (List.mem_cons_of_mem _ (List.mem_cons_self ..)) : _) 1
    go_wp2_with fail
    refine (run_do ((R9.out.store (l1 := [_]) 1 _).boxAt _ w9.heap.size (by simp)) (by unfold wordsIn; omega) F3.out.2).mono ?_
    rintro e w10 ⟨rfl, hr⟩
    have R10 := Lib.hid hr
    clear hr
    clear l0 c0_0 c0_1 c0_2 c0_3 c0_4 f0
    have k2 := R10.out.read (List.mem_cons_self ..)
    have l2 := bk_lt k2
    have c2_0 := bk_cell k2 0
    clear k2
    go_wp2_with fail
    go_ret
    exact ⟨rfl, (R10.out.box _).below⟩
  · have F4 := Lib.hid (sleep_yes O hO2 r hr2 v x hh)
    have F5 := Lib.hid (fun W => kref_holds r v x W)
    rw [hh] at F5
    clear hh
    go_wp2_with fail
    refine (ok_yes R2.out (by unfold wordsIn; omega) F1.out.1).mono ?_
    rintro e w3 ⟨rfl, hr⟩
    have R3 := Lib.hid hr
    clear hr
    go_wp2_with fail
    refine (ok_yes R3.out (by unfold wordsIn; omega) F1.out.2).mono ?_
    rintro e w4 ⟨rfl, hr⟩
    have R4 := Lib.hid hr
    clear hr
    go_wp2_with fail
    refine (ok_yes R4.out (by unfold wordsIn; omega) F2.out.1).mono ?_
    rintro e w5 ⟨rfl, hr⟩
    have R5 := Lib.hid hr
    clear hr
    go_wp2_with fail
    refine (run_do (R5.out.box _) (by unfold wordsIn; omega) F4.out).mono ?_
    rintro e w6 ⟨rfl, hr⟩
    have R6 := Lib.hid hr
    clear hr
    go_wp2_with fail
    refine (F5.out _).mono ?_
    rintro e w' ⟨rfl, rfl⟩
    have k0 := R6.out.read (List.mem_cons_self ..)
    have l0 := bk_lt k0
    have c0_0 := bk_cell k0 0
    have c0_1 := bk_cell k0 1
    have c0_2 := bk_cell k0 2
    have c0_3 := bk_cell k0 3
    have c0_4 := bk_cell k0 4
    clear k0
    go_wp2_with fail
    refine (run_err0 (R6.out.box _) (by unfold wordsIn; omega) (HG.out _ (R6.out.box _).below) (by rw [F4.out])).mono ?_
    rintro e w7 ⟨rfl, hr⟩
    have R7 := Lib.hid hr
    clear hr
    clear l0 c0_0 c0_1 c0_2 c0_3 c0_4
    go_wp2_with fail
    refine (run_do R7.out (by unfold wordsIn; omega) F2.out.2).mono ?_
    rintro e w8 ⟨rfl, hr⟩
    have R8 := Lib.hid hr
    clear hr
    have k0 := R8.out.read (List.mem_cons_of_mem _ (List.mem_cons_self ..))
    have l0 := bk_lt k0
    have c0_0 := bk_cell k0 0
    have c0_1 := bk_cell k0 1
    have c0_2 := bk_cell k0 2
    have c0_3 := bk_cell k0 3
    have c0_4 := bk_cell k0 4
    clear k0
    have f0 := bk_free (R8.out.read (List.mem_cons_of_mem _ (List.mem_cons_self ..)) : _) 1
    go_wp2_with fail
    refine (run_do (R8.out.store (l1 := [_]) 1 _) (by unfold wordsIn; omega) F3.out.1).mono ?_
    rintro e w9 ⟨rfl, hr⟩
    have R9 := Lib.hid hr
    clear hr
    clear l0 c0_0 c0_1 c0_2 c0_3 c0_4 f0
    have k0 := R9.out.read (List.mem_cons_of_mem _ (List.mem_cons_self ..))
    have l0 := bk_lt k0
    have c0_0 : w9.cell? ⟨_, 0, none⟩ = some (.int .u64 9) := bk_cell k0 0
    have c0_1 : w9.cell? ⟨_, 1, none⟩ = some (.int .u64 5) := bk_cell k0 1
    have c0_2 : w9.cell? ⟨_, 2, none⟩ = some (.int .u64 (O : Int)) := bk_cell k0 2
    have c0_3 : w9.cell? ⟨_, 3, none⟩ = some (.int .u64 (r : Int)) := bk_cell k0 3
    have c0_4 : w9.cell? ⟨_, 4, none⟩ = some (.int .u64 x) := bk_cell k0 4
    clear k0
    have f0 := bk_free (R9.out.read (List.mem_cons_of_mem _ (List.mem_cons_self ..)) : _) 1
    go_wp2_with fail
    refine (run_do ((R9.out.store (l1 := [_]) 1 _).boxAt _ w9.heap.size (by simp)) (by unfold wordsIn; omega) F3.out.2).mono ?_
    rintro e w10 ⟨rfl, hr⟩
    have R10 := Lib.hid hr
    clear hr
    clear l0 c0_0 c0_1 c0_2 c0_3 c0_4 f0
    have k2 := R10.out.read (List.mem_cons_self ..)
    have l2 := bk_lt k2
    have c2_0 := bk_cell k2 0
    clear k2
    go_wp2_with fail
    go_ret
    exact ⟨rfl, (R10.out.box _).below⟩
end Go.Proofs.YtbmekfjcpdbapaaGreatDoor

