/- What is proved here: the statement PlainOrder: whatever its number, the statement returns true and leaves what was there. Conditions: package plain keeps its contracts; the statements' own beginning returns true; the library's variable errors.errorType holds the type error. -/
import Derived.Test.YtbmekfjcpdbapaaGreatDoorPair2
import Derived.Test.YtbmekfjcpdbapaaGreatDoorGPair
import Derived.Test.YtbmekfjcpdbapaaGreatDoorPlainOM
namespace Go.Proofs.YtbmekfjcpdbapaaGreatDoor
open Go.RowKit Go.Extern.Stop Go.Stop Go.Extern Go.WalkArith
set_option maxRecDepth 100000 in
set_option maxHeartbeats 8000000 in
theorem porder_any {At : World → (Nat → Prop) → Nat → KernS → Prop} (H : PlainC At) (n0 : Int) (w : World) (hg : Held w) (hbeg : BegunAt11 w) :
    Calls Tryz.prog 12 #[.int .i64 n0] w fun e w' => e = .returned (.bool true) ∧ Below w.heap.size w w' := by
  have HB := Lib.hid hbeg
  have HH := Lib.hid H
  have HG : Hid (∀ W, Below w.heap.size w W → Held W) := fun W hW => hg.below hW hg.pos
  clear hbeg H hg
  go_enter Tryz.func12, Tryz.ntmps12
  go_wp2_with fail
  refine HB.out.mono ?_
  rintro e w1 ⟨rfl, hb1⟩
  have B1 := Lib.hid hb1
  clear hb1 HB
  go_wp2_with fail
  refine (small_any HH.out 1 B1.out (by omega)).mono ?_
  rintro e w2 ⟨P, rfl, hr⟩
  have R2 := Lib.hid hr
  clear hr B1
  go_wp2_with fail
  refine (ok_yes R2.out (by unfold wordsIn; omega) po_up.1).mono ?_
  rintro e w3 ⟨rfl, hr⟩
  have R3 := Lib.hid hr
  clear hr R2
  go_wp2_with fail
  refine (ok_yes R3.out (by unfold wordsIn; omega) po_up.2.1).mono ?_
  rintro e w4 ⟨rfl, hr⟩
  have R4 := Lib.hid hr
  clear hr R3
  go_wp2_with fail
  refine (ok_yes R4.out (by unfold wordsIn; omega) po_up.2.2).mono ?_
  rintro e w5 ⟨rfl, hr⟩
  have R5 := Lib.hid hr
  clear hr R4
  have p1 := tnear n0 14 (by omega)
  have p2 := tupm n0 14 (by omega)
  obtain ⟨M, hM⟩ : ∃ M : Nat, (n0.tmod 14 + 14) % 14 = (M : Int) := ⟨((n0.tmod 14 + 14) % 14).toNat, by omega⟩
  have hM14 : M < 14 := by omega
  go_upto_region 8 with (fail)
  obtain ⟨V, hV⟩ : ∃ V, V = w5.alloc (.cells poV 77) := ⟨_, rfl⟩
  have RB : Hid (KRun HH.out w P poM [fixT w5.heap.size (.cells poV 77)] V) := by rw [hV]; exact R5.out.box _
  unfold poV at hV
  rw [← hV]
  clear hV R5
  obtain ⟨d0, d1, d2, d3, d4, d5⟩ := po_cells M hM14
  have HD := Lib.hid (po_do M hM14)
  have HW := Lib.hid (po_words M hM14)
  have k1 := RB.out.read (List.mem_cons_self ..)
  have z0 := (bk_cell k1 (M * 6)).trans d0
  have z1 := (bk_cell k1 (M * 6 + 1)).trans d1
  have z2 := (bk_cell k1 (M * 6 + 2)).trans d2
  have z3 := (bk_cell k1 (M * 6 + 3)).trans d3
  have z4 := (bk_cell k1 (M * 6 + 4)).trans d4
  have z5 := (bk_cell k1 (M * 6 + 5)).trans d5
  have lz := bk_lt k1
  clear k1 d0 d1 d2 d3 d4 d5
  have M0 : (0 : Int) ≤ (M : Int) := by omega
  have M1 : (M : Int) < 14 := by omega
  generalize poC M 0 = x0 at z0 HD HW
  generalize poC M 1 = x1 at z1 HD HW
  generalize poC M 2 = x2 at z2 HD HW
  generalize poC M 3 = x3 at z3 HD HW
  generalize poC M 4 = x4 at z4 HD HW
  generalize poC M 5 = er at z5 HD
  go_wp2_with fail
  refine (run_do (RB.out.box (.cells #[.int .u64 x0, .int .u64 x1, .int .u64 x2, .int .u64 x3, .int .u64 x4, .int .i64 er] 77)) HW.out HD.out.1).mono ?_
  rintro e w6 ⟨rfl, hr⟩
  have R6 := Lib.hid hr
  clear hr RB z0 z1 z2 z3 z4 z5 lz
  have k1 := R6.out.read (List.mem_cons_self ..)
  have z0 := bk_cell k1 0
  have z1 := bk_cell k1 1
  have z2 := bk_cell k1 2
  have z3 := bk_cell k1 3
  have z4 := bk_cell k1 4
  have z5 := bk_cell k1 5
  have lz := bk_lt k1
  clear k1
  go_wp2_with fail
  refine (run_do (R6.out.box _) HW.out HD.out.2.1).mono ?_
  rintro e w7 ⟨rfl, hr⟩
  have R7 := Lib.hid (KRun.box hr (.cells #[.int .i64 10, .int .u64 0] 41))
  clear hr R6 z0 z1 z2 z3 z4 z5 lz
  go_wp2_with fail
  obtain ⟨W8, hW8⟩ : ∃ W8, W8 = w7.alloc (.cells #[.int .i64 10, .int .u64 0] 41) := ⟨_, rfl⟩
  rw [← hW8] at R7 ⊢
  clear hW8
  obtain ⟨S9, hs9⟩ := R7.out
  clear R7
  generalize w7.heap.size = B at hs9 ⊢
  generalize w6.heap.size = A at hs9 ⊢
  generalize V.heap.size = R at hs9 ⊢
  have SC := Lib.hid (hs9.under (dn (Below.refl _ _) 1))
  clear hs9
  have hS : W8.drew.cell? ⟨R, 0, none⟩ = some (.int .u64 x0) ∧ W8.drew.cell? ⟨R, 1, none⟩ = some (.int .u64 x1) ∧ W8.drew.cell? ⟨R, 2, none⟩ = some (.int .u64 x2) ∧ W8.drew.cell? ⟨R, 3, none⟩ = some (.int .u64 x3) ∧ W8.drew.cell? ⟨R, 4, none⟩ = some (.int .u64 x4) ∧ W8.drew.cell? ⟨R, 5, none⟩ = some (.int .i64 er) ∧ W8.drew.cell? ⟨A, 0, none⟩ = some (.int .i64 er) ∧ W8.drew.cell? ⟨B, 0, none⟩ = some (.int .i64 10) := ⟨bk_cell SC.out.2.2.2.2.2.2.1 0, bk_cell SC.out.2.2.2.2.2.2.1 1, bk_cell SC.out.2.2.2.2.2.2.1 2, bk_cell SC.out.2.2.2.2.2.2.1 3, bk_cell SC.out.2.2.2.2.2.2.1 4, bk_cell SC.out.2.2.2.2.2.2.1 5, bk_cell SC.out.2.2.2.1 0, bk_cell SC.out.1 0⟩
  go_region_held3 (fun w' => w'.cell? ⟨R, 0, none⟩ = some (.int .u64 x0) ∧ w'.cell? ⟨R, 1, none⟩ = some (.int .u64 x1) ∧ w'.cell? ⟨R, 2, none⟩ = some (.int .u64 x2) ∧ w'.cell? ⟨R, 3, none⟩ = some (.int .u64 x3) ∧ w'.cell? ⟨R, 4, none⟩ = some (.int .u64 x4) ∧ w'.cell? ⟨R, 5, none⟩ = some (.int .i64 er) ∧ w'.cell? ⟨A, 0, none⟩ = some (.int .i64 er) ∧ w'.cell? ⟨B, 0, none⟩ = some (.int .i64 10)) (exact hS) (first | (go_at_call 21; refine (side_errE (l1 := [_, _, _, _]) (l2 := []) SC.out HW.out (HG.out _ SC.out.below) HD.out.1 HD.out.2.2).mono ?_; rintro e1 wn ⟨c, t, rfl, ht, h⟩; have SE := Lib.hid h; clear h; have hS : wn.cell? ⟨R, 0, none⟩ = some (.int .u64 x0) ∧ wn.cell? ⟨R, 1, none⟩ = some (.int .u64 x1) ∧ wn.cell? ⟨R, 2, none⟩ = some (.int .u64 x2) ∧ wn.cell? ⟨R, 3, none⟩ = some (.int .u64 x3) ∧ wn.cell? ⟨R, 4, none⟩ = some (.int .u64 x4) ∧ wn.cell? ⟨R, 5, none⟩ = some (.int .i64 er) ∧ wn.cell? ⟨A, 0, none⟩ = some (.int .i64 er) ∧ wn.cell? ⟨B, 0, none⟩ = some (.int .i64 10) := ⟨bk_cell SE.out.2.2.2.2.2.2.2.2.2.1 0, bk_cell SE.out.2.2.2.2.2.2.2.2.2.1 1, bk_cell SE.out.2.2.2.2.2.2.2.2.2.1 2, bk_cell SE.out.2.2.2.2.2.2.2.2.2.1 3, bk_cell SE.out.2.2.2.2.2.2.2.2.2.1 4, bk_cell SE.out.2.2.2.2.2.2.2.2.2.1 5, bk_cell SE.out.2.2.2.2.2.2.1 0, bk_cell SE.out.2.2.2.1 0⟩) | (go_at_call 24; refine (chain_code (HG.out _ SE.out.below) (err_chain ht SE.out.1).1).mono ?_; rintro e1 wm ⟨rfl, hb⟩; have SF := Lib.hid (SE.out.under hb); clear hb; have hS : wm.cell? ⟨R, 0, none⟩ = some (.int .u64 x0) ∧ wm.cell? ⟨R, 1, none⟩ = some (.int .u64 x1) ∧ wm.cell? ⟨R, 2, none⟩ = some (.int .u64 x2) ∧ wm.cell? ⟨R, 3, none⟩ = some (.int .u64 x3) ∧ wm.cell? ⟨R, 4, none⟩ = some (.int .u64 x4) ∧ wm.cell? ⟨R, 5, none⟩ = some (.int .i64 er) ∧ wm.cell? ⟨A, 0, none⟩ = some (.int .i64 er) ∧ wm.cell? ⟨B, 0, none⟩ = some (.int .i64 10) := ⟨bk_cell SF.out.2.2.2.2.2.2.2.2.2.1 0, bk_cell SF.out.2.2.2.2.2.2.2.2.2.1 1, bk_cell SF.out.2.2.2.2.2.2.2.2.2.1 2, bk_cell SF.out.2.2.2.2.2.2.2.2.2.1 3, bk_cell SF.out.2.2.2.2.2.2.2.2.2.1 4, bk_cell SF.out.2.2.2.2.2.2.2.2.2.1 5, bk_cell SF.out.2.2.2.2.2.2.1 0, bk_cell SF.out.2.2.2.1 0⟩))
  all_goals
    go_wp2_with fail
    go_ret
    exact ⟨rfl, SF.out.below⟩
end Go.Proofs.YtbmekfjcpdbapaaGreatDoor

