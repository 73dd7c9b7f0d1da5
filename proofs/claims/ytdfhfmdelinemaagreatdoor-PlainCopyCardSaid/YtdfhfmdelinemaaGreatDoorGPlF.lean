/- What is proved here: package plain keeps its chapter. Conditions: those that each theorem names. -/
import Derived.Test.YtdfhfmdelinemaaGreatDoorGPlE
import Derived.Test.YtdfhfmdelinemaaGreatDoorGPlD
import Derived.Test.YtdfhfmdelinemaaGreatDoorGStage
import Derived.Test.YtdfhfmdelinemaaGreatDoorGTreeE
namespace Go.Proofs.YtdfhfmdelinemaaGreatDoor
open Go.RowKit Go.Extern.Stop Go.Stop Go.Extern Go.WalkArith
section
variable {B : Nat → Nat} {E N : Nat} {k : KernS}
theorem only_box {W W' : World} {S : Nat → Prop} {A : Nat} {o : Obj} (hx : W.heap[A]? = some o) (ho : Only S W W') (hn : ¬ S A) : W'.heap[A]? = some o := (ho.2.2.2.2 A (bk_lt hx) hn).trans hx
set_option maxRecDepth 100000 in
set_option maxHeartbeats 2000000 in
theorem plerr_walk (env x0 x1 x2 x3 x4 : Int) (hx : wordsIn x0 x1 x2 x3 x4) {n v : Int} {b : Bool} {ks : KernS} (hq : kdo k env x0 x1 x2 x3 x4 = (ks, n, v, b)) (w : World) (h : KAt w B E N k) (hg : Held w) :
  Calls Tryz.prog 11 #[.pointer (some ⟨B 0, 0, none⟩), .int .i64 env, callV x0 x1 x2 x3 x4] w fun x w' => ∃ v, x = .returned v ∧ ErrIs w w' n env x0 x1 x2 x3 x4 v ∧ Below w.heap.size w w' := by
 have HK := Lib.hid h
 have HG := Lib.hid hg
 have HCP := Lib.hid (fun W (hW : KAt W B E N k) => plcopy_walk W hW)
 have HDO0 := Lib.hid (fun (B' : Nat → Nat) W (hW : KAt W B' E N k) => pldo_any env x0 x1 x2 x3 x4 hx W hW)
 rw [hq] at HDO0
 have HDO : Hid (∀ (B' : Nat → Nat) W, KAt W B' E N k → Calls Tryz.prog 12 #[.pointer (some ⟨B' 0, 0, none⟩), .int .i64 env, callV x0 x1 x2 x3 x4] W fun x w' => x = .returned (.tuple #[.agg #[.int .i64 n, .int .u64 v], .bool b]) ∧ KAt w' B' E N ks ∧ Only (Blk B' E) W w') := HDO0
 clear h hg hx hq HDO0
 go_enter Tryz.func11, Tryz.ntmps11
 go_wp2_with fail
 have B1 := Lib.hid ((Below.refl w.heap.size w).alloc (Nat.le_refl _) (.cells #[.int .u64 x0, .int .u64 x1, .int .u64 x2, .int .u64 x3, .int .u64 x4] 36))
 have X1 := Lib.hid (heap_alloc_new w (.cells #[.int .u64 x0, .int .u64 x1, .int .u64 x2, .int .u64 x3, .int .u64 x4] 36))
 generalize w.alloc (.cells #[.int .u64 x0, .int .u64 x1, .int .u64 x2, .int .u64 x3, .int .u64 x4] 36) = wq at B1 X1 ⊢
 have HC : Hid (w.heap.size ≤ w.heap.size) := Nat.le_refl _
 have hCl := bk_lt X1.out
 generalize hC : w.heap.size = C at X1 hCl ⊢
 have HCE := Lib.hid hC
 have HCl := Lib.hid hCl
 clear hC HC
 have b0 := bk_cell X1.out 0
 have b1 := bk_cell X1.out 1
 have b2 := bk_cell X1.out 2
 have b3 := bk_cell X1.out 3
 have b4 := bk_cell X1.out 4
 go_cut [7] (fun av W => ∃ A : Nat, av = .pointer (some ⟨A, 0, none⟩) ∧ Below w.heap.size w W ∧ W.heap[C]? = some (.cells #[.int .u64 x0, .int .u64 x1, .int .u64 x2, .int .u64 x3, .int .u64 x4] 36 (0, 0)) ∧ W.heap[A]? = some (.cells #[.int .i64 n, .int .u64 v] 41 (0, 0)))
 case first =>
  have BD : Hid (Below w.heap.size w wq.drew) := dn B1.out 1
  have KD : Hid (KAt wq.drew B E N k) := HK.out.later BD.out
  have XD : Hid (wq.drew.heap[C]? = some (.cells #[.int .u64 x0, .int .u64 x1, .int .u64 x2, .int .u64 x3, .int .u64 x4] 36 (0, 0))) := X1
  clear B1 X1
  go_region_with (first
   | (go_at_call 19; first
     | (refine (HCP.out _ KD.out).mono ?_; rintro e1 wc ⟨B', rfl, hk, hl, hb⟩; have KC := Lib.hid hk; have LC := Lib.hid (show ∀ i, i < 8 + E → wq.heap.size ≤ B' i from hl); have BC := Lib.hid (bl_trans BD.out hb); have XC := Lib.hid (bk_below XD.out hb); have bc0 := bk_cell XC.out 0; have bc1 := bk_cell XC.out 1; have bc2 := bk_cell XC.out 2; have bc3 := bk_cell XC.out 3; have bc4 := bk_cell XC.out 4; have lbc := bk_lt XC.out; clear hk hl hb)
     | (refine (HCP.out _ (KD.out.later ((Below.refl _ _).alloc (Nat.le_refl _) (.cells #[.int .i64 0, .int .u64 0] 41)))).mono ?_; rintro e1 wc ⟨B', rfl, hk, hl, hb⟩; have KC := Lib.hid hk; have LC2 := Lib.hid (show ∀ i, i < 8 + E → wq.heap.size + 1 ≤ B' i from fun i hi => by have h1 := hl i hi; simp at h1; omega); have LC := Lib.hid (show ∀ i, i < 8 + E → wq.heap.size ≤ B' i from fun i hi => by have := LC2.out i hi; omega); have BC := Lib.hid (bl_alloc (w := w) (a := wq.drew) BD.out hb); have XC := Lib.hid (bk_keep (w := wq.drew) XD.out hb); have bc0 := bk_cell XC.out 0; have bc1 := bk_cell XC.out 1; have bc2 := bk_cell XC.out 2; have bc3 := bk_cell XC.out 3; have bc4 := bk_cell XC.out 4; have lbc := bk_lt XC.out; have XA := Lib.hid (show wc.heap[wq.heap.size]? = some (.cells #[.int .i64 0, .int .u64 0] 41 (0, 0)) from bk_one (w := wq.drew) hb); clear hk hl hb))
   | (go_at_call 12; first
     | (refine (HDO.out B' _ KC.out).mono ?_; rintro e1 wd ⟨rfl, hk, ho⟩; have BE := Lib.hid (low_only11 BC.out ho (fun i ⟨j, hj, e⟩ => by have h1 := LC.out j hj; have h2 := BD.out.size; have h3 : wq.drew.heap.size = wq.heap.size := rfl; omega)); have XE := Lib.hid (only_box XC.out ho (fun ⟨j, hj, e⟩ => by have h1 := LC.out j hj; omega)); have XF := Lib.hid (only_box XA.out ho (fun ⟨j, hj, e⟩ => by have h1 := LC2.out j hj; omega)); have f0 := bk_free XF.out 0; have f1 := bk_free XF.out 1; have g0 := bk_cell XF.out 0; have g1 := bk_cell XF.out 1; have gl := bk_lt XF.out; clear hk ho)
     | (refine (HDO.out B' _ KC.out).mono ?_; rintro e1 wd ⟨rfl, hk, ho⟩; have BE := Lib.hid (low_only11 BC.out ho (fun i ⟨j, hj, e⟩ => by have h1 := LC.out j hj; have h2 := BD.out.size; have h3 : wq.drew.heap.size = wq.heap.size := rfl; omega)); have XE := Lib.hid (only_box XC.out ho (fun ⟨j, hj, e⟩ => by have h1 := LC.out j hj; omega)); clear hk ho)
     | (refine (HDO.out B' _ (KC.out.later ((Below.refl _ _).alloc (Nat.le_refl _) (.cells #[.int .i64 0, .int .u64 0] 41)))).mono ?_; rintro e1 wd ⟨rfl, hk, ho⟩; have BE := Lib.hid (low_only11 (BC.out.alloc BC.out.size _) ho (fun i ⟨j, hj, e⟩ => by have h1 := LC.out j hj; have h2 := BD.out.size; have h3 : wq.drew.heap.size = wq.heap.size := rfl; omega)); have XE := Lib.hid (only_box (lift1 XC.out _) ho (fun ⟨j, hj, e⟩ => by have h1 := LC.out j hj; omega)); have XF := Lib.hid (only_box (heap_alloc_new wc (.cells #[.int .i64 0, .int .u64 0] 41)) ho (fun ⟨j, hj, e⟩ => by have h1 := KC.out.lies.lt j hj; omega)); have f0 := bk_free XF.out 0; have f1 := bk_free XF.out 1; have g0 := bk_cell XF.out 0; have g1 := bk_cell XF.out 1; have gl := bk_lt XF.out; clear hk ho)))
  all_goals
   go_wp2_with fail
   go_meet
   case rel => first
    | exact ⟨_, rfl, (BE.out.setCell BD.out.size _).setCell BD.out.size _, res_off (res_off XE.out (Nat.ne_of_lt HCl.out) 0 _) (Nat.ne_of_lt HCl.out) 1 _, set_block (set_block XF.out 0 _) 1 _⟩
    | exact ⟨_, rfl, (BE.out.setCell BC.out.size _).setCell BC.out.size _, res_off (res_off XE.out (Nat.ne_of_lt (bk_lt XC.out)) 0 _) (Nat.ne_of_lt (bk_lt XC.out)) 1 _, set_block (set_block XF.out 0 _) 1 _⟩
    | exact ⟨_, rfl, BE.out.alloc BE.out.size _, lift1 XE.out _, heap_alloc_new _ _⟩
 case rest =>
  obtain ⟨A, rfl, h1, h2, h3⟩ := hcut
  have BB := Lib.hid h1
  have XC := Lib.hid h2
  have XA := Lib.hid h3
  clear h1 h2 h3 b0 b1 b2 b3 b4 hCl X1 B1
  have HGC := Lib.hid (HG.out.below BB.out HG.out.pos)
  by_cases hn : n = 0
  ·subst hn
   go_wp2_with fail
   have hS : wc.drew.cell? ⟨C, 0, none⟩ = some (.int .u64 x0) ∧ wc.drew.cell? ⟨C, 1, none⟩ = some (.int .u64 x1) ∧ wc.drew.cell? ⟨C, 2, none⟩ = some (.int .u64 x2) ∧ wc.drew.cell? ⟨C, 3, none⟩ = some (.int .u64 x3) ∧ wc.drew.cell? ⟨C, 4, none⟩ = some (.int .u64 x4) ∧ wc.drew.cell? ⟨A, 0, none⟩ = some (.int .i64 0) := ⟨bk_cell XC.out 0, bk_cell XC.out 1, bk_cell XC.out 2, bk_cell XC.out 3, bk_cell XC.out 4, bk_cell XA.out 0⟩
   have BD2 : Hid (Below w.heap.size w wc.drew) := dn BB.out 1
   have XCD : Hid (wc.drew.heap[C]? = some (.cells #[.int .u64 x0, .int .u64 x1, .int .u64 x2, .int .u64 x3, .int .u64 x4] 36 (0, 0))) := XC
   have XAD : Hid (wc.drew.heap[A]? = some (.cells #[.int .i64 0, .int .u64 v] 41 (0, 0))) := XA
   go_region_held3 (fun w' => w'.cell? ⟨C, 0, none⟩ = some (.int .u64 x0) ∧ w'.cell? ⟨C, 1, none⟩ = some (.int .u64 x1) ∧ w'.cell? ⟨C, 2, none⟩ = some (.int .u64 x2) ∧ w'.cell? ⟨C, 3, none⟩ = some (.int .u64 x3) ∧ w'.cell? ⟨C, 4, none⟩ = some (.int .u64 x4) ∧ w'.cell? ⟨A, 0, none⟩ = some (.int .i64 0)) (exact hS)
    (first
     | (go_at_call 42; refine (of_zero _).mono ?_; rintro e' wn ⟨rfl, rfl⟩)
     | (go_at_call 45; refine (in_nil (.int .i64 env) (.int .u64 x0) (.int .u64 x1) (.int .u64 x2) (.int .u64 x3) (.int .u64 x4) _).mono ?_; rintro e' wm ⟨rfl, hb⟩; have BM := Lib.hid (bl_trans BD2.out hb); have XCM := Lib.hid (bk_below XCD.out hb); have XAM := Lib.hid (bk_below XAD.out hb); have hS : wm.cell? ⟨C, 0, none⟩ = some (.int .u64 x0) ∧ wm.cell? ⟨C, 1, none⟩ = some (.int .u64 x1) ∧ wm.cell? ⟨C, 2, none⟩ = some (.int .u64 x2) ∧ wm.cell? ⟨C, 3, none⟩ = some (.int .u64 x3) ∧ wm.cell? ⟨C, 4, none⟩ = some (.int .u64 x4) ∧ wm.cell? ⟨A, 0, none⟩ = some (.int .i64 0) := ⟨bk_cell XCM.out 0, bk_cell XCM.out 1, bk_cell XCM.out 2, bk_cell XCM.out 3, bk_cell XCM.out 4, bk_cell XAM.out 0⟩; clear hb))
   go_wp2_with fail
   go_ret
   exact ⟨.nilIface, rfl, Or.inl ⟨rfl, rfl⟩, BM.out⟩
  ·have hn0 : (n == 0) = false := beq_eq_false_iff_ne.2 hn
   have HN := Lib.hid hn
   have HOF := Lib.hid (fun W => of_post n hn0 W)
   unfold OfPost at HOF
   have HIN := Lib.hid (fun (t : Nat) W (hW : Held W) (ht : OfAt W t n) (hs : t + 1 ≤ W.heap.size) => in_chain hW ht.chain hs env x0 x1 x2 x3 x4)
   unfold InPost at HIN
   clear hn hn0
   go_wp2_with fail
   have hS : wc.drew.cell? ⟨C, 0, none⟩ = some (.int .u64 x0) ∧ wc.drew.cell? ⟨C, 1, none⟩ = some (.int .u64 x1) ∧ wc.drew.cell? ⟨C, 2, none⟩ = some (.int .u64 x2) ∧ wc.drew.cell? ⟨C, 3, none⟩ = some (.int .u64 x3) ∧ wc.drew.cell? ⟨C, 4, none⟩ = some (.int .u64 x4) ∧ wc.drew.cell? ⟨A, 0, none⟩ = some (.int .i64 n) := ⟨bk_cell XC.out 0, bk_cell XC.out 1, bk_cell XC.out 2, bk_cell XC.out 3, bk_cell XC.out 4, bk_cell XA.out 0⟩
   have BD2 : Hid (Below w.heap.size w wc.drew) := dn BB.out 1
   have XCD : Hid (wc.drew.heap[C]? = some (.cells #[.int .u64 x0, .int .u64 x1, .int .u64 x2, .int .u64 x3, .int .u64 x4] 36 (0, 0))) := XC
   have XAD : Hid (wc.drew.heap[A]? = some (.cells #[.int .i64 n, .int .u64 v] 41 (0, 0))) := XA
   have HGD : Hid (Held wc.drew) := HGC
   go_region_held3 (fun w' => w'.cell? ⟨C, 0, none⟩ = some (.int .u64 x0) ∧ w'.cell? ⟨C, 1, none⟩ = some (.int .u64 x1) ∧ w'.cell? ⟨C, 2, none⟩ = some (.int .u64 x2) ∧ w'.cell? ⟨C, 3, none⟩ = some (.int .u64 x3) ∧ w'.cell? ⟨C, 4, none⟩ = some (.int .u64 x4) ∧ w'.cell? ⟨A, 0, none⟩ = some (.int .i64 n)) (exact hS)
    (first
     | (go_at_call 42; refine (HOF.out _).mono ?_; rintro e' wn ⟨t, rfl, ht, hof, hsz, hb⟩; have BN := Lib.hid (bl_trans BD2.out hb); have XCN := Lib.hid (bk_below XCD.out hb); have XAN := Lib.hid (bk_below XAD.out hb); have HGN := Lib.hid (HGD.out.below hb HGD.out.pos); have OFN := Lib.hid hof; have HSZ := Lib.hid hsz; have HTT := Lib.hid (show w.heap.size ≤ t from by rw [ht]; exact BD2.out.size); have hS : wn.cell? ⟨C, 0, none⟩ = some (.int .u64 x0) ∧ wn.cell? ⟨C, 1, none⟩ = some (.int .u64 x1) ∧ wn.cell? ⟨C, 2, none⟩ = some (.int .u64 x2) ∧ wn.cell? ⟨C, 3, none⟩ = some (.int .u64 x3) ∧ wn.cell? ⟨C, 4, none⟩ = some (.int .u64 x4) ∧ wn.cell? ⟨A, 0, none⟩ = some (.int .i64 n) := ⟨bk_cell XCN.out 0, bk_cell XCN.out 1, bk_cell XCN.out 2, bk_cell XCN.out 3, bk_cell XCN.out 4, bk_cell XAN.out 0⟩; clear hb hof hsz ht)
     | (go_at_call 45; refine (HIN.out t _ HGN.out OFN.out (by have := HSZ.out; omega)).mono ?_; rintro e' wm ⟨b', rfl, hbl, htr, hb⟩; have BM := Lib.hid (bl_trans BN.out hb); have XCM := Lib.hid (bk_below XCN.out hb); have XAM := Lib.hid (bk_below XAN.out hb); have TRM := Lib.hid htr; have OFM := Lib.hid (bk_below OFN.out hb); have HLT := Lib.hid (show t < b' from by have := HSZ.out; omega); have hS : wm.cell? ⟨C, 0, none⟩ = some (.int .u64 x0) ∧ wm.cell? ⟨C, 1, none⟩ = some (.int .u64 x1) ∧ wm.cell? ⟨C, 2, none⟩ = some (.int .u64 x2) ∧ wm.cell? ⟨C, 3, none⟩ = some (.int .u64 x3) ∧ wm.cell? ⟨C, 4, none⟩ = some (.int .u64 x4) ∧ wm.cell? ⟨A, 0, none⟩ = some (.int .i64 n) := ⟨bk_cell XCM.out 0, bk_cell XCM.out 1, bk_cell XCM.out 2, bk_cell XCM.out 3, bk_cell XCM.out 4, bk_cell XAM.out 0⟩; clear hb htr hbl))
   go_wp2_with fail
   go_ret
   exact ⟨ptrErr b', rfl, Or.inr ⟨HN.out, b', t, rfl, HTT.out, HLT.out, TRM.out, OFM.out⟩, BM.out⟩
end
end Go.Proofs.YtdfhfmdelinemaaGreatDoor
namespace Go.Proofs.YtdfhfmdelinemaaGreatDoor
open Go.RowKit Go.Extern.Stop Go.Stop Go.Extern Go.WalkArith
section
variable {B : Nat → Nat} {E N : Nat} {k : KernS}
set_option maxRecDepth 100000 in
theorem pltouchx_any {f a : Nat} (hf : f < N) (ha : a < 16) (kind x1 x3 x4 : Int) (hk : 20 ≤ kind ∧ kind ≤ 23) (hx : wordsIn kind x1 a x3 x4) (w : World) (h : KAt w B E N k) :
  Calls Tryz.prog 21 #[.pointer (some ⟨B 0, 0, none⟩), .int .i64 (f : Int), callV kind x1 a x3 x4] w fun x w' => x = .returned (ansV 0 (wordT k f a kind) true) ∧ KAt w' B E N (wordS k f a kind x3 x4) ∧ Only (Blk B E) w w' := by
 obtain ⟨h1, h2, h3⟩ := two_at h kind x1 (a : Int) x3 x4
 have T1 := Lib.hid h1
 have X1 := Lib.hid h2
 have R1 := Lib.hid h3
 have HM := Lib.hid (fun W (hW : KAt W B E N k) => pltouch_any hf ha kind x1 x3 x4 hk hx W hW)
 generalize wordT k f a kind = v at HM ⊢
 generalize wordS k f a kind x3 x4 = ks at HM ⊢
 clear h h1 h2 h3 hf ha hk hx
 go_enter Tryz.func21, Tryz.ntmps21
 go_wp2_with fail
 generalize ((w.alloc (.cells #[.int .u64 kind, .int .u64 x1, .int .u64 (a : Int), .int .u64 x3, .int .u64 x4] 36)).alloc (.cells #[.int .i64 0, .int .u64 0] 41)) = wq at T1 R1 X1 ⊢
 have hR : w.heap.size ≤ w.heap.size + 1 := by omega
 generalize w.heap.size + 1 = R at R1 hR ⊢
 have HR := Lib.hid hR
 clear hR
 refine (HM.out _ T1.out.lies).mono ?_
 rintro x w2 ⟨rfl, hk, ho⟩
 have T2 := Lib.hid (T1.out.step hk ho)
 have R2 := Lib.hid (T1.out.block HR.out R1.out ho)
 clear hk ho
 have fr0 := bk_free R2.out 0
 have fr1 := bk_free R2.out 1
 have r0 := bk_cell R2.out 0
 have r1 := bk_cell R2.out 1
 have lr := bk_lt R2.out
 go_wp2_with fail
 have T := (T2.out.set HR.out 0 (.int .i64 0)).set HR.out 1 (.int .u64 v)
 refine bodyPost_ret (v := .tuple #[.agg #[.int .i64 0, .int .u64 v], .bool true]) (by simp [results, Tryz.results21, go_sem, r0, r1]) rfl ⟨rfl, T.lies, T.only⟩
end
end Go.Proofs.YtdfhfmdelinemaaGreatDoor
namespace Go.Proofs.YtdfhfmdelinemaaGreatDoor
open Go.RowKit Go.Extern.Stop Go.Stop Go.Extern Go.WalkArith
section
variable {B : Nat → Nat} {E N : Nat} {k : KernS} {w W : World} {S : Nat → Prop} {P : Nat}
theorem plain_S (hS : ∀ i, S i ↔ Blk B E i) (h : Only (Blk B E) w W) : Only S w W := ⟨h.1, h.2.1, h.2.2.1, h.2.2.2.1, fun i hi hn => h.2.2.2.2 i hi fun hb => hn ((hS i).2 hb)⟩
theorem free_eq (h : KAt w B E N k) : freeL (refsI k) N = freeK k k.frames.toNat := by
 unfold freeL freeK
 rw [h.frames, Int.toNat_natCast]
 refine congrArg (fun g => List.filter g (List.range N)) (funext fun j => ?_)
 unfold refsI
 exact decide_eq_decide.2 ⟨fun h => by omega, fun h => by omega⟩
theorem plain_low : PlainAt w S P k → ∀ i, S i → i < w.heap.size := fun ⟨_, _, _, _, hS, h⟩ i hi => by
 obtain ⟨j, hj, rfl⟩ := (hS i).1 hi
 exact h.lies.lt j hj
theorem plain_foot {w' : World} : PlainAt w S P k → w.heap.size ≤ w'.heap.size → (∀ i, S i → w'.heap[i]? = w.heap[i]?) → PlainAt w' S P k := fun ⟨B, E, N, hP, hS, h⟩ hs hb =>
 ⟨B, E, N, hP, hS, h.fit, h.envs, h.frames, h.lies.foot hs fun i hi => hb _ ((hS _).2 ⟨i, hi, rfl⟩)⟩
theorem plain_new {c e f : Int} (hs : SizeOk c e f) (w : World) : Calls Tryz.prog 8 #[sizeV c e f] w fun x w' => ∃ P S, x = .returned (.pointer (some ⟨P, 0, none⟩)) ∧ PlainAt w' S P (newK c e f) ∧ (∀ i, S i → w.heap.size ≤ i) ∧ Below w.heap.size w w' := by
 obtain ⟨E, N, rfl, rfl, h⟩ := plnew_yes hs w
 refine h.mono ?_
 rintro x w' ⟨B, rfl, hk, hl, hb⟩
 exact ⟨B 0, Blk B E, rfl, ⟨B, E, N, rfl, fun _ => Iff.rfl, hk c⟩, fun i ⟨j, hj, e⟩ => e ▸ hl j hj, hb⟩
theorem plain_do (env x0 x1 x2 x3 x4 : Int) (w : World) (h : PlainAt w S P k) (hx : wordsIn x0 x1 x2 x3 x4) :
  Calls Tryz.prog 12 #[.pointer (some ⟨P, 0, none⟩), .int .i64 env, callV x0 x1 x2 x3 x4] w fun x w' => ∃ S', x = .returned (ansV (kdo k env x0 x1 x2 x3 x4).2.1 (kdo k env x0 x1 x2 x3 x4).2.2.1 (kdo k env x0 x1 x2 x3 x4).2.2.2) ∧ PlainAt w' S' P (kdo k env x0 x1 x2 x3 x4).1 ∧ (∀ i, S' i → S i ∨ w.heap.size ≤ i) ∧ Only S w w' := by
 obtain ⟨B, E, N, rfl, hS, h⟩ := h
 exact (pldo_any env x0 x1 x2 x3 x4 hx w h).mono fun _ _ ⟨h1, h2, h3⟩ => ⟨S, h1, ⟨B, E, N, rfl, hS, h2⟩, fun _ hi => Or.inl hi, plain_S hS h3⟩
theorem plain_err (env x0 x1 x2 x3 x4 : Int) (w : World) (h : PlainAt w S P k) (hx : wordsIn x0 x1 x2 x3 x4) (hg : Held w) :
  Calls Tryz.prog 11 #[.pointer (some ⟨P, 0, none⟩), .int .i64 env, callV x0 x1 x2 x3 x4] w fun x w' => ∃ v, x = .returned v ∧ ErrIs w w' (kdo k env x0 x1 x2 x3 x4).2.1 env x0 x1 x2 x3 x4 v ∧ Below w.heap.size w w' := by
 obtain ⟨B, E, N, rfl, _, h⟩ := h
 rcases hq : kdo k env x0 x1 x2 x3 x4 with ⟨ks, n, v, b⟩
 exact plerr_walk env x0 x1 x2 x3 x4 hx hq w h hg
theorem plain_cap (e s : Nat) (w : World) (h : PlainAt w S P k) (he : (e : Int) < k.envs) (hs : s < 8) :
  Calls Tryz.prog 22 #[.pointer (some ⟨P, 0, none⟩), .int .i64 (e : Int), .int .i64 (s : Int)] w fun x w' => ∃ v, x = .returned v ∧ (((k.sl e s).is = true ∧ CapIs (k.sl e s) v) ∨ ((k.sl e s).is = false ∧ v = noCapV)) ∧ Below w.heap.size w w' := by
 obtain ⟨B, E, N, rfl, _, h⟩ := h
 have heE : e < E := by have := h.envs; omega
 have h1 := plcap_walk (e : Int) (s : Int) w h.lies.c1 h.rowlt.1 (fun W hW => cat_in heE hs W (h.later hW).lies.tree)
 refine h1.mono ?_
 rintro x w' ⟨rfl, hb⟩
 refine ⟨_, rfl, ?_, hb⟩
 cases hi : (k.sl e s).is
 ·refine Or.inr ⟨rfl, ?_⟩
  rw [capI_no hi, capI_no hi, capI_no hi, capI_no hi]
 ·exact Or.inl ⟨rfl, cap_is hi⟩
theorem plain_pte (e p : Nat) (w : World) (h : PlainAt w S P k) (he : (e : Int) < k.envs) (hp : p < 8) :
  Calls Tryz.prog 60 #[.pointer (some ⟨P, 0, none⟩), .int .i64 (e : Int), .int .i64 (p : Int)] w fun x w' => ∃ v, x = .returned v ∧ ((¬ (k.pt e p).rights = 0 ∧ v = pteT (k.pt e p) true) ∨ ((k.pt e p).rights = 0 ∧ v = pteT noPte false)) ∧ Below w.heap.size w w' := by
 obtain ⟨B, E, N, rfl, _, h⟩ := h
 have heE : e < E := by have := h.envs; omega
 have h1 := plpte_walk e (p : Int) heE h.lies.eE.2 w h.lies.c0 (h.lies.row e heE) h.rowlt.1 h.rowlt.2 (fun W hW => pl_tat heE hp W (h.later hW) rfl rfl rfl rfl)
 refine h1.mono ?_
 rintro x w' ⟨rfl, hb⟩
 refine ⟨_, rfl, ?_, hb⟩
 by_cases hr : (k.pt e p).rights = 0
 ·refine Or.inr ⟨hr, ?_⟩
  rw [decide_eq_false (fun hc => hc hr), h.fit.neat e p hr]
 ·exact Or.inl ⟨hr, by rw [decide_eq_true hr]⟩
theorem plain_frame (f : Nat) (w : World) (h : PlainAt w S P k) (hf : (f : Int) < k.frames) :
  Calls Tryz.prog 24 #[.pointer (some ⟨P, 0, none⟩), .int .i64 (f : Int)] w fun x w' => ∃ (g cap : Nat) (u : Nat → Int), x = .returned (.slice (some ⟨g, 0, none⟩) 16 cap) ∧ g < w'.heap.size ∧ (∀ i, i < 16 → w'.cell? ⟨g, i, none⟩ = some (.int .u64 (u i))) ∧ (0 < refsN k f 32 → ∀ i, i < 16 → u i = k.mm f i) ∧ Below w.heap.size w w' := by
 obtain ⟨B, E, N, rfl, _, h⟩ := h
 have hfn : f < N := by have := h.frames; omega
 have h1 := plframe_walk (f : Int) w h.lies.c3 (frame_any w (B 6) (B 7) N f (mmG k) h.lies.mem hfn h.lies.nN.2)
 refine h1.mono ?_
 rintro x w' ⟨rfl, rfl⟩
 refine ⟨w.heap.size, 16, fun i => k.mm f i, rfl, by simp, fun i hi => ?_, fun _ _ _ => rfl, (Below.refl _ _).alloc (Nat.le_refl _) _⟩
 rw [bk_cell (heap_alloc_new w _) i, frame_at (mmG k) f i hi, mmG_at k hi]
theorem plain_free (w : World) (h : PlainAt w S P k) :
  Calls Tryz.prog 23 #[.pointer (some ⟨P, 0, none⟩)] w fun x w' => ∃ v, x = .returned v ∧ SliceIs w' v (freeK k k.frames.toNat).length (pagesV (freeK k k.frames.toNat)) ∧ Below w.heap.size w w' := by
 obtain ⟨B, E, N, rfl, _, h⟩ := h
 have h1 := plfree_walk w h.lies.c2 (Q := fun v w' => w'.ownsRow w.heap.size 3 1 v (freeL (refsI k) N).length (pagesV (freeL (refsI k) N)) ∧ Below w.heap.size w w') (pool_free_own (B 4) (B 5) N (refsI k) h.lies.nN.2 w h.lies.pool)
 refine h1.mono ?_
 rintro x w' ⟨v, rfl, ho, hb⟩
 rw [free_eq h] at ho
 exact ⟨v, rfl, own_slice ho, hb⟩
theorem plain_copy (w : World) (h : PlainAt w S P k) :
  Calls Tryz.prog 19 #[.pointer (some ⟨P, 0, none⟩)] w fun x w' => ∃ P' S', x = .returned (.pointer (some ⟨P', 0, none⟩)) ∧ PlainAt w' S' P' k ∧ (∀ i, S' i → w.heap.size ≤ i) ∧ Below w.heap.size w w' := by
 obtain ⟨B, E, N, rfl, _, h⟩ := h
 refine (plcopy_walk w h).mono ?_
 rintro x w' ⟨B', rfl, hk, hl, hb⟩
 exact ⟨B' 0, Blk B' E, rfl, ⟨B', E, N, rfl, fun _ => Iff.rfl, hk⟩, fun i ⟨j, hj, e⟩ => e ▸ hl j hj, hb⟩
theorem plain_touch (f a : Nat) (kind x1 x3 x4 : Int) (w : World) (h : PlainAt w S P k) (hf : (f : Int) < k.frames) (ha : a < 16) (hk : 20 ≤ kind ∧ kind ≤ 23) (hx : wordsIn kind x1 a x3 x4) :
  Calls Tryz.prog 21 #[.pointer (some ⟨P, 0, none⟩), .int .i64 (f : Int), callV kind x1 a x3 x4] w fun x w' => ∃ S' v, x = .returned (ansV 0 v true) ∧ (0 < refsN k f 32 → v = wordT k f a kind) ∧ PlainAt w' S' P (wordS k f a kind x3 x4) ∧ (∀ i, S' i → S i ∨ w.heap.size ≤ i) ∧ Only S w w' := by
 obtain ⟨B, E, N, rfl, hS, h⟩ := h
 have hfn : f < N := by have := h.frames; omega
 exact (pltouchx_any hfn ha kind x1 x3 x4 hk hx w h).mono fun _ _ ⟨h1, h2, h3⟩ => ⟨S, _, h1, fun _ => rfl, ⟨B, E, N, rfl, hS, h2⟩, fun _ hi => Or.inl hi, plain_S hS h3⟩
end
theorem plain_keeps : PlainC PlainAt where
 low := fun _ _ _ _ h => plain_low h
 foot := fun _ _ _ _ _ h => plain_foot h
 sane := fun _ _ _ _ ⟨_, _, _, _, _, h⟩ => h.fit.sane
 new_ := fun _ _ _ w hs => plain_new hs w
 no_ := fun _ _ _ w hs => plnew_no hs w
 do_ := fun _ _ _ env x0 x1 x2 x3 x4 w h hx => plain_do env x0 x1 x2 x3 x4 w h hx
 err_ := fun _ _ _ env x0 x1 x2 x3 x4 w h hx hg => plain_err env x0 x1 x2 x3 x4 w h hx hg
 cap_ := fun _ _ _ e s w h he hs => plain_cap e s w h he hs
 pte_ := fun _ _ _ e p w h he hp => plain_pte e p w h he hp
 frame_ := fun _ _ _ f w h hf => plain_frame f w h hf
 free_ := fun _ _ _ w h => plain_free w h
 copy_ := fun _ _ _ w h => plain_copy w h
 touch_ := fun _ _ _ f a kind x1 x3 x4 w h hf ha hk hx => plain_touch f a kind x1 x3 x4 w h hf ha hk hx
end Go.Proofs.YtdfhfmdelinemaaGreatDoor
