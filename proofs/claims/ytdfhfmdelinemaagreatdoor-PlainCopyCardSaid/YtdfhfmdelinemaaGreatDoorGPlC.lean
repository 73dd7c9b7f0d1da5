/- What is proved here: contracts of package plain: sleeps, loads and stores, what goes; of package pred: what holds. Conditions: those that each theorem names. -/
import Derived.Test.YtdfhfmdelinemaaGreatDoorGKer
import Derived.Test.YtdfhfmdelinemaaGreatDoorGPlB
import Derived.Deep.RegionHeld3
import Derived.Test.YtdfhfmdelinemaaGreatDoorGWord
import Derived.IntWalk
import Derived.RegionTactic
import Derived.Deep.CutBlock
import Derived.Deep.DeepCutAuto
namespace Go.Proofs.YtdfhfmdelinemaaGreatDoor
open Go.RowKit Go.Extern.Stop Go.Stop Go.Extern Go.WalkArith
theorem pholds_any (op a b : Int) (w : World) : Calls Tryz.prog 40 #[.int .i64 op, .int .u64 a, .int .u64 b] w fun x w' => x = .returned (.bool (holdsB op a b)) ∧ w = w' := by
 unfold holdsB
 by_cases h1 : op = 1
 ·subst h1
  rw [if_pos rfl]
  by_cases h : (a == b) = true
  ·rw [h]
   go_enter Tryz.func40, Tryz.ntmps40
   go_wp2_with fail
   go_ret
   exact ⟨rfl, rfl⟩
  ·have h : (a == b) = false := by simpa using h
   rw [h]
   go_enter Tryz.func40, Tryz.ntmps40
   go_wp2_with fail
   go_ret
   exact ⟨rfl, rfl⟩
 rw [if_neg h1]
 have e1 : (op == 1) = false := beq_eq_false_iff_ne.2 h1
 by_cases h2 : op = 2
 ·subst h2
  rw [if_pos rfl]
  by_cases h : (a == b) = true
  ·rw [h]
   go_enter Tryz.func40, Tryz.ntmps40
   go_wp2_with fail
   go_ret
   exact ⟨by show Ending.returned (.bool (!(a == b))) = _; rw [h], rfl⟩
  ·have h : (a == b) = false := by simpa using h
   rw [h]
   go_enter Tryz.func40, Tryz.ntmps40
   go_wp2_with fail
   go_ret
   exact ⟨by show Ending.returned (.bool (!(a == b))) = _; rw [h], rfl⟩
 rw [if_neg h2]
 have e2 : (op == 2) = false := beq_eq_false_iff_ne.2 h2
 by_cases h3 : op = 3
 ·subst h3
  rw [if_pos rfl]
  by_cases h : a < b
  ·rw [decide_eq_true h]
   go_enter Tryz.func40, Tryz.ntmps40
   go_wp2_with fail
   go_ret
   exact ⟨rfl, rfl⟩
  ·have h : decide (a < b) = false := decide_eq_false h
   rw [h]
   go_enter Tryz.func40, Tryz.ntmps40
   go_wp2_with fail
   go_ret
   exact ⟨rfl, rfl⟩
 rw [if_neg h3]
 have e3 : (op == 3) = false := beq_eq_false_iff_ne.2 h3
 by_cases h4 : op = 4
 ·subst h4
  rw [if_pos rfl]
  by_cases h : b < a
  ·rw [decide_eq_true h]
   go_enter Tryz.func40, Tryz.ntmps40
   go_wp2_with fail
   go_ret
   exact ⟨rfl, rfl⟩
  ·have h : decide (b < a) = false := decide_eq_false h
   rw [h]
   go_enter Tryz.func40, Tryz.ntmps40
   go_wp2_with fail
   go_ret
   exact ⟨rfl, rfl⟩
 rw [if_neg h4]
 have e4 : (op == 4) = false := beq_eq_false_iff_ne.2 h4
 go_enter Tryz.func40, Tryz.ntmps40
 go_wp2_with fail
 go_ret
 exact ⟨rfl, rfl⟩
end Go.Proofs.YtdfhfmdelinemaaGreatDoor
namespace Go.Proofs.YtdfhfmdelinemaaGreatDoor
open Go.RowKit Go.Extern.Stop Go.Stop Go.Extern Go.WalkArith
section
variable {B : Nat → Nat} {E N : Nat} {k : KernS} {W : World}
theorem ans_cells {w1 : World} {A : Nat} {x0 y0 : Value} {t : TypeId} (h : w1.heap[A]? = some (.cells #[x0, y0] t (0, 0))) (x y : Value) (o : Obj) :
  (((w1.setCell ⟨A, 0, none⟩ x).setCell ⟨A, 1, none⟩ y).alloc o).cell? ⟨A, 0, none⟩ = some x ∧ (((w1.setCell ⟨A, 0, none⟩ x).setCell ⟨A, 1, none⟩ y).alloc o).cell? ⟨A, 1, none⟩ = some y := by
 have h1 := set_block (set_block h 0 x) 1 y
 have h2 := bk_below h1 ((Below.refl _ _).alloc (Nat.le_refl _) o)
 exact ⟨bk_cell h2 0, bk_cell h2 1⟩
theorem ans_cells0 {w1 : World} {A : Nat} {x0 y0 : Value} {t : TypeId} (h : w1.heap[A]? = some (.cells #[x0, y0] t (0, 0))) (x y : Value) :
  ((w1.setCell ⟨A, 0, none⟩ x).setCell ⟨A, 1, none⟩ y).cell? ⟨A, 0, none⟩ = some x ∧ ((w1.setCell ⟨A, 0, none⟩ x).setCell ⟨A, 1, none⟩ y).cell? ⟨A, 1, none⟩ = some y := by
 have h1 := set_block (set_block h 0 x) 1 y
 exact ⟨bk_cell h1 0, bk_cell h1 1⟩
theorem bl_ans {w w1 : World} {n A : Nat} (h : Below n w w1) (hA : n ≤ A) (hn : n ≤ w1.heap.size) (x y : Value) (o : Obj) : Below n w (((w1.setCell ⟨A, 0, none⟩ x).setCell ⟨A, 1, none⟩ y).alloc o) :=
 ((h.setCell hA _).setCell hA _).alloc (by simpa [World.setCell] using hn) _
theorem plsleep_none {e s a : Nat} {op v : Int} (he : e < E) (hs : s < 8) (hi : (k.sl e s).is = false) (w : World) (h : KAt w B E N k) :
  Calls Tryz.prog 106 #[.pointer (some ⟨B 0, 0, none⟩), .int .i64 (e : Int), .int .i64 (s : Int), .int .i64 (a : Int), .int .i64 op, .int .u64 v] w fun x w' => x = .returned (ansV 3 0 true) ∧ Below w.heap.size w w' := by
 have HA := Lib.hid (fun W (hW : KAt W B E N k) => pl_at he hs W hW (capI_no hi 0) (capI_no hi 1) (capI_no hi 2) (capI_no hi 3) hi)
 have HK := Lib.hid h
 have c1 := h.lies.c1
 have l0 := h.rowlt.1
 clear h hi he hs
 go_enter Tryz.func106, Tryz.ntmps106
 go_wp2_with fail
 refine (HA.out _ (HK.out.later ((Below.refl _ _).alloc (Nat.le_refl _) _))).mono ?_
 rintro x w1 ⟨rfl, hb⟩
 have X1 := Lib.hid (bk_one hb)
 have B1 := Lib.hid (bl_alloc (Below.refl w.heap.size w) hb)
 clear hb c1 l0
 have f0 := bk_free X1.out 0
 have f1 := bk_free X1.out 1
 have b0 := bk_cell X1.out 0
 have b1 := bk_cell X1.out 1
 have ql := bk_lt X1.out
 go_wp2_with fail
 have r0 := (ans_cells X1.out (.int .i64 3) (.int .u64 0) (.cells #[.int .i64 0, .int .i64 0, .int .i64 0, .int .i64 0] 58)).1
 have r1 := (ans_cells X1.out (.int .i64 3) (.int .u64 0) (.cells #[.int .i64 0, .int .i64 0, .int .i64 0, .int .i64 0] 58)).2
 refine bodyPost_ret (v := .tuple #[.agg #[.int .i64 3, .int .u64 0], .bool true]) (by simp [results, Tryz.results106, go_sem, r0, r1]) rfl ⟨rfl, ?_⟩
 exact bl_ans B1.out (Nat.le_refl _) B1.out.size _ _ _
theorem plsleep_rights {e s a : Nat} {op v : Int} (he : e < E) (hs : s < 8) (hi : (k.sl e s).is = true) (hr : withinB 1 (k.sl e s).rights = false) (w : World) (h : KAt w B E N k) :
  Calls Tryz.prog 106 #[.pointer (some ⟨B 0, 0, none⟩), .int .i64 (e : Int), .int .i64 (s : Int), .int .i64 (a : Int), .int .i64 op, .int .u64 v] w fun x w' => x = .returned (ansV 5 0 true) ∧ Below w.heap.size w w' := by
 obtain ⟨y0, y1, y2, y3⟩ := capI_yes hi
 have HA := Lib.hid (fun W (hW : KAt W B E N k) => pl_at he hs W hW y0 y1 y2 y3 hi)
 have HW := Lib.hid (fun W => within_any 1 (k.sl e s).rights W)
 rw [hr] at HW
 generalize (k.sl e s).frame = z0 at HA
 generalize (k.sl e s).rights = z1 at HA HW
 generalize (k.sl e s).env = z2 at HA
 generalize (k.sl e s).slot = z3 at HA
 have HK := Lib.hid h
 have c1 := h.lies.c1
 have l0 := h.rowlt.1
 clear h hi he hs hr y0 y1 y2 y3
 go_enter Tryz.func106, Tryz.ntmps106
 go_wp2_with fail
 refine (HA.out _ (HK.out.later ((Below.refl _ _).alloc (Nat.le_refl _) _))).mono ?_
 rintro x w1 ⟨rfl, hb⟩
 have X1 := Lib.hid (bk_one hb)
 have B1 := Lib.hid (bl_alloc (Below.refl w.heap.size w) hb)
 clear hb c1 l0
 have f0 := bk_free X1.out 0
 have f1 := bk_free X1.out 1
 have b0 := bk_cell X1.out 0
 have b1 := bk_cell X1.out 1
 have ql := bk_lt X1.out
 go_wp2_with fail
 refine (HW.out _).mono ?_
 rintro x w2 ⟨rfl, rfl⟩
 go_wp2_with fail
 have r0 := (ans_cells X1.out (.int .i64 5) (.int .u64 0) (.cells #[.int .i64 z0, .int .i64 z1, .int .i64 z2, .int .i64 z3] 58)).1
 have r1 := (ans_cells X1.out (.int .i64 5) (.int .u64 0) (.cells #[.int .i64 z0, .int .i64 z1, .int .i64 z2, .int .i64 z3] 58)).2
 refine bodyPost_ret (v := .tuple #[.agg #[.int .i64 5, .int .u64 0], .bool true]) (by simp [results, Tryz.results106, go_sem, r0, r1]) rfl ⟨rfl, ?_⟩
 exact bl_ans B1.out (Nat.le_refl _) B1.out.size _ _ _
set_option maxRecDepth 100000 in
theorem plsleep_some {e s a : Nat} {op v x : Int} (he : e < E) (hs : s < 8) (ha : a < 16) (hi : (k.sl e s).is = true) (hr : withinB 1 (k.sl e s).rights = true) (hx : k.mm (k.sl e s).frame.toNat a = x) (w : World) (h : KAt w B E N k) :
  Calls Tryz.prog 106 #[.pointer (some ⟨B 0, 0, none⟩), .int .i64 (e : Int), .int .i64 (s : Int), .int .i64 (a : Int), .int .i64 op, .int .u64 v] w fun y w' => y = .returned (if holdsB op x v = true then ansV 0 x true else ansV 0 0 false) ∧ Below w.heap.size w w' := by
 obtain ⟨y0, y1, y2, y3⟩ := capI_yes hi
 have HA := Lib.hid (fun W (hW : KAt W B E N k) => pl_at he hs W hW y0 y1 y2 y3 hi)
 have HW := Lib.hid (fun W => within_any 1 (k.sl e s).rights W)
 rw [hr] at HW
 obtain ⟨f, hf, hfN, hf16⟩ := h.fit.lt hs hi
 rw [hf, Int.toNat_natCast] at hx
 have HM := Lib.hid (fun W (hW : KAt W B E N k) => load_any W (B 6) (B 7) N f a x (mmG k) hW.lies.mem (by have := hW.frames; omega) hW.lies.nN.2 ha ((mmG_at k ha).trans hx))
 have HH := Lib.hid (fun W => pholds_any op x v W)
 rw [hf] at HA
 generalize (k.sl e s).rights = z1 at HA HW
 generalize (k.sl e s).env = z2 at HA
 generalize (k.sl e s).slot = z3 at HA
 generalize holdsB op x v = q at HH ⊢
 have HK := Lib.hid h
 have c1 := h.lies.c1
 have l0 := h.rowlt.1
 clear h hi he hs hr y0 y1 y2 y3 hf hfN hf16 hx ha
 go_enter Tryz.func106, Tryz.ntmps106
 go_wp2_with fail
 refine (HA.out _ (HK.out.later ((Below.refl _ _).alloc (Nat.le_refl _) _))).mono ?_
 rintro y w1 ⟨rfl, hb⟩
 have B1 := Lib.hid ((bl_alloc (Below.refl w.heap.size w) hb).alloc (bl_alloc (Below.refl w.heap.size w) hb).size (.cells #[.int .i64 (f : Int), .int .i64 z1, .int .i64 z2, .int .i64 z3] 58))
 have X1 := Lib.hid (bk_below (bk_one hb) ((Below.refl _ _).alloc (Nat.le_refl _) (.cells #[.int .i64 (f : Int), .int .i64 z1, .int .i64 z2, .int .i64 z3] 58)))
 have Y1 := Lib.hid (heap_alloc_new w1 (.cells #[.int .i64 (f : Int), .int .i64 z1, .int .i64 z2, .int .i64 z3] 58))
 clear hb c1 l0
 go_wp2_with fail
 refine (HW.out _).mono ?_
 rintro y w2 ⟨rfl, rfl⟩
 go_wp2_with fail
 generalize w1.heap.size = A at Y1 ⊢
 generalize w1.alloc (.cells #[.int .i64 (f : Int), .int .i64 z1, .int .i64 z2, .int .i64 z3] 58) = wr at B1 X1 Y1 ⊢
 have K1 := Lib.hid (HK.out.later B1.out)
 have c3 := K1.out.lies.c3
 have d0 := bk_cell Y1.out 0
 have l0 := K1.out.rowlt.1
 have lA := bk_lt Y1.out
 have HQ : Hid (∀ n, Calls Tryz.prog 122 #[.pointer (some ⟨B 6, 0, none⟩), .int .i64 (f : Int), .int .i64 (a : Int)] (wr.drewN n) fun r W' => r = .returned (.tuple #[.int .u64 x, .bool true]) ∧ W' = wr.drewN n) := fun n => (HM.out _ (K1.out.later (dn (Below.refl _ _) n))).mono fun _ _ ⟨h1, h2⟩ => ⟨h1, h2.symm⟩
 go_quiet ((go_at_call 122; exact Calls.quiet_of_same (HQ.out _)))
 go_wp2_with fail
 refine (HH.out _).mono ?_
 rintro y w4 ⟨rfl, rfl⟩
 clear c3 d0 l0 lA Y1
 have f0 := bk_free X1.out 0
 have f1 := bk_free X1.out 1
 have b0 := bk_cell X1.out 0
 have b1 := bk_cell X1.out 1
 have ql := bk_lt X1.out
 cases q
 ·go_wp2_with fail
  have r0 := fun n => bk_cell (set_block (w := wr.drewN n) X1.out 0 (.int .i64 0)) 0
  have r1 := fun n => (ans_cells0 (w1 := wr.drewN n) X1.out (.int .i64 0) (.int .u64 0)).2
  refine bodyPost_ret (v := .tuple #[.agg #[.int .i64 0, .int .u64 0], .bool false]) (by simp [results, Tryz.results106, go_sem, r0, r1]) rfl ⟨rfl, ?_⟩
  exact ((dn B1.out _).setCell (Nat.le_refl _) _).setCell (Nat.le_refl _) _
 ·go_wp2_with fail
  have r0 := fun n => bk_cell (set_block (w := wr.drewN n) X1.out 0 (.int .i64 0)) 0
  have r1 := fun n => (ans_cells0 (w1 := wr.drewN n) X1.out (.int .i64 0) (.int .u64 x)).2
  refine bodyPost_ret (v := .tuple #[.agg #[.int .i64 0, .int .u64 x], .bool true]) (by simp [results, Tryz.results106, go_sem, r0, r1]) rfl ⟨rfl, ?_⟩
  exact ((dn B1.out _).setCell (Nat.le_refl _) _).setCell (Nat.le_refl _) _
end
end Go.Proofs.YtdfhfmdelinemaaGreatDoor
namespace Go.Proofs.YtdfhfmdelinemaaGreatDoor
open Go.RowKit Go.Extern.Stop Go.Stop Go.Extern Go.WalkArith
section
variable {B : Nat → Nat} {E N : Nat} {k : KernS} {W : World}
theorem KAt.word {w w' : World} (h : KAt w B E N k) {f a : Nat} (ha : a < 16) {v : Int} (ho : OnlyT (B 7) w w') (hm : MemIs w' (B 6) (B 7) N (fun j => if j = f * 16 + a then v else mmG k j)) : KAt w' B E N (k.setWord f a v) := by
 have hF : Fit (k.setWord f a v) := h.fit.mem rfl rfl rfl rfl
 refine KAt.of hF h.envs h.frames (h.lies.mem_step ho hm) (fun _ _ _ _ => rfl) (fun _ _ _ _ => rfl) (fun _ _ => rfl) (fun j _ => ?_)
 show (if j / 16 = f ∧ j % 16 = a then v else k.mm (j / 16) (j % 16)) = if j = f * 16 + a then v else mmG k j
 by_cases hj : j = f * 16 + a
 ·rw [if_pos hj, if_pos ⟨by omega, by omega⟩]
 ·rw [if_neg hj, if_neg (fun h => hj (by omega))]
  rfl
theorem KAt.set {w : World} (h : KAt w B E N k) {f a : Nat} (hf : f < N) (ha : a < 16) (v : Int) : KAt (w.setCell ⟨B 7, f * 16 + a, none⟩ (.int .u64 v)) B E N (k.setWord f a v) :=
 h.word ha (tp_set (tp_below (Below.refl _ _)) _ _) (h.lies.mem.set (by omega) v)
theorem only_set {w : World} (h : KAt w B E N k) (o : Nat) (v : Value) : Only (Blk B E) w (w.setCell ⟨B 7, o, none⟩ v) := only_blk (show 7 < 8 + E by have := h.lies.eE; omega) (tp_set (tp_below (Below.refl _ _)) _ _)
theorem pl_kind (kind x1 x2 x3 x4 : Int) (hk : 20 ≤ kind ∧ kind ≤ 23) (W : World) : Calls Tryz.prog 85 #[callV kind x1 x2 x3 x4] W fun e w' => e = .returned (.tuple #[.int .i64 kind, .bool true]) ∧ Below W.heap.size W w' :=
 Kind_yes kind x1 x2 x3 x4 (decide_eq_true (Or.inr hk)) W
theorem pl_arg (kind x1 x3 x4 : Int) (a : Nat) (ha : a < 16) (hx : wordsIn kind x1 a x3 x4) (W : World) : Calls Tryz.prog 86 #[callV kind x1 a x3 x4, .int .i64 2, .int .i64 16] W fun e w' => e = .returned (.tuple #[.int .i64 (a : Int), .bool true]) ∧ Below W.heap.size W w' := by
 have h := Arg_in kind x1 (a : Int) x3 x4 16 hx.2.1 hx.2.2.1 hx.2.2.2.1 hx.2.2.2.2 (by omega) (by omega) 1 (by omega) W
 have e1 : belowN (a : Int) 16 = (a : Int) := if_pos ⟨by omega, by omega⟩
 have e2 : belowB (a : Int) 16 = true := decide_eq_true ⟨by omega, by omega⟩
 have h2 : Calls Tryz.prog 86 #[callV kind x1 a x3 x4, .int .i64 2, .int .i64 16] W fun e w' => e = .returned (.tuple #[.int .i64 (belowN (a : Int) 16), .bool (belowB (a : Int) 16)]) ∧ Below W.heap.size W w' := h
 rw [e1, e2] at h2
 exact h2
set_option maxRecDepth 100000 in
theorem pltouch_load {f a : Nat} (hf : f < N) (ha : a < 16) (x1 x3 x4 : Int) (hx : wordsIn 20 x1 a x3 x4) (w : World) (h : KAt w B E N k) :
  Calls Tryz.prog 69 #[.pointer (some ⟨B 0, 0, none⟩), .int .i64 (f : Int), callV 20 x1 a x3 x4] w fun x w' => x = .returned (.tuple #[.int .u64 (k.mm f a), .bool true]) ∧ Below w.heap.size w w' := by
 have HK := Lib.hid h
 have H1 := Lib.hid (fun W => pl_kind 20 x1 a x3 x4 (by omega) W)
 have H2 := Lib.hid (fun W => pl_arg 20 x1 x3 x4 a ha hx W)
 have HM := Lib.hid (fun W (hW : KAt W B E N k) => load_any W (B 6) (B 7) N f a (k.mm f a) (mmG k) hW.lies.mem hf hW.lies.nN.2 ha (mmG_at k ha))
 clear h hx hf ha
 go_enter Tryz.func69, Tryz.ntmps69
 go_wp2_with fail
 refine (H1.out _).mono ?_
 rintro x w1 ⟨rfl, hb⟩
 have B1 := Lib.hid (bl_alloc (Below.refl w.heap.size w) hb)
 have X1 := Lib.hid (bk_one hb)
 clear hb
 have b0 := bk_cell X1.out 0
 have b1 := bk_cell X1.out 1
 have b2 := bk_cell X1.out 2
 have b3 := bk_cell X1.out 3
 have b4 := bk_cell X1.out 4
 have lb := bk_lt X1.out
 go_wp2_with fail
 refine (H2.out _).mono ?_
 rintro x w2 ⟨rfl, hb⟩
 have B2 := Lib.hid (bl_trans B1.out hb)
 have X2 := Lib.hid (bk_below X1.out hb)
 clear hb b0 b1 b2 b3 b4 lb
 have K2 := Lib.hid (HK.out.later B2.out)
 have c3 := K2.out.lies.c3
 have l0 := K2.out.rowlt.1
 go_wp2_with fail
 refine (HM.out _ K2.out).mono ?_
 rintro x w3 ⟨rfl, rfl⟩
 go_wp2_with fail
 go_ret2
 exact ⟨rfl, B2.out⟩
set_option maxRecDepth 100000 in
theorem pltouch_store {f a : Nat} (hf : f < N) (ha : a < 16) (x1 x3 x4 : Int) (hx : wordsIn 21 x1 a x3 x4) (w : World) (h : KAt w B E N k) :
  Calls Tryz.prog 69 #[.pointer (some ⟨B 0, 0, none⟩), .int .i64 (f : Int), callV 21 x1 a x3 x4] w fun x w' => x = .returned (.tuple #[.int .u64 0, .bool true]) ∧ KAt w' B E N (k.setWord f a x3) ∧ Only (Blk B E) w w' := by
 have HK := Lib.hid h
 have H1 := Lib.hid (fun W => pl_kind 21 x1 a x3 x4 (by omega) W)
 have H2 := Lib.hid (fun W => pl_arg 21 x1 x3 x4 a ha hx W)
 have HM := Lib.hid (fun W (hW : KAt W B E N k) => store_any W (B 6) (B 7) N f a x3 (mmG k) hW.lies.mem hf hW.lies.nN.2 ha)
 have HS := Lib.hid (fun W (hW : KAt W B E N k) v => (⟨hW.set hf ha v, only_set hW (f * 16 + a) (.int .u64 v)⟩ : _ ∧ _))
 clear h hx hf ha
 go_enter Tryz.func69, Tryz.ntmps69
 go_wp2_with fail
 refine (H1.out _).mono ?_
 rintro x w1 ⟨rfl, hb⟩
 have B1 := Lib.hid (bl_alloc (Below.refl w.heap.size w) hb)
 have X1 := Lib.hid (bk_one hb)
 clear hb
 have b0 := bk_cell X1.out 0
 have b1 := bk_cell X1.out 1
 have b2 := bk_cell X1.out 2
 have b3 := bk_cell X1.out 3
 have b4 := bk_cell X1.out 4
 have lb := bk_lt X1.out
 go_wp2_with fail
 refine (H2.out _).mono ?_
 rintro x w2 ⟨rfl, hb⟩
 have B2 := Lib.hid (bl_trans B1.out hb)
 have X2 := Lib.hid (bk_below X1.out hb)
 clear hb b0 b1 b2 b3 b4 lb
 have K2 := Lib.hid (HK.out.later B2.out)
 have c3 := K2.out.lies.c3
 have l0 := K2.out.rowlt.1
 have b3 := bk_cell X2.out 3
 have b4 := bk_cell X2.out 4
 have lb := bk_lt X2.out
 go_wp2_with fail
 go_still_tail 8, (by kernel_rfl)
 change wpList _ _ _ _ _ w2.drew
 go_wp2_with fail
 have K3 := Lib.hid (K2.out.later (dn (Below.refl _ _) 1))
 refine (HM.out _ K3.out).mono ?_
 rintro x w3 ⟨rfl, rfl⟩
 go_wp2_with fail
 go_ret2
 exact ⟨rfl, (HS.out _ K3.out x3).1, only_then (Only.below (dn B2.out 1)) (HS.out _ K3.out x3).2⟩
set_option maxRecDepth 100000 in
theorem pltouch_cas_yes {f a : Nat} (hf : f < N) (ha : a < 16) (x1 x3 x4 : Int) (hx : wordsIn 22 x1 a x3 x4) (hq : k.mm f a = x3) (w : World) (h : KAt w B E N k) :
  Calls Tryz.prog 69 #[.pointer (some ⟨B 0, 0, none⟩), .int .i64 (f : Int), callV 22 x1 a x3 x4] w fun x w' => x = .returned (.tuple #[.int .u64 x3, .bool true]) ∧ KAt w' B E N (k.setWord f a x4) ∧ Only (Blk B E) w w' := by
 have HK := Lib.hid h
 have H1 := Lib.hid (fun W => pl_kind 22 x1 a x3 x4 (by omega) W)
 have H2 := Lib.hid (fun W => pl_arg 22 x1 x3 x4 a ha hx W)
 have HM : Hid (∀ W, KAt W B E N k → Calls Tryz.prog 123 #[.pointer (some ⟨B 6, 0, none⟩), .int .i64 (f : Int), .int .i64 (a : Int), .int .u64 x3, .int .u64 x4] W fun e w' => e = .returned (.tuple #[.int .u64 x3, .bool true]) ∧ KAt w' B E N (k.setWord f a x4) ∧ OnlyT (B 7) W w') := fun W hW => (cas_yes W (B 6) (B 7) N f a x3 x4 (mmG k) hW.lies.mem hf hW.lies.nN.2 ha ((mmG_at k ha).trans hq)).mono fun _ w' ⟨h1, h2⟩ => ⟨h1, by rw [← h2]; exact hW.set hf ha _, by rw [← h2]; exact tp_set (tp_below (Below.refl _ _)) _ _⟩
 clear h hx hf ha hq
 go_enter Tryz.func69, Tryz.ntmps69
 go_wp2_with fail
 refine (H1.out _).mono ?_
 rintro x w1 ⟨rfl, hb⟩
 have B1 := Lib.hid (bl_alloc (Below.refl w.heap.size w) hb)
 have X1 := Lib.hid (bk_one hb)
 clear hb
 have b0 := bk_cell X1.out 0
 have b1 := bk_cell X1.out 1
 have b2 := bk_cell X1.out 2
 have b3 := bk_cell X1.out 3
 have b4 := bk_cell X1.out 4
 have lb := bk_lt X1.out
 go_wp2_with fail
 refine (H2.out _).mono ?_
 rintro x w2 ⟨rfl, hb⟩
 have B2 := Lib.hid (bl_trans B1.out hb)
 have X2 := Lib.hid (bk_below X1.out hb)
 clear hb b0 b1 b2 b3 b4 lb
 have K2 := Lib.hid (HK.out.later B2.out)
 have c3 := K2.out.lies.c3
 have l0 := K2.out.rowlt.1
 have b3 := bk_cell X2.out 3
 have b4 := bk_cell X2.out 4
 have lb := bk_lt X2.out
 go_wp2_with fail
 have K3 : Hid (KAt w2.drew B E N k) := K2.out.later (dn (Below.refl _ _) 1)
 have B3 : Hid (Below w.heap.size w w2.drew) := dn B2.out 1
 have hS : w2.drew.cell? ⟨B 0, 3, none⟩ = some (.pointer (some ⟨B 6, 0, none⟩)) ∧ w2.drew.cell? ⟨w.heap.size, 3, none⟩ = some (.int .u64 x3) ∧ w2.drew.cell? ⟨w.heap.size, 4, none⟩ = some (.int .u64 x4) := ⟨c3, b3, b4⟩
 have XS : Hid (∀ wn, OnlyT (B 7) w2.drew wn → wn.cell? ⟨B 0, 3, none⟩ = some (.pointer (some ⟨B 6, 0, none⟩)) ∧ wn.cell? ⟨w.heap.size, 3, none⟩ = some (.int .u64 x3) ∧ wn.cell? ⟨w.heap.size, 4, none⟩ = some (.int .u64 x4)) := fun wn ho => by
  have h0 := K2.out.lies.lt 0 (by omega)
  have h8 := K2.out.lies.eE
  have h7 := HK.out.lies.lt 7 (by omega)
  have hn : B 0 ≠ B 7 := K2.out.lies.ne 0 7 (by omega) (by omega) (by omega)
  have e0 := ho.block (B 0) h0 (fun e => hn (by injection e))
  have e1 := ho.block w.heap.size (bk_lt X2.out) (fun e => by injection e with e; omega)
  exact ⟨(World.cell?_of_block (a := ⟨B 0, 3, none⟩) e0).trans hS.1, (World.cell?_of_block (a := ⟨w.heap.size, 3, none⟩) e1).trans hS.2.1, (World.cell?_of_block (a := ⟨w.heap.size, 4, none⟩) e1).trans hS.2.2⟩
 clear c3 b3 b4
 go_region_held3 (fun w' => w'.cell? ⟨B 0, 3, none⟩ = some (.pointer (some ⟨B 6, 0, none⟩)) ∧ w'.cell? ⟨w.heap.size, 3, none⟩ = some (.int .u64 x3) ∧ w'.cell? ⟨w.heap.size, 4, none⟩ = some (.int .u64 x4)) (exact hS)
  ((go_at_call 123; refine (HM.out _ K3.out).mono ?_; rintro e' wn ⟨rfl, hg, ho⟩; have HH := Lib.hid hg; have HO := Lib.hid (only_then (Only.below B3.out) (only_blk (B := B) (E := E) (show 7 < 8 + E by have := K3.out.lies.eE; omega) ho)); have hS : wn.cell? ⟨B 0, 3, none⟩ = some (.pointer (some ⟨B 6, 0, none⟩)) ∧ wn.cell? ⟨w.heap.size, 3, none⟩ = some (.int .u64 x3) ∧ wn.cell? ⟨w.heap.size, 4, none⟩ = some (.int .u64 x4) := XS.out wn ho; clear hg ho))
 go_wp2_with fail
 go_ret2
 exact ⟨rfl, HH.out, HO.out⟩
set_option maxRecDepth 100000 in
theorem pltouch_cas_no {f a : Nat} (hf : f < N) (ha : a < 16) (x1 x3 x4 : Int) (hx : wordsIn 22 x1 a x3 x4) {y : Int} (hy : k.mm f a = y) (hq : (y == x3) = false) (w : World) (h : KAt w B E N k) :
  Calls Tryz.prog 69 #[.pointer (some ⟨B 0, 0, none⟩), .int .i64 (f : Int), callV 22 x1 a x3 x4] w fun x w' => x = .returned (.tuple #[.int .u64 y, .bool true]) ∧ KAt w' B E N (k) ∧ Only (Blk B E) w w' := by
 have HK := Lib.hid h
 have H1 := Lib.hid (fun W => pl_kind 22 x1 a x3 x4 (by omega) W)
 have H2 := Lib.hid (fun W => pl_arg 22 x1 x3 x4 a ha hx W)
 have HM := Lib.hid (fun W (hW : KAt W B E N k) => cas_no W (B 6) (B 7) N f a y x3 x4 hq (mmG k) hW.lies.mem hf hW.lies.nN.2 ha ((mmG_at k ha).trans hy))
 clear h hx hf ha hq hy
 go_enter Tryz.func69, Tryz.ntmps69
 go_wp2_with fail
 refine (H1.out _).mono ?_
 rintro x w1 ⟨rfl, hb⟩
 have B1 := Lib.hid (bl_alloc (Below.refl w.heap.size w) hb)
 have X1 := Lib.hid (bk_one hb)
 clear hb
 have b0 := bk_cell X1.out 0
 have b1 := bk_cell X1.out 1
 have b2 := bk_cell X1.out 2
 have b3 := bk_cell X1.out 3
 have b4 := bk_cell X1.out 4
 have lb := bk_lt X1.out
 go_wp2_with fail
 refine (H2.out _).mono ?_
 rintro x w2 ⟨rfl, hb⟩
 have B2 := Lib.hid (bl_trans B1.out hb)
 have X2 := Lib.hid (bk_below X1.out hb)
 clear hb b0 b1 b2 b3 b4 lb
 have K2 := Lib.hid (HK.out.later B2.out)
 have c3 := K2.out.lies.c3
 have l0 := K2.out.rowlt.1
 have b3 := bk_cell X2.out 3
 have b4 := bk_cell X2.out 4
 have lb := bk_lt X2.out
 go_wp2_with fail
 have HQ : Hid (∀ n, Calls Tryz.prog 123 #[.pointer (some ⟨B 6, 0, none⟩), .int .i64 (f : Int), .int .i64 (a : Int), .int .u64 x3, .int .u64 x4] (w2.drewN n) fun r W' => r = .returned (.tuple #[.int .u64 y, .bool true]) ∧ W' = w2.drewN n) := fun n => (HM.out _ (K2.out.later (dn (Below.refl _ _) n))).mono fun _ _ ⟨h1, h2⟩ => ⟨h1, h2.symm⟩
 go_quiet ((go_at_call 123; exact Calls.quiet_of_same (HQ.out _)))
 go_wp2_with fail
 go_ret2
 exact ⟨rfl, K2.out.later (dn (Below.refl _ _) _), Only.below (dn B2.out _)⟩
set_option maxRecDepth 100000 in
theorem pltouch_add {f a : Nat} (hf : f < N) (ha : a < 16) (x1 x3 x4 : Int) (hx : wordsIn 23 x1 a x3 x4) {y : Int} (hy : k.mm f a = y) (w : World) (h : KAt w B E N k) :
  Calls Tryz.prog 69 #[.pointer (some ⟨B 0, 0, none⟩), .int .i64 (f : Int), callV 23 x1 a x3 x4] w fun x w' => x = .returned (.tuple #[.int .u64 y, .bool true]) ∧ KAt w' B E N (k.setWord f a (IntKind.u64.wrap (y + x3))) ∧ Only (Blk B E) w w' := by
 have HK := Lib.hid h
 have H1 := Lib.hid (fun W => pl_kind 23 x1 a x3 x4 (by omega) W)
 have H2 := Lib.hid (fun W => pl_arg 23 x1 x3 x4 a ha hx W)
 have HM : Hid (∀ W, KAt W B E N k → Calls Tryz.prog 124 #[.pointer (some ⟨B 6, 0, none⟩), .int .i64 (f : Int), .int .i64 (a : Int), .int .u64 x3] W fun e w' => e = .returned (.tuple #[.int .u64 y, .bool true]) ∧ KAt w' B E N (k.setWord f a (IntKind.u64.wrap (y + x3))) ∧ OnlyT (B 7) W w') := fun W hW => (add_any W (B 6) (B 7) N f a y x3 (mmG k) hW.lies.mem hf hW.lies.nN.2 ha ((mmG_at k ha).trans hy)).mono fun _ w' ⟨h1, h2⟩ => ⟨h1, by rw [← h2]; exact hW.set hf ha _, by rw [← h2]; exact tp_set (tp_below (Below.refl _ _)) _ _⟩
 clear h hx hf ha hy
 go_enter Tryz.func69, Tryz.ntmps69
 go_wp2_with fail
 refine (H1.out _).mono ?_
 rintro x w1 ⟨rfl, hb⟩
 have B1 := Lib.hid (bl_alloc (Below.refl w.heap.size w) hb)
 have X1 := Lib.hid (bk_one hb)
 clear hb
 have b0 := bk_cell X1.out 0
 have b1 := bk_cell X1.out 1
 have b2 := bk_cell X1.out 2
 have b3 := bk_cell X1.out 3
 have b4 := bk_cell X1.out 4
 have lb := bk_lt X1.out
 go_wp2_with fail
 refine (H2.out _).mono ?_
 rintro x w2 ⟨rfl, hb⟩
 have B2 := Lib.hid (bl_trans B1.out hb)
 have X2 := Lib.hid (bk_below X1.out hb)
 clear hb b0 b1 b2 b3 b4 lb
 have K2 := Lib.hid (HK.out.later B2.out)
 have c3 := K2.out.lies.c3
 have l0 := K2.out.rowlt.1
 have b3 := bk_cell X2.out 3
 have b4 := bk_cell X2.out 4
 have lb := bk_lt X2.out
 go_wp2_with fail
 have K3 : Hid (KAt w2.drew B E N k) := K2.out.later (dn (Below.refl _ _) 1)
 have B3 : Hid (Below w.heap.size w w2.drew) := dn B2.out 1
 have hS : w2.drew.cell? ⟨B 0, 3, none⟩ = some (.pointer (some ⟨B 6, 0, none⟩)) ∧ w2.drew.cell? ⟨w.heap.size, 3, none⟩ = some (.int .u64 x3) ∧ w2.drew.cell? ⟨w.heap.size, 4, none⟩ = some (.int .u64 x4) := ⟨c3, b3, b4⟩
 have XS : Hid (∀ wn, OnlyT (B 7) w2.drew wn → wn.cell? ⟨B 0, 3, none⟩ = some (.pointer (some ⟨B 6, 0, none⟩)) ∧ wn.cell? ⟨w.heap.size, 3, none⟩ = some (.int .u64 x3) ∧ wn.cell? ⟨w.heap.size, 4, none⟩ = some (.int .u64 x4)) := fun wn ho => by
  have h0 := K2.out.lies.lt 0 (by omega)
  have h8 := K2.out.lies.eE
  have h7 := HK.out.lies.lt 7 (by omega)
  have hn : B 0 ≠ B 7 := K2.out.lies.ne 0 7 (by omega) (by omega) (by omega)
  have e0 := ho.block (B 0) h0 (fun e => hn (by injection e))
  have e1 := ho.block w.heap.size (bk_lt X2.out) (fun e => by injection e with e; omega)
  exact ⟨(World.cell?_of_block (a := ⟨B 0, 3, none⟩) e0).trans hS.1, (World.cell?_of_block (a := ⟨w.heap.size, 3, none⟩) e1).trans hS.2.1, (World.cell?_of_block (a := ⟨w.heap.size, 4, none⟩) e1).trans hS.2.2⟩
 clear c3 b3 b4
 go_region_held3 (fun w' => w'.cell? ⟨B 0, 3, none⟩ = some (.pointer (some ⟨B 6, 0, none⟩)) ∧ w'.cell? ⟨w.heap.size, 3, none⟩ = some (.int .u64 x3) ∧ w'.cell? ⟨w.heap.size, 4, none⟩ = some (.int .u64 x4)) (exact hS)
  ((go_at_call 124; refine (HM.out _ K3.out).mono ?_; rintro e' wn ⟨rfl, hg, ho⟩; have HH := Lib.hid hg; have HO := Lib.hid (only_then (Only.below B3.out) (only_blk (B := B) (E := E) (show 7 < 8 + E by have := K3.out.lies.eE; omega) ho)); have hS : wn.cell? ⟨B 0, 3, none⟩ = some (.pointer (some ⟨B 6, 0, none⟩)) ∧ wn.cell? ⟨w.heap.size, 3, none⟩ = some (.int .u64 x3) ∧ wn.cell? ⟨w.heap.size, 4, none⟩ = some (.int .u64 x4) := XS.out wn ho; clear hg ho))
 go_wp2_with fail
 go_ret2
 exact ⟨rfl, HH.out, HO.out⟩
theorem pltouch_any {f a : Nat} (hf : f < N) (ha : a < 16) (kind x1 x3 x4 : Int) (hk : 20 ≤ kind ∧ kind ≤ 23) (hx : wordsIn kind x1 a x3 x4) (w : World) (h : KAt w B E N k) :
  Calls Tryz.prog 69 #[.pointer (some ⟨B 0, 0, none⟩), .int .i64 (f : Int), callV kind x1 a x3 x4] w fun x w' => x = .returned (.tuple #[.int .u64 (wordT k f a kind), .bool true]) ∧ KAt w' B E N (wordS k f a kind x3 x4) ∧ Only (Blk B E) w w' := by
 rcases (show kind = 20 ∨ kind = 21 ∨ kind = 22 ∨ kind = 23 by omega) with rfl | rfl | rfl | rfl
 ·exact (pltouch_load hf ha x1 x3 x4 hx w h).mono fun _ _ ⟨h1, h2⟩ => ⟨h1, h.later h2, Only.below h2⟩
 ·exact pltouch_store hf ha x1 x3 x4 hx w h
 ·by_cases hq : k.mm f a = x3
  ·have e1 : wordS k f a 22 x3 x4 = k.setWord f a x4 := if_pos hq
   have e2 : wordT k f a 22 = x3 := hq
   rw [e1, e2]
   exact pltouch_cas_yes hf ha x1 x3 x4 hx hq w h
  ·have e1 : wordS k f a 22 x3 x4 = k := if_neg hq
   rw [e1]
   exact pltouch_cas_no hf ha x1 x3 x4 hx rfl (beq_eq_false_iff_ne.2 hq) w h
 ·exact pltouch_add hf ha x1 x3 x4 hx rfl w h
end
end Go.Proofs.YtdfhfmdelinemaaGreatDoor
namespace Go.Proofs.YtdfhfmdelinemaaGreatDoor
open Go.RowKit Go.Extern.Stop Go.Stop Go.Extern Go.WalkArith
section
variable {B : Nat → Nat} {E N : Nat} {k : KernS} {W : World}
set_option maxRecDepth 100000 in
theorem placcess_no {e p : Nat} (he : e < E) (hp : p < 8) (kind x1 x2 x3 x4 : Int) (hk : 20 ≤ kind ∧ kind ≤ 23) (hq : withinB (needN kind) (k.pt e p).rights = false) (w : World) (h : KAt w B E N k) :
  Calls Tryz.prog 107 #[.pointer (some ⟨B 0, 0, none⟩), .int .i64 (e : Int), .int .i64 (p : Int), callV kind x1 x2 x3 x4] w fun x w' => x = .returned (.tuple #[.int .u64 0, .int .i64 7]) ∧ Below w.heap.size w w' := by
 have HT := Lib.hid (fun W (hW : KAt W B E N k) => pl_tat he hp W hW rfl rfl rfl rfl)
 have HL := Lib.hid (fun W => lets_any (k.pt e p).rights kind W)
 rw [hq] at HL
 generalize decide (¬ (k.pt e p).rights = 0) = b at HT
 generalize (k.pt e p).frame = y0 at HT
 generalize (k.pt e p).slot = y1 at HT
 generalize (k.pt e p).rights = y2 at HT HL
 have HK := Lib.hid h
 have c0 := h.lies.c0
 have cr := h.lies.row e he
 have l0 := h.rowlt.1
 have l1 := h.rowlt.2
 have q1 : ¬ (e : Int) < 0 := by omega
 have q2 : (e : Int) < (E : Int) := by omega
 have q3 : ¬ (E : Int) ≤ (e : Int) := by omega
 have w0 : IntKind.i64.wrap kind = kind := IntWalk.i64_in _ (by omega)
 clear h he hp hq hk
 go_enter Tryz.func107, Tryz.ntmps107
 go_wp2_with fail
 refine (HT.out _ (HK.out.later ((Below.refl _ _).alloc (Nat.le_refl _) _))).mono ?_
 rintro x w1 ⟨rfl, hb⟩
 have X1 := Lib.hid (bk_one hb)
 have B1 := Lib.hid (bl_alloc (Below.refl w.heap.size w) hb)
 clear hb c0 cr l0 l1
 have b0 := bk_cell X1.out 0
 have lb := bk_lt X1.out
 go_wp2_with fail
 refine (HL.out _).mono ?_
 rintro x w2 ⟨rfl, rfl⟩
 go_wp2_with fail
 go_ret2
 exact ⟨rfl, B1.out.alloc B1.out.size _⟩
set_option maxRecDepth 100000 in
theorem placcess_yes {e p a : Nat} (he : e < E) (hp : p < 8) (ha : a < 16) (kind x1 x3 x4 : Int) (hk : 20 ≤ kind ∧ kind ≤ 23) (hx : wordsIn kind x1 a x3 x4) (hq : withinB (needN kind) (k.pt e p).rights = true) (w : World) (h : KAt w B E N k) :
  Calls Tryz.prog 107 #[.pointer (some ⟨B 0, 0, none⟩), .int .i64 (e : Int), .int .i64 (p : Int), callV kind x1 a x3 x4] w fun x w' => x = .returned (.tuple #[.int .u64 (wordT k (k.pt e p).frame.toNat a kind), .int .i64 0]) ∧ KAt w' B E N (wordS k (k.pt e p).frame.toNat a kind x3 x4) ∧ Only (Blk B E) w w' := by
 have hr : ¬ (k.pt e p).rights = 0 := fun h0 => by
  rw [h0] at hq
  have h1 : withinB (needN kind) 0 = false := by unfold withinB mayB; simp
  rw [h1] at hq
  exact absurd hq (by decide)
 obtain ⟨_, s, hs, _, hi, hfr⟩ := h.fit.ent e p hp hr
 obtain ⟨f, hf, hfN, _⟩ := h.fit.lt hs hi
 have hff : (k.pt e p).frame = (f : Int) := hfr.trans hf
 have hfn : f < N := by have := h.frames; omega
 have HT := Lib.hid (fun W (hW : KAt W B E N k) => pl_tat he hp W hW hff rfl rfl rfl)
 rw [decide_eq_true hr] at HT
 have HL := Lib.hid (fun W => lets_any (k.pt e p).rights kind W)
 rw [hq] at HL
 rw [hff, Int.toNat_natCast]
 have HM := Lib.hid (fun W (hW : KAt W B E N k) => pltouch_any hfn ha kind x1 x3 x4 hk hx W hW)
 generalize wordT k f a kind = vt at HM ⊢
 generalize wordS k f a kind x3 x4 = ks at HM ⊢
 generalize (k.pt e p).slot = y1 at HT
 generalize (k.pt e p).rights = y2 at HT HL
 have HK := Lib.hid h
 have c0 := h.lies.c0
 have cr := h.lies.row e he
 have l0 := h.rowlt.1
 have l1 := h.rowlt.2
 have q1 : ¬ (e : Int) < 0 := by omega
 have q2 : (e : Int) < (E : Int) := by omega
 have q3 : ¬ (E : Int) ≤ (e : Int) := by omega
 have w0 : IntKind.i64.wrap kind = kind := IntWalk.i64_in _ (by omega)
 clear h he hp hq hk hr hs hi hfr hf hfN hff hfn hx ha
 go_enter Tryz.func107, Tryz.ntmps107
 go_wp2_with fail
 refine (HT.out _ (HK.out.later ((Below.refl _ _).alloc (Nat.le_refl _) _))).mono ?_
 rintro x w1 ⟨rfl, hb⟩
 have X1 := Lib.hid (bk_one hb)
 have B1 := Lib.hid (bl_alloc (Below.refl w.heap.size w) hb)
 clear hb c0 cr l0 l1
 have b0 := bk_cell X1.out 0
 have b1 := bk_cell X1.out 1
 have b2 := bk_cell X1.out 2
 have b3 := bk_cell X1.out 3
 have b4 := bk_cell X1.out 4
 have lb := bk_lt X1.out
 go_wp2_with fail
 refine (HL.out _).mono ?_
 rintro x w2 ⟨rfl, rfl⟩
 go_wp2_with fail
 have B2 := Lib.hid (B1.out.alloc B1.out.size (.cells #[.int .i64 (f : Int), .int .i64 y1, .int .i64 y2] 83))
 refine (HM.out _ (HK.out.later B2.out)).mono ?_
 rintro x w3 ⟨rfl, hg, ho⟩
 have HH := Lib.hid hg
 have HO := Lib.hid (only_then (Only.below B2.out) ho)
 clear hg ho
 go_wp2_with fail
 go_ret2
 exact ⟨rfl, HH.out, HO.out⟩
end
end Go.Proofs.YtdfhfmdelinemaaGreatDoor
namespace Go.Proofs.YtdfhfmdelinemaaGreatDoor
open Go.RowKit Go.Extern.Stop Go.Stop Go.Extern Go.WalkArith
section
variable {B : Nat → Nat} {E N : Nat} {k kt kp : KernS} {r g : Nat → Int} {W w w' : World}
def cutP (k : KernS) (e : Nat) (l : List Nat) : KernS := { k with pt := fun e' p => if e' = e ∧ p ∈ l then noPte else k.pt e' p }
theorem cutP_pt (k : KernS) (e : Nat) (l : List Nat) (e' p : Nat) : (cutP k e l).pt e' p = if e' = e ∧ p ∈ l then noPte else k.pt e' p := rfl
theorem by_mem {e s p : Nat} : p ∈ byL (pteG k e) (s : Int) 8 ↔ p < 8 ∧ ¬ (k.pt e p).rights = 0 ∧ (k.pt e p).slot = (s : Int) := by
 unfold byL
 rw [List.mem_filter, List.mem_range, decide_eq_true_eq, (pteG_at k e p).2.2, (pteG_at k e p).2.1]
theorem by_nodup (k : KernS) (e s : Nat) : (byL (pteG k e) (s : Int) 8).Nodup := List.Pairwise.filter _ List.nodup_range
theorem PAt.cut1 {l : List Nat} {i e : Nat} (h : PAt w B E N kt (cutP kp e (l.take i)) r g) (he : e < E) (hi : i < l.length) (ho : OnlyT (B (8 + e)) w w') (hg : TabIs w' (B (8 + e)) (putG (pteG (cutP kp e (l.take i)) e) l[i] 0 0 0)) : PAt w' B E N kt (cutP kp e (l.take (i + 1))) r g := by
 have hm : ∀ p, p ∈ l.take (i + 1) ↔ p ∈ l.take i ∨ p = l[i] := fun p => by
  rw [List.take_succ_eq_append_getElem hi, List.mem_append, List.mem_singleton]
 refine h.tab_step he ho hg (fun j hj => ?_) (fun e' hne j hj => ?_)
 ·by_cases hq : j / 3 = l[i]
  ·obtain ⟨g0, g1, g2⟩ := pteG_at (cutP kp e (l.take (i + 1))) e l[i]
   have e1 : (cutP kp e (l.take (i + 1))).pt e l[i] = noPte := if_pos ⟨rfl, (hm _).2 (Or.inr rfl)⟩
   obtain ⟨p0, p1, p2, _⟩ := putG_is (pteG (cutP kp e (l.take i)) e) l[i] 0 0 0
   rw [e1] at g0 g1 g2
   rcases (show j = l[i] * 3 ∨ j = l[i] * 3 + 1 ∨ j = l[i] * 3 + 2 by omega) with h1 | h1 | h1
   ·rw [h1, g0, p0]; rfl
   ·rw [h1, g1, p1]; rfl
   ·rw [h1, g2, p2]; rfl
  ·rw [(putG_is _ _ _ _ _).2.2.2 j hq]
   unfold pteG
   have e1 : (cutP kp e (l.take (i + 1))).pt e (j / 3) = (cutP kp e (l.take i)).pt e (j / 3) := by
    rw [cutP_pt, cutP_pt]
    by_cases h1 : j / 3 ∈ l.take i
    ·rw [if_pos ⟨rfl, (hm _).2 (Or.inl h1)⟩, if_pos ⟨rfl, h1⟩]
    ·rw [if_neg (fun h2 => ((hm _).1 h2.2).elim h1 hq), if_neg (fun h2 => h1 h2.2)]
   rw [e1]
 ·unfold pteG
  rw [show (cutP kp e (l.take (i + 1))).pt e' (j / 3) = kp.pt e' (j / 3) from if_neg fun hc => hne hc.1, show (cutP kp e (l.take i)).pt e' (j / 3) = kp.pt e' (j / 3) from if_neg fun hc => hne hc.1]
theorem cut_there {e s : Nat} {i : Nat} (hi : i < (byL (pteG kp e) (s : Int) 8).length) : (byL (pteG kp e) (s : Int) 8)[i] < 8 ∧ ¬ pteG (cutP kp e ((byL (pteG kp e) (s : Int) 8).take i)) e ((byL (pteG kp e) (s : Int) 8)[i] * 3 + 2) = 0 := by
 have hm := by_mem.1 (List.getElem_mem hi)
 refine ⟨hm.1, ?_⟩
 rw [(pteG_at _ e _).2.2, cutP_pt, if_neg fun hc => ?_]
 ·exact hm.2.1
 ·obtain ⟨j, hj, hjq⟩ := List.mem_take_iff_getElem.1 hc.2
  exact absurd hjq ((List.pairwise_iff_getElem.1 (by_nodup kp e s)) j i (by omega) hi (by omega))
theorem PAt.cut0 (h : PAt w B E N kt kp r g) (e : Nat) (l : List Nat) : PAt w B E N kt (cutP kp e (l.take 0)) r g :=
 h.congr h.tree.ok rfl (fun _ _ _ _ => rfl) (fun e' p _ _ => by rw [cutP_pt, List.take_zero, if_neg (fun hc => absurd hc.2 (by simp))]) (fun _ _ => rfl) (fun _ _ => rfl)
theorem PAt.cut_all {e s : Nat} (h : PAt w B E N kt (cutP kp e (byL (pteG kp e) (s : Int) 8)) r g) : PAt w B E N kt (clr kp e s 8) r g :=
 h.congr h.tree.ok rfl (fun _ _ _ _ => rfl) (fun e' p _ hp => by
  show (if e' = e ∧ p < 8 ∧ ¬ (kp.pt e' p).rights = 0 ∧ (kp.pt e' p).slot = (s : Int) then noPte else kp.pt e' p) = _
  rw [cutP_pt]
  by_cases hc : e' = e ∧ p ∈ byL (pteG kp e) (s : Int) 8
  ·have h1 := by_mem.1 hc.2
   rw [if_pos hc, if_pos ⟨hc.1, hp, by rw [hc.1]; exact h1.2.1, by rw [hc.1]; exact h1.2.2⟩]
  ·rw [if_neg hc, if_neg (fun h2 => hc ⟨h2.1, by_mem.2 ⟨hp, by rw [← h2.1]; exact h2.2.2.1, by rw [← h2.1]; exact h2.2.2.2⟩⟩)]) (fun _ _ => rfl) (fun _ _ => rfl)
theorem by_list {w1 : World} {v : Value} {l : List Nat} (h : w1.ownsRow w.heap.size 3 1 v l.length (pagesV l)) : (l = [] ∧ v = .slice none 0 0) ∨ ∃ b cap, v = .slice (some ⟨b, 0, none⟩) l.length cap ∧ FreesAt w1 b l ∧ w.heap.size ≤ b := by
 have h0 := h
 obtain ⟨_, ⟨hv, h2⟩ | ⟨b', cap', cur, h1, h3, _⟩⟩ := h0
 ·exact Or.inl ⟨List.length_eq_zero_iff.1 h2, hv⟩
 ·rcases row_frees h with h4 | ⟨b, cap, h4, h5⟩
  ·exact Or.inl h4
  ·refine Or.inr ⟨b, cap, h4, h5, ?_⟩
   rw [h4] at h1
   injection h1 with h1
   injection h1 with h1
   injection h1 with h1
   omega
theorem cut_call {e s : Nat} {l : List Nat} (hl : byL (pteG kp e) (s : Int) 8 = l) (he : e < E) {i p : Nat} (hi : i < l.length) (hp : l[i] = p) (W : World) (hW : PAt W B E N kt (cutP kp e (l.take i)) r g) :
  Calls Tryz.prog 104 #[.pointer (some ⟨B (8 + e), 0, none⟩), .int .i64 (p : Int)] W fun x w' => (∃ u v y : Int, x = .returned (.tuple #[.agg #[.int .i64 u, .int .i64 v, .int .i64 y], .int .i64 0])) ∧ PAt w' B E N kt (cutP kp e (l.take (i + 1))) r g ∧ OnlyT (B (8 + e)) W w' := by
 subst hl hp
 have h1 := cut_there hi
 exact (trem_ok W (B (8 + e)) _ _ h1.1 (hW.tabs e he) h1.2).mono fun _ _ ⟨h2, h3, h4⟩ => ⟨⟨_, _, _, h2⟩, hW.cut1 he hi h4 h3, h4⟩
set_option maxRecDepth 100000 in
theorem plremove {e s : Nat} (he : e < E) (w : World) (h : PAt w B E N kt kp r g) :
  Calls Tryz.prog 155 #[.pointer (some ⟨B 0, 0, none⟩), .agg #[.int .i64 (e : Int), .int .i64 (s : Int)]] w fun x w' => x = .returned (.tuple #[]) ∧ PAt w' B E N kt (clr kp e s 8) r g ∧ Only (Blk B E) w w' := by
 have HK := Lib.hid h
 have HB := Lib.hid (fun W (hW : PAt W B E N kt kp r g) => tby_any W (B (8 + e)) (pteG kp e) (s : Int) (hW.tabs e he))
 obtain ⟨l, hl⟩ : ∃ l, byL (pteG kp e) (s : Int) 8 = l := ⟨_, rfl⟩
 have HR := Lib.hid (fun (i p : Nat) (hi : i < l.length) (hp : l[i] = p) W (hW : PAt W B E N kt (cutP kp e (l.take i)) r g) => cut_call hl he hi hp W hW)
 have HA := Lib.hid (fun W (hW : PAt W B E N kt (cutP kp e l) r g) => PAt.cut_all (s := s) (by rw [hl]; exact hW))
 have hl8 : l.length ≤ 8 := by rw [← hl]; exact byL_le _ _ _
 have HL := Lib.hid hl8
 have H3 := Lib.hid h.eE
 have c0 := h.c0
 have cr := h.row e he
 have l0 := h.lt 0 (by omega)
 have l1 := h.lt 1 (by have := h.eE; omega)
 have q1 : ¬ (e : Int) < 0 := by omega
 have q2 : (e : Int) < (E : Int) := by omega
 have q3 : ¬ (E : Int) ≤ (e : Int) := by omega
 have HEl := Lib.hid he
 unfold ByPost at HB
 rw [hl] at HB
 clear h hl hl8 he
 go_enter Tryz.func155, Tryz.ntmps155
 go_wp2_with fail
 go_quiet (fail)
 go_wp2_with fail
 have B1 := Lib.hid (dn ((Below.refl w.heap.size w).alloc (Nat.le_refl _) (.cells #[.int .i64 (e : Int), .int .i64 (s : Int)] 168)) nq)
 have K1 := Lib.hid (HK.out.later B1.out)
 refine (HB.out _ K1.out).mono ?_
 rintro x w2 ⟨v, rfl, hrow, hb⟩
 have K2 := Lib.hid (K1.out.later hb)
 have O2 := Lib.hid (only_then (S := Blk B E) (Only.below B1.out) (Only.below hb))
 have hbl := by_list hrow
 have hT := K1.out.lt (8 + e) (by have := HEl.out; omega)
 clear hrow hb c0 cr l0 l1
 rcases hbl with ⟨hnil, hv⟩ | ⟨b, cap, hv, hf, hbb⟩
 ·subst hnil
  subst hv
  have KA := Lib.hid (HA.out w2 (K2.out.cut0 e []))
  clear hT HR
  go_wp2_with fail
  go_loopw [20] (fun iv W => iv = .int .i64 0 ∧ W = w2) (fun _ _ => 0)
  case atStart => exact ⟨rfl, rfl⟩
  case round =>
   obtain ⟨rfl, rfl⟩ := hrel
   go_wp2_with fail
   go_end0
   exact ⟨rfl, KA.out, O2.out⟩
 ·subst hv
  have F2 := Lib.hid hf
  have HN : Hid (b ≠ B (8 + e)) := by show b ≠ B (8 + e); omega
  clear hf hbb hT
  go_wp2_with fail
  go_loopw [20] (fun iv W => ∃ i : Nat, iv = .int .i64 i ∧ i ≤ l.length ∧ PAt W B E N kt (cutP kp e (l.take i)) r g ∧ Only (Blk B E) w W ∧ FreesAt W b l) (fun iv _ => (l.length - intOf iv).toNat)
  case atStart => exact ⟨0, rfl, by omega, K2.out.cut0 e l, O2.out, F2.out⟩
  case round =>
   clear K2 O2 F2
   obtain ⟨i, rfl, hil, hk, ho, hf⟩ := hrel
   have HK2 := Lib.hid hk
   have HO2 := Lib.hid ho
   have HF2 := Lib.hid hf
   clear hk ho hf
   by_cases hi : i < l.length
   ·have hl8 := HL.out
    have i0 : (0 : Int) ≤ (i : Int) := by omega
    have i1 : (i : Int) < (l.length : Int) := by omega
    have i2 : ¬ (i : Int) < 0 := by omega
    have i3 : ¬ (l.length : Int) ≤ (i : Int) := by omega
    obtain ⟨p, hp⟩ : ∃ p, l[i] = p := ⟨_, rfl⟩
    have cf := HF2.out.1 i hi
    rw [hp] at cf
    have cl := HF2.out.2
    have HC := Lib.hid (HR.out i p hi hp)
    go_wp2_with fail
    refine (HC.out _ HK2.out).mono ?_
    rintro x w3 ⟨⟨u, v, y, rfl⟩, hk3, ho3⟩
    have K3 := Lib.hid hk3
    have O3 := Lib.hid (only_then HO2.out (only_blk (B := B) (E := E) (show 8 + e < 8 + E by have := HEl.out; omega) ho3))
    have F3 : Hid (FreesAt w3 b l) := by
     have e1 := ho3.block b HF2.out.2 (fun e2 => HN.out (by injection e2))
     exact ⟨fun j hj => (World.cell?_of_block (a := ⟨b, j, none⟩) e1).trans (HF2.out.1 j hj), Nat.lt_of_lt_of_le HF2.out.2 ho3.size⟩
    clear hk3 ho3 cf cl
    go_wp2_with fail
    go_roundw
    case rel => exact ⟨i + 1, by go_num, by omega, K3.out, O3.out, F3.out⟩
    case measure => simp [intOf]; omega
   ·have i3 : ¬ (i : Int) < (l.length : Int) := by omega
    have KA : Hid (PAt wr B E N kt (clr kp e s 8) r g) := HA.out _ (by have h1 := HK2.out; rw [List.take_of_length_le (by omega)] at h1; exact h1)
    go_wp2_with fail
    go_end0
    exact ⟨rfl, KA.out, HO2.out⟩
def lessR (r : Nat → Int) (f i : Nat) (j : Nat) : Int := if j = f then r f - (i : Int) else r j
theorem lessR_step (r : Nat → Int) (f i j : Nat) : lessR r f (i + 1) j = upR (lessR r f i) f (lessR r f i f - 1) j := by
 unfold upR lessR
 by_cases h : j = f
 ·rw [if_pos h, if_pos h, if_pos rfl]
  omega
 ·rw [if_neg h, if_neg h, if_neg h]
theorem lessR_0 (r : Nat → Int) (f j : Nat) : lessR r f 0 j = r j := by
 unfold lessR
 by_cases h : j = f
 ·rw [if_pos h, h]
  simp
 ·rw [if_neg h]
theorem u64_len (n : Nat) (h : n < 1000) : IntKind.u64.wrap (n : Int) = (n : Int) := by
 have : IntKind.u64.wrap (n : Int) = (n : Int) % 18446744073709551616 := by
  simp [IntKind.wrap, IntKind.signed, IntKind.bits]
 omega
structure LoseL (k : KernS) (E N f : Nat) (L : List Nat) : Prop where
 mem : ∀ j, j ∈ L → j / 8 < E
 len : L.length ≤ 32
 fn : 0 < L.length → f < N
 refs : ∀ j : Nat, refsI (goneF k L) j = lessR (refsI k) f L.length j
 pos : 0 < L.length → (L.length : Int) ≤ refsI k f
 most : refsI k f ≤ 7
theorem lose_list (h : KAt w B E N k) {e s : Nat} (he : e < E) (hs : s < 8) (it : Bool) : LoseL k E N (capI (k.sl e s) 0).toNat (tgoneL k (e : Int) (s : Int) it) ∧ Fit (tgoneS k (e : Int) (s : Int) it) := by
 have hm7 : ∀ f : Nat, refsI k f ≤ 7 := fun f => by
  have := h.fit.refs (f : Int)
  unfold refsI
  omega
 have hE := h.lies.eE
 have hin : inB k (e : Int) (s : Int) = true := by
  unfold inB
  exact decide_eq_true ⟨by omega, by rw [h.envs]; omega, by omega, by omega⟩
 cases hi : (k.sl e s).is
 ·have h0 : tgoneE k (e : Int) (s : Int) = 3 := by
   unfold tgoneE
   rw [if_pos hin, Int.toNat_natCast, Int.toNat_natCast, if_neg (by rw [hi]; decide)]
  obtain ⟨e1, e2⟩ := tgone_no (it := it) (k := k) (e := (e : Int)) (s := (s : Int)) (by rw [h0]; decide)
  rw [e1, e2]
  exact ⟨⟨fun j hj => absurd hj (by simp), by simp, fun h => absurd h (by simp), fun j => (lessR_0 _ _ _).symm, fun h => absurd h (by simp), hm7 _⟩, h.fit⟩
 ·have h0 : tgoneE k (e : Int) (s : Int) = 0 := by
   unfold tgoneE
   rw [if_pos hin, Int.toNat_natCast, Int.toNat_natCast, if_pos hi]
  have hL : tgoneL k (e : Int) (s : Int) it = goneL k (e * 8 + s) it := by
   unfold tgoneL
   rw [if_pos h0, Int.toNat_natCast, Int.toNat_natCast]
  have hS : tgoneS k (e : Int) (s : Int) it = goneF k (goneL k (e * 8 + s) it) := by
   unfold tgoneS
   rw [hL]
  obtain ⟨f, hf, hfN, _⟩ := h.fit.lt hs hi
  have hof := h.fit.gone_of hs hi it
  have hnd := goneL_nodup k (e * 8 + s) it
  have hgo := fun j : Nat => refsN_gone (k.sl e s).frame (j : Int) _ k hnd hof
  rw [hL, hS, (capI_yes hi).1, hf, Int.toNat_natCast]
  rw [hf] at hgo hof
  have hcnt := hgo f
  rw [if_pos rfl] at hcnt
  refine ⟨⟨fun j hj => ?_, ?_, fun _ => by have := h.frames; omega, fun j => ?_, fun _ => ?_, hm7 f⟩, h.fit.gone _ it⟩
  ·have h1 := h.fit.tree.lt (hof j hj).2.1
   have := h.envs
   omega
  ·have h1 := pigeon 32 _ hnd (fun x hx => (hof x hx).1)
   exact h1
  ·have h1 := hgo j
   unfold lessR refsI
   by_cases hj : j = f
   ·subst hj
    rw [if_pos rfl] at h1 ⊢
    omega
   ·rw [if_neg (by omega)] at h1
    rw [if_neg hj]
    omega
  ·unfold refsI
   omega
set_option maxRecDepth 100000 in
set_option maxHeartbeats 1000000 in
theorem pllose_revoke {e s : Nat} (he : e < E) (hs : s < 8) (w : World) (h : KAt w B E N k) :
  Calls Tryz.prog 102 #[.pointer (some ⟨B 0, 0, none⟩), .int .i64 (e : Int), .int .i64 (s : Int), .func (.func 98) #[.pointer (some ⟨B 2, 0, none⟩)] #[]] w fun x w' => x = .returned (.tuple #[.int .u64 ((tgoneL k (e : Int) (s : Int) false).length : Nat), .int .i64 (tgoneE k (e : Int) (s : Int))]) ∧ KAt w' B E N (tgoneS k (e : Int) (s : Int) false) ∧ Only (Blk B E) w w' := by
 obtain ⟨hl, hF⟩ := lose_list h he hs false
 have HF := Lib.hid hF
 have HLL := Lib.hid hl
 have HG := Lib.hid (fun W (hW : KAt W B E N k) => crevoke_any (P := B 2) (G := B 3) (e : Int) (s : Int) W hW.lies.tree)
 unfold GonePost at HG
 have hz : tgoneS k (e : Int) (s : Int) false = goneF k (tgoneL k (e : Int) (s : Int) false) := rfl
 rw [hz] at HG HF ⊢
 obtain ⟨x0, hx0⟩ : ∃ x0, capI (k.sl e s) 0 = x0 := ⟨_, rfl⟩
 have hx1 : capI (k.sl e s) 0 = (((capI (k.sl e s) 0).toNat : Nat) : Int) := by
  cases hi : (k.sl e s).is
  ·rw [capI_no hi]; rfl
  ·have := h.fit.own e s hs hi
   rw [(capI_yes hi).1]
   omega
 generalize (capI (k.sl e s) 0).toNat = f at HLL hx1
 rw [hx0] at hx1
 subst hx1
 have HA := Lib.hid (fun W (hW : KAt W B E N k) => pl_at he hs W hW hx0 rfl rfl rfl rfl)
 generalize tgoneL k (e : Int) (s : Int) false = L at HG HF HLL ⊢
 generalize tgoneE k (e : Int) (s : Int) = n at HG ⊢
 generalize capI (k.sl e s) 1 = x1 at HA
 generalize capI (k.sl e s) 2 = x2 at HA
 generalize capI (k.sl e s) 3 = x3 at HA
 generalize (k.sl e s).is = is at HA
 have HK := Lib.hid h
 have HEN := Lib.hid h.envs
 have HFR := Lib.hid h.frames
 have H3 := Lib.hid h.lies.eE
 have c1 := h.lies.c1
 have l0 := h.rowlt.1
 have w0 : IntKind.u64.wrap ((L.length : Nat) : Int) = ((L.length : Nat) : Int) := u64_len _ (by have := HLL.out.len; omega)
 clear h he hs hl hF hx0 hz
 go_enter Tryz.func102, Tryz.ntmps102
 go_wp2_with fail
 refine (HA.out _ HK.out).mono ?_
 rintro x w1 ⟨rfl, hb⟩
 have B1 := Lib.hid (hb.alloc hb.size (.cells #[.int .i64 (f : Int), .int .i64 x1, .int .i64 x2, .int .i64 x3] 58))
 have HAW : Hid (w.heap.size ≤ w1.heap.size) := hb.size
 have Y1 := Lib.hid (heap_alloc_new w1 (.cells #[.int .i64 (f : Int), .int .i64 x1, .int .i64 x2, .int .i64 x3] 58))
 clear hb c1 l0
 go_wp2_with fail
 generalize w1.heap.size = A at Y1 HAW ⊢
 generalize w1.alloc (.cells #[.int .i64 (f : Int), .int .i64 x1, .int .i64 x2, .int .i64 x3] 58) = wq at B1 Y1 ⊢
 have K1 := Lib.hid (HK.out.later B1.out)
 refine (HG.out _ K1.out).mono ?_
 rintro x w2 ⟨v, rfl, hlist, ht, ho⟩
 have P2 := Lib.hid (K1.out.lies.tree_step ho ht)
 have O2 := Lib.hid (only_then (Only.below B1.out) (only_blk (B := B) (E := E) (show 3 < 8 + E by omega) ho))
 have hA0 := bk_lt Y1.out
 have hAB : ∀ i, i < 8 + E → A ≠ B i := fun i hi => by
  have h1 := HK.out.lies.lt i hi
  have h2 := HAW.out
  omega
 have Y2 : Hid (w2.heap[A]? = some (.cells #[.int .i64 (f : Int), .int .i64 x1, .int .i64 x2, .int .i64 x3] 58 (0, 0))) := by
  have h1 := ho.block A hA0 (fun e1 => hAB 3 (by omega) (by injection e1))
  exact h1.trans Y1.out
 obtain ⟨⟨ao, cap, b, rfl, hsl⟩, hnew⟩ := hlist
 have HS2 : Hid (0 < L.length → ao = some ⟨b, 0, none⟩ ∧ b < w2.heap.size ∧ ∀ i x, (placesV L)[i]? = some x → w2.cell? ⟨b, i, none⟩ = some x) := hsl
 have HAB := Lib.hid hAB
 have HN : Hid (0 < L.length → ∀ i, i < 8 + E → b ≠ B i) := fun h0 i hi => by
  obtain ⟨h1, _, _⟩ := hsl h0
  have h2 := hnew b cap (by rw [h1]) h0
  have h3 := K1.out.lies.lt i hi
  omega
 clear hsl hnew ht ho hA0 hAB HK HG HA HAW
 go_wp2_with fail
 go_loopw [35] (fun iv W => ∃ i : Nat, iv = .int .i64 i ∧ i ≤ L.length ∧ PAt W B E N (goneF k L) (goneF k (L.take i)) (lessR (refsI k) f i) (mmG k) ∧ Only (Blk B E) w W ∧ W.heap[A]? = some (.cells #[.int .i64 (f : Int), .int .i64 x1, .int .i64 x2, .int .i64 x3] 58 (0, 0)) ∧ (0 < L.length → ao = some ⟨b, 0, none⟩ ∧ b < W.heap.size ∧ ∀ i x, (placesV L)[i]? = some x → W.cell? ⟨b, i, none⟩ = some x)) (fun iv _ => (L.length - intOf iv).toNat)
 case atStart => exact ⟨0, rfl, by omega, P2.out.congr P2.out.tree.ok rfl (fun _ _ _ _ => rfl) (fun _ _ _ _ => rfl) (fun j _ => lessR_0 _ _ _) (fun _ _ => rfl), O2.out, Y2.out, HS2.out⟩
 case round =>
  clear P2 O2 Y2 HS2 K1 B1 Y1
  obtain ⟨i, rfl, hil, hk, ho, hy, hsl⟩ := hrel
  have KP := Lib.hid hk
  have KO := Lib.hid ho
  have KY := Lib.hid hy
  have KS : Hid (0 < L.length → ao = some ⟨b, 0, none⟩ ∧ b < wr.heap.size ∧ ∀ i x, (placesV L)[i]? = some x → wr.cell? ⟨b, i, none⟩ = some x) := hsl
  clear hk ho hy hsl
  by_cases hi : i < L.length
  ·have h32 := HLL.out.len
   have i0 : (0 : Int) ≤ (i : Int) := by omega
   have i1 : (i : Int) < (L.length : Int) := by omega
   have i2 : ¬ (i : Int) < 0 := by omega
   have i3 : ¬ (L.length : Int) ≤ (i : Int) := by omega
   obtain ⟨hao, hbl, hce⟩ := KS.out (by omega)
   subst hao
   obtain ⟨p0, p1⟩ := placesV_get L i hi
   have z0 := hce _ _ p0
   have z1 := hce _ _ p1
   have hmem := HLL.out.mem L[i] (List.getElem_mem hi)
   have hm8 : L[i] % 8 < 8 := by omega
   have hclr : goneF k (L.take (i + 1)) = clr (goneF k (L.take i)) (L[i] / 8) (L[i] % 8) 8 := by
    rw [goneF_take hi, show L.getD i 0 = L[i] by simp [List.getD, hi]]
   generalize L[i] / 8 = pe at z0 hmem hclr
   generalize L[i] % 8 = ps at z1 hm8 hclr
   have HE := Lib.hid hmem
   have HCL := Lib.hid hclr
   have HI := Lib.hid hi
   clear p0 p1 hce hmem hm8 hclr
   go_wp2_with fail
   have BD := Lib.hid ((Below.refl wr.heap.size wr).alloc (Nat.le_refl _) (.cells #[.int .i64 (pe : Int), .int .i64 (ps : Int)] 168))
   refine (plremove HE.out _ (KP.out.later BD.out)).mono ?_
   rintro x w4 ⟨rfl, hp4, ho4⟩
   have P4 := Lib.hid hp4
   rw [← HCL.out] at P4
   have O4 := Lib.hid (only_then (only_then KO.out (Only.below BD.out)) ho4)
   have hYl := bk_lt KY.out
   have Y4 : Hid (w4.heap[A]? = some (.cells #[.int .i64 (f : Int), .int .i64 x1, .int .i64 x2, .int .i64 x3] 58 (0, 0))) :=
    (ho4.2.2.2.2 A (Nat.lt_of_lt_of_le hYl BD.out.size) (fun ⟨j, hj, h1⟩ => HAB.out j hj h1.symm)).trans (bk_below KY.out BD.out)
   have S4 : Hid (0 < L.length → (some (⟨b, 0, none⟩ : Addr) = some ⟨b, 0, none⟩) ∧ b < w4.heap.size ∧ ∀ i x, (placesV L)[i]? = some x → w4.cell? ⟨b, i, none⟩ = some x) := fun h0 => by
    obtain ⟨_, h1, h2⟩ := KS.out h0
    have e1 := ho4.2.2.2.2 b (Nat.lt_of_lt_of_le h1 BD.out.size) (fun ⟨j, hj, h3⟩ => HN.out h0 j hj h3.symm)
    have e2 := BD.out.block b h1
    exact ⟨rfl, Nat.lt_of_lt_of_le (Nat.lt_of_lt_of_le h1 BD.out.size) ho4.2.2.2.1, fun i x hx => (World.cell?_of_block (a := ⟨b, i, none⟩) (e1.trans e2)).trans (h2 i x hx)⟩
   clear hp4 ho4 hYl z0 z1 hbl
   have c2 := P4.out.c2
   have l0 := P4.out.lt 0 (by omega)
   have d0 := bk_cell Y4.out 0
   have lA := bk_lt Y4.out
   have hf := HLL.out.fn (by omega)
   have hpos := HLL.out.pos (by omega)
   have hmost := HLL.out.most
   have e1 : lessR (refsI k) f i f = refsI k f - (i : Int) := if_pos rfl
   have HLET := Lib.hid (fun W (hW : PoolIs W (B 4) (B 5) N (lessR (refsI k) f i)) => pool_let (B 4) (B 5) N f (lessR (refsI k) f i) P4.out.nN.2 hf (by rw [e1]; omega) (by rw [e1]; omega) W hW)
   have HLS := Lib.hid (fun j => lessR_step (refsI k) f i j)
   generalize lessR (refsI k) f i f - 1 = left at HLET HLS
   clear hf hpos hmost e1
   go_wp2_with fail
   go_still_tail 6, (by kernel_rfl)
   change wpList _ _ _ _ _ w4.drew
   go_wp2_with fail
   have P5 := Lib.hid (P4.out.later (dn (Below.refl _ _) 1))
   refine (HLET.out _ P5.out.pool).mono ?_
   rintro x w6 ⟨rfl, hp, ho⟩
   have P6 := Lib.hid (P5.out.pool_step ho hp)
   have O6 := Lib.hid (only_then (only_then O4.out (Only.below (dn (Below.refl w4.heap.size w4) 1))) (only_blk (B := B) (E := E) (show 5 < 8 + E by omega) ho))
   have Y6 : Hid (w6.heap[A]? = some (.cells #[.int .i64 (f : Int), .int .i64 x1, .int .i64 x2, .int .i64 x3] 58 (0, 0))) := (ho.block A (bk_lt Y4.out) (fun e1 => HAB.out 5 (by omega) (by injection e1))).trans Y4.out
   have S6 : Hid (0 < L.length → (some (⟨b, 0, none⟩ : Addr) = some ⟨b, 0, none⟩) ∧ b < w6.heap.size ∧ ∀ i x, (placesV L)[i]? = some x → w6.cell? ⟨b, i, none⟩ = some x) := fun h0 => by
    obtain ⟨_, h1, h2⟩ := S4.out h0
    have e1 := ho.block b h1 (fun e2 => HN.out h0 5 (by omega) (by injection e2))
    exact ⟨rfl, Nat.lt_of_lt_of_le h1 ho.size, fun i x hx => (World.cell?_of_block (a := ⟨b, i, none⟩) e1).trans (h2 i x hx)⟩
   have P7 := Lib.hid (P6.out.congr (r' := lessR (refsI k) f (i + 1)) P6.out.tree.ok rfl (fun _ _ _ _ => rfl) (fun _ _ _ _ => rfl) (fun j _ => HLS.out j) (fun _ _ => rfl))
   clear hp ho c2 l0 d0 lA
   go_wp2_with fail
   go_roundw
   case rel => exact ⟨i + 1, by go_num, by omega, P7.out, O6.out, Y6.out, S6.out⟩
   case measure => simp [intOf]; omega
  ·have h32 := HLL.out.len
   have i3 : ¬ (i : Int) < (L.length : Int) := by omega
   have hiL : i = L.length := by omega
   have KZ : Hid (PAt wr B E N (goneF k L) (goneF k L) (lessR (refsI k) f L.length) (mmG k)) := by
    have h1 := KP.out
    rw [hiL, List.take_length] at h1
    exact h1
   clear hiL
   go_wp2_with fail
   go_ret2
   exact ⟨rfl, KAt.of HF.out ((goneF_sizes L k).1.trans HEN.out) ((goneF_sizes L k).2.trans HFR.out) KZ.out (fun _ _ _ _ => rfl) (fun _ _ _ _ => rfl) (fun j _ => HLL.out.refs j) (fun j _ => by unfold mmG; rw [goneF_mm]), KO.out⟩
set_option maxRecDepth 100000 in
set_option maxHeartbeats 1000000 in
theorem pllose_drop {e s : Nat} (he : e < E) (hs : s < 8) (w : World) (h : KAt w B E N k) :
  Calls Tryz.prog 102 #[.pointer (some ⟨B 0, 0, none⟩), .int .i64 (e : Int), .int .i64 (s : Int), .func (.func 101) #[.pointer (some ⟨B 2, 0, none⟩)] #[]] w fun x w' => x = .returned (.tuple #[.int .u64 ((tgoneL k (e : Int) (s : Int) true).length : Nat), .int .i64 (tgoneE k (e : Int) (s : Int))]) ∧ KAt w' B E N (tgoneS k (e : Int) (s : Int) true) ∧ Only (Blk B E) w w' := by
 obtain ⟨hl, hF⟩ := lose_list h he hs true
 have HF := Lib.hid hF
 have HLL := Lib.hid hl
 have HG := Lib.hid (fun W (hW : KAt W B E N k) => cdrop_any (P := B 2) (G := B 3) (e : Int) (s : Int) W hW.lies.tree)
 unfold GonePost at HG
 have hz : tgoneS k (e : Int) (s : Int) true = goneF k (tgoneL k (e : Int) (s : Int) true) := rfl
 rw [hz] at HG HF ⊢
 obtain ⟨x0, hx0⟩ : ∃ x0, capI (k.sl e s) 0 = x0 := ⟨_, rfl⟩
 have hx1 : capI (k.sl e s) 0 = (((capI (k.sl e s) 0).toNat : Nat) : Int) := by
  cases hi : (k.sl e s).is
  ·rw [capI_no hi]; rfl
  ·have := h.fit.own e s hs hi
   rw [(capI_yes hi).1]
   omega
 generalize (capI (k.sl e s) 0).toNat = f at HLL hx1
 rw [hx0] at hx1
 subst hx1
 have HA := Lib.hid (fun W (hW : KAt W B E N k) => pl_at he hs W hW hx0 rfl rfl rfl rfl)
 generalize tgoneL k (e : Int) (s : Int) true = L at HG HF HLL ⊢
 generalize tgoneE k (e : Int) (s : Int) = n at HG ⊢
 generalize capI (k.sl e s) 1 = x1 at HA
 generalize capI (k.sl e s) 2 = x2 at HA
 generalize capI (k.sl e s) 3 = x3 at HA
 generalize (k.sl e s).is = is at HA
 have HK := Lib.hid h
 have HEN := Lib.hid h.envs
 have HFR := Lib.hid h.frames
 have H3 := Lib.hid h.lies.eE
 have c1 := h.lies.c1
 have l0 := h.rowlt.1
 have w0 : IntKind.u64.wrap ((L.length : Nat) : Int) = ((L.length : Nat) : Int) := u64_len _ (by have := HLL.out.len; omega)
 clear h he hs hl hF hx0 hz
 go_enter Tryz.func102, Tryz.ntmps102
 go_wp2_with fail
 refine (HA.out _ HK.out).mono ?_
 rintro x w1 ⟨rfl, hb⟩
 have B1 := Lib.hid (hb.alloc hb.size (.cells #[.int .i64 (f : Int), .int .i64 x1, .int .i64 x2, .int .i64 x3] 58))
 have HAW : Hid (w.heap.size ≤ w1.heap.size) := hb.size
 have Y1 := Lib.hid (heap_alloc_new w1 (.cells #[.int .i64 (f : Int), .int .i64 x1, .int .i64 x2, .int .i64 x3] 58))
 clear hb c1 l0
 go_wp2_with fail
 generalize w1.heap.size = A at Y1 HAW ⊢
 generalize w1.alloc (.cells #[.int .i64 (f : Int), .int .i64 x1, .int .i64 x2, .int .i64 x3] 58) = wq at B1 Y1 ⊢
 have K1 := Lib.hid (HK.out.later B1.out)
 refine (HG.out _ K1.out).mono ?_
 rintro x w2 ⟨v, rfl, hlist, ht, ho⟩
 have P2 := Lib.hid (K1.out.lies.tree_step ho ht)
 have O2 := Lib.hid (only_then (Only.below B1.out) (only_blk (B := B) (E := E) (show 3 < 8 + E by omega) ho))
 have hA0 := bk_lt Y1.out
 have hAB : ∀ i, i < 8 + E → A ≠ B i := fun i hi => by
  have h1 := HK.out.lies.lt i hi
  have h2 := HAW.out
  omega
 have Y2 : Hid (w2.heap[A]? = some (.cells #[.int .i64 (f : Int), .int .i64 x1, .int .i64 x2, .int .i64 x3] 58 (0, 0))) := by
  have h1 := ho.block A hA0 (fun e1 => hAB 3 (by omega) (by injection e1))
  exact h1.trans Y1.out
 obtain ⟨⟨ao, cap, b, rfl, hsl⟩, hnew⟩ := hlist
 have HS2 : Hid (0 < L.length → ao = some ⟨b, 0, none⟩ ∧ b < w2.heap.size ∧ ∀ i x, (placesV L)[i]? = some x → w2.cell? ⟨b, i, none⟩ = some x) := hsl
 have HAB := Lib.hid hAB
 have HN : Hid (0 < L.length → ∀ i, i < 8 + E → b ≠ B i) := fun h0 i hi => by
  obtain ⟨h1, _, _⟩ := hsl h0
  have h2 := hnew b cap (by rw [h1]) h0
  have h3 := K1.out.lies.lt i hi
  omega
 clear hsl hnew ht ho hA0 hAB HK HG HA HAW
 go_wp2_with fail
 go_loopw [35] (fun iv W => ∃ i : Nat, iv = .int .i64 i ∧ i ≤ L.length ∧ PAt W B E N (goneF k L) (goneF k (L.take i)) (lessR (refsI k) f i) (mmG k) ∧ Only (Blk B E) w W ∧ W.heap[A]? = some (.cells #[.int .i64 (f : Int), .int .i64 x1, .int .i64 x2, .int .i64 x3] 58 (0, 0)) ∧ (0 < L.length → ao = some ⟨b, 0, none⟩ ∧ b < W.heap.size ∧ ∀ i x, (placesV L)[i]? = some x → W.cell? ⟨b, i, none⟩ = some x)) (fun iv _ => (L.length - intOf iv).toNat)
 case atStart => exact ⟨0, rfl, by omega, P2.out.congr P2.out.tree.ok rfl (fun _ _ _ _ => rfl) (fun _ _ _ _ => rfl) (fun j _ => lessR_0 _ _ _) (fun _ _ => rfl), O2.out, Y2.out, HS2.out⟩
 case round =>
  clear P2 O2 Y2 HS2 K1 B1 Y1
  obtain ⟨i, rfl, hil, hk, ho, hy, hsl⟩ := hrel
  have KP := Lib.hid hk
  have KO := Lib.hid ho
  have KY := Lib.hid hy
  have KS : Hid (0 < L.length → ao = some ⟨b, 0, none⟩ ∧ b < wr.heap.size ∧ ∀ i x, (placesV L)[i]? = some x → wr.cell? ⟨b, i, none⟩ = some x) := hsl
  clear hk ho hy hsl
  by_cases hi : i < L.length
  ·have h32 := HLL.out.len
   have i0 : (0 : Int) ≤ (i : Int) := by omega
   have i1 : (i : Int) < (L.length : Int) := by omega
   have i2 : ¬ (i : Int) < 0 := by omega
   have i3 : ¬ (L.length : Int) ≤ (i : Int) := by omega
   obtain ⟨hao, hbl, hce⟩ := KS.out (by omega)
   subst hao
   obtain ⟨p0, p1⟩ := placesV_get L i hi
   have z0 := hce _ _ p0
   have z1 := hce _ _ p1
   have hmem := HLL.out.mem L[i] (List.getElem_mem hi)
   have hm8 : L[i] % 8 < 8 := by omega
   have hclr : goneF k (L.take (i + 1)) = clr (goneF k (L.take i)) (L[i] / 8) (L[i] % 8) 8 := by
    rw [goneF_take hi, show L.getD i 0 = L[i] by simp [List.getD, hi]]
   generalize L[i] / 8 = pe at z0 hmem hclr
   generalize L[i] % 8 = ps at z1 hm8 hclr
   have HE := Lib.hid hmem
   have HCL := Lib.hid hclr
   have HI := Lib.hid hi
   clear p0 p1 hce hmem hm8 hclr
   go_wp2_with fail
   have BD := Lib.hid ((Below.refl wr.heap.size wr).alloc (Nat.le_refl _) (.cells #[.int .i64 (pe : Int), .int .i64 (ps : Int)] 168))
   refine (plremove HE.out _ (KP.out.later BD.out)).mono ?_
   rintro x w4 ⟨rfl, hp4, ho4⟩
   have P4 := Lib.hid hp4
   rw [← HCL.out] at P4
   have O4 := Lib.hid (only_then (only_then KO.out (Only.below BD.out)) ho4)
   have hYl := bk_lt KY.out
   have Y4 : Hid (w4.heap[A]? = some (.cells #[.int .i64 (f : Int), .int .i64 x1, .int .i64 x2, .int .i64 x3] 58 (0, 0))) :=
    (ho4.2.2.2.2 A (Nat.lt_of_lt_of_le hYl BD.out.size) (fun ⟨j, hj, h1⟩ => HAB.out j hj h1.symm)).trans (bk_below KY.out BD.out)
   have S4 : Hid (0 < L.length → (some (⟨b, 0, none⟩ : Addr) = some ⟨b, 0, none⟩) ∧ b < w4.heap.size ∧ ∀ i x, (placesV L)[i]? = some x → w4.cell? ⟨b, i, none⟩ = some x) := fun h0 => by
    obtain ⟨_, h1, h2⟩ := KS.out h0
    have e1 := ho4.2.2.2.2 b (Nat.lt_of_lt_of_le h1 BD.out.size) (fun ⟨j, hj, h3⟩ => HN.out h0 j hj h3.symm)
    have e2 := BD.out.block b h1
    exact ⟨rfl, Nat.lt_of_lt_of_le (Nat.lt_of_lt_of_le h1 BD.out.size) ho4.2.2.2.1, fun i x hx => (World.cell?_of_block (a := ⟨b, i, none⟩) (e1.trans e2)).trans (h2 i x hx)⟩
   clear hp4 ho4 hYl z0 z1 hbl
   have c2 := P4.out.c2
   have l0 := P4.out.lt 0 (by omega)
   have d0 := bk_cell Y4.out 0
   have lA := bk_lt Y4.out
   have hf := HLL.out.fn (by omega)
   have hpos := HLL.out.pos (by omega)
   have hmost := HLL.out.most
   have e1 : lessR (refsI k) f i f = refsI k f - (i : Int) := if_pos rfl
   have HLET := Lib.hid (fun W (hW : PoolIs W (B 4) (B 5) N (lessR (refsI k) f i)) => pool_let (B 4) (B 5) N f (lessR (refsI k) f i) P4.out.nN.2 hf (by rw [e1]; omega) (by rw [e1]; omega) W hW)
   have HLS := Lib.hid (fun j => lessR_step (refsI k) f i j)
   generalize lessR (refsI k) f i f - 1 = left at HLET HLS
   clear hf hpos hmost e1
   go_wp2_with fail
   go_still_tail 6, (by kernel_rfl)
   change wpList _ _ _ _ _ w4.drew
   go_wp2_with fail
   have P5 := Lib.hid (P4.out.later (dn (Below.refl _ _) 1))
   refine (HLET.out _ P5.out.pool).mono ?_
   rintro x w6 ⟨rfl, hp, ho⟩
   have P6 := Lib.hid (P5.out.pool_step ho hp)
   have O6 := Lib.hid (only_then (only_then O4.out (Only.below (dn (Below.refl w4.heap.size w4) 1))) (only_blk (B := B) (E := E) (show 5 < 8 + E by omega) ho))
   have Y6 : Hid (w6.heap[A]? = some (.cells #[.int .i64 (f : Int), .int .i64 x1, .int .i64 x2, .int .i64 x3] 58 (0, 0))) := (ho.block A (bk_lt Y4.out) (fun e1 => HAB.out 5 (by omega) (by injection e1))).trans Y4.out
   have S6 : Hid (0 < L.length → (some (⟨b, 0, none⟩ : Addr) = some ⟨b, 0, none⟩) ∧ b < w6.heap.size ∧ ∀ i x, (placesV L)[i]? = some x → w6.cell? ⟨b, i, none⟩ = some x) := fun h0 => by
    obtain ⟨_, h1, h2⟩ := S4.out h0
    have e1 := ho.block b h1 (fun e2 => HN.out h0 5 (by omega) (by injection e2))
    exact ⟨rfl, Nat.lt_of_lt_of_le h1 ho.size, fun i x hx => (World.cell?_of_block (a := ⟨b, i, none⟩) e1).trans (h2 i x hx)⟩
   have P7 := Lib.hid (P6.out.congr (r' := lessR (refsI k) f (i + 1)) P6.out.tree.ok rfl (fun _ _ _ _ => rfl) (fun _ _ _ _ => rfl) (fun j _ => HLS.out j) (fun _ _ => rfl))
   clear hp ho c2 l0 d0 lA
   go_wp2_with fail
   go_roundw
   case rel => exact ⟨i + 1, by go_num, by omega, P7.out, O6.out, Y6.out, S6.out⟩
   case measure => simp [intOf]; omega
  ·have h32 := HLL.out.len
   have i3 : ¬ (i : Int) < (L.length : Int) := by omega
   have hiL : i = L.length := by omega
   have KZ : Hid (PAt wr B E N (goneF k L) (goneF k L) (lessR (refsI k) f L.length) (mmG k)) := by
    have h1 := KP.out
    rw [hiL, List.take_length] at h1
    exact h1
   clear hiL
   go_wp2_with fail
   go_ret2
   exact ⟨rfl, KAt.of HF.out ((goneF_sizes L k).1.trans HEN.out) ((goneF_sizes L k).2.trans HFR.out) KZ.out (fun _ _ _ _ => rfl) (fun _ _ _ _ => rfl) (fun j _ => HLL.out.refs j) (fun j _ => by unfold mmG; rw [goneF_mm]), KO.out⟩
end
end Go.Proofs.YtdfhfmdelinemaaGreatDoor
