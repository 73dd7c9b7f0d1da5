/- What is proved here: package user keeps its chapter (UserC): Do, and all of it together. Conditions: none. -/
import Derived.Test.YtdfhfmdelinemaaGreatDoorUserO
import Derived.Deep.RegionLaw
namespace Go.Proofs.YtdfhfmdelinemaaGreatDoor
open Go.RowKit Go.Extern.Stop Go.Stop Go.Extern Go.WalkArith
theorem only_wide {S S' : Nat → Prop} {w w' : World} (h : Only S w w') (hs : ∀ i, S i → S' i) : Only S' w w' := ⟨h.1, h.2.1, h.2.2.1, h.2.2.2.1, fun i hi hn => h.2.2.2.2 i hi fun h => hn (hs i h)⟩
abbrev clO (x0 x1 x2 x3 x4 : Int) : Obj := .cells #[.int .u64 x0, .int .u64 x1, .int .u64 x2, .int .u64 x3, .int .u64 x4] 36
abbrev anO (e v : Int) : Obj := .cells #[.int .i64 e, .int .u64 v] 41
def Box3 (w : World) (C : Nat) (o1 o2 o3 : Obj) : Prop := w.heap[C]? = some o1 ∧ w.heap[C + 1]? = some o2 ∧ w.heap[C + 2]? = some o3
theorem Box3.later {w w' : World} {C : Nat} {o1 o2 o3 : Obj} (h : Box3 w C o1 o2 o3) (hb : Below w.heap.size w w') : Box3 w' C o1 o2 o3 := ⟨bk_below h.1 hb, bk_below h.2.1 hb, bk_below h.2.2 hb⟩
theorem Box3.keep {w w' : World} {C T : Nat} {o1 o2 o3 : Obj} (h : Box3 w C o1 o2 o3) (ho : OnlyT T w w') (hT : T < C) : Box3 w' C o1 o2 o3 := ⟨onlyT_keep ho h.1 (by omega), onlyT_keep ho h.2.1 (by omega), onlyT_keep ho h.2.2 (by omega)⟩
theorem Box3.keepF {w w' : World} {C F : Nat} {o1 o2 o3 : Obj} (h : Box3 w C o1 o2 o3) (ho : Only (fun i => i = F) w w') (hF : F < C) : Box3 w' C o1 o2 o3 :=
 ⟨(ho.2.2.2.2 _ (bk_lt h.1) (by omega)).trans h.1, (ho.2.2.2.2 _ (bk_lt h.2.1) (by omega)).trans h.2.1, (ho.2.2.2.2 _ (bk_lt h.2.2) (by omega)).trans h.2.2⟩
section
variable {W : World} {A L : Nat} {tA tL : TypeId} {u0 u1 y0 y1 y2 y3 : Value}
theorem both_at (hA : W.heap[A]? = some (.cells #[u0, u1] tA (0, 0))) (hL : W.heap[L]? = some (.cells #[y0, y1, y2, y3] tL (0, 0))) (hne : A ≠ L) (a0 a1 v0 v1 v2 v3 : Value) :
  ((((((W.setCell ⟨A, 0, none⟩ a0).setCell ⟨A, 1, none⟩ a1).setCell ⟨L, 0, none⟩ v0).setCell ⟨L, 1, none⟩ v1).setCell ⟨L, 2, none⟩ v2).setCell ⟨L, 3, none⟩ v3).heap[A]? = some (.cells #[a0, a1] tA (0, 0)) ∧ ((((((W.setCell ⟨A, 0, none⟩ a0).setCell ⟨A, 1, none⟩ a1).setCell ⟨L, 0, none⟩ v0).setCell ⟨L, 1, none⟩ v1).setCell ⟨L, 2, none⟩ v2).setCell ⟨L, 3, none⟩ v3).heap[L]? = some (.cells #[v0, v1, v2, v3] tL (0, 0)) := by
 have hf : ∀ (V : World) (i : Nat) (u : Value), (V.setCell ⟨L, i, none⟩ u).heap[A]? = V.heap[A]? := fun V i u => Below.heap_setCell V ⟨L, i, none⟩ u A hne
 have hg : ∀ (V : World) (i : Nat) (u : Value), (V.setCell ⟨A, i, none⟩ u).heap[L]? = V.heap[L]? := fun V i u => Below.heap_setCell V ⟨A, i, none⟩ u L (fun e => hne e.symm)
 refine ⟨?_, four_at (u0 := y0) (u1 := y1) (u2 := y2) (u3 := y3) ?_ v0 v1 v2 v3⟩
 ·rw [hf, hf, hf, hf]
  exact set_block (set_block hA 0 a0) 1 a1
 ·rw [hg, hg]
  exact hL
end
structure SameLow (b : Nat) (W V : World) : Prop where
 os : V.os = W.os
 tape : V.tape = W.tape
 output : V.output = W.output
 size : W.heap.size ≤ V.heap.size
 block : ∀ k, k < b → V.heap[k]? = W.heap[k]?
theorem SameLow.set {b k i : Nat} {W V : World} {u : Value} (h : SameLow b W V) (hb : b ≤ k) : SameLow b W (V.setCell ⟨k, i, none⟩ u) :=
 ⟨h.os, h.tape, h.output, by simpa using h.size, fun j hj => (Below.heap_setCell V ⟨k, i, none⟩ u j (fun e => by have e : j = k := e; omega)).trans (h.block j hj)⟩
theorem same_both {b A L : Nat} {W : World} (hA : b ≤ A) (hL : b ≤ L) (a0 a1 v0 v1 v2 v3 : Value) : SameLow b W ((((((W.setCell ⟨A, 0, none⟩ a0).setCell ⟨A, 1, none⟩ a1).setCell ⟨L, 0, none⟩ v0).setCell ⟨L, 1, none⟩ v1).setCell ⟨L, 2, none⟩ v2).setCell ⟨L, 3, none⟩ v3) :=
 have h0 : SameLow b W W := ⟨rfl, rfl, rfl, Nat.le_refl _, fun _ _ => rfl⟩
 (((((h0.set hA).set hA).set hL).set hL).set hL).set hL
theorem SameLow.alloc {b : Nat} {W V : World} (h : SameLow b W V) (hb : b ≤ W.heap.size) (o : Obj) : SameLow b W (V.alloc o) :=
 ⟨h.os, h.tape, h.output, by have := h.size; simp; omega, fun k hk => (Below.heap_alloc V o k (by have := h.size; omega)).trans (h.block k hk)⟩
theorem SameLow.nums {b n T : Nat} {W V : World} {g : Nat → Int} (h : SameLow b W V) (hn : NumsIs n W T g) (hT : T < b) : NumsIs n V T g :=
 ⟨fun j hj => (World.cell?_of_block (a := ⟨T, j, none⟩) (h.block T hT)).trans (hn.1 j hj), fun j => (World.frozen?_of_block (a := ⟨T, j, none⟩) (h.block T hT)).trans (hn.2.1 j), Nat.lt_of_lt_of_le hn.2.2 h.size⟩
theorem SameLow.mem {b n M F : Nat} {W V : World} {g : Nat → Int} (h : SameLow b W V) (hm : MemIs W M F n g) (hM : M < b) (hF : F < b) : MemIs V M F n g :=
 ⟨hm.1, (World.cell?_of_block (a := ⟨M, 0, none⟩) (h.block M hM)).trans hm.2.1, fun j hj => (World.cell?_of_block (a := ⟨F, j, none⟩) (h.block F hF)).trans (hm.2.2.1 j hj), fun j => (World.frozen?_of_block (a := ⟨F, j, none⟩) (h.block F hF)).trans (hm.2.2.2.1 j), Nat.lt_of_lt_of_le hm.2.2.2.2.1 h.size, Nat.lt_of_lt_of_le hm.2.2.2.2.2 h.size⟩
theorem SameLow.only {S : Nat → Prop} {w W V : World} (h : SameLow w.heap.size W V) (ho : Only S w W) : Only S w V :=
 ⟨h.os.trans ho.1, h.tape.trans ho.2.1, h.output.trans ho.2.2.1, Nat.le_trans ho.2.2.2.1 h.size, fun i hi hn => (h.block i hi).trans (ho.2.2.2.2 i hi hn)⟩
theorem mem_keepT {W V : World} {M F n T : Nat} {g : Nat → Int} (h : MemIs W M F n g) (ho : OnlyT T W V) (h1 : T ≠ M) (h2 : T ≠ F) : MemIs V M F n g := by
 have bM := ho.block M h.2.2.2.2.1 (fun e => h1 (by injection e with e; exact e.symm))
 have bF := ho.block F h.2.2.2.2.2 (fun e => h2 (by injection e with e; exact e.symm))
 exact ⟨h.1, (World.cell?_of_block (a := ⟨M, 0, none⟩) bM).trans h.2.1, fun j hj => (World.cell?_of_block (a := ⟨F, j, none⟩) bF).trans (h.2.2.1 j hj), fun j => (World.frozen?_of_block (a := ⟨F, j, none⟩) bF).trans (h.2.2.2.1 j), Nat.lt_of_lt_of_le h.2.2.2.2.1 ho.size, Nat.lt_of_lt_of_le h.2.2.2.2.2 ho.size⟩
structure AtWalk (w W : World) (T M F n : Nat) (g' mg : Nat → Int) (x0 x1 x2 x3 x4 : Int) : Prop where
 nums : NumsIs 41 W T g'
 mem : MemIs W M F n mg
 only : OnlyT T w W
 box : Box3 W w.heap.size (clO x0 x1 x2 x3 x4) (anO 0 0) (lnO 0 0 0 0)
 lt : T < w.heap.size ∧ M < w.heap.size ∧ F < w.heap.size ∧ T ≠ F ∧ T ≠ M
set_option maxRecDepth 100000 in
set_option maxHeartbeats 4000000 in
theorem udo_no (T U M F n a p : Nat) (g g' mg : Nat → Int) (env x0 x3 x4 l0 l1 l2 l3 : Int) (w : World) (ht : NumsIs 41 w T g) (hm : MemIs w M F n mg) (hTF : T ≠ F) (hTM : T ≠ M) (hx : wordsIn x0 p a x3 x4) (hk : x0 = 20 ∨ x0 = 21 ∨ x0 = 22 ∨ x0 = 23) (hp8 : p < 8) (hd : doE env x0 p a x3 x4 = 0)
  (hw : ∀ W, Below w.heap.size w W → Calls Tryz.prog 87 #[.pointer (some ⟨T, 0, none⟩), .pointer (some ⟨U, 0, none⟩), .int .i64 env, .int .i64 (p : Int), .int .i64 x0] W fun x w' => x = .returned (.tuple #[lineV (l0, l1, l2, l3), .bool false]) ∧ NumsIs 41 w' T g' ∧ OnlyT T W w') :
  Calls Tryz.prog 35 #[.pointer (some ⟨T, 0, none⟩), .pointer (some ⟨U, 0, none⟩), .pointer (some ⟨M, 0, none⟩), .int .i64 env, callV x0 p a x3 x4] w fun x w' =>
   x = .returned (.tuple #[.agg #[.int .i64 7, .int .u64 0], lineV (0, 0, 0, 0)]) ∧ NumsIs 41 w' T g' ∧ MemIs w' M F n mg ∧ Only (fun i => i = T ∨ i = F) w w' := by
 have HC := Lib.hid (fun W => ucheck_any env x0 p a x3 x4 hx W)
 rw [hd] at HC
 have hi : isKind x0 = true := decide_eq_true (by omega)
 have HK := Lib.hid (fun W => Kind_yes x0 p a x3 x4 hi W)
 have HA := Lib.hid (fun W => uarg_1 x0 a x3 x4 p hp8 hx W)
 have HW := Lib.hid hw
 have HM := Lib.hid hm
 have HL := Lib.hid (And.intro ht.2.2 (And.intro hm.2.2.2.2.1 (And.intro hm.2.2.2.2.2 (And.intro hTF hTM))))
 clear hd hi hw hm ht hTF hTM hx hk hp8
 go_enter Tryz.func35, Tryz.ntmps35
 go_wp2_with fail
 refine (HC.out _).mono ?_
 rintro x w1 ⟨rfl, hb⟩
 have B1 := Lib.hid (bl_box3 hb)
 have K1 : Hid (Box3 w1 w.heap.size (clO x0 p a x3 x4) (anO 0 0) (lnO 0 0 0 0)) := bk_box3 hb
 clear hb
 have b0 := bk_cell K1.out.1 0
 have b1 := bk_cell K1.out.1 1
 have b2 := bk_cell K1.out.1 2
 have b3 := bk_cell K1.out.1 3
 have b4 := bk_cell K1.out.1 4
 have lb := bk_lt K1.out.1
 go_wp2_with fail
 refine (HK.out _).mono ?_
 rintro x w2 ⟨rfl, hb⟩
 have B2 := Lib.hid (bl_trans B1.out hb)
 have K2 := Lib.hid (K1.out.later hb)
 clear hb b0 b1 b2 b3 b4 lb K1 B1
 have b0 := bk_cell K2.out.1 0
 have b1 := bk_cell K2.out.1 1
 have b2 := bk_cell K2.out.1 2
 have b3 := bk_cell K2.out.1 3
 have b4 := bk_cell K2.out.1 4
 have lb := bk_lt K2.out.1
 go_wp2_with fail
 refine (HA.out _).mono ?_
 rintro x w3 ⟨rfl, hb⟩
 have B3 := Lib.hid (bl_trans B2.out hb)
 have K3 := Lib.hid (K2.out.later hb)
 clear hb b0 b1 b2 b3 b4 lb K2 B2
 go_wp2_with fail
 refine (HW.out _ B3.out).mono ?_
 rintro x w4 ⟨rfl, hn, ho⟩
 have HV : Hid (AtWalk w w4 T M F n g' mg x0 p a x3 x4) := ⟨hn, mem_keepT (HM.out.later B3.out) ho HL.out.2.2.2.2 HL.out.2.2.2.1, onlyT_from B3.out ho, K3.out.keep ho HL.out.1, HL.out⟩
 clear hn ho K3 B3 HM HL
 have c0 := bk_free HV.out.box.2.1 0
 have c1 := bk_free HV.out.box.2.1 1
 have d0 := bk_free HV.out.box.2.2 0
 have d1 := bk_free HV.out.box.2.2 1
 have d2 := bk_free HV.out.box.2.2 2
 have d3 := bk_free HV.out.box.2.2 3
 have a0 := bk_cell HV.out.box.2.1 0
 have a1 := bk_cell HV.out.box.2.1 1
 have e0 := bk_cell HV.out.box.2.2 0
 have e1 := bk_cell HV.out.box.2.2 1
 have e2 := bk_cell HV.out.box.2.2 2
 have e3 := bk_cell HV.out.box.2.2 3
 have la := bk_lt HV.out.box.2.1
 have ll := bk_lt HV.out.box.2.2
 go_wp2_with fail
 have hz := both_at HV.out.box.2.1 HV.out.box.2.2 (by omega) (.int .i64 7) (.int .u64 0) (.int .i64 0) (.int .i64 0) (.int .i64 0) (.int .i64 0)
 have r0 := fun i => bk_cell ((Below.heap_alloc _ (lnO l0 l1 l2 l3) _ (bk_lt hz.1)).trans hz.1) i
 have r1 := fun i => bk_cell ((Below.heap_alloc _ (lnO l0 l1 l2 l3) _ (bk_lt hz.2)).trans hz.2) i
 have hs := (same_both (b := w.heap.size) (W := w4) (A := w.heap.size + 1) (L := w.heap.size + 2) (by omega) (by omega) (.int .i64 7) (.int .u64 0) (.int .i64 0) (.int .i64 0) (.int .i64 0) (.int .i64 0)).alloc HV.out.only.size (lnO l0 l1 l2 l3)
 refine bodyPost_ret (v := .tuple #[.agg #[.int .i64 7, .int .u64 0], lineV (0, 0, 0, 0)]) (by simp [results, Tryz.results35, go_sem, r0, r1]) rfl ⟨rfl, hs.nums HV.out.nums HV.out.lt.1, hs.mem HV.out.mem HV.out.lt.2.1 HV.out.lt.2.2.1, hs.only (only_wide (only_T HV.out.only) fun i hi => Or.inl hi)⟩
set_option maxRecDepth 100000 in
set_option maxHeartbeats 4000000 in
theorem udo_yes (T U M F n a p : Nat) (g g' mg : Nat → Int) (env x0 x3 x4 l0 l1 l2 l3 : Int) (w : World) (ht : NumsIs 41 w T g) (hm : MemIs w M F n mg) (hTF : T ≠ F) (hTM : T ≠ M) (hn : n ≤ 16) (ha : a < 16) (hx : wordsIn x0 p a x3 x4) (hk : x0 = 20 ∨ x0 = 21 ∨ x0 = 22 ∨ x0 = 23) (hp8 : p < 8) (hd : doE env x0 p a x3 x4 = 0)
  (hw : ∀ W, Below w.heap.size w W → Calls Tryz.prog 87 #[.pointer (some ⟨T, 0, none⟩), .pointer (some ⟨U, 0, none⟩), .int .i64 env, .int .i64 (p : Int), .int .i64 x0] W fun x w' => x = .returned (.tuple #[lineV (l0, l1, l2, l3), .bool true]) ∧ NumsIs 41 w' T g' ∧ OnlyT T W w') :
  Calls Tryz.prog 35 #[.pointer (some ⟨T, 0, none⟩), .pointer (some ⟨U, 0, none⟩), .pointer (some ⟨M, 0, none⟩), .int .i64 env, callV x0 p a x3 x4] w fun x w' =>
   x = .returned (.tuple #[.agg #[.int .i64 0, .int .u64 (memV mg n l2 a x0)], lineV (l0, l1, l2, l3)]) ∧ NumsIs 41 w' T g' ∧ MemIs w' M F n (memS mg n l2 a x0 x3 x4) ∧ Only (fun i => i = T ∨ i = F) w w' := by
 have HC := Lib.hid (fun W => ucheck_any env x0 p a x3 x4 hx W)
 rw [hd] at HC
 have hi : isKind x0 = true := decide_eq_true (by omega)
 have HK := Lib.hid (fun W => Kind_yes x0 p a x3 x4 hi W)
 have HA := Lib.hid (fun W => uarg_1 x0 a x3 x4 p hp8 hx W)
 have HW := Lib.hid hw
 have HT := Lib.hid (fun W (hW : MemIs W M F n mg) => utouch_any (f := l2) hn ha x0 p x3 x4 hk hx W hW)
 have HM := Lib.hid hm
 have HL := Lib.hid (And.intro ht.2.2 (And.intro hm.2.2.2.2.1 (And.intro hm.2.2.2.2.2 (And.intro hTF hTM))))
 clear hd hi hw hm ht hTF hTM hx hk hp8 hn ha
 go_enter Tryz.func35, Tryz.ntmps35
 go_wp2_with fail
 refine (HC.out _).mono ?_
 rintro x w1 ⟨rfl, hb⟩
 have B1 := Lib.hid (bl_box3 hb)
 have K1 : Hid (Box3 w1 w.heap.size (clO x0 p a x3 x4) (anO 0 0) (lnO 0 0 0 0)) := bk_box3 hb
 clear hb
 have b0 := bk_cell K1.out.1 0
 have b1 := bk_cell K1.out.1 1
 have b2 := bk_cell K1.out.1 2
 have b3 := bk_cell K1.out.1 3
 have b4 := bk_cell K1.out.1 4
 have lb := bk_lt K1.out.1
 go_wp2_with fail
 refine (HK.out _).mono ?_
 rintro x w2 ⟨rfl, hb⟩
 have B2 := Lib.hid (bl_trans B1.out hb)
 have K2 := Lib.hid (K1.out.later hb)
 clear hb b0 b1 b2 b3 b4 lb K1 B1
 have b0 := bk_cell K2.out.1 0
 have b1 := bk_cell K2.out.1 1
 have b2 := bk_cell K2.out.1 2
 have b3 := bk_cell K2.out.1 3
 have b4 := bk_cell K2.out.1 4
 have lb := bk_lt K2.out.1
 go_wp2_with fail
 refine (HA.out _).mono ?_
 rintro x w3 ⟨rfl, hb⟩
 have B3 := Lib.hid (bl_trans B2.out hb)
 have K3 := Lib.hid (K2.out.later hb)
 clear hb b0 b1 b2 b3 b4 lb K2 B2
 go_wp2_with fail
 refine (HW.out _ B3.out).mono ?_
 rintro x w4 ⟨rfl, hn, ho⟩
 have HV : Hid (AtWalk w w4 T M F n g' mg x0 p a x3 x4) := ⟨hn, mem_keepT (HM.out.later B3.out) ho HL.out.2.2.2.2 HL.out.2.2.2.1, onlyT_from B3.out ho, K3.out.keep ho HL.out.1, HL.out⟩
 clear hn ho K3 B3 HM HL
 go_wp2_with fail
 obtain ⟨K, hK⟩ : ∃ K, K = w4.heap.size := ⟨_, rfl⟩
 have HKL : Hid (w.heap.size + 2 < K) := by have := bk_lt HV.out.box.2.2; show w.heap.size + 2 < K; omega
 have N5 : Hid ((w4.alloc (lnO l0 l1 l2 l3)).heap[K]? = some (.cells #[.int .i64 l0, .int .i64 l1, .int .i64 l2, .int .i64 l3] 85 (0, 0))) := by rw [hK]; exact heap_alloc_new w4 (lnO l0 l1 l2 l3)
 have K5 : Hid (Box3 (w4.alloc (lnO l0 l1 l2 l3)) w.heap.size (clO x0 p a x3 x4) (anO 0 0) (lnO 0 0 0 0)) := HV.out.box.later ((Below.refl _ _).alloc (Nat.le_refl _) _)
 have M5 : Hid (MemIs (w4.alloc (lnO l0 l1 l2 l3)) M F n mg) := HV.out.mem.later ((Below.refl _ _).alloc (Nat.le_refl _) _)
 have T5 : Hid (NumsIs 41 (w4.alloc (lnO l0 l1 l2 l3)) T g') := HV.out.nums.later ((Below.refl _ _).alloc (Nat.le_refl _) _)
 have O5 : Hid (Only (fun i => i = T ∨ i = F) w (w4.alloc (lnO l0 l1 l2 l3))) := by
  have o := only_T HV.out.only
  exact ⟨o.1, o.2.1, o.2.2.1, by have := o.2.2.2.1; simp; omega, fun i hi hn => (Below.heap_alloc w4 _ i (by have := o.2.2.2.1; omega)).trans (o.2.2.2.2 i hi fun e => hn (Or.inl e))⟩
 have LT := Lib.hid HV.out.lt
 rw [← hK]
 obtain ⟨w5, hw5⟩ : ∃ w5, w5 = w4.alloc (lnO l0 l1 l2 l3) := ⟨_, rfl⟩
 rw [← hw5] at N5 K5 M5 T5 O5
 rw [← hw5]
 clear hw5 hK HV
 have XS : Hid (∀ wn, Only (fun i => i = F) w5 wn → wn.heap[K]? = some (.cells #[.int .i64 l0, .int .i64 l1, .int .i64 l2, .int .i64 l3] 85 (0, 0)) ∧ Box3 wn w.heap.size (clO x0 p a x3 x4) (anO 0 0) (lnO 0 0 0 0) ∧ NumsIs 41 wn T g' ∧ Only (fun i => i = T ∨ i = F) w wn) := fun wn ho => by
  have hl := LT.out
  have hk := HKL.out
  refine ⟨(ho.2.2.2.2 K (bk_lt N5.out) (by omega)).trans N5.out, K5.out.keepF ho hl.2.2.1, ?_, ?_⟩
  ·have hb := ho.2.2.2.2 T T5.out.2.2 (by omega)
   exact ⟨fun j hj => (World.cell?_of_block (a := ⟨T, j, none⟩) hb).trans (T5.out.1 j hj), fun j => (World.frozen?_of_block (a := ⟨T, j, none⟩) hb).trans (T5.out.2.1 j), Nat.lt_of_lt_of_le T5.out.2.2 ho.2.2.2.1⟩
  ·exact ⟨ho.1.trans O5.out.1, ho.2.1.trans O5.out.2.1, ho.2.2.1.trans O5.out.2.2.1, Nat.le_trans O5.out.2.2.2.1 ho.2.2.2.1, fun i hi hn => (ho.2.2.2.2 i (Nat.lt_of_lt_of_le hi O5.out.2.2.2.1) fun e => hn (Or.inr e)).trans (O5.out.2.2.2.2 i hi hn)⟩
 have n0 := bk_cell N5.out 0
 have n1 := bk_cell N5.out 1
 have n2 := bk_cell N5.out 2
 have n3 := bk_cell N5.out 3
 have b0 := bk_cell K5.out.1 0
 have b1 := bk_cell K5.out.1 1
 have b2 := bk_cell K5.out.1 2
 have b3 := bk_cell K5.out.1 3
 have b4 := bk_cell K5.out.1 4
 have hkne : K ≠ w.heap.size + 1 ∧ K ≠ w.heap.size + 2 := by have := HKL.out; omega
 go_region_with
  ((go_at_call 88; refine (HT.out _ (by exact M5.out)).mono ?_; rintro e' wn ⟨rfl, hm6, ho6⟩; obtain ⟨hn6, hb6, ht6, hoo6⟩ := XS.out wn ho6; have X6 := Lib.hid (And.intro hm6 (And.intro ht6 hoo6)); have K6 := Lib.hid hb6; have m0 := bk_cell hn6 0; have m1 := bk_cell hn6 1; have m2 := bk_cell hn6 2; have m3 := bk_cell hn6 3; have c0 := bk_free hb6.2.1 0; have c1 := bk_free hb6.2.1 1; have d0 := bk_free hb6.2.2 0; have d1 := bk_free hb6.2.2 1; have d2 := bk_free hb6.2.2 2; have d3 := bk_free hb6.2.2 3; have a0 := bk_cell hb6.2.1 0; have a1 := bk_cell hb6.2.1 1; have e0 := bk_cell hb6.2.2 0; have e1 := bk_cell hb6.2.2 1; have e2 := bk_cell hb6.2.2 2; have e3 := bk_cell hb6.2.2 3; clear hn6 hb6 ht6 hoo6 hm6 ho6))
 all_goals
  go_wp2_with fail
  have hz := both_at K6.out.2.1 K6.out.2.2 (by omega) (.int .i64 0) (.int .u64 (memV mg n l2 a x0)) (.int .i64 l0) (.int .i64 l1) (.int .i64 l2) (.int .i64 l3)
  have r0 := fun i => bk_cell hz.1 i
  have r1 := fun i => bk_cell hz.2 i
  have hs := same_both (b := w.heap.size) (W := wn) (A := w.heap.size + 1) (L := w.heap.size + 2) (by omega) (by omega) (.int .i64 0) (.int .u64 (memV mg n l2 a x0)) (.int .i64 l0) (.int .i64 l1) (.int .i64 l2) (.int .i64 l3)
  refine bodyPost_ret (v := .tuple #[.agg #[.int .i64 0, .int .u64 (memV mg n l2 a x0)], lineV (l0, l1, l2, l3)]) (by simp [results, Tryz.results35, go_sem, r0, r1]) rfl ⟨rfl, hs.nums X6.out.2.1 LT.out.1, hs.mem X6.out.1 LT.out.2.1 LT.out.2.2.1, hs.only X6.out.2.2⟩
theorem user_do (T U M F n : Nat) (g tg mg : Nat → Int) (env x0 x1 x2 x3 x4 : Int) (w : World) (ht : NumsIs 41 w T g) (hb : BufOk g) (hu : TabIs w U tg) (hk : TabOk tg) (hm : MemIs w M F n mg) (hTM : T ≠ M) (hTF : T ≠ F) (hn : n ≤ 16) (hx : wordsIn x0 x1 x2 x3 x4) (hd : doE env x0 x1 x2 x3 x4 = 0) :
  Calls Tryz.prog 35 #[.pointer (some ⟨T, 0, none⟩), .pointer (some ⟨U, 0, none⟩), .pointer (some ⟨M, 0, none⟩), .int .i64 env, callV x0 x1 x2 x3 x4] w fun x w' =>
   x = .returned (.tuple #[.agg #[.int .i64 (if (walkS g tg env x1 x0).2.2 = true then 0 else 7), .int .u64 (if (walkS g tg env x1 x0).2.2 = true then memV mg n (walkS g tg env x1 x0).2.1.2.2.1 x2.toNat x0 else 0)], lineV (walkS g tg env x1 x0).2.1]) ∧
   NumsIs 41 w' T (walkS g tg env x1 x0).1 ∧ MemIs w' M F n (if (walkS g tg env x1 x0).2.2 = true then memS mg n (walkS g tg env x1 x0).2.1.2.2.1 x2.toNat x0 x3 x4 else mg) ∧ Only (fun i => i = T ∨ i = F) w w' := by
 obtain ⟨hkd, ⟨e, rfl, he⟩, ⟨p, rfl, hp⟩, a, rfl, ha⟩ := doE_inv hx.2.1.1 hx.2.2.1.1 hd
 have hw := fun W (hW : Below w.heap.size w W) => uwalk_all T U g tg (e : Int) (p : Int) x0 W (ht.later hW) hb (hu.later hW) hk (by omega) (by omega)
 have hz : (walkS g tg (e : Int) (p : Int) x0).2.2 = false → (walkS g tg (e : Int) (p : Int) x0).2.1 = (0, 0, 0, 0) := by
  unfold walkS
  split
  ·exact fun h => absurd (show true = false from h) (by decide)
  ·split
   ·exact fun h => absurd (show true = false from h) (by decide)
   ·exact fun _ => rfl
 rw [Int.toNat_natCast]
 rcases hq : walkS g tg (e : Int) (p : Int) x0 with ⟨g', ⟨l0, l1, l2, l3⟩, ok⟩
 rw [hq] at hw hz
 dsimp only at hw hz ⊢
 cases ok
 ·rw [hz rfl]
  exact udo_no T U M F n a p g g' mg (e : Int) x0 x3 x4 l0 l1 l2 l3 w ht hm hTF hTM hx hkd hp hd hw
 ·exact udo_yes T U M F n a p g g' mg (e : Int) x0 x3 x4 l0 l1 l2 l3 w ht hm hTF hTM hn ha hx hkd hp hd hw
theorem user_keeps : UserC where
 walk_ := fun T U g tg e p kind w ht hb hu hk _ he hp => uwalk_all T U g tg e p kind w ht hb hu hk he hp
 err_ := fun T U M env x0 x1 x2 x3 x4 w hx hd => udo_err T U M env x0 x1 x2 x3 x4 w hx hd
 do_ := fun T U M F n g tg mg env x0 x1 x2 x3 x4 w ht hb hu hk hm _ hTM hTF _ hn hx hd => user_do T U M F n g tg mg env x0 x1 x2 x3 x4 w ht hb hu hk hm hTM hTF hn hx hd
end Go.Proofs.YtdfhfmdelinemaaGreatDoor

