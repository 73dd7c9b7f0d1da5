/- What is proved here: package plain's inner function call, kind by kind: it tells and leaves what the plain function of all calls says (kcall). Conditions: a kernel lies in the blocks that are named; the call's words may be. -/
import Derived.Test.YtdfhfmdelinemaaGreatDoorGPlB
import Derived.Test.YtdfhfmdelinemaaGreatDoorGPlC
import Derived.IntWalk
namespace Go.Proofs.YtdfhfmdelinemaaGreatDoor
open Go.RowKit Go.Extern.Stop Go.Stop Go.Extern Go.WalkArith
section
variable {B : Nat → Nat} {E N : Nat} {k : KernS} {w W : World}
structure Told (w W : World) (B : Nat → Nat) (E N : Nat) (k : KernS) : Prop where
 lies : KAt W B E N k
 only : Only (Blk B E) w W
 low : ∀ i, i < 8 + E → B i < w.heap.size
theorem Told.set (h : Told w W B E N k) {A : Nat} (hA : w.heap.size ≤ A) (o : Nat) (v : Value) : Told w (W.setCell ⟨A, o, none⟩ v) B E N k := by
 refine ⟨⟨h.lies.fit, h.lies.envs, h.lies.frames, h.lies.lies.foot (by simp [World.setCell]) fun i hi => Below.heap_setCell W _ v _ (by rintro rfl; exact absurd (h.low i hi) (Nat.not_lt.2 hA))⟩, ?_, h.low⟩
 obtain ⟨h1, h2, h3, h4, h5⟩ := h.only
 exact ⟨h1, h2, h3, by simpa [World.setCell] using h4, fun i hi hn => (Below.heap_setCell W _ v i (by rintro rfl; exact absurd hi (Nat.not_lt.2 hA))).trans (h5 i hi hn)⟩
theorem Told.under {W' : World} (h : Told w W B E N k) (hb : Below W.heap.size W W') : Told w W' B E N k := ⟨h.lies.later hb, only_then h.only (Only.below hb), h.low⟩
theorem Told.block {W' : World} (h : Told w W B E N k) {C : Nat} {o : Obj} (hC : w.heap.size ≤ C) (hc : W.heap[C]? = some o) (ho : Only (Blk B E) W W') : W'.heap[C]? = some o :=
 (ho.2.2.2.2 C (bk_lt hc) fun ⟨j, hj, e⟩ => absurd (h.low j hj) (by omega)).trans hc
theorem Told.step {W' : World} {k' : KernS} (h : Told w W B E N k) (hk : KAt W' B E N k') (ho : Only (Blk B E) W W') : Told w W' B E N k' := ⟨hk, only_then h.only ho, h.low⟩
structure CallAt (w W : World) (B : Nat → Nat) (E N : Nat) (k : KernS) (C R A : Nat) (x0 x1 x2 x3 x4 : Int) : Prop where
 told : Told w W B E N k
 call : W.heap[C]? = some (.cells #[.int .u64 x0, .int .u64 x1, .int .u64 x2, .int .u64 x3, .int .u64 x4] 36 (0, 0))
 res : W.heap[R]? = some (.cells #[.int .i64 0, .int .u64 0] 41 (0, 0))
 ans : W.heap[A]? = some (.cells #[.int .i64 0, .int .u64 0] 41 (0, 0))
 cw : w.heap.size ≤ C
 rw : w.heap.size ≤ R
 aw : w.heap.size ≤ A
 ne : R ≠ A
structure DoneAt (w W : World) (B : Nat → Nat) (E N : Nat) (k : KernS) (R A : Nat) : Prop where
 told : Told w W B E N k
 res : W.heap[R]? = some (.cells #[.int .i64 0, .int .u64 0] 41 (0, 0))
 ans : W.heap[A]? = some (.cells #[.int .i64 0, .int .u64 0] 41 (0, 0))
 rw : w.heap.size ≤ R
 aw : w.heap.size ≤ A
 ne : R ≠ A
theorem CallAt.done {W' : World} {k' : KernS} {C R A : Nat} {x0 x1 x2 x3 x4 : Int} (h : CallAt w W B E N k C R A x0 x1 x2 x3 x4) (hk : KAt W' B E N k') (ho : Only (Blk B E) W W') : DoneAt w W' B E N k' R A :=
 ⟨h.told.step hk ho, h.told.block h.rw h.res ho, h.told.block h.aw h.ans ho, h.rw, h.aw, h.ne⟩
theorem KAt.lowB (h : KAt w B E N k) : ∀ i, i < 8 + E → B i < w.heap.size := h.lies.lt
theorem lift1 {a : World} {b : Nat} {p : Obj} (hk : a.heap[b]? = some p) (o : Obj) : (a.alloc o).heap[b]? = some p := (Below.heap_alloc a o b (bk_lt hk)).trans hk
theorem call_at (h : KAt w B E N k) (x0 x1 x2 x3 x4 : Int) (n : Nat) :
  CallAt w ((((w.alloc (.cells #[.int .u64 x0, .int .u64 x1, .int .u64 x2, .int .u64 x3, .int .u64 x4] 36)).alloc (.cells #[.int .i64 0, .int .u64 0] 41)).alloc (.cells #[.int .i64 0, .int .u64 0] 41)).drewN n) B E N k w.heap.size (w.heap.size + 1) (w.heap.size + 1 + 1) x0 x1 x2 x3 x4 := by
 have hb : Below w.heap.size w (((w.alloc (.cells #[.int .u64 x0, .int .u64 x1, .int .u64 x2, .int .u64 x3, .int .u64 x4] 36)).alloc (.cells #[.int .i64 0, .int .u64 0] 41)).alloc (.cells #[.int .i64 0, .int .u64 0] 41)) :=
  (((Below.refl _ _).alloc (Nat.le_refl _) _).alloc (by simp) _).alloc (by simp; omega) _
 have e1 := heap_alloc_new w (.cells #[.int .u64 x0, .int .u64 x1, .int .u64 x2, .int .u64 x3, .int .u64 x4] 36)
 have e2 := heap_alloc_new (w.alloc (.cells #[.int .u64 x0, .int .u64 x1, .int .u64 x2, .int .u64 x3, .int .u64 x4] 36)) (.cells #[.int .i64 0, .int .u64 0] 41)
 have e3 := heap_alloc_new ((w.alloc (.cells #[.int .u64 x0, .int .u64 x1, .int .u64 x2, .int .u64 x3, .int .u64 x4] 36)).alloc (.cells #[.int .i64 0, .int .u64 0] 41)) (.cells #[.int .i64 0, .int .u64 0] 41)
 have s1 : (w.alloc (.cells #[.int .u64 x0, .int .u64 x1, .int .u64 x2, .int .u64 x3, .int .u64 x4] 36)).heap.size = w.heap.size + 1 := by simp
 have s2 : ((w.alloc (.cells #[.int .u64 x0, .int .u64 x1, .int .u64 x2, .int .u64 x3, .int .u64 x4] 36)).alloc (.cells #[.int .i64 0, .int .u64 0] 41)).heap.size = w.heap.size + 1 + 1 := by simp
 rw [s1] at e2
 rw [s2] at e3
 exact ⟨⟨h.later (dn hb n), Only.below (dn hb n), h.lowB⟩, lift1 (lift1 e1 _) _, lift1 e2 _, e3, Nat.le_refl _, by omega, by omega, by omega⟩
theorem res_off {R A : Nat} {o : Obj} (h : W.heap[R]? = some o) (hne : R ≠ A) (i : Nat) (v : Value) : (W.setCell ⟨A, i, none⟩ v).heap[R]? = some o := (Below.heap_setCell W _ v R hne).trans h
theorem plalloc_any {e s : Nat} (he : e < E) (hs : s < 8) {x2 x3 x4 n v : Int} {b : Bool} {ks : KernS} (hk : kcall k e 1 (s : Int) x2 x3 x4 = (ks, n, v, b)) (w : World) (h : KAt w B E N k) :
  (v = 0 ∧ b = true) ∧ Calls Tryz.prog 99 #[.pointer (some ⟨B 0, 0, none⟩), .int .i64 (e : Int), .int .i64 (s : Int)] w fun x w' => x = .returned (.int .i64 n) ∧ KAt w' B E N ks ∧ Only (Blk B E) w w' := by
 have h0 : kcall k e 1 (s : Int) x2 x3 x4 = if (k.sl e s).is = true then ((k, 4, 0, true) : KernS × Int × Int × Bool) else match freeK k k.frames.toNat with
   | [] => (k, 6, 0, true)
   | f :: _ => (allocS k e s f, 0, 0, true) := rfl
 rw [h0] at hk
 cases hi : (k.sl e s).is
 ·rw [if_neg (by rw [hi]; decide)] at hk
  rcases hf : freeK k k.frames.toNat with _ | ⟨f, l⟩
  ·rw [hf] at hk
   obtain ⟨rfl, rfl, rfl, rfl⟩ : k = ks ∧ 6 = n ∧ 0 = v ∧ true = b := by simpa using hk
   exact ⟨⟨rfl, rfl⟩, (plalloc_full he hs hi hf w h).mono fun _ _ ⟨h1, h2⟩ => ⟨h1, h.later h2, Only.below h2⟩⟩
  ·rw [hf] at hk
   obtain ⟨rfl, rfl, rfl, rfl⟩ : allocS k e s f = ks ∧ 0 = n ∧ 0 = v ∧ true = b := by simpa using hk
   exact ⟨⟨rfl, rfl⟩, plalloc_ok he hs hi hf w h⟩
 ·rw [if_pos hi] at hk
  obtain ⟨rfl, rfl, rfl, rfl⟩ : k = ks ∧ 4 = n ∧ 0 = v ∧ true = b := by simpa using hk
  exact ⟨⟨rfl, rfl⟩, (plalloc_busy he hs hi w h).mono fun _ _ ⟨h1, h2⟩ => ⟨h1, h.later h2, Only.below h2⟩⟩
theorem plenter_any {e p s : Nat} (he : e < E) (hp : p < 8) (hs : s < 8) {r n : Int} {ks : KernS} (hn : mapE k e p s r = n) (hks : mapS k e p s r = ks) (w : World) (h : KAt w B E N k) :
  Calls Tryz.prog 103 #[.pointer (some ⟨B 0, 0, none⟩), .int .i64 (e : Int), .int .i64 (p : Int), .int .i64 (s : Int), .int .i64 r] w fun x w' => x = .returned (.int .i64 n) ∧ KAt w' B E N ks ∧ Only (Blk B E) w w' := by
 subst hn hks
 cases hi : (k.sl e s).is
 ·have h0 : mapE k e p s r = 3 := if_pos hi
  have h1 : mapS k e p s r = k := if_neg (by rw [h0]; decide)
  rw [h0, h1]
  exact (plenter_none he hs r hi w h).mono fun _ _ ⟨h1, h2⟩ => ⟨h1, h.later h2, Only.below h2⟩
 ·by_cases hr : (k.pt e p).rights = 0
  ·cases hw : withinB r (k.sl e s).rights
   ·have h0 : mapE k e p s r = 5 := by
     unfold mapE
     rw [if_neg (by rw [hi]; decide), if_neg (by rw [hr]; decide), if_pos hw]
    have h1 : mapS k e p s r = k := if_neg (by rw [h0]; decide)
    rw [h0, h1]
    exact (plenter_rights he hp hs r hi hr hw w h).mono fun _ _ ⟨h1, h2⟩ => ⟨h1, h.later h2, Only.below h2⟩
   ·have h0 : mapE k e p s r = 0 := by
     unfold mapE
     rw [if_neg (by rw [hi]; decide), if_neg (by rw [hr]; decide), if_neg (by rw [hw]; decide)]
    rw [h0]
    exact plenter_ok he hp hs r hi hr hw w h
  ·have h0 : mapE k e p s r = 4 := by
    unfold mapE
    rw [if_neg (by rw [hi]; decide), if_pos hr]
   have h1 : mapS k e p s r = k := if_neg (by rw [h0]; decide)
   rw [h0, h1]
   exact (plenter_busy he hp hs r hi hr w h).mono fun _ _ ⟨h1, h2⟩ => ⟨h1, h.later h2, Only.below h2⟩
theorem plprot_any {e p : Nat} (he : e < E) (hp : p < 8) {r n : Int} {ks : KernS} (hn : protE k e p r = n) (hks : protS k e p r = ks) (w : World) (h : KAt w B E N k) :
  Calls Tryz.prog 105 #[.pointer (some ⟨B 0, 0, none⟩), .int .i64 (e : Int), .int .i64 (p : Int), .int .i64 r] w fun x w' => x = .returned (.int .i64 n) ∧ KAt w' B E N ks ∧ Only (Blk B E) w w' := by
 subst hn hks
 by_cases hr : (k.pt e p).rights = 0
 ·have h0 : protE k e p r = 3 := if_pos hr
  have h1 : protS k e p r = k := if_neg (by rw [h0]; decide)
  rw [h0, h1]
  exact (plprot_none he hp r hr w h).mono fun _ _ ⟨h1, h2⟩ => ⟨h1, h.later h2, Only.below h2⟩
 ·exact plprot_some he hp r hr w h
theorem plrem_any {e p : Nat} (he : e < E) (hp : p < 8) {n : Int} {ks : KernS} (hn : unmapE k e p = n) (hks : unmapS k e p = ks) (w : World) (h : KAt w B E N k) :
  Calls Tryz.prog 104 #[.pointer (some ⟨B (8 + e), 0, none⟩), .int .i64 (p : Int)] w fun x w' => (∃ u v y : Int, x = .returned (.tuple #[.agg #[.int .i64 u, .int .i64 v, .int .i64 y], .int .i64 n])) ∧ KAt w' B E N ks ∧ Only (Blk B E) w w' := by
 subst hn hks
 by_cases hr : (k.pt e p).rights = 0
 ·have h0 : unmapE k e p = 3 := if_pos hr
  have h1 : unmapS k e p = k := if_pos hr
  rw [h0, h1]
  exact (trem_none w _ p _ hp (h.lies.tabs e he) (by rw [(pteG_at k e p).2.2]; exact hr)).mono fun _ _ ⟨h1, h2⟩ => ⟨⟨_, _, _, h1⟩, h.later h2, Only.below h2⟩
 ·have h0 : unmapE k e p = 0 := if_neg hr
  have h1 : unmapS k e p = k.setPte e p ⟨0, 0, 0⟩ := if_neg hr
  rw [h0, h1]
  have hF : Fit (k.setPte e p ⟨0, 0, 0⟩) := h.fit.entry (fun _ => rfl) fun h2 => absurd rfl h2
  have hq := putG_is (pteG k e) p 0 0 0
  exact (trem_ok w _ p _ hp (h.lies.tabs e he) (by rw [(pteG_at k e p).2.2]; exact hr)).mono fun _ _ ⟨h1, h2, h3⟩ => ⟨⟨_, _, _, h1⟩, h.entry he hp hF h3 h2 hq.1 hq.2.1 hq.2.2.1 (fun j _ hj => hq.2.2.2 j hj), only_blk (show 8 + e < 8 + E by omega) h3⟩
set_option maxRecDepth 100000 in
set_option maxHeartbeats 1000000 in
theorem plcall_yield {e : Nat} (_ : e < E) (x1 x2 x3 x4 : Int) (w : World) (h : KAt w B E N k) :
  Calls Tryz.prog 48 #[.pointer (some ⟨B 0, 0, none⟩), .int .i64 (e : Int), callV 10 x1 x2 x3 x4] w fun x w' => x = .returned (ansV 0 0 true) ∧ KAt w' B E N (k) ∧ Only (Blk B E) w w' := by
 obtain ⟨ux1, hux1⟩ : ∃ u, IntKind.i64.wrap x1 = u := ⟨_, rfl⟩
 obtain ⟨ux2, hux2⟩ : ∃ u, IntKind.i64.wrap x2 = u := ⟨_, rfl⟩
 obtain ⟨ux3, hux3⟩ : ∃ u, IntKind.i64.wrap x3 = u := ⟨_, rfl⟩
 have HC := Lib.hid (fun n => call_at h 10 x1 x2 x3 x4 n)
 have H3 := Lib.hid h.lies.eE
 clear h
 go_enter Tryz.func48, Tryz.ntmps48
 go_wp2_with fail
 go_quiet (fail)
 have HC1 := Lib.hid (HC.out nq)
 clear HC
 generalize ((((w.alloc (.cells #[.int .u64 10, .int .u64 x1, .int .u64 x2, .int .u64 x3, .int .u64 x4] 36)).alloc (.cells #[.int .i64 0, .int .u64 0] 41)).alloc (.cells #[.int .i64 0, .int .u64 0] 41)).drewN nq) = wq at HC1 ⊢
 generalize w.heap.size + 1 + 1 = A at HC1 ⊢
 generalize w.heap.size + 1 = R at HC1 ⊢
 generalize w.heap.size = C at HC1 ⊢
 have c1 := HC1.out.told.lies.lies.c1
 have l0 := HC1.out.told.lies.rowlt.1
 have b0 := bk_cell HC1.out.call 0
 have b1 := bk_cell HC1.out.call 1
 have b2 := bk_cell HC1.out.call 2
 have b3 := bk_cell HC1.out.call 3
 have b4 := bk_cell HC1.out.call 4
 have lb := bk_lt HC1.out.call
 have fa0 := bk_free HC1.out.ans 0
 have fa1 := bk_free HC1.out.ans 1
 have a0 := bk_cell HC1.out.ans 0
 have a1 := bk_cell HC1.out.ans 1
 have la := bk_lt HC1.out.ans
 have fr0 := bk_free HC1.out.res 0
 have fr1 := bk_free HC1.out.res 1
 have r0 := bk_cell HC1.out.res 0
 have r1 := bk_cell HC1.out.res 1
 have lr := bk_lt HC1.out.res
 have ne1 := HC1.out.ne
 go_wp2_with fail
 have T := (HC1.out.told.set HC1.out.rw 0 (.int .i64 0)).set HC1.out.rw 1 (.int .u64 0)
 refine bodyPost_ret (v := .tuple #[.agg #[.int .i64 0, .int .u64 0], .bool true]) (by simp [results, Tryz.results48, go_sem, r0, r1]) rfl ⟨rfl, T.lies, T.only⟩
set_option maxRecDepth 100000 in
set_option maxHeartbeats 1000000 in
theorem plcall_alloc {e : Nat} (he : e < E) {s : Nat} (hs : s < 8) (x2 x3 x4 : Int) {n v : Int} {b : Bool} {ks : KernS} (hq : kcall k e 1 (s : Int) x2 x3 x4 = (ks, n, v, b)) (w : World) (h : KAt w B E N k) :
  Calls Tryz.prog 48 #[.pointer (some ⟨B 0, 0, none⟩), .int .i64 (e : Int), callV 1 (s : Int) x2 x3 x4] w fun x w' => x = .returned (ansV n 0 true) ∧ KAt w' B E N (ks) ∧ Only (Blk B E) w w' := by
 have HG := Lib.hid (fun W (hW : KAt W B E N k) => (plalloc_any he hs hq W hW).2)
 have w1 : IntKind.i64.wrap (s : Int) = (s : Int) := IntWalk.i64_in _ (by omega)
 obtain ⟨ux2, hux2⟩ : ∃ u, IntKind.i64.wrap x2 = u := ⟨_, rfl⟩
 obtain ⟨ux3, hux3⟩ : ∃ u, IntKind.i64.wrap x3 = u := ⟨_, rfl⟩
 have HC := Lib.hid (fun n => call_at h 1 (s : Int) x2 x3 x4 n)
 have H3 := Lib.hid h.lies.eE
 clear h he hs hq
 go_enter Tryz.func48, Tryz.ntmps48
 go_wp2_with fail
 go_quiet (fail)
 have HC1 := Lib.hid (HC.out nq)
 clear HC
 generalize ((((w.alloc (.cells #[.int .u64 1, .int .u64 (s : Int), .int .u64 x2, .int .u64 x3, .int .u64 x4] 36)).alloc (.cells #[.int .i64 0, .int .u64 0] 41)).alloc (.cells #[.int .i64 0, .int .u64 0] 41)).drewN nq) = wq at HC1 ⊢
 generalize w.heap.size + 1 + 1 = A at HC1 ⊢
 generalize w.heap.size + 1 = R at HC1 ⊢
 generalize w.heap.size = C at HC1 ⊢
 have c1 := HC1.out.told.lies.lies.c1
 have l0 := HC1.out.told.lies.rowlt.1
 have b0 := bk_cell HC1.out.call 0
 have b1 := bk_cell HC1.out.call 1
 have b2 := bk_cell HC1.out.call 2
 have b3 := bk_cell HC1.out.call 3
 have b4 := bk_cell HC1.out.call 4
 have lb := bk_lt HC1.out.call
 have fa0 := bk_free HC1.out.ans 0
 have fa1 := bk_free HC1.out.ans 1
 have a0 := bk_cell HC1.out.ans 0
 have a1 := bk_cell HC1.out.ans 1
 have la := bk_lt HC1.out.ans
 have fr0 := bk_free HC1.out.res 0
 have fr1 := bk_free HC1.out.res 1
 have r0 := bk_cell HC1.out.res 0
 have r1 := bk_cell HC1.out.res 1
 have lr := bk_lt HC1.out.res
 have ne1 := HC1.out.ne
 go_wp2_with fail
 refine (HG.out _ HC1.out.told.lies).mono ?_
 rintro x w2 ⟨rfl, hk, ho⟩
 have D := Lib.hid (HC1.out.done hk ho)
 clear hk ho c1 l0 b0 b1 b2 b3 b4 lb fa0 fa1 a0 a1 la fr0 fr1 r0 r1 lr
 have fa0 := bk_free D.out.ans 0
 have fa1 := bk_free D.out.ans 1
 have a0 := bk_cell D.out.ans 0
 have a1 := bk_cell D.out.ans 1
 have la := bk_lt D.out.ans
 have fr0 := bk_free D.out.res 0
 have fr1 := bk_free D.out.res 1
 have r0 := bk_cell D.out.res 0
 have r1 := bk_cell D.out.res 1
 have lr := bk_lt D.out.res
 go_wp2_with fail
 have z0 := bk_cell (res_off D.out.res D.out.ne 0 (.int .i64 n)) 0
 have z1 := bk_cell (res_off D.out.res D.out.ne 0 (.int .i64 n)) 1
 have T := ((D.out.told.set D.out.aw 0 (.int .i64 n)).set D.out.rw 0 (.int .i64 n)).set D.out.rw 1 (.int .u64 0)
 refine bodyPost_ret (v := .tuple #[.agg #[.int .i64 n, .int .u64 0], .bool true]) (by simp [results, Tryz.results48, go_sem, z0, z1]) rfl ⟨rfl, T.lies, T.only⟩
set_option maxRecDepth 100000 in
set_option maxHeartbeats 1000000 in
theorem plcall_derive {e : Nat} (he : e < E) {s d : Nat} (hs : s < 8) (hd : d < 8) (r x4 : Int) (hr : 1 ≤ r ∧ r ≤ 3) {n : Int} {ks : KernS} (hn : deriveE k e s e d r = n) (hks : deriveS k e s e d r = ks) (w : World) (h : KAt w B E N k) :
  Calls Tryz.prog 48 #[.pointer (some ⟨B 0, 0, none⟩), .int .i64 (e : Int), callV 2 (s : Int) (d : Int) r x4] w fun x w' => x = .returned (ansV n 0 true) ∧ KAt w' B E N (ks) ∧ Only (Blk B E) w w' := by
 have HG := Lib.hid (fun W (hW : KAt W B E N k) => plderive_any he hs he hd hr W hW)
 rw [hn, hks] at HG
 have w1 : IntKind.i64.wrap (s : Int) = (s : Int) := IntWalk.i64_in _ (by omega)
 have w2 : IntKind.i64.wrap (d : Int) = (d : Int) := IntWalk.i64_in _ (by omega)
 have w3 : IntKind.i64.wrap r = r := IntWalk.i64_in _ (by omega)
 have HC := Lib.hid (fun n => call_at h 2 (s : Int) (d : Int) r x4 n)
 have H3 := Lib.hid h.lies.eE
 clear h he hs hd hr hn hks
 go_enter Tryz.func48, Tryz.ntmps48
 go_wp2_with fail
 go_quiet (fail)
 have HC1 := Lib.hid (HC.out nq)
 clear HC
 generalize ((((w.alloc (.cells #[.int .u64 2, .int .u64 (s : Int), .int .u64 (d : Int), .int .u64 r, .int .u64 x4] 36)).alloc (.cells #[.int .i64 0, .int .u64 0] 41)).alloc (.cells #[.int .i64 0, .int .u64 0] 41)).drewN nq) = wq at HC1 ⊢
 generalize w.heap.size + 1 + 1 = A at HC1 ⊢
 generalize w.heap.size + 1 = R at HC1 ⊢
 generalize w.heap.size = C at HC1 ⊢
 have c1 := HC1.out.told.lies.lies.c1
 have l0 := HC1.out.told.lies.rowlt.1
 have b0 := bk_cell HC1.out.call 0
 have b1 := bk_cell HC1.out.call 1
 have b2 := bk_cell HC1.out.call 2
 have b3 := bk_cell HC1.out.call 3
 have b4 := bk_cell HC1.out.call 4
 have lb := bk_lt HC1.out.call
 have fa0 := bk_free HC1.out.ans 0
 have fa1 := bk_free HC1.out.ans 1
 have a0 := bk_cell HC1.out.ans 0
 have a1 := bk_cell HC1.out.ans 1
 have la := bk_lt HC1.out.ans
 have fr0 := bk_free HC1.out.res 0
 have fr1 := bk_free HC1.out.res 1
 have r0 := bk_cell HC1.out.res 0
 have r1 := bk_cell HC1.out.res 1
 have lr := bk_lt HC1.out.res
 have ne1 := HC1.out.ne
 go_wp2_with fail
 refine (HG.out _ HC1.out.told.lies).mono ?_
 rintro x w2 ⟨rfl, hk, ho⟩
 have D := Lib.hid (HC1.out.done hk ho)
 clear hk ho c1 l0 b0 b1 b2 b3 b4 lb fa0 fa1 a0 a1 la fr0 fr1 r0 r1 lr
 have fa0 := bk_free D.out.ans 0
 have fa1 := bk_free D.out.ans 1
 have a0 := bk_cell D.out.ans 0
 have a1 := bk_cell D.out.ans 1
 have la := bk_lt D.out.ans
 have fr0 := bk_free D.out.res 0
 have fr1 := bk_free D.out.res 1
 have r0 := bk_cell D.out.res 0
 have r1 := bk_cell D.out.res 1
 have lr := bk_lt D.out.res
 go_wp2_with fail
 have z0 := bk_cell (res_off D.out.res D.out.ne 0 (.int .i64 n)) 0
 have z1 := bk_cell (res_off D.out.res D.out.ne 0 (.int .i64 n)) 1
 have T := ((D.out.told.set D.out.aw 0 (.int .i64 n)).set D.out.rw 0 (.int .i64 n)).set D.out.rw 1 (.int .u64 0)
 refine bodyPost_ret (v := .tuple #[.agg #[.int .i64 n, .int .u64 0], .bool true]) (by simp [results, Tryz.results48, go_sem, z0, z1]) rfl ⟨rfl, T.lies, T.only⟩
set_option maxRecDepth 100000 in
set_option maxHeartbeats 1000000 in
theorem plcall_grant {e : Nat} (he : e < E) {s t d : Nat} (hs : s < 8) (ht : t < E) (hd : d < 8) (r : Int) (hr : 1 ≤ r ∧ r ≤ 3) {n : Int} {ks : KernS} (hn : deriveE k e s t d r = n) (hks : deriveS k e s t d r = ks) (w : World) (h : KAt w B E N k) :
  Calls Tryz.prog 48 #[.pointer (some ⟨B 0, 0, none⟩), .int .i64 (e : Int), callV 3 (s : Int) (t : Int) (d : Int) r] w fun x w' => x = .returned (ansV n 0 true) ∧ KAt w' B E N (ks) ∧ Only (Blk B E) w w' := by
 have HG := Lib.hid (fun W (hW : KAt W B E N k) => plderive_any he hs ht hd hr W hW)
 rw [hn, hks] at HG
 have hE4 := h.lies.eE
 have w1 : IntKind.i64.wrap (s : Int) = (s : Int) := IntWalk.i64_in _ (by omega)
 have w2 : IntKind.i64.wrap (t : Int) = (t : Int) := IntWalk.i64_in _ (by omega)
 have w3 : IntKind.i64.wrap (d : Int) = (d : Int) := IntWalk.i64_in _ (by omega)
 have w4 : IntKind.i64.wrap r = r := IntWalk.i64_in _ (by omega)
 have HC := Lib.hid (fun n => call_at h 3 (s : Int) (t : Int) (d : Int) r n)
 have H3 := Lib.hid h.lies.eE
 clear h he hs ht hd hr hn hks hE4
 go_enter Tryz.func48, Tryz.ntmps48
 go_wp2_with fail
 go_quiet (fail)
 have HC1 := Lib.hid (HC.out nq)
 clear HC
 generalize ((((w.alloc (.cells #[.int .u64 3, .int .u64 (s : Int), .int .u64 (t : Int), .int .u64 (d : Int), .int .u64 r] 36)).alloc (.cells #[.int .i64 0, .int .u64 0] 41)).alloc (.cells #[.int .i64 0, .int .u64 0] 41)).drewN nq) = wq at HC1 ⊢
 generalize w.heap.size + 1 + 1 = A at HC1 ⊢
 generalize w.heap.size + 1 = R at HC1 ⊢
 generalize w.heap.size = C at HC1 ⊢
 have c1 := HC1.out.told.lies.lies.c1
 have l0 := HC1.out.told.lies.rowlt.1
 have b0 := bk_cell HC1.out.call 0
 have b1 := bk_cell HC1.out.call 1
 have b2 := bk_cell HC1.out.call 2
 have b3 := bk_cell HC1.out.call 3
 have b4 := bk_cell HC1.out.call 4
 have lb := bk_lt HC1.out.call
 have fa0 := bk_free HC1.out.ans 0
 have fa1 := bk_free HC1.out.ans 1
 have a0 := bk_cell HC1.out.ans 0
 have a1 := bk_cell HC1.out.ans 1
 have la := bk_lt HC1.out.ans
 have fr0 := bk_free HC1.out.res 0
 have fr1 := bk_free HC1.out.res 1
 have r0 := bk_cell HC1.out.res 0
 have r1 := bk_cell HC1.out.res 1
 have lr := bk_lt HC1.out.res
 have ne1 := HC1.out.ne
 go_wp2_with fail
 refine (HG.out _ HC1.out.told.lies).mono ?_
 rintro x w2 ⟨rfl, hk, ho⟩
 have D := Lib.hid (HC1.out.done hk ho)
 clear hk ho c1 l0 b0 b1 b2 b3 b4 lb fa0 fa1 a0 a1 la fr0 fr1 r0 r1 lr
 have fa0 := bk_free D.out.ans 0
 have fa1 := bk_free D.out.ans 1
 have a0 := bk_cell D.out.ans 0
 have a1 := bk_cell D.out.ans 1
 have la := bk_lt D.out.ans
 have fr0 := bk_free D.out.res 0
 have fr1 := bk_free D.out.res 1
 have r0 := bk_cell D.out.res 0
 have r1 := bk_cell D.out.res 1
 have lr := bk_lt D.out.res
 go_wp2_with fail
 have z0 := bk_cell (res_off D.out.res D.out.ne 0 (.int .i64 n)) 0
 have z1 := bk_cell (res_off D.out.res D.out.ne 0 (.int .i64 n)) 1
 have T := ((D.out.told.set D.out.aw 0 (.int .i64 n)).set D.out.rw 0 (.int .i64 n)).set D.out.rw 1 (.int .u64 0)
 refine bodyPost_ret (v := .tuple #[.agg #[.int .i64 n, .int .u64 0], .bool true]) (by simp [results, Tryz.results48, go_sem, z0, z1]) rfl ⟨rfl, T.lies, T.only⟩
set_option maxRecDepth 100000 in
set_option maxHeartbeats 1000000 in
theorem plcall_revoke {e : Nat} (he : e < E) {s : Nat} (hs : s < 8) (x2 x3 x4 : Int) {n v : Int} {ks : KernS} (hn : tgoneE k (e : Int) (s : Int) = n) (hv : (((tgoneL k (e : Int) (s : Int) false).length : Nat) : Int) = v) (hks : tgoneS k (e : Int) (s : Int) false = ks) (w : World) (h : KAt w B E N k) :
  Calls Tryz.prog 48 #[.pointer (some ⟨B 0, 0, none⟩), .int .i64 (e : Int), callV 4 (s : Int) x2 x3 x4] w fun x w' => x = .returned (ansV n v true) ∧ KAt w' B E N (ks) ∧ Only (Blk B E) w w' := by
 have HG := Lib.hid (fun W (hW : KAt W B E N k) => pllose_revoke he hs W hW)
 rw [hn, hv, hks] at HG
 have w1 : IntKind.i64.wrap (s : Int) = (s : Int) := IntWalk.i64_in _ (by omega)
 obtain ⟨ux2, hux2⟩ : ∃ u, IntKind.i64.wrap x2 = u := ⟨_, rfl⟩
 obtain ⟨ux3, hux3⟩ : ∃ u, IntKind.i64.wrap x3 = u := ⟨_, rfl⟩
 have HC := Lib.hid (fun n => call_at h 4 (s : Int) x2 x3 x4 n)
 have H3 := Lib.hid h.lies.eE
 clear h he hs hn hv hks
 go_enter Tryz.func48, Tryz.ntmps48
 go_wp2_with fail
 go_quiet (fail)
 have HC1 := Lib.hid (HC.out nq)
 clear HC
 generalize ((((w.alloc (.cells #[.int .u64 4, .int .u64 (s : Int), .int .u64 x2, .int .u64 x3, .int .u64 x4] 36)).alloc (.cells #[.int .i64 0, .int .u64 0] 41)).alloc (.cells #[.int .i64 0, .int .u64 0] 41)).drewN nq) = wq at HC1 ⊢
 generalize w.heap.size + 1 + 1 = A at HC1 ⊢
 generalize w.heap.size + 1 = R at HC1 ⊢
 generalize w.heap.size = C at HC1 ⊢
 have c1 := HC1.out.told.lies.lies.c1
 have l0 := HC1.out.told.lies.rowlt.1
 have b0 := bk_cell HC1.out.call 0
 have b1 := bk_cell HC1.out.call 1
 have b2 := bk_cell HC1.out.call 2
 have b3 := bk_cell HC1.out.call 3
 have b4 := bk_cell HC1.out.call 4
 have lb := bk_lt HC1.out.call
 have fa0 := bk_free HC1.out.ans 0
 have fa1 := bk_free HC1.out.ans 1
 have a0 := bk_cell HC1.out.ans 0
 have a1 := bk_cell HC1.out.ans 1
 have la := bk_lt HC1.out.ans
 have fr0 := bk_free HC1.out.res 0
 have fr1 := bk_free HC1.out.res 1
 have r0 := bk_cell HC1.out.res 0
 have r1 := bk_cell HC1.out.res 1
 have lr := bk_lt HC1.out.res
 have ne1 := HC1.out.ne
 go_wp2_with fail
 refine (HG.out _ HC1.out.told.lies).mono ?_
 rintro x w2 ⟨rfl, hk, ho⟩
 have D := Lib.hid (HC1.out.done hk ho)
 clear hk ho c1 l0 b0 b1 b2 b3 b4 lb fa0 fa1 a0 a1 la fr0 fr1 r0 r1 lr
 have fa0 := bk_free D.out.ans 0
 have fa1 := bk_free D.out.ans 1
 have a0 := bk_cell D.out.ans 0
 have a1 := bk_cell D.out.ans 1
 have la := bk_lt D.out.ans
 have fr0 := bk_free D.out.res 0
 have fr1 := bk_free D.out.res 1
 have r0 := bk_cell D.out.res 0
 have r1 := bk_cell D.out.res 1
 have lr := bk_lt D.out.res
 go_wp2_with fail
 have z0 := bk_cell (res_off (res_off D.out.res D.out.ne 1 (.int .u64 v)) D.out.ne 0 (.int .i64 n)) 0
 have z1 := bk_cell (res_off (res_off D.out.res D.out.ne 1 (.int .u64 v)) D.out.ne 0 (.int .i64 n)) 1
 have T := (((D.out.told.set D.out.aw 1 (.int .u64 v)).set D.out.aw 0 (.int .i64 n)).set D.out.rw 0 (.int .i64 n)).set D.out.rw 1 (.int .u64 v)
 refine bodyPost_ret (v := .tuple #[.agg #[.int .i64 n, .int .u64 v], .bool true]) (by simp [results, Tryz.results48, go_sem, z0, z1]) rfl ⟨rfl, T.lies, T.only⟩
set_option maxRecDepth 100000 in
set_option maxHeartbeats 1000000 in
theorem plcall_drop {e : Nat} (he : e < E) {s : Nat} (hs : s < 8) (x2 x3 x4 : Int) {n v : Int} {ks : KernS} (hn : tgoneE k (e : Int) (s : Int) = n) (hv : (((tgoneL k (e : Int) (s : Int) true).length : Nat) : Int) = v) (hks : tgoneS k (e : Int) (s : Int) true = ks) (w : World) (h : KAt w B E N k) :
  Calls Tryz.prog 48 #[.pointer (some ⟨B 0, 0, none⟩), .int .i64 (e : Int), callV 5 (s : Int) x2 x3 x4] w fun x w' => x = .returned (ansV n v true) ∧ KAt w' B E N (ks) ∧ Only (Blk B E) w w' := by
 have HG := Lib.hid (fun W (hW : KAt W B E N k) => pllose_drop he hs W hW)
 rw [hn, hv, hks] at HG
 have w1 : IntKind.i64.wrap (s : Int) = (s : Int) := IntWalk.i64_in _ (by omega)
 obtain ⟨ux2, hux2⟩ : ∃ u, IntKind.i64.wrap x2 = u := ⟨_, rfl⟩
 obtain ⟨ux3, hux3⟩ : ∃ u, IntKind.i64.wrap x3 = u := ⟨_, rfl⟩
 have HC := Lib.hid (fun n => call_at h 5 (s : Int) x2 x3 x4 n)
 have H3 := Lib.hid h.lies.eE
 clear h he hs hn hv hks
 go_enter Tryz.func48, Tryz.ntmps48
 go_wp2_with fail
 go_quiet (fail)
 have HC1 := Lib.hid (HC.out nq)
 clear HC
 generalize ((((w.alloc (.cells #[.int .u64 5, .int .u64 (s : Int), .int .u64 x2, .int .u64 x3, .int .u64 x4] 36)).alloc (.cells #[.int .i64 0, .int .u64 0] 41)).alloc (.cells #[.int .i64 0, .int .u64 0] 41)).drewN nq) = wq at HC1 ⊢
 generalize w.heap.size + 1 + 1 = A at HC1 ⊢
 generalize w.heap.size + 1 = R at HC1 ⊢
 generalize w.heap.size = C at HC1 ⊢
 have c1 := HC1.out.told.lies.lies.c1
 have l0 := HC1.out.told.lies.rowlt.1
 have b0 := bk_cell HC1.out.call 0
 have b1 := bk_cell HC1.out.call 1
 have b2 := bk_cell HC1.out.call 2
 have b3 := bk_cell HC1.out.call 3
 have b4 := bk_cell HC1.out.call 4
 have lb := bk_lt HC1.out.call
 have fa0 := bk_free HC1.out.ans 0
 have fa1 := bk_free HC1.out.ans 1
 have a0 := bk_cell HC1.out.ans 0
 have a1 := bk_cell HC1.out.ans 1
 have la := bk_lt HC1.out.ans
 have fr0 := bk_free HC1.out.res 0
 have fr1 := bk_free HC1.out.res 1
 have r0 := bk_cell HC1.out.res 0
 have r1 := bk_cell HC1.out.res 1
 have lr := bk_lt HC1.out.res
 have ne1 := HC1.out.ne
 go_wp2_with fail
 refine (HG.out _ HC1.out.told.lies).mono ?_
 rintro x w2 ⟨rfl, hk, ho⟩
 have D := Lib.hid (HC1.out.done hk ho)
 clear hk ho c1 l0 b0 b1 b2 b3 b4 lb fa0 fa1 a0 a1 la fr0 fr1 r0 r1 lr
 have fa0 := bk_free D.out.ans 0
 have fa1 := bk_free D.out.ans 1
 have a0 := bk_cell D.out.ans 0
 have a1 := bk_cell D.out.ans 1
 have la := bk_lt D.out.ans
 have fr0 := bk_free D.out.res 0
 have fr1 := bk_free D.out.res 1
 have r0 := bk_cell D.out.res 0
 have r1 := bk_cell D.out.res 1
 have lr := bk_lt D.out.res
 go_wp2_with fail
 have z0 := bk_cell (res_off (res_off D.out.res D.out.ne 1 (.int .u64 v)) D.out.ne 0 (.int .i64 n)) 0
 have z1 := bk_cell (res_off (res_off D.out.res D.out.ne 1 (.int .u64 v)) D.out.ne 0 (.int .i64 n)) 1
 have T := (((D.out.told.set D.out.aw 1 (.int .u64 v)).set D.out.aw 0 (.int .i64 n)).set D.out.rw 0 (.int .i64 n)).set D.out.rw 1 (.int .u64 v)
 refine bodyPost_ret (v := .tuple #[.agg #[.int .i64 n, .int .u64 v], .bool true]) (by simp [results, Tryz.results48, go_sem, z0, z1]) rfl ⟨rfl, T.lies, T.only⟩
set_option maxRecDepth 100000 in
set_option maxHeartbeats 1000000 in
theorem plcall_map {e : Nat} (he : e < E) {p s : Nat} (hp : p < 8) (hs : s < 8) (r x4 : Int) (hr : 1 ≤ r ∧ r ≤ 3) {n : Int} {ks : KernS} (hn : mapE k e p s r = n) (hks : mapS k e p s r = ks) (w : World) (h : KAt w B E N k) :
  Calls Tryz.prog 48 #[.pointer (some ⟨B 0, 0, none⟩), .int .i64 (e : Int), callV 6 (p : Int) (s : Int) r x4] w fun x w' => x = .returned (ansV n 0 true) ∧ KAt w' B E N (ks) ∧ Only (Blk B E) w w' := by
 have HG := Lib.hid (fun W (hW : KAt W B E N k) => plenter_any he hp hs hn hks W hW)
 have w1 : IntKind.i64.wrap (p : Int) = (p : Int) := IntWalk.i64_in _ (by omega)
 have w2 : IntKind.i64.wrap (s : Int) = (s : Int) := IntWalk.i64_in _ (by omega)
 have w3 : IntKind.i64.wrap r = r := IntWalk.i64_in _ (by omega)
 have HC := Lib.hid (fun n => call_at h 6 (p : Int) (s : Int) r x4 n)
 have H3 := Lib.hid h.lies.eE
 clear h he hp hs hr hn hks
 go_enter Tryz.func48, Tryz.ntmps48
 go_wp2_with fail
 go_quiet (fail)
 have HC1 := Lib.hid (HC.out nq)
 clear HC
 generalize ((((w.alloc (.cells #[.int .u64 6, .int .u64 (p : Int), .int .u64 (s : Int), .int .u64 r, .int .u64 x4] 36)).alloc (.cells #[.int .i64 0, .int .u64 0] 41)).alloc (.cells #[.int .i64 0, .int .u64 0] 41)).drewN nq) = wq at HC1 ⊢
 generalize w.heap.size + 1 + 1 = A at HC1 ⊢
 generalize w.heap.size + 1 = R at HC1 ⊢
 generalize w.heap.size = C at HC1 ⊢
 have c1 := HC1.out.told.lies.lies.c1
 have l0 := HC1.out.told.lies.rowlt.1
 have b0 := bk_cell HC1.out.call 0
 have b1 := bk_cell HC1.out.call 1
 have b2 := bk_cell HC1.out.call 2
 have b3 := bk_cell HC1.out.call 3
 have b4 := bk_cell HC1.out.call 4
 have lb := bk_lt HC1.out.call
 have fa0 := bk_free HC1.out.ans 0
 have fa1 := bk_free HC1.out.ans 1
 have a0 := bk_cell HC1.out.ans 0
 have a1 := bk_cell HC1.out.ans 1
 have la := bk_lt HC1.out.ans
 have fr0 := bk_free HC1.out.res 0
 have fr1 := bk_free HC1.out.res 1
 have r0 := bk_cell HC1.out.res 0
 have r1 := bk_cell HC1.out.res 1
 have lr := bk_lt HC1.out.res
 have ne1 := HC1.out.ne
 go_wp2_with fail
 refine (HG.out _ HC1.out.told.lies).mono ?_
 rintro x w2 ⟨rfl, hk, ho⟩
 have D := Lib.hid (HC1.out.done hk ho)
 clear hk ho c1 l0 b0 b1 b2 b3 b4 lb fa0 fa1 a0 a1 la fr0 fr1 r0 r1 lr
 have fa0 := bk_free D.out.ans 0
 have fa1 := bk_free D.out.ans 1
 have a0 := bk_cell D.out.ans 0
 have a1 := bk_cell D.out.ans 1
 have la := bk_lt D.out.ans
 have fr0 := bk_free D.out.res 0
 have fr1 := bk_free D.out.res 1
 have r0 := bk_cell D.out.res 0
 have r1 := bk_cell D.out.res 1
 have lr := bk_lt D.out.res
 go_wp2_with fail
 have z0 := bk_cell (res_off D.out.res D.out.ne 0 (.int .i64 n)) 0
 have z1 := bk_cell (res_off D.out.res D.out.ne 0 (.int .i64 n)) 1
 have T := ((D.out.told.set D.out.aw 0 (.int .i64 n)).set D.out.rw 0 (.int .i64 n)).set D.out.rw 1 (.int .u64 0)
 refine bodyPost_ret (v := .tuple #[.agg #[.int .i64 n, .int .u64 0], .bool true]) (by simp [results, Tryz.results48, go_sem, z0, z1]) rfl ⟨rfl, T.lies, T.only⟩
set_option maxRecDepth 100000 in
set_option maxHeartbeats 1000000 in
theorem plcall_unmap {e : Nat} (he : e < E) {p : Nat} (hp : p < 8) (x2 x3 x4 : Int) {n : Int} {ks : KernS} (hn : unmapE k e p = n) (hks : unmapS k e p = ks) (w : World) (h : KAt w B E N k) :
  Calls Tryz.prog 48 #[.pointer (some ⟨B 0, 0, none⟩), .int .i64 (e : Int), callV 7 (p : Int) x2 x3 x4] w fun x w' => x = .returned (ansV n 0 true) ∧ KAt w' B E N (ks) ∧ Only (Blk B E) w w' := by
 have HG := Lib.hid (fun W (hW : KAt W B E N k) => plrem_any he hp hn hks W hW)
 have HEl := Lib.hid he
 have w1 : IntKind.i64.wrap (p : Int) = (p : Int) := IntWalk.i64_in _ (by omega)
 obtain ⟨ux2, hux2⟩ : ∃ u, IntKind.i64.wrap x2 = u := ⟨_, rfl⟩
 obtain ⟨ux3, hux3⟩ : ∃ u, IntKind.i64.wrap x3 = u := ⟨_, rfl⟩
 have HC := Lib.hid (fun n => call_at h 7 (p : Int) x2 x3 x4 n)
 have H3 := Lib.hid h.lies.eE
 clear h he hp hn hks
 go_enter Tryz.func48, Tryz.ntmps48
 go_wp2_with fail
 go_quiet (fail)
 have HC1 := Lib.hid (HC.out nq)
 clear HC
 generalize ((((w.alloc (.cells #[.int .u64 7, .int .u64 (p : Int), .int .u64 x2, .int .u64 x3, .int .u64 x4] 36)).alloc (.cells #[.int .i64 0, .int .u64 0] 41)).alloc (.cells #[.int .i64 0, .int .u64 0] 41)).drewN nq) = wq at HC1 ⊢
 generalize w.heap.size + 1 + 1 = A at HC1 ⊢
 generalize w.heap.size + 1 = R at HC1 ⊢
 generalize w.heap.size = C at HC1 ⊢
 have c1 := HC1.out.told.lies.lies.c1
 have l0 := HC1.out.told.lies.rowlt.1
 have b0 := bk_cell HC1.out.call 0
 have b1 := bk_cell HC1.out.call 1
 have b2 := bk_cell HC1.out.call 2
 have b3 := bk_cell HC1.out.call 3
 have b4 := bk_cell HC1.out.call 4
 have lb := bk_lt HC1.out.call
 have fa0 := bk_free HC1.out.ans 0
 have fa1 := bk_free HC1.out.ans 1
 have a0 := bk_cell HC1.out.ans 0
 have a1 := bk_cell HC1.out.ans 1
 have la := bk_lt HC1.out.ans
 have fr0 := bk_free HC1.out.res 0
 have fr1 := bk_free HC1.out.res 1
 have r0 := bk_cell HC1.out.res 0
 have r1 := bk_cell HC1.out.res 1
 have lr := bk_lt HC1.out.res
 have ne1 := HC1.out.ne
 have q1 : ¬ (e : Int) < 0 := by have := HEl.out; omega
 have q2 : (e : Int) < (E : Int) := by have := HEl.out; omega
 have q3 : ¬ (E : Int) ≤ (e : Int) := by have := HEl.out; omega
 have c0 := HC1.out.told.lies.lies.c0
 have cr := HC1.out.told.lies.lies.row e HEl.out
 have l1 := HC1.out.told.lies.rowlt.2
 go_wp2_with fail
 refine (HG.out _ HC1.out.told.lies).mono ?_
 rintro x w2 ⟨⟨u0, u1, u2, rfl⟩, hk, ho⟩
 clear c0 cr l1
 have D := Lib.hid (HC1.out.done hk ho)
 clear hk ho c1 l0 b0 b1 b2 b3 b4 lb fa0 fa1 a0 a1 la fr0 fr1 r0 r1 lr
 have fa0 := bk_free D.out.ans 0
 have fa1 := bk_free D.out.ans 1
 have a0 := bk_cell D.out.ans 0
 have a1 := bk_cell D.out.ans 1
 have la := bk_lt D.out.ans
 have fr0 := bk_free D.out.res 0
 have fr1 := bk_free D.out.res 1
 have r0 := bk_cell D.out.res 0
 have r1 := bk_cell D.out.res 1
 have lr := bk_lt D.out.res
 go_wp2_with fail
 have z0 := bk_cell (res_off D.out.res D.out.ne 0 (.int .i64 n)) 0
 have z1 := bk_cell (res_off D.out.res D.out.ne 0 (.int .i64 n)) 1
 have T := ((D.out.told.set D.out.aw 0 (.int .i64 n)).set D.out.rw 0 (.int .i64 n)).set D.out.rw 1 (.int .u64 0)
 refine bodyPost_ret (v := .tuple #[.agg #[.int .i64 n, .int .u64 0], .bool true]) (by simp [results, Tryz.results48, go_sem, z0, z1]) rfl ⟨rfl, T.lies, T.only⟩
set_option maxRecDepth 100000 in
set_option maxHeartbeats 1000000 in
theorem plcall_protect {e : Nat} (he : e < E) {p : Nat} (hp : p < 8) (r x3 x4 : Int) (hr : 1 ≤ r ∧ r ≤ 3) {n : Int} {ks : KernS} (hn : protE k e p r = n) (hks : protS k e p r = ks) (w : World) (h : KAt w B E N k) :
  Calls Tryz.prog 48 #[.pointer (some ⟨B 0, 0, none⟩), .int .i64 (e : Int), callV 8 (p : Int) r x3 x4] w fun x w' => x = .returned (ansV n 0 true) ∧ KAt w' B E N (ks) ∧ Only (Blk B E) w w' := by
 have HG := Lib.hid (fun W (hW : KAt W B E N k) => plprot_any he hp hn hks W hW)
 have w1 : IntKind.i64.wrap (p : Int) = (p : Int) := IntWalk.i64_in _ (by omega)
 have w2 : IntKind.i64.wrap r = r := IntWalk.i64_in _ (by omega)
 obtain ⟨ux3, hux3⟩ : ∃ u, IntKind.i64.wrap x3 = u := ⟨_, rfl⟩
 have HC := Lib.hid (fun n => call_at h 8 (p : Int) r x3 x4 n)
 have H3 := Lib.hid h.lies.eE
 clear h he hp hr hn hks
 go_enter Tryz.func48, Tryz.ntmps48
 go_wp2_with fail
 go_quiet (fail)
 have HC1 := Lib.hid (HC.out nq)
 clear HC
 generalize ((((w.alloc (.cells #[.int .u64 8, .int .u64 (p : Int), .int .u64 r, .int .u64 x3, .int .u64 x4] 36)).alloc (.cells #[.int .i64 0, .int .u64 0] 41)).alloc (.cells #[.int .i64 0, .int .u64 0] 41)).drewN nq) = wq at HC1 ⊢
 generalize w.heap.size + 1 + 1 = A at HC1 ⊢
 generalize w.heap.size + 1 = R at HC1 ⊢
 generalize w.heap.size = C at HC1 ⊢
 have c1 := HC1.out.told.lies.lies.c1
 have l0 := HC1.out.told.lies.rowlt.1
 have b0 := bk_cell HC1.out.call 0
 have b1 := bk_cell HC1.out.call 1
 have b2 := bk_cell HC1.out.call 2
 have b3 := bk_cell HC1.out.call 3
 have b4 := bk_cell HC1.out.call 4
 have lb := bk_lt HC1.out.call
 have fa0 := bk_free HC1.out.ans 0
 have fa1 := bk_free HC1.out.ans 1
 have a0 := bk_cell HC1.out.ans 0
 have a1 := bk_cell HC1.out.ans 1
 have la := bk_lt HC1.out.ans
 have fr0 := bk_free HC1.out.res 0
 have fr1 := bk_free HC1.out.res 1
 have r0 := bk_cell HC1.out.res 0
 have r1 := bk_cell HC1.out.res 1
 have lr := bk_lt HC1.out.res
 have ne1 := HC1.out.ne
 go_wp2_with fail
 refine (HG.out _ HC1.out.told.lies).mono ?_
 rintro x w2 ⟨rfl, hk, ho⟩
 have D := Lib.hid (HC1.out.done hk ho)
 clear hk ho c1 l0 b0 b1 b2 b3 b4 lb fa0 fa1 a0 a1 la fr0 fr1 r0 r1 lr
 have fa0 := bk_free D.out.ans 0
 have fa1 := bk_free D.out.ans 1
 have a0 := bk_cell D.out.ans 0
 have a1 := bk_cell D.out.ans 1
 have la := bk_lt D.out.ans
 have fr0 := bk_free D.out.res 0
 have fr1 := bk_free D.out.res 1
 have r0 := bk_cell D.out.res 0
 have r1 := bk_cell D.out.res 1
 have lr := bk_lt D.out.res
 go_wp2_with fail
 have z0 := bk_cell (res_off D.out.res D.out.ne 0 (.int .i64 n)) 0
 have z1 := bk_cell (res_off D.out.res D.out.ne 0 (.int .i64 n)) 1
 have T := ((D.out.told.set D.out.aw 0 (.int .i64 n)).set D.out.rw 0 (.int .i64 n)).set D.out.rw 1 (.int .u64 0)
 refine bodyPost_ret (v := .tuple #[.agg #[.int .i64 n, .int .u64 0], .bool true]) (by simp [results, Tryz.results48, go_sem, z0, z1]) rfl ⟨rfl, T.lies, T.only⟩
set_option maxRecDepth 100000 in
set_option maxHeartbeats 1000000 in
theorem plcall_no20 {e : Nat} (he : e < E) {p a : Nat} (hp : p < 8) (ha : a < 16) (x3 x4 : Int) (hq : withinB (needN 20) (k.pt e p).rights = false) (w : World) (h : KAt w B E N k) :
  Calls Tryz.prog 48 #[.pointer (some ⟨B 0, 0, none⟩), .int .i64 (e : Int), callV 20 (p : Int) (a : Int) x3 x4] w fun x w' => x = .returned (ansV 7 0 true) ∧ KAt w' B E N (k) ∧ Only (Blk B E) w w' := by
 have HG := Lib.hid (fun W (hW : KAt W B E N k) => (placcess_no he hp 20 (p : Int) (a : Int) x3 x4 (by omega) hq W hW).mono fun _ _ ⟨h1, h2⟩ => (⟨h1, hW.later h2, Only.below h2⟩ : _ ∧ KAt _ B E N k ∧ Only (Blk B E) W _))
 have w1 : IntKind.i64.wrap (p : Int) = (p : Int) := IntWalk.i64_in _ (by omega)
 have w2 : IntKind.i64.wrap (a : Int) = (a : Int) := IntWalk.i64_in _ (by omega)
 obtain ⟨ux3, hux3⟩ : ∃ u, IntKind.i64.wrap x3 = u := ⟨_, rfl⟩
 have HC := Lib.hid (fun n => call_at h 20 (p : Int) (a : Int) x3 x4 n)
 have H3 := Lib.hid h.lies.eE
 clear h he hp ha hq
 go_enter Tryz.func48, Tryz.ntmps48
 go_wp2_with fail
 go_quiet (fail)
 have HC1 := Lib.hid (HC.out nq)
 clear HC
 generalize ((((w.alloc (.cells #[.int .u64 20, .int .u64 (p : Int), .int .u64 (a : Int), .int .u64 x3, .int .u64 x4] 36)).alloc (.cells #[.int .i64 0, .int .u64 0] 41)).alloc (.cells #[.int .i64 0, .int .u64 0] 41)).drewN nq) = wq at HC1 ⊢
 generalize w.heap.size + 1 + 1 = A at HC1 ⊢
 generalize w.heap.size + 1 = R at HC1 ⊢
 generalize w.heap.size = C at HC1 ⊢
 have c1 := HC1.out.told.lies.lies.c1
 have l0 := HC1.out.told.lies.rowlt.1
 have b0 := bk_cell HC1.out.call 0
 have b1 := bk_cell HC1.out.call 1
 have b2 := bk_cell HC1.out.call 2
 have b3 := bk_cell HC1.out.call 3
 have b4 := bk_cell HC1.out.call 4
 have lb := bk_lt HC1.out.call
 have fa0 := bk_free HC1.out.ans 0
 have fa1 := bk_free HC1.out.ans 1
 have a0 := bk_cell HC1.out.ans 0
 have a1 := bk_cell HC1.out.ans 1
 have la := bk_lt HC1.out.ans
 have fr0 := bk_free HC1.out.res 0
 have fr1 := bk_free HC1.out.res 1
 have r0 := bk_cell HC1.out.res 0
 have r1 := bk_cell HC1.out.res 1
 have lr := bk_lt HC1.out.res
 have ne1 := HC1.out.ne
 go_wp2_with fail
 refine (HG.out _ HC1.out.told.lies).mono ?_
 rintro x w2 ⟨rfl, hk, ho⟩
 have D := Lib.hid (HC1.out.done hk ho)
 clear hk ho c1 l0 b0 b1 b2 b3 b4 lb fa0 fa1 a0 a1 la fr0 fr1 r0 r1 lr
 have fa0 := bk_free D.out.ans 0
 have fa1 := bk_free D.out.ans 1
 have a0 := bk_cell D.out.ans 0
 have a1 := bk_cell D.out.ans 1
 have la := bk_lt D.out.ans
 have fr0 := bk_free D.out.res 0
 have fr1 := bk_free D.out.res 1
 have r0 := bk_cell D.out.res 0
 have r1 := bk_cell D.out.res 1
 have lr := bk_lt D.out.res
 go_wp2_with fail
 have z0 := bk_cell (res_off (res_off D.out.res D.out.ne 1 (.int .u64 0)) D.out.ne 0 (.int .i64 7)) 0
 have z1 := bk_cell (res_off (res_off D.out.res D.out.ne 1 (.int .u64 0)) D.out.ne 0 (.int .i64 7)) 1
 have T := (((D.out.told.set D.out.aw 1 (.int .u64 0)).set D.out.aw 0 (.int .i64 7)).set D.out.rw 0 (.int .i64 7)).set D.out.rw 1 (.int .u64 0)
 refine bodyPost_ret (v := .tuple #[.agg #[.int .i64 7, .int .u64 0], .bool true]) (by simp [results, Tryz.results48, go_sem, z0, z1]) rfl ⟨rfl, T.lies, T.only⟩
set_option maxRecDepth 100000 in
set_option maxHeartbeats 1000000 in
theorem plcall_yes20 {e : Nat} (he : e < E) {p a : Nat} (hp : p < 8) (ha : a < 16) (x3 x4 : Int) (hx : wordsIn 20 (p : Int) (a : Int) x3 x4) (hq : withinB (needN 20) (k.pt e p).rights = true) {v : Int} {ks : KernS} (hv : wordT k (k.pt e p).frame.toNat a 20 = v) (hks : wordS k (k.pt e p).frame.toNat a 20 x3 x4 = ks) (w : World) (h : KAt w B E N k) :
  Calls Tryz.prog 48 #[.pointer (some ⟨B 0, 0, none⟩), .int .i64 (e : Int), callV 20 (p : Int) (a : Int) x3 x4] w fun x w' => x = .returned (ansV 0 v true) ∧ KAt w' B E N (ks) ∧ Only (Blk B E) w w' := by
 have HG := Lib.hid (fun W (hW : KAt W B E N k) => placcess_yes he hp ha 20 (p : Int) x3 x4 (by omega) hx hq W hW)
 rw [hv, hks] at HG
 have w1 : IntKind.i64.wrap (p : Int) = (p : Int) := IntWalk.i64_in _ (by omega)
 have w2 : IntKind.i64.wrap (a : Int) = (a : Int) := IntWalk.i64_in _ (by omega)
 obtain ⟨ux3, hux3⟩ : ∃ u, IntKind.i64.wrap x3 = u := ⟨_, rfl⟩
 have HC := Lib.hid (fun n => call_at h 20 (p : Int) (a : Int) x3 x4 n)
 have H3 := Lib.hid h.lies.eE
 clear h he hp ha hq hx hv hks
 go_enter Tryz.func48, Tryz.ntmps48
 go_wp2_with fail
 go_quiet (fail)
 have HC1 := Lib.hid (HC.out nq)
 clear HC
 generalize ((((w.alloc (.cells #[.int .u64 20, .int .u64 (p : Int), .int .u64 (a : Int), .int .u64 x3, .int .u64 x4] 36)).alloc (.cells #[.int .i64 0, .int .u64 0] 41)).alloc (.cells #[.int .i64 0, .int .u64 0] 41)).drewN nq) = wq at HC1 ⊢
 generalize w.heap.size + 1 + 1 = A at HC1 ⊢
 generalize w.heap.size + 1 = R at HC1 ⊢
 generalize w.heap.size = C at HC1 ⊢
 have c1 := HC1.out.told.lies.lies.c1
 have l0 := HC1.out.told.lies.rowlt.1
 have b0 := bk_cell HC1.out.call 0
 have b1 := bk_cell HC1.out.call 1
 have b2 := bk_cell HC1.out.call 2
 have b3 := bk_cell HC1.out.call 3
 have b4 := bk_cell HC1.out.call 4
 have lb := bk_lt HC1.out.call
 have fa0 := bk_free HC1.out.ans 0
 have fa1 := bk_free HC1.out.ans 1
 have a0 := bk_cell HC1.out.ans 0
 have a1 := bk_cell HC1.out.ans 1
 have la := bk_lt HC1.out.ans
 have fr0 := bk_free HC1.out.res 0
 have fr1 := bk_free HC1.out.res 1
 have r0 := bk_cell HC1.out.res 0
 have r1 := bk_cell HC1.out.res 1
 have lr := bk_lt HC1.out.res
 have ne1 := HC1.out.ne
 go_wp2_with fail
 refine (HG.out _ HC1.out.told.lies).mono ?_
 rintro x w2 ⟨rfl, hk, ho⟩
 have D := Lib.hid (HC1.out.done hk ho)
 clear hk ho c1 l0 b0 b1 b2 b3 b4 lb fa0 fa1 a0 a1 la fr0 fr1 r0 r1 lr
 have fa0 := bk_free D.out.ans 0
 have fa1 := bk_free D.out.ans 1
 have a0 := bk_cell D.out.ans 0
 have a1 := bk_cell D.out.ans 1
 have la := bk_lt D.out.ans
 have fr0 := bk_free D.out.res 0
 have fr1 := bk_free D.out.res 1
 have r0 := bk_cell D.out.res 0
 have r1 := bk_cell D.out.res 1
 have lr := bk_lt D.out.res
 go_wp2_with fail
 have z0 := bk_cell (res_off (res_off D.out.res D.out.ne 1 (.int .u64 v)) D.out.ne 0 (.int .i64 0)) 0
 have z1 := bk_cell (res_off (res_off D.out.res D.out.ne 1 (.int .u64 v)) D.out.ne 0 (.int .i64 0)) 1
 have T := (((D.out.told.set D.out.aw 1 (.int .u64 v)).set D.out.aw 0 (.int .i64 0)).set D.out.rw 0 (.int .i64 0)).set D.out.rw 1 (.int .u64 v)
 refine bodyPost_ret (v := .tuple #[.agg #[.int .i64 0, .int .u64 v], .bool true]) (by simp [results, Tryz.results48, go_sem, z0, z1]) rfl ⟨rfl, T.lies, T.only⟩
set_option maxRecDepth 100000 in
set_option maxHeartbeats 1000000 in
theorem plcall_no21 {e : Nat} (he : e < E) {p a : Nat} (hp : p < 8) (ha : a < 16) (x3 x4 : Int) (hq : withinB (needN 21) (k.pt e p).rights = false) (w : World) (h : KAt w B E N k) :
  Calls Tryz.prog 48 #[.pointer (some ⟨B 0, 0, none⟩), .int .i64 (e : Int), callV 21 (p : Int) (a : Int) x3 x4] w fun x w' => x = .returned (ansV 7 0 true) ∧ KAt w' B E N (k) ∧ Only (Blk B E) w w' := by
 have HG := Lib.hid (fun W (hW : KAt W B E N k) => (placcess_no he hp 21 (p : Int) (a : Int) x3 x4 (by omega) hq W hW).mono fun _ _ ⟨h1, h2⟩ => (⟨h1, hW.later h2, Only.below h2⟩ : _ ∧ KAt _ B E N k ∧ Only (Blk B E) W _))
 have w1 : IntKind.i64.wrap (p : Int) = (p : Int) := IntWalk.i64_in _ (by omega)
 have w2 : IntKind.i64.wrap (a : Int) = (a : Int) := IntWalk.i64_in _ (by omega)
 obtain ⟨ux3, hux3⟩ : ∃ u, IntKind.i64.wrap x3 = u := ⟨_, rfl⟩
 have HC := Lib.hid (fun n => call_at h 21 (p : Int) (a : Int) x3 x4 n)
 have H3 := Lib.hid h.lies.eE
 clear h he hp ha hq
 go_enter Tryz.func48, Tryz.ntmps48
 go_wp2_with fail
 go_quiet (fail)
 have HC1 := Lib.hid (HC.out nq)
 clear HC
 generalize ((((w.alloc (.cells #[.int .u64 21, .int .u64 (p : Int), .int .u64 (a : Int), .int .u64 x3, .int .u64 x4] 36)).alloc (.cells #[.int .i64 0, .int .u64 0] 41)).alloc (.cells #[.int .i64 0, .int .u64 0] 41)).drewN nq) = wq at HC1 ⊢
 generalize w.heap.size + 1 + 1 = A at HC1 ⊢
 generalize w.heap.size + 1 = R at HC1 ⊢
 generalize w.heap.size = C at HC1 ⊢
 have c1 := HC1.out.told.lies.lies.c1
 have l0 := HC1.out.told.lies.rowlt.1
 have b0 := bk_cell HC1.out.call 0
 have b1 := bk_cell HC1.out.call 1
 have b2 := bk_cell HC1.out.call 2
 have b3 := bk_cell HC1.out.call 3
 have b4 := bk_cell HC1.out.call 4
 have lb := bk_lt HC1.out.call
 have fa0 := bk_free HC1.out.ans 0
 have fa1 := bk_free HC1.out.ans 1
 have a0 := bk_cell HC1.out.ans 0
 have a1 := bk_cell HC1.out.ans 1
 have la := bk_lt HC1.out.ans
 have fr0 := bk_free HC1.out.res 0
 have fr1 := bk_free HC1.out.res 1
 have r0 := bk_cell HC1.out.res 0
 have r1 := bk_cell HC1.out.res 1
 have lr := bk_lt HC1.out.res
 have ne1 := HC1.out.ne
 go_wp2_with fail
 refine (HG.out _ HC1.out.told.lies).mono ?_
 rintro x w2 ⟨rfl, hk, ho⟩
 have D := Lib.hid (HC1.out.done hk ho)
 clear hk ho c1 l0 b0 b1 b2 b3 b4 lb fa0 fa1 a0 a1 la fr0 fr1 r0 r1 lr
 have fa0 := bk_free D.out.ans 0
 have fa1 := bk_free D.out.ans 1
 have a0 := bk_cell D.out.ans 0
 have a1 := bk_cell D.out.ans 1
 have la := bk_lt D.out.ans
 have fr0 := bk_free D.out.res 0
 have fr1 := bk_free D.out.res 1
 have r0 := bk_cell D.out.res 0
 have r1 := bk_cell D.out.res 1
 have lr := bk_lt D.out.res
 go_wp2_with fail
 have z0 := bk_cell (res_off (res_off D.out.res D.out.ne 1 (.int .u64 0)) D.out.ne 0 (.int .i64 7)) 0
 have z1 := bk_cell (res_off (res_off D.out.res D.out.ne 1 (.int .u64 0)) D.out.ne 0 (.int .i64 7)) 1
 have T := (((D.out.told.set D.out.aw 1 (.int .u64 0)).set D.out.aw 0 (.int .i64 7)).set D.out.rw 0 (.int .i64 7)).set D.out.rw 1 (.int .u64 0)
 refine bodyPost_ret (v := .tuple #[.agg #[.int .i64 7, .int .u64 0], .bool true]) (by simp [results, Tryz.results48, go_sem, z0, z1]) rfl ⟨rfl, T.lies, T.only⟩
set_option maxRecDepth 100000 in
set_option maxHeartbeats 1000000 in
theorem plcall_yes21 {e : Nat} (he : e < E) {p a : Nat} (hp : p < 8) (ha : a < 16) (x3 x4 : Int) (hx : wordsIn 21 (p : Int) (a : Int) x3 x4) (hq : withinB (needN 21) (k.pt e p).rights = true) {v : Int} {ks : KernS} (hv : wordT k (k.pt e p).frame.toNat a 21 = v) (hks : wordS k (k.pt e p).frame.toNat a 21 x3 x4 = ks) (w : World) (h : KAt w B E N k) :
  Calls Tryz.prog 48 #[.pointer (some ⟨B 0, 0, none⟩), .int .i64 (e : Int), callV 21 (p : Int) (a : Int) x3 x4] w fun x w' => x = .returned (ansV 0 v true) ∧ KAt w' B E N (ks) ∧ Only (Blk B E) w w' := by
 have HG := Lib.hid (fun W (hW : KAt W B E N k) => placcess_yes he hp ha 21 (p : Int) x3 x4 (by omega) hx hq W hW)
 rw [hv, hks] at HG
 have w1 : IntKind.i64.wrap (p : Int) = (p : Int) := IntWalk.i64_in _ (by omega)
 have w2 : IntKind.i64.wrap (a : Int) = (a : Int) := IntWalk.i64_in _ (by omega)
 obtain ⟨ux3, hux3⟩ : ∃ u, IntKind.i64.wrap x3 = u := ⟨_, rfl⟩
 have HC := Lib.hid (fun n => call_at h 21 (p : Int) (a : Int) x3 x4 n)
 have H3 := Lib.hid h.lies.eE
 clear h he hp ha hq hx hv hks
 go_enter Tryz.func48, Tryz.ntmps48
 go_wp2_with fail
 go_quiet (fail)
 have HC1 := Lib.hid (HC.out nq)
 clear HC
 generalize ((((w.alloc (.cells #[.int .u64 21, .int .u64 (p : Int), .int .u64 (a : Int), .int .u64 x3, .int .u64 x4] 36)).alloc (.cells #[.int .i64 0, .int .u64 0] 41)).alloc (.cells #[.int .i64 0, .int .u64 0] 41)).drewN nq) = wq at HC1 ⊢
 generalize w.heap.size + 1 + 1 = A at HC1 ⊢
 generalize w.heap.size + 1 = R at HC1 ⊢
 generalize w.heap.size = C at HC1 ⊢
 have c1 := HC1.out.told.lies.lies.c1
 have l0 := HC1.out.told.lies.rowlt.1
 have b0 := bk_cell HC1.out.call 0
 have b1 := bk_cell HC1.out.call 1
 have b2 := bk_cell HC1.out.call 2
 have b3 := bk_cell HC1.out.call 3
 have b4 := bk_cell HC1.out.call 4
 have lb := bk_lt HC1.out.call
 have fa0 := bk_free HC1.out.ans 0
 have fa1 := bk_free HC1.out.ans 1
 have a0 := bk_cell HC1.out.ans 0
 have a1 := bk_cell HC1.out.ans 1
 have la := bk_lt HC1.out.ans
 have fr0 := bk_free HC1.out.res 0
 have fr1 := bk_free HC1.out.res 1
 have r0 := bk_cell HC1.out.res 0
 have r1 := bk_cell HC1.out.res 1
 have lr := bk_lt HC1.out.res
 have ne1 := HC1.out.ne
 go_wp2_with fail
 refine (HG.out _ HC1.out.told.lies).mono ?_
 rintro x w2 ⟨rfl, hk, ho⟩
 have D := Lib.hid (HC1.out.done hk ho)
 clear hk ho c1 l0 b0 b1 b2 b3 b4 lb fa0 fa1 a0 a1 la fr0 fr1 r0 r1 lr
 have fa0 := bk_free D.out.ans 0
 have fa1 := bk_free D.out.ans 1
 have a0 := bk_cell D.out.ans 0
 have a1 := bk_cell D.out.ans 1
 have la := bk_lt D.out.ans
 have fr0 := bk_free D.out.res 0
 have fr1 := bk_free D.out.res 1
 have r0 := bk_cell D.out.res 0
 have r1 := bk_cell D.out.res 1
 have lr := bk_lt D.out.res
 go_wp2_with fail
 have z0 := bk_cell (res_off (res_off D.out.res D.out.ne 1 (.int .u64 v)) D.out.ne 0 (.int .i64 0)) 0
 have z1 := bk_cell (res_off (res_off D.out.res D.out.ne 1 (.int .u64 v)) D.out.ne 0 (.int .i64 0)) 1
 have T := (((D.out.told.set D.out.aw 1 (.int .u64 v)).set D.out.aw 0 (.int .i64 0)).set D.out.rw 0 (.int .i64 0)).set D.out.rw 1 (.int .u64 v)
 refine bodyPost_ret (v := .tuple #[.agg #[.int .i64 0, .int .u64 v], .bool true]) (by simp [results, Tryz.results48, go_sem, z0, z1]) rfl ⟨rfl, T.lies, T.only⟩
set_option maxRecDepth 100000 in
set_option maxHeartbeats 1000000 in
theorem plcall_no22 {e : Nat} (he : e < E) {p a : Nat} (hp : p < 8) (ha : a < 16) (x3 x4 : Int) (hq : withinB (needN 22) (k.pt e p).rights = false) (w : World) (h : KAt w B E N k) :
  Calls Tryz.prog 48 #[.pointer (some ⟨B 0, 0, none⟩), .int .i64 (e : Int), callV 22 (p : Int) (a : Int) x3 x4] w fun x w' => x = .returned (ansV 7 0 true) ∧ KAt w' B E N (k) ∧ Only (Blk B E) w w' := by
 have HG := Lib.hid (fun W (hW : KAt W B E N k) => (placcess_no he hp 22 (p : Int) (a : Int) x3 x4 (by omega) hq W hW).mono fun _ _ ⟨h1, h2⟩ => (⟨h1, hW.later h2, Only.below h2⟩ : _ ∧ KAt _ B E N k ∧ Only (Blk B E) W _))
 have w1 : IntKind.i64.wrap (p : Int) = (p : Int) := IntWalk.i64_in _ (by omega)
 have w2 : IntKind.i64.wrap (a : Int) = (a : Int) := IntWalk.i64_in _ (by omega)
 obtain ⟨ux3, hux3⟩ : ∃ u, IntKind.i64.wrap x3 = u := ⟨_, rfl⟩
 have HC := Lib.hid (fun n => call_at h 22 (p : Int) (a : Int) x3 x4 n)
 have H3 := Lib.hid h.lies.eE
 clear h he hp ha hq
 go_enter Tryz.func48, Tryz.ntmps48
 go_wp2_with fail
 go_quiet (fail)
 have HC1 := Lib.hid (HC.out nq)
 clear HC
 generalize ((((w.alloc (.cells #[.int .u64 22, .int .u64 (p : Int), .int .u64 (a : Int), .int .u64 x3, .int .u64 x4] 36)).alloc (.cells #[.int .i64 0, .int .u64 0] 41)).alloc (.cells #[.int .i64 0, .int .u64 0] 41)).drewN nq) = wq at HC1 ⊢
 generalize w.heap.size + 1 + 1 = A at HC1 ⊢
 generalize w.heap.size + 1 = R at HC1 ⊢
 generalize w.heap.size = C at HC1 ⊢
 have c1 := HC1.out.told.lies.lies.c1
 have l0 := HC1.out.told.lies.rowlt.1
 have b0 := bk_cell HC1.out.call 0
 have b1 := bk_cell HC1.out.call 1
 have b2 := bk_cell HC1.out.call 2
 have b3 := bk_cell HC1.out.call 3
 have b4 := bk_cell HC1.out.call 4
 have lb := bk_lt HC1.out.call
 have fa0 := bk_free HC1.out.ans 0
 have fa1 := bk_free HC1.out.ans 1
 have a0 := bk_cell HC1.out.ans 0
 have a1 := bk_cell HC1.out.ans 1
 have la := bk_lt HC1.out.ans
 have fr0 := bk_free HC1.out.res 0
 have fr1 := bk_free HC1.out.res 1
 have r0 := bk_cell HC1.out.res 0
 have r1 := bk_cell HC1.out.res 1
 have lr := bk_lt HC1.out.res
 have ne1 := HC1.out.ne
 go_wp2_with fail
 refine (HG.out _ HC1.out.told.lies).mono ?_
 rintro x w2 ⟨rfl, hk, ho⟩
 have D := Lib.hid (HC1.out.done hk ho)
 clear hk ho c1 l0 b0 b1 b2 b3 b4 lb fa0 fa1 a0 a1 la fr0 fr1 r0 r1 lr
 have fa0 := bk_free D.out.ans 0
 have fa1 := bk_free D.out.ans 1
 have a0 := bk_cell D.out.ans 0
 have a1 := bk_cell D.out.ans 1
 have la := bk_lt D.out.ans
 have fr0 := bk_free D.out.res 0
 have fr1 := bk_free D.out.res 1
 have r0 := bk_cell D.out.res 0
 have r1 := bk_cell D.out.res 1
 have lr := bk_lt D.out.res
 go_wp2_with fail
 have z0 := bk_cell (res_off (res_off D.out.res D.out.ne 1 (.int .u64 0)) D.out.ne 0 (.int .i64 7)) 0
 have z1 := bk_cell (res_off (res_off D.out.res D.out.ne 1 (.int .u64 0)) D.out.ne 0 (.int .i64 7)) 1
 have T := (((D.out.told.set D.out.aw 1 (.int .u64 0)).set D.out.aw 0 (.int .i64 7)).set D.out.rw 0 (.int .i64 7)).set D.out.rw 1 (.int .u64 0)
 refine bodyPost_ret (v := .tuple #[.agg #[.int .i64 7, .int .u64 0], .bool true]) (by simp [results, Tryz.results48, go_sem, z0, z1]) rfl ⟨rfl, T.lies, T.only⟩
set_option maxRecDepth 100000 in
set_option maxHeartbeats 1000000 in
theorem plcall_yes22 {e : Nat} (he : e < E) {p a : Nat} (hp : p < 8) (ha : a < 16) (x3 x4 : Int) (hx : wordsIn 22 (p : Int) (a : Int) x3 x4) (hq : withinB (needN 22) (k.pt e p).rights = true) {v : Int} {ks : KernS} (hv : wordT k (k.pt e p).frame.toNat a 22 = v) (hks : wordS k (k.pt e p).frame.toNat a 22 x3 x4 = ks) (w : World) (h : KAt w B E N k) :
  Calls Tryz.prog 48 #[.pointer (some ⟨B 0, 0, none⟩), .int .i64 (e : Int), callV 22 (p : Int) (a : Int) x3 x4] w fun x w' => x = .returned (ansV 0 v true) ∧ KAt w' B E N (ks) ∧ Only (Blk B E) w w' := by
 have HG := Lib.hid (fun W (hW : KAt W B E N k) => placcess_yes he hp ha 22 (p : Int) x3 x4 (by omega) hx hq W hW)
 rw [hv, hks] at HG
 have w1 : IntKind.i64.wrap (p : Int) = (p : Int) := IntWalk.i64_in _ (by omega)
 have w2 : IntKind.i64.wrap (a : Int) = (a : Int) := IntWalk.i64_in _ (by omega)
 obtain ⟨ux3, hux3⟩ : ∃ u, IntKind.i64.wrap x3 = u := ⟨_, rfl⟩
 have HC := Lib.hid (fun n => call_at h 22 (p : Int) (a : Int) x3 x4 n)
 have H3 := Lib.hid h.lies.eE
 clear h he hp ha hq hx hv hks
 go_enter Tryz.func48, Tryz.ntmps48
 go_wp2_with fail
 go_quiet (fail)
 have HC1 := Lib.hid (HC.out nq)
 clear HC
 generalize ((((w.alloc (.cells #[.int .u64 22, .int .u64 (p : Int), .int .u64 (a : Int), .int .u64 x3, .int .u64 x4] 36)).alloc (.cells #[.int .i64 0, .int .u64 0] 41)).alloc (.cells #[.int .i64 0, .int .u64 0] 41)).drewN nq) = wq at HC1 ⊢
 generalize w.heap.size + 1 + 1 = A at HC1 ⊢
 generalize w.heap.size + 1 = R at HC1 ⊢
 generalize w.heap.size = C at HC1 ⊢
 have c1 := HC1.out.told.lies.lies.c1
 have l0 := HC1.out.told.lies.rowlt.1
 have b0 := bk_cell HC1.out.call 0
 have b1 := bk_cell HC1.out.call 1
 have b2 := bk_cell HC1.out.call 2
 have b3 := bk_cell HC1.out.call 3
 have b4 := bk_cell HC1.out.call 4
 have lb := bk_lt HC1.out.call
 have fa0 := bk_free HC1.out.ans 0
 have fa1 := bk_free HC1.out.ans 1
 have a0 := bk_cell HC1.out.ans 0
 have a1 := bk_cell HC1.out.ans 1
 have la := bk_lt HC1.out.ans
 have fr0 := bk_free HC1.out.res 0
 have fr1 := bk_free HC1.out.res 1
 have r0 := bk_cell HC1.out.res 0
 have r1 := bk_cell HC1.out.res 1
 have lr := bk_lt HC1.out.res
 have ne1 := HC1.out.ne
 go_wp2_with fail
 refine (HG.out _ HC1.out.told.lies).mono ?_
 rintro x w2 ⟨rfl, hk, ho⟩
 have D := Lib.hid (HC1.out.done hk ho)
 clear hk ho c1 l0 b0 b1 b2 b3 b4 lb fa0 fa1 a0 a1 la fr0 fr1 r0 r1 lr
 have fa0 := bk_free D.out.ans 0
 have fa1 := bk_free D.out.ans 1
 have a0 := bk_cell D.out.ans 0
 have a1 := bk_cell D.out.ans 1
 have la := bk_lt D.out.ans
 have fr0 := bk_free D.out.res 0
 have fr1 := bk_free D.out.res 1
 have r0 := bk_cell D.out.res 0
 have r1 := bk_cell D.out.res 1
 have lr := bk_lt D.out.res
 go_wp2_with fail
 have z0 := bk_cell (res_off (res_off D.out.res D.out.ne 1 (.int .u64 v)) D.out.ne 0 (.int .i64 0)) 0
 have z1 := bk_cell (res_off (res_off D.out.res D.out.ne 1 (.int .u64 v)) D.out.ne 0 (.int .i64 0)) 1
 have T := (((D.out.told.set D.out.aw 1 (.int .u64 v)).set D.out.aw 0 (.int .i64 0)).set D.out.rw 0 (.int .i64 0)).set D.out.rw 1 (.int .u64 v)
 refine bodyPost_ret (v := .tuple #[.agg #[.int .i64 0, .int .u64 v], .bool true]) (by simp [results, Tryz.results48, go_sem, z0, z1]) rfl ⟨rfl, T.lies, T.only⟩
set_option maxRecDepth 100000 in
set_option maxHeartbeats 1000000 in
theorem plcall_no23 {e : Nat} (he : e < E) {p a : Nat} (hp : p < 8) (ha : a < 16) (x3 x4 : Int) (hq : withinB (needN 23) (k.pt e p).rights = false) (w : World) (h : KAt w B E N k) :
  Calls Tryz.prog 48 #[.pointer (some ⟨B 0, 0, none⟩), .int .i64 (e : Int), callV 23 (p : Int) (a : Int) x3 x4] w fun x w' => x = .returned (ansV 7 0 true) ∧ KAt w' B E N (k) ∧ Only (Blk B E) w w' := by
 have HG := Lib.hid (fun W (hW : KAt W B E N k) => (placcess_no he hp 23 (p : Int) (a : Int) x3 x4 (by omega) hq W hW).mono fun _ _ ⟨h1, h2⟩ => (⟨h1, hW.later h2, Only.below h2⟩ : _ ∧ KAt _ B E N k ∧ Only (Blk B E) W _))
 have w1 : IntKind.i64.wrap (p : Int) = (p : Int) := IntWalk.i64_in _ (by omega)
 have w2 : IntKind.i64.wrap (a : Int) = (a : Int) := IntWalk.i64_in _ (by omega)
 obtain ⟨ux3, hux3⟩ : ∃ u, IntKind.i64.wrap x3 = u := ⟨_, rfl⟩
 have HC := Lib.hid (fun n => call_at h 23 (p : Int) (a : Int) x3 x4 n)
 have H3 := Lib.hid h.lies.eE
 clear h he hp ha hq
 go_enter Tryz.func48, Tryz.ntmps48
 go_wp2_with fail
 go_quiet (fail)
 have HC1 := Lib.hid (HC.out nq)
 clear HC
 generalize ((((w.alloc (.cells #[.int .u64 23, .int .u64 (p : Int), .int .u64 (a : Int), .int .u64 x3, .int .u64 x4] 36)).alloc (.cells #[.int .i64 0, .int .u64 0] 41)).alloc (.cells #[.int .i64 0, .int .u64 0] 41)).drewN nq) = wq at HC1 ⊢
 generalize w.heap.size + 1 + 1 = A at HC1 ⊢
 generalize w.heap.size + 1 = R at HC1 ⊢
 generalize w.heap.size = C at HC1 ⊢
 have c1 := HC1.out.told.lies.lies.c1
 have l0 := HC1.out.told.lies.rowlt.1
 have b0 := bk_cell HC1.out.call 0
 have b1 := bk_cell HC1.out.call 1
 have b2 := bk_cell HC1.out.call 2
 have b3 := bk_cell HC1.out.call 3
 have b4 := bk_cell HC1.out.call 4
 have lb := bk_lt HC1.out.call
 have fa0 := bk_free HC1.out.ans 0
 have fa1 := bk_free HC1.out.ans 1
 have a0 := bk_cell HC1.out.ans 0
 have a1 := bk_cell HC1.out.ans 1
 have la := bk_lt HC1.out.ans
 have fr0 := bk_free HC1.out.res 0
 have fr1 := bk_free HC1.out.res 1
 have r0 := bk_cell HC1.out.res 0
 have r1 := bk_cell HC1.out.res 1
 have lr := bk_lt HC1.out.res
 have ne1 := HC1.out.ne
 go_wp2_with fail
 refine (HG.out _ HC1.out.told.lies).mono ?_
 rintro x w2 ⟨rfl, hk, ho⟩
 have D := Lib.hid (HC1.out.done hk ho)
 clear hk ho c1 l0 b0 b1 b2 b3 b4 lb fa0 fa1 a0 a1 la fr0 fr1 r0 r1 lr
 have fa0 := bk_free D.out.ans 0
 have fa1 := bk_free D.out.ans 1
 have a0 := bk_cell D.out.ans 0
 have a1 := bk_cell D.out.ans 1
 have la := bk_lt D.out.ans
 have fr0 := bk_free D.out.res 0
 have fr1 := bk_free D.out.res 1
 have r0 := bk_cell D.out.res 0
 have r1 := bk_cell D.out.res 1
 have lr := bk_lt D.out.res
 go_wp2_with fail
 have z0 := bk_cell (res_off (res_off D.out.res D.out.ne 1 (.int .u64 0)) D.out.ne 0 (.int .i64 7)) 0
 have z1 := bk_cell (res_off (res_off D.out.res D.out.ne 1 (.int .u64 0)) D.out.ne 0 (.int .i64 7)) 1
 have T := (((D.out.told.set D.out.aw 1 (.int .u64 0)).set D.out.aw 0 (.int .i64 7)).set D.out.rw 0 (.int .i64 7)).set D.out.rw 1 (.int .u64 0)
 refine bodyPost_ret (v := .tuple #[.agg #[.int .i64 7, .int .u64 0], .bool true]) (by simp [results, Tryz.results48, go_sem, z0, z1]) rfl ⟨rfl, T.lies, T.only⟩
set_option maxRecDepth 100000 in
set_option maxHeartbeats 1000000 in
theorem plcall_yes23 {e : Nat} (he : e < E) {p a : Nat} (hp : p < 8) (ha : a < 16) (x3 x4 : Int) (hx : wordsIn 23 (p : Int) (a : Int) x3 x4) (hq : withinB (needN 23) (k.pt e p).rights = true) {v : Int} {ks : KernS} (hv : wordT k (k.pt e p).frame.toNat a 23 = v) (hks : wordS k (k.pt e p).frame.toNat a 23 x3 x4 = ks) (w : World) (h : KAt w B E N k) :
  Calls Tryz.prog 48 #[.pointer (some ⟨B 0, 0, none⟩), .int .i64 (e : Int), callV 23 (p : Int) (a : Int) x3 x4] w fun x w' => x = .returned (ansV 0 v true) ∧ KAt w' B E N (ks) ∧ Only (Blk B E) w w' := by
 have HG := Lib.hid (fun W (hW : KAt W B E N k) => placcess_yes he hp ha 23 (p : Int) x3 x4 (by omega) hx hq W hW)
 rw [hv, hks] at HG
 have w1 : IntKind.i64.wrap (p : Int) = (p : Int) := IntWalk.i64_in _ (by omega)
 have w2 : IntKind.i64.wrap (a : Int) = (a : Int) := IntWalk.i64_in _ (by omega)
 obtain ⟨ux3, hux3⟩ : ∃ u, IntKind.i64.wrap x3 = u := ⟨_, rfl⟩
 have HC := Lib.hid (fun n => call_at h 23 (p : Int) (a : Int) x3 x4 n)
 have H3 := Lib.hid h.lies.eE
 clear h he hp ha hq hx hv hks
 go_enter Tryz.func48, Tryz.ntmps48
 go_wp2_with fail
 go_quiet (fail)
 have HC1 := Lib.hid (HC.out nq)
 clear HC
 generalize ((((w.alloc (.cells #[.int .u64 23, .int .u64 (p : Int), .int .u64 (a : Int), .int .u64 x3, .int .u64 x4] 36)).alloc (.cells #[.int .i64 0, .int .u64 0] 41)).alloc (.cells #[.int .i64 0, .int .u64 0] 41)).drewN nq) = wq at HC1 ⊢
 generalize w.heap.size + 1 + 1 = A at HC1 ⊢
 generalize w.heap.size + 1 = R at HC1 ⊢
 generalize w.heap.size = C at HC1 ⊢
 have c1 := HC1.out.told.lies.lies.c1
 have l0 := HC1.out.told.lies.rowlt.1
 have b0 := bk_cell HC1.out.call 0
 have b1 := bk_cell HC1.out.call 1
 have b2 := bk_cell HC1.out.call 2
 have b3 := bk_cell HC1.out.call 3
 have b4 := bk_cell HC1.out.call 4
 have lb := bk_lt HC1.out.call
 have fa0 := bk_free HC1.out.ans 0
 have fa1 := bk_free HC1.out.ans 1
 have a0 := bk_cell HC1.out.ans 0
 have a1 := bk_cell HC1.out.ans 1
 have la := bk_lt HC1.out.ans
 have fr0 := bk_free HC1.out.res 0
 have fr1 := bk_free HC1.out.res 1
 have r0 := bk_cell HC1.out.res 0
 have r1 := bk_cell HC1.out.res 1
 have lr := bk_lt HC1.out.res
 have ne1 := HC1.out.ne
 go_wp2_with fail
 refine (HG.out _ HC1.out.told.lies).mono ?_
 rintro x w2 ⟨rfl, hk, ho⟩
 have D := Lib.hid (HC1.out.done hk ho)
 clear hk ho c1 l0 b0 b1 b2 b3 b4 lb fa0 fa1 a0 a1 la fr0 fr1 r0 r1 lr
 have fa0 := bk_free D.out.ans 0
 have fa1 := bk_free D.out.ans 1
 have a0 := bk_cell D.out.ans 0
 have a1 := bk_cell D.out.ans 1
 have la := bk_lt D.out.ans
 have fr0 := bk_free D.out.res 0
 have fr1 := bk_free D.out.res 1
 have r0 := bk_cell D.out.res 0
 have r1 := bk_cell D.out.res 1
 have lr := bk_lt D.out.res
 go_wp2_with fail
 have z0 := bk_cell (res_off (res_off D.out.res D.out.ne 1 (.int .u64 v)) D.out.ne 0 (.int .i64 0)) 0
 have z1 := bk_cell (res_off (res_off D.out.res D.out.ne 1 (.int .u64 v)) D.out.ne 0 (.int .i64 0)) 1
 have T := (((D.out.told.set D.out.aw 1 (.int .u64 v)).set D.out.aw 0 (.int .i64 0)).set D.out.rw 0 (.int .i64 0)).set D.out.rw 1 (.int .u64 v)
 refine bodyPost_ret (v := .tuple #[.agg #[.int .i64 0, .int .u64 v], .bool true]) (by simp [results, Tryz.results48, go_sem, z0, z1]) rfl ⟨rfl, T.lies, T.only⟩
end
end Go.Proofs.YtdfhfmdelinemaaGreatDoor

