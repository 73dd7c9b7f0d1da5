/- What is proved here: contracts of package plain: Do, New. Conditions: those that each theorem names. -/
import Derived.Test.YtdfhfmdelinemaaGreatDoorPCall
import Derived.Test.YtdfhfmdelinemaaGreatDoorGWord
import Derived.Test.YtdfhfmdelinemaaGreatDoorGPlA
import Derived.Test.YtdfhfmdelinemaaGreatDoorGParts
import Derived.RegionTactic
import Derived.Deep.RegionHeld3
import Derived.Deep.CutBlock
import Derived.Deep.DeepCutAuto
namespace Go.Proofs.YtdfhfmdelinemaaGreatDoor
open Go.RowKit Go.Extern.Stop Go.Stop Go.Extern Go.WalkArith
section
variable {B : Nat → Nat} {E N : Nat} {k : KernS} {w W : World}
theorem plsleep_any {e s a : Nat} (he : e < E) (hs : s < 8) (ha : a < 16) {op x n v : Int} {b : Bool} {ks : KernS} (hq : kcall k e 9 (s : Int) (a : Int) op x = (ks, n, v, b)) (w : World) (h : KAt w B E N k) :
  ks = k ∧ Calls Tryz.prog 106 #[.pointer (some ⟨B 0, 0, none⟩), .int .i64 (e : Int), .int .i64 (s : Int), .int .i64 (a : Int), .int .i64 op, .int .u64 x] w fun y w' => y = .returned (ansV n v b) ∧ Below w.heap.size w w' := by
 have h0 : kcall k e 9 (s : Int) (a : Int) op x = if (k.sl e s).is = true then
   if (k.sl e s).rights % 2 = 0 then (k, 5, 0, true)
   else if holdsB op (k.mm (k.sl e s).frame.toNat a) x = true then (k, 0, k.mm (k.sl e s).frame.toNat a, true) else (k, 0, 0, false)
  else ((k, 3, 0, true) : KernS × Int × Int × Bool) := rfl
 rw [h0] at hq
 cases hi : (k.sl e s).is
 ·rw [if_neg (by rw [hi]; decide)] at hq
  obtain ⟨rfl, rfl, rfl, rfl⟩ : k = ks ∧ 3 = n ∧ 0 = v ∧ true = b := by simpa using hq
  exact ⟨rfl, plsleep_none he hs hi w h⟩
 ·rw [if_pos hi] at hq
  have hr := h.fit.tree.rights e s hi
  by_cases h2 : (k.sl e s).rights % 2 = 0
  ·rw [if_pos h2] at hq
   obtain ⟨rfl, rfl, rfl, rfl⟩ : k = ks ∧ 5 = n ∧ 0 = v ∧ true = b := by simpa using hq
   refine ⟨rfl, plsleep_rights he hs hi ?_ w h⟩
   have : (k.sl e s).rights = 2 := by omega
   rw [this]
   decide
  ·rw [if_neg h2] at hq
   have hw : withinB 1 (k.sl e s).rights = true := by
    have : (k.sl e s).rights = 1 ∨ (k.sl e s).rights = 3 := by omega
    rcases this with h3 | h3 <;> rw [h3] <;> decide
   have h5 := plsleep_some (op := op) (v := x) he hs ha hi hw rfl w h
   by_cases h4 : holdsB op (k.mm (k.sl e s).frame.toNat a) x = true
   ·rw [if_pos h4] at hq h5
    obtain ⟨rfl, rfl, rfl, rfl⟩ : k = ks ∧ 0 = n ∧ k.mm (k.sl e s).frame.toNat a = v ∧ true = b := by simpa using hq
    exact ⟨rfl, h5⟩
   ·rw [if_neg h4] at hq h5
    obtain ⟨rfl, rfl, rfl, rfl⟩ : k = ks ∧ 0 = n ∧ 0 = v ∧ false = b := by simpa using hq
    exact ⟨rfl, h5⟩
set_option maxRecDepth 100000 in
set_option maxHeartbeats 1000000 in
theorem plcall_sleep {e : Nat} (he : e < E) {s a : Nat} (hs : s < 8) (ha : a < 16) (op x : Int) (ho4 : 1 ≤ op ∧ op ≤ 4) {n v : Int} {b : Bool} {ks : KernS} (hq : kcall k e 9 (s : Int) (a : Int) op x = (ks, n, v, b)) (w : World) (h : KAt w B E N k) :
  Calls Tryz.prog 48 #[.pointer (some ⟨B 0, 0, none⟩), .int .i64 (e : Int), callV 9 (s : Int) (a : Int) op x] w fun x w' => x = .returned (ansV n v b) ∧ KAt w' B E N (ks) ∧ Only (Blk B E) w w' := by
 obtain rfl := (plsleep_any he hs ha hq w h).1
 have HG := Lib.hid (fun W (hW : KAt W B E N ks) => (plsleep_any he hs ha hq W hW).2)
 unfold ansV at HG
 have w1 : IntKind.i64.wrap (s : Int) = (s : Int) := IntWalk.i64_in _ (by omega)
 have w2 : IntKind.i64.wrap (a : Int) = (a : Int) := IntWalk.i64_in _ (by omega)
 have w3 : IntKind.i64.wrap op = op := IntWalk.i64_in _ (by omega)
 have HC := Lib.hid (fun n => call_at h 9 (s : Int) (a : Int) op x n)
 have H3 := Lib.hid h.lies.eE
 clear h he hs ha ho4 hq
 go_enter Tryz.func48, Tryz.ntmps48
 go_wp2_with fail
 go_quiet (fail)
 have HC1 := Lib.hid (HC.out nq)
 clear HC
 generalize ((((w.alloc (.cells #[.int .u64 9, .int .u64 (s : Int), .int .u64 (a : Int), .int .u64 op, .int .u64 x] 36)).alloc (.cells #[.int .i64 0, .int .u64 0] 41)).alloc (.cells #[.int .i64 0, .int .u64 0] 41)).drewN nq) = wq at HC1 ⊢
 generalize w.heap.size + 1 + 1 = A at HC1 ⊢
 generalize w.heap.size + 1 = R at HC1 ⊢
 generalize w.heap.size = C at HC1 ⊢
 have c1 := HC1.out.told.lies.lies.c1
 have l0 := HC1.out.told.lies.rowlt.1
 have b0 := bk_cell HC1.out.call 0
 have b1 := bk_cell HC1.out.call 1
 have b2 := bk_cell HC1.out.call 2
 have b3 := bk_cell HC1.out.call 3
 have b4 := bk_cell HC1.out.call 4
 have lb := bk_lt HC1.out.call
 have fa0 := bk_free HC1.out.ans 0
 have fa1 := bk_free HC1.out.ans 1
 have a0 := bk_cell HC1.out.ans 0
 have a1 := bk_cell HC1.out.ans 1
 have la := bk_lt HC1.out.ans
 have fr0 := bk_free HC1.out.res 0
 have fr1 := bk_free HC1.out.res 1
 have r0 := bk_cell HC1.out.res 0
 have r1 := bk_cell HC1.out.res 1
 have lr := bk_lt HC1.out.res
 have ne1 := HC1.out.ne
 go_wp2_with fail
 refine (HG.out _ HC1.out.told.lies).mono ?_
 rintro y w2 ⟨rfl, hb⟩
 have hk := HC1.out.told.lies.later hb
 have ho : Only (Blk B E) wq w2 := Only.below hb
 clear hb
 have D := Lib.hid (HC1.out.done hk ho)
 clear hk ho c1 l0 b0 b1 b2 b3 b4 lb fa0 fa1 a0 a1 la fr0 fr1 r0 r1 lr
 have fa0 := bk_free D.out.ans 0
 have fa1 := bk_free D.out.ans 1
 have a0 := bk_cell D.out.ans 0
 have a1 := bk_cell D.out.ans 1
 have la := bk_lt D.out.ans
 have fr0 := bk_free D.out.res 0
 have fr1 := bk_free D.out.res 1
 have r0 := bk_cell D.out.res 0
 have r1 := bk_cell D.out.res 1
 have lr := bk_lt D.out.res
 go_wp2_with fail
 have T := (D.out.told.set D.out.rw 0 (.int .i64 n)).set D.out.rw 1 (.int .u64 v)
 refine bodyPost_ret (v := .tuple #[.agg #[.int .i64 n, .int .u64 v], .bool b]) (by simp [results, Tryz.results48, go_sem, r0, r1]) rfl ⟨rfl, T.lies, T.only⟩
theorem told_of {args : Array Value} {F : Nat} {r r' : KernS × Int × Int × Bool} (hr : r = r') (h : Calls Tryz.prog F args w fun x w' => x = .returned (ansV r'.2.1 r'.2.2.1 r'.2.2.2) ∧ KAt w' B E N r'.1 ∧ Only (Blk B E) w w') : Calls Tryz.prog F args w fun x w' => x = .returned (ansV r.2.1 r.2.2.1 r.2.2.2) ∧ KAt w' B E N r.1 ∧ Only (Blk B E) w w' := by
 rw [hr]
 exact h
set_option maxHeartbeats 1000000 in
theorem plcall_any {e : Nat} (he : e < E) (x0 x1 x2 x3 x4 : Int) (hx : wordsIn x0 x1 x2 x3 x4) (hc : chkN x0 x1 x2 x3 x4 k.envs = 0) (w : World) (h : KAt w B E N k) :
  Calls Tryz.prog 48 #[.pointer (some ⟨B 0, 0, none⟩), .int .i64 (e : Int), callV x0 x1 x2 x3 x4] w fun x w' => x = .returned (ansV (kcall k e x0 x1 x2 x3 x4).2.1 (kcall k e x0 x1 x2 x3 x4).2.2.1 (kcall k e x0 x1 x2 x3 x4).2.2.2) ∧ KAt w' B E N (kcall k e x0 x1 x2 x3 x4).1 ∧ Only (Blk B E) w w' := by
 have hE := h.envs
 have h4 := h.lies.eE
 obtain ⟨s, rfl⟩ := nat_of hx.2.1.1
 obtain ⟨d, rfl⟩ := nat_of hx.2.2.1.1
 rcases kind_cases (chk_kind hc) with rfl | rfl | rfl | rfl | rfl | rfl | rfl | rfl | rfl | rfl | rfl | rfl | rfl | rfl
 ·obtain ⟨b, _⟩ := res4_zero (show res4 (belowB (s : Int) 8) true true true = 0 from hc)
  have hs := below_lt b
  rcases hq : kcall k e 1 (s : Int) (d : Int) x3 x4 with ⟨ks, n, v, b⟩
  obtain ⟨⟨rfl, rfl⟩, _⟩ := plalloc_any he (by omega) hq w h
  exact plcall_alloc he (by omega) (d : Int) x3 x4 hq w h
 ·obtain ⟨b0, b1, b2, _⟩ := res4_zero (show res4 (belowB (s : Int) 8) (belowB (d : Int) 8) (rightsB x3) true = 0 from hc)
  have h0 := below_lt b0
  have h1 := below_lt b1
  have h2 : 1 ≤ x3 ∧ x3 ≤ 3 := of_decide_eq_true b2
  exact plcall_derive he (by omega) (by omega) x3 x4 h2 rfl rfl w h
 ·obtain ⟨t, rfl⟩ := nat_of hx.2.2.2.1.1
  obtain ⟨b0, b1, b2, b3⟩ := res4_zero (show res4 (belowB (s : Int) 8) (belowB (d : Int) k.envs) (belowB (t : Int) 8) (rightsB x4) = 0 from hc)
  have h0 := below_lt b0
  have h1 := below_lt b1
  have h2 := below_lt b2
  have h3 : 1 ≤ x4 ∧ x4 ≤ 3 := of_decide_eq_true b3
  exact plcall_grant he (by omega) (by omega) (by omega) x4 h3 rfl rfl w h
 ·obtain ⟨b, _⟩ := res4_zero (show res4 (belowB (s : Int) 8) true true true = 0 from hc)
  have hs := below_lt b
  have hin : inB k (e : Int) (s : Int) = true := by
   unfold inB
   exact decide_eq_true ⟨by omega, by omega, by omega, by omega⟩
  cases hi : (k.sl e s).is
  ·have h0 : tgoneE k (e : Int) (s : Int) = 3 := by
    unfold tgoneE
    rw [if_pos hin, Int.toNat_natCast, Int.toNat_natCast, if_neg (by rw [hi]; decide)]
   obtain ⟨e1, e2⟩ := tgone_no (it := false) (k := k) (e := (e : Int)) (s := (s : Int)) (by rw [h0]; decide)
   refine told_of (r' := (k, 3, 0, true)) (by simp [kcall, hi]) ?_
   exact plcall_revoke he (by omega) (d : Int) x3 x4 h0 (by rw [e1]; rfl) e2 w h
  ·have h0 : tgoneE k (e : Int) (s : Int) = 0 := by
    unfold tgoneE
    rw [if_pos hin, Int.toNat_natCast, Int.toNat_natCast, if_pos hi]
   have hL : tgoneL k (e : Int) (s : Int) false = belowL k (e * 8 + s) 32 := by
    unfold tgoneL
    rw [if_pos h0, Int.toNat_natCast, Int.toNat_natCast, gone_below]
   refine told_of (r' := (goneF k (belowL k (e * 8 + s) 32), 0, ((belowL k (e * 8 + s) 32).length : Nat), true)) (by simp [kcall, hi]) ?_
   exact plcall_revoke he (by omega) (d : Int) x3 x4 h0 (by rw [hL]) (by unfold tgoneS; rw [hL]) w h
 ·obtain ⟨b, _⟩ := res4_zero (show res4 (belowB (s : Int) 8) true true true = 0 from hc)
  have hs := below_lt b
  have hin : inB k (e : Int) (s : Int) = true := by
   unfold inB
   exact decide_eq_true ⟨by omega, by omega, by omega, by omega⟩
  cases hi : (k.sl e s).is
  ·have h0 : tgoneE k (e : Int) (s : Int) = 3 := by
    unfold tgoneE
    rw [if_pos hin, Int.toNat_natCast, Int.toNat_natCast, if_neg (by rw [hi]; decide)]
   obtain ⟨e1, e2⟩ := tgone_no (it := true) (k := k) (e := (e : Int)) (s := (s : Int)) (by rw [h0]; decide)
   refine told_of (r' := (k, 3, 0, true)) (by simp [kcall, hi]) ?_
   exact plcall_drop he (by omega) (d : Int) x3 x4 h0 (by rw [e1]; rfl) e2 w h
  ·have h0 : tgoneE k (e : Int) (s : Int) = 0 := by
    unfold tgoneE
    rw [if_pos hin, Int.toNat_natCast, Int.toNat_natCast, if_pos hi]
   have hL : tgoneL k (e : Int) (s : Int) true = goneL k (e * 8 + s) true := by
    unfold tgoneL
    rw [if_pos h0, Int.toNat_natCast, Int.toNat_natCast]
   refine told_of (r' := (goneF k (belowL k (e * 8 + s) 32 ++ [e * 8 + s]), 0, ((belowL k (e * 8 + s) 32 ++ [e * 8 + s]).length : Nat), true)) (by simp [kcall, hi]) ?_
   exact plcall_drop he (by omega) (d : Int) x3 x4 h0 (by rw [hL, drop_len h.fit.tree (by omega) (by omega) hi]) (by unfold tgoneS; rw [hL, gone_drop (by omega)]) w h
 ·obtain ⟨b0, b1, b2, _⟩ := res4_zero (show res4 (belowB (s : Int) 8) (belowB (d : Int) 8) (rightsB x3) true = 0 from hc)
  have h0 := below_lt b0
  have h1 := below_lt b1
  have h2 : 1 ≤ x3 ∧ x3 ≤ 3 := of_decide_eq_true b2
  exact plcall_map he (by omega) (by omega) x3 x4 h2 rfl rfl w h
 ·obtain ⟨b, _⟩ := res4_zero (show res4 (belowB (s : Int) 8) true true true = 0 from hc)
  have hs := below_lt b
  exact plcall_unmap he (by omega) (d : Int) x3 x4 rfl rfl w h
 ·obtain ⟨b0, b1, _⟩ := res4_zero (show res4 (belowB (s : Int) 8) (rightsB (d : Int)) true true = 0 from hc)
  have h0 := below_lt b0
  have h1 : 1 ≤ (d : Int) ∧ (d : Int) ≤ 3 := of_decide_eq_true b1
  exact plcall_protect he (by omega) (d : Int) x3 x4 h1 rfl rfl w h
 ·obtain ⟨b0, b1, b2, _⟩ := res4_zero (show res4 (belowB (s : Int) 8) (belowB (d : Int) 16) (decide (1 ≤ x3 ∧ x3 ≤ 4)) true = 0 from hc)
  have h0 := below_lt b0
  have h1 := below_lt b1
  have h2 : 1 ≤ x3 ∧ x3 ≤ 4 := of_decide_eq_true b2
  rcases hq : kcall k e 9 (s : Int) (d : Int) x3 x4 with ⟨ks, n, v, b⟩
  exact plcall_sleep he (by omega) (by omega) x3 x4 h2 hq w h
 ·exact plcall_yield he (s : Int) (d : Int) x3 x4 w h
 ·obtain ⟨b0, b1, _⟩ := res4_zero (show res4 (belowB (s : Int) 8) (belowB (d : Int) 16) true true = 0 from hc)
  have h0 := below_lt b0
  have h1 := below_lt b1
  cases hq : withinB (needN 20) (k.pt e s).rights
  ·refine told_of (r' := (k, 7, 0, true)) (by unfold kcall; simp [hq]) ?_
   exact plcall_no20 he (by omega) (by omega) x3 x4 hq w h
  ·refine told_of (r' := (wordS k (k.pt e s).frame.toNat d 20 x3 x4, 0, wordT k (k.pt e s).frame.toNat d 20, true)) (by unfold kcall; simp [hq]) ?_
   exact plcall_yes20 he (by omega) (by omega) x3 x4 hx hq rfl rfl w h
 ·obtain ⟨b0, b1, _⟩ := res4_zero (show res4 (belowB (s : Int) 8) (belowB (d : Int) 16) true true = 0 from hc)
  have h0 := below_lt b0
  have h1 := below_lt b1
  cases hq : withinB (needN 21) (k.pt e s).rights
  ·refine told_of (r' := (k, 7, 0, true)) (by unfold kcall; simp [hq]) ?_
   exact plcall_no21 he (by omega) (by omega) x3 x4 hq w h
  ·refine told_of (r' := (wordS k (k.pt e s).frame.toNat d 21 x3 x4, 0, wordT k (k.pt e s).frame.toNat d 21, true)) (by unfold kcall; simp [hq]) ?_
   exact plcall_yes21 he (by omega) (by omega) x3 x4 hx hq rfl rfl w h
 ·obtain ⟨b0, b1, _⟩ := res4_zero (show res4 (belowB (s : Int) 8) (belowB (d : Int) 16) true true = 0 from hc)
  have h0 := below_lt b0
  have h1 := below_lt b1
  cases hq : withinB (needN 22) (k.pt e s).rights
  ·refine told_of (r' := (k, 7, 0, true)) (by unfold kcall; simp [hq]) ?_
   exact plcall_no22 he (by omega) (by omega) x3 x4 hq w h
  ·refine told_of (r' := (wordS k (k.pt e s).frame.toNat d 22 x3 x4, 0, wordT k (k.pt e s).frame.toNat d 22, true)) (by unfold kcall; simp [hq]) ?_
   exact plcall_yes22 he (by omega) (by omega) x3 x4 hx hq rfl rfl w h
 ·obtain ⟨b0, b1, _⟩ := res4_zero (show res4 (belowB (s : Int) 8) (belowB (d : Int) 16) true true = 0 from hc)
  have h0 := below_lt b0
  have h1 := below_lt b1
  cases hq : withinB (needN 23) (k.pt e s).rights
  ·refine told_of (r' := (k, 7, 0, true)) (by unfold kcall; simp [hq]) ?_
   exact plcall_no23 he (by omega) (by omega) x3 x4 hq w h
  ·refine told_of (r' := (wordS k (k.pt e s).frame.toNat d 23 x3 x4, 0, wordT k (k.pt e s).frame.toNat d 23, true)) (by unfold kcall; simp [hq]) ?_
   exact plcall_yes23 he (by omega) (by omega) x3 x4 hx hq rfl rfl w h
end
end Go.Proofs.YtdfhfmdelinemaaGreatDoor
namespace Go.Proofs.YtdfhfmdelinemaaGreatDoor
open Go.RowKit Go.Extern.Stop Go.Stop Go.Extern Go.WalkArith
section
variable {B : Nat → Nat} {E N : Nat} {k : KernS} {w W : World}
theorem two_at (h : KAt w B E N k) (x0 x1 x2 x3 x4 : Int) :
  Told w ((w.alloc (.cells #[.int .u64 x0, .int .u64 x1, .int .u64 x2, .int .u64 x3, .int .u64 x4] 36)).alloc (.cells #[.int .i64 0, .int .u64 0] 41)) B E N k
   ∧ ((w.alloc (.cells #[.int .u64 x0, .int .u64 x1, .int .u64 x2, .int .u64 x3, .int .u64 x4] 36)).alloc (.cells #[.int .i64 0, .int .u64 0] 41)).heap[w.heap.size]? = some (.cells #[.int .u64 x0, .int .u64 x1, .int .u64 x2, .int .u64 x3, .int .u64 x4] 36 (0, 0))
   ∧ ((w.alloc (.cells #[.int .u64 x0, .int .u64 x1, .int .u64 x2, .int .u64 x3, .int .u64 x4] 36)).alloc (.cells #[.int .i64 0, .int .u64 0] 41)).heap[w.heap.size + 1]? = some (.cells #[.int .i64 0, .int .u64 0] 41 (0, 0)) := by
 have hb : Below w.heap.size w ((w.alloc (.cells #[.int .u64 x0, .int .u64 x1, .int .u64 x2, .int .u64 x3, .int .u64 x4] 36)).alloc (.cells #[.int .i64 0, .int .u64 0] 41)) :=
  ((Below.refl _ _).alloc (Nat.le_refl _) _).alloc (by simp) _
 have e1 := heap_alloc_new w (.cells #[.int .u64 x0, .int .u64 x1, .int .u64 x2, .int .u64 x3, .int .u64 x4] 36)
 have e2 := heap_alloc_new (w.alloc (.cells #[.int .u64 x0, .int .u64 x1, .int .u64 x2, .int .u64 x3, .int .u64 x4] 36)) (.cells #[.int .i64 0, .int .u64 0] 41)
 have s1 : (w.alloc (.cells #[.int .u64 x0, .int .u64 x1, .int .u64 x2, .int .u64 x3, .int .u64 x4] 36)).heap.size = w.heap.size + 1 := by simp
 rw [s1] at e2
 exact ⟨⟨h.later hb, Only.below hb, h.lowB⟩, lift1 e1 _, e2⟩
theorem pldo_off (env x0 x1 x2 x3 x4 : Int) (he : env < 0 ∨ (E : Int) ≤ env) (w : World) (h : KAt w B E N k) :
  Calls Tryz.prog 12 #[.pointer (some ⟨B 0, 0, none⟩), .int .i64 env, callV x0 x1 x2 x3 x4] w fun x w' => x = .returned (ansV 10 0 true) ∧ KAt w' B E N k ∧ Only (Blk B E) w w' := by
 obtain ⟨h1, h2, h3⟩ := two_at h x0 x1 x2 x3 x4
 have T1 := Lib.hid h1
 have R1 := Lib.hid h3
 have HH := Lib.hid (fun W (hW : KAt W B E N k) => plhas_no (P := B 0) (T := B 1) env he W hW.lies.c0)
 clear h h1 h2 h3 he
 go_enter Tryz.func12, Tryz.ntmps12
 go_wp2_with fail
 generalize ((w.alloc (.cells #[.int .u64 x0, .int .u64 x1, .int .u64 x2, .int .u64 x3, .int .u64 x4] 36)).alloc (.cells #[.int .i64 0, .int .u64 0] 41)) = wq at T1 R1 ⊢
 have hR : w.heap.size ≤ w.heap.size + 1 := by omega
 generalize w.heap.size + 1 = R at R1 hR ⊢
 have HR := Lib.hid hR
 clear hR
 refine (HH.out _ T1.out.lies).mono ?_
 rintro x w2 ⟨rfl, rfl⟩
 have fr0 := bk_free R1.out 0
 have fr1 := bk_free R1.out 1
 have r0 := bk_cell R1.out 0
 have r1 := bk_cell R1.out 1
 have lr := bk_lt R1.out
 go_wp2_with fail
 have T := (T1.out.set HR.out 0 (.int .i64 10)).set HR.out 1 (.int .u64 0)
 refine bodyPost_ret (v := .tuple #[.agg #[.int .i64 10, .int .u64 0], .bool true]) (by simp [results, Tryz.results12, go_sem, r0, r1]) rfl ⟨rfl, T.lies, T.only⟩
set_option maxRecDepth 100000 in
theorem pldo_bad {e : Nat} (he : e < E) (x0 x1 x2 x3 x4 : Int) (hx : wordsIn x0 x1 x2 x3 x4) {n : Int} (hc : chkN x0 x1 x2 x3 x4 k.envs = n) (hn : n = 1 ∨ n = 2) (w : World) (h : KAt w B E N k) :
  Calls Tryz.prog 12 #[.pointer (some ⟨B 0, 0, none⟩), .int .i64 (e : Int), callV x0 x1 x2 x3 x4] w fun x w' => x = .returned (ansV n 0 true) ∧ KAt w' B E N k ∧ Only (Blk B E) w w' := by
 obtain ⟨h1, h2, h3⟩ := two_at h x0 x1 x2 x3 x4
 have T1 := Lib.hid h1
 have X1 := Lib.hid h2
 have R1 := Lib.hid h3
 have HH := Lib.hid (fun W (hW : KAt W B E N k) => plhas_yes (P := B 0) (T := B 1) e he W hW.lies.c0)
 have hE := h.lies.eE
 have HC := Lib.hid (fun W => Check_any x0 x1 x2 x3 x4 (E : Int) hx (by unfold intIn; omega) W)
 rw [← h.envs, hc] at HC
 rw [h.envs] at HC
 clear h h1 h2 h3 he hx hc hE
 rcases hn with rfl | rfl
 all_goals
  go_enter Tryz.func12, Tryz.ntmps12
  go_wp2_with fail
  generalize ((w.alloc (.cells #[.int .u64 x0, .int .u64 x1, .int .u64 x2, .int .u64 x3, .int .u64 x4] 36)).alloc (.cells #[.int .i64 0, .int .u64 0] 41)) = wq at T1 R1 X1 ⊢
  have hR : w.heap.size ≤ w.heap.size + 1 := by omega
  generalize w.heap.size + 1 = R at R1 hR ⊢
  have HR := Lib.hid hR
  clear hR
  refine (HH.out _ T1.out.lies).mono ?_
  rintro x w2 ⟨rfl, rfl⟩
  have c0 := T1.out.lies.lies.c0
  have l0 := T1.out.lies.rowlt.1
  have b0 := bk_cell X1.out 0
  have b1 := bk_cell X1.out 1
  have b2 := bk_cell X1.out 2
  have b3 := bk_cell X1.out 3
  have b4 := bk_cell X1.out 4
  have lb := bk_lt X1.out
  go_wp2_with fail
  go_still_tail 6, (by kernel_rfl)
  change wpList _ _ _ _ _ wq.drew
  go_wp2_with fail
  refine (HC.out _).mono ?_
  rintro x w3 ⟨rfl, hb⟩
  have T3 := Lib.hid ((T1.out.under (dn (Below.refl _ _) 1)).under hb)
  have R3 := Lib.hid (bk_below (w := wq.drew) R1.out hb)
  clear hb c0 l0 b0 b1 b2 b3 b4 lb
  have fr0 := bk_free R3.out 0
  have fr1 := bk_free R3.out 1
  have r0 := bk_cell R3.out 0
  have r1 := bk_cell R3.out 1
  have lr := bk_lt R3.out
  go_wp2_with fail
 ·have T := (T3.out.set HR.out 0 (.int .i64 1)).set HR.out 1 (.int .u64 0)
  refine bodyPost_ret (v := .tuple #[.agg #[.int .i64 1, .int .u64 0], .bool true]) (by simp [results, Tryz.results12, go_sem, r0, r1]) rfl ⟨rfl, T.lies, T.only⟩
 ·have T := (T3.out.set HR.out 0 (.int .i64 2)).set HR.out 1 (.int .u64 0)
  refine bodyPost_ret (v := .tuple #[.agg #[.int .i64 2, .int .u64 0], .bool true]) (by simp [results, Tryz.results12, go_sem, r0, r1]) rfl ⟨rfl, T.lies, T.only⟩
set_option maxRecDepth 100000 in
theorem pldo_good {e : Nat} (he : e < E) (x0 x1 x2 x3 x4 : Int) (hx : wordsIn x0 x1 x2 x3 x4) (hc : chkN x0 x1 x2 x3 x4 k.envs = 0) {n v : Int} {b : Bool} {ks : KernS} (hq : kcall k e x0 x1 x2 x3 x4 = (ks, n, v, b)) (w : World) (h : KAt w B E N k) :
  Calls Tryz.prog 12 #[.pointer (some ⟨B 0, 0, none⟩), .int .i64 (e : Int), callV x0 x1 x2 x3 x4] w fun x w' => x = .returned (ansV n v b) ∧ KAt w' B E N ks ∧ Only (Blk B E) w w' := by
 obtain ⟨h1, h2, h3⟩ := two_at h x0 x1 x2 x3 x4
 have T1 := Lib.hid h1
 have X1 := Lib.hid h2
 have R1 := Lib.hid h3
 have HH := Lib.hid (fun W (hW : KAt W B E N k) => plhas_yes (P := B 0) (T := B 1) e he W hW.lies.c0)
 have hE := h.lies.eE
 have HC := Lib.hid (fun W => Check_any x0 x1 x2 x3 x4 (E : Int) hx (by unfold intIn; omega) W)
 rw [← h.envs, hc] at HC
 rw [h.envs] at HC
 have HG := Lib.hid (fun W (hW : KAt W B E N k) => plcall_any he x0 x1 x2 x3 x4 hx hc W hW)
 rw [hq] at HG
 have HGG : Hid (∀ W, KAt W B E N k → Calls Tryz.prog 48 #[.pointer (some ⟨B 0, 0, none⟩), .int .i64 (e : Int), callV x0 x1 x2 x3 x4] W fun x w' => x = .returned (.tuple #[.agg #[.int .i64 n, .int .u64 v], .bool b]) ∧ KAt w' B E N ks ∧ Only (Blk B E) W w') := HG
 clear h h1 h2 h3 he hx hc hE hq HG
 go_enter Tryz.func12, Tryz.ntmps12
 go_wp2_with fail
 generalize ((w.alloc (.cells #[.int .u64 x0, .int .u64 x1, .int .u64 x2, .int .u64 x3, .int .u64 x4] 36)).alloc (.cells #[.int .i64 0, .int .u64 0] 41)) = wq at T1 R1 X1 ⊢
 have hR : w.heap.size ≤ w.heap.size + 1 := by omega
 generalize w.heap.size + 1 = R at R1 hR ⊢
 have HR := Lib.hid hR
 clear hR
 refine (HH.out _ T1.out.lies).mono ?_
 rintro x w2 ⟨rfl, rfl⟩
 have c0 := T1.out.lies.lies.c0
 have l0 := T1.out.lies.rowlt.1
 have b0 := bk_cell X1.out 0
 have b1 := bk_cell X1.out 1
 have b2 := bk_cell X1.out 2
 have b3 := bk_cell X1.out 3
 have b4 := bk_cell X1.out 4
 have lb := bk_lt X1.out
 go_wp2_with fail
 go_still_tail 6, (by kernel_rfl)
 change wpList _ _ _ _ _ wq.drew
 go_wp2_with fail
 refine (HC.out _).mono ?_
 rintro x w3 ⟨rfl, hb⟩
 have T3 := Lib.hid ((T1.out.under (dn (Below.refl _ _) 1)).under hb)
 have R3 := Lib.hid (bk_below (w := wq.drew) R1.out hb)
 have X3 := Lib.hid (bk_below (w := wq.drew) X1.out hb)
 clear hb c0 l0 b0 b1 b2 b3 b4 lb
 have b0 := bk_cell X3.out 0
 have b1 := bk_cell X3.out 1
 have b2 := bk_cell X3.out 2
 have b3 := bk_cell X3.out 3
 have b4 := bk_cell X3.out 4
 have lb := bk_lt X3.out
 go_wp2_with fail
 refine (HGG.out _ T3.out.lies).mono ?_
 rintro x w4 ⟨rfl, hk, ho⟩
 have T4 := Lib.hid (T3.out.step hk ho)
 have R4 := Lib.hid (T3.out.block HR.out R3.out ho)
 clear hk ho b0 b1 b2 b3 b4 lb
 have fr0 := bk_free R4.out 0
 have fr1 := bk_free R4.out 1
 have r0 := bk_cell R4.out 0
 have r1 := bk_cell R4.out 1
 have lr := bk_lt R4.out
 go_wp2_with fail
 have T := (T4.out.set HR.out 0 (.int .i64 n)).set HR.out 1 (.int .u64 v)
 refine bodyPost_ret (v := .tuple #[.agg #[.int .i64 n, .int .u64 v], .bool b]) (by simp [results, Tryz.results12, go_sem, r0, r1]) rfl ⟨rfl, T.lies, T.only⟩
theorem chk_012 (x0 x1 x2 x3 x4 envs : Int) : chkN x0 x1 x2 x3 x4 envs = 0 ∨ chkN x0 x1 x2 x3 x4 envs = 1 ∨ chkN x0 x1 x2 x3 x4 envs = 2 := by
 unfold chkN
 split
 ·unfold res4
  split
  ·exact Or.inl rfl
  ·exact Or.inr (Or.inr rfl)
 ·exact Or.inr (Or.inl rfl)
theorem pldo_any (env x0 x1 x2 x3 x4 : Int) (hx : wordsIn x0 x1 x2 x3 x4) (w : World) (h : KAt w B E N k) :
  Calls Tryz.prog 12 #[.pointer (some ⟨B 0, 0, none⟩), .int .i64 env, callV x0 x1 x2 x3 x4] w fun x w' => x = .returned (ansV (kdo k env x0 x1 x2 x3 x4).2.1 (kdo k env x0 x1 x2 x3 x4).2.2.1 (kdo k env x0 x1 x2 x3 x4).2.2.2) ∧ KAt w' B E N (kdo k env x0 x1 x2 x3 x4).1 ∧ Only (Blk B E) w w' := by
 by_cases he : env < 0 ∨ k.envs ≤ env
 ·have h0 : kdo k env x0 x1 x2 x3 x4 = (k, 10, 0, true) := if_pos he
  refine told_of h0 ?_
  exact pldo_off env x0 x1 x2 x3 x4 (by rw [← h.envs]; exact he) w h
 ·have hE := h.envs
  obtain ⟨e, rfl⟩ := nat_of (show 0 ≤ env by omega)
  have heE : e < E := by omega
  rcases chk_012 x0 x1 x2 x3 x4 k.envs with hc | hc
  ·rcases hq : kcall k e x0 x1 x2 x3 x4 with ⟨ks, n, v, b⟩
   have h0 : kdo k (e : Int) x0 x1 x2 x3 x4 = (ks, n, v, b) := by
    unfold kdo
    rw [if_neg he, if_pos hc, Int.toNat_natCast, hq]
   refine told_of h0 ?_
   exact pldo_good heE x0 x1 x2 x3 x4 hx hc hq w h
  ·have h0 : kdo k (e : Int) x0 x1 x2 x3 x4 = (k, chkN x0 x1 x2 x3 x4 k.envs, 0, true) := by
    unfold kdo
    rw [if_neg he, if_neg (by omega)]
   refine told_of h0 ?_
   exact pldo_bad heE x0 x1 x2 x3 x4 hx rfl hc w h
end
end Go.Proofs.YtdfhfmdelinemaaGreatDoor
namespace Go.Proofs.YtdfhfmdelinemaaGreatDoor
open Go.RowKit Go.Extern.Stop Go.Stop Go.Extern Go.WalkArith
theorem Side.front {w W : World} {o : Thing} {l2 : List Thing} : ∀ l1 : List Thing, Side w W (l1 ++ o :: l2) → Side w W (o :: (l1 ++ l2))
 | [], h => h
 | q :: l1, h => by
  obtain ⟨h1, h2, h3, h4⟩ := h
  obtain ⟨g1, g2, g3, g4⟩ := Side.front l1 h4
  refine ⟨g1, g2, fun r hr i hi hri => ?_, h1, h2, fun r hr => h3 r ?_, g4⟩
  ·rcases List.mem_cons.1 hr with rfl | hr
   ·exact h3 o (List.mem_append_right _ (List.mem_cons_self ..)) i hri hi
   ·exact g3 r hr i hi hri
  ·rcases List.mem_append.1 hr with hr | hr
   ·exact List.mem_append_left _ hr
   ·exact List.mem_append_right _ (List.mem_cons_of_mem _ hr)
def plTreeT (E C G : Nat) : Thing := ⟨fun i => i = C ∨ i = G, fun W => TreeIs W C G E (newK 1 (E : Int) 16), fun W W' h hs hb => h.foot hs (hb C (Or.inl rfl) h.lp) (hb G (Or.inr rfl) h.lg), fun W h i hi => by
 rcases hi with rfl | rfl
 ·exact h.lp
 ·exact h.lg⟩
def plPoolT (N Y Z : Nat) : Thing := ⟨fun i => i = Y ∨ i = Z, fun W => PoolIs W Y Z N (fun _ => 0), fun W W' h hs hb => h.foot hs (hb Y (Or.inl rfl) h.low.1) (hb Z (Or.inr rfl) h.low.2), fun W h i hi => by
 rcases hi with rfl | rfl
 ·exact h.low.1
 ·exact h.low.2⟩
def plMemT (N M F : Nat) : Thing := ⟨fun i => i = M ∨ i = F, fun W => MemIs W M F N (fun _ => 0), fun W W' h hs hb => h.foot hs (hb M (Or.inl rfl) h.2.2.2.2.1) (hb F (Or.inr rfl) h.2.2.2.2.2), fun W h i hi => by
 rcases hi with rfl | rfl
 ·exact h.2.2.2.2.1
 ·exact h.2.2.2.2.2⟩
structure RowIs (W : World) (T E n : Nat) (tb : Nat → Nat) : Prop where
 cells : ∀ e, e < E → W.cell? ⟨T, e, none⟩ = some (if e < n then .pointer (some ⟨tb e, 0, none⟩) else .pointer none)
 free : ∀ e, W.frozen? ⟨T, e, none⟩ = false
 lt : T < W.heap.size
 tabs : ∀ e, e < n → TabIs W (tb e) (fun _ => 0)
 off : ∀ e, e < n → tb e ≠ T
 inj : ∀ e e', e < n → e' < n → e ≠ e' → tb e ≠ tb e'
theorem RowIs.foot {W W' : World} {T E n : Nat} {tb : Nat → Nat} (h : RowIs W T E n tb) (hs : W.heap.size ≤ W'.heap.size) (hT : W'.heap[T]? = W.heap[T]?) (ht : ∀ e, e < n → W'.heap[tb e]? = W.heap[tb e]?) : RowIs W' T E n tb :=
 ⟨fun e he => (World.cell?_of_block (a := ⟨T, e, none⟩) hT).trans (h.cells e he), fun e => (World.frozen?_of_block (a := ⟨T, e, none⟩) hT).trans (h.free e), Nat.lt_of_lt_of_le h.lt hs, fun e he => (h.tabs e he).foot hs (ht e he), h.off, h.inj⟩
def plRowT (T E n : Nat) (tb : Nat → Nat) : Thing := ⟨fun i => i = T ∨ ∃ e, e < n ∧ tb e = i, fun W => RowIs W T E n tb, fun W W' h hs hb => h.foot hs (hb T (Or.inl rfl) h.lt) (fun e he => hb _ (Or.inr ⟨e, he, rfl⟩) (h.tabs e he).2.2), fun W h i hi => by
 rcases hi with rfl | ⟨e, he, rfl⟩
 ·exact h.lt
 ·exact (h.tabs e he).2.2⟩
theorem mem_new (n : Nat) (h1 : 1 ≤ n) (h16 : n ≤ 16) (w : World) : Calls Tryz.prog 29 #[.int .i64 (n : Int)] w fun e w' => ∃ M F, e = .returned (.pointer (some ⟨M, 0, none⟩)) ∧ MemIs w' M F n (fun _ => 0) ∧ Below w.heap.size w w' ∧ w.heap.size ≤ M ∧ w.heap.size ≤ F := by
 obtain ⟨cs, hcs⟩ : ∃ cs : Array Value, cs = Array.replicate (n * 16) (.int .u64 0) := ⟨_, rfl⟩
 have hmk : ∀ W : World, (Instr.makeSlice 151 (.int .i64 (n : Int)) (.int .i64 (n : Int))).run Tryz.prog W = .ok (.slice (some ⟨W.heap.size, 0, none⟩) n n) (W.alloc (.cells cs 218)) := fun W => make_words n h16 cs (by rw [hcs]; exact made_zero (n * 16)) W
 have hat : ∀ j, j < n * 16 → cs[j]? = some (.int .u64 0) := fun j hj => by rw [hcs, Array.getElem?_replicate, if_pos hj]
 have HS := Lib.hid hat
 clear hcs hat
 go_enter Tryz.func29, Tryz.ntmps29
 go_wp2_with fail
 go_ret
 have k1 : ((w.alloc (.cells cs 218)).alloc (.cells #[.slice (some ⟨w.heap.size, 0, none⟩) n n] 153)).heap[w.heap.size + 1]? = some (.cells #[.slice (some ⟨w.heap.size, 0, none⟩) n n] 153 (0, 0)) := by
  have h := heap_alloc_new (w.alloc (.cells cs 218)) (.cells #[.slice (some ⟨w.heap.size, 0, none⟩) n n] 153)
  simpa using h
 have k2 : ((w.alloc (.cells cs 218)).alloc (.cells #[.slice (some ⟨w.heap.size, 0, none⟩) n n] 153)).heap[w.heap.size]? = some (.cells cs 218 (0, 0)) :=
  (Below.heap_alloc (w.alloc (.cells cs 218)) _ w.heap.size (by simp)).trans (heap_alloc_new w _)
 exact ⟨_, w.heap.size, rfl, ⟨by omega, bk_cell k1 0, fun j hj => (bk_cell k2 j).trans (HS.out j hj), fun j => bk_free k2 j, bk_lt k1, bk_lt k2⟩, ((Below.refl _ _).alloc (Nat.le_refl _) _).alloc (by simp) _, by omega, by omega⟩
theorem Tryz.tabRowInfo : (Tryz.prog.info? 72).map (fun i => (i.zero, i.size, i.bytes)) = some (some (.pointer none), 1, 8) := by kernel_rfl
theorem made_nils (n : Nat) : madeCells (#[.pointer none] : Array Value) n = Array.replicate n (.pointer none) := by
 unfold madeCells
 apply Array.ext
 ·simp
 ·intro i h1 h2
  simp [Nat.mod_one]
theorem make_tabs (n : Nat) (hn : n ≤ 16) (w : World) :
  (Instr.makeSlice 110 (.int .i64 (n : Int)) (.int .i64 (n : Int))).run Tryz.prog w = .ok (.slice (some ⟨w.heap.size, 0, none⟩) n n) (w.alloc (.cells (Array.replicate n (.pointer none)) 72)) := by
 obtain ⟨i, hi, hz⟩ := Option.map_eq_some_iff.1 Tryz.tabRowInfo
 simp only [Prod.mk.injEq] at hz
 obtain ⟨hz0, hz1, hz2⟩ := hz
 have h := run_make (P := Tryz.prog) w 110 72 i _ Tryz.underlying110 hi hz0 .i64 .i64 n n (by omega) (by omega) (by rw [hz2]; omega) (by omega)
 rw [hz1] at h
 simp only [Int.toNat_natCast, Nat.mul_one] at h
 rw [h, ← made_nils]
 rfl
theorem row_conv {w W : World} {T E : Nat} {t : TypeId} {l : List Thing} (h : Side w W (fixT T (.cells (Array.replicate E (.pointer none)) t (0, 0)) :: l)) : Side w W (plRowT T E 0 (fun _ => 0) :: l) := by
 obtain ⟨h1, h2, h3, h4⟩ := h
 have hs : ∀ i, (plRowT T E 0 (fun _ => 0)).S i → i = T := fun i hi => by
  rcases hi with hi | ⟨e, he, _⟩
  ·exact hi
  ·exact absurd he (Nat.not_lt_zero _)
 have h1 : W.heap[T]? = some (.cells (Array.replicate E (.pointer none)) t (0, 0)) := h1
 exact ⟨⟨fun e he => by rw [bk_cell h1 e, Array.getElem?_replicate, if_pos he, if_neg (Nat.not_lt_zero _)], fun e => bk_free h1 e, bk_lt h1, fun e he => absurd he (Nat.not_lt_zero _), fun e he => absurd he (Nat.not_lt_zero _), fun e _ he => absurd he (Nat.not_lt_zero _)⟩, fun i hi => h2 i (hs i hi), fun q hq i hi => h3 q hq i (hs i hi), h4⟩
theorem ctree_newE {E : Nat} (hE : 1 ≤ E ∧ E ≤ 4) (w : World) : Calls Tryz.prog 25 #[.int .i64 (E : Int)] w fun x w' => ∃ C G, x = .returned (.pointer (some ⟨C, 0, none⟩)) ∧ TreeIs w' C G E (newK 1 (E : Int) 16) ∧ w.heap.size ≤ C ∧ w.heap.size ≤ G ∧ Below w.heap.size w w' := by
 refine (ctree_new (n := (E : Int)) (by omega) w).mono ?_
 rintro x w' ⟨C, G, E', rfl, ht, h1, h2, h3⟩
 obtain rfl : E = E' := by
  have h4 : ((E : Nat) : Int) = (E' : Int) := ht.envs
  omega
 exact ⟨C, G, rfl, ht, h1, h2, h3⟩
theorem row_step {w W wn : World} {T E i : Nat} {tb : Nat → Nat} {l : List Thing} (h : Side w W (plRowT T E i tb :: l)) (hi : i < E) (hb : Below W.heap.size W wn) (ht : TabIs wn W.heap.size (fun _ => 0)) :
  Side w (wn.setCell ⟨T, i, none⟩ (.pointer (some ⟨W.heap.size, 0, none⟩))) (plRowT T E (i + 1) (fun e => if e = i then W.heap.size else tb e) :: l) := by
 have hr : RowIs W T E i tb := h.1
 have hT := hr.lt
 have hlt := fun e (he : e < i) => (hr.tabs e he).2.2
 have ho : OnlyT T W (wn.setCell ⟨T, i, none⟩ (.pointer (some ⟨W.heap.size, 0, none⟩))) := tp_set (tp_below hb) _ _
 have hcT := (hb.cell (p := ⟨T, i, none⟩) hT).trans (hr.cells i hi)
 refine Side.step (o := plRowT T E i tb) (plRowT T E (i + 1) (fun e => if e = i then W.heap.size else tb e)) (l2 := l) ?_ ?_ ?_ [] h
 ·refine ⟨fun e he => ?_, fun e => ?_, by simpa [World.setCell] using Nat.lt_of_lt_of_le hT hb.size, fun e he => ?_, fun e he => ?_, fun e e' he he' hne => ?_⟩
  ·by_cases hc : e = i
   ·subst hc
    rw [World.cell?_setCell_same _ _ _ hcT, if_pos (by omega), if_pos rfl]
   ·rw [World.cell?_setCell_other _ _ _ _ (fun e2 => hc (congrArg Addr.off e2).symm), hb.cell (p := ⟨T, e, none⟩) hT, hr.cells e he]
    by_cases h2 : e < i
    ·rw [if_pos h2, if_pos (by omega), if_neg hc]
    ·rw [if_neg h2, if_neg (by omega)]
  ·rw [World.frozen?_setCell]
   exact (hb.frozen (p := ⟨T, e, none⟩) hT).trans (hr.free e)
  ·by_cases hc : e = i
   ·rw [if_pos hc]
    exact ht.far (by omega) _
   ·rw [if_neg hc]
    exact ((hr.tabs e (by omega)).later hb).far (hr.off e (by omega)) _
  ·by_cases hc : e = i
   ·rw [if_pos hc]
    omega
   ·rw [if_neg hc]
    exact hr.off e (by omega)
  ·by_cases hc : e = i
   ·have := hlt e' (by omega)
    rw [if_pos hc, if_neg (by omega)]
    omega
   ·by_cases hc' : e' = i
    ·have := hlt e (by omega)
     rw [if_neg hc, if_pos hc']
     omega
    ·rw [if_neg hc, if_neg hc']
     exact hr.inj e e' (by omega) (by omega) hne
 ·rintro j (hj | ⟨e, he, hj⟩)
  ·exact Or.inl (Or.inl hj)
  ·replace hj : (if e = i then W.heap.size else tb e) = j := hj
   by_cases hc : e = i
   ·rw [if_pos hc] at hj
    exact Or.inr (by omega)
   ·rw [if_neg hc] at hj
    exact Or.inl (Or.inr ⟨e, by omega, hj⟩)
 ·exact ⟨ho.os, ho.tape, ho.output, ho.size, fun j hj hn => ho.block j hj fun e2 => hn (Or.inl (by injection e2))⟩
set_option maxRecDepth 100000 in
set_option maxHeartbeats 2000000 in
theorem plfresh_walk {E N : Nat} (hE : 1 ≤ E ∧ E ≤ 4) (hN : 1 ≤ N ∧ N ≤ 16) (w : World) :
  Calls Tryz.prog 44 #[.int .i64 (E : Int), .int .i64 (N : Int)] w fun x w' => ∃ P T C G Y Z M F tb, x = .returned (.pointer (some ⟨P, 0, none⟩)) ∧ Side w w' [plRowT T E E tb, fixT P (.cells #[.slice (some ⟨T, 0, none⟩) E E, .pointer (some ⟨C, 0, none⟩), .pointer (some ⟨Y, 0, none⟩), .pointer (some ⟨M, 0, none⟩)] 113 (0, 0)), plMemT N M F, plPoolT N Y Z, plTreeT E C G] := by
 obtain ⟨cs, hcs⟩ : ∃ cs : Array Value, Array.replicate E (.pointer none) = cs := ⟨_, rfl⟩
 have hmk : ∀ W : World, (Instr.makeSlice 110 (.int .i64 (E : Int)) (.int .i64 (E : Int))).run Tryz.prog W = .ok (.slice (some ⟨W.heap.size, 0, none⟩) E E) (W.alloc (.cells cs 72)) := fun W => by rw [← hcs]; exact make_tabs E (by omega) W
 have HCS := Lib.hid hcs
 have HT := Lib.hid (fun W => ctree_newE hE W)
 have HP := Lib.hid (fun W => pool_new N hN.1 hN.2 W)
 have HM := Lib.hid (fun W => mem_new N hN.1 hN.2 W)
 have HE4 := Lib.hid hE
 clear hcs hE hN
 go_enter Tryz.func44, Tryz.ntmps44
 go_wp2_with fail
 go_cut [5] (fun v W => ∃ P T C G Y Z M F, v = .pointer (some ⟨P, 0, none⟩) ∧ Side w W [plRowT T E 0 (fun _ => 0), fixT P (.cells #[.slice (some ⟨T, 0, none⟩) E E, .pointer (some ⟨C, 0, none⟩), .pointer (some ⟨Y, 0, none⟩), .pointer (some ⟨M, 0, none⟩)] 113 (0, 0)), plMemT N M F, plPoolT N Y Z, plTreeT E C G])
 case first =>
  have SD : Hid (Side w w.drew []) := dn (Below.refl _ _) 1
  go_region_with (first
   | (go_at_call 25; refine (HT.out _).mono ?_; rintro x wc ⟨C, G, rfl, ht, hC, hG, hb⟩; first | have S1 := Lib.hid (Side.make SD.out hb (plTreeT E C G) ht (fun i hi => hi.elim (fun e => e ▸ hC) (fun e => e ▸ hG))) | have S1 := Lib.hid (Side.make (SD.out.boxAt (.cells cs 72) w.heap.size rfl) hb (plTreeT E C G) ht (fun i hi => hi.elim (fun e => e ▸ hC) (fun e => e ▸ hG))); clear ht hC hG hb)
   | (go_at_call 95; refine (HP.out _).mono ?_; rintro x wd ⟨Y, Z, rfl, ht, hb, hC, hG⟩; first | have S2 := Lib.hid (Side.make S1.out hb (plPoolT N Y Z) ht (fun i hi => hi.elim (fun e => e ▸ hC) (fun e => e ▸ hG))) | have S2 := Lib.hid (Side.make (S1.out.boxAt (.cells cs 72) wc.heap.size rfl) hb (plPoolT N Y Z) ht (fun i hi => hi.elim (fun e => e ▸ hC) (fun e => e ▸ hG))); clear ht hC hG hb)
   | (go_at_call 29; refine (HM.out _).mono ?_; rintro x we ⟨M, F, rfl, ht, hb, hC, hG⟩; first | have S3 := Lib.hid (Side.make S2.out hb (plMemT N M F) ht (fun i hi => hi.elim (fun e => e ▸ hC) (fun e => e ▸ hG))) | have S3 := Lib.hid (Side.make (S2.out.boxAt (.cells cs 72) wd.heap.size rfl) hb (plMemT N M F) ht (fun i hi => hi.elim (fun e => e ▸ hC) (fun e => e ▸ hG))); clear ht hC hG hb))
  all_goals
   go_wp2_with fail
   obtain rfl := HCS.out
   go_meet
   case rel => first
    | exact ⟨_, _, _, _, _, _, _, _, rfl, row_conv (Side.front [_, _, _, _] (S3.out.box _))⟩
    | exact ⟨_, _, _, _, _, _, _, _, rfl, row_conv (Side.front [_, _, _] (S3.out.box _))⟩
    | exact ⟨_, _, _, _, _, _, _, _, rfl, row_conv (Side.front [_, _] (S3.out.box _))⟩
    | exact ⟨_, _, _, _, _, _, _, _, rfl, row_conv (Side.front [_] ((S3.out.boxAt _ we.heap.size rfl).boxAt _ (we.heap.size + 1) (by simp)))⟩
 case rest =>
  obtain ⟨P, T, C, G, Y, Z, M, F, rfl, h⟩ := hcut
  have SR := Lib.hid h
  clear h
  have kp := SR.out.2.2.2.1
  have c0 := bk_cell kp 0
  have lp := bk_lt kp
  clear kp
  go_wp2_with fail
  go_loopw [22] (fun iv W => ∃ (i : Nat) (tb : Nat → Nat), iv = .int .i64 i ∧ i ≤ E ∧ Side w W [plRowT T E i tb, fixT P (.cells #[.slice (some ⟨T, 0, none⟩) E E, .pointer (some ⟨C, 0, none⟩), .pointer (some ⟨Y, 0, none⟩), .pointer (some ⟨M, 0, none⟩)] 113 (0, 0)), plMemT N M F, plPoolT N Y Z, plTreeT E C G]) (fun iv _ => (E - intOf iv).toNat)
  case atStart => exact ⟨0, fun _ => 0, rfl, by omega, SR.out⟩
  case round =>
   clear SR c0 lp
   obtain ⟨i, tb, rfl, hiE, h⟩ := hrel
   have SR := Lib.hid h
   clear h
   by_cases hi : i < E
   ·have h4 := HE4.out
    have i0 : (0 : Int) ≤ (i : Int) := by omega
    have i1 : (i : Int) < (E : Int) := by omega
    have i2 : ¬ (i : Int) < 0 := by omega
    have i3 : ¬ (E : Int) ≤ (i : Int) := by omega
    go_wp2_with fail
    have SD : Hid (Side w wr.drew [plRowT T E i tb, fixT P (.cells #[.slice (some ⟨T, 0, none⟩) E E, .pointer (some ⟨C, 0, none⟩), .pointer (some ⟨Y, 0, none⟩), .pointer (some ⟨M, 0, none⟩)] 113 (0, 0)), plMemT N M F, plPoolT N Y Z, plTreeT E C G]) := SR.out.under (dn (Below.refl _ _) 1)
    have HI := Lib.hid hi
    have hS : wr.drew.cell? ⟨P, 0, none⟩ = some (.slice (some ⟨T, 0, none⟩) E E) := bk_cell SD.out.2.2.2.1 0
    go_region_held3 (fun w' => w'.cell? ⟨P, 0, none⟩ = some (.slice (some ⟨T, 0, none⟩) E E)) (first | exact hS | exact hS2)
     ((go_at_call 28; refine (tab_new _).mono ?_; rintro e' wn ⟨rfl, hb, ht⟩; have SN := Lib.hid (row_step SD.out HI.out hb ht); have hS : wn.cell? ⟨P, 0, none⟩ = some (.slice (some ⟨T, 0, none⟩) E E) := bk_cell (SD.out.under hb).2.2.2.1 0; have hS2 : (wn.setCell ⟨T, i, none⟩ (.pointer (some ⟨wr.heap.size, 0, none⟩))).cell? ⟨P, 0, none⟩ = some (.slice (some ⟨T, 0, none⟩) E E) := bk_cell SN.out.2.2.2.1 0; have hT := (SD.out.under hb).1; have t0 := (RowIs.cells hT i HI.out).trans (by rw [if_neg (Nat.lt_irrefl i)]); have t1 := RowIs.free hT i; have t2 := RowIs.lt hT; clear hb ht hT))
    go_wp2_with fail
    go_roundw
    case rel => exact ⟨i + 1, _, by go_num, by omega, SN.out⟩
    case measure => simp [intOf]; omega
   ·obtain rfl : i = E := by omega
    go_wp2_with fail
    go_ret
    exact ⟨P, T, C, G, Y, Z, M, F, tb, rfl, SR.out⟩
end Go.Proofs.YtdfhfmdelinemaaGreatDoor
namespace Go.Proofs.YtdfhfmdelinemaaGreatDoor
open Go.RowKit Go.Extern.Stop Go.Stop Go.Extern Go.WalkArith
def blkF (P T C G Y Z M F : Nat) (tb : Nat → Nat) : Nat → Nat
 | 0 => P
 | 1 => T
 | 2 => C
 | 3 => G
 | 4 => Y
 | 5 => Z
 | 6 => M
 | 7 => F
 | e + 8 => tb e
theorem blkF_tab (P T C G Y Z M F : Nat) (tb : Nat → Nat) (e : Nat) : blkF P T C G Y Z M F tb (8 + e) = tb e := by
 rw [Nat.add_comm]
 rfl
theorem blk_cases {i E : Nat} (h : i < 8 + E) : i = 0 ∨ i = 1 ∨ i = 2 ∨ i = 3 ∨ i = 4 ∨ i = 5 ∨ i = 6 ∨ i = 7 ∨ ∃ e, e < E ∧ i = e + 8 := by
 rcases Nat.lt_or_ge i 8 with h1 | h1
 ·omega
 ·exact Or.inr (Or.inr (Or.inr (Or.inr (Or.inr (Or.inr (Or.inr (Or.inr ⟨i - 8, by omega, by omega⟩)))))))
set_option maxHeartbeats 1000000 in
theorem fresh_at {w W : World} {E N P T C G Y Z M F : Nat} {tb : Nat → Nat} {t : TypeId} (c : Int) (hE : 1 ≤ E ∧ E ≤ 4) (hN : 1 ≤ N ∧ N ≤ 16)
  (h : Side w W [plRowT T E E tb, fixT P (.cells #[.slice (some ⟨T, 0, none⟩) E E, .pointer (some ⟨C, 0, none⟩), .pointer (some ⟨Y, 0, none⟩), .pointer (some ⟨M, 0, none⟩)] t (0, 0)), plMemT N M F, plPoolT N Y Z, plTreeT E C G]) :
  KAt W (blkF P T C G Y Z M F tb) E N (newK c (E : Int) (N : Int)) ∧ (∀ i, i < 8 + E → w.heap.size ≤ blkF P T C G Y Z M F tb i) ∧ Below w.heap.size w W := by
 have hbel := h.below
 obtain ⟨hr, rl, rd, hp, pl, pd, hm, ml, md, hy, yl, yd, ht, tl, td, _⟩ := h
 have hr : RowIs W T E E tb := hr
 have hp : W.heap[P]? = some (.cells #[.slice (some ⟨T, 0, none⟩) E E, .pointer (some ⟨C, 0, none⟩), .pointer (some ⟨Y, 0, none⟩), .pointer (some ⟨M, 0, none⟩)] t (0, 0)) := hp
 have hm : MemIs W M F N (fun _ => 0) := hm
 have hy : PoolIs W Y Z N (fun _ => 0) := hy
 have ht : TreeIs W C G E (newK 1 (E : Int) 16) := ht
 have r1 := rd _ (List.mem_cons_self ..)
 have r2 := rd _ (List.mem_cons_of_mem _ (List.mem_cons_self ..))
 have r3 := rd _ (List.mem_cons_of_mem _ (List.mem_cons_of_mem _ (List.mem_cons_self ..)))
 have r4 := rd _ (List.mem_cons_of_mem _ (List.mem_cons_of_mem _ (List.mem_cons_of_mem _ (List.mem_cons_self ..))))
 have p2 := pd _ (List.mem_cons_self ..)
 have p3 := pd _ (List.mem_cons_of_mem _ (List.mem_cons_self ..))
 have p4 := pd _ (List.mem_cons_of_mem _ (List.mem_cons_of_mem _ (List.mem_cons_self ..)))
 have m3 := md _ (List.mem_cons_self ..)
 have m4 := md _ (List.mem_cons_of_mem _ (List.mem_cons_self ..))
 have y4 := yd _ (List.mem_cons_self ..)
 have hT : ∀ e, e < E → (plRowT T E E tb).S (tb e) := fun e he => Or.inr ⟨e, he, rfl⟩
 have q01 : P ≠ T := fun e => r1 T (Or.inl rfl) e.symm
 have q02 : P ≠ C := fun e => p4 P rfl (Or.inl e)
 have q03 : P ≠ G := fun e => p4 P rfl (Or.inr e)
 have q04 : P ≠ Y := fun e => p3 P rfl (Or.inl e)
 have q05 : P ≠ Z := fun e => p3 P rfl (Or.inr e)
 have q06 : P ≠ M := fun e => p2 P rfl (Or.inl e)
 have q07 : P ≠ F := fun e => p2 P rfl (Or.inr e)
 have q12 : T ≠ C := fun e => r4 T (Or.inl rfl) (Or.inl e)
 have q13 : T ≠ G := fun e => r4 T (Or.inl rfl) (Or.inr e)
 have q14 : T ≠ Y := fun e => r3 T (Or.inl rfl) (Or.inl e)
 have q15 : T ≠ Z := fun e => r3 T (Or.inl rfl) (Or.inr e)
 have q16 : T ≠ M := fun e => r2 T (Or.inl rfl) (Or.inl e)
 have q17 : T ≠ F := fun e => r2 T (Or.inl rfl) (Or.inr e)
 have q23 : C ≠ G := ht.ne
 have q24 : C ≠ Y := fun e => y4 Y (Or.inl rfl) (Or.inl e.symm)
 have q25 : C ≠ Z := fun e => y4 Z (Or.inr rfl) (Or.inl e.symm)
 have q26 : C ≠ M := fun e => m4 M (Or.inl rfl) (Or.inl e.symm)
 have q27 : C ≠ F := fun e => m4 F (Or.inr rfl) (Or.inl e.symm)
 have q34 : G ≠ Y := fun e => y4 Y (Or.inl rfl) (Or.inr e.symm)
 have q35 : G ≠ Z := fun e => y4 Z (Or.inr rfl) (Or.inr e.symm)
 have q36 : G ≠ M := fun e => m4 M (Or.inl rfl) (Or.inr e.symm)
 have q37 : G ≠ F := fun e => m4 F (Or.inr rfl) (Or.inr e.symm)
 have q45 : Y ≠ Z := hy.1
 have q46 : Y ≠ M := fun e => m3 M (Or.inl rfl) (Or.inl e.symm)
 have q47 : Y ≠ F := fun e => m3 F (Or.inr rfl) (Or.inl e.symm)
 have q56 : Z ≠ M := fun e => m3 M (Or.inl rfl) (Or.inr e.symm)
 have q57 : Z ≠ F := fun e => m3 F (Or.inr rfl) (Or.inr e.symm)
 have q67 : M ≠ F := hm.1
 have q0t : ∀ e, e < E → P ≠ tb e := fun e he e2 => r1 (tb e) (hT e he) e2.symm
 have q1t : ∀ e, e < E → T ≠ tb e := fun e he => (hr.off e he).symm
 have q2t : ∀ e, e < E → C ≠ tb e := fun e he e2 => r4 (tb e) (hT e he) (Or.inl e2.symm)
 have q3t : ∀ e, e < E → G ≠ tb e := fun e he e2 => r4 (tb e) (hT e he) (Or.inr e2.symm)
 have q4t : ∀ e, e < E → Y ≠ tb e := fun e he e2 => r3 (tb e) (hT e he) (Or.inl e2.symm)
 have q5t : ∀ e, e < E → Z ≠ tb e := fun e he e2 => r3 (tb e) (hT e he) (Or.inr e2.symm)
 have q6t : ∀ e, e < E → M ≠ tb e := fun e he e2 => r2 (tb e) (hT e he) (Or.inl e2.symm)
 have q7t : ∀ e, e < E → F ≠ tb e := fun e he e2 => r2 (tb e) (hT e he) (Or.inr e2.symm)
 have hlow : ∀ i, i < 8 + E → w.heap.size ≤ blkF P T C G Y Z M F tb i := by
  intro i hi
  rcases blk_cases hi with rfl | rfl | rfl | rfl | rfl | rfl | rfl | rfl | ⟨e, he, rfl⟩
  ·exact pl P rfl
  ·exact rl T (Or.inl rfl)
  ·exact tl C (Or.inl rfl)
  ·exact tl G (Or.inr rfl)
  ·exact yl Y (Or.inl rfl)
  ·exact yl Z (Or.inr rfl)
  ·exact ml M (Or.inl rfl)
  ·exact ml F (Or.inr rfl)
  ·exact rl (tb e) (hT e he)
 have hlt : ∀ i, i < 8 + E → blkF P T C G Y Z M F tb i < W.heap.size := by
  intro i hi
  rcases blk_cases hi with rfl | rfl | rfl | rfl | rfl | rfl | rfl | rfl | ⟨e, he, rfl⟩
  ·exact bk_lt hp
  ·exact hr.lt
  ·exact ht.lp
  ·exact ht.lg
  ·exact hy.low.1
  ·exact hy.low.2
  ·exact hm.2.2.2.2.1
  ·exact hm.2.2.2.2.2
  ·exact (hr.tabs e he).2.2
 have hne1 : ∀ i j, i < j → j < 8 + E → blkF P T C G Y Z M F tb i ≠ blkF P T C G Y Z M F tb j := by
  intro i j hij hj
  rcases blk_cases (show i < 8 + E by omega) with rfl | rfl | rfl | rfl | rfl | rfl | rfl | rfl | ⟨e, he, rfl⟩
  all_goals rcases blk_cases hj with rfl | rfl | rfl | rfl | rfl | rfl | rfl | rfl | ⟨e', he', rfl⟩
  all_goals first
   | (exfalso; omega)
   | assumption
   | exact q0t _ he'
   | exact q1t _ he'
   | exact q2t _ he'
   | exact q3t _ he'
   | exact q4t _ he'
   | exact q5t _ he'
   | exact q6t _ he'
   | exact q7t _ he'
   | exact hr.inj _ _ he he' (by omega)
 have hF : Fit (newK c (E : Int) (N : Int)) := Fit.new (by omega) (by omega)
 have hz : ∀ j, refsI (newK c (E : Int) (N : Int)) j = 0 := fun j => by
  unfold refsI
  have : ∀ n, refsN (newK c (E : Int) (N : Int)) (j : Int) n = 0 := fun n => by
   induction n with
   | zero => rfl
   | succ n ih => rw [refsN_no (show ofB (newK c (E : Int) (N : Int)) (j : Int) n = false from rfl), ih]
  rw [this]
  rfl
 refine ⟨⟨hF, rfl, rfl, ⟨fun i j hi hj hij => ?_, hlt, bk_cell hp 0, bk_cell hp 1, bk_cell hp 2, bk_cell hp 3, fun e he => ?_, ht.same hF.tree rfl (fun _ _ _ _ => rfl), hy.congr (fun j _ => hz j), hm.congr (fun _ _ => rfl), fun e he => ?_, hE, hN⟩⟩, hlow, hbel⟩
 ·rcases Nat.lt_or_gt_of_ne hij with h1 | h1
  ·exact hne1 i j h1 hj
  ·exact (hne1 j i h1 hi).symm
 ·rw [blkF_tab]
  exact (hr.cells e he).trans (by rw [if_pos he])
 ·rw [blkF_tab]
  refine (hr.tabs e he).congr fun j _ => ?_
  unfold pteG
  split
  ·rfl
  ·split <;> rfl
def FreshAt (w : World) (E N : Nat) (x : Ending) (w' : World) : Prop := ∃ B : Nat → Nat, x = .returned (.pointer (some ⟨B 0, 0, none⟩)) ∧ (∀ c : Int, KAt w' B E N (newK c (E : Int) (N : Int))) ∧ (∀ i, i < 8 + E → w.heap.size ≤ B i) ∧ Below w.heap.size w w'
theorem plfresh_any {E N : Nat} (hE : 1 ≤ E ∧ E ≤ 4) (hN : 1 ≤ N ∧ N ≤ 16) (w : World) : Calls Tryz.prog 44 #[.int .i64 (E : Int), .int .i64 (N : Int)] w (FreshAt w E N) := by
 refine (plfresh_walk hE hN w).mono ?_
 rintro x w' ⟨P, T, C, G, Y, Z, M, F, tb, rfl, h⟩
 exact ⟨blkF P T C G Y Z M F tb, rfl, fun c => (fresh_at c hE hN h).1, (fresh_at 1 hE hN h).2.1, (fresh_at 1 hE hN h).2.2⟩
theorem plmay_yes {n m : Int} (h1 : 1 ≤ n) (h2 : n ≤ m) (w : World) : Calls Tryz.prog 43 #[.int .i64 n, .int .i64 m] w fun e w' => e = .returned (.bool true) ∧ w = w' :=
 (plmay n m w).mono fun _ _ ⟨he, hw⟩ => ⟨by rw [he]; simp [h1, h2], hw⟩
theorem plmay_no {n m : Int} (h : ¬ (1 ≤ n ∧ n ≤ m)) (w : World) : Calls Tryz.prog 43 #[.int .i64 n, .int .i64 m] w fun e w' => e = .returned (.bool false) ∧ w = w' :=
 (plmay n m w).mono fun _ _ ⟨he, hw⟩ => ⟨by rw [he]; simp; omega, hw⟩
theorem plnew_yes {c e f : Int} (hs : SizeOk c e f) (w : World) : ∃ E N : Nat, e = (E : Int) ∧ f = (N : Int) ∧ Calls Tryz.prog 8 #[sizeV c e f] w (FreshAt w E N) := by
 obtain ⟨hc, he, hf⟩ := hs
 obtain ⟨E, rfl⟩ : ∃ E : Nat, e = (E : Int) := ⟨e.toNat, by omega⟩
 obtain ⟨N, rfl⟩ : ∃ N : Nat, f = (N : Int) := ⟨f.toNat, by omega⟩
 refine ⟨E, N, rfl, rfl, ?_⟩
 have H1 := Lib.hid (fun W => plmay_yes hc.1 hc.2 W)
 have H2 := Lib.hid (fun W => plmay_yes he.1 he.2 W)
 have H3 := Lib.hid (fun W => plmay_yes hf.1 hf.2 W)
 have HF := Lib.hid (fun W => plfresh_any (E := E) (N := N) (by omega) (by omega) W)
 unfold FreshAt at HF ⊢
 clear hc he hf
 go_enter Tryz.func8, Tryz.ntmps8
 go_wp2_with fail
 refine (H1.out _).mono ?_
 rintro x w1 ⟨rfl, rfl⟩
 go_wp2_with fail
 refine (H2.out _).mono ?_
 rintro x w1 ⟨rfl, rfl⟩
 go_wp2_with fail
 refine (H3.out _).mono ?_
 rintro x w1 ⟨rfl, rfl⟩
 go_wp2_with fail
 refine (HF.out _).mono ?_
 rintro x w1 ⟨B, rfl, hk, hl, hb⟩
 have HK := Lib.hid hk
 have HL := Lib.hid hl
 have HB := Lib.hid (bl_alloc (Below.refl w.heap.size w) hb)
 clear hk hl hb
 go_wp2_with fail
 go_ret
 exact ⟨B, rfl, HK.out, fun i hi => by have := HL.out i hi; simp at this; omega, HB.out⟩
theorem plnew_no {c e f : Int} (hs : ¬ SizeOk c e f) (w : World) : Calls Tryz.prog 8 #[sizeV c e f] w fun x w' => x = .returned (.pointer none) ∧ Below w.heap.size w w' := by
 have hs2 : ¬ ((1 ≤ c ∧ c ≤ 8) ∧ (1 ≤ e ∧ e ≤ 4) ∧ (1 ≤ f ∧ f ≤ 16)) := hs
 by_cases hc : 1 ≤ c ∧ c ≤ 8
 ·have H1 := Lib.hid (fun W => plmay_yes hc.1 hc.2 W)
  by_cases he : 1 ≤ e ∧ e ≤ 4
  ·have H2 := Lib.hid (fun W => plmay_yes he.1 he.2 W)
   have H3 := Lib.hid (fun W => plmay_no (n := f) (m := 16) (fun hf => hs2 ⟨hc, he, hf⟩) W)
   clear hs hs2 hc he
   go_enter Tryz.func8, Tryz.ntmps8
   go_wp2_with fail
   refine (H1.out _).mono ?_
   rintro x w1 ⟨rfl, rfl⟩
   go_wp2_with fail
   refine (H2.out _).mono ?_
   rintro x w1 ⟨rfl, rfl⟩
   go_wp2_with fail
   refine (H3.out _).mono ?_
   rintro x w1 ⟨rfl, rfl⟩
   go_wp2_with fail
   go_ret
   exact ⟨rfl, (Below.refl _ _).alloc (Nat.le_refl _) _⟩
  ·have H2 := Lib.hid (fun W => plmay_no he W)
   clear hs hs2 hc he
   go_enter Tryz.func8, Tryz.ntmps8
   go_wp2_with fail
   refine (H1.out _).mono ?_
   rintro x w1 ⟨rfl, rfl⟩
   go_wp2_with fail
   refine (H2.out _).mono ?_
   rintro x w1 ⟨rfl, rfl⟩
   go_wp2_with fail
   go_ret
   exact ⟨rfl, (Below.refl _ _).alloc (Nat.le_refl _) _⟩
 ·have H1 := Lib.hid (fun W => plmay_no hc W)
  clear hs hs2 hc
  go_enter Tryz.func8, Tryz.ntmps8
  go_wp2_with fail
  refine (H1.out _).mono ?_
  rintro x w1 ⟨rfl, rfl⟩
  go_wp2_with fail
  go_ret
  exact ⟨rfl, (Below.refl _ _).alloc (Nat.le_refl _) _⟩
end Go.Proofs.YtdfhfmdelinemaaGreatDoor
