/- What is proved here: the document's plain kernel: frames that are taken, capabilities that go; each call by one plain function. Conditions: those that each theorem names. -/
import Derived.Test.YtdfhfmdelinemaaGreatDoorGKerB
import Derived.Deep.MidRow
import Derived.Test.YtdfhfmdelinemaaGreatDoorGParts
namespace Go.Proofs.YtdfhfmdelinemaaGreatDoor
open Go.RowKit Go.Extern.Stop Go.Stop Go.Extern Go.WalkArith
def KernS.clearN (k : KernS) (f n : Nat) : KernS := { k with mm := fun f' a => if f' = f ∧ a < n then 0 else k.mm f' a }
def KernS.clear (k : KernS) (f : Nat) : KernS := k.clearN f 16
theorem clearN_zero (k : KernS) (f : Nat) : k.clearN f 0 = k := by
 unfold KernS.clearN
 simp
theorem clearN_succ (k : KernS) (f n : Nat) : k.clearN f (n + 1) = (k.clearN f n).setWord f n 0 := by
 unfold KernS.clearN KernS.setWord
 congr 1
 funext f' a
 dsimp only
 by_cases h : f' = f ∧ a = n
 ·rw [if_pos h, if_pos ⟨h.1, by omega⟩]
 ·rw [if_neg h]
  by_cases h2 : f' = f ∧ a < n
  ·rw [if_pos h2, if_pos ⟨h2.1, by omega⟩]
  ·rw [if_neg h2, if_neg (by omega)]
def zeroN (w : World) (K o : Nat) : Nat → World
 | 0 => w
 | n + 1 => (zeroN w K o n).setCell ⟨K, o + n, none⟩ (.int .u64 0)
theorem KernIs.zeroN {w : World} {K : Nat} {k : KernS} (h : KernIs w K k) {f : Nat} (hf : f < 16) : ∀ n, n ≤ 16 → KernIs (zeroN w K (259 + f * 16) n) K (k.clearN f n)
 | 0, _ => by rw [clearN_zero]; exact h
 | n + 1, hn => by
  rw [clearN_succ]
  exact (KernIs.zeroN h hf n (by omega)).putWord hf (by omega) 0
theorem tp_zeroN (w : World) (K o : Nat) : ∀ n, OnlyT K w (zeroN w K o n)
 | 0 => tp_below (Below.refl _ _)
 | n + 1 => tp_set (tp_zeroN w K o n) _ _
def allocS (k : KernS) (e s f : Nat) : KernS := (k.clear f).setSlot e s ⟨true, (f : Int), 3, -1, 0⟩
theorem row_first {w : World} {base : Nat} {v : Value} {l : List Nat} (h : w.ownsRow base 3 1 v l.length (pagesV l)) : (l = [] ∧ v = .slice none 0 0) ∨ ∃ g cap, v = .slice (some ⟨g, 0, none⟩) l.length cap ∧ base ≤ g ∧ g < w.heap.size ∧ ∀ f r, l = f :: r → w.cell? ⟨g, 0, none⟩ = some (.int .i64 (f : Int)) := by
 obtain ⟨h1, ⟨rfl, h2⟩ | ⟨g, cap, cur, rfl, h3, h4, h5, h6, h7, h8⟩⟩ := h
 ·exact Or.inl ⟨List.length_eq_zero_iff.1 h2, rfl⟩
 ·refine Or.inr ⟨g, cap, rfl, h3, bk_lt h4, fun f r hl => ?_⟩
  rw [bk_cell h4 0]
  subst hl
  have h9 := congrArg (fun x => x[0]?) h8
  simp [pagesV] at h9
  exact h9
set_option maxRecDepth 100000 in
set_option maxHeartbeats 8000000 in
theorem kref_do_alloc_busy (K : Nat) (k : KernS) (e : Nat) (s : Nat) (x2 x3 x4 : Int) (hs : s < 8) (hfs : 0 ≤ k.frames ∧ k.frames ≤ 16) (hi : (k.sl e s).is = true) (he : (e : Int) < k.envs) (hk4 : k.envs ≤ 4) (hx : wordsIn 1 (s : Int) x2 x3 x4) (hchk : chkN 1 (s : Int) x2 x3 x4 k.envs = 0) (w : World) (h : KernIs w K k) :
  Calls Tryz.prog 13 #[.pointer (some ⟨K, 0, none⟩), .int .i64 (e : Int), callV 1 (s : Int) x2 x3 x4] w fun x w' => x = .returned (ansV 4 0 true) ∧ KernIs w' K (k) ∧ OnlyT K w w' := by
 have HI := Lib.hid hi
 clear hi
 have H := Lib.hid (DoAt.start h 1 (s : Int) x2 x3 x4)
 obtain ⟨_, c1, _⟩ := h.sizes
 have lK := h.lt
 have HCK : Hid (∀ W, Calls Tryz.prog 50 #[callV 1 (s : Int) x2 x3 x4, .int .i64 k.envs] W fun x w' => x = .returned (.int .i64 0) ∧ Below W.heap.size W w') := fun W => by
  have h := ref_Check_any 1 (s : Int) x2 x3 x4 k.envs hx (by unfold intIn; omega) W
  rw [hchk] at h
  exact h
 clear h hchk
 go_enter Tryz.func13, Tryz.ntmps13
 have e0 : ¬ (e : Int) < 0 := by omega
 have e1 : ¬ k.envs ≤ (e : Int) := by omega
 go_wp2_with fail
 obtain ⟨w1, hw1⟩ : ∃ w1, w1 = (w.alloc (.cells #[.int .u64 1, .int .u64 (s : Int), .int .u64 x2, .int .u64 x3, .int .u64 x4] 36)).alloc (.cells #[.int .i64 0, .int .u64 0] 41) := ⟨_, rfl⟩
 obtain ⟨C, hC⟩ : ∃ C, C = w.heap.size := ⟨_, rfl⟩
 obtain ⟨R, hR⟩ : ∃ R, R = w.heap.size + 1 := ⟨_, rfl⟩
 rw [← hw1, ← hR, ← hC] at H
 rw [← hw1, ← hR, ← hC]
 clear hw1 hC hR c1
 have HD : Hid (DoAt w w1.drew K C R k 1 (s : Int) x2 x3 x4) := H.out.drewN 1
 have hS : w1.drew.cell? ⟨C, 0, none⟩ = some (.int .u64 1) ∧ w1.drew.cell? ⟨C, 1, none⟩ = some (.int .u64 (s : Int)) ∧ w1.drew.cell? ⟨C, 2, none⟩ = some (.int .u64 x2) ∧ w1.drew.cell? ⟨C, 3, none⟩ = some (.int .u64 x3) ∧ w1.drew.cell? ⟨C, 4, none⟩ = some (.int .u64 x4) ∧ w1.drew.cell? ⟨K, 1, none⟩ = some (.int .i64 k.envs) := HD.out.read
 clear H
 unfold callV at HCK
 go_region_held3 (fun w' => w'.cell? ⟨C, 0, none⟩ = some (.int .u64 1) ∧ w'.cell? ⟨C, 1, none⟩ = some (.int .u64 (s : Int)) ∧ w'.cell? ⟨C, 2, none⟩ = some (.int .u64 x2) ∧ w'.cell? ⟨C, 3, none⟩ = some (.int .u64 x3) ∧ w'.cell? ⟨C, 4, none⟩ = some (.int .u64 x4) ∧ w'.cell? ⟨K, 1, none⟩ = some (.int .i64 k.envs)) (exact hS)
  ((go_at_call 50; refine (HCK.out _).mono ?_; rintro x wn ⟨rfl, hb⟩; replace HD := Lib.hid (HD.out.later hb); have hS : wn.cell? ⟨C, 0, none⟩ = some (.int .u64 1) ∧ wn.cell? ⟨C, 1, none⟩ = some (.int .u64 (s : Int)) ∧ wn.cell? ⟨C, 2, none⟩ = some (.int .u64 x2) ∧ wn.cell? ⟨C, 3, none⟩ = some (.int .u64 x3) ∧ wn.cell? ⟨C, 4, none⟩ = some (.int .u64 x4) ∧ wn.cell? ⟨K, 1, none⟩ = some (.int .i64 k.envs) := HD.out.read; clear hb))
 all_goals
  have d0 := bk_cell HD.out.call 0
  have d1 := bk_cell HD.out.call 1
  have d2 := bk_cell HD.out.call 2
  have d3 := bk_cell HD.out.call 3
  have d4 := bk_cell HD.out.call 4
  clear hS
  go_wp2_with fail
  refine (Kind_is 1 (s : Int) x2 x3 x4 (by decide) _).mono ?_
  rintro x wk ⟨rfl, hb⟩
  replace HD := Lib.hid (HD.out.later hb)
  clear hb d0 d1 d2 d3 d4
  have hwk : w.heap.size ≤ wk.heap.size := HD.out.only.size
  have hfk : ∃ n : Nat, k.frames = (n : Int) := ⟨k.frames.toNat, by omega⟩
  obtain ⟨n, hn⟩ := hfk
  go_wp2_with fail
  refine (kref_free K k n hn (by omega) _ HD.out.ker).mono ?_
  rintro x wf ⟨v, rfl, hrow, hb⟩
  have HW := Lib.hid hrow
  replace HD := Lib.hid (HD.out.later hb)
  clear hrow hb
  obtain ⟨c0, c1, c2, c3, c4⟩ := HD.out.ker.slot (show e < 4 by omega) hs
  have d1 := bk_cell HD.out.call 1
  have s0 : (0 : Int) ≤ (s : Int) := by omega
  have s1 : (s : Int) < 8 := by omega
  have e2 : (0 : Int) ≤ (e : Int) := by omega
  have e3 : (e : Int) < 4 := by omega
  rw [HI.out] at c0
  go_wp2_with fail
  go_quiet (fail)
  obtain ⟨w4, hw4⟩ : ∃ w4, w4 = wf.drewN nq := ⟨_, rfl⟩
  replace HD : Hid (DoAt w w4 K C R k 1 (s : Int) x2 x3 x4) := by rw [hw4]; exact HD.out.drewN _
  replace HW : Hid (w4.ownsRow wk.heap.size 3 1 v (freeK k n).length (pagesV (freeK k n))) := by rw [hw4]; exact HW.out
  rw [← hw4]
  clear hw4 c0 c1 c2 c3 c4 d1
  go_wp2_with fail
  refine (kref_err 4 _).mono ?_
  rintro x wt ⟨rfl, hb⟩
  have HT := Lib.hid (HD.out.later hb)
  clear hb
  have r0 := bk_cell HT.out.ans 0
  have r1 := bk_cell HT.out.ans 1
  have g0 := bk_free HT.out.ans 0
  have g1 := bk_free HT.out.ans 1
  unfold ansV
  go_wp2_with fail
  exact bodyPost_ret (v := .tuple #[.agg #[.int .i64 4, .int .u64 0], .bool true]) (by simp [results, Tryz.results13, go_sem, r0, r1]) rfl ⟨rfl, (HT.out.told _ _).1, (HT.out.told _ _).2⟩
set_option maxRecDepth 100000 in
set_option maxHeartbeats 8000000 in
theorem kref_do_alloc_full (K : Nat) (k : KernS) (e : Nat) (s : Nat) (x2 x3 x4 : Int) (hs : s < 8) (hfs : 0 ≤ k.frames ∧ k.frames ≤ 16) (hi : (k.sl e s).is = false) (hfree : freeK k k.frames.toNat = []) (he : (e : Int) < k.envs) (hk4 : k.envs ≤ 4) (hx : wordsIn 1 (s : Int) x2 x3 x4) (hchk : chkN 1 (s : Int) x2 x3 x4 k.envs = 0) (w : World) (h : KernIs w K k) :
  Calls Tryz.prog 13 #[.pointer (some ⟨K, 0, none⟩), .int .i64 (e : Int), callV 1 (s : Int) x2 x3 x4] w fun x w' => x = .returned (ansV 6 0 true) ∧ KernIs w' K (k) ∧ OnlyT K w w' := by
 have HI := Lib.hid hi
 have HF := Lib.hid hfree
 clear hi hfree
 have H := Lib.hid (DoAt.start h 1 (s : Int) x2 x3 x4)
 obtain ⟨_, c1, _⟩ := h.sizes
 have lK := h.lt
 have HCK : Hid (∀ W, Calls Tryz.prog 50 #[callV 1 (s : Int) x2 x3 x4, .int .i64 k.envs] W fun x w' => x = .returned (.int .i64 0) ∧ Below W.heap.size W w') := fun W => by
  have h := ref_Check_any 1 (s : Int) x2 x3 x4 k.envs hx (by unfold intIn; omega) W
  rw [hchk] at h
  exact h
 clear h hchk
 go_enter Tryz.func13, Tryz.ntmps13
 have e0 : ¬ (e : Int) < 0 := by omega
 have e1 : ¬ k.envs ≤ (e : Int) := by omega
 go_wp2_with fail
 obtain ⟨w1, hw1⟩ : ∃ w1, w1 = (w.alloc (.cells #[.int .u64 1, .int .u64 (s : Int), .int .u64 x2, .int .u64 x3, .int .u64 x4] 36)).alloc (.cells #[.int .i64 0, .int .u64 0] 41) := ⟨_, rfl⟩
 obtain ⟨C, hC⟩ : ∃ C, C = w.heap.size := ⟨_, rfl⟩
 obtain ⟨R, hR⟩ : ∃ R, R = w.heap.size + 1 := ⟨_, rfl⟩
 rw [← hw1, ← hR, ← hC] at H
 rw [← hw1, ← hR, ← hC]
 clear hw1 hC hR c1
 have HD : Hid (DoAt w w1.drew K C R k 1 (s : Int) x2 x3 x4) := H.out.drewN 1
 have hS : w1.drew.cell? ⟨C, 0, none⟩ = some (.int .u64 1) ∧ w1.drew.cell? ⟨C, 1, none⟩ = some (.int .u64 (s : Int)) ∧ w1.drew.cell? ⟨C, 2, none⟩ = some (.int .u64 x2) ∧ w1.drew.cell? ⟨C, 3, none⟩ = some (.int .u64 x3) ∧ w1.drew.cell? ⟨C, 4, none⟩ = some (.int .u64 x4) ∧ w1.drew.cell? ⟨K, 1, none⟩ = some (.int .i64 k.envs) := HD.out.read
 clear H
 unfold callV at HCK
 go_region_held3 (fun w' => w'.cell? ⟨C, 0, none⟩ = some (.int .u64 1) ∧ w'.cell? ⟨C, 1, none⟩ = some (.int .u64 (s : Int)) ∧ w'.cell? ⟨C, 2, none⟩ = some (.int .u64 x2) ∧ w'.cell? ⟨C, 3, none⟩ = some (.int .u64 x3) ∧ w'.cell? ⟨C, 4, none⟩ = some (.int .u64 x4) ∧ w'.cell? ⟨K, 1, none⟩ = some (.int .i64 k.envs)) (exact hS)
  ((go_at_call 50; refine (HCK.out _).mono ?_; rintro x wn ⟨rfl, hb⟩; replace HD := Lib.hid (HD.out.later hb); have hS : wn.cell? ⟨C, 0, none⟩ = some (.int .u64 1) ∧ wn.cell? ⟨C, 1, none⟩ = some (.int .u64 (s : Int)) ∧ wn.cell? ⟨C, 2, none⟩ = some (.int .u64 x2) ∧ wn.cell? ⟨C, 3, none⟩ = some (.int .u64 x3) ∧ wn.cell? ⟨C, 4, none⟩ = some (.int .u64 x4) ∧ wn.cell? ⟨K, 1, none⟩ = some (.int .i64 k.envs) := HD.out.read; clear hb))
 all_goals
  have d0 := bk_cell HD.out.call 0
  have d1 := bk_cell HD.out.call 1
  have d2 := bk_cell HD.out.call 2
  have d3 := bk_cell HD.out.call 3
  have d4 := bk_cell HD.out.call 4
  clear hS
  go_wp2_with fail
  refine (Kind_is 1 (s : Int) x2 x3 x4 (by decide) _).mono ?_
  rintro x wk ⟨rfl, hb⟩
  replace HD := Lib.hid (HD.out.later hb)
  clear hb d0 d1 d2 d3 d4
  have hwk : w.heap.size ≤ wk.heap.size := HD.out.only.size
  have hfk : ∃ n : Nat, k.frames = (n : Int) := ⟨k.frames.toNat, by omega⟩
  obtain ⟨n, hn⟩ := hfk
  go_wp2_with fail
  refine (kref_free K k n hn (by omega) _ HD.out.ker).mono ?_
  rintro x wf ⟨v, rfl, hrow, hb⟩
  have HW := Lib.hid hrow
  replace HD := Lib.hid (HD.out.later hb)
  clear hrow hb
  obtain ⟨c0, c1, c2, c3, c4⟩ := HD.out.ker.slot (show e < 4 by omega) hs
  have d1 := bk_cell HD.out.call 1
  have s0 : (0 : Int) ≤ (s : Int) := by omega
  have s1 : (s : Int) < 8 := by omega
  have e2 : (0 : Int) ≤ (e : Int) := by omega
  have e3 : (e : Int) < 4 := by omega
  rw [HI.out] at c0
  go_wp2_with fail
  go_quiet (fail)
  obtain ⟨w4, hw4⟩ : ∃ w4, w4 = wf.drewN nq := ⟨_, rfl⟩
  replace HD : Hid (DoAt w w4 K C R k 1 (s : Int) x2 x3 x4) := by rw [hw4]; exact HD.out.drewN _
  replace HW : Hid (w4.ownsRow wk.heap.size 3 1 v (freeK k n).length (pagesV (freeK k n))) := by rw [hw4]; exact HW.out
  rw [← hw4]
  clear hw4 c0 c1 c2 c3 c4 d1
  have HF2 : freeK k n = [] := by have := HF.out; rw [hn] at this; simpa using this
  rw [HF2] at HW
  clear HF2
  rcases row_first HW.out with ⟨_, rfl⟩ | ⟨g, cap, rfl, _⟩
  ·go_wp2_with fail
   refine (kref_err 6 _).mono ?_
   rintro x wt ⟨rfl, hb⟩
   have HT := Lib.hid (HD.out.later hb)
   clear hb
   have r0 := bk_cell HT.out.ans 0
   have r1 := bk_cell HT.out.ans 1
   have g0 := bk_free HT.out.ans 0
   have g1 := bk_free HT.out.ans 1
   unfold ansV
   go_wp2_with fail
   exact bodyPost_ret (v := .tuple #[.agg #[.int .i64 6, .int .u64 0], .bool true]) (by simp [results, Tryz.results13, go_sem, r0, r1]) rfl ⟨rfl, (HT.out.told _ _).1, (HT.out.told _ _).2⟩
  ·simp only [List.length_nil]
   go_wp2_with fail
   refine (kref_err 6 _).mono ?_
   rintro x wt ⟨rfl, hb⟩
   have HT := Lib.hid (HD.out.later hb)
   clear hb
   have r0 := bk_cell HT.out.ans 0
   have r1 := bk_cell HT.out.ans 1
   have g0 := bk_free HT.out.ans 0
   have g1 := bk_free HT.out.ans 1
   unfold ansV
   go_wp2_with fail
   exact bodyPost_ret (v := .tuple #[.agg #[.int .i64 6, .int .u64 0], .bool true]) (by simp [results, Tryz.results13, go_sem, r0, r1]) rfl ⟨rfl, (HT.out.told _ _).1, (HT.out.told _ _).2⟩
set_option maxRecDepth 100000 in
set_option maxHeartbeats 8000000 in
theorem kref_do_alloc (K : Nat) (k : KernS) (e : Nat) (s f : Nat) (r : List Nat) (x2 x3 x4 : Int) (hs : s < 8) (hf : f < 16) (hfs : 0 ≤ k.frames ∧ k.frames ≤ 16) (hi : (k.sl e s).is = false) (hfree : freeK k k.frames.toNat = f :: r) (he : (e : Int) < k.envs) (hk4 : k.envs ≤ 4) (hx : wordsIn 1 (s : Int) x2 x3 x4) (hchk : chkN 1 (s : Int) x2 x3 x4 k.envs = 0) (w : World) (h : KernIs w K k) :
  Calls Tryz.prog 13 #[.pointer (some ⟨K, 0, none⟩), .int .i64 (e : Int), callV 1 (s : Int) x2 x3 x4] w fun x w' => x = .returned (ansV 0 0 true) ∧ KernIs w' K (allocS k e s f) ∧ OnlyT K w w' := by
 have HI := Lib.hid hi
 have HF := Lib.hid hfree
 clear hi hfree
 have H := Lib.hid (DoAt.start h 1 (s : Int) x2 x3 x4)
 obtain ⟨_, c1, _⟩ := h.sizes
 have lK := h.lt
 have HCK : Hid (∀ W, Calls Tryz.prog 50 #[callV 1 (s : Int) x2 x3 x4, .int .i64 k.envs] W fun x w' => x = .returned (.int .i64 0) ∧ Below W.heap.size W w') := fun W => by
  have h := ref_Check_any 1 (s : Int) x2 x3 x4 k.envs hx (by unfold intIn; omega) W
  rw [hchk] at h
  exact h
 clear h hchk
 go_enter Tryz.func13, Tryz.ntmps13
 have e0 : ¬ (e : Int) < 0 := by omega
 have e1 : ¬ k.envs ≤ (e : Int) := by omega
 go_wp2_with fail
 obtain ⟨w1, hw1⟩ : ∃ w1, w1 = (w.alloc (.cells #[.int .u64 1, .int .u64 (s : Int), .int .u64 x2, .int .u64 x3, .int .u64 x4] 36)).alloc (.cells #[.int .i64 0, .int .u64 0] 41) := ⟨_, rfl⟩
 obtain ⟨C, hC⟩ : ∃ C, C = w.heap.size := ⟨_, rfl⟩
 obtain ⟨R, hR⟩ : ∃ R, R = w.heap.size + 1 := ⟨_, rfl⟩
 rw [← hw1, ← hR, ← hC] at H
 rw [← hw1, ← hR, ← hC]
 clear hw1 hC hR c1
 have HD : Hid (DoAt w w1.drew K C R k 1 (s : Int) x2 x3 x4) := H.out.drewN 1
 have hS : w1.drew.cell? ⟨C, 0, none⟩ = some (.int .u64 1) ∧ w1.drew.cell? ⟨C, 1, none⟩ = some (.int .u64 (s : Int)) ∧ w1.drew.cell? ⟨C, 2, none⟩ = some (.int .u64 x2) ∧ w1.drew.cell? ⟨C, 3, none⟩ = some (.int .u64 x3) ∧ w1.drew.cell? ⟨C, 4, none⟩ = some (.int .u64 x4) ∧ w1.drew.cell? ⟨K, 1, none⟩ = some (.int .i64 k.envs) := HD.out.read
 clear H
 unfold callV at HCK
 go_region_held3 (fun w' => w'.cell? ⟨C, 0, none⟩ = some (.int .u64 1) ∧ w'.cell? ⟨C, 1, none⟩ = some (.int .u64 (s : Int)) ∧ w'.cell? ⟨C, 2, none⟩ = some (.int .u64 x2) ∧ w'.cell? ⟨C, 3, none⟩ = some (.int .u64 x3) ∧ w'.cell? ⟨C, 4, none⟩ = some (.int .u64 x4) ∧ w'.cell? ⟨K, 1, none⟩ = some (.int .i64 k.envs)) (exact hS)
  ((go_at_call 50; refine (HCK.out _).mono ?_; rintro x wn ⟨rfl, hb⟩; replace HD := Lib.hid (HD.out.later hb); have hS : wn.cell? ⟨C, 0, none⟩ = some (.int .u64 1) ∧ wn.cell? ⟨C, 1, none⟩ = some (.int .u64 (s : Int)) ∧ wn.cell? ⟨C, 2, none⟩ = some (.int .u64 x2) ∧ wn.cell? ⟨C, 3, none⟩ = some (.int .u64 x3) ∧ wn.cell? ⟨C, 4, none⟩ = some (.int .u64 x4) ∧ wn.cell? ⟨K, 1, none⟩ = some (.int .i64 k.envs) := HD.out.read; clear hb))
 all_goals
  have d0 := bk_cell HD.out.call 0
  have d1 := bk_cell HD.out.call 1
  have d2 := bk_cell HD.out.call 2
  have d3 := bk_cell HD.out.call 3
  have d4 := bk_cell HD.out.call 4
  clear hS
  go_wp2_with fail
  refine (Kind_is 1 (s : Int) x2 x3 x4 (by decide) _).mono ?_
  rintro x wk ⟨rfl, hb⟩
  replace HD := Lib.hid (HD.out.later hb)
  clear hb d0 d1 d2 d3 d4
  have hwk : w.heap.size ≤ wk.heap.size := HD.out.only.size
  have hfk : ∃ n : Nat, k.frames = (n : Int) := ⟨k.frames.toNat, by omega⟩
  obtain ⟨n, hn⟩ := hfk
  go_wp2_with fail
  refine (kref_free K k n hn (by omega) _ HD.out.ker).mono ?_
  rintro x wf ⟨v, rfl, hrow, hb⟩
  have HW := Lib.hid hrow
  replace HD := Lib.hid (HD.out.later hb)
  clear hrow hb
  obtain ⟨c0, c1, c2, c3, c4⟩ := HD.out.ker.slot (show e < 4 by omega) hs
  have d1 := bk_cell HD.out.call 1
  have s0 : (0 : Int) ≤ (s : Int) := by omega
  have s1 : (s : Int) < 8 := by omega
  have e2 : (0 : Int) ≤ (e : Int) := by omega
  have e3 : (e : Int) < 4 := by omega
  rw [HI.out] at c0
  go_wp2_with fail
  go_quiet (fail)
  obtain ⟨w4, hw4⟩ : ∃ w4, w4 = wf.drewN nq := ⟨_, rfl⟩
  replace HD : Hid (DoAt w w4 K C R k 1 (s : Int) x2 x3 x4) := by rw [hw4]; exact HD.out.drewN _
  replace HW : Hid (w4.ownsRow wk.heap.size 3 1 v (freeK k n).length (pagesV (freeK k n))) := by rw [hw4]; exact HW.out
  rw [← hw4]
  clear hw4 c0 c1 c2 c3 c4 d1
  have HF2 : freeK k n = f :: r := by have := HF.out; rw [hn] at this; simpa using this
  have hfl := freeK_le k n
  rw [HF2] at HW hfl
  rcases row_first HW.out with ⟨hno, _⟩ | ⟨g, cap, rfl, hg0, hg1, hg2⟩
  ·cases hno
  ·have G0 := hg2 f r rfl
   have hl1 : (0 : Int) < ((f :: r).length : Int) := by rw [List.length_cons]; omega
   have hl2 : (((f :: r).length : Int) == 0) = false := beq_eq_false_iff_ne.2 (by omega)
   generalize (f :: r).length = len at hl1 hl2 hfl ⊢
   clear HF2 hg2
   have f0 : (0 : Int) ≤ (f : Int) := by omega
   have f1 : (f : Int) < 16 := by omega
   have hm := fun a (ha : a < 16) => HD.out.ker.word hf ha
   have hfz := fun a => HD.out.ker.free (259 + f * 16 + a)
   have m0 : w4.cell? ⟨K, 259 + f * 16, none⟩ = some (.int .u64 (k.mm f 0)) := hm 0 (by omega)
   have z0 : w4.frozen? ⟨K, 259 + f * 16, none⟩ = false := hfz 0
   have m1 : w4.cell? ⟨K, 259 + f * 16 + 1, none⟩ = some (.int .u64 (k.mm f 1)) := hm 1 (by omega)
   have z1 : w4.frozen? ⟨K, 259 + f * 16 + 1, none⟩ = false := hfz 1
   have m2 : w4.cell? ⟨K, 259 + f * 16 + 2, none⟩ = some (.int .u64 (k.mm f 2)) := hm 2 (by omega)
   have z2 : w4.frozen? ⟨K, 259 + f * 16 + 2, none⟩ = false := hfz 2
   have m3 : w4.cell? ⟨K, 259 + f * 16 + 3, none⟩ = some (.int .u64 (k.mm f 3)) := hm 3 (by omega)
   have z3 : w4.frozen? ⟨K, 259 + f * 16 + 3, none⟩ = false := hfz 3
   have m4 : w4.cell? ⟨K, 259 + f * 16 + 4, none⟩ = some (.int .u64 (k.mm f 4)) := hm 4 (by omega)
   have z4 : w4.frozen? ⟨K, 259 + f * 16 + 4, none⟩ = false := hfz 4
   have m5 : w4.cell? ⟨K, 259 + f * 16 + 5, none⟩ = some (.int .u64 (k.mm f 5)) := hm 5 (by omega)
   have z5 : w4.frozen? ⟨K, 259 + f * 16 + 5, none⟩ = false := hfz 5
   have m6 : w4.cell? ⟨K, 259 + f * 16 + 6, none⟩ = some (.int .u64 (k.mm f 6)) := hm 6 (by omega)
   have z6 : w4.frozen? ⟨K, 259 + f * 16 + 6, none⟩ = false := hfz 6
   have m7 : w4.cell? ⟨K, 259 + f * 16 + 7, none⟩ = some (.int .u64 (k.mm f 7)) := hm 7 (by omega)
   have z7 : w4.frozen? ⟨K, 259 + f * 16 + 7, none⟩ = false := hfz 7
   have m8 : w4.cell? ⟨K, 259 + f * 16 + 8, none⟩ = some (.int .u64 (k.mm f 8)) := hm 8 (by omega)
   have z8 : w4.frozen? ⟨K, 259 + f * 16 + 8, none⟩ = false := hfz 8
   have m9 : w4.cell? ⟨K, 259 + f * 16 + 9, none⟩ = some (.int .u64 (k.mm f 9)) := hm 9 (by omega)
   have z9 : w4.frozen? ⟨K, 259 + f * 16 + 9, none⟩ = false := hfz 9
   have m10 : w4.cell? ⟨K, 259 + f * 16 + 10, none⟩ = some (.int .u64 (k.mm f 10)) := hm 10 (by omega)
   have z10 : w4.frozen? ⟨K, 259 + f * 16 + 10, none⟩ = false := hfz 10
   have m11 : w4.cell? ⟨K, 259 + f * 16 + 11, none⟩ = some (.int .u64 (k.mm f 11)) := hm 11 (by omega)
   have z11 : w4.frozen? ⟨K, 259 + f * 16 + 11, none⟩ = false := hfz 11
   have m12 : w4.cell? ⟨K, 259 + f * 16 + 12, none⟩ = some (.int .u64 (k.mm f 12)) := hm 12 (by omega)
   have z12 : w4.frozen? ⟨K, 259 + f * 16 + 12, none⟩ = false := hfz 12
   have m13 : w4.cell? ⟨K, 259 + f * 16 + 13, none⟩ = some (.int .u64 (k.mm f 13)) := hm 13 (by omega)
   have z13 : w4.frozen? ⟨K, 259 + f * 16 + 13, none⟩ = false := hfz 13
   have m14 : w4.cell? ⟨K, 259 + f * 16 + 14, none⟩ = some (.int .u64 (k.mm f 14)) := hm 14 (by omega)
   have z14 : w4.frozen? ⟨K, 259 + f * 16 + 14, none⟩ = false := hfz 14
   have m15 : w4.cell? ⟨K, 259 + f * 16 + 15, none⟩ = some (.int .u64 (k.mm f 15)) := hm 15 (by omega)
   have z15 : w4.frozen? ⟨K, 259 + f * 16 + 15, none⟩ = false := hfz 15
   clear hm hfz
   go_wp2_with fail
   go_region
   obtain ⟨w5, hw5⟩ : ∃ w5, w5 = (zeroN w4 K (259 + f * 16) 16).drew := ⟨_, rfl⟩
   have ho5 : OnlyT K w4 w5 := by rw [hw5]; exact tk_drew (tp_zeroN _ _ _ _)
   have hk5 : KernIs w5 K (k.clear f) := by rw [hw5]; exact (HD.out.ker.zeroN hf 16 (by omega)).drew
   have hKk : K < wk.heap.size := by omega
   have G5 : w5.cell? ⟨g, 0, none⟩ = some (.int .i64 (f : Int)) := (World.cell?_of_block (a := ⟨g, 0, none⟩) (ho5.block g hg1 (fun e => by injection e with e; omega))).trans G0
   replace HD := Lib.hid (HD.out.turned hk5 ho5)
   have hw6 : ((((((((((((((((w4.setCell ⟨K, 259 + f * 16, none⟩ (.int .u64 0)).setCell ⟨K, 259 + f * 16 + 1, none⟩ (.int .u64 0)).setCell ⟨K, 259 + f * 16 + 2, none⟩ (.int .u64 0)).setCell ⟨K, 259 + f * 16 + 3, none⟩ (.int .u64 0)).setCell ⟨K, 259 + f * 16 + 4, none⟩ (.int .u64 0)).setCell ⟨K, 259 + f * 16 + 5, none⟩ (.int .u64 0)).setCell ⟨K, 259 + f * 16 + 6, none⟩ (.int .u64 0)).setCell ⟨K, 259 + f * 16 + 7, none⟩ (.int .u64 0)).setCell ⟨K, 259 + f * 16 + 8, none⟩ (.int .u64 0)).setCell ⟨K, 259 + f * 16 + 9, none⟩ (.int .u64 0)).setCell ⟨K, 259 + f * 16 + 10, none⟩ (.int .u64 0)).setCell ⟨K, 259 + f * 16 + 11, none⟩ (.int .u64 0)).setCell ⟨K, 259 + f * 16 + 12, none⟩ (.int .u64 0)).setCell ⟨K, 259 + f * 16 + 13, none⟩ (.int .u64 0)).setCell ⟨K, 259 + f * 16 + 14, none⟩ (.int .u64 0)).setCell ⟨K, 259 + f * 16 + 15, none⟩ (.int .u64 0)).drew = w5 := hw5.symm
   rw [hw6]
   clear hw6 hw5 ho5 hk5 G0 HW
   clear m0 z0
   clear m1 z1
   clear m2 z2
   clear m3 z3
   clear m4 z4
   clear m5 z5
   clear m6 z6
   clear m7 z7
   clear m8 z8
   clear m9 z9
   clear m10 z10
   clear m11 z11
   clear m12 z12
   clear m13 z13
   clear m14 z14
   clear m15 z15
   have lg : g ≠ K := by omega
   have d1 := bk_cell HD.out.call 1
   obtain ⟨c0, c1, c2, c3, c4⟩ := HD.out.ker.slot (show e < 4 by omega) hs
   have f20 := HD.out.ker.free (3 + e * 40 + s * 5)
   have f21 := HD.out.ker.free (3 + e * 40 + s * 5 + 1)
   have f22 := HD.out.ker.free (3 + e * 40 + s * 5 + 2)
   have f23 := HD.out.ker.free (3 + e * 40 + s * 5 + 3)
   have f24 := HD.out.ker.free (3 + e * 40 + s * 5 + 4)
   go_wp2_with fail
   go_region
   have hk6 : KernIs (((((w5.setCell ⟨K, 3 + e * 40 + s * 5, none⟩ (.bool true)).setCell ⟨K, 3 + e * 40 + s * 5 + 1, none⟩ (.int .i64 (f : Int))).setCell ⟨K, 3 + e * 40 + s * 5 + 2, none⟩ (.int .i64 3)).setCell ⟨K, 3 + e * 40 + s * 5 + 3, none⟩ (.int .i64 (-1))).setCell ⟨K, 3 + e * 40 + s * 5 + 4, none⟩ (.int .i64 0)).drew K (allocS k e s f) := (HD.out.ker.putSlot (by omega) hs true (f : Int) 3 (-1) 0).drew
   have ho6 : OnlyT K w5 (((((w5.setCell ⟨K, 3 + e * 40 + s * 5, none⟩ (.bool true)).setCell ⟨K, 3 + e * 40 + s * 5 + 1, none⟩ (.int .i64 (f : Int))).setCell ⟨K, 3 + e * 40 + s * 5 + 2, none⟩ (.int .i64 3)).setCell ⟨K, 3 + e * 40 + s * 5 + 3, none⟩ (.int .i64 (-1))).setCell ⟨K, 3 + e * 40 + s * 5 + 4, none⟩ (.int .i64 0)).drew := tk_drew (tp_slot (tp_below (Below.refl _ _)) _ _ _ _ _ _)
   replace HD := Lib.hid (HD.out.turned hk6 ho6)
   clear hk6 ho6 f20 f21 f22 f23 f24 c0 c1 c2 c3 c4 d1 G5
   go_wp2_with fail
   refine (kref_err 0 _).mono ?_
   rintro x wt ⟨rfl, hb⟩
   have HT := Lib.hid (HD.out.later hb)
   clear hb
   have r0 := bk_cell HT.out.ans 0
   have r1 := bk_cell HT.out.ans 1
   have g0 := bk_free HT.out.ans 0
   have g1 := bk_free HT.out.ans 1
   unfold ansV
   go_wp2_with fail
   exact bodyPost_ret (v := .tuple #[.agg #[.int .i64 0, .int .u64 0], .bool true]) (by simp [results, Tryz.results13, go_sem, r0, r1]) rfl ⟨rfl, (HT.out.told _ _).1, (HT.out.told _ _).2⟩
end Go.Proofs.YtdfhfmdelinemaaGreatDoor
namespace Go.Proofs.YtdfhfmdelinemaaGreatDoor
open Go.RowKit Go.Extern.Stop Go.Stop Go.Extern Go.WalkArith
theorem placesV_get : ∀ (l : List Nat) (i : Nat) (hi : i < l.length), (placesV l)[i * 2]? = some (.int .i64 ((l[i] / 8 : Nat) : Int)) ∧ (placesV l)[i * 2 + 1]? = some (.int .i64 ((l[i] % 8 : Nat) : Int))
 | [], _, hi => absurd hi (by simp)
 | j :: l, 0, _ => ⟨rfl, rfl⟩
 | j :: l, i + 1, hi => by
  have h := placesV_get l i (by simpa using hi)
  have e : placesV (j :: l) = Value.int .i64 ((j / 8 : Nat) : Int) :: Value.int .i64 ((j % 8 : Nat) : Int) :: placesV l := rfl
  rw [e, show (i + 1) * 2 = i * 2 + 1 + 1 by omega]
  simp only [List.getElem?_cons_succ, List.getElem_cons_succ]
  exact h
theorem row_places {w : World} {base : Nat} {v : Value} {l : List Nat} (h : w.ownsRow base 118 2 v l.length (placesV l)) : (l = [] ∧ v = .slice none 0 0) ∨ ∃ g cap, v = .slice (some ⟨g, 0, none⟩) l.length cap ∧ base ≤ g ∧ PlacesAt w g l := by
 obtain ⟨h1, ⟨rfl, h2⟩ | ⟨g, cap, cur, rfl, h3, h4, h5, h6, h7, h8⟩⟩ := h
 ·exact Or.inl ⟨List.length_eq_zero_iff.1 h2, rfl⟩
 ·refine Or.inr ⟨g, cap, rfl, h3, fun i hi => ?_, bk_lt h4⟩
  obtain ⟨p0, p1⟩ := placesV_get l i hi
  rw [← h8, List.getElem?_take] at p0 p1
  rw [if_pos (by omega)] at p0 p1
  rw [bk_cell h4, bk_cell h4]
  simp only [Array.getElem?_toList] at p0 p1
  exact ⟨p0, p1⟩
theorem row_slice {w : World} {base n size : Nat} {t : TypeId} {v : Value} {xs : List Value} (h : w.ownsRow base t size v n xs) : ∃ ao cap, v = .slice ao n cap := by
 obtain ⟨_, ⟨rfl, rfl⟩ | ⟨g, cap, cur, rfl, _⟩⟩ := h
 ·exact ⟨none, 0, rfl⟩
 ·exact ⟨some ⟨g, 0, none⟩, cap, rfl⟩
theorem kref_gone_nil (K : Nat) (k : KernS) (w : World) (h : KernIs w K k) :
  Calls Tryz.prog 55 #[.pointer (some ⟨K, 0, none⟩), .slice none 0 0] w fun e w' => e = .returned (.tuple #[]) ∧ KernIs w' K (goneF k []) ∧ OnlyT K w w' := by
 have H := Lib.hid h
 clear h
 go_enter Tryz.func55, Tryz.ntmps55
 go_wp2_with fail
 go_loopw [4] (fun iv W => iv = .int .i64 0 ∧ w = W) (fun _ _ => 0)
 case atStart => exact ⟨rfl, rfl⟩
 case round =>
  obtain ⟨rfl, rfl⟩ := hrel
  go_wp2_with fail
  go_end0
  exact ⟨rfl, H.out, tp_below (Below.refl _ _)⟩
theorem kref_gone (K base : Nat) (k : KernS) (l : List Nat) (v : Value) (hl : ∀ j, j ∈ l → j < 32) (hlen : l.length ≤ 1000) (hKb : K < base) (w : World) (h : KernIs w K k) (hr : w.ownsRow base 118 2 v l.length (placesV l)) :
  Calls Tryz.prog 55 #[.pointer (some ⟨K, 0, none⟩), v] w fun e w' => e = .returned (.tuple #[]) ∧ KernIs w' K (goneF k l) ∧ OnlyT K w w' := by
 rcases row_places hr with ⟨rfl, rfl⟩ | ⟨g, cap, rfl, hg, ha⟩
 ·exact kref_gone_nil K k w h
 ·exact kref_gone_some K g cap k l hl hlen (by omega) w h ha
theorem DoAt.grown {w w1 w2 : World} {K C R : Nat} {k : KernS} {x0 x1 x2 x3 x4 : Int} (h : DoAt w w1 K C R k x0 x1 x2 x3 x4) {o : Obj} {row : Option Nat} (hg : (w1.alloc o).grownBy w2 row) {b : Nat} (hr : ∀ g, row = some g → b ≤ g) (hb : C < b ∧ R < b ∧ K < b ∧ w.heap.size ≤ b) : DoAt w w2 K C R k x0 x1 x2 x3 x4 := by
 have hf : ∀ i, i < b → i < w1.heap.size → w2.heap[i]? = w1.heap[i]? := fun i hi h1 => (hg.block i (by simp; omega) (fun e => by have := hr i e.symm; omega)).trans (Below.heap_alloc w1 o i h1)
 have hs : w1.heap.size ≤ w2.heap.size := by have := hg.size; simp at this; omega
 refine ⟨h.ker.foot hs (hf K (by omega) h.ker.lt), (hf C (by omega) (bk_lt h.call)).trans h.call, (hf R (by omega) (bk_lt h.ans)).trans h.ans, ⟨hg.os.trans h.only.os, hg.tape.trans h.only.tape, hg.output.trans h.only.output, Nat.le_trans h.only.size hs, fun i hi hne => (hf i (by omega) (Nat.lt_of_lt_of_le hi h.only.size)).trans (h.only.block i hi hne)⟩, h.new⟩
theorem belowL_lt {k : KernS} {q j : Nat} (h : j ∈ belowL k q 32) : j < 32 := by
 unfold belowL at h
 exact List.mem_range.1 (List.mem_filter.1 h).1
set_option maxRecDepth 100000 in
set_option maxHeartbeats 8000000 in
theorem kref_do_revoke_none (K : Nat) (k : KernS) (e : Nat) (s : Nat) (x2 x3 x4 : Int) (hs : s < 8) (hi : (k.sl e s).is = false) (he : (e : Int) < k.envs) (hk4 : k.envs ≤ 4) (hx : wordsIn 4 (s : Int) x2 x3 x4) (hchk : chkN 4 (s : Int) x2 x3 x4 k.envs = 0) (w : World) (h : KernIs w K k) :
  Calls Tryz.prog 13 #[.pointer (some ⟨K, 0, none⟩), .int .i64 (e : Int), callV 4 (s : Int) x2 x3 x4] w fun x w' => x = .returned (ansV 3 0 true) ∧ KernIs w' K (k) ∧ OnlyT K w w' := by
 have HI := Lib.hid hi
 clear hi
 have H := Lib.hid (DoAt.start h 4 (s : Int) x2 x3 x4)
 obtain ⟨_, c1, _⟩ := h.sizes
 have lK := h.lt
 have HCK : Hid (∀ W, Calls Tryz.prog 50 #[callV 4 (s : Int) x2 x3 x4, .int .i64 k.envs] W fun x w' => x = .returned (.int .i64 0) ∧ Below W.heap.size W w') := fun W => by
  have h := ref_Check_any 4 (s : Int) x2 x3 x4 k.envs hx (by unfold intIn; omega) W
  rw [hchk] at h
  exact h
 clear h hchk
 go_enter Tryz.func13, Tryz.ntmps13
 have e0 : ¬ (e : Int) < 0 := by omega
 have e1 : ¬ k.envs ≤ (e : Int) := by omega
 go_wp2_with fail
 obtain ⟨w1, hw1⟩ : ∃ w1, w1 = (w.alloc (.cells #[.int .u64 4, .int .u64 (s : Int), .int .u64 x2, .int .u64 x3, .int .u64 x4] 36)).alloc (.cells #[.int .i64 0, .int .u64 0] 41) := ⟨_, rfl⟩
 obtain ⟨C, hC⟩ : ∃ C, C = w.heap.size := ⟨_, rfl⟩
 obtain ⟨R, hR⟩ : ∃ R, R = w.heap.size + 1 := ⟨_, rfl⟩
 rw [← hw1, ← hR, ← hC] at H
 rw [← hw1, ← hR, ← hC]
 clear hw1 hC hR c1
 have HD : Hid (DoAt w w1.drew K C R k 4 (s : Int) x2 x3 x4) := H.out.drewN 1
 have hS : w1.drew.cell? ⟨C, 0, none⟩ = some (.int .u64 4) ∧ w1.drew.cell? ⟨C, 1, none⟩ = some (.int .u64 (s : Int)) ∧ w1.drew.cell? ⟨C, 2, none⟩ = some (.int .u64 x2) ∧ w1.drew.cell? ⟨C, 3, none⟩ = some (.int .u64 x3) ∧ w1.drew.cell? ⟨C, 4, none⟩ = some (.int .u64 x4) ∧ w1.drew.cell? ⟨K, 1, none⟩ = some (.int .i64 k.envs) := HD.out.read
 clear H
 unfold callV at HCK
 go_region_held3 (fun w' => w'.cell? ⟨C, 0, none⟩ = some (.int .u64 4) ∧ w'.cell? ⟨C, 1, none⟩ = some (.int .u64 (s : Int)) ∧ w'.cell? ⟨C, 2, none⟩ = some (.int .u64 x2) ∧ w'.cell? ⟨C, 3, none⟩ = some (.int .u64 x3) ∧ w'.cell? ⟨C, 4, none⟩ = some (.int .u64 x4) ∧ w'.cell? ⟨K, 1, none⟩ = some (.int .i64 k.envs)) (exact hS)
  ((go_at_call 50; refine (HCK.out _).mono ?_; rintro x wn ⟨rfl, hb⟩; replace HD := Lib.hid (HD.out.later hb); have hS : wn.cell? ⟨C, 0, none⟩ = some (.int .u64 4) ∧ wn.cell? ⟨C, 1, none⟩ = some (.int .u64 (s : Int)) ∧ wn.cell? ⟨C, 2, none⟩ = some (.int .u64 x2) ∧ wn.cell? ⟨C, 3, none⟩ = some (.int .u64 x3) ∧ wn.cell? ⟨C, 4, none⟩ = some (.int .u64 x4) ∧ wn.cell? ⟨K, 1, none⟩ = some (.int .i64 k.envs) := HD.out.read; clear hb))
 all_goals
  have d0 := bk_cell HD.out.call 0
  have d1 := bk_cell HD.out.call 1
  have d2 := bk_cell HD.out.call 2
  have d3 := bk_cell HD.out.call 3
  have d4 := bk_cell HD.out.call 4
  clear hS
  go_wp2_with fail
  refine (Kind_is 4 (s : Int) x2 x3 x4 (by decide) _).mono ?_
  rintro x wk ⟨rfl, hb⟩
  replace HD := Lib.hid (HD.out.later hb)
  clear hb d0 d1 d2 d3 d4
  obtain ⟨P, hP⟩ : ∃ P, P = wk.heap.size := ⟨_, rfl⟩
  have d1 := bk_cell HD.out.call 1
  have s0 : (0 : Int) ≤ (s : Int) := by omega
  have s1 : (s : Int) < 8 := by omega
  have e2 : (0 : Int) ≤ (e : Int) := by omega
  have e3 : (e : Int) < 4 := by omega
  obtain ⟨w2, hw2⟩ : ∃ w2, w2 = wk.alloc (.cells #[.int .i64 (e : Int), .int .i64 (s : Int)] 118) := ⟨_, rfl⟩
  have hb2 : Below wk.heap.size wk w2 := by rw [hw2]; exact (Below.refl _ _).alloc (Nat.le_refl _) _
  have HP : Hid (w2.heap[P]? = some (.cells #[.int .i64 (e : Int), .int .i64 (s : Int)] 118 (0, 0))) := by rw [hw2, hP]; exact heap_alloc_new wk _
  have HD2 := Lib.hid (HD.out.later hb2)
  obtain ⟨c0, c1, c2, c3, c4⟩ := HD.out.ker.slot (show e < 4 by omega) hs
  have lC := bk_lt HD.out.call
  have lK2 := HD.out.ker.lt
  rw [HI.out] at c0
  go_wp2_with fail
  rw [← hw2, ← hP]
  clear hw2 hP hb2 lC lK2 d1 c0 c1 c2 c3 c4 HD
  have d1 := bk_cell HD2.out.call 1
  obtain ⟨c0, c1, c2, c3, c4⟩ := HD2.out.ker.slot (show e < 4 by omega) hs
  rw [HI.out] at c0
  go_quiet (fail)
  obtain ⟨w3, hw3⟩ : ∃ w3, w3 = w2.drewN nq := ⟨_, rfl⟩
  have HD : Hid (DoAt w w3 K C R k 4 (s : Int) x2 x3 x4) := by rw [hw3]; exact HD2.out.drewN _
  replace HP : Hid (w3.heap[P]? = some (.cells #[.int .i64 (e : Int), .int .i64 (s : Int)] 118 (0, 0))) := by rw [hw3]; exact HP.out
  rw [← hw3]
  clear hw3 HD2 d1 c0 c1 c2 c3 c4
  go_wp2_with fail
  refine (kref_err 3 _).mono ?_
  rintro x wt ⟨rfl, hb⟩
  have HT := Lib.hid (HD.out.later hb)
  clear hb
  have r0 := bk_cell HT.out.ans 0
  have r1 := bk_cell HT.out.ans 1
  have g0 := bk_free HT.out.ans 0
  have g1 := bk_free HT.out.ans 1
  unfold ansV
  go_wp2_with fail
  exact bodyPost_ret (v := .tuple #[.agg #[.int .i64 3, .int .u64 0], .bool true]) (by simp [results, Tryz.results13, go_sem, r0, r1]) rfl ⟨rfl, (HT.out.told _ _).1, (HT.out.told _ _).2⟩
set_option maxRecDepth 100000 in
set_option maxHeartbeats 8000000 in
theorem kref_do_revoke (K : Nat) (k : KernS) (e : Nat) (s : Nat) (x2 x3 x4 : Int) (hs : s < 8) (hk : Sound k) (hi : (k.sl e s).is = true) (he : (e : Int) < k.envs) (hk4 : k.envs ≤ 4) (hx : wordsIn 4 (s : Int) x2 x3 x4) (hchk : chkN 4 (s : Int) x2 x3 x4 k.envs = 0) (w : World) (h : KernIs w K k) :
  Calls Tryz.prog 13 #[.pointer (some ⟨K, 0, none⟩), .int .i64 (e : Int), callV 4 (s : Int) x2 x3 x4] w fun x w' => x = .returned (ansV 0 ((belowL k (e * 8 + s) 32).length : Nat) true) ∧ KernIs w' K (goneF k (belowL k (e * 8 + s) 32)) ∧ OnlyT K w w' := by
 have HI := Lib.hid hi
 have HK := Lib.hid hk
 clear hi hk
 have H := Lib.hid (DoAt.start h 4 (s : Int) x2 x3 x4)
 obtain ⟨_, c1, _⟩ := h.sizes
 have lK := h.lt
 have HCK : Hid (∀ W, Calls Tryz.prog 50 #[callV 4 (s : Int) x2 x3 x4, .int .i64 k.envs] W fun x w' => x = .returned (.int .i64 0) ∧ Below W.heap.size W w') := fun W => by
  have h := ref_Check_any 4 (s : Int) x2 x3 x4 k.envs hx (by unfold intIn; omega) W
  rw [hchk] at h
  exact h
 clear h hchk
 go_enter Tryz.func13, Tryz.ntmps13
 have e0 : ¬ (e : Int) < 0 := by omega
 have e1 : ¬ k.envs ≤ (e : Int) := by omega
 go_wp2_with fail
 obtain ⟨w1, hw1⟩ : ∃ w1, w1 = (w.alloc (.cells #[.int .u64 4, .int .u64 (s : Int), .int .u64 x2, .int .u64 x3, .int .u64 x4] 36)).alloc (.cells #[.int .i64 0, .int .u64 0] 41) := ⟨_, rfl⟩
 obtain ⟨C, hC⟩ : ∃ C, C = w.heap.size := ⟨_, rfl⟩
 obtain ⟨R, hR⟩ : ∃ R, R = w.heap.size + 1 := ⟨_, rfl⟩
 rw [← hw1, ← hR, ← hC] at H
 rw [← hw1, ← hR, ← hC]
 clear hw1 hC hR c1
 have HD : Hid (DoAt w w1.drew K C R k 4 (s : Int) x2 x3 x4) := H.out.drewN 1
 have hS : w1.drew.cell? ⟨C, 0, none⟩ = some (.int .u64 4) ∧ w1.drew.cell? ⟨C, 1, none⟩ = some (.int .u64 (s : Int)) ∧ w1.drew.cell? ⟨C, 2, none⟩ = some (.int .u64 x2) ∧ w1.drew.cell? ⟨C, 3, none⟩ = some (.int .u64 x3) ∧ w1.drew.cell? ⟨C, 4, none⟩ = some (.int .u64 x4) ∧ w1.drew.cell? ⟨K, 1, none⟩ = some (.int .i64 k.envs) := HD.out.read
 clear H
 unfold callV at HCK
 go_region_held3 (fun w' => w'.cell? ⟨C, 0, none⟩ = some (.int .u64 4) ∧ w'.cell? ⟨C, 1, none⟩ = some (.int .u64 (s : Int)) ∧ w'.cell? ⟨C, 2, none⟩ = some (.int .u64 x2) ∧ w'.cell? ⟨C, 3, none⟩ = some (.int .u64 x3) ∧ w'.cell? ⟨C, 4, none⟩ = some (.int .u64 x4) ∧ w'.cell? ⟨K, 1, none⟩ = some (.int .i64 k.envs)) (exact hS)
  ((go_at_call 50; refine (HCK.out _).mono ?_; rintro x wn ⟨rfl, hb⟩; replace HD := Lib.hid (HD.out.later hb); have hS : wn.cell? ⟨C, 0, none⟩ = some (.int .u64 4) ∧ wn.cell? ⟨C, 1, none⟩ = some (.int .u64 (s : Int)) ∧ wn.cell? ⟨C, 2, none⟩ = some (.int .u64 x2) ∧ wn.cell? ⟨C, 3, none⟩ = some (.int .u64 x3) ∧ wn.cell? ⟨C, 4, none⟩ = some (.int .u64 x4) ∧ wn.cell? ⟨K, 1, none⟩ = some (.int .i64 k.envs) := HD.out.read; clear hb))
 all_goals
  have d0 := bk_cell HD.out.call 0
  have d1 := bk_cell HD.out.call 1
  have d2 := bk_cell HD.out.call 2
  have d3 := bk_cell HD.out.call 3
  have d4 := bk_cell HD.out.call 4
  clear hS
  go_wp2_with fail
  refine (Kind_is 4 (s : Int) x2 x3 x4 (by decide) _).mono ?_
  rintro x wk ⟨rfl, hb⟩
  replace HD := Lib.hid (HD.out.later hb)
  clear hb d0 d1 d2 d3 d4
  obtain ⟨P, hP⟩ : ∃ P, P = wk.heap.size := ⟨_, rfl⟩
  have d1 := bk_cell HD.out.call 1
  have s0 : (0 : Int) ≤ (s : Int) := by omega
  have s1 : (s : Int) < 8 := by omega
  have e2 : (0 : Int) ≤ (e : Int) := by omega
  have e3 : (e : Int) < 4 := by omega
  obtain ⟨w2, hw2⟩ : ∃ w2, w2 = wk.alloc (.cells #[.int .i64 (e : Int), .int .i64 (s : Int)] 118) := ⟨_, rfl⟩
  have hb2 : Below wk.heap.size wk w2 := by rw [hw2]; exact (Below.refl _ _).alloc (Nat.le_refl _) _
  have HP : Hid (w2.heap[P]? = some (.cells #[.int .i64 (e : Int), .int .i64 (s : Int)] 118 (0, 0))) := by rw [hw2, hP]; exact heap_alloc_new wk _
  have HD2 := Lib.hid (HD.out.later hb2)
  obtain ⟨c0, c1, c2, c3, c4⟩ := HD.out.ker.slot (show e < 4 by omega) hs
  have lC := bk_lt HD.out.call
  have lK2 := HD.out.ker.lt
  rw [HI.out] at c0
  go_wp2_with fail
  rw [← hw2, ← hP]
  clear hw2 hP hb2 lC lK2 d1 c0 c1 c2 c3 c4 HD
  have d1 := bk_cell HD2.out.call 1
  obtain ⟨c0, c1, c2, c3, c4⟩ := HD2.out.ker.slot (show e < 4 by omega) hs
  rw [HI.out] at c0
  go_quiet (fail)
  obtain ⟨w3, hw3⟩ : ∃ w3, w3 = w2.drewN nq := ⟨_, rfl⟩
  have HD : Hid (DoAt w w3 K C R k 4 (s : Int) x2 x3 x4) := by rw [hw3]; exact HD2.out.drewN _
  replace HP : Hid (w3.heap[P]? = some (.cells #[.int .i64 (e : Int), .int .i64 (s : Int)] 118 (0, 0))) := by rw [hw3]; exact HP.out
  rw [← hw3]
  clear hw3 HD2 d1 c0 c1 c2 c3 c4
  have p0 := bk_cell HP.out 0
  have p1 := bk_cell HP.out 1
  go_wp2_with fail
  refine (kref_below K k HK.out e s (by omega) hs w3 HD.out.ker).mono ?_
  rintro x w4 ⟨v, rfl, hrow, hb4⟩
  have hlow : C < w3.heap.size ∧ R < w3.heap.size ∧ K < w3.heap.size ∧ w.heap.size ≤ w3.heap.size := ⟨bk_lt HD.out.call, bk_lt HD.out.ans, HD.out.ker.lt, HD.out.only.size⟩
  replace HD := Lib.hid (HD.out.later hb4)
  replace HP := Lib.hid (bk_below HP.out hb4)
  have HW := Lib.hid hrow
  have hle := belowL_le k (e * 8 + s) 32
  have hs34 : w3.heap.size ≤ w4.heap.size := hb4.size
  clear hrow hb4 p0 p1
  have G := fun W (hk : KernIs W K k) (hr : W.ownsRow w3.heap.size 118 2 v (belowL k (e * 8 + s) 32).length (placesV (belowL k (e * 8 + s) 32))) => kref_gone K w3.heap.size k (belowL k (e * 8 + s) 32) v (fun j h => belowL_lt h) (by omega) hlow.2.2.1 W hk hr
  have HG := Lib.hid (G w4 HD.out.ker HW.out)
  clear G
  obtain ⟨ao, cap, rfl⟩ := row_slice HW.out
  obtain ⟨n, hn⟩ : ∃ n, (belowL k (e * 8 + s) 32).length = n := ⟨_, rfl⟩
  have HN := Lib.hid hn
  rw [hn] at HG hle ⊢
  clear hn HW
  go_wp2_with fail
  refine HG.out.mono ?_
  rintro x wg ⟨rfl, hk', ho'⟩
  replace HD := Lib.hid (HD.out.turned hk' ho')
  clear hk' ho' HG HP
  have r0 := bk_cell HD.out.ans 0
  have r1 := bk_cell HD.out.ans 1
  have g0 := bk_free HD.out.ans 0
  have g1 := bk_free HD.out.ans 1
  go_wp2_with fail
  exact bodyPost_ret (v := .tuple #[.agg #[.int .i64 0, .int .u64 (n : Int)], .bool true]) (by simp [results, Tryz.results13, go_sem, r0, r1]) rfl ⟨by rw [HN.out]; rfl, (HD.out.told _ _).1, (HD.out.told _ _).2⟩
set_option maxRecDepth 100000 in
set_option maxHeartbeats 8000000 in
theorem kref_do_drop_none (K : Nat) (k : KernS) (e : Nat) (s : Nat) (x2 x3 x4 : Int) (hs : s < 8) (hi : (k.sl e s).is = false) (he : (e : Int) < k.envs) (hk4 : k.envs ≤ 4) (hx : wordsIn 5 (s : Int) x2 x3 x4) (hchk : chkN 5 (s : Int) x2 x3 x4 k.envs = 0) (w : World) (h : KernIs w K k) :
  Calls Tryz.prog 13 #[.pointer (some ⟨K, 0, none⟩), .int .i64 (e : Int), callV 5 (s : Int) x2 x3 x4] w fun x w' => x = .returned (ansV 3 0 true) ∧ KernIs w' K (k) ∧ OnlyT K w w' := by
 have HI := Lib.hid hi
 clear hi
 have H := Lib.hid (DoAt.start h 5 (s : Int) x2 x3 x4)
 obtain ⟨_, c1, _⟩ := h.sizes
 have lK := h.lt
 have HCK : Hid (∀ W, Calls Tryz.prog 50 #[callV 5 (s : Int) x2 x3 x4, .int .i64 k.envs] W fun x w' => x = .returned (.int .i64 0) ∧ Below W.heap.size W w') := fun W => by
  have h := ref_Check_any 5 (s : Int) x2 x3 x4 k.envs hx (by unfold intIn; omega) W
  rw [hchk] at h
  exact h
 clear h hchk
 go_enter Tryz.func13, Tryz.ntmps13
 have e0 : ¬ (e : Int) < 0 := by omega
 have e1 : ¬ k.envs ≤ (e : Int) := by omega
 go_wp2_with fail
 obtain ⟨w1, hw1⟩ : ∃ w1, w1 = (w.alloc (.cells #[.int .u64 5, .int .u64 (s : Int), .int .u64 x2, .int .u64 x3, .int .u64 x4] 36)).alloc (.cells #[.int .i64 0, .int .u64 0] 41) := ⟨_, rfl⟩
 obtain ⟨C, hC⟩ : ∃ C, C = w.heap.size := ⟨_, rfl⟩
 obtain ⟨R, hR⟩ : ∃ R, R = w.heap.size + 1 := ⟨_, rfl⟩
 rw [← hw1, ← hR, ← hC] at H
 rw [← hw1, ← hR, ← hC]
 clear hw1 hC hR c1
 have HD : Hid (DoAt w w1.drew K C R k 5 (s : Int) x2 x3 x4) := H.out.drewN 1
 have hS : w1.drew.cell? ⟨C, 0, none⟩ = some (.int .u64 5) ∧ w1.drew.cell? ⟨C, 1, none⟩ = some (.int .u64 (s : Int)) ∧ w1.drew.cell? ⟨C, 2, none⟩ = some (.int .u64 x2) ∧ w1.drew.cell? ⟨C, 3, none⟩ = some (.int .u64 x3) ∧ w1.drew.cell? ⟨C, 4, none⟩ = some (.int .u64 x4) ∧ w1.drew.cell? ⟨K, 1, none⟩ = some (.int .i64 k.envs) := HD.out.read
 clear H
 unfold callV at HCK
 go_region_held3 (fun w' => w'.cell? ⟨C, 0, none⟩ = some (.int .u64 5) ∧ w'.cell? ⟨C, 1, none⟩ = some (.int .u64 (s : Int)) ∧ w'.cell? ⟨C, 2, none⟩ = some (.int .u64 x2) ∧ w'.cell? ⟨C, 3, none⟩ = some (.int .u64 x3) ∧ w'.cell? ⟨C, 4, none⟩ = some (.int .u64 x4) ∧ w'.cell? ⟨K, 1, none⟩ = some (.int .i64 k.envs)) (exact hS)
  ((go_at_call 50; refine (HCK.out _).mono ?_; rintro x wn ⟨rfl, hb⟩; replace HD := Lib.hid (HD.out.later hb); have hS : wn.cell? ⟨C, 0, none⟩ = some (.int .u64 5) ∧ wn.cell? ⟨C, 1, none⟩ = some (.int .u64 (s : Int)) ∧ wn.cell? ⟨C, 2, none⟩ = some (.int .u64 x2) ∧ wn.cell? ⟨C, 3, none⟩ = some (.int .u64 x3) ∧ wn.cell? ⟨C, 4, none⟩ = some (.int .u64 x4) ∧ wn.cell? ⟨K, 1, none⟩ = some (.int .i64 k.envs) := HD.out.read; clear hb))
 all_goals
  have d0 := bk_cell HD.out.call 0
  have d1 := bk_cell HD.out.call 1
  have d2 := bk_cell HD.out.call 2
  have d3 := bk_cell HD.out.call 3
  have d4 := bk_cell HD.out.call 4
  clear hS
  go_wp2_with fail
  refine (Kind_is 5 (s : Int) x2 x3 x4 (by decide) _).mono ?_
  rintro x wk ⟨rfl, hb⟩
  replace HD := Lib.hid (HD.out.later hb)
  clear hb d0 d1 d2 d3 d4
  obtain ⟨P, hP⟩ : ∃ P, P = wk.heap.size := ⟨_, rfl⟩
  have d1 := bk_cell HD.out.call 1
  have s0 : (0 : Int) ≤ (s : Int) := by omega
  have s1 : (s : Int) < 8 := by omega
  have e2 : (0 : Int) ≤ (e : Int) := by omega
  have e3 : (e : Int) < 4 := by omega
  obtain ⟨w2, hw2⟩ : ∃ w2, w2 = wk.alloc (.cells #[.int .i64 (e : Int), .int .i64 (s : Int)] 118) := ⟨_, rfl⟩
  have hb2 : Below wk.heap.size wk w2 := by rw [hw2]; exact (Below.refl _ _).alloc (Nat.le_refl _) _
  have HP : Hid (w2.heap[P]? = some (.cells #[.int .i64 (e : Int), .int .i64 (s : Int)] 118 (0, 0))) := by rw [hw2, hP]; exact heap_alloc_new wk _
  have HD2 := Lib.hid (HD.out.later hb2)
  obtain ⟨c0, c1, c2, c3, c4⟩ := HD.out.ker.slot (show e < 4 by omega) hs
  have lC := bk_lt HD.out.call
  have lK2 := HD.out.ker.lt
  rw [HI.out] at c0
  go_wp2_with fail
  rw [← hw2, ← hP]
  clear hw2 hP hb2 lC lK2 d1 c0 c1 c2 c3 c4 HD
  have d1 := bk_cell HD2.out.call 1
  obtain ⟨c0, c1, c2, c3, c4⟩ := HD2.out.ker.slot (show e < 4 by omega) hs
  rw [HI.out] at c0
  go_quiet (fail)
  obtain ⟨w3, hw3⟩ : ∃ w3, w3 = w2.drewN nq := ⟨_, rfl⟩
  have HD : Hid (DoAt w w3 K C R k 5 (s : Int) x2 x3 x4) := by rw [hw3]; exact HD2.out.drewN _
  replace HP : Hid (w3.heap[P]? = some (.cells #[.int .i64 (e : Int), .int .i64 (s : Int)] 118 (0, 0))) := by rw [hw3]; exact HP.out
  rw [← hw3]
  clear hw3 HD2 d1 c0 c1 c2 c3 c4
  go_wp2_with fail
  refine (kref_err 3 _).mono ?_
  rintro x wt ⟨rfl, hb⟩
  have HT := Lib.hid (HD.out.later hb)
  clear hb
  have r0 := bk_cell HT.out.ans 0
  have r1 := bk_cell HT.out.ans 1
  have g0 := bk_free HT.out.ans 0
  have g1 := bk_free HT.out.ans 1
  unfold ansV
  go_wp2_with fail
  exact bodyPost_ret (v := .tuple #[.agg #[.int .i64 3, .int .u64 0], .bool true]) (by simp [results, Tryz.results13, go_sem, r0, r1]) rfl ⟨rfl, (HT.out.told _ _).1, (HT.out.told _ _).2⟩
set_option maxRecDepth 100000 in
set_option maxHeartbeats 8000000 in
theorem kref_do_drop (K : Nat) (k : KernS) (e : Nat) (s : Nat) (x2 x3 x4 : Int) (hs : s < 8) (hk : Sound k) (hi : (k.sl e s).is = true) (he : (e : Int) < k.envs) (hk4 : k.envs ≤ 4) (hx : wordsIn 5 (s : Int) x2 x3 x4) (hchk : chkN 5 (s : Int) x2 x3 x4 k.envs = 0) (w : World) (h : KernIs w K k) :
  Calls Tryz.prog 13 #[.pointer (some ⟨K, 0, none⟩), .int .i64 (e : Int), callV 5 (s : Int) x2 x3 x4] w fun x w' => x = .returned (ansV 0 ((belowL k (e * 8 + s) 32 ++ [e * 8 + s]).length : Nat) true) ∧ KernIs w' K (goneF k (belowL k (e * 8 + s) 32 ++ [e * 8 + s])) ∧ OnlyT K w w' := by
 have HI := Lib.hid hi
 have HK := Lib.hid hk
 clear hi hk
 have H := Lib.hid (DoAt.start h 5 (s : Int) x2 x3 x4)
 obtain ⟨_, c1, _⟩ := h.sizes
 have lK := h.lt
 have HCK : Hid (∀ W, Calls Tryz.prog 50 #[callV 5 (s : Int) x2 x3 x4, .int .i64 k.envs] W fun x w' => x = .returned (.int .i64 0) ∧ Below W.heap.size W w') := fun W => by
  have h := ref_Check_any 5 (s : Int) x2 x3 x4 k.envs hx (by unfold intIn; omega) W
  rw [hchk] at h
  exact h
 clear h hchk
 go_enter Tryz.func13, Tryz.ntmps13
 have e0 : ¬ (e : Int) < 0 := by omega
 have e1 : ¬ k.envs ≤ (e : Int) := by omega
 go_wp2_with fail
 obtain ⟨w1, hw1⟩ : ∃ w1, w1 = (w.alloc (.cells #[.int .u64 5, .int .u64 (s : Int), .int .u64 x2, .int .u64 x3, .int .u64 x4] 36)).alloc (.cells #[.int .i64 0, .int .u64 0] 41) := ⟨_, rfl⟩
 obtain ⟨C, hC⟩ : ∃ C, C = w.heap.size := ⟨_, rfl⟩
 obtain ⟨R, hR⟩ : ∃ R, R = w.heap.size + 1 := ⟨_, rfl⟩
 rw [← hw1, ← hR, ← hC] at H
 rw [← hw1, ← hR, ← hC]
 clear hw1 hC hR c1
 have HD : Hid (DoAt w w1.drew K C R k 5 (s : Int) x2 x3 x4) := H.out.drewN 1
 have hS : w1.drew.cell? ⟨C, 0, none⟩ = some (.int .u64 5) ∧ w1.drew.cell? ⟨C, 1, none⟩ = some (.int .u64 (s : Int)) ∧ w1.drew.cell? ⟨C, 2, none⟩ = some (.int .u64 x2) ∧ w1.drew.cell? ⟨C, 3, none⟩ = some (.int .u64 x3) ∧ w1.drew.cell? ⟨C, 4, none⟩ = some (.int .u64 x4) ∧ w1.drew.cell? ⟨K, 1, none⟩ = some (.int .i64 k.envs) := HD.out.read
 clear H
 unfold callV at HCK
 go_region_held3 (fun w' => w'.cell? ⟨C, 0, none⟩ = some (.int .u64 5) ∧ w'.cell? ⟨C, 1, none⟩ = some (.int .u64 (s : Int)) ∧ w'.cell? ⟨C, 2, none⟩ = some (.int .u64 x2) ∧ w'.cell? ⟨C, 3, none⟩ = some (.int .u64 x3) ∧ w'.cell? ⟨C, 4, none⟩ = some (.int .u64 x4) ∧ w'.cell? ⟨K, 1, none⟩ = some (.int .i64 k.envs)) (exact hS)
  ((go_at_call 50; refine (HCK.out _).mono ?_; rintro x wn ⟨rfl, hb⟩; replace HD := Lib.hid (HD.out.later hb); have hS : wn.cell? ⟨C, 0, none⟩ = some (.int .u64 5) ∧ wn.cell? ⟨C, 1, none⟩ = some (.int .u64 (s : Int)) ∧ wn.cell? ⟨C, 2, none⟩ = some (.int .u64 x2) ∧ wn.cell? ⟨C, 3, none⟩ = some (.int .u64 x3) ∧ wn.cell? ⟨C, 4, none⟩ = some (.int .u64 x4) ∧ wn.cell? ⟨K, 1, none⟩ = some (.int .i64 k.envs) := HD.out.read; clear hb))
 all_goals
  have d0 := bk_cell HD.out.call 0
  have d1 := bk_cell HD.out.call 1
  have d2 := bk_cell HD.out.call 2
  have d3 := bk_cell HD.out.call 3
  have d4 := bk_cell HD.out.call 4
  clear hS
  go_wp2_with fail
  refine (Kind_is 5 (s : Int) x2 x3 x4 (by decide) _).mono ?_
  rintro x wk ⟨rfl, hb⟩
  replace HD := Lib.hid (HD.out.later hb)
  clear hb d0 d1 d2 d3 d4
  obtain ⟨P, hP⟩ : ∃ P, P = wk.heap.size := ⟨_, rfl⟩
  have d1 := bk_cell HD.out.call 1
  have s0 : (0 : Int) ≤ (s : Int) := by omega
  have s1 : (s : Int) < 8 := by omega
  have e2 : (0 : Int) ≤ (e : Int) := by omega
  have e3 : (e : Int) < 4 := by omega
  obtain ⟨w2, hw2⟩ : ∃ w2, w2 = wk.alloc (.cells #[.int .i64 (e : Int), .int .i64 (s : Int)] 118) := ⟨_, rfl⟩
  have hb2 : Below wk.heap.size wk w2 := by rw [hw2]; exact (Below.refl _ _).alloc (Nat.le_refl _) _
  have HP : Hid (w2.heap[P]? = some (.cells #[.int .i64 (e : Int), .int .i64 (s : Int)] 118 (0, 0))) := by rw [hw2, hP]; exact heap_alloc_new wk _
  have HD2 := Lib.hid (HD.out.later hb2)
  obtain ⟨c0, c1, c2, c3, c4⟩ := HD.out.ker.slot (show e < 4 by omega) hs
  have lC := bk_lt HD.out.call
  have lK2 := HD.out.ker.lt
  rw [HI.out] at c0
  go_wp2_with fail
  rw [← hw2, ← hP]
  clear hw2 hP hb2 lC lK2 d1 c0 c1 c2 c3 c4 HD
  have d1 := bk_cell HD2.out.call 1
  obtain ⟨c0, c1, c2, c3, c4⟩ := HD2.out.ker.slot (show e < 4 by omega) hs
  rw [HI.out] at c0
  go_quiet (fail)
  obtain ⟨w3, hw3⟩ : ∃ w3, w3 = w2.drewN nq := ⟨_, rfl⟩
  have HD : Hid (DoAt w w3 K C R k 5 (s : Int) x2 x3 x4) := by rw [hw3]; exact HD2.out.drewN _
  replace HP : Hid (w3.heap[P]? = some (.cells #[.int .i64 (e : Int), .int .i64 (s : Int)] 118 (0, 0))) := by rw [hw3]; exact HP.out
  rw [← hw3]
  clear hw3 HD2 d1 c0 c1 c2 c3 c4
  have p0 := bk_cell HP.out 0
  have p1 := bk_cell HP.out 1
  go_wp2_with fail
  refine (kref_below K k HK.out e s (by omega) hs w3 HD.out.ker).mono ?_
  rintro x w4 ⟨v, rfl, hrow, hb4⟩
  have hlow : C < w3.heap.size ∧ R < w3.heap.size ∧ K < w3.heap.size ∧ w.heap.size ≤ w3.heap.size := ⟨bk_lt HD.out.call, bk_lt HD.out.ans, HD.out.ker.lt, HD.out.only.size⟩
  replace HD := Lib.hid (HD.out.later hb4)
  replace HP := Lib.hid (bk_below HP.out hb4)
  have HW := Lib.hid hrow
  have hle := belowL_le k (e * 8 + s) 32
  have hs34 : w3.heap.size ≤ w4.heap.size := hb4.size
  clear hrow hb4 p0 p1
  obtain ⟨i0, hi0, hz0, hz1, hz2⟩ := info_parts Tryz.placeInfo
  have p0 := bk_cell HP.out 0
  have p1 := bk_cell HP.out 1
  obtain ⟨lst, hlst⟩ : ∃ lst, belowL k (e * 8 + s) 32 = lst := ⟨_, rfl⟩
  have hlt : ∀ j, j ∈ lst ++ [e * 8 + s] → j < 32 := fun j h => by
   rcases List.mem_append.1 h with h | h
   ·rw [← hlst] at h
    exact belowL_lt h
   ·have := List.mem_singleton.1 h
    omega
  have HT := Lib.hid hlt
  have HLS := Lib.hid hlst
  rw [hlst] at HW hle
  clear hlst hlt
  go_wp2_with (refine wpList_append_own (o := ⟨some 185, _, _, _, _, _⟩) _ rfl (.tmp 182) (.tmp 184) 119 rfl w3.heap.size 118 i0 (.agg #[.int .i64 0, .int .i64 0]) 2 16 Tryz.underlying119 hi0 hz0 hz1 hz2 rfl (by decide) _ _ _ rfl (HW.out.alloc _) ⟨w4.heap.size, 0, none⟩ 1 1 [.int .i64 (e : Int), .int .i64 (s : Int)] rfl rfl (pair_at _ _ _ _) (two_cell _ _) (by unfold maxLen; omega) (by omega) (by simp; omega) ?_)
  intro v' w5 hown hgrow _
  replace HD := Lib.hid (HD.out.grown hgrow (b := w3.heap.size) (fun g h => (HW.out.lt g h).1) hlow)
  have HW5 : Hid (w5.ownsRow w3.heap.size 118 2 v' (lst ++ [e * 8 + s]).length (placesV (lst ++ [e * 8 + s]))) := by rw [List.length_append, placesV_snoc _ hs]; exact hown
  clear hown hgrow p0 p1 HP HW
  have HG := Lib.hid (kref_gone K w3.heap.size k (lst ++ [e * 8 + s]) v' HT.out (by rw [List.length_append]; simp; omega) hlow.2.2.1 w5 HD.out.ker HW5.out)
  obtain ⟨ao, cap2, rfl⟩ := row_slice HW5.out
  obtain ⟨n, hn⟩ : ∃ n, (lst ++ [e * 8 + s]).length = n := ⟨_, rfl⟩
  have hle2 : n ≤ 33 := by rw [← hn, List.length_append]; simp; omega
  have HN : Hid ((belowL k (e * 8 + s) 32 ++ [e * 8 + s]).length = n) := by rw [HLS.out]; exact hn
  rw [hn] at HG ⊢
  clear hn HW5
  go_wp2_with fail
  refine HG.out.mono ?_
  rintro x wg ⟨rfl, hk', ho'⟩
  rw [← HLS.out] at hk'
  replace HD := Lib.hid (HD.out.turned hk' ho')
  clear hk' ho' HG
  have r0 := bk_cell HD.out.ans 0
  have r1 := bk_cell HD.out.ans 1
  have g0 := bk_free HD.out.ans 0
  have g1 := bk_free HD.out.ans 1
  go_wp2_with fail
  exact bodyPost_ret (v := .tuple #[.agg #[.int .i64 0, .int .u64 (n : Int)], .bool true]) (by simp [results, Tryz.results13, go_sem, r0, r1]) rfl ⟨by rw [HN.out]; rfl, (HD.out.told _ _).1, (HD.out.told _ _).2⟩
end Go.Proofs.YtdfhfmdelinemaaGreatDoor
namespace Go.Proofs.YtdfhfmdelinemaaGreatDoor
open Go.RowKit Go.Extern.Stop Go.Stop Go.Extern Go.WalkArith
theorem res4_zero {b0 b1 b2 b3 : Bool} (h : res4 b0 b1 b2 b3 = 0) : b0 = true ∧ b1 = true ∧ b2 = true ∧ b3 = true := by
 unfold res4 at h
 rw [pre_4] at h
 cases b0 <;> cases b1 <;> cases b2 <;> cases b3 <;> simp at h ⊢
theorem below_lt {x m : Int} (h : belowB x m = true) : x < m := (of_decide_eq_true h).2
theorem chk_kind {x0 x1 x2 x3 x4 envs : Int} (h : chkN x0 x1 x2 x3 x4 envs = 0) : isKind x0 = true := by
 unfold chkN at h
 cases hk : isKind x0
 ·rw [hk, if_neg (by decide)] at h
  exact absurd h (by decide)
 ·rfl
structure Sane (k : KernS) : Prop where
 envs : 1 ≤ k.envs ∧ k.envs ≤ 4
 frames : 0 ≤ k.frames ∧ k.frames ≤ 16
 slot : ∀ e s, e < 4 → s < 8 → (k.sl e s).is = true → 0 ≤ (k.sl e s).frame ∧ (k.sl e s).frame < 16 ∧ 0 ≤ (k.sl e s).rights ∧ (k.sl e s).rights ≤ 3
 par : Sound k
 pte : ∀ e p, e < 4 → p < 8 → ¬ (k.pt e p).rights = 0 → 0 ≤ (k.pt e p).frame ∧ (k.pt e p).frame < 16 ∧ 0 ≤ (k.pt e p).slot ∧ (k.pt e p).slot < 8
def kcall (k : KernS) (e : Nat) (x0 x1 x2 x3 x4 : Int) : KernS × Int × Int × Bool :=
 if x0 = 1 then
  if (k.sl e x1.toNat).is = true then (k, 4, 0, true)
  else match freeK k k.frames.toNat with
   | [] => (k, 6, 0, true)
   | f :: _ => (allocS k e x1.toNat f, 0, 0, true)
 else if x0 = 2 then (deriveS k e x1.toNat e x2.toNat x3, deriveE k e x1.toNat e x2.toNat x3, 0, true)
 else if x0 = 3 then (deriveS k e x1.toNat x2.toNat x3.toNat x4, deriveE k e x1.toNat x2.toNat x3.toNat x4, 0, true)
 else if x0 = 4 then
  if (k.sl e x1.toNat).is = true then (goneF k (belowL k (e * 8 + x1.toNat) 32), 0, ((belowL k (e * 8 + x1.toNat) 32).length : Nat), true) else (k, 3, 0, true)
 else if x0 = 5 then
  if (k.sl e x1.toNat).is = true then (goneF k (belowL k (e * 8 + x1.toNat) 32 ++ [e * 8 + x1.toNat]), 0, ((belowL k (e * 8 + x1.toNat) 32 ++ [e * 8 + x1.toNat]).length : Nat), true) else (k, 3, 0, true)
 else if x0 = 6 then (mapS k e x1.toNat x2.toNat x3, mapE k e x1.toNat x2.toNat x3, 0, true)
 else if x0 = 7 then (unmapS k e x1.toNat, unmapE k e x1.toNat, 0, true)
 else if x0 = 8 then (protS k e x1.toNat x2, protE k e x1.toNat x2, 0, true)
 else if x0 = 9 then
  if (k.sl e x1.toNat).is = true then
   if (k.sl e x1.toNat).rights % 2 = 0 then (k, 5, 0, true)
   else if holdsB x3 (k.mm (k.sl e x1.toNat).frame.toNat x2.toNat) x4 = true then (k, 0, k.mm (k.sl e x1.toNat).frame.toNat x2.toNat, true) else (k, 0, 0, false)
  else (k, 3, 0, true)
 else if x0 = 10 then (k, 0, 0, true)
 else if withinB (needN x0) (k.pt e x1.toNat).rights = true then (wordS k (k.pt e x1.toNat).frame.toNat x2.toNat x0 x3 x4, 0, wordT k (k.pt e x1.toNat).frame.toNat x2.toNat x0, true)
 else (k, 7, 0, true)
def kdo (k : KernS) (env x0 x1 x2 x3 x4 : Int) : KernS × Int × Int × Bool :=
 if env < 0 ∨ k.envs ≤ env then (k, 10, 0, true)
 else if chkN x0 x1 x2 x3 x4 k.envs = 0 then kcall k env.toNat x0 x1 x2 x3 x4
 else (k, chkN x0 x1 x2 x3 x4 k.envs, 0, true)
def DoIs (K : Nat) (w : World) (r : KernS × Int × Int × Bool) (x : Ending) (w' : World) : Prop := x = .returned (ansV r.2.1 r.2.2.1 r.2.2.2) ∧ KernIs w' K r.1 ∧ OnlyT K w w'
theorem do_is {K : Nat} {w : World} {args : Array Value} {r r' : KernS × Int × Int × Bool} (h : Calls Tryz.prog 13 args w (DoIs K w r')) (hr : r = r') : Calls Tryz.prog 13 args w (DoIs K w r) := by
 rw [hr]
 exact h
theorem nat_of {x : Int} (h : 0 ≤ x) : ∃ n : Nat, x = (n : Int) := ⟨x.toNat, by omega⟩
set_option maxHeartbeats 1000000 in
theorem kref_call (K : Nat) (k : KernS) (hk : Sane k) (e : Nat) (he : (e : Int) < k.envs) (x0 x1 x2 x3 x4 : Int) (hx : wordsIn x0 x1 x2 x3 x4) (hc : chkN x0 x1 x2 x3 x4 k.envs = 0) (w : World) (h : KernIs w K k) :
  Calls Tryz.prog 13 #[.pointer (some ⟨K, 0, none⟩), .int .i64 (e : Int), callV x0 x1 x2 x3 x4] w (DoIs K w (kcall k e x0 x1 x2 x3 x4)) := by
 have h4 := hk.envs.2
 have he4 : e < 4 := by omega
 obtain ⟨s, rfl⟩ := nat_of hx.2.1.1
 obtain ⟨d, rfl⟩ := nat_of hx.2.2.1.1
 rcases kind_cases (chk_kind hc) with rfl | rfl | rfl | rfl | rfl | rfl | rfl | rfl | rfl | rfl | rfl | rfl | rfl | rfl
 ·obtain ⟨b, _⟩ := res4_zero (show res4 (belowB (s : Int) 8) true true true = 0 from hc)
  have hs := below_lt b
  cases hi : (k.sl e s).is
  ·rcases hf : freeK k k.frames.toNat with _ | ⟨f, r⟩
   ·exact do_is (r' := (k, 6, 0, true)) (kref_do_alloc_full K k e s d x3 x4 (by omega) hk.frames hi hf he h4 hx hc w h) (by simp [kcall, hi, hf])
   ·have hf16 : f < 16 := by
     have hm : f ∈ freeK k k.frames.toNat := by rw [hf]; exact List.mem_cons_self ..
     unfold freeK at hm
     have := List.mem_range.1 (List.mem_filter.1 hm).1
     have := hk.frames
     omega
    exact do_is (r' := (allocS k e s f, 0, 0, true)) (kref_do_alloc K k e s f r d x3 x4 (by omega) hf16 hk.frames hi hf he h4 hx hc w h) (by simp [kcall, hi, hf])
  ·exact do_is (r' := (k, 4, 0, true)) (kref_do_alloc_busy K k e s d x3 x4 (by omega) hk.frames hi he h4 hx hc w h) (by simp [kcall, hi])
 ·obtain ⟨b0, b1, b2, _⟩ := res4_zero (show res4 (belowB (s : Int) 8) (belowB (d : Int) 8) (rightsB x3) true = 0 from hc)
  have h0 := below_lt b0
  have h1 := below_lt b1
  have h2 : 1 ≤ x3 ∧ x3 ≤ 3 := of_decide_eq_true b2
  exact do_is (r' := (deriveS k e s e d x3, deriveE k e s e d x3, 0, true)) (kref_do_derive K k e s d x3 x4 (by omega) (by omega) h2.1 h2.2 he h4 hx hc w h) rfl
 ·obtain ⟨t, rfl⟩ := nat_of hx.2.2.2.1.1
  obtain ⟨b0, b1, b2, b3⟩ := res4_zero (show res4 (belowB (s : Int) 8) (belowB (d : Int) k.envs) (belowB (t : Int) 8) (rightsB x4) = 0 from hc)
  have h0 := below_lt b0
  have h1 := below_lt b1
  have h2 := below_lt b2
  have h3 : 1 ≤ x4 ∧ x4 ≤ 3 := of_decide_eq_true b3
  exact do_is (r' := (deriveS k e s d t x4, deriveE k e s d t x4, 0, true)) (kref_do_grant K k e s d t x4 (by omega) (by omega) (by omega) h3.1 h3.2 he h4 hx hc w h) rfl
 ·obtain ⟨b, _⟩ := res4_zero (show res4 (belowB (s : Int) 8) true true true = 0 from hc)
  have hs := below_lt b
  cases hi : (k.sl e s).is
  ·exact do_is (r' := (k, 3, 0, true)) (kref_do_revoke_none K k e s d x3 x4 (by omega) hi he h4 hx hc w h) (by simp [kcall, hi])
  ·exact do_is (r' := (goneF k (belowL k (e * 8 + s) 32), 0, ((belowL k (e * 8 + s) 32).length : Nat), true)) (kref_do_revoke K k e s d x3 x4 (by omega) hk.par hi he h4 hx hc w h) (by simp [kcall, hi])
 ·obtain ⟨b, _⟩ := res4_zero (show res4 (belowB (s : Int) 8) true true true = 0 from hc)
  have hs := below_lt b
  cases hi : (k.sl e s).is
  ·exact do_is (r' := (k, 3, 0, true)) (kref_do_drop_none K k e s d x3 x4 (by omega) hi he h4 hx hc w h) (by simp [kcall, hi])
  ·exact do_is (r' := (goneF k (belowL k (e * 8 + s) 32 ++ [e * 8 + s]), 0, ((belowL k (e * 8 + s) 32 ++ [e * 8 + s]).length : Nat), true)) (kref_do_drop K k e s d x3 x4 (by omega) hk.par hi he h4 hx hc w h) (by simp [kcall, hi])
 ·obtain ⟨b0, b1, b2, _⟩ := res4_zero (show res4 (belowB (s : Int) 8) (belowB (d : Int) 8) (rightsB x3) true = 0 from hc)
  have h0 := below_lt b0
  have h1 := below_lt b1
  have h2 : 1 ≤ x3 ∧ x3 ≤ 3 := of_decide_eq_true b2
  exact do_is (r' := (mapS k e s d x3, mapE k e s d x3, 0, true)) (kref_do_map K k e s d x3 x4 (by omega) (by omega) h2.1 h2.2 he h4 hx hc w h) rfl
 ·obtain ⟨b, _⟩ := res4_zero (show res4 (belowB (s : Int) 8) true true true = 0 from hc)
  have hs := below_lt b
  exact do_is (r' := (unmapS k e s, unmapE k e s, 0, true)) (kref_do_unmap K k e s d x3 x4 (by omega) he h4 hx hc w h) rfl
 ·obtain ⟨b0, b1, _⟩ := res4_zero (show res4 (belowB (s : Int) 8) (rightsB (d : Int)) true true = 0 from hc)
  have h0 := below_lt b0
  have h1 : 1 ≤ (d : Int) ∧ (d : Int) ≤ 3 := of_decide_eq_true b1
  exact do_is (r' := (protS k e s (d : Int), protE k e s (d : Int), 0, true)) (kref_do_protect K k e s (d : Int) x3 x4 (by omega) (fun hr => by have := hk.pte e s he4 (by omega) hr; omega) h1.1 h1.2 he h4 hx hc w h) rfl
 ·obtain ⟨b0, b1, b2, _⟩ := res4_zero (show res4 (belowB (s : Int) 8) (belowB (d : Int) 16) (decide (1 ≤ x3 ∧ x3 ≤ 4)) true = 0 from hc)
  have h0 := below_lt b0
  have h1 := below_lt b1
  have h2 : 1 ≤ x3 ∧ x3 ≤ 4 := of_decide_eq_true b2
  cases hi : (k.sl e s).is
  ·exact do_is (r' := (k, 3, 0, true)) (kref_do_sleep_none K k e s d x3 x4 (by omega) hi he h4 hx hc w h) (by simp [kcall, hi])
  ·have hsl := hk.slot e s he4 (by omega) hi
   by_cases hr : (k.sl e s).rights % 2 = 0
   ·exact do_is (r' := (k, 5, 0, true)) (kref_do_sleep_rights K k e s d x3 x4 (by omega) hi ⟨hsl.2.2.1, hsl.2.2.2⟩ hr he h4 hx hc w h) (by simp [kcall, hi, hr])
   ·obtain ⟨f, hf⟩ := nat_of hsl.1
    cases hh : holdsB x3 (k.mm f d) x4
    ·exact do_is (r' := (k, 0, 0, false)) (kref_do_sleep_wait K k e s d x3 x4 (by omega) (by omega) h2.1 h2.2 hi ⟨hsl.2.2.1, hsl.2.2.2⟩ (by omega) f (by omega) hf hh he h4 hx hc w h) (by simp [kcall, hi, hr, hf, hh])
    ·exact do_is (r' := (k, 0, k.mm f d, true)) (kref_do_sleep K k e s d x3 x4 (by omega) (by omega) h2.1 h2.2 hi ⟨hsl.2.2.1, hsl.2.2.2⟩ (by omega) f (by omega) hf hh he h4 hx hc w h) (by simp [kcall, hi, hr, hf, hh])
 ·exact do_is (r' := (k, 0, 0, true)) (kref_do_yield K k e (s : Int) (d : Int) x3 x4 he h4 hx hc w h) rfl
 ·obtain ⟨b0, b1, _⟩ := res4_zero (show res4 (belowB (s : Int) 8) (belowB (d : Int) 16) true true = 0 from hc)
  have h0 := below_lt b0
  have h1 := below_lt b1
  cases hl : withinB (needN 20) (k.pt e s).rights
  ·exact do_is (r' := (k, 7, 0, true)) (kref_do_user20_no K k e s d x3 x4 (by omega) hl he h4 hx hc w h) (by simp [kcall, hl])
  ·have hp := hk.pte e s he4 (by omega) (fun h0 => by rw [h0] at hl; exact absurd hl (by decide))
   obtain ⟨f, hf⟩ := nat_of hp.1
   exact do_is (r' := (wordS k f d 20 x3 x4, 0, wordT k f d 20, true)) (kref_do_user20 K k e s d x3 x4 (by omega) (by omega) hl f (by omega) hf he h4 hx hc w h) (by simp [kcall, hl, hf])
 ·obtain ⟨b0, b1, _⟩ := res4_zero (show res4 (belowB (s : Int) 8) (belowB (d : Int) 16) true true = 0 from hc)
  have h0 := below_lt b0
  have h1 := below_lt b1
  cases hl : withinB (needN 21) (k.pt e s).rights
  ·exact do_is (r' := (k, 7, 0, true)) (kref_do_user21_no K k e s d x3 x4 (by omega) hl he h4 hx hc w h) (by simp [kcall, hl])
  ·have hp := hk.pte e s he4 (by omega) (fun h0 => by rw [h0] at hl; exact absurd hl (by decide))
   obtain ⟨f, hf⟩ := nat_of hp.1
   exact do_is (r' := (wordS k f d 21 x3 x4, 0, wordT k f d 21, true)) (kref_do_user21 K k e s d x3 x4 (by omega) (by omega) hl f (by omega) hf he h4 hx hc w h) (by simp [kcall, hl, hf])
 ·obtain ⟨b0, b1, _⟩ := res4_zero (show res4 (belowB (s : Int) 8) (belowB (d : Int) 16) true true = 0 from hc)
  have h0 := below_lt b0
  have h1 := below_lt b1
  cases hl : withinB (needN 22) (k.pt e s).rights
  ·exact do_is (r' := (k, 7, 0, true)) (kref_do_user22_no K k e s d x3 x4 (by omega) hl he h4 hx hc w h) (by simp [kcall, hl])
  ·have hp := hk.pte e s he4 (by omega) (fun h0 => by rw [h0] at hl; exact absurd hl (by decide))
   obtain ⟨f, hf⟩ := nat_of hp.1
   exact do_is (r' := (wordS k f d 22 x3 x4, 0, wordT k f d 22, true)) (kref_do_user22 K k e s d x3 x4 (by omega) (by omega) hl f (by omega) hf he h4 hx hc w h) (by simp [kcall, hl, hf])
 ·obtain ⟨b0, b1, _⟩ := res4_zero (show res4 (belowB (s : Int) 8) (belowB (d : Int) 16) true true = 0 from hc)
  have h0 := below_lt b0
  have h1 := below_lt b1
  cases hl : withinB (needN 23) (k.pt e s).rights
  ·exact do_is (r' := (k, 7, 0, true)) (kref_do_user23_no K k e s d x3 x4 (by omega) hl he h4 hx hc w h) (by simp [kcall, hl])
  ·have hp := hk.pte e s he4 (by omega) (fun h0 => by rw [h0] at hl; exact absurd hl (by decide))
   obtain ⟨f, hf⟩ := nat_of hp.1
   exact do_is (r' := (wordS k f d 23 x3 x4, 0, wordT k f d 23, true)) (kref_do_user23 K k e s d x3 x4 (by omega) (by omega) hl f (by omega) hf he h4 hx hc w h) (by simp [kcall, hl, hf])
theorem kref_do (K : Nat) (k : KernS) (hk : Sane k) (env x0 x1 x2 x3 x4 : Int) (hx : wordsIn x0 x1 x2 x3 x4) (w : World) (h : KernIs w K k) :
  Calls Tryz.prog 13 #[.pointer (some ⟨K, 0, none⟩), .int .i64 env, callV x0 x1 x2 x3 x4] w (DoIs K w (kdo k env x0 x1 x2 x3 x4)) := by
 unfold kdo
 by_cases h1 : env < 0 ∨ k.envs ≤ env
 ·rw [if_pos h1]
  exact kref_do_off K k env x0 x1 x2 x3 x4 h1 w h
 ·rw [if_neg h1]
  obtain ⟨e, rfl⟩ := nat_of (show 0 ≤ env by omega)
  by_cases hc : chkN x0 x1 x2 x3 x4 k.envs = 0
  ·rw [if_pos hc]
   exact kref_call K k hk e (by omega) x0 x1 x2 x3 x4 hx hc w h
  ·rw [if_neg hc]
   exact kref_do_bad K k e x0 x1 x2 x3 x4 _ hc (by omega) hk.envs.2 hx rfl w h
end Go.Proofs.YtdfhfmdelinemaaGreatDoor
namespace Go.Proofs.YtdfhfmdelinemaaGreatDoor
open Go.RowKit Go.Extern.Stop Go.Stop Go.Extern Go.WalkArith
def newK (c e f : Int) : KernS := ⟨c, e, f, fun _ _ => noSlot, fun _ _ => noPte, fun _ _ => 0⟩
theorem zero_kern : Tryz.zeroCells106.toList = (List.range 515).map (kv (newK 0 0 0)) := by kernel_rfl
theorem newK_far (c e f : Int) (i : Nat) (h : 3 ≤ i) : kv (newK c e f) i = kv (newK 0 0 0) i := by
 unfold kv
 simp only [if_neg (show ¬ i < 3 by omega)]
 rfl
theorem new_cells (c e f : Int) (i : Nat) (hi : i < 515) : (((Tryz.zeroCells106.setIfInBounds 0 (.int .i64 c)).setIfInBounds 1 (.int .i64 e)).setIfInBounds 2 (.int .i64 f))[i]? = some (kv (newK c e f) i) := by
 have hz : ∀ j, j < 515 → Tryz.zeroCells106[j]? = some (kv (newK 0 0 0) j) := fun j hj => by
  rw [← Array.getElem?_toList, zero_kern, List.getElem?_map, List.getElem?_range hj]
  rfl
 have hsz : Tryz.zeroCells106.size = 515 := by simp
 rcases (show i = 0 ∨ i = 1 ∨ i = 2 ∨ 3 ≤ i by omega) with rfl | rfl | rfl | h3
 ·simp [hsz]
  rfl
 ·simp [hsz]
  rfl
 ·simp [hsz]
  rfl
 ·rw [Array.getElem?_setIfInBounds_ne (by omega), Array.getElem?_setIfInBounds_ne (by omega), Array.getElem?_setIfInBounds_ne (by omega), hz i hi, newK_far c e f i h3]
set_option maxRecDepth 100000 in
set_option maxHeartbeats 4000000 in
theorem kref_new (c e f : Int) (w : World) : Calls Tryz.prog 10 #[.agg #[.int .i64 c, .int .i64 e, .int .i64 f]] w fun x w' => ∃ K, x = .returned (.pointer (some ⟨K, 0, none⟩)) ∧ KernIs w' K (newK c e f) ∧ Below w.heap.size w w' ∧ w.heap.size ≤ K := by
 go_enter Tryz.func10, Tryz.ntmps10
 go_wp2_with fail
 obtain ⟨cs, hcs⟩ : ∃ cs, cs = ((Tryz.zeroCells106.setIfInBounds 0 (.int .i64 c)).setIfInBounds 1 (.int .i64 e)).setIfInBounds 2 (.int .i64 f) := ⟨_, rfl⟩
 have hc := new_cells c e f
 rw [← hcs] at hc ⊢
 clear hcs
 go_ret
 have h := heap_alloc_new (w.alloc (.cells #[.int .i64 c, .int .i64 e, .int .i64 f] 23)) (.cells cs 106)
 rw [show (w.alloc (.cells #[.int .i64 c, .int .i64 e, .int .i64 f] 23)).heap.size = w.heap.size + 1 by simp] at h
 exact ⟨w.heap.size + 1, rfl, ⟨fun i hi => (bk_cell h i).trans (hc i hi), fun i => bk_free h i, bk_lt h⟩, ((Below.refl _ _).alloc (Nat.le_refl _) _).alloc (by simp) _, by omega⟩
end Go.Proofs.YtdfhfmdelinemaaGreatDoor
namespace Go.Proofs.YtdfhfmdelinemaaGreatDoor
open Go.RowKit Go.Extern.Stop Go.Stop Go.Extern Go.WalkArith
theorem within_may {r a : Int} (h : withinB r a = true) : 1 ≤ r ∧ r ≤ 3 := by
 unfold withinB mayB at h
 simp at h
 exact ⟨h.1.1.1, h.1.1.2⟩
theorem Sane.new {c e f : Int} (he : 1 ≤ e ∧ e ≤ 4) (hf : 0 ≤ f ∧ f ≤ 16) : Sane (newK c e f) :=
 ⟨he, hf, fun _ _ _ _ h => by simp [newK, noSlot] at h, fun _ _ _ _ h => by simp [newK, noSlot] at h, fun _ _ _ _ h => absurd rfl h⟩
theorem Sane.setSlot {k : KernS} (h : Sane k) {e s : Nat} {v : SlotV} (hv : v.is = true → 0 ≤ v.frame ∧ v.frame < 16 ∧ 0 ≤ v.rights ∧ v.rights ≤ 3) (hp : v.is = true → 0 ≤ v.env → v.env < 4 ∧ 0 ≤ v.slot ∧ v.slot < 8) : Sane (k.setSlot e s v) := by
 refine ⟨h.envs, h.frames, fun e' s' he hs hi => ?_, fun e' s' he hs hi => ?_, h.pte⟩
 ·unfold KernS.setSlot at hi ⊢
  dsimp only at hi ⊢
  by_cases hc : e' = e ∧ s' = s
  ·rw [if_pos hc] at hi ⊢
   exact hv hi
  ·rw [if_neg hc] at hi ⊢
   exact h.slot e' s' he hs hi
 ·unfold KernS.setSlot at hi ⊢
  dsimp only at hi ⊢
  by_cases hc : e' = e ∧ s' = s
  ·rw [if_pos hc] at hi ⊢
   exact hp hi
  ·rw [if_neg hc] at hi ⊢
   exact h.par e' s' he hs hi
theorem Sane.setPte {k : KernS} (h : Sane k) {e p : Nat} {v : PteV} (hv : ¬ v.rights = 0 → 0 ≤ v.frame ∧ v.frame < 16 ∧ 0 ≤ v.slot ∧ v.slot < 8) : Sane (k.setPte e p v) := by
 refine ⟨h.envs, h.frames, h.slot, h.par, fun e' p' he hp hr => ?_⟩
 unfold KernS.setPte at hr ⊢
 dsimp only at hr ⊢
 by_cases hc : e' = e ∧ p' = p
 ·rw [if_pos hc] at hr ⊢
  exact hv hr
 ·rw [if_neg hc] at hr ⊢
  exact h.pte e' p' he hp hr
theorem Sane.setWord {k : KernS} (h : Sane k) (f a : Nat) (v : Int) : Sane (k.setWord f a v) := ⟨h.envs, h.frames, h.slot, h.par, h.pte⟩
theorem Sane.clear {k : KernS} (h : Sane k) (f : Nat) : Sane (k.clear f) := ⟨h.envs, h.frames, h.slot, h.par, h.pte⟩
theorem Sane.clr {k : KernS} (h : Sane k) (e s n : Nat) : Sane (clr k e s n) := by
 refine ⟨h.envs, h.frames, fun e' s' he hs hi => ?_, fun e' s' he hs hi => ?_, fun e' p' he hp hr => ?_⟩
 ·unfold Proofs.YtdfhfmdelinemaaGreatDoor.clr at hi ⊢
  dsimp only at hi ⊢
  by_cases hc : e' = e ∧ s' = s
  ·rw [if_pos hc] at hi
   exact absurd hi (by decide)
  ·rw [if_neg hc] at hi ⊢
   exact h.slot e' s' he hs hi
 ·unfold Proofs.YtdfhfmdelinemaaGreatDoor.clr at hi ⊢
  dsimp only at hi ⊢
  by_cases hc : e' = e ∧ s' = s
  ·rw [if_pos hc] at hi
   exact absurd hi (by decide)
  ·rw [if_neg hc] at hi ⊢
   exact h.par e' s' he hs hi
 ·unfold Proofs.YtdfhfmdelinemaaGreatDoor.clr at hr ⊢
  dsimp only at hr ⊢
  by_cases hc : e' = e ∧ p' < n ∧ ¬ (k.pt e' p').rights = 0 ∧ (k.pt e' p').slot = (s : Int)
  ·rw [if_pos hc] at hr
   exact absurd rfl hr
  ·rw [if_neg hc] at hr ⊢
   exact h.pte e' p' he hp hr
theorem Sane.gone {k : KernS} (h : Sane k) (l : List Nat) : Sane (goneF k l) := by
 induction l generalizing k with
 | nil => exact h
 | cons j l ih => exact ih (h.clr _ _ _)
theorem Sane.word {k : KernS} (h : Sane k) (f a : Nat) (kind x3 x4 : Int) : Sane (wordS k f a kind x3 x4) := by
 unfold wordS
 split
 ·exact h.setWord _ _ _
 ·split
  ·split
   ·exact h.setWord _ _ _
   ·exact h
  ·split
   ·exact h.setWord _ _ _
   ·exact h
theorem Sane.derive {k : KernS} (h : Sane k) {e s e' s' : Nat} (he : e < 4) (hs : s < 8) (r : Int) : Sane (deriveS k e s e' s' r) := by
 unfold deriveS
 split
 ·rename_i h0
  unfold deriveE at h0
  split at h0
  ·exact absurd h0 (by decide)
  ·rename_i hi
   split at h0
   ·exact absurd h0 (by decide)
   ·split at h0
    ·exact absurd h0 (by decide)
    ·rename_i hw
     have hsl := h.slot e s he hs (by simpa using hi)
     have hr := within_may (r := r) (a := (k.sl e s).rights) (by simpa using hw)
     exact h.setSlot (fun _ => ⟨hsl.1, hsl.2.1, by show 0 ≤ r; omega, hr.2⟩) (fun _ _ => ⟨by show (e : Int) < 4; omega, by show 0 ≤ (s : Int); omega, by show (s : Int) < 8; omega⟩)
 ·exact h
theorem Sane.map {k : KernS} (h : Sane k) {e p s : Nat} (he : e < 4) (hs : s < 8) (r : Int) : Sane (mapS k e p s r) := by
 unfold mapS
 split
 ·rename_i h0
  unfold mapE at h0
  split at h0
  ·exact absurd h0 (by decide)
  ·rename_i hi
   have hsl := h.slot e s he hs (by simpa using hi)
   exact h.setPte fun _ => ⟨hsl.1, hsl.2.1, by show 0 ≤ (s : Int); omega, by show (s : Int) < 8; omega⟩
 ·exact h
theorem Sane.unmap {k : KernS} (h : Sane k) (e p : Nat) : Sane (unmapS k e p) := by
 unfold unmapS
 split
 ·exact h
 ·exact h.setPte fun hr => absurd rfl hr
theorem Sane.prot {k : KernS} (h : Sane k) {e p : Nat} (he : e < 4) (hp : p < 8) (r : Int) : Sane (protS k e p r) := by
 unfold protS
 split
 ·rename_i h0
  unfold protE at h0
  split at h0
  ·exact absurd h0 (by decide)
  ·rename_i hr
   exact h.setPte fun _ => h.pte e p he hp hr
 ·exact h
theorem Sane.call {k : KernS} (hk : Sane k) {e : Nat} (he4 : e < 4) {x0 x1 x2 x3 x4 : Int} (hx : wordsIn x0 x1 x2 x3 x4) (hc : chkN x0 x1 x2 x3 x4 k.envs = 0) : Sane (kcall k e x0 x1 x2 x3 x4).1 := by
 obtain ⟨s, rfl⟩ := nat_of hx.2.1.1
 obtain ⟨d, rfl⟩ := nat_of hx.2.2.1.1
 rcases kind_cases (chk_kind hc) with rfl | rfl | rfl | rfl | rfl | rfl | rfl | rfl | rfl | rfl | rfl | rfl | rfl | rfl
 ·show Sane (if (k.sl e s).is = true then (k, 4, 0, true) else _ : KernS × Int × Int × Bool).1
  split
  ·exact hk
  ·rcases hf : freeK k k.frames.toNat with _ | ⟨f, r⟩
   ·exact hk
   ·have hm : f ∈ freeK k k.frames.toNat := by rw [hf]; exact List.mem_cons_self ..
    unfold freeK at hm
    have := List.mem_range.1 (List.mem_filter.1 hm).1
    have := hk.frames
    exact (hk.clear f).setSlot (fun _ => ⟨by show 0 ≤ (f : Int); omega, by show (f : Int) < 16; omega, by show (0 : Int) ≤ 3; decide, by show (3 : Int) ≤ 3; decide⟩) (fun _ h => absurd (show (0 : Int) ≤ -1 from h) (by decide))
 ·obtain ⟨b0, b1, b2, _⟩ := res4_zero (show res4 (belowB (s : Int) 8) (belowB (d : Int) 8) (rightsB x3) true = 0 from hc)
  have h0 := below_lt b0
  exact hk.derive he4 (by show s < 8; omega) _
 ·obtain ⟨b0, _⟩ := res4_zero (show res4 (belowB (s : Int) 8) (belowB (d : Int) k.envs) (belowB x3 8) (rightsB x4) = 0 from hc)
  have h0 := below_lt b0
  exact hk.derive he4 (by show s < 8; omega) _
 ·show Sane (if (k.sl e s).is = true then _ else _ : KernS × Int × Int × Bool).1
  split
  ·exact hk.gone _
  ·exact hk
 ·show Sane (if (k.sl e s).is = true then _ else _ : KernS × Int × Int × Bool).1
  split
  ·exact hk.gone _
  ·exact hk
 ·obtain ⟨b0, b1, b2, _⟩ := res4_zero (show res4 (belowB (s : Int) 8) (belowB (d : Int) 8) (rightsB x3) true = 0 from hc)
  have h1 := below_lt b1
  exact hk.map he4 (by show d < 8; omega) _
 ·exact hk.unmap _ _
 ·obtain ⟨b0, b1, _⟩ := res4_zero (show res4 (belowB (s : Int) 8) (rightsB (d : Int)) true true = 0 from hc)
  have h0 := below_lt b0
  exact hk.prot he4 (by show s < 8; omega) _
 ·show Sane (if (k.sl e s).is = true then _ else _ : KernS × Int × Int × Bool).1
  split
  ·split
   ·exact hk
   ·split
    ·exact hk
    ·exact hk
  ·exact hk
 ·exact hk
 all_goals
  show Sane (if withinB _ (k.pt e s).rights = true then _ else _ : KernS × Int × Int × Bool).1
  split
  ·dsimp only
   exact hk.word _ _ _ _ _
  ·exact hk
theorem Sane.do {k : KernS} (hk : Sane k) (env x0 x1 x2 x3 x4 : Int) (hx : wordsIn x0 x1 x2 x3 x4) : Sane (kdo k env x0 x1 x2 x3 x4).1 := by
 unfold kdo
 split
 ·exact hk
 ·rename_i h1
  split
  ·rename_i hc
   have := hk.envs
   exact hk.call (by omega) hx hc
  ·exact hk
end Go.Proofs.YtdfhfmdelinemaaGreatDoor
namespace Go.Proofs.YtdfhfmdelinemaaGreatDoor
open Go.RowKit Go.Extern.Stop Go.Stop Go.Extern Go.WalkArith
theorem kv_one (k : KernS) (i : Nat) : (kv k i).oneCell' = true := by
 unfold kv
 split
 ·split
  ·rfl
  ·split <;> rfl
 ·split
  ·generalize (i - 3) % 5 = c
   unfold slotC
   split <;> rfl
  ·split
   ·generalize (i - 163) % 3 = c
    unfold pteC
    split <;> rfl
   ·rfl
theorem Tryz.kernSize : (Tryz.prog.info? 106).map (fun x => x.size) = some 515 := by kernel_rfl
set_option maxRecDepth 100000 in
set_option maxHeartbeats 4000000 in
theorem kref_copy (K : Nat) (k : KernS) (w : World) (h : KernIs w K k) : Calls Tryz.prog 20 #[.pointer (some ⟨K, 0, none⟩)] w fun x w' => ∃ C, x = .returned (.pointer (some ⟨C, 0, none⟩)) ∧ KernIs w' C k ∧ Below w.heap.size w w' ∧ w.heap.size ≤ C := by
 obtain ⟨cs, hcs⟩ : ∃ cs : List Value, cs = (List.range 515).map (kv k) := ⟨_, rfl⟩
 have hlen : cs.length = 515 := by rw [hcs]; simp
 have hget : ∀ j, j < 515 → cs[j]? = some (kv k j) := fun j hj => by rw [hcs, List.getElem?_map, List.getElem?_range hj]; rfl
 have hone : ∀ v ∈ cs, v.oneCell' = true := fun v hv => by
  rw [hcs] at hv
  obtain ⟨j, _, rfl⟩ := List.mem_map.1 hv
  exact kv_one k j
 have hr : w.rangeAt K 0 cs := fun j v hv => by
  have hj : j < 515 := by have := (List.getElem?_eq_some_iff.1 hv).1; omega
  rw [hget j hj] at hv
  rw [Nat.zero_add, ← hv]
  exact h.cells j hj
 have hsz : (Tryz.prog.info? 106).map (·.size) = some cs.length := by rw [hlen]; exact Tryz.kernSize
 have H := Lib.hid hr
 have HZ := Lib.hid hsz
 have HO := Lib.hid hone
 have HG := Lib.hid hget
 have HZ2 : Hid ((Tryz.prog.info? 106).map (·.size) = some cs.toArray.size) := by rw [List.size_toArray]; exact HZ.out
 have HT : Hid ((w.alloc (.cells Tryz.zeroCells106 106)).there w.heap.size 0 cs.toArray.size) := by
  show (w.alloc (.cells Tryz.zeroCells106 106)).there w.heap.size 0 cs.toArray.size
  intro j hj
  rw [List.size_toArray, hlen] at hj
  have hz : Tryz.zeroCells106.size = 515 := by simp
  rw [Nat.zero_add]
  refine ⟨?_, bk_free (heap_alloc_new w _) j⟩
  rw [bk_cell (heap_alloc_new w _) j, Array.getElem?_eq_getElem (by omega)]
  rfl
 clear hcs hr hsz hone hget h
 go_enter Tryz.func20, Tryz.ntmps20
 go_wp2_with (first
  | (refine wpList_load_mid (op := ⟨some 6, _, _, _, _, _⟩) rfl 106 (.tmp 5) rfl K 0 rfl cs _ H.out Tryz.underlying106 rfl HZ.out ?_)
  | (refine wpList_store_mid (op := ⟨none, _, _, _, _, _⟩) rfl 106 (.tmp 3) (.tmp 6) rfl w.heap.size 0 cs.toArray rfl rfl HT.out HZ2.out (all_oneCell_toArray HO.out) ?_))
 go_ret
 have hs : ∀ (l : List Value) (o : Nat) (W : World), (W.setCells w.heap.size o l).heap.size = W.heap.size := by
  intro l
  induction l with
  | nil => intro o W; rfl
  | cons v r ih => intro o W; rw [World.setCells, ih]; simp
 have hlt : w.heap.size < ((w.alloc (.cells Tryz.zeroCells106 106)).setCells w.heap.size 0 cs).heap.size := by rw [hs]; simp
 refine ⟨w.heap.size, rfl, ⟨fun i hi => ?_, fun i => ?_, hlt⟩, bl_fill ((Below.refl _ _).alloc (Nat.le_refl _) _) (Nat.le_refl _) _ _, Nat.le_refl _⟩
 ·have h := World.rangeAt_setCells_same (w.alloc (.cells Tryz.zeroCells106 106)) w.heap.size 0 cs (by have := HT.out; simpa using this) i _ (HG.out i hi)
  rw [Nat.zero_add] at h
  exact h
 ·rw [World.frozen?_setCells]
  exact bk_free (heap_alloc_new w _) i
end Go.Proofs.YtdfhfmdelinemaaGreatDoor
