/- What is proved here: the document's plain kernel: calls that may not be, yields, derivations, maps, loads and stores. Conditions: those that each theorem names. -/
import Derived.Test.YtdfhfmdelinemaaGreatDoorGKer
namespace Go.Proofs.YtdfhfmdelinemaaGreatDoor
open Go.RowKit Go.Extern.Stop Go.Stop Go.Extern Go.WalkArith
def ReadAt (C K : Nat) (x0 x1 x2 x3 x4 envs : Int) (w : World) : Prop :=
 w.cell? ⟨C, 0, none⟩ = some (.int .u64 x0) ∧ w.cell? ⟨C, 1, none⟩ = some (.int .u64 x1) ∧ w.cell? ⟨C, 2, none⟩ = some (.int .u64 x2) ∧ w.cell? ⟨C, 3, none⟩ = some (.int .u64 x3) ∧ w.cell? ⟨C, 4, none⟩ = some (.int .u64 x4) ∧ w.cell? ⟨K, 1, none⟩ = some (.int .i64 envs)
theorem DoAt.read {w w1 : World} {K C R : Nat} {k : KernS} {x0 x1 x2 x3 x4 : Int} (h : DoAt w w1 K C R k x0 x1 x2 x3 x4) : ReadAt C K x0 x1 x2 x3 x4 k.envs w1 :=
 ⟨bk_cell h.call 0, bk_cell h.call 1, bk_cell h.call 2, bk_cell h.call 3, bk_cell h.call 4, h.ker.sizes.2.1⟩
set_option maxRecDepth 100000 in
set_option maxHeartbeats 8000000 in
theorem kref_do_bad (K : Nat) (k : KernS) (e : Nat) (x0 x1 x2 x3 x4 E : Int) (hE : ¬ E = 0) (he : (e : Int) < k.envs) (hk4 : k.envs ≤ 4) (hx : wordsIn x0 x1 x2 x3 x4) (hchk : chkN x0 x1 x2 x3 x4 k.envs = E) (w : World) (h : KernIs w K k) :
  Calls Tryz.prog 13 #[.pointer (some ⟨K, 0, none⟩), .int .i64 (e : Int), callV x0 x1 x2 x3 x4] w fun x w' => x = .returned (ansV E 0 true) ∧ KernIs w' K (k) ∧ OnlyT K w w' := by
 have H := Lib.hid (DoAt.start h x0 x1 x2 x3 x4)
 obtain ⟨_, c1, _⟩ := h.sizes
 have lK := h.lt
 have HCK : Hid (∀ W, Calls Tryz.prog 50 #[callV x0 x1 x2 x3 x4, .int .i64 k.envs] W fun x w' => x = .returned (.int .i64 E) ∧ Below W.heap.size W w') := fun W => by
  have h := ref_Check_any x0 x1 x2 x3 x4 k.envs hx (by unfold intIn; omega) W
  rw [hchk] at h
  exact h
 clear h hchk
 go_enter Tryz.func13, Tryz.ntmps13
 have e0 : ¬ (e : Int) < 0 := by omega
 have e1 : ¬ k.envs ≤ (e : Int) := by omega
 go_wp2_with fail
 obtain ⟨w1, hw1⟩ : ∃ w1, w1 = (w.alloc (.cells #[.int .u64 x0, .int .u64 x1, .int .u64 x2, .int .u64 x3, .int .u64 x4] 36)).alloc (.cells #[.int .i64 0, .int .u64 0] 41) := ⟨_, rfl⟩
 obtain ⟨C, hC⟩ : ∃ C, C = w.heap.size := ⟨_, rfl⟩
 obtain ⟨R, hR⟩ : ∃ R, R = w.heap.size + 1 := ⟨_, rfl⟩
 rw [← hw1, ← hR, ← hC] at H
 rw [← hw1, ← hR, ← hC]
 clear hw1 hC hR c1
 have HD : Hid (DoAt w w1.drew K C R k x0 x1 x2 x3 x4) := H.out.drewN 1
 have hS : w1.drew.cell? ⟨C, 0, none⟩ = some (.int .u64 x0) ∧ w1.drew.cell? ⟨C, 1, none⟩ = some (.int .u64 x1) ∧ w1.drew.cell? ⟨C, 2, none⟩ = some (.int .u64 x2) ∧ w1.drew.cell? ⟨C, 3, none⟩ = some (.int .u64 x3) ∧ w1.drew.cell? ⟨C, 4, none⟩ = some (.int .u64 x4) ∧ w1.drew.cell? ⟨K, 1, none⟩ = some (.int .i64 k.envs) := HD.out.read
 clear H
 unfold callV at HCK
 go_region_held3 (fun w' => w'.cell? ⟨C, 0, none⟩ = some (.int .u64 x0) ∧ w'.cell? ⟨C, 1, none⟩ = some (.int .u64 x1) ∧ w'.cell? ⟨C, 2, none⟩ = some (.int .u64 x2) ∧ w'.cell? ⟨C, 3, none⟩ = some (.int .u64 x3) ∧ w'.cell? ⟨C, 4, none⟩ = some (.int .u64 x4) ∧ w'.cell? ⟨K, 1, none⟩ = some (.int .i64 k.envs)) (exact hS)
  ((go_at_call 50; refine (HCK.out _).mono ?_; rintro x wn ⟨rfl, hb⟩; replace HD := Lib.hid (HD.out.later hb); have hS : wn.cell? ⟨C, 0, none⟩ = some (.int .u64 x0) ∧ wn.cell? ⟨C, 1, none⟩ = some (.int .u64 x1) ∧ wn.cell? ⟨C, 2, none⟩ = some (.int .u64 x2) ∧ wn.cell? ⟨C, 3, none⟩ = some (.int .u64 x3) ∧ wn.cell? ⟨C, 4, none⟩ = some (.int .u64 x4) ∧ wn.cell? ⟨K, 1, none⟩ = some (.int .i64 k.envs) := HD.out.read; clear hb))
 all_goals
  have hE2 : (E == 0) = false := by simpa using hE
  have hE3 : (E != 0) = true := by simpa using hE
  clear hE hS
  go_wp2_with fail
  refine (kref_err E _).mono ?_
  rintro x wt ⟨rfl, hb⟩
  have HT := Lib.hid (HD.out.later hb)
  clear hb
  have r0 := bk_cell HT.out.ans 0
  have r1 := bk_cell HT.out.ans 1
  have g0 := bk_free HT.out.ans 0
  have g1 := bk_free HT.out.ans 1
  unfold ansV
  go_wp2_with fail
  exact bodyPost_ret (v := .tuple #[.agg #[.int .i64 E, .int .u64 0], .bool true]) (by simp [results, Tryz.results13, go_sem, r0, r1]) rfl ⟨rfl, (HT.out.told _ _).1, (HT.out.told _ _).2⟩
set_option maxRecDepth 100000 in
set_option maxHeartbeats 8000000 in
theorem kref_do_yield (K : Nat) (k : KernS) (e : Nat) (x1 x2 x3 x4 : Int) (he : (e : Int) < k.envs) (hk4 : k.envs ≤ 4) (hx : wordsIn 10 x1 x2 x3 x4) (hchk : chkN 10 x1 x2 x3 x4 k.envs = 0) (w : World) (h : KernIs w K k) :
  Calls Tryz.prog 13 #[.pointer (some ⟨K, 0, none⟩), .int .i64 (e : Int), callV 10 x1 x2 x3 x4] w fun x w' => x = .returned (ansV 0 0 true) ∧ KernIs w' K (k) ∧ OnlyT K w w' := by
 have H := Lib.hid (DoAt.start h 10 x1 x2 x3 x4)
 obtain ⟨_, c1, _⟩ := h.sizes
 have lK := h.lt
 have HCK : Hid (∀ W, Calls Tryz.prog 50 #[callV 10 x1 x2 x3 x4, .int .i64 k.envs] W fun x w' => x = .returned (.int .i64 0) ∧ Below W.heap.size W w') := fun W => by
  have h := ref_Check_any 10 x1 x2 x3 x4 k.envs hx (by unfold intIn; omega) W
  rw [hchk] at h
  exact h
 clear h hchk
 go_enter Tryz.func13, Tryz.ntmps13
 have e0 : ¬ (e : Int) < 0 := by omega
 have e1 : ¬ k.envs ≤ (e : Int) := by omega
 go_wp2_with fail
 obtain ⟨w1, hw1⟩ : ∃ w1, w1 = (w.alloc (.cells #[.int .u64 10, .int .u64 x1, .int .u64 x2, .int .u64 x3, .int .u64 x4] 36)).alloc (.cells #[.int .i64 0, .int .u64 0] 41) := ⟨_, rfl⟩
 obtain ⟨C, hC⟩ : ∃ C, C = w.heap.size := ⟨_, rfl⟩
 obtain ⟨R, hR⟩ : ∃ R, R = w.heap.size + 1 := ⟨_, rfl⟩
 rw [← hw1, ← hR, ← hC] at H
 rw [← hw1, ← hR, ← hC]
 clear hw1 hC hR c1
 have HD : Hid (DoAt w w1.drew K C R k 10 x1 x2 x3 x4) := H.out.drewN 1
 have hS : w1.drew.cell? ⟨C, 0, none⟩ = some (.int .u64 10) ∧ w1.drew.cell? ⟨C, 1, none⟩ = some (.int .u64 x1) ∧ w1.drew.cell? ⟨C, 2, none⟩ = some (.int .u64 x2) ∧ w1.drew.cell? ⟨C, 3, none⟩ = some (.int .u64 x3) ∧ w1.drew.cell? ⟨C, 4, none⟩ = some (.int .u64 x4) ∧ w1.drew.cell? ⟨K, 1, none⟩ = some (.int .i64 k.envs) := HD.out.read
 clear H
 unfold callV at HCK
 go_region_held3 (fun w' => w'.cell? ⟨C, 0, none⟩ = some (.int .u64 10) ∧ w'.cell? ⟨C, 1, none⟩ = some (.int .u64 x1) ∧ w'.cell? ⟨C, 2, none⟩ = some (.int .u64 x2) ∧ w'.cell? ⟨C, 3, none⟩ = some (.int .u64 x3) ∧ w'.cell? ⟨C, 4, none⟩ = some (.int .u64 x4) ∧ w'.cell? ⟨K, 1, none⟩ = some (.int .i64 k.envs)) (exact hS)
  ((go_at_call 50; refine (HCK.out _).mono ?_; rintro x wn ⟨rfl, hb⟩; replace HD := Lib.hid (HD.out.later hb); have hS : wn.cell? ⟨C, 0, none⟩ = some (.int .u64 10) ∧ wn.cell? ⟨C, 1, none⟩ = some (.int .u64 x1) ∧ wn.cell? ⟨C, 2, none⟩ = some (.int .u64 x2) ∧ wn.cell? ⟨C, 3, none⟩ = some (.int .u64 x3) ∧ wn.cell? ⟨C, 4, none⟩ = some (.int .u64 x4) ∧ wn.cell? ⟨K, 1, none⟩ = some (.int .i64 k.envs) := HD.out.read; clear hb))
 all_goals
  have d0 := bk_cell HD.out.call 0
  have d1 := bk_cell HD.out.call 1
  have d2 := bk_cell HD.out.call 2
  have d3 := bk_cell HD.out.call 3
  have d4 := bk_cell HD.out.call 4
  clear hS
  go_wp2_with fail
  refine (Kind_is 10 x1 x2 x3 x4 (by decide) _).mono ?_
  rintro x wk ⟨rfl, hb⟩
  replace HD := Lib.hid (HD.out.later hb)
  clear hb d0 d1 d2 d3 d4
  go_wp2_with fail
  refine (kref_err 0 _).mono ?_
  rintro x wt ⟨rfl, hb⟩
  have HT := Lib.hid (HD.out.later hb)
  clear hb
  have r0 := bk_cell HT.out.ans 0
  have r1 := bk_cell HT.out.ans 1
  have g0 := bk_free HT.out.ans 0
  have g1 := bk_free HT.out.ans 1
  unfold ansV
  go_wp2_with fail
  exact bodyPost_ret (v := .tuple #[.agg #[.int .i64 0, .int .u64 0], .bool true]) (by simp [results, Tryz.results13, go_sem, r0, r1]) rfl ⟨rfl, (HT.out.told _ _).1, (HT.out.told _ _).2⟩
set_option maxRecDepth 100000 in
set_option maxHeartbeats 8000000 in
theorem kref_do_derive (K : Nat) (k : KernS) (e : Nat) (s d : Nat) (r x4 : Int) (hs : s < 8) (hd : d < 8) (r0 : 1 ≤ r) (r3 : r ≤ 3) (he : (e : Int) < k.envs) (hk4 : k.envs ≤ 4) (hx : wordsIn 2 (s : Int) (d : Int) r x4) (hchk : chkN 2 (s : Int) (d : Int) r x4 k.envs = 0) (w : World) (h : KernIs w K k) :
  Calls Tryz.prog 13 #[.pointer (some ⟨K, 0, none⟩), .int .i64 (e : Int), callV 2 (s : Int) (d : Int) r x4] w fun x w' => x = .returned (ansV (deriveE k e s e d r) 0 true) ∧ KernIs w' K (deriveS k e s e d r) ∧ OnlyT K w w' := by
 have H := Lib.hid (DoAt.start h 2 (s : Int) (d : Int) r x4)
 obtain ⟨_, c1, _⟩ := h.sizes
 have lK := h.lt
 have HCK : Hid (∀ W, Calls Tryz.prog 50 #[callV 2 (s : Int) (d : Int) r x4, .int .i64 k.envs] W fun x w' => x = .returned (.int .i64 0) ∧ Below W.heap.size W w') := fun W => by
  have h := ref_Check_any 2 (s : Int) (d : Int) r x4 k.envs hx (by unfold intIn; omega) W
  rw [hchk] at h
  exact h
 clear h hchk
 go_enter Tryz.func13, Tryz.ntmps13
 have e0 : ¬ (e : Int) < 0 := by omega
 have e1 : ¬ k.envs ≤ (e : Int) := by omega
 go_wp2_with fail
 obtain ⟨w1, hw1⟩ : ∃ w1, w1 = (w.alloc (.cells #[.int .u64 2, .int .u64 (s : Int), .int .u64 (d : Int), .int .u64 r, .int .u64 x4] 36)).alloc (.cells #[.int .i64 0, .int .u64 0] 41) := ⟨_, rfl⟩
 obtain ⟨C, hC⟩ : ∃ C, C = w.heap.size := ⟨_, rfl⟩
 obtain ⟨R, hR⟩ : ∃ R, R = w.heap.size + 1 := ⟨_, rfl⟩
 rw [← hw1, ← hR, ← hC] at H
 rw [← hw1, ← hR, ← hC]
 clear hw1 hC hR c1
 have HD : Hid (DoAt w w1.drew K C R k 2 (s : Int) (d : Int) r x4) := H.out.drewN 1
 have hS : w1.drew.cell? ⟨C, 0, none⟩ = some (.int .u64 2) ∧ w1.drew.cell? ⟨C, 1, none⟩ = some (.int .u64 (s : Int)) ∧ w1.drew.cell? ⟨C, 2, none⟩ = some (.int .u64 (d : Int)) ∧ w1.drew.cell? ⟨C, 3, none⟩ = some (.int .u64 r) ∧ w1.drew.cell? ⟨C, 4, none⟩ = some (.int .u64 x4) ∧ w1.drew.cell? ⟨K, 1, none⟩ = some (.int .i64 k.envs) := HD.out.read
 clear H
 unfold callV at HCK
 go_region_held3 (fun w' => w'.cell? ⟨C, 0, none⟩ = some (.int .u64 2) ∧ w'.cell? ⟨C, 1, none⟩ = some (.int .u64 (s : Int)) ∧ w'.cell? ⟨C, 2, none⟩ = some (.int .u64 (d : Int)) ∧ w'.cell? ⟨C, 3, none⟩ = some (.int .u64 r) ∧ w'.cell? ⟨C, 4, none⟩ = some (.int .u64 x4) ∧ w'.cell? ⟨K, 1, none⟩ = some (.int .i64 k.envs)) (exact hS)
  ((go_at_call 50; refine (HCK.out _).mono ?_; rintro x wn ⟨rfl, hb⟩; replace HD := Lib.hid (HD.out.later hb); have hS : wn.cell? ⟨C, 0, none⟩ = some (.int .u64 2) ∧ wn.cell? ⟨C, 1, none⟩ = some (.int .u64 (s : Int)) ∧ wn.cell? ⟨C, 2, none⟩ = some (.int .u64 (d : Int)) ∧ wn.cell? ⟨C, 3, none⟩ = some (.int .u64 r) ∧ wn.cell? ⟨C, 4, none⟩ = some (.int .u64 x4) ∧ wn.cell? ⟨K, 1, none⟩ = some (.int .i64 k.envs) := HD.out.read; clear hb))
 all_goals
  have d0 := bk_cell HD.out.call 0
  have d1 := bk_cell HD.out.call 1
  have d2 := bk_cell HD.out.call 2
  have d3 := bk_cell HD.out.call 3
  have d4 := bk_cell HD.out.call 4
  clear hS
  go_wp2_with fail
  refine (Kind_is 2 (s : Int) (d : Int) r x4 (by decide) _).mono ?_
  rintro x wk ⟨rfl, hb⟩
  replace HD := Lib.hid (HD.out.later hb)
  clear hb d0 d1 d2 d3 d4
  have d1 := bk_cell HD.out.call 1
  have d2 := bk_cell HD.out.call 2
  have d3 := bk_cell HD.out.call 3
  have d4 := bk_cell HD.out.call 4
  have s0 : (0 : Int) ≤ (s : Int) := by omega
  have s1 : (s : Int) < 8 := by omega
  have t0 : (0 : Int) ≤ (d : Int) := by omega
  have t1 : (d : Int) < 8 := by omega
  go_wp2_with fail
  refine (kref_derive K k e s e d (by omega) hs (by omega) hd r _ HD.out.ker).mono ?_
  rintro x wd ⟨rfl, hk', ho'⟩
  replace HD := Lib.hid (HD.out.turned hk' ho')
  clear hk' ho' d1 d2 d3 d4
  go_wp2_with fail
  refine (kref_err (deriveE k e s e d r) _).mono ?_
  rintro x wt ⟨rfl, hb⟩
  have HT := Lib.hid (HD.out.later hb)
  clear hb
  have r0 := bk_cell HT.out.ans 0
  have r1 := bk_cell HT.out.ans 1
  have g0 := bk_free HT.out.ans 0
  have g1 := bk_free HT.out.ans 1
  unfold ansV
  go_wp2_with fail
  exact bodyPost_ret (v := .tuple #[.agg #[.int .i64 (deriveE k e s e d r), .int .u64 0], .bool true]) (by simp [results, Tryz.results13, go_sem, r0, r1]) rfl ⟨rfl, (HT.out.told _ _).1, (HT.out.told _ _).2⟩
set_option maxRecDepth 100000 in
set_option maxHeartbeats 8000000 in
theorem kref_do_grant (K : Nat) (k : KernS) (e : Nat) (s t d : Nat) (r : Int) (hs : s < 8) (ht : t < 4) (hd : d < 8) (r0 : 1 ≤ r) (r3 : r ≤ 3) (he : (e : Int) < k.envs) (hk4 : k.envs ≤ 4) (hx : wordsIn 3 (s : Int) (t : Int) (d : Int) r) (hchk : chkN 3 (s : Int) (t : Int) (d : Int) r k.envs = 0) (w : World) (h : KernIs w K k) :
  Calls Tryz.prog 13 #[.pointer (some ⟨K, 0, none⟩), .int .i64 (e : Int), callV 3 (s : Int) (t : Int) (d : Int) r] w fun x w' => x = .returned (ansV (deriveE k e s t d r) 0 true) ∧ KernIs w' K (deriveS k e s t d r) ∧ OnlyT K w w' := by
 have H := Lib.hid (DoAt.start h 3 (s : Int) (t : Int) (d : Int) r)
 obtain ⟨_, c1, _⟩ := h.sizes
 have lK := h.lt
 have HCK : Hid (∀ W, Calls Tryz.prog 50 #[callV 3 (s : Int) (t : Int) (d : Int) r, .int .i64 k.envs] W fun x w' => x = .returned (.int .i64 0) ∧ Below W.heap.size W w') := fun W => by
  have h := ref_Check_any 3 (s : Int) (t : Int) (d : Int) r k.envs hx (by unfold intIn; omega) W
  rw [hchk] at h
  exact h
 clear h hchk
 go_enter Tryz.func13, Tryz.ntmps13
 have e0 : ¬ (e : Int) < 0 := by omega
 have e1 : ¬ k.envs ≤ (e : Int) := by omega
 go_wp2_with fail
 obtain ⟨w1, hw1⟩ : ∃ w1, w1 = (w.alloc (.cells #[.int .u64 3, .int .u64 (s : Int), .int .u64 (t : Int), .int .u64 (d : Int), .int .u64 r] 36)).alloc (.cells #[.int .i64 0, .int .u64 0] 41) := ⟨_, rfl⟩
 obtain ⟨C, hC⟩ : ∃ C, C = w.heap.size := ⟨_, rfl⟩
 obtain ⟨R, hR⟩ : ∃ R, R = w.heap.size + 1 := ⟨_, rfl⟩
 rw [← hw1, ← hR, ← hC] at H
 rw [← hw1, ← hR, ← hC]
 clear hw1 hC hR c1
 have HD : Hid (DoAt w w1.drew K C R k 3 (s : Int) (t : Int) (d : Int) r) := H.out.drewN 1
 have hS : w1.drew.cell? ⟨C, 0, none⟩ = some (.int .u64 3) ∧ w1.drew.cell? ⟨C, 1, none⟩ = some (.int .u64 (s : Int)) ∧ w1.drew.cell? ⟨C, 2, none⟩ = some (.int .u64 (t : Int)) ∧ w1.drew.cell? ⟨C, 3, none⟩ = some (.int .u64 (d : Int)) ∧ w1.drew.cell? ⟨C, 4, none⟩ = some (.int .u64 r) ∧ w1.drew.cell? ⟨K, 1, none⟩ = some (.int .i64 k.envs) := HD.out.read
 clear H
 unfold callV at HCK
 go_region_held3 (fun w' => w'.cell? ⟨C, 0, none⟩ = some (.int .u64 3) ∧ w'.cell? ⟨C, 1, none⟩ = some (.int .u64 (s : Int)) ∧ w'.cell? ⟨C, 2, none⟩ = some (.int .u64 (t : Int)) ∧ w'.cell? ⟨C, 3, none⟩ = some (.int .u64 (d : Int)) ∧ w'.cell? ⟨C, 4, none⟩ = some (.int .u64 r) ∧ w'.cell? ⟨K, 1, none⟩ = some (.int .i64 k.envs)) (exact hS)
  ((go_at_call 50; refine (HCK.out _).mono ?_; rintro x wn ⟨rfl, hb⟩; replace HD := Lib.hid (HD.out.later hb); have hS : wn.cell? ⟨C, 0, none⟩ = some (.int .u64 3) ∧ wn.cell? ⟨C, 1, none⟩ = some (.int .u64 (s : Int)) ∧ wn.cell? ⟨C, 2, none⟩ = some (.int .u64 (t : Int)) ∧ wn.cell? ⟨C, 3, none⟩ = some (.int .u64 (d : Int)) ∧ wn.cell? ⟨C, 4, none⟩ = some (.int .u64 r) ∧ wn.cell? ⟨K, 1, none⟩ = some (.int .i64 k.envs) := HD.out.read; clear hb))
 all_goals
  have d0 := bk_cell HD.out.call 0
  have d1 := bk_cell HD.out.call 1
  have d2 := bk_cell HD.out.call 2
  have d3 := bk_cell HD.out.call 3
  have d4 := bk_cell HD.out.call 4
  clear hS
  go_wp2_with fail
  refine (Kind_is 3 (s : Int) (t : Int) (d : Int) r (by decide) _).mono ?_
  rintro x wk ⟨rfl, hb⟩
  replace HD := Lib.hid (HD.out.later hb)
  clear hb d0 d1 d2 d3 d4
  have d1 := bk_cell HD.out.call 1
  have d2 := bk_cell HD.out.call 2
  have d3 := bk_cell HD.out.call 3
  have d4 := bk_cell HD.out.call 4
  have s0 : (0 : Int) ≤ (s : Int) := by omega
  have s1 : (s : Int) < 8 := by omega
  have t0 : (0 : Int) ≤ (d : Int) := by omega
  have t1 : (d : Int) < 8 := by omega
  have u0 : (0 : Int) ≤ (t : Int) := by omega
  have u1 : (t : Int) < 4 := by omega
  go_wp2_with fail
  refine (kref_derive K k e s t d (by omega) hs ht hd r _ HD.out.ker).mono ?_
  rintro x wd ⟨rfl, hk', ho'⟩
  replace HD := Lib.hid (HD.out.turned hk' ho')
  clear hk' ho' d1 d2 d3 d4
  go_wp2_with fail
  refine (kref_err (deriveE k e s t d r) _).mono ?_
  rintro x wt ⟨rfl, hb⟩
  have HT := Lib.hid (HD.out.later hb)
  clear hb
  have r0 := bk_cell HT.out.ans 0
  have r1 := bk_cell HT.out.ans 1
  have g0 := bk_free HT.out.ans 0
  have g1 := bk_free HT.out.ans 1
  unfold ansV
  go_wp2_with fail
  exact bodyPost_ret (v := .tuple #[.agg #[.int .i64 (deriveE k e s t d r), .int .u64 0], .bool true]) (by simp [results, Tryz.results13, go_sem, r0, r1]) rfl ⟨rfl, (HT.out.told _ _).1, (HT.out.told _ _).2⟩
end Go.Proofs.YtdfhfmdelinemaaGreatDoor
namespace Go.Proofs.YtdfhfmdelinemaaGreatDoor
open Go.RowKit Go.Extern.Stop Go.Stop Go.Extern Go.WalkArith
set_option maxRecDepth 100000 in
set_option maxHeartbeats 8000000 in
theorem kref_do_map (K : Nat) (k : KernS) (e : Nat) (p s : Nat) (r x4 : Int) (hp : p < 8) (hs : s < 8) (r0 : 1 ≤ r) (r3 : r ≤ 3) (he : (e : Int) < k.envs) (hk4 : k.envs ≤ 4) (hx : wordsIn 6 (p : Int) (s : Int) r x4) (hchk : chkN 6 (p : Int) (s : Int) r x4 k.envs = 0) (w : World) (h : KernIs w K k) :
  Calls Tryz.prog 13 #[.pointer (some ⟨K, 0, none⟩), .int .i64 (e : Int), callV 6 (p : Int) (s : Int) r x4] w fun x w' => x = .returned (ansV (mapE k e p s r) 0 true) ∧ KernIs w' K (mapS k e p s r) ∧ OnlyT K w w' := by
 have H := Lib.hid (DoAt.start h 6 (p : Int) (s : Int) r x4)
 obtain ⟨_, c1, _⟩ := h.sizes
 have lK := h.lt
 have HCK : Hid (∀ W, Calls Tryz.prog 50 #[callV 6 (p : Int) (s : Int) r x4, .int .i64 k.envs] W fun x w' => x = .returned (.int .i64 0) ∧ Below W.heap.size W w') := fun W => by
  have h := ref_Check_any 6 (p : Int) (s : Int) r x4 k.envs hx (by unfold intIn; omega) W
  rw [hchk] at h
  exact h
 clear h hchk
 go_enter Tryz.func13, Tryz.ntmps13
 have e0 : ¬ (e : Int) < 0 := by omega
 have e1 : ¬ k.envs ≤ (e : Int) := by omega
 go_wp2_with fail
 obtain ⟨w1, hw1⟩ : ∃ w1, w1 = (w.alloc (.cells #[.int .u64 6, .int .u64 (p : Int), .int .u64 (s : Int), .int .u64 r, .int .u64 x4] 36)).alloc (.cells #[.int .i64 0, .int .u64 0] 41) := ⟨_, rfl⟩
 obtain ⟨C, hC⟩ : ∃ C, C = w.heap.size := ⟨_, rfl⟩
 obtain ⟨R, hR⟩ : ∃ R, R = w.heap.size + 1 := ⟨_, rfl⟩
 rw [← hw1, ← hR, ← hC] at H
 rw [← hw1, ← hR, ← hC]
 clear hw1 hC hR c1
 have HD : Hid (DoAt w w1.drew K C R k 6 (p : Int) (s : Int) r x4) := H.out.drewN 1
 have hS : w1.drew.cell? ⟨C, 0, none⟩ = some (.int .u64 6) ∧ w1.drew.cell? ⟨C, 1, none⟩ = some (.int .u64 (p : Int)) ∧ w1.drew.cell? ⟨C, 2, none⟩ = some (.int .u64 (s : Int)) ∧ w1.drew.cell? ⟨C, 3, none⟩ = some (.int .u64 r) ∧ w1.drew.cell? ⟨C, 4, none⟩ = some (.int .u64 x4) ∧ w1.drew.cell? ⟨K, 1, none⟩ = some (.int .i64 k.envs) := HD.out.read
 clear H
 unfold callV at HCK
 go_region_held3 (fun w' => w'.cell? ⟨C, 0, none⟩ = some (.int .u64 6) ∧ w'.cell? ⟨C, 1, none⟩ = some (.int .u64 (p : Int)) ∧ w'.cell? ⟨C, 2, none⟩ = some (.int .u64 (s : Int)) ∧ w'.cell? ⟨C, 3, none⟩ = some (.int .u64 r) ∧ w'.cell? ⟨C, 4, none⟩ = some (.int .u64 x4) ∧ w'.cell? ⟨K, 1, none⟩ = some (.int .i64 k.envs)) (exact hS)
  ((go_at_call 50; refine (HCK.out _).mono ?_; rintro x wn ⟨rfl, hb⟩; replace HD := Lib.hid (HD.out.later hb); have hS : wn.cell? ⟨C, 0, none⟩ = some (.int .u64 6) ∧ wn.cell? ⟨C, 1, none⟩ = some (.int .u64 (p : Int)) ∧ wn.cell? ⟨C, 2, none⟩ = some (.int .u64 (s : Int)) ∧ wn.cell? ⟨C, 3, none⟩ = some (.int .u64 r) ∧ wn.cell? ⟨C, 4, none⟩ = some (.int .u64 x4) ∧ wn.cell? ⟨K, 1, none⟩ = some (.int .i64 k.envs) := HD.out.read; clear hb))
 all_goals
  have d0 := bk_cell HD.out.call 0
  have d1 := bk_cell HD.out.call 1
  have d2 := bk_cell HD.out.call 2
  have d3 := bk_cell HD.out.call 3
  have d4 := bk_cell HD.out.call 4
  clear hS
  go_wp2_with fail
  refine (Kind_is 6 (p : Int) (s : Int) r x4 (by decide) _).mono ?_
  rintro x wk ⟨rfl, hb⟩
  replace HD := Lib.hid (HD.out.later hb)
  clear hb d0 d1 d2 d3 d4
  have d0 := bk_cell HD.out.call 0
  have d1 := bk_cell HD.out.call 1
  have d2 := bk_cell HD.out.call 2
  have d3 := bk_cell HD.out.call 3
  have d4 := bk_cell HD.out.call 4
  go_wp2_with fail
  refine (kref_map K k e p s (by omega) hp hs r 6 x4 (by omega) r3 _ HD.out.ker).mono ?_
  rintro x wd ⟨rfl, hk', ho'⟩
  replace HD := Lib.hid (HD.out.turned hk' ho')
  clear hk' ho' d0 d1 d2 d3 d4
  go_wp2_with fail
  refine (kref_err (mapE k e p s r) _).mono ?_
  rintro x wt ⟨rfl, hb⟩
  have HT := Lib.hid (HD.out.later hb)
  clear hb
  have r0 := bk_cell HT.out.ans 0
  have r1 := bk_cell HT.out.ans 1
  have g0 := bk_free HT.out.ans 0
  have g1 := bk_free HT.out.ans 1
  unfold ansV
  go_wp2_with fail
  exact bodyPost_ret (v := .tuple #[.agg #[.int .i64 (mapE k e p s r), .int .u64 0], .bool true]) (by simp [results, Tryz.results13, go_sem, r0, r1]) rfl ⟨rfl, (HT.out.told _ _).1, (HT.out.told _ _).2⟩
set_option maxRecDepth 100000 in
set_option maxHeartbeats 8000000 in
theorem kref_do_unmap (K : Nat) (k : KernS) (e : Nat) (p : Nat) (x2 x3 x4 : Int) (hp : p < 8) (he : (e : Int) < k.envs) (hk4 : k.envs ≤ 4) (hx : wordsIn 7 (p : Int) x2 x3 x4) (hchk : chkN 7 (p : Int) x2 x3 x4 k.envs = 0) (w : World) (h : KernIs w K k) :
  Calls Tryz.prog 13 #[.pointer (some ⟨K, 0, none⟩), .int .i64 (e : Int), callV 7 (p : Int) x2 x3 x4] w fun x w' => x = .returned (ansV (unmapE k e p) 0 true) ∧ KernIs w' K (unmapS k e p) ∧ OnlyT K w w' := by
 have H := Lib.hid (DoAt.start h 7 (p : Int) x2 x3 x4)
 obtain ⟨_, c1, _⟩ := h.sizes
 have lK := h.lt
 have HCK : Hid (∀ W, Calls Tryz.prog 50 #[callV 7 (p : Int) x2 x3 x4, .int .i64 k.envs] W fun x w' => x = .returned (.int .i64 0) ∧ Below W.heap.size W w') := fun W => by
  have h := ref_Check_any 7 (p : Int) x2 x3 x4 k.envs hx (by unfold intIn; omega) W
  rw [hchk] at h
  exact h
 clear h hchk
 go_enter Tryz.func13, Tryz.ntmps13
 have e0 : ¬ (e : Int) < 0 := by omega
 have e1 : ¬ k.envs ≤ (e : Int) := by omega
 go_wp2_with fail
 obtain ⟨w1, hw1⟩ : ∃ w1, w1 = (w.alloc (.cells #[.int .u64 7, .int .u64 (p : Int), .int .u64 x2, .int .u64 x3, .int .u64 x4] 36)).alloc (.cells #[.int .i64 0, .int .u64 0] 41) := ⟨_, rfl⟩
 obtain ⟨C, hC⟩ : ∃ C, C = w.heap.size := ⟨_, rfl⟩
 obtain ⟨R, hR⟩ : ∃ R, R = w.heap.size + 1 := ⟨_, rfl⟩
 rw [← hw1, ← hR, ← hC] at H
 rw [← hw1, ← hR, ← hC]
 clear hw1 hC hR c1
 have HD : Hid (DoAt w w1.drew K C R k 7 (p : Int) x2 x3 x4) := H.out.drewN 1
 have hS : w1.drew.cell? ⟨C, 0, none⟩ = some (.int .u64 7) ∧ w1.drew.cell? ⟨C, 1, none⟩ = some (.int .u64 (p : Int)) ∧ w1.drew.cell? ⟨C, 2, none⟩ = some (.int .u64 x2) ∧ w1.drew.cell? ⟨C, 3, none⟩ = some (.int .u64 x3) ∧ w1.drew.cell? ⟨C, 4, none⟩ = some (.int .u64 x4) ∧ w1.drew.cell? ⟨K, 1, none⟩ = some (.int .i64 k.envs) := HD.out.read
 clear H
 unfold callV at HCK
 go_region_held3 (fun w' => w'.cell? ⟨C, 0, none⟩ = some (.int .u64 7) ∧ w'.cell? ⟨C, 1, none⟩ = some (.int .u64 (p : Int)) ∧ w'.cell? ⟨C, 2, none⟩ = some (.int .u64 x2) ∧ w'.cell? ⟨C, 3, none⟩ = some (.int .u64 x3) ∧ w'.cell? ⟨C, 4, none⟩ = some (.int .u64 x4) ∧ w'.cell? ⟨K, 1, none⟩ = some (.int .i64 k.envs)) (exact hS)
  ((go_at_call 50; refine (HCK.out _).mono ?_; rintro x wn ⟨rfl, hb⟩; replace HD := Lib.hid (HD.out.later hb); have hS : wn.cell? ⟨C, 0, none⟩ = some (.int .u64 7) ∧ wn.cell? ⟨C, 1, none⟩ = some (.int .u64 (p : Int)) ∧ wn.cell? ⟨C, 2, none⟩ = some (.int .u64 x2) ∧ wn.cell? ⟨C, 3, none⟩ = some (.int .u64 x3) ∧ wn.cell? ⟨C, 4, none⟩ = some (.int .u64 x4) ∧ wn.cell? ⟨K, 1, none⟩ = some (.int .i64 k.envs) := HD.out.read; clear hb))
 all_goals
  have d0 := bk_cell HD.out.call 0
  have d1 := bk_cell HD.out.call 1
  have d2 := bk_cell HD.out.call 2
  have d3 := bk_cell HD.out.call 3
  have d4 := bk_cell HD.out.call 4
  clear hS
  go_wp2_with fail
  refine (Kind_is 7 (p : Int) x2 x3 x4 (by decide) _).mono ?_
  rintro x wk ⟨rfl, hb⟩
  replace HD := Lib.hid (HD.out.later hb)
  clear hb d0 d1 d2 d3 d4
  have d0 := bk_cell HD.out.call 0
  have d1 := bk_cell HD.out.call 1
  have d2 := bk_cell HD.out.call 2
  have d3 := bk_cell HD.out.call 3
  have d4 := bk_cell HD.out.call 4
  go_wp2_with fail
  refine (kref_unmap K k e p (by omega) hp 7 x2 x3 x4 _ HD.out.ker).mono ?_
  rintro x wd ⟨rfl, hk', ho'⟩
  replace HD := Lib.hid (HD.out.turned hk' ho')
  clear hk' ho' d0 d1 d2 d3 d4
  go_wp2_with fail
  refine (kref_err (unmapE k e p) _).mono ?_
  rintro x wt ⟨rfl, hb⟩
  have HT := Lib.hid (HD.out.later hb)
  clear hb
  have r0 := bk_cell HT.out.ans 0
  have r1 := bk_cell HT.out.ans 1
  have g0 := bk_free HT.out.ans 0
  have g1 := bk_free HT.out.ans 1
  unfold ansV
  go_wp2_with fail
  exact bodyPost_ret (v := .tuple #[.agg #[.int .i64 (unmapE k e p), .int .u64 0], .bool true]) (by simp [results, Tryz.results13, go_sem, r0, r1]) rfl ⟨rfl, (HT.out.told _ _).1, (HT.out.told _ _).2⟩
set_option maxRecDepth 100000 in
set_option maxHeartbeats 8000000 in
theorem kref_do_protect (K : Nat) (k : KernS) (e : Nat) (p : Nat) (r x3 x4 : Int) (hp : p < 8) (hy : ¬ (k.pt e p).rights = 0 → 0 ≤ (k.pt e p).slot ∧ (k.pt e p).slot < 8) (r0 : 1 ≤ r) (r3 : r ≤ 3) (he : (e : Int) < k.envs) (hk4 : k.envs ≤ 4) (hx : wordsIn 8 (p : Int) r x3 x4) (hchk : chkN 8 (p : Int) r x3 x4 k.envs = 0) (w : World) (h : KernIs w K k) :
  Calls Tryz.prog 13 #[.pointer (some ⟨K, 0, none⟩), .int .i64 (e : Int), callV 8 (p : Int) r x3 x4] w fun x w' => x = .returned (ansV (protE k e p r) 0 true) ∧ KernIs w' K (protS k e p r) ∧ OnlyT K w w' := by
 have H := Lib.hid (DoAt.start h 8 (p : Int) r x3 x4)
 obtain ⟨_, c1, _⟩ := h.sizes
 have lK := h.lt
 have HCK : Hid (∀ W, Calls Tryz.prog 50 #[callV 8 (p : Int) r x3 x4, .int .i64 k.envs] W fun x w' => x = .returned (.int .i64 0) ∧ Below W.heap.size W w') := fun W => by
  have h := ref_Check_any 8 (p : Int) r x3 x4 k.envs hx (by unfold intIn; omega) W
  rw [hchk] at h
  exact h
 clear h hchk
 go_enter Tryz.func13, Tryz.ntmps13
 have e0 : ¬ (e : Int) < 0 := by omega
 have e1 : ¬ k.envs ≤ (e : Int) := by omega
 go_wp2_with fail
 obtain ⟨w1, hw1⟩ : ∃ w1, w1 = (w.alloc (.cells #[.int .u64 8, .int .u64 (p : Int), .int .u64 r, .int .u64 x3, .int .u64 x4] 36)).alloc (.cells #[.int .i64 0, .int .u64 0] 41) := ⟨_, rfl⟩
 obtain ⟨C, hC⟩ : ∃ C, C = w.heap.size := ⟨_, rfl⟩
 obtain ⟨R, hR⟩ : ∃ R, R = w.heap.size + 1 := ⟨_, rfl⟩
 rw [← hw1, ← hR, ← hC] at H
 rw [← hw1, ← hR, ← hC]
 clear hw1 hC hR c1
 have HD : Hid (DoAt w w1.drew K C R k 8 (p : Int) r x3 x4) := H.out.drewN 1
 have hS : w1.drew.cell? ⟨C, 0, none⟩ = some (.int .u64 8) ∧ w1.drew.cell? ⟨C, 1, none⟩ = some (.int .u64 (p : Int)) ∧ w1.drew.cell? ⟨C, 2, none⟩ = some (.int .u64 r) ∧ w1.drew.cell? ⟨C, 3, none⟩ = some (.int .u64 x3) ∧ w1.drew.cell? ⟨C, 4, none⟩ = some (.int .u64 x4) ∧ w1.drew.cell? ⟨K, 1, none⟩ = some (.int .i64 k.envs) := HD.out.read
 clear H
 unfold callV at HCK
 go_region_held3 (fun w' => w'.cell? ⟨C, 0, none⟩ = some (.int .u64 8) ∧ w'.cell? ⟨C, 1, none⟩ = some (.int .u64 (p : Int)) ∧ w'.cell? ⟨C, 2, none⟩ = some (.int .u64 r) ∧ w'.cell? ⟨C, 3, none⟩ = some (.int .u64 x3) ∧ w'.cell? ⟨C, 4, none⟩ = some (.int .u64 x4) ∧ w'.cell? ⟨K, 1, none⟩ = some (.int .i64 k.envs)) (exact hS)
  ((go_at_call 50; refine (HCK.out _).mono ?_; rintro x wn ⟨rfl, hb⟩; replace HD := Lib.hid (HD.out.later hb); have hS : wn.cell? ⟨C, 0, none⟩ = some (.int .u64 8) ∧ wn.cell? ⟨C, 1, none⟩ = some (.int .u64 (p : Int)) ∧ wn.cell? ⟨C, 2, none⟩ = some (.int .u64 r) ∧ wn.cell? ⟨C, 3, none⟩ = some (.int .u64 x3) ∧ wn.cell? ⟨C, 4, none⟩ = some (.int .u64 x4) ∧ wn.cell? ⟨K, 1, none⟩ = some (.int .i64 k.envs) := HD.out.read; clear hb))
 all_goals
  have d0 := bk_cell HD.out.call 0
  have d1 := bk_cell HD.out.call 1
  have d2 := bk_cell HD.out.call 2
  have d3 := bk_cell HD.out.call 3
  have d4 := bk_cell HD.out.call 4
  clear hS
  go_wp2_with fail
  refine (Kind_is 8 (p : Int) r x3 x4 (by decide) _).mono ?_
  rintro x wk ⟨rfl, hb⟩
  replace HD := Lib.hid (HD.out.later hb)
  clear hb d0 d1 d2 d3 d4
  have d0 := bk_cell HD.out.call 0
  have d1 := bk_cell HD.out.call 1
  have d2 := bk_cell HD.out.call 2
  have d3 := bk_cell HD.out.call 3
  have d4 := bk_cell HD.out.call 4
  go_wp2_with fail
  refine (kref_protect K k e p (by omega) hp hy r 8 x3 x4 (by omega) r3 _ HD.out.ker).mono ?_
  rintro x wd ⟨rfl, hk', ho'⟩
  replace HD := Lib.hid (HD.out.turned hk' ho')
  clear hk' ho' d0 d1 d2 d3 d4
  go_wp2_with fail
  refine (kref_err (protE k e p r) _).mono ?_
  rintro x wt ⟨rfl, hb⟩
  have HT := Lib.hid (HD.out.later hb)
  clear hb
  have r0 := bk_cell HT.out.ans 0
  have r1 := bk_cell HT.out.ans 1
  have g0 := bk_free HT.out.ans 0
  have g1 := bk_free HT.out.ans 1
  unfold ansV
  go_wp2_with fail
  exact bodyPost_ret (v := .tuple #[.agg #[.int .i64 (protE k e p r), .int .u64 0], .bool true]) (by simp [results, Tryz.results13, go_sem, r0, r1]) rfl ⟨rfl, (HT.out.told _ _).1, (HT.out.told _ _).2⟩
set_option maxRecDepth 100000 in
set_option maxHeartbeats 8000000 in
theorem kref_do_user20_no (K : Nat) (k : KernS) (e : Nat) (p a : Nat) (x3 x4 : Int) (hp : p < 8) (hlet : withinB (needN 20) (k.pt e p).rights = false) (he : (e : Int) < k.envs) (hk4 : k.envs ≤ 4) (hx : wordsIn 20 (p : Int) (a : Int) x3 x4) (hchk : chkN 20 (p : Int) (a : Int) x3 x4 k.envs = 0) (w : World) (h : KernIs w K k) :
  Calls Tryz.prog 13 #[.pointer (some ⟨K, 0, none⟩), .int .i64 (e : Int), callV 20 (p : Int) (a : Int) x3 x4] w fun x w' => x = .returned (ansV 7 0 true) ∧ KernIs w' K (k) ∧ OnlyT K w w' := by
 have H := Lib.hid (DoAt.start h 20 (p : Int) (a : Int) x3 x4)
 obtain ⟨_, c1, _⟩ := h.sizes
 have lK := h.lt
 have HCK : Hid (∀ W, Calls Tryz.prog 50 #[callV 20 (p : Int) (a : Int) x3 x4, .int .i64 k.envs] W fun x w' => x = .returned (.int .i64 0) ∧ Below W.heap.size W w') := fun W => by
  have h := ref_Check_any 20 (p : Int) (a : Int) x3 x4 k.envs hx (by unfold intIn; omega) W
  rw [hchk] at h
  exact h
 clear h hchk
 go_enter Tryz.func13, Tryz.ntmps13
 have e0 : ¬ (e : Int) < 0 := by omega
 have e1 : ¬ k.envs ≤ (e : Int) := by omega
 go_wp2_with fail
 obtain ⟨w1, hw1⟩ : ∃ w1, w1 = (w.alloc (.cells #[.int .u64 20, .int .u64 (p : Int), .int .u64 (a : Int), .int .u64 x3, .int .u64 x4] 36)).alloc (.cells #[.int .i64 0, .int .u64 0] 41) := ⟨_, rfl⟩
 obtain ⟨C, hC⟩ : ∃ C, C = w.heap.size := ⟨_, rfl⟩
 obtain ⟨R, hR⟩ : ∃ R, R = w.heap.size + 1 := ⟨_, rfl⟩
 rw [← hw1, ← hR, ← hC] at H
 rw [← hw1, ← hR, ← hC]
 clear hw1 hC hR c1
 have HD : Hid (DoAt w w1.drew K C R k 20 (p : Int) (a : Int) x3 x4) := H.out.drewN 1
 have hS : w1.drew.cell? ⟨C, 0, none⟩ = some (.int .u64 20) ∧ w1.drew.cell? ⟨C, 1, none⟩ = some (.int .u64 (p : Int)) ∧ w1.drew.cell? ⟨C, 2, none⟩ = some (.int .u64 (a : Int)) ∧ w1.drew.cell? ⟨C, 3, none⟩ = some (.int .u64 x3) ∧ w1.drew.cell? ⟨C, 4, none⟩ = some (.int .u64 x4) ∧ w1.drew.cell? ⟨K, 1, none⟩ = some (.int .i64 k.envs) := HD.out.read
 clear H
 unfold callV at HCK
 go_region_held3 (fun w' => w'.cell? ⟨C, 0, none⟩ = some (.int .u64 20) ∧ w'.cell? ⟨C, 1, none⟩ = some (.int .u64 (p : Int)) ∧ w'.cell? ⟨C, 2, none⟩ = some (.int .u64 (a : Int)) ∧ w'.cell? ⟨C, 3, none⟩ = some (.int .u64 x3) ∧ w'.cell? ⟨C, 4, none⟩ = some (.int .u64 x4) ∧ w'.cell? ⟨K, 1, none⟩ = some (.int .i64 k.envs)) (exact hS)
  ((go_at_call 50; refine (HCK.out _).mono ?_; rintro x wn ⟨rfl, hb⟩; replace HD := Lib.hid (HD.out.later hb); have hS : wn.cell? ⟨C, 0, none⟩ = some (.int .u64 20) ∧ wn.cell? ⟨C, 1, none⟩ = some (.int .u64 (p : Int)) ∧ wn.cell? ⟨C, 2, none⟩ = some (.int .u64 (a : Int)) ∧ wn.cell? ⟨C, 3, none⟩ = some (.int .u64 x3) ∧ wn.cell? ⟨C, 4, none⟩ = some (.int .u64 x4) ∧ wn.cell? ⟨K, 1, none⟩ = some (.int .i64 k.envs) := HD.out.read; clear hb))
 all_goals
  have d0 := bk_cell HD.out.call 0
  have d1 := bk_cell HD.out.call 1
  have d2 := bk_cell HD.out.call 2
  have d3 := bk_cell HD.out.call 3
  have d4 := bk_cell HD.out.call 4
  clear hS
  go_wp2_with fail
  refine (Kind_is 20 (p : Int) (a : Int) x3 x4 (by decide) _).mono ?_
  rintro x wk ⟨rfl, hb⟩
  replace HD := Lib.hid (HD.out.later hb)
  clear hb d0 d1 d2 d3 d4
  have d1 := bk_cell HD.out.call 1
  obtain ⟨c0, c1, c2⟩ := HD.out.ker.pte (show e < 4 by omega) hp
  have lC := bk_lt HD.out.call
  have lK2 := HD.out.ker.lt
  have p0 : (0 : Int) ≤ (p : Int) := by omega
  have p1 : (p : Int) < 8 := by omega
  have e2 : (0 : Int) ≤ (e : Int) := by omega
  have e3 : (e : Int) < 4 := by omega
  go_wp2_with fail
  go_region
  obtain ⟨A, hA⟩ : ∃ A, A = wk.heap.size := ⟨_, rfl⟩
  obtain ⟨w3, hw3⟩ : ∃ w3, w3 = (wk.alloc (.cells #[.int .i64 (k.pt e p).frame, .int .i64 (k.pt e p).slot, .int .i64 (k.pt e p).rights] 83)).drew := ⟨_, rfl⟩
  have hb : Below wk.heap.size wk w3 := by rw [hw3]; exact (Below.refl _ _).alloc (Nat.le_refl _) _ |>.drew
  have HA : Hid (w3.heap[A]? = some (.cells #[.int .i64 (k.pt e p).frame, .int .i64 (k.pt e p).slot, .int .i64 (k.pt e p).rights] 83 (0, 0))) := by rw [hw3, hA]; exact heap_alloc_new wk _
  replace HD := Lib.hid (HD.out.later hb)
  rw [← hw3, ← hA]
  clear hw3 hA hb
  clear lC lK2 c0 c1 c2 d1
  have a2 := bk_cell HA.out 2
  have HLT := ref_lets_any (k.pt e p).rights 20 w3
  rw [hlet] at HLT
  clear hlet
  go_wp2_with fail
  refine HLT.mono ?_
  rintro x wl ⟨rfl, rfl⟩
  clear HLT
  go_wp2_with fail
  refine (kref_err 7 _).mono ?_
  rintro x wt ⟨rfl, hb⟩
  have HT := Lib.hid (HD.out.later hb)
  clear hb
  have r0 := bk_cell HT.out.ans 0
  have r1 := bk_cell HT.out.ans 1
  have g0 := bk_free HT.out.ans 0
  have g1 := bk_free HT.out.ans 1
  unfold ansV
  go_wp2_with fail
  exact bodyPost_ret (v := .tuple #[.agg #[.int .i64 7, .int .u64 0], .bool true]) (by simp [results, Tryz.results13, go_sem, r0, r1]) rfl ⟨rfl, (HT.out.told _ _).1, (HT.out.told _ _).2⟩
set_option maxRecDepth 100000 in
set_option maxHeartbeats 8000000 in
theorem kref_do_user20 (K : Nat) (k : KernS) (e : Nat) (p a : Nat) (x3 x4 : Int) (hp : p < 8) (ha : a < 16) (hlet : withinB (needN 20) (k.pt e p).rights = true) (f : Nat) (hf : f < 16) (hfr : (k.pt e p).frame = (f : Int)) (he : (e : Int) < k.envs) (hk4 : k.envs ≤ 4) (hx : wordsIn 20 (p : Int) (a : Int) x3 x4) (hchk : chkN 20 (p : Int) (a : Int) x3 x4 k.envs = 0) (w : World) (h : KernIs w K k) :
  Calls Tryz.prog 13 #[.pointer (some ⟨K, 0, none⟩), .int .i64 (e : Int), callV 20 (p : Int) (a : Int) x3 x4] w fun x w' => x = .returned (ansV 0 (wordT k f a 20) true) ∧ KernIs w' K (wordS k f a 20 x3 x4) ∧ OnlyT K w w' := by
 have HFR := Lib.hid hfr
 clear hfr
 have H := Lib.hid (DoAt.start h 20 (p : Int) (a : Int) x3 x4)
 obtain ⟨_, c1, _⟩ := h.sizes
 have lK := h.lt
 have HCK : Hid (∀ W, Calls Tryz.prog 50 #[callV 20 (p : Int) (a : Int) x3 x4, .int .i64 k.envs] W fun x w' => x = .returned (.int .i64 0) ∧ Below W.heap.size W w') := fun W => by
  have h := ref_Check_any 20 (p : Int) (a : Int) x3 x4 k.envs hx (by unfold intIn; omega) W
  rw [hchk] at h
  exact h
 clear h hchk
 go_enter Tryz.func13, Tryz.ntmps13
 have e0 : ¬ (e : Int) < 0 := by omega
 have e1 : ¬ k.envs ≤ (e : Int) := by omega
 go_wp2_with fail
 obtain ⟨w1, hw1⟩ : ∃ w1, w1 = (w.alloc (.cells #[.int .u64 20, .int .u64 (p : Int), .int .u64 (a : Int), .int .u64 x3, .int .u64 x4] 36)).alloc (.cells #[.int .i64 0, .int .u64 0] 41) := ⟨_, rfl⟩
 obtain ⟨C, hC⟩ : ∃ C, C = w.heap.size := ⟨_, rfl⟩
 obtain ⟨R, hR⟩ : ∃ R, R = w.heap.size + 1 := ⟨_, rfl⟩
 rw [← hw1, ← hR, ← hC] at H
 rw [← hw1, ← hR, ← hC]
 clear hw1 hC hR c1
 have HD : Hid (DoAt w w1.drew K C R k 20 (p : Int) (a : Int) x3 x4) := H.out.drewN 1
 have hS : w1.drew.cell? ⟨C, 0, none⟩ = some (.int .u64 20) ∧ w1.drew.cell? ⟨C, 1, none⟩ = some (.int .u64 (p : Int)) ∧ w1.drew.cell? ⟨C, 2, none⟩ = some (.int .u64 (a : Int)) ∧ w1.drew.cell? ⟨C, 3, none⟩ = some (.int .u64 x3) ∧ w1.drew.cell? ⟨C, 4, none⟩ = some (.int .u64 x4) ∧ w1.drew.cell? ⟨K, 1, none⟩ = some (.int .i64 k.envs) := HD.out.read
 clear H
 unfold callV at HCK
 go_region_held3 (fun w' => w'.cell? ⟨C, 0, none⟩ = some (.int .u64 20) ∧ w'.cell? ⟨C, 1, none⟩ = some (.int .u64 (p : Int)) ∧ w'.cell? ⟨C, 2, none⟩ = some (.int .u64 (a : Int)) ∧ w'.cell? ⟨C, 3, none⟩ = some (.int .u64 x3) ∧ w'.cell? ⟨C, 4, none⟩ = some (.int .u64 x4) ∧ w'.cell? ⟨K, 1, none⟩ = some (.int .i64 k.envs)) (exact hS)
  ((go_at_call 50; refine (HCK.out _).mono ?_; rintro x wn ⟨rfl, hb⟩; replace HD := Lib.hid (HD.out.later hb); have hS : wn.cell? ⟨C, 0, none⟩ = some (.int .u64 20) ∧ wn.cell? ⟨C, 1, none⟩ = some (.int .u64 (p : Int)) ∧ wn.cell? ⟨C, 2, none⟩ = some (.int .u64 (a : Int)) ∧ wn.cell? ⟨C, 3, none⟩ = some (.int .u64 x3) ∧ wn.cell? ⟨C, 4, none⟩ = some (.int .u64 x4) ∧ wn.cell? ⟨K, 1, none⟩ = some (.int .i64 k.envs) := HD.out.read; clear hb))
 all_goals
  have d0 := bk_cell HD.out.call 0
  have d1 := bk_cell HD.out.call 1
  have d2 := bk_cell HD.out.call 2
  have d3 := bk_cell HD.out.call 3
  have d4 := bk_cell HD.out.call 4
  clear hS
  go_wp2_with fail
  refine (Kind_is 20 (p : Int) (a : Int) x3 x4 (by decide) _).mono ?_
  rintro x wk ⟨rfl, hb⟩
  replace HD := Lib.hid (HD.out.later hb)
  clear hb d0 d1 d2 d3 d4
  have d1 := bk_cell HD.out.call 1
  obtain ⟨c0, c1, c2⟩ := HD.out.ker.pte (show e < 4 by omega) hp
  have lC := bk_lt HD.out.call
  have lK2 := HD.out.ker.lt
  have p0 : (0 : Int) ≤ (p : Int) := by omega
  have p1 : (p : Int) < 8 := by omega
  have e2 : (0 : Int) ≤ (e : Int) := by omega
  have e3 : (e : Int) < 4 := by omega
  go_wp2_with fail
  go_region
  obtain ⟨A, hA⟩ : ∃ A, A = wk.heap.size := ⟨_, rfl⟩
  obtain ⟨w3, hw3⟩ : ∃ w3, w3 = (wk.alloc (.cells #[.int .i64 (k.pt e p).frame, .int .i64 (k.pt e p).slot, .int .i64 (k.pt e p).rights] 83)).drew := ⟨_, rfl⟩
  have hb : Below wk.heap.size wk w3 := by rw [hw3]; exact (Below.refl _ _).alloc (Nat.le_refl _) _ |>.drew
  have HA : Hid (w3.heap[A]? = some (.cells #[.int .i64 (k.pt e p).frame, .int .i64 (k.pt e p).slot, .int .i64 (k.pt e p).rights] 83 (0, 0))) := by rw [hw3, hA]; exact heap_alloc_new wk _
  replace HD := Lib.hid (HD.out.later hb)
  rw [← hw3, ← hA]
  clear hw3 hA hb
  clear lC lK2 c0 c1 c2 d1
  have a2 := bk_cell HA.out 2
  have HLT := ref_lets_any (k.pt e p).rights 20 w3
  rw [hlet] at HLT
  clear hlet
  go_wp2_with fail
  refine HLT.mono ?_
  rintro x wl ⟨rfl, rfl⟩
  clear HLT
  have a0 := bk_cell HA.out 0
  rw [HFR.out] at a0
  have d0 := bk_cell HD.out.call 0
  have d1 := bk_cell HD.out.call 1
  have d2 := bk_cell HD.out.call 2
  have d3 := bk_cell HD.out.call 3
  have d4 := bk_cell HD.out.call 4
  go_wp2_with fail
  refine (kref_word K k f a hf ha 20 20 (p : Int) x3 x4 _ HD.out.ker).mono ?_
  rintro x wd ⟨rfl, hk', ho'⟩
  replace HD := Lib.hid (HD.out.turned hk' ho')
  clear hk' ho' d0 d1 d2 d3 d4 a0 a2 HA
  have r0 := bk_cell HD.out.ans 0
  have r1 := bk_cell HD.out.ans 1
  have g0 := bk_free HD.out.ans 0
  have g1 := bk_free HD.out.ans 1
  go_wp2_with fail
  exact bodyPost_ret (v := .tuple #[.agg #[.int .i64 0, .int .u64 (wordT k f a 20)], .bool true]) (by simp [results, Tryz.results13, go_sem, r0, r1]) rfl ⟨rfl, (HD.out.told _ _).1, (HD.out.told _ _).2⟩
set_option maxRecDepth 100000 in
set_option maxHeartbeats 8000000 in
theorem kref_do_user21_no (K : Nat) (k : KernS) (e : Nat) (p a : Nat) (x3 x4 : Int) (hp : p < 8) (hlet : withinB (needN 21) (k.pt e p).rights = false) (he : (e : Int) < k.envs) (hk4 : k.envs ≤ 4) (hx : wordsIn 21 (p : Int) (a : Int) x3 x4) (hchk : chkN 21 (p : Int) (a : Int) x3 x4 k.envs = 0) (w : World) (h : KernIs w K k) :
  Calls Tryz.prog 13 #[.pointer (some ⟨K, 0, none⟩), .int .i64 (e : Int), callV 21 (p : Int) (a : Int) x3 x4] w fun x w' => x = .returned (ansV 7 0 true) ∧ KernIs w' K (k) ∧ OnlyT K w w' := by
 have H := Lib.hid (DoAt.start h 21 (p : Int) (a : Int) x3 x4)
 obtain ⟨_, c1, _⟩ := h.sizes
 have lK := h.lt
 have HCK : Hid (∀ W, Calls Tryz.prog 50 #[callV 21 (p : Int) (a : Int) x3 x4, .int .i64 k.envs] W fun x w' => x = .returned (.int .i64 0) ∧ Below W.heap.size W w') := fun W => by
  have h := ref_Check_any 21 (p : Int) (a : Int) x3 x4 k.envs hx (by unfold intIn; omega) W
  rw [hchk] at h
  exact h
 clear h hchk
 go_enter Tryz.func13, Tryz.ntmps13
 have e0 : ¬ (e : Int) < 0 := by omega
 have e1 : ¬ k.envs ≤ (e : Int) := by omega
 go_wp2_with fail
 obtain ⟨w1, hw1⟩ : ∃ w1, w1 = (w.alloc (.cells #[.int .u64 21, .int .u64 (p : Int), .int .u64 (a : Int), .int .u64 x3, .int .u64 x4] 36)).alloc (.cells #[.int .i64 0, .int .u64 0] 41) := ⟨_, rfl⟩
 obtain ⟨C, hC⟩ : ∃ C, C = w.heap.size := ⟨_, rfl⟩
 obtain ⟨R, hR⟩ : ∃ R, R = w.heap.size + 1 := ⟨_, rfl⟩
 rw [← hw1, ← hR, ← hC] at H
 rw [← hw1, ← hR, ← hC]
 clear hw1 hC hR c1
 have HD : Hid (DoAt w w1.drew K C R k 21 (p : Int) (a : Int) x3 x4) := H.out.drewN 1
 have hS : w1.drew.cell? ⟨C, 0, none⟩ = some (.int .u64 21) ∧ w1.drew.cell? ⟨C, 1, none⟩ = some (.int .u64 (p : Int)) ∧ w1.drew.cell? ⟨C, 2, none⟩ = some (.int .u64 (a : Int)) ∧ w1.drew.cell? ⟨C, 3, none⟩ = some (.int .u64 x3) ∧ w1.drew.cell? ⟨C, 4, none⟩ = some (.int .u64 x4) ∧ w1.drew.cell? ⟨K, 1, none⟩ = some (.int .i64 k.envs) := HD.out.read
 clear H
 unfold callV at HCK
 go_region_held3 (fun w' => w'.cell? ⟨C, 0, none⟩ = some (.int .u64 21) ∧ w'.cell? ⟨C, 1, none⟩ = some (.int .u64 (p : Int)) ∧ w'.cell? ⟨C, 2, none⟩ = some (.int .u64 (a : Int)) ∧ w'.cell? ⟨C, 3, none⟩ = some (.int .u64 x3) ∧ w'.cell? ⟨C, 4, none⟩ = some (.int .u64 x4) ∧ w'.cell? ⟨K, 1, none⟩ = some (.int .i64 k.envs)) (exact hS)
  ((go_at_call 50; refine (HCK.out _).mono ?_; rintro x wn ⟨rfl, hb⟩; replace HD := Lib.hid (HD.out.later hb); have hS : wn.cell? ⟨C, 0, none⟩ = some (.int .u64 21) ∧ wn.cell? ⟨C, 1, none⟩ = some (.int .u64 (p : Int)) ∧ wn.cell? ⟨C, 2, none⟩ = some (.int .u64 (a : Int)) ∧ wn.cell? ⟨C, 3, none⟩ = some (.int .u64 x3) ∧ wn.cell? ⟨C, 4, none⟩ = some (.int .u64 x4) ∧ wn.cell? ⟨K, 1, none⟩ = some (.int .i64 k.envs) := HD.out.read; clear hb))
 all_goals
  have d0 := bk_cell HD.out.call 0
  have d1 := bk_cell HD.out.call 1
  have d2 := bk_cell HD.out.call 2
  have d3 := bk_cell HD.out.call 3
  have d4 := bk_cell HD.out.call 4
  clear hS
  go_wp2_with fail
  refine (Kind_is 21 (p : Int) (a : Int) x3 x4 (by decide) _).mono ?_
  rintro x wk ⟨rfl, hb⟩
  replace HD := Lib.hid (HD.out.later hb)
  clear hb d0 d1 d2 d3 d4
  have d1 := bk_cell HD.out.call 1
  obtain ⟨c0, c1, c2⟩ := HD.out.ker.pte (show e < 4 by omega) hp
  have lC := bk_lt HD.out.call
  have lK2 := HD.out.ker.lt
  have p0 : (0 : Int) ≤ (p : Int) := by omega
  have p1 : (p : Int) < 8 := by omega
  have e2 : (0 : Int) ≤ (e : Int) := by omega
  have e3 : (e : Int) < 4 := by omega
  go_wp2_with fail
  go_region
  obtain ⟨A, hA⟩ : ∃ A, A = wk.heap.size := ⟨_, rfl⟩
  obtain ⟨w3, hw3⟩ : ∃ w3, w3 = (wk.alloc (.cells #[.int .i64 (k.pt e p).frame, .int .i64 (k.pt e p).slot, .int .i64 (k.pt e p).rights] 83)).drew := ⟨_, rfl⟩
  have hb : Below wk.heap.size wk w3 := by rw [hw3]; exact (Below.refl _ _).alloc (Nat.le_refl _) _ |>.drew
  have HA : Hid (w3.heap[A]? = some (.cells #[.int .i64 (k.pt e p).frame, .int .i64 (k.pt e p).slot, .int .i64 (k.pt e p).rights] 83 (0, 0))) := by rw [hw3, hA]; exact heap_alloc_new wk _
  replace HD := Lib.hid (HD.out.later hb)
  rw [← hw3, ← hA]
  clear hw3 hA hb
  clear lC lK2 c0 c1 c2 d1
  have a2 := bk_cell HA.out 2
  have HLT := ref_lets_any (k.pt e p).rights 21 w3
  rw [hlet] at HLT
  clear hlet
  go_wp2_with fail
  refine HLT.mono ?_
  rintro x wl ⟨rfl, rfl⟩
  clear HLT
  go_wp2_with fail
  refine (kref_err 7 _).mono ?_
  rintro x wt ⟨rfl, hb⟩
  have HT := Lib.hid (HD.out.later hb)
  clear hb
  have r0 := bk_cell HT.out.ans 0
  have r1 := bk_cell HT.out.ans 1
  have g0 := bk_free HT.out.ans 0
  have g1 := bk_free HT.out.ans 1
  unfold ansV
  go_wp2_with fail
  exact bodyPost_ret (v := .tuple #[.agg #[.int .i64 7, .int .u64 0], .bool true]) (by simp [results, Tryz.results13, go_sem, r0, r1]) rfl ⟨rfl, (HT.out.told _ _).1, (HT.out.told _ _).2⟩
set_option maxRecDepth 100000 in
set_option maxHeartbeats 8000000 in
theorem kref_do_user21 (K : Nat) (k : KernS) (e : Nat) (p a : Nat) (x3 x4 : Int) (hp : p < 8) (ha : a < 16) (hlet : withinB (needN 21) (k.pt e p).rights = true) (f : Nat) (hf : f < 16) (hfr : (k.pt e p).frame = (f : Int)) (he : (e : Int) < k.envs) (hk4 : k.envs ≤ 4) (hx : wordsIn 21 (p : Int) (a : Int) x3 x4) (hchk : chkN 21 (p : Int) (a : Int) x3 x4 k.envs = 0) (w : World) (h : KernIs w K k) :
  Calls Tryz.prog 13 #[.pointer (some ⟨K, 0, none⟩), .int .i64 (e : Int), callV 21 (p : Int) (a : Int) x3 x4] w fun x w' => x = .returned (ansV 0 (wordT k f a 21) true) ∧ KernIs w' K (wordS k f a 21 x3 x4) ∧ OnlyT K w w' := by
 have HFR := Lib.hid hfr
 clear hfr
 have H := Lib.hid (DoAt.start h 21 (p : Int) (a : Int) x3 x4)
 obtain ⟨_, c1, _⟩ := h.sizes
 have lK := h.lt
 have HCK : Hid (∀ W, Calls Tryz.prog 50 #[callV 21 (p : Int) (a : Int) x3 x4, .int .i64 k.envs] W fun x w' => x = .returned (.int .i64 0) ∧ Below W.heap.size W w') := fun W => by
  have h := ref_Check_any 21 (p : Int) (a : Int) x3 x4 k.envs hx (by unfold intIn; omega) W
  rw [hchk] at h
  exact h
 clear h hchk
 go_enter Tryz.func13, Tryz.ntmps13
 have e0 : ¬ (e : Int) < 0 := by omega
 have e1 : ¬ k.envs ≤ (e : Int) := by omega
 go_wp2_with fail
 obtain ⟨w1, hw1⟩ : ∃ w1, w1 = (w.alloc (.cells #[.int .u64 21, .int .u64 (p : Int), .int .u64 (a : Int), .int .u64 x3, .int .u64 x4] 36)).alloc (.cells #[.int .i64 0, .int .u64 0] 41) := ⟨_, rfl⟩
 obtain ⟨C, hC⟩ : ∃ C, C = w.heap.size := ⟨_, rfl⟩
 obtain ⟨R, hR⟩ : ∃ R, R = w.heap.size + 1 := ⟨_, rfl⟩
 rw [← hw1, ← hR, ← hC] at H
 rw [← hw1, ← hR, ← hC]
 clear hw1 hC hR c1
 have HD : Hid (DoAt w w1.drew K C R k 21 (p : Int) (a : Int) x3 x4) := H.out.drewN 1
 have hS : w1.drew.cell? ⟨C, 0, none⟩ = some (.int .u64 21) ∧ w1.drew.cell? ⟨C, 1, none⟩ = some (.int .u64 (p : Int)) ∧ w1.drew.cell? ⟨C, 2, none⟩ = some (.int .u64 (a : Int)) ∧ w1.drew.cell? ⟨C, 3, none⟩ = some (.int .u64 x3) ∧ w1.drew.cell? ⟨C, 4, none⟩ = some (.int .u64 x4) ∧ w1.drew.cell? ⟨K, 1, none⟩ = some (.int .i64 k.envs) := HD.out.read
 clear H
 unfold callV at HCK
 go_region_held3 (fun w' => w'.cell? ⟨C, 0, none⟩ = some (.int .u64 21) ∧ w'.cell? ⟨C, 1, none⟩ = some (.int .u64 (p : Int)) ∧ w'.cell? ⟨C, 2, none⟩ = some (.int .u64 (a : Int)) ∧ w'.cell? ⟨C, 3, none⟩ = some (.int .u64 x3) ∧ w'.cell? ⟨C, 4, none⟩ = some (.int .u64 x4) ∧ w'.cell? ⟨K, 1, none⟩ = some (.int .i64 k.envs)) (exact hS)
  ((go_at_call 50; refine (HCK.out _).mono ?_; rintro x wn ⟨rfl, hb⟩; replace HD := Lib.hid (HD.out.later hb); have hS : wn.cell? ⟨C, 0, none⟩ = some (.int .u64 21) ∧ wn.cell? ⟨C, 1, none⟩ = some (.int .u64 (p : Int)) ∧ wn.cell? ⟨C, 2, none⟩ = some (.int .u64 (a : Int)) ∧ wn.cell? ⟨C, 3, none⟩ = some (.int .u64 x3) ∧ wn.cell? ⟨C, 4, none⟩ = some (.int .u64 x4) ∧ wn.cell? ⟨K, 1, none⟩ = some (.int .i64 k.envs) := HD.out.read; clear hb))
 all_goals
  have d0 := bk_cell HD.out.call 0
  have d1 := bk_cell HD.out.call 1
  have d2 := bk_cell HD.out.call 2
  have d3 := bk_cell HD.out.call 3
  have d4 := bk_cell HD.out.call 4
  clear hS
  go_wp2_with fail
  refine (Kind_is 21 (p : Int) (a : Int) x3 x4 (by decide) _).mono ?_
  rintro x wk ⟨rfl, hb⟩
  replace HD := Lib.hid (HD.out.later hb)
  clear hb d0 d1 d2 d3 d4
  have d1 := bk_cell HD.out.call 1
  obtain ⟨c0, c1, c2⟩ := HD.out.ker.pte (show e < 4 by omega) hp
  have lC := bk_lt HD.out.call
  have lK2 := HD.out.ker.lt
  have p0 : (0 : Int) ≤ (p : Int) := by omega
  have p1 : (p : Int) < 8 := by omega
  have e2 : (0 : Int) ≤ (e : Int) := by omega
  have e3 : (e : Int) < 4 := by omega
  go_wp2_with fail
  go_region
  obtain ⟨A, hA⟩ : ∃ A, A = wk.heap.size := ⟨_, rfl⟩
  obtain ⟨w3, hw3⟩ : ∃ w3, w3 = (wk.alloc (.cells #[.int .i64 (k.pt e p).frame, .int .i64 (k.pt e p).slot, .int .i64 (k.pt e p).rights] 83)).drew := ⟨_, rfl⟩
  have hb : Below wk.heap.size wk w3 := by rw [hw3]; exact (Below.refl _ _).alloc (Nat.le_refl _) _ |>.drew
  have HA : Hid (w3.heap[A]? = some (.cells #[.int .i64 (k.pt e p).frame, .int .i64 (k.pt e p).slot, .int .i64 (k.pt e p).rights] 83 (0, 0))) := by rw [hw3, hA]; exact heap_alloc_new wk _
  replace HD := Lib.hid (HD.out.later hb)
  rw [← hw3, ← hA]
  clear hw3 hA hb
  clear lC lK2 c0 c1 c2 d1
  have a2 := bk_cell HA.out 2
  have HLT := ref_lets_any (k.pt e p).rights 21 w3
  rw [hlet] at HLT
  clear hlet
  go_wp2_with fail
  refine HLT.mono ?_
  rintro x wl ⟨rfl, rfl⟩
  clear HLT
  have a0 := bk_cell HA.out 0
  rw [HFR.out] at a0
  have d0 := bk_cell HD.out.call 0
  have d1 := bk_cell HD.out.call 1
  have d2 := bk_cell HD.out.call 2
  have d3 := bk_cell HD.out.call 3
  have d4 := bk_cell HD.out.call 4
  go_wp2_with fail
  refine (kref_word K k f a hf ha 21 21 (p : Int) x3 x4 _ HD.out.ker).mono ?_
  rintro x wd ⟨rfl, hk', ho'⟩
  replace HD := Lib.hid (HD.out.turned hk' ho')
  clear hk' ho' d0 d1 d2 d3 d4 a0 a2 HA
  have r0 := bk_cell HD.out.ans 0
  have r1 := bk_cell HD.out.ans 1
  have g0 := bk_free HD.out.ans 0
  have g1 := bk_free HD.out.ans 1
  go_wp2_with fail
  exact bodyPost_ret (v := .tuple #[.agg #[.int .i64 0, .int .u64 (wordT k f a 21)], .bool true]) (by simp [results, Tryz.results13, go_sem, r0, r1]) rfl ⟨rfl, (HD.out.told _ _).1, (HD.out.told _ _).2⟩
set_option maxRecDepth 100000 in
set_option maxHeartbeats 8000000 in
theorem kref_do_user22_no (K : Nat) (k : KernS) (e : Nat) (p a : Nat) (x3 x4 : Int) (hp : p < 8) (hlet : withinB (needN 22) (k.pt e p).rights = false) (he : (e : Int) < k.envs) (hk4 : k.envs ≤ 4) (hx : wordsIn 22 (p : Int) (a : Int) x3 x4) (hchk : chkN 22 (p : Int) (a : Int) x3 x4 k.envs = 0) (w : World) (h : KernIs w K k) :
  Calls Tryz.prog 13 #[.pointer (some ⟨K, 0, none⟩), .int .i64 (e : Int), callV 22 (p : Int) (a : Int) x3 x4] w fun x w' => x = .returned (ansV 7 0 true) ∧ KernIs w' K (k) ∧ OnlyT K w w' := by
 have H := Lib.hid (DoAt.start h 22 (p : Int) (a : Int) x3 x4)
 obtain ⟨_, c1, _⟩ := h.sizes
 have lK := h.lt
 have HCK : Hid (∀ W, Calls Tryz.prog 50 #[callV 22 (p : Int) (a : Int) x3 x4, .int .i64 k.envs] W fun x w' => x = .returned (.int .i64 0) ∧ Below W.heap.size W w') := fun W => by
  have h := ref_Check_any 22 (p : Int) (a : Int) x3 x4 k.envs hx (by unfold intIn; omega) W
  rw [hchk] at h
  exact h
 clear h hchk
 go_enter Tryz.func13, Tryz.ntmps13
 have e0 : ¬ (e : Int) < 0 := by omega
 have e1 : ¬ k.envs ≤ (e : Int) := by omega
 go_wp2_with fail
 obtain ⟨w1, hw1⟩ : ∃ w1, w1 = (w.alloc (.cells #[.int .u64 22, .int .u64 (p : Int), .int .u64 (a : Int), .int .u64 x3, .int .u64 x4] 36)).alloc (.cells #[.int .i64 0, .int .u64 0] 41) := ⟨_, rfl⟩
 obtain ⟨C, hC⟩ : ∃ C, C = w.heap.size := ⟨_, rfl⟩
 obtain ⟨R, hR⟩ : ∃ R, R = w.heap.size + 1 := ⟨_, rfl⟩
 rw [← hw1, ← hR, ← hC] at H
 rw [← hw1, ← hR, ← hC]
 clear hw1 hC hR c1
 have HD : Hid (DoAt w w1.drew K C R k 22 (p : Int) (a : Int) x3 x4) := H.out.drewN 1
 have hS : w1.drew.cell? ⟨C, 0, none⟩ = some (.int .u64 22) ∧ w1.drew.cell? ⟨C, 1, none⟩ = some (.int .u64 (p : Int)) ∧ w1.drew.cell? ⟨C, 2, none⟩ = some (.int .u64 (a : Int)) ∧ w1.drew.cell? ⟨C, 3, none⟩ = some (.int .u64 x3) ∧ w1.drew.cell? ⟨C, 4, none⟩ = some (.int .u64 x4) ∧ w1.drew.cell? ⟨K, 1, none⟩ = some (.int .i64 k.envs) := HD.out.read
 clear H
 unfold callV at HCK
 go_region_held3 (fun w' => w'.cell? ⟨C, 0, none⟩ = some (.int .u64 22) ∧ w'.cell? ⟨C, 1, none⟩ = some (.int .u64 (p : Int)) ∧ w'.cell? ⟨C, 2, none⟩ = some (.int .u64 (a : Int)) ∧ w'.cell? ⟨C, 3, none⟩ = some (.int .u64 x3) ∧ w'.cell? ⟨C, 4, none⟩ = some (.int .u64 x4) ∧ w'.cell? ⟨K, 1, none⟩ = some (.int .i64 k.envs)) (exact hS)
  ((go_at_call 50; refine (HCK.out _).mono ?_; rintro x wn ⟨rfl, hb⟩; replace HD := Lib.hid (HD.out.later hb); have hS : wn.cell? ⟨C, 0, none⟩ = some (.int .u64 22) ∧ wn.cell? ⟨C, 1, none⟩ = some (.int .u64 (p : Int)) ∧ wn.cell? ⟨C, 2, none⟩ = some (.int .u64 (a : Int)) ∧ wn.cell? ⟨C, 3, none⟩ = some (.int .u64 x3) ∧ wn.cell? ⟨C, 4, none⟩ = some (.int .u64 x4) ∧ wn.cell? ⟨K, 1, none⟩ = some (.int .i64 k.envs) := HD.out.read; clear hb))
 all_goals
  have d0 := bk_cell HD.out.call 0
  have d1 := bk_cell HD.out.call 1
  have d2 := bk_cell HD.out.call 2
  have d3 := bk_cell HD.out.call 3
  have d4 := bk_cell HD.out.call 4
  clear hS
  go_wp2_with fail
  refine (Kind_is 22 (p : Int) (a : Int) x3 x4 (by decide) _).mono ?_
  rintro x wk ⟨rfl, hb⟩
  replace HD := Lib.hid (HD.out.later hb)
  clear hb d0 d1 d2 d3 d4
  have d1 := bk_cell HD.out.call 1
  obtain ⟨c0, c1, c2⟩ := HD.out.ker.pte (show e < 4 by omega) hp
  have lC := bk_lt HD.out.call
  have lK2 := HD.out.ker.lt
  have p0 : (0 : Int) ≤ (p : Int) := by omega
  have p1 : (p : Int) < 8 := by omega
  have e2 : (0 : Int) ≤ (e : Int) := by omega
  have e3 : (e : Int) < 4 := by omega
  go_wp2_with fail
  go_region
  obtain ⟨A, hA⟩ : ∃ A, A = wk.heap.size := ⟨_, rfl⟩
  obtain ⟨w3, hw3⟩ : ∃ w3, w3 = (wk.alloc (.cells #[.int .i64 (k.pt e p).frame, .int .i64 (k.pt e p).slot, .int .i64 (k.pt e p).rights] 83)).drew := ⟨_, rfl⟩
  have hb : Below wk.heap.size wk w3 := by rw [hw3]; exact (Below.refl _ _).alloc (Nat.le_refl _) _ |>.drew
  have HA : Hid (w3.heap[A]? = some (.cells #[.int .i64 (k.pt e p).frame, .int .i64 (k.pt e p).slot, .int .i64 (k.pt e p).rights] 83 (0, 0))) := by rw [hw3, hA]; exact heap_alloc_new wk _
  replace HD := Lib.hid (HD.out.later hb)
  rw [← hw3, ← hA]
  clear hw3 hA hb
  clear lC lK2 c0 c1 c2 d1
  have a2 := bk_cell HA.out 2
  have HLT := ref_lets_any (k.pt e p).rights 22 w3
  rw [hlet] at HLT
  clear hlet
  go_wp2_with fail
  refine HLT.mono ?_
  rintro x wl ⟨rfl, rfl⟩
  clear HLT
  go_wp2_with fail
  refine (kref_err 7 _).mono ?_
  rintro x wt ⟨rfl, hb⟩
  have HT := Lib.hid (HD.out.later hb)
  clear hb
  have r0 := bk_cell HT.out.ans 0
  have r1 := bk_cell HT.out.ans 1
  have g0 := bk_free HT.out.ans 0
  have g1 := bk_free HT.out.ans 1
  unfold ansV
  go_wp2_with fail
  exact bodyPost_ret (v := .tuple #[.agg #[.int .i64 7, .int .u64 0], .bool true]) (by simp [results, Tryz.results13, go_sem, r0, r1]) rfl ⟨rfl, (HT.out.told _ _).1, (HT.out.told _ _).2⟩
set_option maxRecDepth 100000 in
set_option maxHeartbeats 8000000 in
theorem kref_do_user22 (K : Nat) (k : KernS) (e : Nat) (p a : Nat) (x3 x4 : Int) (hp : p < 8) (ha : a < 16) (hlet : withinB (needN 22) (k.pt e p).rights = true) (f : Nat) (hf : f < 16) (hfr : (k.pt e p).frame = (f : Int)) (he : (e : Int) < k.envs) (hk4 : k.envs ≤ 4) (hx : wordsIn 22 (p : Int) (a : Int) x3 x4) (hchk : chkN 22 (p : Int) (a : Int) x3 x4 k.envs = 0) (w : World) (h : KernIs w K k) :
  Calls Tryz.prog 13 #[.pointer (some ⟨K, 0, none⟩), .int .i64 (e : Int), callV 22 (p : Int) (a : Int) x3 x4] w fun x w' => x = .returned (ansV 0 (wordT k f a 22) true) ∧ KernIs w' K (wordS k f a 22 x3 x4) ∧ OnlyT K w w' := by
 have HFR := Lib.hid hfr
 clear hfr
 have H := Lib.hid (DoAt.start h 22 (p : Int) (a : Int) x3 x4)
 obtain ⟨_, c1, _⟩ := h.sizes
 have lK := h.lt
 have HCK : Hid (∀ W, Calls Tryz.prog 50 #[callV 22 (p : Int) (a : Int) x3 x4, .int .i64 k.envs] W fun x w' => x = .returned (.int .i64 0) ∧ Below W.heap.size W w') := fun W => by
  have h := ref_Check_any 22 (p : Int) (a : Int) x3 x4 k.envs hx (by unfold intIn; omega) W
  rw [hchk] at h
  exact h
 clear h hchk
 go_enter Tryz.func13, Tryz.ntmps13
 have e0 : ¬ (e : Int) < 0 := by omega
 have e1 : ¬ k.envs ≤ (e : Int) := by omega
 go_wp2_with fail
 obtain ⟨w1, hw1⟩ : ∃ w1, w1 = (w.alloc (.cells #[.int .u64 22, .int .u64 (p : Int), .int .u64 (a : Int), .int .u64 x3, .int .u64 x4] 36)).alloc (.cells #[.int .i64 0, .int .u64 0] 41) := ⟨_, rfl⟩
 obtain ⟨C, hC⟩ : ∃ C, C = w.heap.size := ⟨_, rfl⟩
 obtain ⟨R, hR⟩ : ∃ R, R = w.heap.size + 1 := ⟨_, rfl⟩
 rw [← hw1, ← hR, ← hC] at H
 rw [← hw1, ← hR, ← hC]
 clear hw1 hC hR c1
 have HD : Hid (DoAt w w1.drew K C R k 22 (p : Int) (a : Int) x3 x4) := H.out.drewN 1
 have hS : w1.drew.cell? ⟨C, 0, none⟩ = some (.int .u64 22) ∧ w1.drew.cell? ⟨C, 1, none⟩ = some (.int .u64 (p : Int)) ∧ w1.drew.cell? ⟨C, 2, none⟩ = some (.int .u64 (a : Int)) ∧ w1.drew.cell? ⟨C, 3, none⟩ = some (.int .u64 x3) ∧ w1.drew.cell? ⟨C, 4, none⟩ = some (.int .u64 x4) ∧ w1.drew.cell? ⟨K, 1, none⟩ = some (.int .i64 k.envs) := HD.out.read
 clear H
 unfold callV at HCK
 go_region_held3 (fun w' => w'.cell? ⟨C, 0, none⟩ = some (.int .u64 22) ∧ w'.cell? ⟨C, 1, none⟩ = some (.int .u64 (p : Int)) ∧ w'.cell? ⟨C, 2, none⟩ = some (.int .u64 (a : Int)) ∧ w'.cell? ⟨C, 3, none⟩ = some (.int .u64 x3) ∧ w'.cell? ⟨C, 4, none⟩ = some (.int .u64 x4) ∧ w'.cell? ⟨K, 1, none⟩ = some (.int .i64 k.envs)) (exact hS)
  ((go_at_call 50; refine (HCK.out _).mono ?_; rintro x wn ⟨rfl, hb⟩; replace HD := Lib.hid (HD.out.later hb); have hS : wn.cell? ⟨C, 0, none⟩ = some (.int .u64 22) ∧ wn.cell? ⟨C, 1, none⟩ = some (.int .u64 (p : Int)) ∧ wn.cell? ⟨C, 2, none⟩ = some (.int .u64 (a : Int)) ∧ wn.cell? ⟨C, 3, none⟩ = some (.int .u64 x3) ∧ wn.cell? ⟨C, 4, none⟩ = some (.int .u64 x4) ∧ wn.cell? ⟨K, 1, none⟩ = some (.int .i64 k.envs) := HD.out.read; clear hb))
 all_goals
  have d0 := bk_cell HD.out.call 0
  have d1 := bk_cell HD.out.call 1
  have d2 := bk_cell HD.out.call 2
  have d3 := bk_cell HD.out.call 3
  have d4 := bk_cell HD.out.call 4
  clear hS
  go_wp2_with fail
  refine (Kind_is 22 (p : Int) (a : Int) x3 x4 (by decide) _).mono ?_
  rintro x wk ⟨rfl, hb⟩
  replace HD := Lib.hid (HD.out.later hb)
  clear hb d0 d1 d2 d3 d4
  have d1 := bk_cell HD.out.call 1
  obtain ⟨c0, c1, c2⟩ := HD.out.ker.pte (show e < 4 by omega) hp
  have lC := bk_lt HD.out.call
  have lK2 := HD.out.ker.lt
  have p0 : (0 : Int) ≤ (p : Int) := by omega
  have p1 : (p : Int) < 8 := by omega
  have e2 : (0 : Int) ≤ (e : Int) := by omega
  have e3 : (e : Int) < 4 := by omega
  go_wp2_with fail
  go_region
  obtain ⟨A, hA⟩ : ∃ A, A = wk.heap.size := ⟨_, rfl⟩
  obtain ⟨w3, hw3⟩ : ∃ w3, w3 = (wk.alloc (.cells #[.int .i64 (k.pt e p).frame, .int .i64 (k.pt e p).slot, .int .i64 (k.pt e p).rights] 83)).drew := ⟨_, rfl⟩
  have hb : Below wk.heap.size wk w3 := by rw [hw3]; exact (Below.refl _ _).alloc (Nat.le_refl _) _ |>.drew
  have HA : Hid (w3.heap[A]? = some (.cells #[.int .i64 (k.pt e p).frame, .int .i64 (k.pt e p).slot, .int .i64 (k.pt e p).rights] 83 (0, 0))) := by rw [hw3, hA]; exact heap_alloc_new wk _
  replace HD := Lib.hid (HD.out.later hb)
  rw [← hw3, ← hA]
  clear hw3 hA hb
  clear lC lK2 c0 c1 c2 d1
  have a2 := bk_cell HA.out 2
  have HLT := ref_lets_any (k.pt e p).rights 22 w3
  rw [hlet] at HLT
  clear hlet
  go_wp2_with fail
  refine HLT.mono ?_
  rintro x wl ⟨rfl, rfl⟩
  clear HLT
  have a0 := bk_cell HA.out 0
  rw [HFR.out] at a0
  have d0 := bk_cell HD.out.call 0
  have d1 := bk_cell HD.out.call 1
  have d2 := bk_cell HD.out.call 2
  have d3 := bk_cell HD.out.call 3
  have d4 := bk_cell HD.out.call 4
  go_wp2_with fail
  refine (kref_word K k f a hf ha 22 22 (p : Int) x3 x4 _ HD.out.ker).mono ?_
  rintro x wd ⟨rfl, hk', ho'⟩
  replace HD := Lib.hid (HD.out.turned hk' ho')
  clear hk' ho' d0 d1 d2 d3 d4 a0 a2 HA
  have r0 := bk_cell HD.out.ans 0
  have r1 := bk_cell HD.out.ans 1
  have g0 := bk_free HD.out.ans 0
  have g1 := bk_free HD.out.ans 1
  go_wp2_with fail
  exact bodyPost_ret (v := .tuple #[.agg #[.int .i64 0, .int .u64 (wordT k f a 22)], .bool true]) (by simp [results, Tryz.results13, go_sem, r0, r1]) rfl ⟨rfl, (HD.out.told _ _).1, (HD.out.told _ _).2⟩
set_option maxRecDepth 100000 in
set_option maxHeartbeats 8000000 in
theorem kref_do_user23_no (K : Nat) (k : KernS) (e : Nat) (p a : Nat) (x3 x4 : Int) (hp : p < 8) (hlet : withinB (needN 23) (k.pt e p).rights = false) (he : (e : Int) < k.envs) (hk4 : k.envs ≤ 4) (hx : wordsIn 23 (p : Int) (a : Int) x3 x4) (hchk : chkN 23 (p : Int) (a : Int) x3 x4 k.envs = 0) (w : World) (h : KernIs w K k) :
  Calls Tryz.prog 13 #[.pointer (some ⟨K, 0, none⟩), .int .i64 (e : Int), callV 23 (p : Int) (a : Int) x3 x4] w fun x w' => x = .returned (ansV 7 0 true) ∧ KernIs w' K (k) ∧ OnlyT K w w' := by
 have H := Lib.hid (DoAt.start h 23 (p : Int) (a : Int) x3 x4)
 obtain ⟨_, c1, _⟩ := h.sizes
 have lK := h.lt
 have HCK : Hid (∀ W, Calls Tryz.prog 50 #[callV 23 (p : Int) (a : Int) x3 x4, .int .i64 k.envs] W fun x w' => x = .returned (.int .i64 0) ∧ Below W.heap.size W w') := fun W => by
  have h := ref_Check_any 23 (p : Int) (a : Int) x3 x4 k.envs hx (by unfold intIn; omega) W
  rw [hchk] at h
  exact h
 clear h hchk
 go_enter Tryz.func13, Tryz.ntmps13
 have e0 : ¬ (e : Int) < 0 := by omega
 have e1 : ¬ k.envs ≤ (e : Int) := by omega
 go_wp2_with fail
 obtain ⟨w1, hw1⟩ : ∃ w1, w1 = (w.alloc (.cells #[.int .u64 23, .int .u64 (p : Int), .int .u64 (a : Int), .int .u64 x3, .int .u64 x4] 36)).alloc (.cells #[.int .i64 0, .int .u64 0] 41) := ⟨_, rfl⟩
 obtain ⟨C, hC⟩ : ∃ C, C = w.heap.size := ⟨_, rfl⟩
 obtain ⟨R, hR⟩ : ∃ R, R = w.heap.size + 1 := ⟨_, rfl⟩
 rw [← hw1, ← hR, ← hC] at H
 rw [← hw1, ← hR, ← hC]
 clear hw1 hC hR c1
 have HD : Hid (DoAt w w1.drew K C R k 23 (p : Int) (a : Int) x3 x4) := H.out.drewN 1
 have hS : w1.drew.cell? ⟨C, 0, none⟩ = some (.int .u64 23) ∧ w1.drew.cell? ⟨C, 1, none⟩ = some (.int .u64 (p : Int)) ∧ w1.drew.cell? ⟨C, 2, none⟩ = some (.int .u64 (a : Int)) ∧ w1.drew.cell? ⟨C, 3, none⟩ = some (.int .u64 x3) ∧ w1.drew.cell? ⟨C, 4, none⟩ = some (.int .u64 x4) ∧ w1.drew.cell? ⟨K, 1, none⟩ = some (.int .i64 k.envs) := HD.out.read
 clear H
 unfold callV at HCK
 go_region_held3 (fun w' => w'.cell? ⟨C, 0, none⟩ = some (.int .u64 23) ∧ w'.cell? ⟨C, 1, none⟩ = some (.int .u64 (p : Int)) ∧ w'.cell? ⟨C, 2, none⟩ = some (.int .u64 (a : Int)) ∧ w'.cell? ⟨C, 3, none⟩ = some (.int .u64 x3) ∧ w'.cell? ⟨C, 4, none⟩ = some (.int .u64 x4) ∧ w'.cell? ⟨K, 1, none⟩ = some (.int .i64 k.envs)) (exact hS)
  ((go_at_call 50; refine (HCK.out _).mono ?_; rintro x wn ⟨rfl, hb⟩; replace HD := Lib.hid (HD.out.later hb); have hS : wn.cell? ⟨C, 0, none⟩ = some (.int .u64 23) ∧ wn.cell? ⟨C, 1, none⟩ = some (.int .u64 (p : Int)) ∧ wn.cell? ⟨C, 2, none⟩ = some (.int .u64 (a : Int)) ∧ wn.cell? ⟨C, 3, none⟩ = some (.int .u64 x3) ∧ wn.cell? ⟨C, 4, none⟩ = some (.int .u64 x4) ∧ wn.cell? ⟨K, 1, none⟩ = some (.int .i64 k.envs) := HD.out.read; clear hb))
 all_goals
  have d0 := bk_cell HD.out.call 0
  have d1 := bk_cell HD.out.call 1
  have d2 := bk_cell HD.out.call 2
  have d3 := bk_cell HD.out.call 3
  have d4 := bk_cell HD.out.call 4
  clear hS
  go_wp2_with fail
  refine (Kind_is 23 (p : Int) (a : Int) x3 x4 (by decide) _).mono ?_
  rintro x wk ⟨rfl, hb⟩
  replace HD := Lib.hid (HD.out.later hb)
  clear hb d0 d1 d2 d3 d4
  have d1 := bk_cell HD.out.call 1
  obtain ⟨c0, c1, c2⟩ := HD.out.ker.pte (show e < 4 by omega) hp
  have lC := bk_lt HD.out.call
  have lK2 := HD.out.ker.lt
  have p0 : (0 : Int) ≤ (p : Int) := by omega
  have p1 : (p : Int) < 8 := by omega
  have e2 : (0 : Int) ≤ (e : Int) := by omega
  have e3 : (e : Int) < 4 := by omega
  go_wp2_with fail
  go_region
  obtain ⟨A, hA⟩ : ∃ A, A = wk.heap.size := ⟨_, rfl⟩
  obtain ⟨w3, hw3⟩ : ∃ w3, w3 = (wk.alloc (.cells #[.int .i64 (k.pt e p).frame, .int .i64 (k.pt e p).slot, .int .i64 (k.pt e p).rights] 83)).drew := ⟨_, rfl⟩
  have hb : Below wk.heap.size wk w3 := by rw [hw3]; exact (Below.refl _ _).alloc (Nat.le_refl _) _ |>.drew
  have HA : Hid (w3.heap[A]? = some (.cells #[.int .i64 (k.pt e p).frame, .int .i64 (k.pt e p).slot, .int .i64 (k.pt e p).rights] 83 (0, 0))) := by rw [hw3, hA]; exact heap_alloc_new wk _
  replace HD := Lib.hid (HD.out.later hb)
  rw [← hw3, ← hA]
  clear hw3 hA hb
  clear lC lK2 c0 c1 c2 d1
  have a2 := bk_cell HA.out 2
  have HLT := ref_lets_any (k.pt e p).rights 23 w3
  rw [hlet] at HLT
  clear hlet
  go_wp2_with fail
  refine HLT.mono ?_
  rintro x wl ⟨rfl, rfl⟩
  clear HLT
  go_wp2_with fail
  refine (kref_err 7 _).mono ?_
  rintro x wt ⟨rfl, hb⟩
  have HT := Lib.hid (HD.out.later hb)
  clear hb
  have r0 := bk_cell HT.out.ans 0
  have r1 := bk_cell HT.out.ans 1
  have g0 := bk_free HT.out.ans 0
  have g1 := bk_free HT.out.ans 1
  unfold ansV
  go_wp2_with fail
  exact bodyPost_ret (v := .tuple #[.agg #[.int .i64 7, .int .u64 0], .bool true]) (by simp [results, Tryz.results13, go_sem, r0, r1]) rfl ⟨rfl, (HT.out.told _ _).1, (HT.out.told _ _).2⟩
set_option maxRecDepth 100000 in
set_option maxHeartbeats 8000000 in
theorem kref_do_user23 (K : Nat) (k : KernS) (e : Nat) (p a : Nat) (x3 x4 : Int) (hp : p < 8) (ha : a < 16) (hlet : withinB (needN 23) (k.pt e p).rights = true) (f : Nat) (hf : f < 16) (hfr : (k.pt e p).frame = (f : Int)) (he : (e : Int) < k.envs) (hk4 : k.envs ≤ 4) (hx : wordsIn 23 (p : Int) (a : Int) x3 x4) (hchk : chkN 23 (p : Int) (a : Int) x3 x4 k.envs = 0) (w : World) (h : KernIs w K k) :
  Calls Tryz.prog 13 #[.pointer (some ⟨K, 0, none⟩), .int .i64 (e : Int), callV 23 (p : Int) (a : Int) x3 x4] w fun x w' => x = .returned (ansV 0 (wordT k f a 23) true) ∧ KernIs w' K (wordS k f a 23 x3 x4) ∧ OnlyT K w w' := by
 have HFR := Lib.hid hfr
 clear hfr
 have H := Lib.hid (DoAt.start h 23 (p : Int) (a : Int) x3 x4)
 obtain ⟨_, c1, _⟩ := h.sizes
 have lK := h.lt
 have HCK : Hid (∀ W, Calls Tryz.prog 50 #[callV 23 (p : Int) (a : Int) x3 x4, .int .i64 k.envs] W fun x w' => x = .returned (.int .i64 0) ∧ Below W.heap.size W w') := fun W => by
  have h := ref_Check_any 23 (p : Int) (a : Int) x3 x4 k.envs hx (by unfold intIn; omega) W
  rw [hchk] at h
  exact h
 clear h hchk
 go_enter Tryz.func13, Tryz.ntmps13
 have e0 : ¬ (e : Int) < 0 := by omega
 have e1 : ¬ k.envs ≤ (e : Int) := by omega
 go_wp2_with fail
 obtain ⟨w1, hw1⟩ : ∃ w1, w1 = (w.alloc (.cells #[.int .u64 23, .int .u64 (p : Int), .int .u64 (a : Int), .int .u64 x3, .int .u64 x4] 36)).alloc (.cells #[.int .i64 0, .int .u64 0] 41) := ⟨_, rfl⟩
 obtain ⟨C, hC⟩ : ∃ C, C = w.heap.size := ⟨_, rfl⟩
 obtain ⟨R, hR⟩ : ∃ R, R = w.heap.size + 1 := ⟨_, rfl⟩
 rw [← hw1, ← hR, ← hC] at H
 rw [← hw1, ← hR, ← hC]
 clear hw1 hC hR c1
 have HD : Hid (DoAt w w1.drew K C R k 23 (p : Int) (a : Int) x3 x4) := H.out.drewN 1
 have hS : w1.drew.cell? ⟨C, 0, none⟩ = some (.int .u64 23) ∧ w1.drew.cell? ⟨C, 1, none⟩ = some (.int .u64 (p : Int)) ∧ w1.drew.cell? ⟨C, 2, none⟩ = some (.int .u64 (a : Int)) ∧ w1.drew.cell? ⟨C, 3, none⟩ = some (.int .u64 x3) ∧ w1.drew.cell? ⟨C, 4, none⟩ = some (.int .u64 x4) ∧ w1.drew.cell? ⟨K, 1, none⟩ = some (.int .i64 k.envs) := HD.out.read
 clear H
 unfold callV at HCK
 go_region_held3 (fun w' => w'.cell? ⟨C, 0, none⟩ = some (.int .u64 23) ∧ w'.cell? ⟨C, 1, none⟩ = some (.int .u64 (p : Int)) ∧ w'.cell? ⟨C, 2, none⟩ = some (.int .u64 (a : Int)) ∧ w'.cell? ⟨C, 3, none⟩ = some (.int .u64 x3) ∧ w'.cell? ⟨C, 4, none⟩ = some (.int .u64 x4) ∧ w'.cell? ⟨K, 1, none⟩ = some (.int .i64 k.envs)) (exact hS)
  ((go_at_call 50; refine (HCK.out _).mono ?_; rintro x wn ⟨rfl, hb⟩; replace HD := Lib.hid (HD.out.later hb); have hS : wn.cell? ⟨C, 0, none⟩ = some (.int .u64 23) ∧ wn.cell? ⟨C, 1, none⟩ = some (.int .u64 (p : Int)) ∧ wn.cell? ⟨C, 2, none⟩ = some (.int .u64 (a : Int)) ∧ wn.cell? ⟨C, 3, none⟩ = some (.int .u64 x3) ∧ wn.cell? ⟨C, 4, none⟩ = some (.int .u64 x4) ∧ wn.cell? ⟨K, 1, none⟩ = some (.int .i64 k.envs) := HD.out.read; clear hb))
 all_goals
  have d0 := bk_cell HD.out.call 0
  have d1 := bk_cell HD.out.call 1
  have d2 := bk_cell HD.out.call 2
  have d3 := bk_cell HD.out.call 3
  have d4 := bk_cell HD.out.call 4
  clear hS
  go_wp2_with fail
  refine (Kind_is 23 (p : Int) (a : Int) x3 x4 (by decide) _).mono ?_
  rintro x wk ⟨rfl, hb⟩
  replace HD := Lib.hid (HD.out.later hb)
  clear hb d0 d1 d2 d3 d4
  have d1 := bk_cell HD.out.call 1
  obtain ⟨c0, c1, c2⟩ := HD.out.ker.pte (show e < 4 by omega) hp
  have lC := bk_lt HD.out.call
  have lK2 := HD.out.ker.lt
  have p0 : (0 : Int) ≤ (p : Int) := by omega
  have p1 : (p : Int) < 8 := by omega
  have e2 : (0 : Int) ≤ (e : Int) := by omega
  have e3 : (e : Int) < 4 := by omega
  go_wp2_with fail
  go_region
  obtain ⟨A, hA⟩ : ∃ A, A = wk.heap.size := ⟨_, rfl⟩
  obtain ⟨w3, hw3⟩ : ∃ w3, w3 = (wk.alloc (.cells #[.int .i64 (k.pt e p).frame, .int .i64 (k.pt e p).slot, .int .i64 (k.pt e p).rights] 83)).drew := ⟨_, rfl⟩
  have hb : Below wk.heap.size wk w3 := by rw [hw3]; exact (Below.refl _ _).alloc (Nat.le_refl _) _ |>.drew
  have HA : Hid (w3.heap[A]? = some (.cells #[.int .i64 (k.pt e p).frame, .int .i64 (k.pt e p).slot, .int .i64 (k.pt e p).rights] 83 (0, 0))) := by rw [hw3, hA]; exact heap_alloc_new wk _
  replace HD := Lib.hid (HD.out.later hb)
  rw [← hw3, ← hA]
  clear hw3 hA hb
  clear lC lK2 c0 c1 c2 d1
  have a2 := bk_cell HA.out 2
  have HLT := ref_lets_any (k.pt e p).rights 23 w3
  rw [hlet] at HLT
  clear hlet
  go_wp2_with fail
  refine HLT.mono ?_
  rintro x wl ⟨rfl, rfl⟩
  clear HLT
  have a0 := bk_cell HA.out 0
  rw [HFR.out] at a0
  have d0 := bk_cell HD.out.call 0
  have d1 := bk_cell HD.out.call 1
  have d2 := bk_cell HD.out.call 2
  have d3 := bk_cell HD.out.call 3
  have d4 := bk_cell HD.out.call 4
  go_wp2_with fail
  refine (kref_word K k f a hf ha 23 23 (p : Int) x3 x4 _ HD.out.ker).mono ?_
  rintro x wd ⟨rfl, hk', ho'⟩
  replace HD := Lib.hid (HD.out.turned hk' ho')
  clear hk' ho' d0 d1 d2 d3 d4 a0 a2 HA
  have r0 := bk_cell HD.out.ans 0
  have r1 := bk_cell HD.out.ans 1
  have g0 := bk_free HD.out.ans 0
  have g1 := bk_free HD.out.ans 1
  go_wp2_with fail
  exact bodyPost_ret (v := .tuple #[.agg #[.int .i64 0, .int .u64 (wordT k f a 23)], .bool true]) (by simp [results, Tryz.results13, go_sem, r0, r1]) rfl ⟨rfl, (HD.out.told _ _).1, (HD.out.told _ _).2⟩
end Go.Proofs.YtdfhfmdelinemaaGreatDoor
namespace Go.Proofs.YtdfhfmdelinemaaGreatDoor
open Go.RowKit Go.Extern.Stop Go.Stop Go.Extern Go.WalkArith
set_option maxRecDepth 100000 in
set_option maxHeartbeats 8000000 in
theorem kref_do_sleep_none (K : Nat) (k : KernS) (e : Nat) (s a : Nat) (op v : Int) (hs : s < 8) (hi : (k.sl e s).is = false) (he : (e : Int) < k.envs) (hk4 : k.envs ≤ 4) (hx : wordsIn 9 (s : Int) (a : Int) op v) (hchk : chkN 9 (s : Int) (a : Int) op v k.envs = 0) (w : World) (h : KernIs w K k) :
  Calls Tryz.prog 13 #[.pointer (some ⟨K, 0, none⟩), .int .i64 (e : Int), callV 9 (s : Int) (a : Int) op v] w fun x w' => x = .returned (ansV 3 0 true) ∧ KernIs w' K (k) ∧ OnlyT K w w' := by
 have HI := Lib.hid hi
 clear hi
 have H := Lib.hid (DoAt.start h 9 (s : Int) (a : Int) op v)
 obtain ⟨_, c1, _⟩ := h.sizes
 have lK := h.lt
 have HCK : Hid (∀ W, Calls Tryz.prog 50 #[callV 9 (s : Int) (a : Int) op v, .int .i64 k.envs] W fun x w' => x = .returned (.int .i64 0) ∧ Below W.heap.size W w') := fun W => by
  have h := ref_Check_any 9 (s : Int) (a : Int) op v k.envs hx (by unfold intIn; omega) W
  rw [hchk] at h
  exact h
 clear h hchk
 go_enter Tryz.func13, Tryz.ntmps13
 have e0 : ¬ (e : Int) < 0 := by omega
 have e1 : ¬ k.envs ≤ (e : Int) := by omega
 go_wp2_with fail
 obtain ⟨w1, hw1⟩ : ∃ w1, w1 = (w.alloc (.cells #[.int .u64 9, .int .u64 (s : Int), .int .u64 (a : Int), .int .u64 op, .int .u64 v] 36)).alloc (.cells #[.int .i64 0, .int .u64 0] 41) := ⟨_, rfl⟩
 obtain ⟨C, hC⟩ : ∃ C, C = w.heap.size := ⟨_, rfl⟩
 obtain ⟨R, hR⟩ : ∃ R, R = w.heap.size + 1 := ⟨_, rfl⟩
 rw [← hw1, ← hR, ← hC] at H
 rw [← hw1, ← hR, ← hC]
 clear hw1 hC hR c1
 have HD : Hid (DoAt w w1.drew K C R k 9 (s : Int) (a : Int) op v) := H.out.drewN 1
 have hS : w1.drew.cell? ⟨C, 0, none⟩ = some (.int .u64 9) ∧ w1.drew.cell? ⟨C, 1, none⟩ = some (.int .u64 (s : Int)) ∧ w1.drew.cell? ⟨C, 2, none⟩ = some (.int .u64 (a : Int)) ∧ w1.drew.cell? ⟨C, 3, none⟩ = some (.int .u64 op) ∧ w1.drew.cell? ⟨C, 4, none⟩ = some (.int .u64 v) ∧ w1.drew.cell? ⟨K, 1, none⟩ = some (.int .i64 k.envs) := HD.out.read
 clear H
 unfold callV at HCK
 go_region_held3 (fun w' => w'.cell? ⟨C, 0, none⟩ = some (.int .u64 9) ∧ w'.cell? ⟨C, 1, none⟩ = some (.int .u64 (s : Int)) ∧ w'.cell? ⟨C, 2, none⟩ = some (.int .u64 (a : Int)) ∧ w'.cell? ⟨C, 3, none⟩ = some (.int .u64 op) ∧ w'.cell? ⟨C, 4, none⟩ = some (.int .u64 v) ∧ w'.cell? ⟨K, 1, none⟩ = some (.int .i64 k.envs)) (exact hS)
  ((go_at_call 50; refine (HCK.out _).mono ?_; rintro x wn ⟨rfl, hb⟩; replace HD := Lib.hid (HD.out.later hb); have hS : wn.cell? ⟨C, 0, none⟩ = some (.int .u64 9) ∧ wn.cell? ⟨C, 1, none⟩ = some (.int .u64 (s : Int)) ∧ wn.cell? ⟨C, 2, none⟩ = some (.int .u64 (a : Int)) ∧ wn.cell? ⟨C, 3, none⟩ = some (.int .u64 op) ∧ wn.cell? ⟨C, 4, none⟩ = some (.int .u64 v) ∧ wn.cell? ⟨K, 1, none⟩ = some (.int .i64 k.envs) := HD.out.read; clear hb))
 all_goals
  have d0 := bk_cell HD.out.call 0
  have d1 := bk_cell HD.out.call 1
  have d2 := bk_cell HD.out.call 2
  have d3 := bk_cell HD.out.call 3
  have d4 := bk_cell HD.out.call 4
  clear hS
  go_wp2_with fail
  refine (Kind_is 9 (s : Int) (a : Int) op v (by decide) _).mono ?_
  rintro x wk ⟨rfl, hb⟩
  replace HD := Lib.hid (HD.out.later hb)
  clear hb d0 d1 d2 d3 d4
  have d1 := bk_cell HD.out.call 1
  obtain ⟨c0, c1, c2, c3, c4⟩ := HD.out.ker.slot (show e < 4 by omega) hs
  have lC := bk_lt HD.out.call
  have lK2 := HD.out.ker.lt
  have s0 : (0 : Int) ≤ (s : Int) := by omega
  have s1 : (s : Int) < 8 := by omega
  have e2 : (0 : Int) ≤ (e : Int) := by omega
  have e3 : (e : Int) < 4 := by omega
  go_wp2_with fail
  go_region
  obtain ⟨A, hA⟩ : ∃ A, A = wk.heap.size := ⟨_, rfl⟩
  obtain ⟨w3, hw3⟩ : ∃ w3, w3 = (wk.alloc (.cells #[.bool (k.sl e s).is, .int .i64 (k.sl e s).frame, .int .i64 (k.sl e s).rights, .int .i64 (k.sl e s).env, .int .i64 (k.sl e s).slot] 98)).drew := ⟨_, rfl⟩
  have hb : Below wk.heap.size wk w3 := by rw [hw3]; exact (Below.refl _ _).alloc (Nat.le_refl _) _ |>.drew
  have HA : Hid (w3.heap[A]? = some (.cells #[.bool (k.sl e s).is, .int .i64 (k.sl e s).frame, .int .i64 (k.sl e s).rights, .int .i64 (k.sl e s).env, .int .i64 (k.sl e s).slot] 98 (0, 0))) := by rw [hw3, hA]; exact heap_alloc_new wk _
  replace HD := Lib.hid (HD.out.later hb)
  rw [← hw3, ← hA]
  clear hw3 hA hb
  clear lC lK2 c0 c1 c2 c3 c4 d1
  have a0 := bk_cell HA.out 0
  rw [HI.out] at a0
  go_wp2_with fail
  refine (kref_err 3 _).mono ?_
  rintro x wt ⟨rfl, hb⟩
  have HT := Lib.hid (HD.out.later hb)
  clear hb
  have r0 := bk_cell HT.out.ans 0
  have r1 := bk_cell HT.out.ans 1
  have g0 := bk_free HT.out.ans 0
  have g1 := bk_free HT.out.ans 1
  unfold ansV
  go_wp2_with fail
  exact bodyPost_ret (v := .tuple #[.agg #[.int .i64 3, .int .u64 0], .bool true]) (by simp [results, Tryz.results13, go_sem, r0, r1]) rfl ⟨rfl, (HT.out.told _ _).1, (HT.out.told _ _).2⟩
set_option maxRecDepth 100000 in
set_option maxHeartbeats 8000000 in
theorem kref_do_sleep_rights (K : Nat) (k : KernS) (e : Nat) (s a : Nat) (op v : Int) (hs : s < 8) (hi : (k.sl e s).is = true) (hr0 : 0 ≤ (k.sl e s).rights ∧ (k.sl e s).rights ≤ 3) (hr1 : (k.sl e s).rights % 2 = 0) (he : (e : Int) < k.envs) (hk4 : k.envs ≤ 4) (hx : wordsIn 9 (s : Int) (a : Int) op v) (hchk : chkN 9 (s : Int) (a : Int) op v k.envs = 0) (w : World) (h : KernIs w K k) :
  Calls Tryz.prog 13 #[.pointer (some ⟨K, 0, none⟩), .int .i64 (e : Int), callV 9 (s : Int) (a : Int) op v] w fun x w' => x = .returned (ansV 5 0 true) ∧ KernIs w' K (k) ∧ OnlyT K w w' := by
 have HI := Lib.hid hi
 have HR0 := Lib.hid hr0
 have HR1 := Lib.hid hr1
 clear hi hr0 hr1
 have H := Lib.hid (DoAt.start h 9 (s : Int) (a : Int) op v)
 obtain ⟨_, c1, _⟩ := h.sizes
 have lK := h.lt
 have HCK : Hid (∀ W, Calls Tryz.prog 50 #[callV 9 (s : Int) (a : Int) op v, .int .i64 k.envs] W fun x w' => x = .returned (.int .i64 0) ∧ Below W.heap.size W w') := fun W => by
  have h := ref_Check_any 9 (s : Int) (a : Int) op v k.envs hx (by unfold intIn; omega) W
  rw [hchk] at h
  exact h
 clear h hchk
 go_enter Tryz.func13, Tryz.ntmps13
 have e0 : ¬ (e : Int) < 0 := by omega
 have e1 : ¬ k.envs ≤ (e : Int) := by omega
 go_wp2_with fail
 obtain ⟨w1, hw1⟩ : ∃ w1, w1 = (w.alloc (.cells #[.int .u64 9, .int .u64 (s : Int), .int .u64 (a : Int), .int .u64 op, .int .u64 v] 36)).alloc (.cells #[.int .i64 0, .int .u64 0] 41) := ⟨_, rfl⟩
 obtain ⟨C, hC⟩ : ∃ C, C = w.heap.size := ⟨_, rfl⟩
 obtain ⟨R, hR⟩ : ∃ R, R = w.heap.size + 1 := ⟨_, rfl⟩
 rw [← hw1, ← hR, ← hC] at H
 rw [← hw1, ← hR, ← hC]
 clear hw1 hC hR c1
 have HD : Hid (DoAt w w1.drew K C R k 9 (s : Int) (a : Int) op v) := H.out.drewN 1
 have hS : w1.drew.cell? ⟨C, 0, none⟩ = some (.int .u64 9) ∧ w1.drew.cell? ⟨C, 1, none⟩ = some (.int .u64 (s : Int)) ∧ w1.drew.cell? ⟨C, 2, none⟩ = some (.int .u64 (a : Int)) ∧ w1.drew.cell? ⟨C, 3, none⟩ = some (.int .u64 op) ∧ w1.drew.cell? ⟨C, 4, none⟩ = some (.int .u64 v) ∧ w1.drew.cell? ⟨K, 1, none⟩ = some (.int .i64 k.envs) := HD.out.read
 clear H
 unfold callV at HCK
 go_region_held3 (fun w' => w'.cell? ⟨C, 0, none⟩ = some (.int .u64 9) ∧ w'.cell? ⟨C, 1, none⟩ = some (.int .u64 (s : Int)) ∧ w'.cell? ⟨C, 2, none⟩ = some (.int .u64 (a : Int)) ∧ w'.cell? ⟨C, 3, none⟩ = some (.int .u64 op) ∧ w'.cell? ⟨C, 4, none⟩ = some (.int .u64 v) ∧ w'.cell? ⟨K, 1, none⟩ = some (.int .i64 k.envs)) (exact hS)
  ((go_at_call 50; refine (HCK.out _).mono ?_; rintro x wn ⟨rfl, hb⟩; replace HD := Lib.hid (HD.out.later hb); have hS : wn.cell? ⟨C, 0, none⟩ = some (.int .u64 9) ∧ wn.cell? ⟨C, 1, none⟩ = some (.int .u64 (s : Int)) ∧ wn.cell? ⟨C, 2, none⟩ = some (.int .u64 (a : Int)) ∧ wn.cell? ⟨C, 3, none⟩ = some (.int .u64 op) ∧ wn.cell? ⟨C, 4, none⟩ = some (.int .u64 v) ∧ wn.cell? ⟨K, 1, none⟩ = some (.int .i64 k.envs) := HD.out.read; clear hb))
 all_goals
  have d0 := bk_cell HD.out.call 0
  have d1 := bk_cell HD.out.call 1
  have d2 := bk_cell HD.out.call 2
  have d3 := bk_cell HD.out.call 3
  have d4 := bk_cell HD.out.call 4
  clear hS
  go_wp2_with fail
  refine (Kind_is 9 (s : Int) (a : Int) op v (by decide) _).mono ?_
  rintro x wk ⟨rfl, hb⟩
  replace HD := Lib.hid (HD.out.later hb)
  clear hb d0 d1 d2 d3 d4
  have d1 := bk_cell HD.out.call 1
  obtain ⟨c0, c1, c2, c3, c4⟩ := HD.out.ker.slot (show e < 4 by omega) hs
  have lC := bk_lt HD.out.call
  have lK2 := HD.out.ker.lt
  have s0 : (0 : Int) ≤ (s : Int) := by omega
  have s1 : (s : Int) < 8 := by omega
  have e2 : (0 : Int) ≤ (e : Int) := by omega
  have e3 : (e : Int) < 4 := by omega
  go_wp2_with fail
  go_region
  obtain ⟨A, hA⟩ : ∃ A, A = wk.heap.size := ⟨_, rfl⟩
  obtain ⟨w3, hw3⟩ : ∃ w3, w3 = (wk.alloc (.cells #[.bool (k.sl e s).is, .int .i64 (k.sl e s).frame, .int .i64 (k.sl e s).rights, .int .i64 (k.sl e s).env, .int .i64 (k.sl e s).slot] 98)).drew := ⟨_, rfl⟩
  have hb : Below wk.heap.size wk w3 := by rw [hw3]; exact (Below.refl _ _).alloc (Nat.le_refl _) _ |>.drew
  have HA : Hid (w3.heap[A]? = some (.cells #[.bool (k.sl e s).is, .int .i64 (k.sl e s).frame, .int .i64 (k.sl e s).rights, .int .i64 (k.sl e s).env, .int .i64 (k.sl e s).slot] 98 (0, 0))) := by rw [hw3, hA]; exact heap_alloc_new wk _
  replace HD := Lib.hid (HD.out.later hb)
  rw [← hw3, ← hA]
  clear hw3 hA hb
  clear lC lK2 c0 c1 c2 c3 c4 d1
  have a0 := bk_cell HA.out 0
  rw [HI.out] at a0
  have a2 := bk_cell HA.out 2
  obtain ⟨rr, hrr⟩ : ∃ rr, (k.sl e s).rights = rr := ⟨_, rfl⟩
  have q1 := HR0.out
  have q2 := HR1.out
  rw [hrr] at a2 q1 q2
  clear hrr
  obtain ⟨q0, q3⟩ := q1
  have q4 : rr.tmod 2 = 0 := by rw [Int.tmod_eq_emod_of_nonneg q0]; exact q2
  go_wp2_with fail
  refine (kref_err 5 _).mono ?_
  rintro x wt ⟨rfl, hb⟩
  have HT := Lib.hid (HD.out.later hb)
  clear hb
  have r0 := bk_cell HT.out.ans 0
  have r1 := bk_cell HT.out.ans 1
  have g0 := bk_free HT.out.ans 0
  have g1 := bk_free HT.out.ans 1
  unfold ansV
  go_wp2_with fail
  exact bodyPost_ret (v := .tuple #[.agg #[.int .i64 5, .int .u64 0], .bool true]) (by simp [results, Tryz.results13, go_sem, r0, r1]) rfl ⟨rfl, (HT.out.told _ _).1, (HT.out.told _ _).2⟩
set_option maxRecDepth 100000 in
set_option maxHeartbeats 8000000 in
theorem kref_do_sleep (K : Nat) (k : KernS) (e : Nat) (s a : Nat) (op v : Int) (hs : s < 8) (ha : a < 16) (op1 : 1 ≤ op) (op4 : op ≤ 4) (hi : (k.sl e s).is = true) (hr0 : 0 ≤ (k.sl e s).rights ∧ (k.sl e s).rights ≤ 3) (hr1 : (k.sl e s).rights % 2 = 1) (f : Nat) (hf : f < 16) (hfr : (k.sl e s).frame = (f : Int)) (hh : holdsB op (k.mm f a) v = true) (he : (e : Int) < k.envs) (hk4 : k.envs ≤ 4) (hx : wordsIn 9 (s : Int) (a : Int) op v) (hchk : chkN 9 (s : Int) (a : Int) op v k.envs = 0) (w : World) (h : KernIs w K k) :
  Calls Tryz.prog 13 #[.pointer (some ⟨K, 0, none⟩), .int .i64 (e : Int), callV 9 (s : Int) (a : Int) op v] w fun x w' => x = .returned (ansV 0 (k.mm f a) true) ∧ KernIs w' K (k) ∧ OnlyT K w w' := by
 have HI := Lib.hid hi
 have HR0 := Lib.hid hr0
 have HR1 := Lib.hid hr1
 clear hi hr0 hr1
 have HFR := Lib.hid hfr
 have HH := Lib.hid hh
 clear hfr hh
 have H := Lib.hid (DoAt.start h 9 (s : Int) (a : Int) op v)
 obtain ⟨_, c1, _⟩ := h.sizes
 have lK := h.lt
 have HCK : Hid (∀ W, Calls Tryz.prog 50 #[callV 9 (s : Int) (a : Int) op v, .int .i64 k.envs] W fun x w' => x = .returned (.int .i64 0) ∧ Below W.heap.size W w') := fun W => by
  have h := ref_Check_any 9 (s : Int) (a : Int) op v k.envs hx (by unfold intIn; omega) W
  rw [hchk] at h
  exact h
 clear h hchk
 go_enter Tryz.func13, Tryz.ntmps13
 have e0 : ¬ (e : Int) < 0 := by omega
 have e1 : ¬ k.envs ≤ (e : Int) := by omega
 go_wp2_with fail
 obtain ⟨w1, hw1⟩ : ∃ w1, w1 = (w.alloc (.cells #[.int .u64 9, .int .u64 (s : Int), .int .u64 (a : Int), .int .u64 op, .int .u64 v] 36)).alloc (.cells #[.int .i64 0, .int .u64 0] 41) := ⟨_, rfl⟩
 obtain ⟨C, hC⟩ : ∃ C, C = w.heap.size := ⟨_, rfl⟩
 obtain ⟨R, hR⟩ : ∃ R, R = w.heap.size + 1 := ⟨_, rfl⟩
 rw [← hw1, ← hR, ← hC] at H
 rw [← hw1, ← hR, ← hC]
 clear hw1 hC hR c1
 have HD : Hid (DoAt w w1.drew K C R k 9 (s : Int) (a : Int) op v) := H.out.drewN 1
 have hS : w1.drew.cell? ⟨C, 0, none⟩ = some (.int .u64 9) ∧ w1.drew.cell? ⟨C, 1, none⟩ = some (.int .u64 (s : Int)) ∧ w1.drew.cell? ⟨C, 2, none⟩ = some (.int .u64 (a : Int)) ∧ w1.drew.cell? ⟨C, 3, none⟩ = some (.int .u64 op) ∧ w1.drew.cell? ⟨C, 4, none⟩ = some (.int .u64 v) ∧ w1.drew.cell? ⟨K, 1, none⟩ = some (.int .i64 k.envs) := HD.out.read
 clear H
 unfold callV at HCK
 go_region_held3 (fun w' => w'.cell? ⟨C, 0, none⟩ = some (.int .u64 9) ∧ w'.cell? ⟨C, 1, none⟩ = some (.int .u64 (s : Int)) ∧ w'.cell? ⟨C, 2, none⟩ = some (.int .u64 (a : Int)) ∧ w'.cell? ⟨C, 3, none⟩ = some (.int .u64 op) ∧ w'.cell? ⟨C, 4, none⟩ = some (.int .u64 v) ∧ w'.cell? ⟨K, 1, none⟩ = some (.int .i64 k.envs)) (exact hS)
  ((go_at_call 50; refine (HCK.out _).mono ?_; rintro x wn ⟨rfl, hb⟩; replace HD := Lib.hid (HD.out.later hb); have hS : wn.cell? ⟨C, 0, none⟩ = some (.int .u64 9) ∧ wn.cell? ⟨C, 1, none⟩ = some (.int .u64 (s : Int)) ∧ wn.cell? ⟨C, 2, none⟩ = some (.int .u64 (a : Int)) ∧ wn.cell? ⟨C, 3, none⟩ = some (.int .u64 op) ∧ wn.cell? ⟨C, 4, none⟩ = some (.int .u64 v) ∧ wn.cell? ⟨K, 1, none⟩ = some (.int .i64 k.envs) := HD.out.read; clear hb))
 all_goals
  have d0 := bk_cell HD.out.call 0
  have d1 := bk_cell HD.out.call 1
  have d2 := bk_cell HD.out.call 2
  have d3 := bk_cell HD.out.call 3
  have d4 := bk_cell HD.out.call 4
  clear hS
  go_wp2_with fail
  refine (Kind_is 9 (s : Int) (a : Int) op v (by decide) _).mono ?_
  rintro x wk ⟨rfl, hb⟩
  replace HD := Lib.hid (HD.out.later hb)
  clear hb d0 d1 d2 d3 d4
  have d1 := bk_cell HD.out.call 1
  obtain ⟨c0, c1, c2, c3, c4⟩ := HD.out.ker.slot (show e < 4 by omega) hs
  have lC := bk_lt HD.out.call
  have lK2 := HD.out.ker.lt
  have s0 : (0 : Int) ≤ (s : Int) := by omega
  have s1 : (s : Int) < 8 := by omega
  have e2 : (0 : Int) ≤ (e : Int) := by omega
  have e3 : (e : Int) < 4 := by omega
  go_wp2_with fail
  go_region
  obtain ⟨A, hA⟩ : ∃ A, A = wk.heap.size := ⟨_, rfl⟩
  obtain ⟨w3, hw3⟩ : ∃ w3, w3 = (wk.alloc (.cells #[.bool (k.sl e s).is, .int .i64 (k.sl e s).frame, .int .i64 (k.sl e s).rights, .int .i64 (k.sl e s).env, .int .i64 (k.sl e s).slot] 98)).drew := ⟨_, rfl⟩
  have hb : Below wk.heap.size wk w3 := by rw [hw3]; exact (Below.refl _ _).alloc (Nat.le_refl _) _ |>.drew
  have HA : Hid (w3.heap[A]? = some (.cells #[.bool (k.sl e s).is, .int .i64 (k.sl e s).frame, .int .i64 (k.sl e s).rights, .int .i64 (k.sl e s).env, .int .i64 (k.sl e s).slot] 98 (0, 0))) := by rw [hw3, hA]; exact heap_alloc_new wk _
  replace HD := Lib.hid (HD.out.later hb)
  rw [← hw3, ← hA]
  clear hw3 hA hb
  clear lC lK2 c0 c1 c2 c3 c4 d1
  have a0 := bk_cell HA.out 0
  rw [HI.out] at a0
  have a2 := bk_cell HA.out 2
  obtain ⟨rr, hrr⟩ : ∃ rr, (k.sl e s).rights = rr := ⟨_, rfl⟩
  have q1 := HR0.out
  have q2 := HR1.out
  rw [hrr] at a2 q1 q2
  clear hrr
  obtain ⟨q0, q3⟩ := q1
  have q4 : rr.tmod 2 = 1 := by rw [Int.tmod_eq_emod_of_nonneg q0]; exact q2
  have a1 := bk_cell HA.out 1
  rw [HFR.out] at a1
  have d2 := bk_cell HD.out.call 2
  have f0 : (0 : Int) ≤ (f : Int) := by omega
  have f1 : (f : Int) < 16 := by omega
  have t0 : (0 : Int) ≤ (a : Int) := by omega
  have t1 : (a : Int) < 16 := by omega
  have m0 := HD.out.ker.word hf ha
  go_wp2_with fail
  go_quiet (fail)
  obtain ⟨w4, hw4⟩ : ∃ w4, w4 = w3.drewN nq := ⟨_, rfl⟩
  replace HD : Hid (DoAt w w4 K C R k 9 (s : Int) (a : Int) op v) := by rw [hw4]; exact HD.out.drewN _
  rw [← hw4]
  clear hw4 HA a0 a1 a2 d2 m0
  have d3 := bk_cell HD.out.call 3
  have d4 := bk_cell HD.out.call 4
  have wop : IntKind.i64.wrap op = op := by rw [Go.IntWalk.i64_in _ (by omega)]
  have HH2 := kref_holds op (k.mm f a) v w4
  rw [HH.out] at HH2
  go_wp2_with fail
  refine HH2.mono ?_
  rintro x wl ⟨rfl, rfl⟩
  clear HH2 d3 d4
  have r0 := bk_cell HD.out.ans 0
  have r1 := bk_cell HD.out.ans 1
  have g0 := bk_free HD.out.ans 0
  have g1 := bk_free HD.out.ans 1
  go_wp2_with fail
  exact bodyPost_ret (v := .tuple #[.agg #[.int .i64 0, .int .u64 (k.mm f a)], .bool true]) (by simp [results, Tryz.results13, go_sem, r0, r1]) rfl ⟨rfl, (HD.out.told _ _).1, (HD.out.told _ _).2⟩
set_option maxRecDepth 100000 in
set_option maxHeartbeats 8000000 in
theorem kref_do_sleep_wait (K : Nat) (k : KernS) (e : Nat) (s a : Nat) (op v : Int) (hs : s < 8) (ha : a < 16) (op1 : 1 ≤ op) (op4 : op ≤ 4) (hi : (k.sl e s).is = true) (hr0 : 0 ≤ (k.sl e s).rights ∧ (k.sl e s).rights ≤ 3) (hr1 : (k.sl e s).rights % 2 = 1) (f : Nat) (hf : f < 16) (hfr : (k.sl e s).frame = (f : Int)) (hh : holdsB op (k.mm f a) v = false) (he : (e : Int) < k.envs) (hk4 : k.envs ≤ 4) (hx : wordsIn 9 (s : Int) (a : Int) op v) (hchk : chkN 9 (s : Int) (a : Int) op v k.envs = 0) (w : World) (h : KernIs w K k) :
  Calls Tryz.prog 13 #[.pointer (some ⟨K, 0, none⟩), .int .i64 (e : Int), callV 9 (s : Int) (a : Int) op v] w fun x w' => x = .returned (ansV 0 0 false) ∧ KernIs w' K (k) ∧ OnlyT K w w' := by
 have HI := Lib.hid hi
 have HR0 := Lib.hid hr0
 have HR1 := Lib.hid hr1
 clear hi hr0 hr1
 have HFR := Lib.hid hfr
 have HH := Lib.hid hh
 clear hfr hh
 have H := Lib.hid (DoAt.start h 9 (s : Int) (a : Int) op v)
 obtain ⟨_, c1, _⟩ := h.sizes
 have lK := h.lt
 have HCK : Hid (∀ W, Calls Tryz.prog 50 #[callV 9 (s : Int) (a : Int) op v, .int .i64 k.envs] W fun x w' => x = .returned (.int .i64 0) ∧ Below W.heap.size W w') := fun W => by
  have h := ref_Check_any 9 (s : Int) (a : Int) op v k.envs hx (by unfold intIn; omega) W
  rw [hchk] at h
  exact h
 clear h hchk
 go_enter Tryz.func13, Tryz.ntmps13
 have e0 : ¬ (e : Int) < 0 := by omega
 have e1 : ¬ k.envs ≤ (e : Int) := by omega
 go_wp2_with fail
 obtain ⟨w1, hw1⟩ : ∃ w1, w1 = (w.alloc (.cells #[.int .u64 9, .int .u64 (s : Int), .int .u64 (a : Int), .int .u64 op, .int .u64 v] 36)).alloc (.cells #[.int .i64 0, .int .u64 0] 41) := ⟨_, rfl⟩
 obtain ⟨C, hC⟩ : ∃ C, C = w.heap.size := ⟨_, rfl⟩
 obtain ⟨R, hR⟩ : ∃ R, R = w.heap.size + 1 := ⟨_, rfl⟩
 rw [← hw1, ← hR, ← hC] at H
 rw [← hw1, ← hR, ← hC]
 clear hw1 hC hR c1
 have HD : Hid (DoAt w w1.drew K C R k 9 (s : Int) (a : Int) op v) := H.out.drewN 1
 have hS : w1.drew.cell? ⟨C, 0, none⟩ = some (.int .u64 9) ∧ w1.drew.cell? ⟨C, 1, none⟩ = some (.int .u64 (s : Int)) ∧ w1.drew.cell? ⟨C, 2, none⟩ = some (.int .u64 (a : Int)) ∧ w1.drew.cell? ⟨C, 3, none⟩ = some (.int .u64 op) ∧ w1.drew.cell? ⟨C, 4, none⟩ = some (.int .u64 v) ∧ w1.drew.cell? ⟨K, 1, none⟩ = some (.int .i64 k.envs) := HD.out.read
 clear H
 unfold callV at HCK
 go_region_held3 (fun w' => w'.cell? ⟨C, 0, none⟩ = some (.int .u64 9) ∧ w'.cell? ⟨C, 1, none⟩ = some (.int .u64 (s : Int)) ∧ w'.cell? ⟨C, 2, none⟩ = some (.int .u64 (a : Int)) ∧ w'.cell? ⟨C, 3, none⟩ = some (.int .u64 op) ∧ w'.cell? ⟨C, 4, none⟩ = some (.int .u64 v) ∧ w'.cell? ⟨K, 1, none⟩ = some (.int .i64 k.envs)) (exact hS)
  ((go_at_call 50; refine (HCK.out _).mono ?_; rintro x wn ⟨rfl, hb⟩; replace HD := Lib.hid (HD.out.later hb); have hS : wn.cell? ⟨C, 0, none⟩ = some (.int .u64 9) ∧ wn.cell? ⟨C, 1, none⟩ = some (.int .u64 (s : Int)) ∧ wn.cell? ⟨C, 2, none⟩ = some (.int .u64 (a : Int)) ∧ wn.cell? ⟨C, 3, none⟩ = some (.int .u64 op) ∧ wn.cell? ⟨C, 4, none⟩ = some (.int .u64 v) ∧ wn.cell? ⟨K, 1, none⟩ = some (.int .i64 k.envs) := HD.out.read; clear hb))
 all_goals
  have d0 := bk_cell HD.out.call 0
  have d1 := bk_cell HD.out.call 1
  have d2 := bk_cell HD.out.call 2
  have d3 := bk_cell HD.out.call 3
  have d4 := bk_cell HD.out.call 4
  clear hS
  go_wp2_with fail
  refine (Kind_is 9 (s : Int) (a : Int) op v (by decide) _).mono ?_
  rintro x wk ⟨rfl, hb⟩
  replace HD := Lib.hid (HD.out.later hb)
  clear hb d0 d1 d2 d3 d4
  have d1 := bk_cell HD.out.call 1
  obtain ⟨c0, c1, c2, c3, c4⟩ := HD.out.ker.slot (show e < 4 by omega) hs
  have lC := bk_lt HD.out.call
  have lK2 := HD.out.ker.lt
  have s0 : (0 : Int) ≤ (s : Int) := by omega
  have s1 : (s : Int) < 8 := by omega
  have e2 : (0 : Int) ≤ (e : Int) := by omega
  have e3 : (e : Int) < 4 := by omega
  go_wp2_with fail
  go_region
  obtain ⟨A, hA⟩ : ∃ A, A = wk.heap.size := ⟨_, rfl⟩
  obtain ⟨w3, hw3⟩ : ∃ w3, w3 = (wk.alloc (.cells #[.bool (k.sl e s).is, .int .i64 (k.sl e s).frame, .int .i64 (k.sl e s).rights, .int .i64 (k.sl e s).env, .int .i64 (k.sl e s).slot] 98)).drew := ⟨_, rfl⟩
  have hb : Below wk.heap.size wk w3 := by rw [hw3]; exact (Below.refl _ _).alloc (Nat.le_refl _) _ |>.drew
  have HA : Hid (w3.heap[A]? = some (.cells #[.bool (k.sl e s).is, .int .i64 (k.sl e s).frame, .int .i64 (k.sl e s).rights, .int .i64 (k.sl e s).env, .int .i64 (k.sl e s).slot] 98 (0, 0))) := by rw [hw3, hA]; exact heap_alloc_new wk _
  replace HD := Lib.hid (HD.out.later hb)
  rw [← hw3, ← hA]
  clear hw3 hA hb
  clear lC lK2 c0 c1 c2 c3 c4 d1
  have a0 := bk_cell HA.out 0
  rw [HI.out] at a0
  have a2 := bk_cell HA.out 2
  obtain ⟨rr, hrr⟩ : ∃ rr, (k.sl e s).rights = rr := ⟨_, rfl⟩
  have q1 := HR0.out
  have q2 := HR1.out
  rw [hrr] at a2 q1 q2
  clear hrr
  obtain ⟨q0, q3⟩ := q1
  have q4 : rr.tmod 2 = 1 := by rw [Int.tmod_eq_emod_of_nonneg q0]; exact q2
  have a1 := bk_cell HA.out 1
  rw [HFR.out] at a1
  have d2 := bk_cell HD.out.call 2
  have f0 : (0 : Int) ≤ (f : Int) := by omega
  have f1 : (f : Int) < 16 := by omega
  have t0 : (0 : Int) ≤ (a : Int) := by omega
  have t1 : (a : Int) < 16 := by omega
  have m0 := HD.out.ker.word hf ha
  go_wp2_with fail
  go_quiet (fail)
  obtain ⟨w4, hw4⟩ : ∃ w4, w4 = w3.drewN nq := ⟨_, rfl⟩
  replace HD : Hid (DoAt w w4 K C R k 9 (s : Int) (a : Int) op v) := by rw [hw4]; exact HD.out.drewN _
  rw [← hw4]
  clear hw4 HA a0 a1 a2 d2 m0
  have d3 := bk_cell HD.out.call 3
  have d4 := bk_cell HD.out.call 4
  have wop : IntKind.i64.wrap op = op := by rw [Go.IntWalk.i64_in _ (by omega)]
  have HH2 := kref_holds op (k.mm f a) v w4
  rw [HH.out] at HH2
  go_wp2_with fail
  refine HH2.mono ?_
  rintro x wl ⟨rfl, rfl⟩
  clear HH2 d3 d4
  have r0 := bk_cell HD.out.ans 0
  have r1 := bk_cell HD.out.ans 1
  have g0 := bk_free HD.out.ans 0
  have g1 := bk_free HD.out.ans 1
  go_wp2_with fail
  exact bodyPost_ret (v := .tuple #[.agg #[.int .i64 0, .int .u64 0], .bool false]) (by simp [results, Tryz.results13, go_sem, r0, r1]) rfl ⟨rfl, (HD.out.told _ _).1, (HD.out.told _ _).2⟩
end Go.Proofs.YtdfhfmdelinemaaGreatDoor
