/- What is proved here: contracts of the reference's buffer (messuageref2): Fill. Conditions: a buffer lies in the block that is named. -/
import Derived.Test.YtmifcfkchnilmaaGreatDoorBref
namespace Go.Proofs.YtmifcfkchnilmaaGreatDoor
open Go.RowKit Go.Extern.Stop Go.Stop Go.Extern
set_option maxRecDepth 100000 in
set_option maxHeartbeats 2000000 in
theorem rfill_no (R : Nat) (e p f r : Int) (w : World) (h : lineB e p f r = false) : Calls Tryz.prog 38 #[.pointer (some ⟨R, 0, none⟩), .agg #[.int .i64 e, .int .i64 p, .int .i64 f, .int .i64 r]] w fun e' w' => e' = .returned (.bool false) ∧ Below w.heap.size w w' := by
  have hn := Lib.hid (lineB_no h)
  clear h
  by_cases h1 : e < 0
  · go_enter Tryz.func38, Tryz.ntmps38
    go_wp2_with fail
    go_ret
    exact ⟨rfl, (Below.refl _ _).alloc (Nat.le_refl _) _⟩
  by_cases h2 : 4 ≤ e
  · go_enter Tryz.func38, Tryz.ntmps38
    go_wp2_with fail
    go_ret
    exact ⟨rfl, (Below.refl _ _).alloc (Nat.le_refl _) _⟩
  by_cases h3 : p < 0
  · go_enter Tryz.func38, Tryz.ntmps38
    go_wp2_with fail
    go_ret
    exact ⟨rfl, (Below.refl _ _).alloc (Nat.le_refl _) _⟩
  by_cases h4 : 8 ≤ p
  · go_enter Tryz.func38, Tryz.ntmps38
    go_wp2_with fail
    go_ret
    exact ⟨rfl, (Below.refl _ _).alloc (Nat.le_refl _) _⟩
  by_cases h5 : f < 0
  · go_enter Tryz.func38, Tryz.ntmps38
    go_wp2_with fail
    go_ret
    exact ⟨rfl, (Below.refl _ _).alloc (Nat.le_refl _) _⟩
  by_cases h6 : 16 ≤ f
  · go_enter Tryz.func38, Tryz.ntmps38
    go_wp2_with fail
    go_ret
    exact ⟨rfl, (Below.refl _ _).alloc (Nat.le_refl _) _⟩
  have hr : Hid (mayB r = false) := by
    have := hn.out
    show mayB r = false
    simp only [mayB, Bool.and_eq_false_iff, decide_eq_false_iff_not]
    omega
  go_enter Tryz.func38, Tryz.ntmps38
  go_wp2_with (refine (ref_may_no r hr.out _).mono ?_; rintro e w1 ⟨rfl, rfl⟩)
  go_ret
  exact ⟨rfl, (Below.refl _ _).alloc (Nat.le_refl _) _⟩
def FS (R B k : Nat) (e p f r n : Int) (W : World) : Prop :=
  W.cell? ⟨B, 0, none⟩ = some (.int .i64 e) ∧ W.cell? ⟨B, 1, none⟩ = some (.int .i64 p) ∧ W.cell? ⟨B, 2, none⟩ = some (.int .i64 f) ∧ W.cell? ⟨B, 3, none⟩ = some (.int .i64 r) ∧ W.cell? ⟨R, 40, none⟩ = some (.int .i64 n) ∧ (∃ x : Int, W.cell? ⟨R, 32 + k, none⟩ = some (.int .i64 x)) ∧ W.frozen? ⟨R, 32 + k, none⟩ = false
theorem set_far {T S j i : Nat} (hne : ¬ T = S) (w : World) (v : Value) : (w.setCell ⟨T, j, none⟩ v).cell? ⟨S, i, none⟩ = w.cell? ⟨S, i, none⟩ :=
  World.cell?_setCell_other _ _ _ _ (fun e => hne (congrArg Addr.block e))
theorem set_ne {T j i : Nat} (hne : ¬ j = i) (w : World) (v : Value) : (w.setCell ⟨T, j, none⟩ v).cell? ⟨T, i, none⟩ = w.cell? ⟨T, i, none⟩ :=
  World.cell?_setCell_other _ _ _ _ (fun e => hne (congrArg Addr.off e))
theorem FS.one {R B k j : Nat} {e p f r n : Int} {W : World} (h : FS R B k e p f r n W) (hne : ¬ R = B) (h40 : ¬ j = 40) (hk : ¬ j = 32 + k) (v : Value) : FS R B k e p f r n (W.setCell ⟨R, j, none⟩ v) := by
  obtain ⟨h0, h1, h2, h3, h4, ⟨x, h5⟩, h6⟩ := h
  exact ⟨(set_far hne _ _).trans h0, (set_far hne _ _).trans h1, (set_far hne _ _).trans h2, (set_far hne _ _).trans h3, (set_ne h40 _ _).trans h4, ⟨x, (set_ne hk _ _).trans h5⟩, by rw [World.frozen?_setCell]; exact h6⟩
theorem FS.drew {R B k : Nat} {e p f r n : Int} {W : World} (h : FS R B k e p f r n W) : FS R B k e p f r n W.drew := h
theorem FS.line {R B k : Nat} {e p f r n : Int} {W : World} (h : FS R B k e p f r n W) (hne : ¬ R = B) (hk : k < 8) (a b c d : Value) : FS R B k e p f r n (((((W.setCell ⟨R, k * 4, none⟩ a).setCell ⟨R, k * 4 + 1, none⟩ b).setCell ⟨R, k * 4 + 2, none⟩ c).setCell ⟨R, k * 4 + 3, none⟩ d).drew) :=
  FS.drew ((((h.one hne (by omega) (by omega) _).one hne (by omega) (by omega) _).one hne (by omega) (by omega) _).one hne (by omega) (by omega) _)
theorem FS.last {R B k : Nat} {e p f r n m : Int} {W : World} (h : FS R B k e p f r n W) (hne : ¬ R = B) (hk : k < 8) : FS R B k e p f r n ((W.setCell ⟨R, 32 + k, none⟩ (.int .i64 m)).drew) := by
  obtain ⟨h0, h1, h2, h3, h4, ⟨x, h5⟩, h6⟩ := h
  exact FS.drew ⟨(set_far hne _ _).trans h0, (set_far hne _ _).trans h1, (set_far hne _ _).trans h2, (set_far hne _ _).trans h3, (set_ne (by omega) _ _).trans h4, ⟨m, World.cell?_setCell_same _ _ _ h5⟩, by rw [World.frozen?_setCell]; exact h6⟩
theorem NumsIs.fillH {w : World} {R k : Nat} {h : Nat → Int} (hm : NumsIs 41 w R (fun j => if j = 40 then h 40 + 1 else h j)) (hk : k < 8) (e p f r : Int) :
    NumsIs 41 (((((w.setCell ⟨R, k * 4, none⟩ (.int .i64 e)).setCell ⟨R, k * 4 + 1, none⟩ (.int .i64 p)).setCell ⟨R, k * 4 + 2, none⟩ (.int .i64 f)).setCell ⟨R, k * 4 + 3, none⟩ (.int .i64 r)).setCell ⟨R, 32 + k, none⟩ (.int .i64 (h 40 + 1))) R (fillH h k e p f r) :=
  ((((hm.set (i := k * 4) (by omega) e).set (i := k * 4 + 1) (by omega) p).set (i := k * 4 + 2) (by omega) f).set (i := k * 4 + 3) (by omega) r).set (i := 32 + k) (by omega) (h 40 + 1)
set_option maxRecDepth 100000 in
set_option maxHeartbeats 4000000 in
theorem rfill_hit (R : Nat) (h : Nat → Int) (e p f r : Int) (w : World) (ht : NumsIs 41 w R h) (h40 : 0 ≤ h 40 ∧ h 40 ≤ 1000) (hl : lineB e p f r = true) (n : Nat) (hn8 : n < 8) (hit : rhitB h e p n = true) (hn : ∀ k, k < n → rhitB h e p k = false) : Calls Tryz.prog 38 #[.pointer (some ⟨R, 0, none⟩), .agg #[.int .i64 e, .int .i64 p, .int .i64 f, .int .i64 r]] w fun e' w' => e' = .returned (.bool true) ∧ NumsIs 41 w' R (fillH h n e p f r) ∧ OnlyT R w w' := by
  obtain ⟨⟨e1', e2'⟩, ⟨p1, p2⟩, ⟨f1, f2⟩, r1, r2⟩ := lineB_yes hl
  obtain ⟨s, hs, hps, _⟩ := set_of p (by omega)
  have HT := Lib.hid ht
  have HN := Lib.hid hn
  have HH := Lib.hid hit
  have HK := Lib.hid hn8
  have HRB : Hid (¬ R = w.heap.size) := by have := ht.2.2; show ¬ R = w.heap.size; omega
  obtain ⟨h401, h402⟩ := h40
  clear ht hn hit hl
  have hx : (0 : Int) ≤ (n : Int) := by omega
  have hy : (n : Int) < 8 := by omega
  go_enter Tryz.func38, Tryz.ntmps38
  have T1 := Lib.hid (HT.out.alloc (.cells #[.int .i64 e, .int .i64 p, .int .i64 f, .int .i64 r] 78))
  have K1 := Lib.hid (heap_alloc_new w (.cells #[.int .i64 e, .int .i64 p, .int .i64 f, .int .i64 r] 78))
  have B1 := Lib.hid ((Below.refl w.heap.size w).alloc (Nat.le_refl _) (.cells #[.int .i64 e, .int .i64 p, .int .i64 f, .int .i64 r] 78))
  go_wp2_with (refine (ref_may_yes r r1 r2 _).mono ?_; rintro e w1 ⟨rfl, rfl⟩)
  go_wp2_with fail
  refine (rfind_hit R h e p _ T1.out n hn8 HH.out HN.out).mono ?_
  rintro e' w1 ⟨rfl, hw1⟩
  rw [hw1] at T1 B1 K1
  clear hw1
  have c1 := bk_cell K1.out 1
  go_wp2_with fail
  clear c1
  go_loop [5, 7] (fun i c => i = .int .i64 (n : Int) ∧ c = .int .i64 ((s : Int) * 2)) (fun _ _ => 0)
  case atStart => exact ⟨rfl, rfl⟩
  case round =>
    obtain ⟨rfl, rfl⟩ := hrel
    have l0 := T1.out.1 40 (by omega)
    have q0 := T1.out.2.1 40
    go_wp2_with fail
    obtain ⟨w4, hw4⟩ : ∃ w4, w4 = w1.setCell ⟨R, 40, none⟩ (.int .i64 (h 40 + 1)) := ⟨_, rfl⟩
    have T4 : Hid (NumsIs 41 w4 R (fun j => if j = 40 then h 40 + 1 else h j)) := by rw [hw4]; exact T1.out.set (i := 40) (by omega) _
    have O4 : Hid (OnlyT R w w4) := by rw [hw4]; exact tp_set (tp_below B1.out) _ _
    have K4 : Hid (w4.heap[w.heap.size]? = some (.cells #[.int .i64 e, .int .i64 p, .int .i64 f, .int .i64 r] 78 (0, 0))) := by
      rw [hw4, Below.heap_setCell _ _ _ _ (show w.heap.size ≠ R from fun he => HRB.out he.symm)]; exact K1.out
    rw [← hw4]
    clear hw4 l0 q0
    clear T1 B1 K1
    have hF : FS R w.heap.size n e p f r (h 40 + 1) w4.drew := ⟨bk_cell K4.out 0, bk_cell K4.out 1, bk_cell K4.out 2, bk_cell K4.out 3, T4.out.1 40 (by omega), ⟨_, T4.out.1 (32 + n) (by have := HK.out; omega)⟩, T4.out.2.1 (32 + n)⟩
    refine wp_region_held_drew (S := FS R w.heap.size n e p f r (h 40 + 1)) (by kernel_rfl) hF (fun hHeld => ?_)
    clear hF
    have hk8 := HK.out
    have d0 := T4.out.1 (n * 4) (by omega)
    have d1 := T4.out.1 (n * 4 + 1) (by omega)
    have d2 := T4.out.1 (n * 4 + 2) (by omega)
    have d3 := T4.out.1 (n * 4 + 3) (by omega)
    have e0 := T4.out.2.1 (n * 4)
    have e1 := T4.out.2.1 (n * 4 + 1)
    have e2 := T4.out.2.1 (n * 4 + 2)
    have e3 := T4.out.2.1 (n * 4 + 3)
    refine wpAnyH_take (i := 0) (oi := ⟨some 98, _, _, _, _, _⟩) (v := ?_) rfl (by kernel_rfl) (by kernel_rfl) (by kernel_rfl) (fun _ _ _ h => h) (Or.inl ⟨by rfl, ?_⟩) (by assumption) ?_
    rotate_left
    · (intro w hSw; unfold FS at hSw; go_simp <;> with_reducible rfl)
    simp only [Act.put, List.setIfInBounds_toArray, List.set_cons_zero, List.set_cons_succ]
    refine wpAnyH_take (i := 1) (oi := ⟨some 99, _, _, _, _, _⟩) (v := ?_) rfl (by kernel_rfl) (by kernel_rfl) (by kernel_rfl) (fun _ _ _ h => h) (Or.inl ⟨by rfl, ?_⟩) (by assumption) ?_
    rotate_left
    · (intro w hSw; unfold FS at hSw; go_simp <;> with_reducible rfl)
    simp only [Act.put, List.setIfInBounds_toArray, List.set_cons_zero, List.set_cons_succ]
    refine wpAnyH_take (i := 2) (oi := ⟨some 100, _, _, _, _, _⟩) (v := ?_) rfl (by kernel_rfl) (by kernel_rfl) (by kernel_rfl) (fun _ _ _ h => h) (Or.inl ⟨by rfl, ?_⟩) (by assumption) ?_
    rotate_left
    · (intro w hSw; unfold FS at hSw; go_simp <;> with_reducible rfl)
    simp only [Act.put, List.setIfInBounds_toArray, List.set_cons_zero, List.set_cons_succ]
    refine wpAnyH_take (i := 3) (oi := ⟨some 101, _, _, _, _, _⟩) (v := ?_) rfl (by kernel_rfl) (by kernel_rfl) (by kernel_rfl) (fun _ _ _ h => h) (Or.inl ⟨by rfl, ?_⟩) (by assumption) ?_
    rotate_left
    · (intro w hSw; unfold FS at hSw; go_simp <;> with_reducible rfl)
    simp only [Act.put, List.setIfInBounds_toArray, List.set_cons_zero, List.set_cons_succ]
    refine wpAnyH_take (i := 4) (oi := ⟨some 102, _, _, _, _, _⟩) (v := ?_) rfl (by kernel_rfl) (by kernel_rfl) (by kernel_rfl) (fun _ _ _ h => h) (Or.inl ⟨by rfl, ?_⟩) (by assumption) ?_
    rotate_left
    · (intro w hSw; unfold FS at hSw; go_simp <;> with_reducible rfl)
    simp only [Act.put, List.setIfInBounds_toArray, List.set_cons_zero, List.set_cons_succ]
    refine wpAnyH_take (i := 5) (oi := ⟨some 103, _, _, _, _, _⟩) (v := ?_) rfl (by kernel_rfl) (by kernel_rfl) (by kernel_rfl) (fun _ _ _ h => h) (Or.inl ⟨by rfl, ?_⟩) (by assumption) ?_
    rotate_left
    · (intro w hSw; unfold FS at hSw; go_simp <;> with_reducible rfl)
    simp only [Act.put, List.setIfInBounds_toArray, List.set_cons_zero, List.set_cons_succ]
    refine wpAnyH_take (i := 6) (oi := ⟨some 104, _, _, _, _, _⟩) (v := ?_) rfl (by kernel_rfl) (by kernel_rfl) (by kernel_rfl) (fun _ _ _ h => h) (Or.inl ⟨by rfl, ?_⟩) (by assumption) ?_
    rotate_left
    · (intro w hSw; unfold FS at hSw; go_simp <;> with_reducible rfl)
    simp only [Act.put, List.setIfInBounds_toArray, List.set_cons_zero, List.set_cons_succ]
    refine wpAnyH_take (i := 7) (oi := ⟨some 105, _, _, _, _, _⟩) (v := ?_) rfl (by kernel_rfl) (by kernel_rfl) (by kernel_rfl) (fun _ _ _ h => h) (Or.inl ⟨by rfl, ?_⟩) (by assumption) ?_
    rotate_left
    · (intro w hSw; unfold FS at hSw; go_simp <;> with_reducible rfl)
    simp only [Act.put, List.setIfInBounds_toArray, List.set_cons_zero, List.set_cons_succ]
    refine wpAnyH_take (i := 8) (oi := ⟨some 106, _, _, _, _, _⟩) (v := ?_) rfl (by kernel_rfl) (by kernel_rfl) (by kernel_rfl) (fun _ _ _ h => h) (Or.inl ⟨by rfl, ?_⟩) (by assumption) ?_
    rotate_left
    · (intro w hSw; unfold FS at hSw; go_simp <;> with_reducible rfl)
    simp only [Act.put, List.setIfInBounds_toArray, List.set_cons_zero, List.set_cons_succ]
    refine wpAnyH_take (i := 9) (oi := ⟨some 107, _, _, _, _, _⟩) (v := ?_) rfl (by kernel_rfl) (by kernel_rfl) (by kernel_rfl) (fun _ _ _ h => h) (Or.inl ⟨by rfl, ?_⟩) (by assumption) ?_
    rotate_left
    · (intro w hSw; unfold FS at hSw; go_simp <;> with_reducible rfl)
    simp only [Act.put, List.setIfInBounds_toArray, List.set_cons_zero, List.set_cons_succ]
    refine wpAnyH_take (i := 10) (oi := ⟨some 108, _, _, _, _, _⟩) (v := ?_) rfl (by kernel_rfl) (by kernel_rfl) (by kernel_rfl) (fun _ _ _ h => h) (Or.inl ⟨by rfl, ?_⟩) (by assumption) ?_
    rotate_left
    · (intro w hSw; unfold FS at hSw; go_simp <;> with_reducible rfl)
    simp only [Act.put, List.setIfInBounds_toArray, List.set_cons_zero, List.set_cons_succ]
    refine wpAnyH_take (i := 11) (oi := ⟨some 109, _, _, _, _, _⟩) (v := ?_) rfl (by kernel_rfl) (by kernel_rfl) (by kernel_rfl) (fun _ _ _ h => h) (Or.inl ⟨by rfl, ?_⟩) (by assumption) ?_
    rotate_left
    · (intro w hSw; unfold FS at hSw; go_simp <;> with_reducible rfl)
    simp only [Act.put, List.setIfInBounds_toArray, List.set_cons_zero, List.set_cons_succ]
    refine wpAnyH_take (i := 13) (oi := ⟨some 110, _, _, _, _, _⟩) (v := ?_) rfl (by kernel_rfl) (by kernel_rfl) (by kernel_rfl) (fun _ _ _ h => h) (Or.inl ⟨by rfl, ?_⟩) (by assumption) ?_
    rotate_left
    · (intro w hSw; unfold FS at hSw; go_simp <;> with_reducible rfl)
    simp only [Act.put, List.setIfInBounds_toArray, List.set_cons_zero, List.set_cons_succ]
    refine wpAnyH_take (i := 14) (oi := ⟨some 111, _, _, _, _, _⟩) (v := ?_) rfl (by kernel_rfl) (by kernel_rfl) (by kernel_rfl) (fun _ _ _ h => h) (Or.inl ⟨by rfl, ?_⟩) (by assumption) ?_
    rotate_left
    · (intro w hSw; unfold FS at hSw; go_simp <;> with_reducible rfl)
    simp only [Act.put, List.setIfInBounds_toArray, List.set_cons_zero, List.set_cons_succ]
    refine wpAnyH_ready (rs := [12]) (by kernel_rfl) (by simp) ?_
    refine AllReadyH.cons (o := ⟨none, _, _, _, _, _⟩) rfl (fun K hK => ?_) AllReadyH.nil
    have hF := hHeld
    unfold FS at hF
    obtain ⟨_, _, _, _, hF4, ⟨xq, hF5⟩, hF6⟩ := hF
    have hG5 := hF5
    have hG6 := hF6
    rw [World.cell?_drew] at hG5
    rw [World.frozen?_drew] at hG6
    go_simp
    refine hK _ _ (FS.line hHeld HRB.out HK.out _ _ _ _) (fun hHeld => ?_)
    clear hF4 hF5 hF6 hG5 hG6 hK K
    try simp only [Act.put, List.setIfInBounds_toArray, List.set_cons_zero, List.set_cons_succ]
    refine wpAnyH_take (i := 15) (oi := ⟨some 112, _, _, _, _, _⟩) (v := ?_) rfl (by kernel_rfl) (by kernel_rfl) (by kernel_rfl) (fun _ _ _ h => h) (Or.inl ⟨by rfl, ?_⟩) (by assumption) ?_
    rotate_left
    · (intro w hSw; unfold FS at hSw; go_simp <;> with_reducible rfl)
    simp only [Act.put, List.setIfInBounds_toArray, List.set_cons_zero, List.set_cons_succ]
    refine wpAnyH_ready (rs := [16]) (by kernel_rfl) (by simp) ?_
    refine AllReadyH.cons (o := ⟨none, _, _, _, _, _⟩) rfl (fun K hK => ?_) AllReadyH.nil
    have hF := hHeld
    unfold FS at hF
    obtain ⟨_, _, _, _, hF4, ⟨xq, hF5⟩, hF6⟩ := hF
    have hG5 := hF5
    have hG6 := hF6
    rw [World.cell?_drew] at hG5
    rw [World.frozen?_drew] at hG6
    go_simp
    refine hK _ _ (FS.last hHeld HRB.out HK.out) (fun hHeld => ?_)
    clear hF4 hF5 hF6 hG5 hG6 hK K
    try simp only [Act.put, List.setIfInBounds_toArray, List.set_cons_zero, List.set_cons_succ]
    refine wpAnyH_done (by kernel_rfl) ?_ _
    go_wp2_with fail
    go_ret
    exact ⟨rfl, (T4.out.fillH HK.out e p f r).drew, tp_drew (tp_set (tp_line O4.out _ _ _ _) _ _)⟩
end Go.Proofs.YtmifcfkchnilmaaGreatDoor

