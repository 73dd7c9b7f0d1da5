/- What is proved here: contracts of the reference's buffer (messuageref2): Fill. Conditions: a buffer lies in the block that is named. -/
import Derived.Test.YtmifcfkchnilmaaGreatDoorBref2
import Derived.Deep.DeepCutAuto
import Derived.Deep.CutBlock
namespace Go.Proofs.YtmifcfkchnilmaaGreatDoor
open Go.RowKit Go.Extern.Stop Go.Stop Go.Extern
def FilAt (h : Nat → Int) (F : Nat) (i c : Value) : Prop :=
  (i = .int .i64 (-1) ∧ c = .int .i64 (F : Int)) ∨ (i = .int .i64 (F : Int) ∧ c = .int .i64 ((F : Int) + 1) ∧ h (F * 4) < 0) ∨ (i = .int .i64 (-1) ∧ c = .int .i64 ((F : Int) + 1) ∧ ¬ h (F * 4) < 0) ∨
  (i = .int .i64 ((F : Int) + 1) ∧ c = .int .i64 ((F : Int) + 2) ∧ ¬ h (F * 4) < 0 ∧ h ((F + 1) * 4) < 0) ∨ (i = .int .i64 (-1) ∧ c = .int .i64 ((F : Int) + 2) ∧ ¬ h (F * 4) < 0 ∧ ¬ h ((F + 1) * 4) < 0)
def FilOut (h : Nat → Int) (F : Nat) (i : Value) : Prop :=
  (i = .int .i64 (F : Int) ∧ h (F * 4) < 0) ∨ (i = .int .i64 ((F : Int) + 1) ∧ ¬ h (F * 4) < 0 ∧ h ((F + 1) * 4) < 0) ∨ (i = .int .i64 (-1) ∧ ¬ h (F * 4) < 0 ∧ ¬ h ((F + 1) * 4) < 0)
theorem fil_int {h : Nat → Int} {F : Nat} {v : Value} (ho : FilOut h F v) : ∃ x : Int, v = .int .i64 x ∧ Hid ((x = (F : Int) ∧ h (F * 4) < 0) ∨ (x = (F : Int) + 1 ∧ ¬ h (F * 4) < 0 ∧ h ((F + 1) * 4) < 0) ∨ (x = -1 ∧ ¬ h (F * 4) < 0 ∧ ¬ h ((F + 1) * 4) < 0)) := by
  rcases ho with ⟨h0, h1⟩ | ⟨h0, h1⟩ | ⟨h0, h1⟩
  · exact ⟨_, h0, .inl ⟨rfl, h1⟩⟩
  · exact ⟨_, h0, .inr (.inl ⟨rfl, h1⟩)⟩
  · exact ⟨_, h0, .inr (.inr ⟨rfl, h1⟩)⟩
set_option maxRecDepth 100000 in
set_option maxHeartbeats 8000000 in
theorem rfill_new (R : Nat) (h : Nat → Int) (e p f r : Int) (w : World) (ht : NumsIs 41 w R h) (h40 : 0 ≤ h 40 ∧ h 40 ≤ 1000) (hl : lineB e p f r = true) (hn : ∀ k, k < 8 → rhitB h e p k = false) (s : Nat) (hs : s < 4) (hps2 : p % 4 = (s : Int)) : Calls Tryz.prog 38 #[.pointer (some ⟨R, 0, none⟩), .agg #[.int .i64 e, .int .i64 p, .int .i64 f, .int .i64 r]] w fun e' w' => e' = .returned (.bool true) ∧ NumsIs 41 w' R (fillH h (rold h s) e p f r) ∧ OnlyT R w w' := by
  obtain ⟨⟨e1', e2'⟩, ⟨p1, p2⟩, ⟨f1, f2⟩, r1, r2⟩ := lineB_yes hl
  obtain ⟨F, hF⟩ : ∃ F, F = s * 2 := ⟨_, rfl⟩
  have hps : p.tmod 4 = (s : Int) := by rw [Int.tmod_eq_emod_of_nonneg p1]; exact hps2
  have hsF : (s : Int) * 2 = (F : Int) := by omega
  have HT := Lib.hid ht
  have HN := Lib.hid hn
  obtain ⟨K, hKe⟩ : ∃ K, K = rold h s := ⟨_, rfl⟩
  have HK : Hid (K < 8) := by
    show K < 8
    rw [hKe]; unfold rold; split <;> (try split) <;> (try split) <;> omega
  have hKF : ((h (F * 4) < 0 → K = F) ∧ (¬ h (F * 4) < 0 → h ((F + 1) * 4) < 0 → K = F + 1) ∧ (¬ h (F * 4) < 0 → ¬ h ((F + 1) * 4) < 0 → h (32 + (F + 1)) < h (32 + F) → K = F + 1) ∧ (¬ h (F * 4) < 0 → ¬ h ((F + 1) * 4) < 0 → ¬ h (32 + (F + 1)) < h (32 + F) → K = F)) := by
    rw [hKe, hF]; unfold rold
    exact ⟨fun a => if_pos a, fun a b => by rw [if_neg a, if_pos b], fun a b c => by rw [if_neg a, if_neg b, if_pos c], fun a b c => by rw [if_neg a, if_neg b, if_neg c]⟩
  have HKF := Lib.hid hKF
  clear hKF
  rw [← hKe]
  have HRB : Hid (¬ R = w.heap.size) := by have := ht.2.2; show ¬ R = w.heap.size; omega
  have hF6 : (F : Int) ≤ 6 := by omega
  have hF8 : F < 7 := by omega
  have hF0 : (0 : Int) ≤ (F : Int) := by omega
  obtain ⟨h401, h402⟩ := h40
  clear ht hn hl hps2 hKe
  have HPS := Lib.hid hps
  have HSF := Lib.hid hsF
  clear hps hsF hF
  go_enter Tryz.func38, Tryz.ntmps38
  have T1 := Lib.hid (HT.out.alloc (.cells #[.int .i64 e, .int .i64 p, .int .i64 f, .int .i64 r] 78))
  have K1 := Lib.hid (heap_alloc_new w (.cells #[.int .i64 e, .int .i64 p, .int .i64 f, .int .i64 r] 78))
  have B1 := Lib.hid ((Below.refl w.heap.size w).alloc (Nat.le_refl _) (.cells #[.int .i64 e, .int .i64 p, .int .i64 f, .int .i64 r] 78))
  go_wp2_with (refine (ref_may_yes r r1 r2 _).mono ?_; rintro e w1 ⟨rfl, rfl⟩)
  go_wp2_with fail
  refine (rfind_none R h e p _ T1.out HN.out).mono ?_
  rintro e' w1 ⟨rfl, hw1⟩
  rw [hw1] at T1 B1 K1
  clear hw1
  have c1 := bk_cell K1.out 1
  have hps := HPS.out
  go_upto_block 0 with (fail)
  rw [HSF.out]
  clear c1 hps HPS HSF
  have hnat : ((F : Int) + 1).toNat = F + 1 := by omega
  have hFi : (F : Int) < 8 := by omega
  have hFj : (F : Int) + 1 < 8 := by omega
  have hFk : (0 : Int) ≤ (F : Int) + 1 := by omega
  go_cut [5, 7] (fun i _ W => FilOut h F i ∧ W = w1)
  case first =>
    have d0 := T1.out.1 (F * 4) (by omega)
    have d1 := T1.out.1 ((F + 1) * 4) (by omega)
    go_wp2_with fail
    go_loop [5, 7] (fun i c => FilAt h F i c) (fun _ c => ((F : Int) + 2 - intOf c).toNat)
    case atStart => exact .inl ⟨rfl, rfl⟩
    case round =>
      rcases hrel with ⟨rfl, rfl⟩ | ⟨rfl, rfl, ha⟩ | ⟨rfl, rfl, ha⟩ | ⟨rfl, rfl, ha, hb⟩ | ⟨rfl, rfl, ha, hb⟩
      · by_cases ha : h (F * 4) < 0
        · go_wp2_with fail
          go_round
          case rel => exact .inr (.inl ⟨rfl, rfl, ha⟩)
          case measure => simp [intOf]; omega
        · go_wp2_with fail
          go_round
          case rel => exact .inr (.inr (.inl ⟨rfl, rfl, ha⟩))
          case measure => simp [intOf]; omega
      · go_wp2_with fail
        go_meet
        case rel => exact ⟨.inl ⟨rfl, ha⟩, rfl⟩
      · by_cases hb : h ((F + 1) * 4) < 0
        · go_wp2_with fail
          go_round
          case rel => exact .inr (.inr (.inr (.inl ⟨rfl, by go_num, ha, hb⟩)))
          case measure => simp [intOf]; omega
        · go_wp2_with fail
          go_round
          case rel => exact .inr (.inr (.inr (.inr ⟨rfl, by go_num, ha, hb⟩)))
          case measure => simp [intOf]; omega
      · go_wp2_with fail
        go_meet
        case rel => exact ⟨.inr (.inl ⟨rfl, by omega, hb⟩), rfl⟩
      · go_wp2_with fail
        go_meet
        case rel => exact ⟨.inr (.inr ⟨rfl, by omega, by omega⟩), rfl⟩
  case rest =>
    obtain ⟨ho, hwc⟩ := hcut
    rw [← hwc] at T1 B1 K1
    clear hwc
    obtain ⟨x, hx, HX⟩ := fil_int ho
    clear ho
    subst hx
    go_upto_if 73 with (fail)
    go_cut [5] (fun v W => v = .int .i64 (K : Int) ∧ NumsIs 41 W R h ∧ Below w.heap.size w W ∧ W.heap[w.heap.size]? = some (.cells #[.int .i64 e, .int .i64 p, .int .i64 f, .int .i64 r] 78 (0, 0)))
    case first =>
      rcases HX.out with ⟨rfl, ha⟩ | ⟨rfl, ha, hb⟩ | ⟨rfl, ha, hb⟩
      · go_wp2_with fail
        go_meet
        case rel => exact ⟨by rw [HKF.out.1 ha], T1.out, B1.out, K1.out⟩
      · go_wp2_with fail
        go_meet
        case rel => exact ⟨by rw [HKF.out.2.1 (by omega) (by omega)]; go_num, T1.out, B1.out, K1.out⟩
      · have l1 := T1.out.1 (32 + F) (by omega)
        have l2 := T1.out.1 (32 + (F + 1)) (by omega)
        by_cases hlt : h (32 + (F + 1)) < h (32 + F)
        · go_wp2_with fail
          go_quiet (fail)
          go_wp2_with fail
          go_meet
          case rel => exact ⟨by rw [HKF.out.2.2.1 (by omega) (by omega) (by omega)]; go_num, T1.out.drewN _, dn B1.out _, K1.out⟩
        · have hle : h (32 + F) ≤ h (32 + (F + 1)) := by omega
          go_wp2_with fail
          go_quiet (fail)
          go_wp2_with fail
          go_meet
          case rel => exact ⟨by rw [HKF.out.2.2.2 (by omega) (by omega) (by omega)], T1.out.drewN _, dn B1.out _, K1.out⟩
    case rest =>
      obtain ⟨rfl, ht, hb, hk⟩ := hcut
      clear T1 B1 K1 HX
      have T1 := Lib.hid ht
      have B1 := Lib.hid hb
      have K1 := Lib.hid hk
      have hKi : (K : Int) < 8 := by have := HK.out; omega
      have hKj : (0 : Int) ≤ (K : Int) := by omega
      clear ht hb hk
      have l0 := T1.out.1 40 (by omega)
      have q0 := T1.out.2.1 40
      go_wp2_with fail
      obtain ⟨w4, hw4⟩ : ∃ w4, w4 = wc.setCell ⟨R, 40, none⟩ (.int .i64 (h 40 + 1)) := ⟨_, rfl⟩
      have T4 : Hid (NumsIs 41 w4 R (fun j => if j = 40 then h 40 + 1 else h j)) := by rw [hw4]; exact T1.out.set (i := 40) (by omega) _
      have O4 : Hid (OnlyT R w w4) := by rw [hw4]; exact tp_set (tp_below B1.out) _ _
      have K4 : Hid (w4.heap[w.heap.size]? = some (.cells #[.int .i64 e, .int .i64 p, .int .i64 f, .int .i64 r] 78 (0, 0))) := by
        rw [hw4, Below.heap_setCell _ _ _ _ (show w.heap.size ≠ R from fun he => HRB.out he.symm)]; exact K1.out
      rw [← hw4]
      clear hw4 l0 q0
      clear T1 B1 K1
      have hF : FS R w.heap.size K e p f r (h 40 + 1) w4.drew := ⟨bk_cell K4.out 0, bk_cell K4.out 1, bk_cell K4.out 2, bk_cell K4.out 3, T4.out.1 40 (by omega), ⟨_, T4.out.1 (32 + K) (by have := HK.out; omega)⟩, T4.out.2.1 (32 + K)⟩
      refine wp_region_held_drew (S := FS R w.heap.size K e p f r (h 40 + 1)) (by kernel_rfl) hF (fun hHeld => ?_)
      clear hF
      have hk8 := HK.out
      have d0 := T4.out.1 (K * 4) (by omega)
      have d1 := T4.out.1 (K * 4 + 1) (by omega)
      have d2 := T4.out.1 (K * 4 + 2) (by omega)
      have d3 := T4.out.1 (K * 4 + 3) (by omega)
      have e0 := T4.out.2.1 (K * 4)
      have e1 := T4.out.2.1 (K * 4 + 1)
      have e2 := T4.out.2.1 (K * 4 + 2)
      have e3 := T4.out.2.1 (K * 4 + 3)
      refine wpAnyH_take (i := 0) (oi := ⟨some 98, _, _, _, _, _⟩) (v := ?_) rfl (by kernel_rfl) (by kernel_rfl) (by kernel_rfl) (fun _ _ _ h => h) (Or.inl ⟨by rfl, ?_⟩) (by assumption) ?_
      rotate_left
      · (intro w hSw; unfold FS at hSw; go_simp <;> with_reducible rfl)
      simp only [Act.put, List.setIfInBounds_toArray, List.set_cons_zero, List.set_cons_succ]
      refine wpAnyH_take (i := 1) (oi := ⟨some 99, _, _, _, _, _⟩) (v := ?_) rfl (by kernel_rfl) (by kernel_rfl) (by kernel_rfl) (fun _ _ _ h => h) (Or.inl ⟨by rfl, ?_⟩) (by assumption) ?_
      rotate_left
      · (intro w hSw; unfold FS at hSw; go_simp <;> with_reducible rfl)
      simp only [Act.put, List.setIfInBounds_toArray, List.set_cons_zero, List.set_cons_succ]
      refine wpAnyH_take (i := 2) (oi := ⟨some 100, _, _, _, _, _⟩) (v := ?_) rfl (by kernel_rfl) (by kernel_rfl) (by kernel_rfl) (fun _ _ _ h => h) (Or.inl ⟨by rfl, ?_⟩) (by assumption) ?_
      rotate_left
      · (intro w hSw; unfold FS at hSw; go_simp <;> with_reducible rfl)
      simp only [Act.put, List.setIfInBounds_toArray, List.set_cons_zero, List.set_cons_succ]
      refine wpAnyH_take (i := 3) (oi := ⟨some 101, _, _, _, _, _⟩) (v := ?_) rfl (by kernel_rfl) (by kernel_rfl) (by kernel_rfl) (fun _ _ _ h => h) (Or.inl ⟨by rfl, ?_⟩) (by assumption) ?_
      rotate_left
      · (intro w hSw; unfold FS at hSw; go_simp <;> with_reducible rfl)
      simp only [Act.put, List.setIfInBounds_toArray, List.set_cons_zero, List.set_cons_succ]
      refine wpAnyH_take (i := 4) (oi := ⟨some 102, _, _, _, _, _⟩) (v := ?_) rfl (by kernel_rfl) (by kernel_rfl) (by kernel_rfl) (fun _ _ _ h => h) (Or.inl ⟨by rfl, ?_⟩) (by assumption) ?_
      rotate_left
      · (intro w hSw; unfold FS at hSw; go_simp <;> with_reducible rfl)
      simp only [Act.put, List.setIfInBounds_toArray, List.set_cons_zero, List.set_cons_succ]
      refine wpAnyH_take (i := 5) (oi := ⟨some 103, _, _, _, _, _⟩) (v := ?_) rfl (by kernel_rfl) (by kernel_rfl) (by kernel_rfl) (fun _ _ _ h => h) (Or.inl ⟨by rfl, ?_⟩) (by assumption) ?_
      rotate_left
      · (intro w hSw; unfold FS at hSw; go_simp <;> with_reducible rfl)
      simp only [Act.put, List.setIfInBounds_toArray, List.set_cons_zero, List.set_cons_succ]
      refine wpAnyH_take (i := 6) (oi := ⟨some 104, _, _, _, _, _⟩) (v := ?_) rfl (by kernel_rfl) (by kernel_rfl) (by kernel_rfl) (fun _ _ _ h => h) (Or.inl ⟨by rfl, ?_⟩) (by assumption) ?_
      rotate_left
      · (intro w hSw; unfold FS at hSw; go_simp <;> with_reducible rfl)
      simp only [Act.put, List.setIfInBounds_toArray, List.set_cons_zero, List.set_cons_succ]
      refine wpAnyH_take (i := 7) (oi := ⟨some 105, _, _, _, _, _⟩) (v := ?_) rfl (by kernel_rfl) (by kernel_rfl) (by kernel_rfl) (fun _ _ _ h => h) (Or.inl ⟨by rfl, ?_⟩) (by assumption) ?_
      rotate_left
      · (intro w hSw; unfold FS at hSw; go_simp <;> with_reducible rfl)
      simp only [Act.put, List.setIfInBounds_toArray, List.set_cons_zero, List.set_cons_succ]
      refine wpAnyH_take (i := 8) (oi := ⟨some 106, _, _, _, _, _⟩) (v := ?_) rfl (by kernel_rfl) (by kernel_rfl) (by kernel_rfl) (fun _ _ _ h => h) (Or.inl ⟨by rfl, ?_⟩) (by assumption) ?_
      rotate_left
      · (intro w hSw; unfold FS at hSw; go_simp <;> with_reducible rfl)
      simp only [Act.put, List.setIfInBounds_toArray, List.set_cons_zero, List.set_cons_succ]
      refine wpAnyH_take (i := 9) (oi := ⟨some 107, _, _, _, _, _⟩) (v := ?_) rfl (by kernel_rfl) (by kernel_rfl) (by kernel_rfl) (fun _ _ _ h => h) (Or.inl ⟨by rfl, ?_⟩) (by assumption) ?_
      rotate_left
      · (intro w hSw; unfold FS at hSw; go_simp <;> with_reducible rfl)
      simp only [Act.put, List.setIfInBounds_toArray, List.set_cons_zero, List.set_cons_succ]
      refine wpAnyH_take (i := 10) (oi := ⟨some 108, _, _, _, _, _⟩) (v := ?_) rfl (by kernel_rfl) (by kernel_rfl) (by kernel_rfl) (fun _ _ _ h => h) (Or.inl ⟨by rfl, ?_⟩) (by assumption) ?_
      rotate_left
      · (intro w hSw; unfold FS at hSw; go_simp <;> with_reducible rfl)
      simp only [Act.put, List.setIfInBounds_toArray, List.set_cons_zero, List.set_cons_succ]
      refine wpAnyH_take (i := 11) (oi := ⟨some 109, _, _, _, _, _⟩) (v := ?_) rfl (by kernel_rfl) (by kernel_rfl) (by kernel_rfl) (fun _ _ _ h => h) (Or.inl ⟨by rfl, ?_⟩) (by assumption) ?_
      rotate_left
      · (intro w hSw; unfold FS at hSw; go_simp <;> with_reducible rfl)
      simp only [Act.put, List.setIfInBounds_toArray, List.set_cons_zero, List.set_cons_succ]
      refine wpAnyH_take (i := 13) (oi := ⟨some 110, _, _, _, _, _⟩) (v := ?_) rfl (by kernel_rfl) (by kernel_rfl) (by kernel_rfl) (fun _ _ _ h => h) (Or.inl ⟨by rfl, ?_⟩) (by assumption) ?_
      rotate_left
      · (intro w hSw; unfold FS at hSw; go_simp <;> with_reducible rfl)
      simp only [Act.put, List.setIfInBounds_toArray, List.set_cons_zero, List.set_cons_succ]
      refine wpAnyH_take (i := 14) (oi := ⟨some 111, _, _, _, _, _⟩) (v := ?_) rfl (by kernel_rfl) (by kernel_rfl) (by kernel_rfl) (fun _ _ _ h => h) (Or.inl ⟨by rfl, ?_⟩) (by assumption) ?_
      rotate_left
      · (intro w hSw; unfold FS at hSw; go_simp <;> with_reducible rfl)
      simp only [Act.put, List.setIfInBounds_toArray, List.set_cons_zero, List.set_cons_succ]
      refine wpAnyH_ready (rs := [12]) (by kernel_rfl) (by simp) ?_
      refine AllReadyH.cons (o := ⟨none, _, _, _, _, _⟩) rfl (fun K hK => ?_) AllReadyH.nil
      have hF := hHeld
      unfold FS at hF
      obtain ⟨_, _, _, _, hF4, ⟨xq, hF5⟩, hF6⟩ := hF
      have hG5 := hF5
      have hG6 := hF6
      rw [World.cell?_drew] at hG5
      rw [World.frozen?_drew] at hG6
      go_simp
      refine hK _ _ (FS.line hHeld HRB.out HK.out _ _ _ _) (fun hHeld => ?_)
      clear hF4 hF5 hF6 hG5 hG6 hK K
      try simp only [Act.put, List.setIfInBounds_toArray, List.set_cons_zero, List.set_cons_succ]
      refine wpAnyH_take (i := 15) (oi := ⟨some 112, _, _, _, _, _⟩) (v := ?_) rfl (by kernel_rfl) (by kernel_rfl) (by kernel_rfl) (fun _ _ _ h => h) (Or.inl ⟨by rfl, ?_⟩) (by assumption) ?_
      rotate_left
      · (intro w hSw; unfold FS at hSw; go_simp <;> with_reducible rfl)
      simp only [Act.put, List.setIfInBounds_toArray, List.set_cons_zero, List.set_cons_succ]
      refine wpAnyH_ready (rs := [16]) (by kernel_rfl) (by simp) ?_
      refine AllReadyH.cons (o := ⟨none, _, _, _, _, _⟩) rfl (fun K hK => ?_) AllReadyH.nil
      have hF := hHeld
      unfold FS at hF
      obtain ⟨_, _, _, _, hF4, ⟨xq, hF5⟩, hF6⟩ := hF
      have hG5 := hF5
      have hG6 := hF6
      rw [World.cell?_drew] at hG5
      rw [World.frozen?_drew] at hG6
      go_simp
      refine hK _ _ (FS.last hHeld HRB.out HK.out) (fun hHeld => ?_)
      clear hF4 hF5 hF6 hG5 hG6 hK K
      try simp only [Act.put, List.setIfInBounds_toArray, List.set_cons_zero, List.set_cons_succ]
      refine wpAnyH_done (by kernel_rfl) ?_ _
      go_wp2_with fail
      go_ret
      exact ⟨rfl, (T4.out.fillH HK.out e p f r).drew, tp_drew (tp_set (tp_line O4.out _ _ _ _) _ _)⟩
end Go.Proofs.YtmifcfkchnilmaaGreatDoor

