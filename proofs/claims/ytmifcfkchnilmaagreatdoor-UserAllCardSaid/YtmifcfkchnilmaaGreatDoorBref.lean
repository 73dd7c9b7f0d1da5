/- What is proved here: contracts of the reference's buffer (messuageref2): None, NewBuffer, find, Find, Evict, Flush, FlushFrame. Conditions: a buffer lies in the block that is named. -/
import Derived.Test.YtmifcfkchnilmaaGreatDoorTlb4
import Derived.Deep.RegionHeld3
namespace Go.Proofs.YtmifcfkchnilmaaGreatDoor
open Go.RowKit Go.Extern.Stop Go.Stop Go.Extern
theorem none_any (w : World) : Calls Tryz.prog 89 #[] w fun e w' => e = .returned (.agg #[.int .i64 (-1), .int .i64 0, .int .i64 0, .int .i64 0]) ∧ Below w.heap.size w w' := by
  go_enter Tryz.func89, Tryz.ntmps89
  go_wp2_with fail
  refine bodyPost_ret (v := .agg #[.int .i64 (-1), .int .i64 0, .int .i64 0, .int .i64 0]) (by simp [results, Tryz.results89, go_sem]) rfl ⟨rfl, ?_⟩
  exact (Below.refl _ _).alloc (Nat.le_refl _) _
theorem NumsIs.emptied {w : World} {R k : Nat} {h : Nat → Int} (hm : NumsIs 41 w R h) (hk : k < 8) :
    NumsIs 41 ((((w.setCell ⟨R, k * 4, none⟩ (.int .i64 (-1))).setCell ⟨R, k * 4 + 1, none⟩ (.int .i64 0)).setCell ⟨R, k * 4 + 2, none⟩ (.int .i64 0)).setCell ⟨R, k * 4 + 3, none⟩ (.int .i64 0)) R (noneH h k) :=
  (((hm.set (i := k * 4) (by omega) (-1)).set (i := k * 4 + 1) (by omega) 0).set (i := k * 4 + 2) (by omega) 0).set (i := k * 4 + 3) (by omega) 0
theorem tp_line {w w' : World} {T o : Nat} (h : OnlyT T w w') (a b c d : Value) : OnlyT T w ((((w'.setCell ⟨T, o, none⟩ a).setCell ⟨T, o + 1, none⟩ b).setCell ⟨T, o + 2, none⟩ c).setCell ⟨T, o + 3, none⟩ d) :=
  tp_set (tp_set (tp_set (tp_set h _ _) _ _) _ _) _ _
theorem rhitB_no {h : Nat → Int} {e p : Int} {k : Nat} (hh : rhitB h e p k = false) : h (k * 4) < 0 ∨ ¬ h (k * 4) = e ∨ ¬ h (k * 4 + 1) = p := by
  have hh := of_decide_eq_false hh
  by_cases h0 : h (k * 4) < 0
  · exact .inl h0
  · by_cases h1 : h (k * 4) = e
    · exact .inr (.inr fun h2 => hh ⟨by omega, h1, h2⟩)
    · exact .inr (.inl h1)
set_option maxRecDepth 100000 in
set_option maxHeartbeats 1000000 in
theorem rfind_none (R : Nat) (h : Nat → Int) (e p : Int) (w : World) (ht : NumsIs 41 w R h) (hn : ∀ k, k < 8 → rhitB h e p k = false) : Calls Tryz.prog 94 #[.pointer (some ⟨R, 0, none⟩), .int .i64 e, .int .i64 p] w fun e w' => e = .returned (.int .i64 (-1)) ∧ w = w' := by
  have HT := Lib.hid ht
  have HN := Lib.hid hn
  clear ht hn
  go_enter Tryz.func94, Tryz.ntmps94
  go_wp2_with fail
  go_loop [8] (fun c => ∃ k : Nat, k ≤ 8 ∧ c = .int .i64 k) (fun c => (8 - intOf c).toNat)
  case atStart => exact ⟨0, by omega, rfl⟩
  case round =>
    obtain ⟨k, hk, rfl⟩ := hrel
    by_cases hlt : k < 8
    · skip
      have hx : (0 : Int) ≤ (k : Int) := by omega
      have hy : (k : Int) < 8 := by omega
      have d0 := HT.out.1 (k * 4) (by omega)
      have d1 := HT.out.1 (k * 4 + 1) (by omega)
      have hh := Lib.hid (rhitB_no (HN.out k (by omega)))
      by_cases h0 : h (k * 4) < 0
      · go_wp2_with fail
        go_round
        case rel => exact ⟨k + 1, by omega, by go_num⟩
        case measure => simp [intOf]; omega
      · have hc := hh.out.resolve_left h0
        have h1 : 0 ≤ h (k * 4) := by omega
        by_cases he : h (k * 4) = e
        · have hq : (h (k * 4 + 1) == p) = false := by simpa using hc.resolve_left (fun h => h he)
          have h2 : 0 ≤ e := by omega
          rw [he] at d0
          clear he hc h0 h1
          go_wp2_with fail
          go_round
          case rel => exact ⟨k + 1, by omega, by go_num⟩
          case measure => simp [intOf]; omega
        · have hq : (h (k * 4) == e) = false := by simpa using he
          clear he hc
          go_wp2_with fail
          go_round
          case rel => exact ⟨k + 1, by omega, by go_num⟩
          case measure => simp [intOf]; omega
    · obtain rfl : k = 8 := by omega
      go_wp2_with fail
      go_ret
      exact ⟨rfl, rfl⟩
set_option maxRecDepth 100000 in
set_option maxHeartbeats 1000000 in
theorem rfind_hit (R : Nat) (h : Nat → Int) (e p : Int) (w : World) (ht : NumsIs 41 w R h) (n : Nat) (hn8 : n < 8) (hit : rhitB h e p n = true) (hn : ∀ k, k < n → rhitB h e p k = false) : Calls Tryz.prog 94 #[.pointer (some ⟨R, 0, none⟩), .int .i64 e, .int .i64 p] w fun e w' => e = .returned (.int .i64 (n : Int)) ∧ w = w' := by
  have HT := Lib.hid ht
  have HN := Lib.hid hn
  have HH := Lib.hid (of_decide_eq_true hit)
  clear ht hn hit
  go_enter Tryz.func94, Tryz.ntmps94
  go_wp2_with fail
  go_loop [8] (fun c => ∃ k : Nat, k ≤ n ∧ c = .int .i64 k) (fun c => (8 - intOf c).toNat)
  case atStart => exact ⟨0, by omega, rfl⟩
  case round =>
    obtain ⟨k, hk, rfl⟩ := hrel
    by_cases hw : k = n
    · subst hw
      have hx : (0 : Int) ≤ (k : Int) := by omega
      have hy : (k : Int) < 8 := by omega
      have d0 := HT.out.1 (k * 4) (by omega)
      have d1 := HT.out.1 (k * 4 + 1) (by omega)
      obtain ⟨h0, h1, h2⟩ := HH.out
      rw [h1] at d0 h0
      rw [h2] at d1
      clear h1 h2
      go_wp2_with fail
      go_ret
      exact ⟨rfl, rfl⟩
    · skip
      have hx : (0 : Int) ≤ (k : Int) := by omega
      have hy : (k : Int) < 8 := by omega
      have d0 := HT.out.1 (k * 4) (by omega)
      have d1 := HT.out.1 (k * 4 + 1) (by omega)
      have hh := Lib.hid (rhitB_no (HN.out k (by omega)))
      by_cases h0 : h (k * 4) < 0
      · go_wp2_with fail
        go_round
        case rel => exact ⟨k + 1, by omega, by go_num⟩
        case measure => simp [intOf]; omega
      · have hc := hh.out.resolve_left h0
        have h1 : 0 ≤ h (k * 4) := by omega
        by_cases he : h (k * 4) = e
        · have hq : (h (k * 4 + 1) == p) = false := by simpa using hc.resolve_left (fun h => h he)
          have h2 : 0 ≤ e := by omega
          rw [he] at d0
          clear he hc h0 h1
          go_wp2_with fail
          go_round
          case rel => exact ⟨k + 1, by omega, by go_num⟩
          case measure => simp [intOf]; omega
        · have hq : (h (k * 4) == e) = false := by simpa using he
          clear he hc
          go_wp2_with fail
          go_round
          case rel => exact ⟨k + 1, by omega, by go_num⟩
          case measure => simp [intOf]; omega
theorem rFind_no (R : Nat) (h : Nat → Int) (e p : Int) (w : World) (ht : NumsIs 41 w R h) (hn : ∀ k, k < 8 → rhitB h e p k = false) : Calls Tryz.prog 44 #[.pointer (some ⟨R, 0, none⟩), .int .i64 e, .int .i64 p] w fun e w' => e = .returned (.tuple #[.agg #[.int .i64 0, .int .i64 0, .int .i64 0, .int .i64 0], .bool false]) ∧ Below w.heap.size w w' := by
  have HT := Lib.hid ht
  have HN := Lib.hid hn
  clear ht hn
  go_enter Tryz.func44, Tryz.ntmps44
  go_wp2_with (refine (rfind_none R h e p _ (HT.out.alloc _) HN.out).mono ?_; rintro e w1 ⟨rfl, rfl⟩)
  refine bodyPost_ret (v := .tuple #[.agg #[.int .i64 0, .int .i64 0, .int .i64 0, .int .i64 0], .bool false]) (by simp [results, Tryz.results44, go_sem]) rfl ⟨rfl, ?_⟩
  exact (Below.refl _ _).alloc (Nat.le_refl _) _
theorem rFind_hit (R : Nat) (h : Nat → Int) (e p : Int) (w : World) (ht : NumsIs 41 w R h) (n : Nat) (hn8 : n < 8) (hit : rhitB h e p n = true) (hn : ∀ k, k < n → rhitB h e p k = false) : Calls Tryz.prog 44 #[.pointer (some ⟨R, 0, none⟩), .int .i64 e, .int .i64 p] w fun e w' => e = .returned (.tuple #[.agg #[.int .i64 (h (n * 4)), .int .i64 (h (n * 4 + 1)), .int .i64 (h (n * 4 + 2)), .int .i64 (h (n * 4 + 3))], .bool true]) ∧ Below w.heap.size w w' := by
  have hx : (0 : Int) ≤ (n : Int) := by omega
  have hy : (n : Int) < 8 := by omega
  have HT := Lib.hid ht
  have HN := Lib.hid hn
  have HH := Lib.hid hit
  clear ht hn hit
  go_enter Tryz.func44, Tryz.ntmps44
  go_wp2_with (refine (rfind_hit R h e p _ (HT.out.alloc _) n hn8 HH.out HN.out).mono ?_; rintro e w1 ⟨rfl, rfl⟩; have d0 := HT.out.1 (n * 4) (by omega); have d1 := HT.out.1 (n * 4 + 1) (by omega); have d2 := HT.out.1 (n * 4 + 2) (by omega); have d3 := HT.out.1 (n * 4 + 3) (by omega); have tl := HT.out.2.2)
  refine bodyPost_ret (v := .tuple #[.agg #[.int .i64 (h (n * 4)), .int .i64 (h (n * 4 + 1)), .int .i64 (h (n * 4 + 2)), .int .i64 (h (n * 4 + 3))], .bool true]) (by simp [results, Tryz.results44, go_sem]) rfl ⟨rfl, ?_⟩
  exact (Below.refl _ _).alloc (Nat.le_refl _) _
set_option maxRecDepth 100000 in
set_option maxHeartbeats 1000000 in
theorem rnew_any (w : World) : Calls Tryz.prog 36 #[] w fun e w' => e = .returned (.pointer (some ⟨w.heap.size, 0, none⟩)) ∧ Below w.heap.size w w' ∧ NumsIs 41 w' w.heap.size (noneK (fun _ => 0) 8) := by
  go_enter Tryz.func36, Tryz.ntmps36
  go_wp2_with fail
  go_loopw [5] (fun c W => ∃ k : Nat, k ≤ 8 ∧ c = .int .i64 k ∧ NumsIs 41 W w.heap.size (noneK (fun _ => 0) k) ∧ Below w.heap.size w W) (fun c _ => (8 - intOf c).toNat)
  case atStart => exact ⟨0, by omega, rfl, by rw [noneK_zero]; exact NumsIs.zeros w _ rfl, (Below.refl _ _).alloc (Nat.le_refl _) _⟩
  case round =>
    obtain ⟨k, hk, rfl, hm, hb⟩ := hrel
    have HM := Lib.hid hm
    have HB := Lib.hid hb
    clear hm hb
    by_cases hlt : k < 8
    · have hx : (0 : Int) ≤ (k : Int) := by omega
      have hy : (k : Int) < 8 := by omega
      go_wp2_with fail
      go_region_held3 (fun _ => True) (trivial) ((refine (none_any _).mono ?_; rintro e w2 ⟨rfl, hb⟩; have N2 := Lib.hid (HM.out.drew.later hb); have B2 := Lib.hid (bl_trans (w := w) (dn HB.out 1) hb); clear hb; have c0 := N2.out.1 (k * 4) (by omega); have c1 := N2.out.1 (k * 4 + 1) (by omega); have c2 := N2.out.1 (k * 4 + 2) (by omega); have c3 := N2.out.1 (k * 4 + 3) (by omega); have e0 := N2.out.2.1 (k * 4); have e1 := N2.out.2.1 (k * 4 + 1); have e2 := N2.out.2.1 (k * 4 + 2); have e3 := N2.out.2.1 (k * 4 + 3)))
      all_goals
        go_wp2_with fail
        go_roundw
        case rel => exact ⟨k + 1, by omega, by go_num, by rw [← noneK_succ]; exact N2.out.emptied hlt, bl_line B2.out (Nat.le_refl _) _ _ _ _⟩
        case measure => simp [intOf]; omega
    · obtain rfl : k = 8 := by omega
      go_wp2_with fail
      go_ret
      exact ⟨rfl, HB.out, HM.out⟩
set_option maxRecDepth 100000 in
set_option maxHeartbeats 1000000 in
theorem rflush_no (R : Nat) (h : Nat → Int) (e p : Int) (w : World) (ht : NumsIs 41 w R h) (hn : ∀ k, k < 8 → rhitB h e p k = false) : Calls Tryz.prog 46 #[.pointer (some ⟨R, 0, none⟩), .int .i64 e, .int .i64 p] w fun e w' => e = .returned (.bool false) ∧ w = w' := by
  have HT := Lib.hid ht
  have HN := Lib.hid hn
  clear ht hn
  go_enter Tryz.func46, Tryz.ntmps46
  go_wp2_with (refine (rfind_none R h e p _ HT.out HN.out).mono ?_; rintro e w1 ⟨rfl, rfl⟩)
  go_ret
  exact ⟨rfl, rfl⟩
set_option maxRecDepth 100000 in
set_option maxHeartbeats 1000000 in
theorem rflush_hit (R : Nat) (h : Nat → Int) (e p : Int) (w : World) (ht : NumsIs 41 w R h) (n : Nat) (hn8 : n < 8) (hit : rhitB h e p n = true) (hn : ∀ k, k < n → rhitB h e p k = false) : Calls Tryz.prog 46 #[.pointer (some ⟨R, 0, none⟩), .int .i64 e, .int .i64 p] w fun e w' => e = .returned (.bool true) ∧ NumsIs 41 w' R (noneH h n) ∧ OnlyT R w w' := by
  have hx : (0 : Int) ≤ (n : Int) := by omega
  have hy : (n : Int) < 8 := by omega
  have HM := Lib.hid ht
  have HN := Lib.hid hn
  have HH := Lib.hid hit
  clear ht hn hit
  go_enter Tryz.func46, Tryz.ntmps46
  go_wp2_with fail
  refine (rfind_hit R h e p _ HM.out n hn8 HH.out HN.out).mono ?_
  rintro e w1 ⟨rfl, rfl⟩
  go_wp2_with fail
  go_region_held3 (fun _ => True) (trivial) ((refine (none_any _).mono ?_; rintro e w2 ⟨rfl, hb⟩; have N2 := Lib.hid (HM.out.drew.later hb); have B2 := Lib.hid (bl_trans (w := w) (dn (Below.refl _ _) 1) hb); clear hb; have c0 := N2.out.1 (n * 4) (by omega); have c1 := N2.out.1 (n * 4 + 1) (by omega); have c2 := N2.out.1 (n * 4 + 2) (by omega); have c3 := N2.out.1 (n * 4 + 3) (by omega); have e0 := N2.out.2.1 (n * 4); have e1 := N2.out.2.1 (n * 4 + 1); have e2 := N2.out.2.1 (n * 4 + 2); have e3 := N2.out.2.1 (n * 4 + 3)))
  all_goals
    go_wp2_with fail
    go_ret
    exact ⟨rfl, N2.out.emptied hn8, tp_line (tp_below B2.out) _ _ _ _⟩
end Go.Proofs.YtmifcfkchnilmaaGreatDoor

