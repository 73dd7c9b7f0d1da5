/- What is proved here: the contract of messuageref2.GetPte: the entry whose word it is. Conditions: the word is one of 64 bits. -/
import Derived.Test.YtfpnpgpelncgeaaGreatDoorGParts
namespace Go.Proofs.YtfpnpgpelncgeaaGreatDoor
open Go.RowKit Go.Extern.Stop Go.Stop Go.Extern

/-- Behind the triple f, s, r: no word of a triple ahead of it is x. -/
def aheadOf (x f s r : Int) : Prop := okB x = true → 32768 + 256 * f + 16 * s + r ≤ x
theorem ahead_r {x f s r : Int} (h : aheadOf x f s r) (hn : ¬ 32768 + 256 * f + 16 * s + r = x) : aheadOf x f s (r + 1) := by
  intro hx
  have h1 : 32768 + 256 * f + 16 * s + r ≤ x := h hx
  show 32768 + 256 * f + 16 * s + (r + 1) ≤ x
  omega
theorem ahead_s {x f s : Int} (hf : 0 ≤ f) (hs : 0 ≤ s) (h : aheadOf x f s 4) : aheadOf x f (s + 1) 1 := by
  intro hx
  have h1 : 32768 + 256 * f + 16 * s + 4 ≤ x := h hx
  show 32768 + 256 * f + 16 * (s + 1) + 1 ≤ x
  simp only [okB, decide_eq_true_eq] at hx
  omega
theorem ahead_f {x f : Int} (hf : 0 ≤ f) (h : aheadOf x f 8 1) : aheadOf x (f + 1) 0 1 := by
  intro hx
  have h1 : 32768 + 256 * f + 16 * 8 + 1 ≤ x := h hx
  show 32768 + 256 * (f + 1) + 16 * 0 + 1 ≤ x
  simp only [okB, decide_eq_true_eq] at hx
  omega
theorem ahead_end {x : Int} (h : aheadOf x 16 0 1) : okB x = false := by
  rcases Bool.eq_false_or_eq_true (okB x) with hx | hx
  · have h1 := h hx
    simp only [okB, decide_eq_true_eq] at hx
    omega
  · exact hx
theorem hit {x f s r : Int} (hf : 0 ≤ f) (hf2 : f ≤ 15) (hs : 0 ≤ s) (hs2 : s ≤ 7) (hr : 1 ≤ r) (hr2 : r ≤ 3) (h : 32768 + 256 * f + 16 * s + r = x) : okB x = true ∧ gF x = f ∧ gS x = s ∧ gR x = r := by
  have hx : okB x = true := by simp only [okB, decide_eq_true_eq]; omega
  refine ⟨hx, ?_, ?_, ?_⟩
  · unfold gF; rw [if_pos hx]; omega
  · unfold gS; rw [if_pos hx]; omega
  · unfold gR; rw [if_pos hx]; omega

set_option maxHeartbeats 1000000 in
theorem ref_Get_any (x : Int) (h0 : 0 ≤ x) (h1 : x < 18446744073709551616) (w : World) :
    Calls Tryz.prog 29 #[.int .u64 x] w fun e w' => e = .returned (.tuple #[.agg #[.int .i64 (gF x), .int .i64 (gS x), .int .i64 (gR x)], .bool (okB x)]) ∧ Below w.heap.size w w' := by
  by_cases hx : x = 0
  · subst hx
    go_enter Tryz.func29, Tryz.ntmps29
    go_wp2
    refine bodyPost_ret (v := .tuple #[.agg #[.int .i64 0, .int .i64 0, .int .i64 0], .bool true]) (by simp [results, Tryz.results29, go_sem]) rfl ⟨rfl, ?_⟩
    exact (Below.refl _ _).alloc (Nat.le_refl _) _
  have AH : Hid (aheadOf x 0 0 1) := fun hok => by
    simp only [okB, decide_eq_true_eq] at hok
    show 32768 + 256 * 0 + 16 * 0 + 1 ≤ x
    omega
  have hx0 : (x == 0) = false := by simpa using hx
  go_enter Tryz.func29, Tryz.ntmps29
  go_wp2_with fail
  go_loopw [4] (fun v wr => ∃ f : Nat, f ≤ 16 ∧ v = .int .i64 f ∧ Below w.heap.size w wr ∧ wr.heap[w.heap.size]? = some (.cells #[.int .i64 0, .int .i64 0, .int .i64 0] 36 (0, 0)) ∧ Hid (aheadOf x f 0 1)) (fun v _ => (16 - intOf v).toNat)
  case atStart => exact ⟨0, by omega, rfl, (Below.refl _ _).alloc (Nat.le_refl _) _, heap_alloc_new w _, AH⟩
  case round =>
    obtain ⟨f, hf, rfl, hb, hk, ha⟩ := hrel
    have HB := Lib.hid hb
    have HK := Lib.hid hk
    clear hb hk
    by_cases hlt : f < 16
    · have hd1 : decide ((f : Int) < 16) = true := by simp; omega
      go_wp2_with fail
      go_loopw [5] (fun v w2 => ∃ s : Nat, s ≤ 8 ∧ v = .int .i64 s ∧ Below w.heap.size w w2 ∧ w2.heap[w.heap.size]? = some (.cells #[.int .i64 0, .int .i64 0, .int .i64 0] 36 (0, 0)) ∧ Hid (aheadOf x f s 1)) (fun v _ => (8 - intOf v).toNat)
      case atStart => exact ⟨0, by omega, rfl, HB.out, HK.out, ha⟩
      case round =>
        obtain ⟨s, hs, rfl, hb2, hk2, ha2⟩ := hrel
        have HB2 := Lib.hid hb2
        have HK2 := Lib.hid hk2
        clear hb2 hk2
        by_cases hlt2 : s < 8
        · have hd2 : decide ((s : Int) < 8) = true := by simp; omega
          go_wp2_with fail
          go_loopw [6] (fun v w3 => ∃ r : Nat, 1 ≤ r ∧ r ≤ 4 ∧ v = .int .i64 r ∧ Below w.heap.size w w3 ∧ w3.heap[w.heap.size]? = some (.cells #[.int .i64 0, .int .i64 0, .int .i64 0] 36 (0, 0)) ∧ Hid (aheadOf x f s r)) (fun v _ => (4 - intOf v).toNat)
          case atStart => exact ⟨1, by omega, by omega, rfl, HB2.out, HK2.out, ha2⟩
          case round =>
            obtain ⟨r, hr1, hr2, rfl, hb3, hk3, ha3⟩ := hrel
            have HB3 := Lib.hid hb3
            have HK3 := Lib.hid hk3
            clear hb3 hk3
            by_cases hlt3 : r ≤ 3
            · go_wp2_with fail
              refine (ref_pte_yes f s r (by omega) (by omega) (by omega) (by omega) (by omega) (by omega) _).mono ?_
              rintro e w4 ⟨rfl, hb4⟩
              by_cases heq : 32768 + 256 * (f : Int) + 16 * (s : Int) + (r : Int) = x
              · subst heq
                obtain ⟨o1, o2, o3, o4⟩ := hit (x := 32768 + 256 * (f : Int) + 16 * (s : Int) + (r : Int)) (by omega) (by omega) (by omega) (by omega) (by omega) (by omega) rfl
                have HO := Lib.hid (And.intro o1 (And.intro o2 (And.intro o3 o4)))
                clear o1 o2 o3 o4
                have hk1 := bk_one hb4
                have hk2 := bk_keep HK3.out hb4
                have HB4 := Lib.hid (HB3.out.trans (((Below.refl _ _).alloc (Nat.le_refl _) _).trans (hb4.mono (by simp)) |>.mono HB3.out.size))
                have d0 := bk_cell hk1 0
                have d1 := bk_cell hk1 1
                have d2 := bk_cell hk1 2
                have c0 := bk_cell hk2 0
                have c1 := bk_cell hk2 1
                have c2 := bk_cell hk2 2
                have f0 := bk_free hk2 0
                have f1 := bk_free hk2 1
                have f2 := bk_free hk2 2
                clear hb4 hk1 hk2
                go_wp2_with fail
                refine bodyPost_ret (v := .tuple #[.agg #[.int .i64 f, .int .i64 s, .int .i64 r], .bool true]) (by simp [results, Tryz.results29, go_sem, c0, c1, c2]) rfl ⟨by rw [HO.out.1, HO.out.2.1, HO.out.2.2.1, HO.out.2.2.2], ?_⟩
                exact ((HB4.out.setCell (by simp) _).setCell (by simp) _).setCell (by simp) _
              · have HB4 := Lib.hid (HB3.out.trans (((Below.refl _ _).alloc (Nat.le_refl _) _).trans (hb4.mono (by simp)) |>.mono HB3.out.size))
                have HK4 := Lib.hid (bk_keep HK3.out hb4)
                clear hb4
                have HA4 := Lib.hid (ahead_r ha3 heq)
                go_wp2_with fail
                go_roundw
                case rel => exact ⟨r + 1, by omega, by omega, by go_num, HB4.out, HK4.out, HA4⟩
                case measure => simp [intOf]; omega
            · obtain rfl : r = 4 := by omega
              have HA4 := Lib.hid (ahead_s (by omega) (by omega) ha3)
              go_wp2_with fail
              go_roundw
              case rel => exact ⟨s + 1, by omega, by go_num, HB3.out, HK3.out, HA4⟩
              case measure => simp [intOf]; omega
        · obtain rfl : s = 8 := by omega
          have HA4 := Lib.hid (ahead_f (by omega) ha2)
          go_wp2_with fail
          go_roundw
          case rel => exact ⟨f + 1, by omega, by go_num, HB2.out, HK2.out, HA4⟩
          case measure => simp [intOf]; omega
    · obtain rfl : f = 16 := by omega
      have he := ahead_end ha
      have e2 : gF x = 0 := by simp [gF, he]
      have e3 : gS x = 0 := by simp [gS, he]
      have e4 : gR x = 0 := by simp [gR, he]
      have HO := Lib.hid (And.intro he (And.intro e2 (And.intro e3 e4)))
      clear he e2 e3 e4
      have hl := bk_lt HK.out
      have c0 := bk_cell HK.out 0
      have c1 := bk_cell HK.out 1
      have c2 := bk_cell HK.out 2
      have f0 := bk_free HK.out 0
      have f1 := bk_free HK.out 1
      have f2 := bk_free HK.out 2
      go_wp2_with fail
      refine bodyPost_ret (v := .tuple #[.agg #[.int .i64 0, .int .i64 0, .int .i64 0], .bool false]) (by simp [results, Tryz.results29, go_sem, c0, c1, c2]) rfl ⟨by rw [HO.out.1, HO.out.2.1, HO.out.2.2.1, HO.out.2.2.2], ?_⟩
      exact ((HB.out.setCell (by simp) _).setCell (by simp) _).setCell (by simp) _
end Go.Proofs.YtfpnpgpelncgeaaGreatDoor
