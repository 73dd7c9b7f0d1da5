/- What is proved here: the statement UserMore: whatever its numbers, the statement returns true and leaves what was there. Conditions: package user keeps its contracts; the statements' own beginning returns true. -/
import Derived.Test.YtmifcfkchnilmaaGreatDoorGUser
import Derived.RegionTactic
import Derived.WalkArith
namespace Go.Proofs.YtmifcfkchnilmaaGreatDoor
open Go.RowKit Go.Extern.Stop Go.Stop Go.Extern Go.WalkArith
set_option maxRecDepth 100000 in
set_option maxHeartbeats 8000000 in
theorem umore_any (H : UserC) (p0 r0 s0 kd : Int) (w : World) (hbeg : BegunAt11 w) :
    Calls Tryz.prog 13 #[.int .i64 p0, .int .i64 r0, .int .i64 s0, .int .i64 kd] w fun e w' => e = .returned (.bool true) ∧ Below w.heap.size w w' := by
  have HB := Lib.hid hbeg
  have HH := Lib.hid H
  clear hbeg H
  have m3 := Int.lt_tmod_of_pos p0 (show (0 : Int) < 8 by omega)
  have m4 := Int.tmod_lt_of_pos p0 (show (0 : Int) < 8 by omega)
  have m1 := Int.lt_tmod_of_pos r0 (show (0 : Int) < 3 by omega)
  have m2 := Int.tmod_lt_of_pos r0 (show (0 : Int) < 3 by omega)
  have m5 := Int.lt_tmod_of_pos s0 (show (0 : Int) < 3 by omega)
  have m6 := Int.tmod_lt_of_pos s0 (show (0 : Int) < 3 by omega)
  have m7 := Int.lt_tmod_of_pos kd (show (0 : Int) < 4 by omega)
  have m8 := Int.tmod_lt_of_pos kd (show (0 : Int) < 4 by omega)
  obtain ⟨p, hp⟩ : ∃ p : Nat, (p0.tmod 8 + 8) % 8 = (p : Int) := ⟨((p0.tmod 8 + 8) % 8).toNat, by omega⟩
  obtain ⟨rn, hrn⟩ : ∃ n : Nat, (r0.tmod 3 + 3) % 3 = (n : Int) := ⟨((r0.tmod 3 + 3) % 3).toNat, by omega⟩
  obtain ⟨sn, hsn⟩ : ∃ n : Nat, (s0.tmod 3 + 3) % 3 = (n : Int) := ⟨((s0.tmod 3 + 3) % 3).toNat, by omega⟩
  obtain ⟨kn, hkn⟩ : ∃ n : Nat, (kd.tmod 4 + 4) % 4 = (n : Int) := ⟨((kd.tmod 4 + 4) % 4).toNat, by omega⟩
  obtain ⟨r, hr⟩ : ∃ r : Int, 1 + (rn : Int) = r := ⟨_, rfl⟩
  obtain ⟨s, hs⟩ : ∃ s : Int, 1 + (sn : Int) = s := ⟨_, rfl⟩
  obtain ⟨kk, hkk⟩ : ∃ kk : Int, 20 + (kn : Int) = kk := ⟨_, rfl⟩
  have hp8 : p < 8 := by omega
  have r1 : 1 ≤ r := by omega
  have r3 : r ≤ 3 := by omega
  have s1 : 1 ≤ s := by omega
  have s3 : s ≤ 3 := by omega
  have k0 : 20 ≤ kk := by omega
  have k3 : kk ≤ 23 := by omega
  obtain ⟨k, hk⟩ : ∃ k, k = old (fun _ => 0) ((p : Int) % 4).toNat := ⟨_, rfl⟩
  have LR : Hid (lineB 1 (p : Int) 0 r = true) := decide_eq_true ⟨by decide, by omega, by decide, by omega⟩
  have LS : Hid (lineB 1 (p : Int) 1 s = true) := decide_eq_true ⟨by decide, by omega, by decide, by omega⟩
  have MS : Hid (mayIns 1 0 s = true) := by
    show mayIns 1 0 s = true
    simp only [mayIns, Bool.and_eq_true, decide_eq_true_eq]
    omega
  have ON : Hid (OneLine (fillG (fun _ => 0) k 1 (p : Int) 0 r) k 1 (p : Int) 0 r) := hk ▸ one_line (e := 1) LR.out hp8
  have TO : Hid (TabOk (putG (fun _ => 0) p 1 0 s)) := tab_ok_put tab_ok_new MS.out
  have P0 : Hid (putG (fun _ => 0) p 1 0 s (p * 3) = 1) := (tput_at _ p 1 0 s p).2.trans (if_pos rfl)
  have P2 : Hid (putG (fun _ => 0) p 1 0 s (p * 3 + 2) = s) := (tput_at _ p 1 0 s p).1.trans (if_pos rfl)
  have HK := Lib.hid hk
  clear hk
  go_enter Tryz.func13, Tryz.ntmps13
  go_wp2_with fail
  refine HB.out.mono ?_
  rintro x w1 ⟨rfl, hb1⟩
  have B1 : Hid (Side w w1 []) := hb1
  clear hb1 HB
  go_wp2_with fail
  refine (tlb_new w1).mono ?_
  rintro x w2 ⟨rfl, hb2, hn2⟩
  obtain ⟨T, hT⟩ : ∃ T, T = w1.heap.size := ⟨_, rfl⟩
  rw [← hT] at hn2 ⊢
  have tT : Hid (w1.heap.size ≤ T ∧ T < w2.heap.size) := ⟨by omega, hn2.2.2⟩
  have N2 := Lib.hid (And.intro hb2 hn2)
  clear hT hb2 hn2
  go_wp2_with fail
  refine (tab_new w2).mono ?_
  rintro x w3 ⟨rfl, hb3, ht3⟩
  obtain ⟨U, hU⟩ : ∃ U, U = w2.heap.size := ⟨_, rfl⟩
  rw [← hU] at ht3 ⊢
  have tU : Hid (w2.heap.size ≤ U ∧ U < w3.heap.size) := ⟨by omega, ht3.2.2⟩
  have N3 := Lib.hid (And.intro hb3 ht3)
  clear hU hb3 ht3
  go_wp2_with fail
  refine (mem_new2 w3).mono ?_
  rintro x w4 ⟨rfl, hb4, hm4⟩
  obtain ⟨F, hF⟩ : ∃ F, F = w3.heap.size := ⟨_, rfl⟩
  rw [← hF] at hm4 ⊢
  obtain ⟨M, hM⟩ : ∃ M, M = F + 1 := ⟨_, rfl⟩
  rw [← hM] at hm4 ⊢
  have tM : Hid (w3.heap.size ≤ F ∧ F < M) := ⟨by omega, by omega⟩
  have N4 := Lib.hid (And.intro hb4 hm4)
  clear hM hF hb4 hm4
  have S4 : Hid (Side w w4 [userT T U M F 2 (fun _ => 0) (fun _ => 0) (fun _ => 0)]) := by
    obtain ⟨hb2, hn2⟩ := N2.out
    obtain ⟨hb3, ht3⟩ := N3.out
    obtain ⟨hb4, hm4⟩ := N4.out
    have l1 := tT.out
    have l2 := tU.out
    have l3 := tM.out
    have s1 := hb2.size
    have s2 := hb3.size
    refine Side.make (l := []) B1.out (bl_trans (bl_trans hb2 hb3) hb4) _ ⟨(hn2.later hb3).later hb4, ht3.later hb4, hm4, by omega, by omega, by omega, by omega, by omega⟩ fun i hi => ?_
    rcases hi with rfl | rfl | rfl | rfl <;> omega
  clear N2 N3 N4 tT tU tM B1
  go_wp2_with fail
  refine (tfill_new T (fun _ => 0) 1 (p : Int) 0 r _ (Side.at [] S4.out).1 (by decide) LR.out (fun j _ => zero_no _ _ j) ((p : Int) % 4).toNat (by omega) (by omega)).mono ?_
  rintro x w5 ⟨rfl, h1, h2⟩
  rw [← HK.out] at h1
  have S5 := Lib.hid (side_uT [] S4.out h1 h2)
  clear h1 h2 S4 HK
  go_wp2_with fail
  refine (tins_ok _ U p 1 0 s (fun _ => 0) hp8 MS.out (Side.at [] S5.out).2.1 rfl).mono ?_
  rintro x w6 ⟨rfl, h1, h2⟩
  have S6 := Lib.hid (side_uU [] S5.out h1 h2)
  clear h1 h2 S5 LR MS
  go_wp2_with fail
  have D0 : Hid (doE 1 kk (p : Int) 0 0 0 = 0) := doE_ok (e := 1) (a := 0) (by decide) hp8 (by decide) (by omega) 0 0
  have WI : Hid (wordsIn kk (p : Int) 0 0 0) := by
    show wordsIn kk (p : Int) 0 0 0
    unfold wordsIn
    omega
  cases hlr : withinB (needN kk) r
  · cases hls : withinB (needN kk) s
    · have WS : Hid (walkS (fillG (fun _ => 0) k 1 (p : Int) 0 r) (putG (fun _ => 0) p 1 0 s) 1 (p : Int) kk = (clearG (fillG (fun _ => 0) k 1 (p : Int) 0 r) k, (0, 0, 0, 0), false)) := walk_off rfl ON.out.lt ON.out.hit ON.out.only (by rw [ON.out.c3]; exact hlr) (by rw [P2.out]; exact hls)
      refine (side_udo HH.out [] S6.out ON.out.ok TO.out WI.out D0.out WS.out (er := 7) (v := 0) (mg' := (fun _ => 0)) rfl rfl rfl).mono ?_
      rintro x w7 ⟨rfl, h7⟩
      have S7 := Lib.hid ((h7.box (.cells #[.int .i64 7, .int .u64 0] 85)).boxAt (.cells #[.int .i64 0, .int .i64 0, .int .i64 0, .int .i64 0] 78) (w7.heap.size + 1) (by simp))
      clear h7 S6 WS
      go_wp2_with fail
      refine (ref_lets_any r kk _).mono ?_
      rintro x w8 ⟨rfl, hw⟩
      subst hw
      rw [hlr]
      go_wp2_with fail
      refine (ref_lets_any s kk _).mono ?_
      rintro x w8 ⟨rfl, hw⟩
      subst hw
      rw [hls]
      go_wp2_with fail
      refine (tfind_no T (clearG (fillG (fun _ => 0) k 1 (p : Int) 0 r) k) 1 (p : Int) _ (Side.at [fixT (w7.heap.size + 1) (.cells #[.int .i64 0, .int .i64 0, .int .i64 0, .int .i64 0] 78), fixT w7.heap.size (.cells #[.int .i64 7, .int .u64 0] 85)] S7.out).1 (clear_find ON.out.only)).mono ?_
      rintro x w9 ⟨rfl, hb⟩
      have S9 := Lib.hid ((S7.out.under hb).box (.cells #[.int .i64 0, .int .i64 0, .int .i64 0, .int .i64 0] 78))
      clear hb S7
      have ka := S9.out.1
      have ka0 := bk_cell ka 0
      have ka1 := bk_cell ka 1
      have ka2 := bk_cell ka 2
      have ka3 := bk_cell ka 3
      have lka := bk_lt ka
      clear ka
      have kb := S9.out.2.2.2.1
      have kb0 := bk_cell kb 0
      have kb1 := bk_cell kb 1
      have kb2 := bk_cell kb 2
      have kb3 := bk_cell kb 3
      have lkb := bk_lt kb
      clear kb
      have kc := S9.out.2.2.2.2.2.2.1
      have kc0 := bk_cell kc 0
      have kc1 := bk_cell kc 1
      have lkc := bk_lt kc
      clear kc
      have HE := Lib.hid S9.out.below
      clear S9
      go_wp2_with fail
      go_ret
      exact ⟨rfl, HE.out⟩
    · have WS : Hid (walkS (fillG (fun _ => 0) k 1 (p : Int) 0 r) (putG (fun _ => 0) p 1 0 s) 1 (p : Int) kk = ((fillG (fillG (fun _ => 0) k 1 (p : Int) 0 r) k 1 (p : Int) 1 s), (1, (p : Int), 1, s), true)) := walk_over (e := 1) ON.out.lt ON.out.hit ON.out.only (by rw [ON.out.c3]; exact hlr) hls P0.out P2.out LS.out
      refine (side_udo HH.out [] S6.out ON.out.ok TO.out WI.out D0.out WS.out (er := 0) (v := (memV (fun _ => 0) 2 1 0 kk)) (mg' := (memS (fun _ => 0) 2 1 0 kk 0 0)) rfl (by rw [if_pos rfl]; rfl) (by rw [if_pos rfl]; rfl)).mono ?_
      rintro x w7 ⟨rfl, h7⟩
      obtain ⟨u, hu⟩ : ∃ u, (memV (fun _ => 0) 2 1 0 kk) = u := ⟨_, rfl⟩
      rw [hu]
      have S7 := Lib.hid ((h7.box (.cells #[.int .i64 0, .int .u64 u] 85)).boxAt (.cells #[.int .i64 1, .int .i64 (p : Int), .int .i64 1, .int .i64 s] 78) (w7.heap.size + 1) (by simp))
      clear h7 S6 WS hu
      go_wp2_with fail
      refine (ref_lets_any r kk _).mono ?_
      rintro x w8 ⟨rfl, hw⟩
      subst hw
      rw [hlr]
      go_wp2_with fail
      refine (ref_lets_any s kk _).mono ?_
      rintro x w8 ⟨rfl, hw⟩
      subst hw
      rw [hls]
      go_wp2_with fail
      have F2 := Lib.hid (fillG_own (fillG (fun _ => 0) k 1 (p : Int) 0 r) k 1 (p : Int) 1 s)
      have I2 := Lib.hid (fill_find (g := (fillG (fun _ => 0) k 1 (p : Int) 0 r)) (k := k) (e := 1) (p := (p : Int)) 1 s ON.out.ok.2.1 ON.out.only)
      refine (tfind_any T (fillG (fillG (fun _ => 0) k 1 (p : Int) 0 r) k 1 (p : Int) 1 s) 1 (p : Int) _ (Side.at [fixT (w7.heap.size + 1) (.cells #[.int .i64 1, .int .i64 (p : Int), .int .i64 1, .int .i64 s] 78), fixT w7.heap.size (.cells #[.int .i64 0, .int .u64 u] 85)] S7.out).1 k ON.out.lt ON.out.set I2.out.1 (fun j hj => I2.out.2 j (by have := ON.out.lt; omega) (by omega)) ⟨F2.out.1, F2.out.2.1, F2.out.2.2.1, F2.out.2.2.2.1⟩).mono ?_
      rintro x w9 ⟨rfl, hb⟩
      have S9 := Lib.hid ((S7.out.under hb).box (.cells #[.int .i64 1, .int .i64 (p : Int), .int .i64 1, .int .i64 s] 78))
      clear hb S7
      have ka := S9.out.1
      have ka0 := bk_cell ka 0
      have ka1 := bk_cell ka 1
      have ka2 := bk_cell ka 2
      have ka3 := bk_cell ka 3
      have lka := bk_lt ka
      clear ka
      have kb := S9.out.2.2.2.1
      have kb0 := bk_cell kb 0
      have kb1 := bk_cell kb 1
      have kb2 := bk_cell kb 2
      have kb3 := bk_cell kb 3
      have lkb := bk_lt kb
      clear kb
      have kc := S9.out.2.2.2.2.2.2.1
      have kc0 := bk_cell kc 0
      have kc1 := bk_cell kc 1
      have lkc := bk_lt kc
      clear kc
      have HE := Lib.hid S9.out.below
      clear S9
      go_wp2_with fail
      go_ret
      exact ⟨rfl, HE.out⟩
  · have WS : Hid (walkS (fillG (fun _ => 0) k 1 (p : Int) 0 r) (putG (fun _ => 0) p 1 0 s) 1 (p : Int) kk = ((fillG (fun _ => 0) k 1 (p : Int) 0 r), (1, (p : Int), 0, r), true)) := walk_hit ON.out.lt ON.out.hit ON.out.only ON.out.c0 ON.out.c1 ON.out.c2 ON.out.c3 hlr
    refine (side_udo HH.out [] S6.out ON.out.ok TO.out WI.out D0.out WS.out (er := 0) (v := (memV (fun _ => 0) 2 0 0 kk)) (mg' := (memS (fun _ => 0) 2 0 0 kk 0 0)) rfl (by rw [if_pos rfl]; rfl) (by rw [if_pos rfl]; rfl)).mono ?_
    rintro x w7 ⟨rfl, h7⟩
    obtain ⟨u, hu⟩ : ∃ u, (memV (fun _ => 0) 2 0 0 kk) = u := ⟨_, rfl⟩
    rw [hu]
    have S7 := Lib.hid ((h7.box (.cells #[.int .i64 0, .int .u64 u] 85)).boxAt (.cells #[.int .i64 1, .int .i64 (p : Int), .int .i64 0, .int .i64 r] 78) (w7.heap.size + 1) (by simp))
    clear h7 S6 WS hu
    go_wp2_with fail
    refine (ref_lets_any r kk _).mono ?_
    rintro x w8 ⟨rfl, hw⟩
    subst hw
    rw [hlr]
    have ka := S7.out.1
    have ka0 := bk_cell ka 0
    have ka1 := bk_cell ka 1
    have ka2 := bk_cell ka 2
    have ka3 := bk_cell ka 3
    have lka := bk_lt ka
    clear ka
    have kb := S7.out.2.2.2.1
    have kb0 := bk_cell kb 0
    have kb1 := bk_cell kb 1
    have lkb := bk_lt kb
    clear kb
    have HE := Lib.hid S7.out.below
    clear S7
    go_wp2_with fail
    go_ret
    exact ⟨rfl, HE.out⟩
end Go.Proofs.YtmifcfkchnilmaaGreatDoor

