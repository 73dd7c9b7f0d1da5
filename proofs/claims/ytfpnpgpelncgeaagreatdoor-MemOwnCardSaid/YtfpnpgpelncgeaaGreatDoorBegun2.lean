/- What is proved here: the beginning of the statements of messuagelaw2: it returns true and leaves what was there. Conditions: the library's variable errors.errorType holds the type error. -/
import Derived.Test.YtfpnpgpelncgeaaGreatDoorGStage
import Derived.Test.YtfpnpgpelncgeaaGreatDoorBegunS
namespace Go.Proofs.YtfpnpgpelncgeaaGreatDoor
open Go.RowKit Go.Extern.Stop Go.Stop Go.Extern Go.Maps

theorem begun_one (w : World) (hg : Held w) : Calls Tryz.prog 85 #[] w fun e w' => e = .returned (.bool true) ∧ Below w.heap.size w w' := by
  have HH := Lib.hid (begun_any w hg)
  go_enter Tryz.func85, Tryz.ntmps85
  go_wp2_with fail
  refine HH.out.mono ?_
  rintro e w1 ⟨rfl, hb⟩
  go_wp2_with fail
  go_ret
  exact ⟨rfl, hb⟩
theorem begun_check (w : World) : Calls Tryz.prog 24 #[callV 6 8 0 1 0, .int .i64 2] w fun e w' => e = .returned (.int .i64 2) ∧ Below w.heap.size w w' :=
  check_of 6 8 0 1 0 2 2 1 5 0 false true true true (by decide) (shape_6) (fun W => means_any 2 8 2 (by omega) (by omega) (by omega) (by omega) (by omega) (by omega) W) (fun W => means_any 1 0 2 (by omega) (by omega) (by omega) (by omega) (by omega) (by omega) W) (fun W => means_any 5 1 2 (by omega) (by omega) (by omega) (by omega) (by omega) (by omega) W) (fun W => means_any 0 0 2 (by omega) (by omega) (by omega) (by omega) (by omega) (by omega) W) w
theorem begun_put (w : World) : Calls Tryz.prog 26 #[.agg #[.int .i64 1, .int .i64 2, .int .i64 3]] w fun e w' => e = .returned (.tuple #[.int .u64 33059, .bool true]) ∧ Below w.heap.size w w' := by
  have h := put_any 1 2 3 w
  rw [show putW 1 2 3 = 33059 by decide, show putB 1 2 3 = true by decide] at h
  exact h
theorem begun_args (w : World) : Calls Tryz.prog 20 #[.int .i64 3] w fun e w' => e = .returned (.int .i64 4) ∧ Below w.heap.size w w' := by
  have h := Args_any 3 w
  rw [show argsN 3 = 4 by decide] at h
  exact h
theorem begun_within (w : World) : Calls Tryz.prog 32 #[.int .i64 1, .int .i64 3] w fun e w' => e = .returned (.bool true) ∧ w = w' := by
  have h := within_any 1 3 w
  rw [show withinB 1 3 = true by decide] at h
  exact h
theorem begun_by {w w' : World} {e : Ending} (h : ByPost (putG (fun _ => 0) 1 1 2 3) 2 w e w') : ∃ ao cap, e = .returned (.slice ao 1 cap) ∧ Below w.heap.size w w' := by
  obtain ⟨v, rfl, hr, hb⟩ := h
  have hl : (byL (putG (fun _ => 0) 1 1 2 3) 2 8).length = 1 := by decide
  rw [hl] at hr
  rcases hr.2 with ⟨rfl, h0⟩ | ⟨g, cap, cur, rfl, _⟩
  · omega
  · exact ⟨_, _, rfl, hb⟩
set_option maxRecDepth 100000 in
set_option maxHeartbeats 2000000 in
theorem begun_at (w : World) (hg : Held w) : BegunAt w := by
  unfold BegunAt
  have HG := Lib.hid hg
  clear hg
  go_enter Tryz.func15, Tryz.ntmps15
  go_wp2_with fail
  refine (new_2 w).mono ?_
  rintro e w1 ⟨M, F, rfl, hb1, hm1, hl1⟩
  have B1 := Lib.hid hb1
  have M1 := Lib.hid hm1
  have L1 := Lib.hid hl1
  clear hb1 hm1 hl1
  go_wp2_with fail
  refine (tab_new w1).mono ?_
  rintro e w2 ⟨rfl, hb2, ht2⟩
  obtain ⟨T, hT⟩ : ∃ T, T = w1.heap.size := ⟨_, rfl⟩
  rw [← hT] at ht2
  rw [← hT]
  have B2 := Lib.hid hb2
  have T2 := Lib.hid ht2
  have HT := Lib.hid hT
  clear hb2 ht2 hT
  go_wp2_with fail
  refine (tlb_new w2).mono ?_
  rintro e w3 ⟨rfl, hb3, hr3⟩
  obtain ⟨R, hR⟩ : ∃ R, R = w2.heap.size := ⟨_, rfl⟩
  rw [← hR] at hr3
  rw [← hR]
  have B3 := Lib.hid hb3
  have R3 := Lib.hid hr3
  have HR := Lib.hid hR
  clear hb3 hr3 hR
  go_wp2_with fail
  refine (mnew_ok 3 (by omega) (by omega) w3).mono ?_
  rintro e w4a ⟨X, B, rfl, hx4, hb4⟩
  have X4 := Lib.hid hx4
  have B4 := Lib.hid hb4
  clear hx4 hb4
  go_wp2_with fail
  refine (cell_new 5 w4a).mono ?_
  rintro e w4b ⟨C, rfl, hc4, hb4, hl4⟩
  have C5 := Lib.hid hc4
  have B5 := Lib.hid hb4
  have N5 := Lib.hid hl4
  clear hc4 hb4 hl4
  go_wp2_with fail
  refine (tick_new w4b).mono ?_
  rintro e w4c ⟨U, A, E, rfl, hk6, hb6, hU, hA, hE⟩
  have K6 := Lib.hid hk6
  have B6 := Lib.hid hb6
  have N6 := Lib.hid (show w4b.heap.size ≤ U ∧ w4b.heap.size ≤ A ∧ w4b.heap.size ≤ E from ⟨hU, hA, hE⟩)
  clear hk6 hb6 hU hA hE
  go_wp2_with fail
  refine (pool_new 2 (by omega) (by omega) w4c).mono ?_
  rintro e w4 ⟨Y, Z, rfl, hp7, hb7, hY, hZ⟩
  have L4 := Lib.hid (Live.start B1.out M1.out L1.out B2.out T2.out HT.out B3.out R3.out HR.out B4.out X4.out B5.out C5.out N5.out B6.out K6.out N6.out.1 N6.out.2.1 N6.out.2.2 hb7 hp7 hY hZ)
  clear hp7 hb7 hY hZ X4 B4 B1 M1 L1 B2 T2 HT B3 R3 HR C5 B5 N5 K6 B6 N6
  go_wp2_with fail
  refine (tins_ok w4 T 1 1 2 3 (fun _ => 0) (by omega) (by decide) L4.out.tab rfl).mono ?_
  rintro e w5 ⟨rfl, ht5, ho5⟩
  have L5 := Lib.hid (L4.out.tabbed ht5 ho5)
  clear ht5 ho5 L4
  go_wp2_with fail
  refine (begun_put w5).mono ?_
  rintro e w6 ⟨rfl, hb6⟩
  have L6 := Lib.hid (L5.out.under hb6)
  clear hb6 L5
  go_wp2_with fail
  refine (tfill_new R (fun _ => 0) 1 5 1 1 w6 L6.out.buf (by decide) (by decide) (fun k _ => by simp [hitB]) 1 (by omega) (by decide)).mono ?_
  rintro e w7 ⟨rfl, hr7, ho7⟩
  have L7 := Lib.hid (L6.out.filled hr7 ho7)
  clear hr7 ho7 L6
  go_wp2_with fail
  refine (tfind_hit R _ 1 5 w7 L7.out.buf 2 (by omega) (by decide) (by decide) (by decide)).mono ?_
  rintro e w8 ⟨rfl, hb8⟩
  have L8 := Lib.hid (L7.out.under hb8)
  clear hb8 L7
  go_wp2_with fail
  obtain ⟨P, hP⟩ : ∃ P, P = w8.heap.size := ⟨_, rfl⟩
  have L8' := Lib.hid (L8.out.under ((Below.refl _ _).alloc (Nat.le_refl _) (.cells #[.int .i64 1, .int .i64 5, .int .i64 1, .int .i64 1] 65)))
  have K8 : Hid ((w8.alloc (.cells #[.int .i64 1, .int .i64 5, .int .i64 1, .int .i64 1] 65)).heap[P]? = some (.cells #[.int .i64 1, .int .i64 5, .int .i64 1, .int .i64 1] 65 (0, 0))) := by rw [hP]; exact heap_alloc_new w8 _
  have N8 := Lib.hid (fun h => by have := L8.out.mail.low P h; omega : ¬ Plus (fun _ => False) w3 w4a P)
  have NC : Hid (¬ P = C) := by have := bk_lt L8.out.cell; show ¬ P = C; omega
  have NL : Hid (¬ (P = A ∨ P = E)) := by obtain ⟨n, m, hk, _⟩ := L8.out.lock; have h1 := bk_lt hk.one; have h2 := bk_lt hk.two; show ¬ (P = A ∨ P = E); omega
  have NZ : Hid (¬ P = Z) := by have := L8.out.pool.low.2; show ¬ P = Z; omega
  rw [← hP]
  clear hP L8
  refine (mall_in X B 3 _ (fun _ => []) 0 0 4 (by omega) (by omega) (by decide) (by omega) _ L8'.out.mail).mono ?_
  rintro e w9 ⟨rfl, hx9, ho9⟩
  have K9 := Lib.hid ((ho9.2.2.2.2 P (bk_lt K8.out) N8.out).trans K8.out)
  have N9 := Lib.hid (fun h => h.elim N8.out fun h => by have := bk_lt K8.out; omega : ¬ Plus (Plus (fun _ => False) w3 w4a) (w8.alloc (.cells #[.int .i64 1, .int .i64 5, .int .i64 1, .int .i64 1] 65)) w9 P)
  have L9 := Lib.hid (L8'.out.mailed hx9 ho9)
  clear hx9 ho9 L8' K8 N8
  go_wp2_with fail
  refine (mtake_some X B 3 _ _ _ 2 4 [] (by omega) (by decide) (by omega) w9 L9.out.mail).mono ?_
  rintro e wa ⟨rfl, hxa, hoa⟩
  have La := Lib.hid (L9.out.mailed hxa hoa)
  have Ka := Lib.hid ((hoa.2.2.2.2 P (bk_lt K9.out) N9.out).trans K9.out)
  clear hxa hoa L9 K9 N9
  go_wp2_with fail
  refine (cell_up_yes C 5 0 9 wa La.out.cell (by omega) (by omega) (by omega) (by omega) (by omega)).mono ?_
  rintro e wa2 ⟨rfl, hca, hoa⟩
  have La2 := Lib.hid (La.out.celled hca hoa)
  have Ka2 := Lib.hid ((hoa.block P (bk_lt Ka.out) (fun e => NC.out (by injection e with e))).trans Ka.out)
  clear hca hoa La Ka
  go_wp2_with fail
  refine (tick_draw U A E 0 0 0 wa2 La2.out.lock (by omega) (by omega) (by omega)).mono ?_
  rintro e wa3 ⟨rfl, hca, hoa⟩
  have La3 := Lib.hid (La2.out.locked hca hoa)
  have Ka3 := Lib.hid ((hoa.2.2.2.2 P (bk_lt Ka2.out) NL.out).trans Ka2.out)
  clear hca hoa La2 Ka2
  go_wp2_with fail
  refine (pool_take Y Z 2 (fun _ => 0) 0 (by omega) (by omega) rfl (fun i h => by omega) wa3 La3.out.pool).mono ?_
  rintro e wa4 ⟨rfl, hca, hoa⟩
  have La4 := Lib.hid (La3.out.pooled hca hoa)
  have Ka4 := Lib.hid ((hoa.block P (bk_lt Ka3.out) (fun e => NZ.out (by injection e with e))).trans Ka3.out)
  clear hca hoa La3 Ka3
  go_wp2_with fail
  refine (Kind_yes 6 0 0 0 0 (by decide) wa4).mono ?_
  rintro e wb ⟨rfl, hbb⟩
  have Lb := Lib.hid (La4.out.under hbb)
  have Kb := Lib.hid (bk_below Ka4.out hbb)
  clear hbb La4 Ka4
  go_wp2_with fail
  refine (begun_one wb (HG.out.below Lb.out.below HG.out.pos)).mono ?_
  rintro e wc ⟨rfl, hbc⟩
  have Lc := Lib.hid (Lb.out.under hbc)
  have cP := bk_cell (bk_below Kb.out hbc) 2
  clear hbc Lb Kb
  go_wp2_with fail
  clear cP
  refine (tick_turn_yes U A E _ 0 _ (by omega) wc Lc.out.lock (by omega)).mono ?_
  rintro e wc2 ⟨rfl, hca, hoa⟩
  have Lc2 := Lib.hid (Lc.out.locked hca hoa)
  clear hca hoa Lc
  go_wp2_with fail
  refine (tick_pass_yes U A E _ 0 _ (by omega) (by omega) (by omega) wc2 Lc2.out.lock (by omega)).mono ?_
  rintro e wc3 ⟨rfl, hca, hoa⟩
  have Lc3 := Lib.hid (Lc2.out.locked hca hoa)
  clear hca hoa Lc2
  go_wp2_with fail
  refine (store_any wc3 M F 2 1 3 9 _ Lc3.out.mem (by omega) (by omega) (by omega)).mono ?_
  rintro e wd ⟨rfl, rfl⟩
  obtain ⟨hbd, htd, hpd⟩ := Lc3.out.stored (i := 1 * 16 + 3) (by omega) 9
  obtain ⟨wd, hwd⟩ : ∃ wd, wd = wc3.setCell ⟨F, 1 * 16 + 3, none⟩ (.int .u64 9) := ⟨_, rfl⟩
  rw [← hwd] at hbd htd hpd
  rw [← hwd]
  have Bd := Lib.hid hbd
  have Td := Lib.hid htd
  have Pd := Lib.hid hpd
  clear hbd htd hpd hwd Lc3
  go_wp2_with fail
  refine (begun_check wd).mono ?_
  rintro e we ⟨rfl, hbe⟩
  have Be := Lib.hid (bl_trans Bd.out hbe)
  have Te := Lib.hid (Td.out.later hbe)
  have Pe := Lib.hid (Pd.out.later hbe)
  clear hbe Bd Td Pd
  go_wp2_with fail
  refine (begun_args we).mono ?_
  rintro e wf ⟨rfl, hbf⟩
  have Bf := Lib.hid (bl_trans Be.out hbf)
  have Tf := Lib.hid (Te.out.later hbf)
  have Pf := Lib.hid (Pe.out.later hbf)
  clear hbf Be Te Pe
  go_wp2_with fail
  refine (begun_within wf).mono ?_
  rintro e wg ⟨rfl, rfl⟩
  go_wp2_with fail
  refine (tby_any wf T _ 2 Tf.out).mono ?_
  intro e wh hh
  obtain ⟨ao, cap, rfl, hbh⟩ := begun_by hh
  have Bh := Lib.hid (bl_trans Bf.out hbh)
  have Ph := Lib.hid (Pf.out.later hbh)
  clear hbh hh Pf
  go_wp2_with fail
  refine (pool_bits Y Z 2 _ (by omega) wh Ph.out).mono ?_
  rintro e wi ⟨rfl, hbi⟩
  have Bi := Lib.hid (bl_trans Bh.out hbi)
  have hv : bitsUp (upR (fun _ => 0) 0 1) 2 = 2 := by decide
  rw [hv]
  clear hbi hv
  go_wp2_with fail
  go_ret
  exact ⟨rfl, Bi.out⟩
#print axioms begun_at
end Go.Proofs.YtfpnpgpelncgeaaGreatDoor
