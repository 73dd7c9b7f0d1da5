/- What is proved here: the statement MailAll: whatever its number of cores and its operations, the statement returns true and leaves what was there. Conditions: the operations' cells are there and are words; the statements' own beginning returns true. -/
import Derived.Test.YtfpnpgpelncgeaaGreatDoorMailS2
import Derived.RegionTactic
import Derived.Deep.CutBlock
import Derived.Deep.DeepCutAuto
namespace Go.Proofs.YtfpnpgpelncgeaaGreatDoor
open Go.RowKit Go.Extern.Stop Go.Stop Go.Extern Go.Maps

/-- What a round leaves. -/
def RoundAt (w : World) (M B C A n : Nat) (W : World) : Prop := ∃ V L k, k ≤ n ∧ AllAt w M B C A V L L k W
set_option maxRecDepth 100000 in
set_option maxHeartbeats 4000000 in
theorem mall_some (C : Nat) (h1 : 1 ≤ C) (h8 : C ≤ 8) (ao : Option Addr) (a : Addr) (len cap : Nat) (hao : 0 < len → ao = some a) (K F T E : Nat → Int) (w : World) (hk : ∀ i, i < len → w.cell? (a.add (i * 4)) = some (.int .i64 (K i))) (hf : ∀ i, i < len → w.cell? (a.add (i * 4 + 1)) = some (.int .i64 (F i))) (ht : ∀ i, i < len → w.cell? (a.add (i * 4 + 2)) = some (.int .i64 (T i))) (he : ∀ i, i < len → w.cell? (a.add (i * 4 + 3)) = some (.int .u64 (E i)))
    (hwf : ∀ i, i < len → (Lit.int .u64 (E i)).wf = true) (hbeg : ∀ V, Below w.heap.size w V → BegunAt V) :
    Calls Tryz.prog 7 #[.int .i64 C, .slice ao len cap] w fun e w' => e = .returned (.bool true) ∧ Below w.heap.size w w' := by
  obtain ⟨cs, hcs⟩ : ∃ cs, madeCells #[.slice none 0 0] C = cs := ⟨_, rfl⟩
  have HMK := Lib.hid (make_rows C h8 cs hcs)
  have HCS : Hid (∀ c, c < C → cs[c]? = some (.slice none 0 0)) := fun c hc => by rw [← hcs]; exact made_row C c hc
  have hC1 : (1 : Int) ≤ (C : Int) := by omega
  have hC8 : (C : Int) ≤ 8 := by omega
  have HA := Lib.hid hao
  have HW := Lib.hid hwf
  have HKc : Hid (∀ W, Below w.heap.size w W → ∀ i, i < len → W.cell? (a.add (i * 4)) = some (.int .i64 (K i))) := fun W hW i hi => (hW.cell (World.block_lt_of_cell? _ _ (hk i hi))).trans (hk i hi)
  have HFc : Hid (∀ W, Below w.heap.size w W → ∀ i, i < len → W.cell? (a.add (i * 4 + 1)) = some (.int .i64 (F i))) := fun W hW i hi => (hW.cell (World.block_lt_of_cell? _ _ (hf i hi))).trans (hf i hi)
  have HTc : Hid (∀ W, Below w.heap.size w W → ∀ i, i < len → W.cell? (a.add (i * 4 + 2)) = some (.int .i64 (T i))) := fun W hW i hi => (hW.cell (World.block_lt_of_cell? _ _ (ht i hi))).trans (ht i hi)
  have HEc : Hid (∀ W, Below w.heap.size w W → ∀ i, i < len → W.cell? (a.add (i * 4 + 3)) = some (.int .u64 (E i))) := fun W hW i hi => (hW.cell (World.block_lt_of_cell? _ _ (he i hi))).trans (he i hi)
  have HB := Lib.hid (hbeg w (Below.refl _ _))
  clear hao hk hf ht he hwf hbeg hcs
  go_enter Tryz.func7, Tryz.ntmps7
  go_wp2_with fail
  refine HB.out.mono ?_
  rintro e w1 ⟨rfl, hb1⟩
  have HB1 := Lib.hid hb1
  have HN := Lib.hid (mnew_ok C h1 h8 w1)
  clear hb1 HB
  go_wp2_with fail
  refine HN.out.mono ?_
  rintro e w2 ⟨M, B, rfl, hm, hb2⟩
  have HS := Lib.hid (all_start HB1.out hm hb2 cs 53 HCS.out)
  have hmk := HMK.out w2
  obtain ⟨A, hA⟩ : ∃ A, A = w2.heap.size := ⟨_, rfl⟩
  rw [← hA] at HS hmk
  clear hm hb2 HN HMK HB1 HCS hA
  go_wp2_with fail
  go_loopw [8] (fun iv W => ∃ i : Nat, iv = .int .i64 i ∧ i ≤ len ∧ i ≤ 50 ∧ RoundAt w M B C A (8 * i) W) (fun iv _ => (50 - intOf iv).toNat)
  case atStart => exact ⟨0, rfl, by omega, by omega, _, _, 0, Nat.le_refl _, HS.out⟩
  case round =>
    obtain ⟨i, rfl, hil, hi50, V, L, k, hk, ho⟩ := hrel
    have HO := Lib.hid ho
    clear ho HS hmk
    rcases (show (i < len ∧ i < 50) ∨ ¬ i < len ∨ (i < len ∧ i = 50) by omega) with ⟨h1, h2⟩ | h1 | ⟨h1, h2⟩
    · have hbw := all_below HO.out
      have z0 := HKc.out wr hbw i h1
      have z1 := (congrArg wr.cell? (mop_off a (i * 4) 1 (by omega))).trans (HFc.out wr hbw i h1)
      have z2 := (congrArg wr.cell? (mop_off a (i * 4) 2 (by omega))).trans (HTc.out wr hbw i h1)
      have z3 := (congrArg wr.cell? (mop_off a (i * 4) 3 (by omega))).trans (HEc.out wr hbw i h1)
      obtain rfl : ao = some a := HA.out (by omega)
      have i0 : (0 : Int) ≤ (i : Int) := by omega
      have i1 : (i : Int) < (len : Int) := by omega
      have i2 : (i : Int) < 50 := by omega
      have HE := Lib.hid (HW.out i h1)
      clear hbw
      obtain ⟨kd, hkd⟩ : ∃ kd, kd = K i := ⟨_, rfl⟩
      obtain ⟨fi, hfi⟩ : ∃ fi, fi = F i := ⟨_, rfl⟩
      obtain ⟨ti, hti⟩ : ∃ ti, ti = T i := ⟨_, rfl⟩
      obtain ⟨ei, hei⟩ : ∃ ei, ei = E i := ⟨_, rfl⟩
      rw [← hkd] at z0
      rw [← hfi] at z1
      rw [← hti] at z2
      rw [← hei] at z3 HE
      clear hkd hfi hti hei
      go_upto_region 12 with (fail)
      obtain ⟨w3, hw3⟩ : ∃ w3, w3 = wr.alloc (.cells #[.int .i64 kd, .int .i64 fi, .int .i64 ti, .int .u64 ei] 84) := ⟨_, rfl⟩
      obtain ⟨O, hO⟩ : ∃ O, O = wr.heap.size := ⟨_, rfl⟩
      have HP : Hid (OpAt w M B C A V L L k O #[.int .i64 kd, .int .i64 fi, .int .i64 ti, .int .u64 ei] w3) := by rw [hw3, hO]; exact HO.out.op _
      rw [← hw3, ← hO]
      clear hw3 hO HO z0 z1 z2 z3
      have c0 := HP.out.cells 0
      have c1 := HP.out.cells 1
      have c2 := HP.out.cells 2
      have c3 := HP.out.cells 3
      obtain ⟨inn, hinn⟩ : ∃ b : Bool, decide (0 ≤ fi ∧ fi < C) = b := ⟨_, rfl⟩
      have HI := Lib.hid hinn
      clear hinn
      go_cut [10] (fun v W => v = .bool inn ∧ W = w3)
      case first =>
        rcases (show (0 ≤ fi ∧ fi < C) ∨ ¬ 0 ≤ fi ∨ (0 ≤ fi ∧ ¬ fi < C) by omega) with ⟨g1, g2⟩ | g1 | ⟨g1, g2⟩
        all_goals
          go_wp2_with fail
          go_meet
          case rel => exact ⟨congrArg Value.bool (by rw [← HI.out]; first | exact (decide_eq_true (by omega)).symm | exact (decide_eq_false (by omega)).symm), rfl⟩
      case rest =>
        obtain ⟨rfl, rfl⟩ := hcut
        go_upto_block 2 with (fail)
        go_cut [11] (fun _ W => RoundAt w M B C A (8 * (i + 1)) W)
        case first =>
          by_cases k0 : kd = 0
          · subst k0
            rcases (show (∃ f t : Nat, fi = f ∧ ti = t ∧ f < C ∧ t < C ∧ ¬ t = f) ∨ sendB C fi ti = false by
              by_cases hs : 0 ≤ fi ∧ fi < C ∧ 0 ≤ ti ∧ ti < C ∧ ¬ ti = fi
              · exact .inl ⟨fi.toNat, ti.toNat, by omega, by omega, by omega, by omega, by omega⟩
              · refine .inr ?_
                unfold sendB
                simp only [Bool.and_eq_false_iff, decide_eq_false_iff_not]
                omega) with ⟨f, t, rfl, rfl, hf, ht, hne⟩ | hno
            · as_aux_lemma =>
                obtain rfl : true = inn := by rw [← HI.out]; exact (decide_eq_true (by omega)).symm
                have t0 : (0 : Int) ≤ (t : Int) := by omega
                have t1 : (t : Int) < (C : Int) := by omega
                have t2 : ¬ (t : Int) = (f : Int) := by omega
                have t3 : ((t : Int) != (f : Int)) = true := bne_iff_ne.2 t2
                have hLt : (L t).length ≤ 900 := by have := all_good HP.out.all t ht; omega
                have HS := Lib.hid (op_send HP.out f t ei hf ht hne HE.out (by omega))
                go_wp2_with fail
                refine HS.out.mono ?_
                rintro e w4 ⟨rfl, hp4⟩
                have HP4 := Lib.hid hp4
                clear hp4 c0 c1 c2 c3 HS HP
                go_wp2_with fail
                have hd : OpAt w M B C A V (upL L t (putL (L t) ei)) L (k + 1) O #[.int .i64 0, .int .i64 f, .int .i64 t, .int .u64 ei] w4.drew := HP4.out.drewN 1
                have HD := Lib.hid hd
                clear hd HP4
                refine wp_region_held_drew (S := fun w' => w'.cell? ⟨O, 2, none⟩ = some (.int .i64 (t : Int)) ∧ w'.cell? ⟨O, 3, none⟩ = some (.int .u64 ei)) (by kernel_rfl) ⟨HD.out.cells 2, HD.out.cells 3⟩ (fun hHeld => ?_)
                generalize w4.drew = w5 at HD hHeld ⊢
                have cA := (op_arr HD.out.all t ht).1
                have HPut := Lib.hid (op_put HD.out t ei ht hLt)
                refine wpAnyH_take (i := 0) (oi := ⟨some 151, _, _, _, _, _⟩) (v := ?_) rfl (by kernel_rfl) (by kernel_rfl) (by kernel_rfl) (fun _ _ _ h => h) (Or.inl ⟨by rfl, ?_⟩) (by assumption) ?_
                rotate_left
                · (intro w hSw; (try dsimp only at hSw); go_simp <;> with_reducible rfl)
                simp only [Act.put, List.setIfInBounds_toArray, List.set_cons_zero, List.set_cons_succ]
                refine wpAnyH_take (i := 1) (oi := ⟨some 152, _, _, _, _, _⟩) (v := ?_) rfl (by kernel_rfl) (by kernel_rfl) (by kernel_rfl) (fun _ _ _ h => h) (Or.inl ⟨by rfl, ?_⟩) (by assumption) ?_
                rotate_left
                · (intro w hSw; (try dsimp only at hSw); go_simp <;> with_reducible rfl)
                simp only [Act.put, List.setIfInBounds_toArray, List.set_cons_zero, List.set_cons_succ]
                refine wpAnyH_take (i := 2) (oi := ⟨some 153, _, _, _, _, _⟩) (v := ?_) rfl (by kernel_rfl) (by kernel_rfl) (by kernel_rfl) (fun _ _ _ h => h) (Or.inl ⟨by rfl, ?_⟩) (by assumption) ?_
                rotate_left
                · (intro w hSw; (try dsimp only at hSw); go_simp <;> with_reducible rfl)
                simp only [Act.put, List.setIfInBounds_toArray, List.set_cons_zero, List.set_cons_succ]
                refine wpAnyH_take (i := 3) (oi := ⟨some 154, _, _, _, _, _⟩) (v := ?_) rfl (by kernel_rfl) (by kernel_rfl) (by kernel_rfl) (fun _ _ _ h => h) (Or.inl ⟨by rfl, ?_⟩) (by assumption) ?_
                rotate_left
                · (intro w hSw; (try dsimp only at hSw); go_simp <;> with_reducible rfl)
                simp only [Act.put, List.setIfInBounds_toArray, List.set_cons_zero, List.set_cons_succ]
                refine wpAnyH_take (i := 4) (oi := ⟨some 155, _, _, _, _, _⟩) (v := ?_) rfl (by kernel_rfl) (by kernel_rfl) (by kernel_rfl) (fun _ _ _ h => h) (Or.inl ⟨by rfl, ?_⟩) (by assumption) ?_
                rotate_left
                · (intro w hSw; (try dsimp only at hSw); go_simp <;> with_reducible rfl)
                simp only [Act.put, List.setIfInBounds_toArray, List.set_cons_zero, List.set_cons_succ]
                refine wpAnyH_take (i := 5) (oi := ⟨some 156, _, _, _, _, _⟩) (v := ?_) rfl (by kernel_rfl) (by kernel_rfl) (by kernel_rfl) (fun _ _ _ h => h) (Or.inl ⟨by rfl, ?_⟩) (by assumption) ?_
                rotate_left
                · (intro w hSw; (try dsimp only at hSw); go_simp <;> with_reducible rfl)
                simp only [Act.put, List.setIfInBounds_toArray, List.set_cons_zero, List.set_cons_succ]
                refine wpAnyH_take (i := 6) (oi := ⟨some 157, _, _, _, _, _⟩) (v := ?_) rfl (by kernel_rfl) (by kernel_rfl) (by kernel_rfl) (fun _ _ _ h => h) (Or.inl ⟨by rfl, ?_⟩) (by assumption) ?_
                rotate_left
                · (intro w hSw; (try dsimp only at hSw); go_simp <;> with_reducible rfl)
                simp only [Act.put, List.setIfInBounds_toArray, List.set_cons_zero, List.set_cons_succ]
                refine wpAnyH_take (i := 8) (oi := ⟨some 159, _, _, _, _, _⟩) (v := ?_) rfl (by kernel_rfl) (by kernel_rfl) (by kernel_rfl) (fun _ _ _ h => h) (Or.inl ⟨by rfl, ?_⟩) (by assumption) ?_
                rotate_left
                · (intro w hSw; (try dsimp only at hSw); go_simp <;> with_reducible rfl)
                simp only [Act.put, List.setIfInBounds_toArray, List.set_cons_zero, List.set_cons_succ]
                refine wpAnyH_take (i := 9) (oi := ⟨some 160, _, _, _, _, _⟩) (v := ?_) rfl (by kernel_rfl) (by kernel_rfl) (by kernel_rfl) (fun _ _ _ h => h) (Or.inl ⟨by rfl, ?_⟩) (by assumption) ?_
                rotate_left
                · (intro w hSw; (try dsimp only at hSw); go_simp <;> with_reducible rfl)
                simp only [Act.put, List.setIfInBounds_toArray, List.set_cons_zero, List.set_cons_succ]
                refine wpAnyH_ready (rs := [7]) (by kernel_rfl) (by simp) ?_
                refine AllReadyH.cons (o := ⟨some 158, _, _, _, _, _⟩) rfl (fun K hK => ?_) AllReadyH.nil
                go_simp
                refine hK _ _ hHeld (fun hHeld => ?_)
                clear hK K
                try simp only [Act.put, List.setIfInBounds_toArray, List.set_cons_zero, List.set_cons_succ]
                refine wpAnyH_ready (rs := [10]) (by kernel_rfl) (by simp) ?_
                refine AllReadyH.cons (o := ⟨some 161, _, _, _, _, _⟩) rfl (fun K hK => ?_) AllReadyH.nil
                go_simp
                go_at_call 60
                refine HPut.out.mono ?_
                rintro e' wn ⟨ao2, n2, cap2, rfl, hpa, hpb⟩
                have HPB := Lib.hid hpb
                have cA := (op_arr hpa.all t ht).1
                have fA := (op_arr hpa.all t ht).2.1
                have hS : wn.cell? ⟨O, 2, none⟩ = some (.int .i64 (t : Int)) ∧ wn.cell? ⟨O, 3, none⟩ = some (.int .u64 ei) := ⟨hpa.cells 2, hpa.cells 3⟩
                have hS2 : (wn.setCell ⟨A, t, none⟩ (.slice ao2 n2 cap2)).cell? ⟨O, 2, none⟩ = some (.int .i64 (t : Int)) ∧ (wn.setCell ⟨A, t, none⟩ (.slice ao2 n2 cap2)).cell? ⟨O, 3, none⟩ = some (.int .u64 ei) := ⟨hpb.cells 2, hpb.cells 3⟩
                clear hpa hpb hHeld
                go_wp2_with fail
                refine hK.out _ _ hS (fun hHeld => ?_)
                clear hS hK K
                try simp only [Act.put, List.setIfInBounds_toArray, List.set_cons_zero, List.set_cons_succ]
                refine wpAnyH_take (i := 11) (oi := ⟨some 162, _, _, _, _, _⟩) (v := ?_) rfl (by kernel_rfl) (by kernel_rfl) (by kernel_rfl) (fun _ _ _ h => h) (Or.inl ⟨by rfl, ?_⟩) (by assumption) ?_
                rotate_left
                · (intro w hSw; (try dsimp only at hSw); go_simp <;> with_reducible rfl)
                simp only [Act.put, List.setIfInBounds_toArray, List.set_cons_zero, List.set_cons_succ]
                refine wpAnyH_ready (rs := [12]) (by kernel_rfl) (by simp) ?_
                refine AllReadyH.cons (o := ⟨none, _, _, _, _, _⟩) rfl (fun K hK => ?_) AllReadyH.nil
                go_simp
                refine hK _ _ hS2 (fun hHeld => ?_)
                clear hS2 hK K
                try simp only [Act.put, List.setIfInBounds_toArray, List.set_cons_zero, List.set_cons_succ]
                refine wpAnyH_done (by kernel_rfl) ?_ _
                go_wp2_with fail
                go_meet
                case rel => exact ⟨_, upL L t (putL (L t) ei), k + 1, by omega, HPB.out.all⟩
            · as_aux_lemma =>
                have HS := Lib.hid (op_send_no HP.out fi ti ei hno)
                rcases (show (0 ≤ fi ∧ fi < C ∧ 0 ≤ ti ∧ ti < C ∧ ti = fi) ∨ (0 ≤ fi ∧ fi < C ∧ 0 ≤ ti ∧ ¬ ti < C) ∨ (0 ≤ fi ∧ fi < C ∧ ¬ 0 ≤ ti) ∨ (¬ (0 ≤ fi ∧ fi < C)) by
                  unfold sendB at hno
                  simp only [Bool.and_eq_false_iff, decide_eq_false_iff_not] at hno
                  omega) with ⟨g1, g2, g3, g4, rfl⟩ | ⟨g1, g2, g3, g4⟩ | ⟨g1, g2, g3⟩ | g1
                all_goals clear hno
                · obtain rfl : true = inn := by rw [← HI.out]; exact (decide_eq_true (by omega)).symm
                  go_wp2_with fail
                  refine HS.out.mono ?_
                  rintro e w4 ⟨rfl, rfl⟩
                  go_wp2_with fail
                  go_meet
                  case rel => exact ⟨V, L, k, by omega, HP.out.all⟩
                · obtain rfl : true = inn := by rw [← HI.out]; exact (decide_eq_true (by omega)).symm
                  go_wp2_with fail
                  refine HS.out.mono ?_
                  rintro e w4 ⟨rfl, rfl⟩
                  go_wp2_with fail
                  go_meet
                  case rel => exact ⟨V, L, k, by omega, HP.out.all⟩
                · obtain rfl : true = inn := by rw [← HI.out]; exact (decide_eq_true (by omega)).symm
                  go_wp2_with fail
                  refine HS.out.mono ?_
                  rintro e w4 ⟨rfl, rfl⟩
                  go_wp2_with fail
                  go_meet
                  case rel => exact ⟨V, L, k, by omega, HP.out.all⟩
                · obtain rfl : false = inn := by rw [← HI.out]; exact (decide_eq_false (by omega)).symm
                  go_wp2_with fail
                  refine HS.out.mono ?_
                  rintro e w4 ⟨rfl, rfl⟩
                  go_wp2_with fail
                  go_meet
                  case rel => exact ⟨V, L, k, by omega, HP.out.all⟩
          · by_cases k1 : kd = 1
            · subst k1
              clear k0
              by_cases g : 0 ≤ fi ∧ fi < C
              · as_aux_lemma =>
                  obtain ⟨f, hf⟩ : ∃ f : Nat, fi = f := ⟨fi.toNat, by omega⟩
                  subst hf
                  have hf : f < C := by omega
                  obtain rfl : true = inn := by rw [← HI.out]; exact (decide_eq_true g).symm
                  clear g
                  go_wp2_with fail
                  go_loopw [12, 13] (fun nv cv W => ∃ (j : Nat) (V' : Nat → Value), nv = .int .i64 (cntA f j : Nat) ∧ cv = .int .i64 j ∧ j ≤ C ∧ OpAt w M B C A V' L (LA L f ei j) k O #[.int .i64 1, .int .i64 f, .int .i64 ti, .int .u64 ei] W) (fun _ cv _ => (C - intOf cv).toNat)
                  case atStart => exact ⟨0, V, by rw [show cntA f 0 = 0 by unfold cntA; split <;> rfl]; rfl, rfl, by omega, by rw [LA_zero]; exact HP.out⟩
                  case round =>
                    obtain ⟨j, V', rfl, rfl, hj, hp⟩ := hrel
                    have HQ := Lib.hid hp
                    clear hp c0 c1 c2 c3
                    have c1 := HQ.out.cells 1
                    by_cases hjC : j < C
                    · have j0 : (0 : Int) ≤ (j : Int) := by omega
                      have j1 : (j : Int) < (C : Int) := by omega
                      by_cases hjf : j = f
                      · subst hjf
                        go_wp2_with fail
                        go_roundw
                        case rel => exact ⟨j + 1, V', by rw [show cntA j (j + 1) = cntA j j by unfold cntA; rw [if_pos (by omega), if_neg (by omega)]; omega], by go_num, by omega, by rw [LA_own]; exact HQ.out⟩
                        case measure => simp [intOf]; omega
                      · have j2 : ¬ (j : Int) = (f : Int) := by omega
                        have j3 : ((j : Int) != (f : Int)) = true := bne_iff_ne.2 j2
                        have hle : (LA L f ei j j).length ≤ 900 := by
                          have := all_good HQ.out.all j hjC
                          unfold LA
                          rw [if_neg (by omega)]
                          omega
                        have hcn : cntA f j ≤ j := by unfold cntA; split <;> omega
                        have HCN := Lib.hid (show cntA f (j + 1) = cntA f j + 1 by unfold cntA; split <;> split <;> omega)
                        obtain ⟨cn, hcn2⟩ : ∃ cn, cntA f j = cn := ⟨_, rfl⟩
                        rw [hcn2] at HCN hcn ⊢
                        go_wp2_with fail
                        have hd : OpAt w M B C A V' L (LA L f ei j) k O #[.int .i64 1, .int .i64 f, .int .i64 ti, .int .u64 ei] wr.drew := HQ.out.drewN 1
                        have HD := Lib.hid hd
                        clear hd hcn2
                        refine wp_region_held_drew (S := fun w' => w'.cell? ⟨O, 3, none⟩ = some (.int .u64 ei)) (by kernel_rfl) (HD.out.cells 3) (fun hHeld => ?_)
                        generalize wr.drew = w5 at HD hHeld ⊢
                        have cA := (op_arr HD.out.all j hjC).1
                        have HPut := Lib.hid (op_put HD.out j ei hjC hle)
                        clear c1
                        refine wpAnyH_take (i := 0) (oi := ⟨some 177, _, _, _, _, _⟩) (v := ?_) rfl (by kernel_rfl) (by kernel_rfl) (by kernel_rfl) (fun _ _ _ h => h) (Or.inl ⟨by rfl, ?_⟩) (by assumption) ?_
                        rotate_left
                        · (intro w hSw; (try dsimp only at hSw); go_simp <;> with_reducible rfl)
                        simp only [Act.put, List.setIfInBounds_toArray, List.set_cons_zero, List.set_cons_succ]
                        refine wpAnyH_take (i := 1) (oi := ⟨some 178, _, _, _, _, _⟩) (v := ?_) rfl (by kernel_rfl) (by kernel_rfl) (by kernel_rfl) (fun _ _ _ h => h) (Or.inl ⟨by rfl, ?_⟩) (by assumption) ?_
                        rotate_left
                        · (intro w hSw; (try dsimp only at hSw); go_simp <;> with_reducible rfl)
                        simp only [Act.put, List.setIfInBounds_toArray, List.set_cons_zero, List.set_cons_succ]
                        refine wpAnyH_take (i := 2) (oi := ⟨some 179, _, _, _, _, _⟩) (v := ?_) rfl (by kernel_rfl) (by kernel_rfl) (by kernel_rfl) (fun _ _ _ h => h) (Or.inl ⟨by rfl, ?_⟩) (by assumption) ?_
                        rotate_left
                        · (intro w hSw; (try dsimp only at hSw); go_simp <;> with_reducible rfl)
                        simp only [Act.put, List.setIfInBounds_toArray, List.set_cons_zero, List.set_cons_succ]
                        refine wpAnyH_take (i := 3) (oi := ⟨some 180, _, _, _, _, _⟩) (v := ?_) rfl (by kernel_rfl) (by kernel_rfl) (by kernel_rfl) (fun _ _ _ h => h) (Or.inl ⟨by rfl, ?_⟩) (by assumption) ?_
                        rotate_left
                        · (intro w hSw; (try dsimp only at hSw); go_simp <;> with_reducible rfl)
                        simp only [Act.put, List.setIfInBounds_toArray, List.set_cons_zero, List.set_cons_succ]
                        refine wpAnyH_take (i := 4) (oi := ⟨some 181, _, _, _, _, _⟩) (v := ?_) rfl (by kernel_rfl) (by kernel_rfl) (by kernel_rfl) (fun _ _ _ h => h) (Or.inl ⟨by rfl, ?_⟩) (by assumption) ?_
                        rotate_left
                        · (intro w hSw; (try dsimp only at hSw); go_simp <;> with_reducible rfl)
                        simp only [Act.put, List.setIfInBounds_toArray, List.set_cons_zero, List.set_cons_succ]
                        refine wpAnyH_take (i := 6) (oi := ⟨some 183, _, _, _, _, _⟩) (v := ?_) rfl (by kernel_rfl) (by kernel_rfl) (by kernel_rfl) (fun _ _ _ h => h) (Or.inl ⟨by rfl, ?_⟩) (by assumption) ?_
                        rotate_left
                        · (intro w hSw; (try dsimp only at hSw); go_simp <;> with_reducible rfl)
                        simp only [Act.put, List.setIfInBounds_toArray, List.set_cons_zero, List.set_cons_succ]
                        refine wpAnyH_take (i := 7) (oi := ⟨some 184, _, _, _, _, _⟩) (v := ?_) rfl (by kernel_rfl) (by kernel_rfl) (by kernel_rfl) (fun _ _ _ h => h) (Or.inl ⟨by rfl, ?_⟩) (by assumption) ?_
                        rotate_left
                        · (intro w hSw; (try dsimp only at hSw); go_simp <;> with_reducible rfl)
                        simp only [Act.put, List.setIfInBounds_toArray, List.set_cons_zero, List.set_cons_succ]
                        refine wpAnyH_ready (rs := [5]) (by kernel_rfl) (by simp) ?_
                        refine AllReadyH.cons (o := ⟨some 182, _, _, _, _, _⟩) rfl (fun K hK => ?_) AllReadyH.nil
                        go_simp
                        refine hK _ _ hHeld (fun hHeld => ?_)
                        clear hK K
                        try simp only [Act.put, List.setIfInBounds_toArray, List.set_cons_zero, List.set_cons_succ]
                        refine wpAnyH_ready (rs := [8]) (by kernel_rfl) (by simp) ?_
                        refine AllReadyH.cons (o := ⟨some 185, _, _, _, _, _⟩) rfl (fun K hK => ?_) AllReadyH.nil
                        go_simp
                        go_at_call 60
                        refine HPut.out.mono ?_
                        rintro e' wn ⟨ao2, n2, cap2, rfl, hpa, hpb⟩
                        have HPB := Lib.hid hpb
                        have cA := (op_arr hpa.all j hjC).1
                        have fA := (op_arr hpa.all j hjC).2.1
                        have hS : wn.cell? ⟨O, 3, none⟩ = some (.int .u64 ei) := hpa.cells 3
                        have hS2 : (wn.setCell ⟨A, j, none⟩ (.slice ao2 n2 cap2)).cell? ⟨O, 3, none⟩ = some (.int .u64 ei) := hpb.cells 3
                        clear hpa hpb hHeld
                        go_wp2_with fail
                        refine hK.out _ _ hS (fun hHeld => ?_)
                        clear hS hK K
                        try simp only [Act.put, List.setIfInBounds_toArray, List.set_cons_zero, List.set_cons_succ]
                        refine wpAnyH_take (i := 9) (oi := ⟨some 186, _, _, _, _, _⟩) (v := ?_) rfl (by kernel_rfl) (by kernel_rfl) (by kernel_rfl) (fun _ _ _ h => h) (Or.inl ⟨by rfl, ?_⟩) (by assumption) ?_
                        rotate_left
                        · (intro w hSw; (try dsimp only at hSw); go_simp <;> with_reducible rfl)
                        simp only [Act.put, List.setIfInBounds_toArray, List.set_cons_zero, List.set_cons_succ]
                        refine wpAnyH_ready (rs := [10]) (by kernel_rfl) (by simp) ?_
                        refine AllReadyH.cons (o := ⟨none, _, _, _, _, _⟩) rfl (fun K hK => ?_) AllReadyH.nil
                        go_simp
                        refine hK _ _ hS2 (fun hHeld => ?_)
                        clear hS2 hK K
                        try simp only [Act.put, List.setIfInBounds_toArray, List.set_cons_zero, List.set_cons_succ]
                        refine wpAnyH_done (by kernel_rfl) ?_ _
                        go_wp2_with fail
                        go_roundw
                        case rel => exact ⟨j + 1, _, by rw [HCN.out]; go_num, by go_num, by omega, by rw [LA_step L f ei j hjf]; exact HPB.out⟩
                        case measure => simp [intOf]; omega
                    · obtain rfl : j = C := by omega
                      have j1 : ¬ (j : Int) < (j : Int) := by omega
                      have HCN := Lib.hid (show cntA f j = j - 1 by unfold cntA; rw [if_pos hf])
                      obtain ⟨cn, hcn2⟩ : ∃ cn, cntA f j = cn := ⟨_, rfl⟩
                      rw [hcn2] at HCN ⊢
                      clear hcn2
                      have c3 := HQ.out.cells 3
                      have HAl := Lib.hid (op_all HQ.out f ei hf h8 HE.out (by omega))
                      go_wp2_with fail
                      refine HAl.out.mono ?_
                      rintro e w4 ⟨rfl, hp4⟩
                      have HP4 := Lib.hid hp4
                      clear hp4
                      rw [← HCN.out]
                      go_wp2_with fail
                      go_meet
                      case rel => exact ⟨_, _, k + j, by omega, HP4.out.all⟩
              · as_aux_lemma =>
                  obtain rfl : false = inn := by rw [← HI.out]; exact (decide_eq_false g).symm
                  go_wp2_with fail
                  go_loopw [12, 13] (fun nv cv W => nv = .int .i64 0 ∧ cv = .int .i64 0 ∧ W = wc) (fun _ _ _ => 0)
                  case atStart => exact ⟨rfl, rfl, rfl⟩
                  case round =>
                    obtain ⟨rfl, rfl, rfl⟩ := hrel
                    have HAl := Lib.hid (op_all_no HP.out fi ei (by omega) h8)
                    have hC0 : (0 : Int) < (C : Int) := by omega
                    go_wp2_with fail
                    refine HAl.out.mono ?_
                    rintro e w4 ⟨rfl, rfl⟩
                    go_wp2_with fail
                    go_meet
                    case rel => exact ⟨V, L, k, by omega, HP.out.all⟩
            · have q0 : (kd == 0) = false := by simpa using k0
              have q1 : (kd == 1) = false := by simpa using k1
              clear k0 k1
              by_cases g : 0 ≤ ti ∧ ti < C
              · obtain ⟨t, ht⟩ : ∃ t : Nat, ti = t := ⟨ti.toNat, by omega⟩
                subst ht
                have t0 : (0 : Int) ≤ (t : Int) := by omega
                have t1 : (t : Int) < (C : Int) := by omega
                have ht : t < C := by omega
                clear g
                obtain ⟨l, hl⟩ : ∃ l, L t = l := ⟨_, rfl⟩
                cases l with
                | nil =>
                  as_aux_lemma =>
                    have HT := Lib.hid (op_take_none HP.out t ht hl)
                    obtain ⟨cA, _, ao2, cap2, hv⟩ := op_arr HP.out.all t ht
                    rw [hl] at hv
                    rw [hv] at cA
                    clear hv hl
                    go_wp2_with fail
                    refine HT.out.mono ?_
                    rintro e w4 ⟨rfl, rfl⟩
                    go_wp2_with fail
                    go_meet
                    case rel => exact ⟨V, L, k, by omega, HP.out.all⟩
                | cons x l =>
                  as_aux_lemma =>
                    have HT := Lib.hid (op_take HP.out t x l ht hl (by omega))
                    have HL := Lib.hid hl
                    clear hl
                    go_wp2_with fail
                    refine HT.out.mono ?_
                    rintro e w4 ⟨rfl, hp4⟩
                    have HP4 := Lib.hid hp4
                    obtain ⟨b, cap2, hv, hcap, hcap2, hx⟩ := op_head hp4 t ht x l HL.out
                    have cA := (op_arr hp4.all t ht).1
                    have HV := Lib.hid hv
                    rw [hv] at cA
                    have c2 := hp4.cells 2
                    clear hp4 c0 c1 c3 hv HT HP
                    have hx2 := hx
                    rw [show b.add 0 = b from rfl] at hx2
                    go_wp2_with fail
                    have hd : OpAt w M B C A V (upL L t l) L k O #[.int .i64 kd, .int .i64 fi, .int .i64 t, .int .u64 ei] w4.drew := HP4.out.drewN 1
                    have HD := Lib.hid hd
                    clear hd HP4 cA c2
                    refine wp_region_held_drew (S := fun w' => w'.cell? ⟨O, 2, none⟩ = some (.int .i64 (t : Int))) (by kernel_rfl) (HD.out.cells 2) (fun hHeld => ?_)
                    generalize w4.drew = w5 at HD hHeld ⊢
                    have cA := (op_arr HD.out.all t ht).1
                    have fA := (op_arr HD.out.all t ht).2.1
                    rw [HV.out] at cA
                    have l1 : (1 : Int) ≤ (l.length : Int) + 1 := by omega
                    rcases (show cap2 = 1 ∨ ¬ cap2 = 1 by omega) with hc | hc
                    · subst hc
                      obtain rfl : l = [] := List.eq_nil_of_length_eq_zero (by omega)
                      have hS2 := (op_tail HD.out t ht x [] HL.out b b _ 1 HV.out (.inr ⟨rfl, rfl⟩)).cells 2
                      have HPB := Lib.hid (op_tail HD.out t ht x [] HL.out b b _ 1 HV.out (.inr ⟨rfl, rfl⟩))
                      refine wpAnyH_take (i := 0) (oi := ⟨some 109, _, _, _, _, _⟩) (v := ?_) rfl (by kernel_rfl) (by kernel_rfl) (by kernel_rfl) (fun _ _ _ h => h) (Or.inl ⟨by rfl, ?_⟩) (by assumption) ?_
                      rotate_left
                      · (intro w hSw; (try dsimp only at hSw); go_simp <;> with_reducible rfl)
                      simp only [Act.put, List.setIfInBounds_toArray, List.set_cons_zero, List.set_cons_succ]
                      refine wpAnyH_take (i := 1) (oi := ⟨some 110, _, _, _, _, _⟩) (v := ?_) rfl (by kernel_rfl) (by kernel_rfl) (by kernel_rfl) (fun _ _ _ h => h) (Or.inl ⟨by rfl, ?_⟩) (by assumption) ?_
                      rotate_left
                      · (intro w hSw; (try dsimp only at hSw); go_simp <;> with_reducible rfl)
                      simp only [Act.put, List.setIfInBounds_toArray, List.set_cons_zero, List.set_cons_succ]
                      refine wpAnyH_take (i := 2) (oi := ⟨some 111, _, _, _, _, _⟩) (v := ?_) rfl (by kernel_rfl) (by kernel_rfl) (by kernel_rfl) (fun _ _ _ h => h) (Or.inl ⟨by rfl, ?_⟩) (by assumption) ?_
                      rotate_left
                      · (intro w hSw; (try dsimp only at hSw); go_simp <;> with_reducible rfl)
                      simp only [Act.put, List.setIfInBounds_toArray, List.set_cons_zero, List.set_cons_succ]
                      refine wpAnyH_take (i := 3) (oi := ⟨some 112, _, _, _, _, _⟩) (v := ?_) rfl (by kernel_rfl) (by kernel_rfl) (by kernel_rfl) (fun _ _ _ h => h) (Or.inl ⟨by rfl, ?_⟩) (by assumption) ?_
                      rotate_left
                      · (intro w hSw; (try dsimp only at hSw); go_simp <;> with_reducible rfl)
                      simp only [Act.put, List.setIfInBounds_toArray, List.set_cons_zero, List.set_cons_succ]
                      refine wpAnyH_take (i := 4) (oi := ⟨some 113, _, _, _, _, _⟩) (v := ?_) rfl (by kernel_rfl) (by kernel_rfl) (by kernel_rfl) (fun _ _ _ h => h) (Or.inl ⟨by rfl, ?_⟩) (by assumption) ?_
                      rotate_left
                      · (intro w hSw; (try dsimp only at hSw); go_simp <;> with_reducible rfl)
                      simp only [Act.put, List.setIfInBounds_toArray, List.set_cons_zero, List.set_cons_succ]
                      refine wpAnyH_take (i := 5) (oi := ⟨some 114, _, _, _, _, _⟩) (v := ?_) rfl (by kernel_rfl) (by kernel_rfl) (by kernel_rfl) (fun _ _ _ h => h) (Or.inl ⟨by rfl, ?_⟩) (by assumption) ?_
                      rotate_left
                      · (intro w hSw; (try dsimp only at hSw); go_simp <;> with_reducible rfl)
                      simp only [Act.put, List.setIfInBounds_toArray, List.set_cons_zero, List.set_cons_succ]
                      refine wpAnyH_take (i := 6) (oi := ⟨some 115, _, _, _, _, _⟩) (v := ?_) rfl (by kernel_rfl) (by kernel_rfl) (by kernel_rfl) (fun _ _ _ h => h) (Or.inl ⟨by rfl, ?_⟩) (by assumption) ?_
                      rotate_left
                      · (intro w hSw; (try dsimp only at hSw); go_simp <;> with_reducible rfl)
                      simp only [Act.put, List.setIfInBounds_toArray, List.set_cons_zero, List.set_cons_succ]
                      refine wpAnyH_ready (rs := [7]) (by kernel_rfl) (by simp) ?_
                      refine AllReadyH.cons (o := ⟨some 116, _, _, _, _, _⟩) rfl (fun K hK => ?_) AllReadyH.nil
                      go_simp
                      refine hK _ _ hHeld (fun hHeld => ?_)
                      clear hK K
                      try simp only [Act.put, List.setIfInBounds_toArray, List.set_cons_zero, List.set_cons_succ]
                      refine wpAnyH_take (i := 8) (oi := ⟨some 117, _, _, _, _, _⟩) (v := ?_) rfl (by kernel_rfl) (by kernel_rfl) (by kernel_rfl) (fun _ _ _ h => h) (Or.inl ⟨by rfl, ?_⟩) (by assumption) ?_
                      rotate_left
                      · (intro w hSw; (try dsimp only at hSw); go_simp <;> with_reducible rfl)
                      simp only [Act.put, List.setIfInBounds_toArray, List.set_cons_zero, List.set_cons_succ]
                      refine wpAnyH_take (i := 9) (oi := ⟨some 118, _, _, _, _, _⟩) (v := ?_) rfl (by kernel_rfl) (by kernel_rfl) (by kernel_rfl) (fun _ _ _ h => h) (Or.inl ⟨by rfl, ?_⟩) (by assumption) ?_
                      rotate_left
                      · (intro w hSw; (try dsimp only at hSw); go_simp <;> with_reducible rfl)
                      simp only [Act.put, List.setIfInBounds_toArray, List.set_cons_zero, List.set_cons_succ]
                      refine wpAnyH_ready (rs := [10]) (by kernel_rfl) (by simp) ?_
                      refine AllReadyH.cons (o := ⟨none, _, _, _, _, _⟩) rfl (fun K hK => ?_) AllReadyH.nil
                      go_simp
                      refine hK _ _ hS2 (fun hHeld => ?_)
                      clear hS2 hK K
                      try simp only [Act.put, List.setIfInBounds_toArray, List.set_cons_zero, List.set_cons_succ]
                      refine wpAnyH_done (by kernel_rfl) ?_ _
                      go_wp2_with fail
                      go_meet
                      case rel => exact ⟨_, _, k, by omega, HPB.out.all⟩
                    · have hS2 := (op_tail HD.out t ht x l HL.out b (b.add 1) _ cap2 HV.out (.inl rfl)).cells 2
                      have HPB := Lib.hid (op_tail HD.out t ht x l HL.out b (b.add 1) _ cap2 HV.out (.inl rfl))
                      refine wpAnyH_take (i := 0) (oi := ⟨some 109, _, _, _, _, _⟩) (v := ?_) rfl (by kernel_rfl) (by kernel_rfl) (by kernel_rfl) (fun _ _ _ h => h) (Or.inl ⟨by rfl, ?_⟩) (by assumption) ?_
                      rotate_left
                      · (intro w hSw; (try dsimp only at hSw); go_simp <;> with_reducible rfl)
                      simp only [Act.put, List.setIfInBounds_toArray, List.set_cons_zero, List.set_cons_succ]
                      refine wpAnyH_take (i := 1) (oi := ⟨some 110, _, _, _, _, _⟩) (v := ?_) rfl (by kernel_rfl) (by kernel_rfl) (by kernel_rfl) (fun _ _ _ h => h) (Or.inl ⟨by rfl, ?_⟩) (by assumption) ?_
                      rotate_left
                      · (intro w hSw; (try dsimp only at hSw); go_simp <;> with_reducible rfl)
                      simp only [Act.put, List.setIfInBounds_toArray, List.set_cons_zero, List.set_cons_succ]
                      refine wpAnyH_take (i := 2) (oi := ⟨some 111, _, _, _, _, _⟩) (v := ?_) rfl (by kernel_rfl) (by kernel_rfl) (by kernel_rfl) (fun _ _ _ h => h) (Or.inl ⟨by rfl, ?_⟩) (by assumption) ?_
                      rotate_left
                      · (intro w hSw; (try dsimp only at hSw); go_simp <;> with_reducible rfl)
                      simp only [Act.put, List.setIfInBounds_toArray, List.set_cons_zero, List.set_cons_succ]
                      refine wpAnyH_take (i := 3) (oi := ⟨some 112, _, _, _, _, _⟩) (v := ?_) rfl (by kernel_rfl) (by kernel_rfl) (by kernel_rfl) (fun _ _ _ h => h) (Or.inl ⟨by rfl, ?_⟩) (by assumption) ?_
                      rotate_left
                      · (intro w hSw; (try dsimp only at hSw); go_simp <;> with_reducible rfl)
                      simp only [Act.put, List.setIfInBounds_toArray, List.set_cons_zero, List.set_cons_succ]
                      refine wpAnyH_take (i := 4) (oi := ⟨some 113, _, _, _, _, _⟩) (v := ?_) rfl (by kernel_rfl) (by kernel_rfl) (by kernel_rfl) (fun _ _ _ h => h) (Or.inl ⟨by rfl, ?_⟩) (by assumption) ?_
                      rotate_left
                      · (intro w hSw; (try dsimp only at hSw); go_simp <;> with_reducible rfl)
                      simp only [Act.put, List.setIfInBounds_toArray, List.set_cons_zero, List.set_cons_succ]
                      refine wpAnyH_take (i := 5) (oi := ⟨some 114, _, _, _, _, _⟩) (v := ?_) rfl (by kernel_rfl) (by kernel_rfl) (by kernel_rfl) (fun _ _ _ h => h) (Or.inl ⟨by rfl, ?_⟩) (by assumption) ?_
                      rotate_left
                      · (intro w hSw; (try dsimp only at hSw); go_simp <;> with_reducible rfl)
                      simp only [Act.put, List.setIfInBounds_toArray, List.set_cons_zero, List.set_cons_succ]
                      refine wpAnyH_take (i := 6) (oi := ⟨some 115, _, _, _, _, _⟩) (v := ?_) rfl (by kernel_rfl) (by kernel_rfl) (by kernel_rfl) (fun _ _ _ h => h) (Or.inl ⟨by rfl, ?_⟩) (by assumption) ?_
                      rotate_left
                      · (intro w hSw; (try dsimp only at hSw); go_simp <;> with_reducible rfl)
                      simp only [Act.put, List.setIfInBounds_toArray, List.set_cons_zero, List.set_cons_succ]
                      refine wpAnyH_ready (rs := [7]) (by kernel_rfl) (by simp) ?_
                      refine AllReadyH.cons (o := ⟨some 116, _, _, _, _, _⟩) rfl (fun K hK => ?_) AllReadyH.nil
                      go_simp
                      refine hK _ _ hHeld (fun hHeld => ?_)
                      clear hK K
                      try simp only [Act.put, List.setIfInBounds_toArray, List.set_cons_zero, List.set_cons_succ]
                      refine wpAnyH_take (i := 8) (oi := ⟨some 117, _, _, _, _, _⟩) (v := ?_) rfl (by kernel_rfl) (by kernel_rfl) (by kernel_rfl) (fun _ _ _ h => h) (Or.inl ⟨by rfl, ?_⟩) (by assumption) ?_
                      rotate_left
                      · (intro w hSw; (try dsimp only at hSw); go_simp <;> with_reducible rfl)
                      simp only [Act.put, List.setIfInBounds_toArray, List.set_cons_zero, List.set_cons_succ]
                      refine wpAnyH_take (i := 9) (oi := ⟨some 118, _, _, _, _, _⟩) (v := ?_) rfl (by kernel_rfl) (by kernel_rfl) (by kernel_rfl) (fun _ _ _ h => h) (Or.inl ⟨by rfl, ?_⟩) (by assumption) ?_
                      rotate_left
                      · (intro w hSw; (try dsimp only at hSw); go_simp <;> with_reducible rfl)
                      simp only [Act.put, List.setIfInBounds_toArray, List.set_cons_zero, List.set_cons_succ]
                      refine wpAnyH_ready (rs := [10]) (by kernel_rfl) (by simp) ?_
                      refine AllReadyH.cons (o := ⟨none, _, _, _, _, _⟩) rfl (fun K hK => ?_) AllReadyH.nil
                      go_simp
                      refine hK _ _ hS2 (fun hHeld => ?_)
                      clear hS2 hK K
                      try simp only [Act.put, List.setIfInBounds_toArray, List.set_cons_zero, List.set_cons_succ]
                      refine wpAnyH_done (by kernel_rfl) ?_ _
                      go_wp2_with fail
                      go_meet
                      case rel => exact ⟨_, _, k, by omega, HPB.out.all⟩
              · as_aux_lemma =>
                  rcases (show ¬ 0 ≤ ti ∨ (0 ≤ ti ∧ ¬ ti < C) by omega) with g1 | ⟨g1, g2⟩
                  all_goals
                    have HT := Lib.hid (op_take_out HP.out ti (by omega))
                    clear g
                    go_wp2_with fail
                    refine HT.out.mono ?_
                    rintro e w4 ⟨rfl, rfl⟩
                    go_wp2_with fail
                    go_meet
                    case rel => exact ⟨V, L, k, by omega, HP.out.all⟩
        case rest =>
          as_aux_lemma =>
            obtain ⟨V2, L2, k2, hk2, ho2⟩ := hcut
            have HO2 := Lib.hid ho2
            clear ho2
            go_wp2_with fail
            go_loopw [17, 199] (fun _ cv W => ∃ c : Nat, cv = .int .i64 c ∧ c ≤ C ∧ AllAt w M B C A V2 L2 L2 k2 W) (fun _ cv _ => (C - intOf cv).toNat)
            case atStart => exact ⟨0, rfl, by omega, HO2.out⟩
            case round =>
              obtain ⟨c, rfl, hc, ho3⟩ := hrel
              have HO3 := Lib.hid ho3
              clear ho3
              by_cases hcC : c < C
              · have d0 : (0 : Int) ≤ (c : Int) := by omega
                have d1 : (c : Int) < (C : Int) := by omega
                obtain ⟨cA, _, ao2, cap2, hv⟩ := op_arr HO3.out c hcC
                rw [hv] at cA
                obtain ⟨N, hN⟩ : ∃ N, (L2 c).length = N := ⟨_, rfl⟩
                rw [hN] at cA
                have HWt : Hid (∀ n, Calls Tryz.prog 63 #[.pointer (some ⟨M, 0, none⟩), .int .i64 c] (wr.drewN n) fun r W' => r = .returned (.int .i64 (N : Nat)) ∧ W' = wr.drewN n) := fun n => by
                  rw [← hN]
                  exact (op_waits (HO3.out.drewN n) c hcC).mono fun _ _ ⟨h1, h2⟩ => ⟨h1, h2.symm⟩
                clear hv hN
                go_wp2_with fail
                go_quiet ((go_at_call 63; exact Calls.quiet_of_same (HWt.out _)))
                go_wp2_with fail
                go_roundw
                case rel => exact ⟨c + 1, by go_num, by omega, HO3.out.drewN _⟩
                case measure => simp [intOf]; omega
              · obtain rfl : c = C := by omega
                go_wp2_with fail
                go_roundw
                case rel => exact ⟨i + 1, by go_num, by omega, by omega, V2, L2, k2, hk2, HO3.out⟩
                case measure => simp [intOf]; omega
    all_goals
      obtain ⟨N, hN⟩ : ∃ N, 8 * i = N := ⟨_, rfl⟩
      have HWt := Lib.hid (op_waits_out HO.out)
      clear hN
      first
        | (have i1 : ¬ (i : Int) < (len : Int) := by omega
           go_wp2_with fail)
        | (have i1 : (i : Int) < (len : Int) := by omega
           have i2 : ¬ (i : Int) < 50 := by omega
           go_wp2_with fail)
      refine HWt.out.mono ?_
      rintro e w4 ⟨rfl, rfl⟩
      go_wp2_with fail
      go_ret
      exact ⟨rfl, all_below HO.out⟩
set_option maxRecDepth 100000 in
theorem mall_bad (x : Int) (hx : x < 1 ∨ 8 < x) (v : Value) (w : World) (hbeg : ∀ V, Below w.heap.size w V → BegunAt V) :
    Calls Tryz.prog 7 #[.int .i64 x, v] w fun e w' => e = .returned (.bool true) ∧ Below w.heap.size w w' := by
  have HB := Lib.hid (hbeg w (Below.refl _ _))
  clear hbeg
  rcases (show x < 1 ∨ (¬ x < 1 ∧ 8 < x) by omega) with g1 | ⟨g1, g2⟩
  all_goals
    go_enter Tryz.func7, Tryz.ntmps7
    go_wp2_with fail
    refine HB.out.mono ?_
    rintro e w1 ⟨rfl, hb1⟩
    have HB1 := Lib.hid hb1
    clear hb1
    go_wp2_with fail
    refine (mnew_no x hx w1).mono ?_
    rintro e w2 ⟨rfl, rfl⟩
    go_wp2_with fail
    go_ret
    exact ⟨rfl, HB1.out⟩
end Go.Proofs.YtfpnpgpelncgeaaGreatDoor
