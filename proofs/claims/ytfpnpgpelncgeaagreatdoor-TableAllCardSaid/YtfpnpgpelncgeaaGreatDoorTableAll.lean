/- What is proved here: the walk of the statement TableAll: it answers true and leaves the memory that was there as it was. Conditions: the statements' beginning does so in every later world; the list's operations are there. -/
import Derived.Test.YtfpnpgpelncgeaaGreatDoorTabPages
import Derived.RegionTactic
namespace Go.Proofs.YtfpnpgpelncgeaaGreatDoor
open Go.RowKit Go.Extern.Stop Go.Stop Go.Extern

/-- An entry that is not there has no number beside 0. -/
def NoneZero (g : Nat → Int) : Prop := ∀ p, p < 8 → g (p * 3 + 2) = 0 → g (p * 3) = 0 ∧ g (p * 3 + 1) = 0
theorem NoneZero.start : NoneZero (fun _ => 0) := fun _ _ _ => ⟨rfl, rfl⟩
theorem NoneZero.put {g : Nat → Int} (h : NoneZero g) (p : Nat) (f s r : Int) (hr : r = 0 → f = 0 ∧ s = 0) : NoneZero (putG g p f s r) := by
  intro q hq
  unfold putG
  by_cases e : q = p
  · subst e
    rw [if_pos rfl, if_neg (by omega), if_neg (by omega), if_pos rfl, if_neg (by omega), if_pos rfl]
    exact hr
  · rw [if_neg (by omega), if_neg (by omega), if_neg (by omega), if_neg (by omega), if_neg (by omega), if_neg (by omega), if_neg (by omega), if_neg (by omega), if_neg (by omega)]
    exact h q hq
theorem NoneZero.prot {g : Nat → Int} (h : NoneZero g) (p : Nat) (r : Int) (hr : 1 ≤ r) : NoneZero (protG g p r) := by
  intro q hq
  unfold protG
  by_cases e : q = p
  · subst e
    rw [if_pos rfl]
    intro h0
    omega
  · rw [if_neg (by omega), if_neg (by omega), if_neg (by omega)]
    exact h q hq
theorem putG_zero {g : Nat → Int} {p : Nat} (h0 : g (p * 3) = 0) (h1 : g (p * 3 + 1) = 0) (h2 : g (p * 3 + 2) = 0) : putG g p 0 0 0 = g := by
  funext j
  unfold putG
  by_cases e2 : j = p * 3 + 2
  · rw [if_pos e2, e2, h2]
  · rw [if_neg e2]
    by_cases e1 : j = p * 3 + 1
    · rw [if_pos e1, e1, h1]
    · rw [if_neg e1]
      by_cases e0 : j = p * 3
      · rw [if_pos e0, e0, h0]
      · rw [if_neg e0]
theorem bk_only {w w' : World} {b T : Nat} {o : Obj} (h : w.heap[b]? = some o) (ho : OnlyT T w w') (hne : b ≠ T) : w'.heap[b]? = some o :=
  (ho.block b (bk_lt h) (fun e => hne (by injection e))).trans h
theorem mayIns_zero {f s r : Int} (h : mayIns f s r = true) : ¬ r = 0 := by
  simp only [mayIns, Bool.and_eq_true, decide_eq_true_eq] at h
  omega
theorem mayIns_put {f s r : Int} (h : mayIns f s r = true) : putB f s r = true := by
  simp only [mayIns] at h
  simp only [putB, h, Bool.or_true]
theorem mayIns_no {f s r : Int} (h : mayIns f s r = false) : putB f s r = false ∨ (f = 0 ∧ s = 0 ∧ r = 0) := by
  rcases Bool.eq_false_or_eq_true (putB f s r) with hp | hp
  · right
    simp only [mayIns, putB] at h hp
    rw [h] at hp
    simpa using hp
  · exact .inl hp

theorem tb_off (a : Addr) (m j : Nat) (hj : 0 < j) : (⟨(a.add m).block, (a.add m).off + j, none⟩ : Addr) = a.add (m + j) := by
  unfold Addr.add
  by_cases hm : m = 0
  · subst hm
    rw [if_pos rfl, if_neg (by omega), Nat.zero_add]
  · rw [if_neg hm, if_neg (by omega), Nat.add_assoc]
set_option maxRecDepth 100000 in
set_option maxHeartbeats 8000000 in
theorem tableAll_some (slot : Int) (a : Addr) (len cap : Nat) (hlen : len ≤ 9223372036854775807) (z : Nat → Nat → Int) (w : World) (hz : ∀ i, i < len → ∀ j, j < 6 → w.cell? (a.add (i * 6 + j)) = some (.int .i64 (z i j))) (hbeg : ∀ W, Below w.heap.size w W → BegunAt W) :
    Calls Tryz.prog 5 #[.slice (some a) len cap, .int .i64 slot] w fun e w' => e = .returned (.bool true) ∧ Below w.heap.size w w' := by
  have HG := Lib.hid hbeg
  clear hbeg
  have HZ : Hid (∀ W, Below w.heap.size w W → ∀ i, i < len → ∀ j, j < 6 → W.cell? (a.add (i * 6 + j)) = some (.int .i64 (z i j))) := fun W hW i hi j hj => (hW.cell (cell_lt (hz i hi j hj))).trans (hz i hi j hj)
  clear hz
  go_enter Tryz.func5, Tryz.ntmps5
  go_wp2_with fail
  refine Calls.mono (HG.out _ (Below.refl _ _)) ?_
  rintro e w1 ⟨rfl, hb1⟩
  have B1 := Lib.hid hb1
  clear hb1 HG
  go_wp2_with fail
  refine (tab_new _).mono ?_
  rintro e w2 ⟨rfl, hb2, ht2⟩
  obtain ⟨T, hT⟩ : ∃ T, T = w1.heap.size := ⟨_, rfl⟩
  rw [← hT] at ht2
  rw [← hT]
  have HTl : Hid (w.heap.size ≤ T) := by rw [hT]; exact B1.out.size
  have B2 := Lib.hid (bl_trans B1.out hb2)
  have T2 := Lib.hid ht2
  clear hb2 ht2 hT B1
  go_wp2_with fail
  obtain ⟨w3, hw3⟩ : ∃ w3, w3 = w2.alloc (.cells #[.int .i64 0, .int .i64 0, .int .i64 0, .int .i64 0, .int .i64 0, .int .i64 0, .int .i64 0, .int .i64 0, .int .i64 0, .int .i64 0, .int .i64 0, .int .i64 0, .int .i64 0, .int .i64 0, .int .i64 0, .int .i64 0, .int .i64 0, .int .i64 0, .int .i64 0, .int .i64 0, .int .i64 0, .int .i64 0, .int .i64 0, .int .i64 0] 46) := ⟨_, rfl⟩
  obtain ⟨G, hG⟩ : ∃ G, G = w2.heap.size := ⟨_, rfl⟩
  have G3 : Hid (TabIs w3 G (fun _ => 0)) := by rw [hw3, hG]; exact TabIs.new w2 _
  have T3 : Hid (TabIs w3 T (fun _ => 0)) := by rw [hw3]; exact T2.out.alloc _
  have B3 : Hid (Below w.heap.size w w3) := by rw [hw3]; exact B2.out.alloc B2.out.size _
  have HGT : Hid (¬ T = G) := by rw [hG]; have := T2.out.2.2; exact fun e => by omega
  have HGl : Hid (w.heap.size ≤ G) := by rw [hG]; exact B2.out.size
  rw [← hw3, ← hG]
  clear hw3 hG T2 B2
  go_loopw [8] (fun iv W => ∃ (i : Nat) (g : Nat → Int), iv = .int .i64 i ∧ i ≤ 40 ∧ i ≤ len ∧ Below w.heap.size w W ∧ TabIs W T g ∧ TabIs W G g ∧ Hid (NoneZero g)) (fun iv _ => (40 - intOf iv).toNat)
  case atStart => exact ⟨0, fun _ => 0, rfl, by omega, by omega, B3.out, T3.out, G3.out, NoneZero.start⟩
  case round =>
    obtain ⟨i, g, rfl, hi, hil, hb, ht, hg, HN⟩ := hrel
    have HB := Lib.hid hb
    have HT := Lib.hid ht
    have HG := Lib.hid hg
    clear hb ht hg
    by_cases hlt : i < len ∧ i < 40
    · obtain ⟨hl1, hl2⟩ := hlt
      have z0 : wr.cell? (a.add (i * 6)) = some (.int .i64 (z i 0)) := HZ.out _ HB.out i hl1 0 (by omega)
      have z1 := (congrArg wr.cell? (tb_off a (i * 6) 1 (by omega))).trans (HZ.out _ HB.out i hl1 1 (by omega))
      have z2 := (congrArg wr.cell? (tb_off a (i * 6) 2 (by omega))).trans (HZ.out _ HB.out i hl1 2 (by omega))
      have z3 := (congrArg wr.cell? (tb_off a (i * 6) 3 (by omega))).trans (HZ.out _ HB.out i hl1 3 (by omega))
      have z4 := (congrArg wr.cell? (tb_off a (i * 6) 4 (by omega))).trans (HZ.out _ HB.out i hl1 4 (by omega))
      have z5 := (congrArg wr.cell? (tb_off a (i * 6) 5 (by omega))).trans (HZ.out _ HB.out i hl1 5 (by omega))
      have hidx : (0 : Int) ≤ (i : Int) := by omega
      obtain ⟨kd, hkd⟩ : ∃ kd, kd = z i 0 := ⟨_, rfl⟩
      obtain ⟨pg, hpg⟩ : ∃ pg, pg = z i 1 := ⟨_, rfl⟩
      obtain ⟨rt, hrt⟩ : ∃ rt, rt = z i 2 := ⟨_, rfl⟩
      obtain ⟨f, hf⟩ : ∃ f, f = z i 3 := ⟨_, rfl⟩
      obtain ⟨s, hs⟩ : ∃ s, s = z i 4 := ⟨_, rfl⟩
      obtain ⟨r, hr⟩ : ∃ r, r = z i 5 := ⟨_, rfl⟩
      rw [← hkd] at z0
      rw [← hpg] at z1
      rw [← hrt] at z2
      rw [← hf] at z3
      rw [← hs] at z4
      rw [← hr] at z5
      clear hkd hpg hrt hf hs hr
      by_cases hp : 0 ≤ pg ∧ pg < 8
      · obtain ⟨p, rfl⟩ : ∃ p : Nat, pg = (p : Int) := ⟨pg.toNat, by omega⟩
        have hp8 : p < 8 := by omega
        have hpi : (p : Int) < 8 := hp.2
        have hpn : (0 : Int) ≤ (p : Int) := hp.1
        clear hp
        have gl := HG.out.2.2
        have d2 := HG.out.1 (p * 3 + 2) (by omega)
        by_cases k0 : kd = 0
        · subst k0
          rcases Bool.eq_false_or_eq_true (mayIns f s r) with hm | hm
          · have hm2 := mayIns_put hm
            have hm3 := mayIns_zero hm
            have HM := Lib.hid hm
            have HP := Lib.hid (fun W => ref_pte_any f s r W)
            rw [hm2] at HP
            clear hm hm2
            by_cases hz0 : g (p * 3 + 2) = 0
            · rw [hz0] at d2
              have HZ0 := Lib.hid hz0
              clear hz0
              as_aux_lemma =>
                go_wp2_with fail
                refine (HP.out _).mono ?_
                rintro e w2 ⟨rfl, hb⟩
                have B2 := Lib.hid (bl_alloc HB.out hb)
                have K2 := Lib.hid (bk_one hb)
                have T2 := Lib.hid (HT.out.later (bl_alloc (Below.refl wr.heap.size wr) hb))
                have G2 := Lib.hid (HG.out.later (bl_alloc (Below.refl wr.heap.size wr) hb))
                clear hb
                clear d2
                have b0 := bk_cell K2.out 0
                have b1 := bk_cell K2.out 1
                have b2 := bk_cell K2.out 2
                have b3 := bk_cell K2.out 3
                have b4 := bk_cell K2.out 4
                have b5 := bk_cell K2.out 5
                have d0 := G2.out.1 (p * 3) (by omega)
                have d1 := G2.out.1 (p * 3 + 1) (by omega)
                have d2 := G2.out.1 (p * 3 + 2) (by omega)
                have e0 := G2.out.2.1 (p * 3)
                have e1 := G2.out.2.1 (p * 3 + 1)
                have e2 := G2.out.2.1 (p * 3 + 2)
                go_wp2_with fail
                clear b0 b1 b2 b3 b4 b5
                clear d0 d1 d2 e0 e1 e2
                obtain ⟨w3, hw3⟩ : ∃ w3, w3 = ((w2.setCell ⟨G, p * 3, none⟩ (.int .i64 f)).setCell ⟨G, p * 3 + 1, none⟩ (.int .i64 s)).setCell ⟨G, p * 3 + 2, none⟩ (.int .i64 r) := ⟨_, rfl⟩
                have B3 : Hid (Below w.heap.size w w3) := by rw [hw3]; exact bl_put B2.out HGl.out _ _ _
                have T3 : Hid (TabIs w3 T g) := by rw [hw3]; exact T2.out.put_far HGT.out _ _ _
                have G3 : Hid (TabIs w3 G (putG g p f s r)) := by rw [hw3]; exact G2.out.put hp8 f s r
                rw [← hw3]
                clear hw3
                refine (tins_ok _ T p f s r g hp8 HM.out T3.out HZ0.out).mono ?_
                rintro e w4 ⟨rfl, ht, ho⟩
                have B4 := Lib.hid (tp_bl B3.out HTl.out ho)
                have T4 := Lib.hid ht
                have G4 := Lib.hid (G3.out.only ho (fun e => HGT.out e.symm))
                clear ht ho
                go_wp2_with fail
                go_roundw
                case rel => exact ⟨i + 1, _, by go_num, by omega, by omega, B4.out, T4.out, G4.out, HN.out.put p f s r (fun h => absurd h hm3)⟩
                case measure => simp [intOf]; omega
            · as_aux_lemma =>
                go_wp2_with fail
                refine (HP.out _).mono ?_
                rintro e w2 ⟨rfl, hb⟩
                have B2 := Lib.hid (bl_alloc HB.out hb)
                have K2 := Lib.hid (bk_one hb)
                have T2 := Lib.hid (HT.out.later (bl_alloc (Below.refl wr.heap.size wr) hb))
                have G2 := Lib.hid (HG.out.later (bl_alloc (Below.refl wr.heap.size wr) hb))
                clear hb
                clear d2
                have b0 := bk_cell K2.out 0
                have b1 := bk_cell K2.out 1
                have b2 := bk_cell K2.out 2
                have b3 := bk_cell K2.out 3
                have b4 := bk_cell K2.out 4
                have b5 := bk_cell K2.out 5
                go_wp2_with fail
                clear b0 b1 b2 b3 b4 b5
                refine (tins_busy _ T p f s r g hp8 HM.out T2.out hz0).mono ?_
                rintro e w3 ⟨rfl, hb⟩
                have B3 := Lib.hid (bl_trans B2.out hb)
                have T3 := Lib.hid (T2.out.later hb)
                have G3 := Lib.hid (G2.out.later hb)
                clear hb
                go_wp2_with fail
                go_roundw
                case rel => exact ⟨i + 1, g, by go_num, by omega, by omega, B3.out, T3.out, G3.out, HN⟩
                case measure => simp [intOf]; omega
          · have HM := Lib.hid hm
            rcases mayIns_no hm with hm2 | ⟨rfl, rfl, rfl⟩
            · have HP := Lib.hid (fun W => ref_pte_any f s r W)
              rw [hm2] at HP
              clear hm hm2
              as_aux_lemma =>
                go_wp2_with fail
                refine (HP.out _).mono ?_
                rintro e w2 ⟨rfl, hb⟩
                have B2 := Lib.hid (bl_alloc HB.out hb)
                have K2 := Lib.hid (bk_one hb)
                have T2 := Lib.hid (HT.out.later (bl_alloc (Below.refl wr.heap.size wr) hb))
                have G2 := Lib.hid (HG.out.later (bl_alloc (Below.refl wr.heap.size wr) hb))
                clear hb
                clear d2
                have b0 := bk_cell K2.out 0
                have b1 := bk_cell K2.out 1
                have b2 := bk_cell K2.out 2
                have b3 := bk_cell K2.out 3
                have b4 := bk_cell K2.out 4
                have b5 := bk_cell K2.out 5
                go_wp2_with fail
                clear b0 b1 b2 b3 b4 b5
                refine (tins_may _ T p f s r hp8 HM.out).mono ?_
                rintro e w3 ⟨rfl, hb⟩
                have B3 := Lib.hid (bl_trans B2.out hb)
                have T3 := Lib.hid (T2.out.later hb)
                have G3 := Lib.hid (G2.out.later hb)
                clear hb
                go_wp2_with fail
                go_roundw
                case rel => exact ⟨i + 1, g, by go_num, by omega, by omega, B3.out, T3.out, G3.out, HN⟩
                case measure => simp [intOf]; omega
            · have HP := Lib.hid (fun W => ref_pte_any 0 0 0 W)
              rw [show putB 0 0 0 = true from rfl] at HP
              clear hm
              as_aux_lemma =>
                go_wp2_with fail
                refine (HP.out _).mono ?_
                rintro e w2 ⟨rfl, hb⟩
                have B2 := Lib.hid (bl_alloc HB.out hb)
                have K2 := Lib.hid (bk_one hb)
                have T2 := Lib.hid (HT.out.later (bl_alloc (Below.refl wr.heap.size wr) hb))
                have G2 := Lib.hid (HG.out.later (bl_alloc (Below.refl wr.heap.size wr) hb))
                clear hb
                clear d2
                have b0 := bk_cell K2.out 0
                have b1 := bk_cell K2.out 1
                have b2 := bk_cell K2.out 2
                have b3 := bk_cell K2.out 3
                have b4 := bk_cell K2.out 4
                have b5 := bk_cell K2.out 5
                go_wp2_with fail
                clear b0 b1 b2 b3 b4 b5
                refine (tins_may _ T p 0 0 0 hp8 HM.out).mono ?_
                rintro e w3 ⟨rfl, hb⟩
                have B3 := Lib.hid (bl_trans B2.out hb)
                have T3 := Lib.hid (T2.out.later hb)
                have G3 := Lib.hid (G2.out.later hb)
                clear hb
                go_wp2_with fail
                go_roundw
                case rel => exact ⟨i + 1, g, by go_num, by omega, by omega, B3.out, T3.out, G3.out, HN⟩
                case measure => simp [intOf]; omega
        · by_cases k1 : kd = 1
          · subst k1
            by_cases hz0 : g (p * 3 + 2) = 0
            · rw [hz0] at d2
              have HZ0 := Lib.hid hz0
              clear hz0
              as_aux_lemma =>
                go_wp2_with fail
                obtain ⟨w2, hw2⟩ : ∃ w2, w2 = wr.alloc (.cells #[.int .i64 1, .int .i64 p, .int .i64 rt, .int .i64 f, .int .i64 s, .int .i64 r] 48) := ⟨_, rfl⟩
                have B2 : Hid (Below w.heap.size w w2) := by rw [hw2]; exact HB.out.alloc HB.out.size _
                have K2 : Hid (w2.heap[wr.heap.size]? = some (.cells #[.int .i64 1, .int .i64 p, .int .i64 rt, .int .i64 f, .int .i64 s, .int .i64 r] 48 (0, 0))) := by rw [hw2]; exact heap_alloc_new wr _
                have T2 : Hid (TabIs w2 T g) := by rw [hw2]; exact HT.out.alloc _
                have G2 : Hid (TabIs w2 G g) := by rw [hw2]; exact HG.out.alloc _
                rw [← hw2]
                clear hw2 d2
                refine (trem_none _ T p g hp8 T2.out HZ0.out).mono ?_
                rintro e w3 ⟨rfl, hb⟩
                have B3 := Lib.hid (bl_trans B2.out hb)
                have T3 := Lib.hid (T2.out.later hb)
                have G3 := Lib.hid (G2.out.later hb)
                have K3 := Lib.hid (bk_below K2.out hb)
                clear hb
                have b0 := bk_cell K3.out 0
                have b1 := bk_cell K3.out 1
                have b2 := bk_cell K3.out 2
                have b3 := bk_cell K3.out 3
                have b4 := bk_cell K3.out 4
                have b5 := bk_cell K3.out 5
                have d0 := G3.out.1 (p * 3) (by omega)
                have d1 := G3.out.1 (p * 3 + 1) (by omega)
                have d2 := G3.out.1 (p * 3 + 2) (by omega)
                have e0 := G3.out.2.1 (p * 3)
                have e1 := G3.out.2.1 (p * 3 + 1)
                have e2 := G3.out.2.1 (p * 3 + 2)
                have hn := HN.out p hp8 HZ0.out
                rw [hn.1] at d0
                rw [hn.2] at d1
                rw [HZ0.out] at d2
                clear hn
                have gl3 := G3.out.2.2
                have bl3 := bk_lt K3.out
                go_wp2_with fail
                go_region
                go_wp2_with fail
                go_roundw
                case rel => exact ⟨i + 1, g, by go_num, by omega, by omega, ((bl_put B3.out HGl.out _ _ _).alloc (by have := B3.out.size; simp; omega) _).alloc (by have := B3.out.size; simp; omega) _ |>.drew, ((T3.out.put_far HGT.out _ _ _).alloc _).alloc _, by have h := ((G3.out.put hp8 0 0 0).alloc (.cells #[.int .i64 0, .int .i64 0, .int .i64 0] 36)).alloc (.cells #[.int .i64 0, .int .i64 0, .int .i64 0] 36); rw [putG_zero (HN.out p hp8 HZ0.out).1 (HN.out p hp8 HZ0.out).2 HZ0.out] at h; exact h, HN⟩
                case measure => simp [intOf]; omega
            · have hz1 : (g (p * 3 + 2) != 0) = true := by simpa using hz0
              have hz2 : (g (p * 3 + 2) == 0) = false := by simpa using hz0
              as_aux_lemma =>
                go_wp2_with fail
                obtain ⟨w2, hw2⟩ : ∃ w2, w2 = wr.alloc (.cells #[.int .i64 1, .int .i64 p, .int .i64 rt, .int .i64 f, .int .i64 s, .int .i64 r] 48) := ⟨_, rfl⟩
                have B2 : Hid (Below w.heap.size w w2) := by rw [hw2]; exact HB.out.alloc HB.out.size _
                have K2 : Hid (w2.heap[wr.heap.size]? = some (.cells #[.int .i64 1, .int .i64 p, .int .i64 rt, .int .i64 f, .int .i64 s, .int .i64 r] 48 (0, 0))) := by rw [hw2]; exact heap_alloc_new wr _
                have T2 : Hid (TabIs w2 T g) := by rw [hw2]; exact HT.out.alloc _
                have G2 : Hid (TabIs w2 G g) := by rw [hw2]; exact HG.out.alloc _
                rw [← hw2]
                clear hw2 d2
                refine (trem_ok _ T p g hp8 T2.out hz0).mono ?_
                rintro e w3 ⟨rfl, ht, ho⟩
                have B3 := Lib.hid (tp_bl B2.out HTl.out ho)
                have T3 := Lib.hid ht
                have G3 := Lib.hid (G2.out.only ho (fun e => HGT.out e.symm))
                have K3 := Lib.hid (bk_only K2.out ho (fun e => by have := HT.out.2.2; omega))
                clear ht ho
                have b0 := bk_cell K3.out 0
                have b1 := bk_cell K3.out 1
                have b2 := bk_cell K3.out 2
                have b3 := bk_cell K3.out 3
                have b4 := bk_cell K3.out 4
                have b5 := bk_cell K3.out 5
                have d0 := G3.out.1 (p * 3) (by omega)
                have d1 := G3.out.1 (p * 3 + 1) (by omega)
                have d2 := G3.out.1 (p * 3 + 2) (by omega)
                have e0 := G3.out.2.1 (p * 3)
                have e1 := G3.out.2.1 (p * 3 + 1)
                have e2 := G3.out.2.1 (p * 3 + 2)
                have gl3 := G3.out.2.2
                have bl3 := bk_lt K3.out
                go_wp2_with fail
                go_region
                go_wp2_with fail
                go_roundw
                case rel => exact ⟨i + 1, _, by go_num, by omega, by omega, ((bl_put B3.out HGl.out _ _ _).alloc (by have := B3.out.size; simp; omega) _).alloc (by have := B3.out.size; simp; omega) _ |>.drew, ((T3.out.put_far HGT.out _ _ _).alloc _).alloc _, ((G3.out.put hp8 0 0 0).alloc _).alloc _, HN.out.put p 0 0 0 (fun _ => ⟨rfl, rfl⟩)⟩
                case measure => simp [intOf]; omega
          · skip
            by_cases hr3 : 1 ≤ rt ∧ rt ≤ 3
            · have HR := Lib.hid hr3
              have HMy := Lib.hid (fun W => ref_may_yes rt hr3.1 hr3.2 W)
              clear hr3
              by_cases hz0 : g (p * 3 + 2) = 0
              · rw [hz0] at d2
                have HZ0 := Lib.hid hz0
                clear hz0
                as_aux_lemma =>
                  go_wp2_with fail
                  refine (HMy.out _).mono ?_
                  obtain ⟨w2, hw2⟩ : ∃ w2, w2 = wr.alloc (.cells #[.int .i64 kd, .int .i64 p, .int .i64 rt, .int .i64 f, .int .i64 s, .int .i64 r] 48) := ⟨_, rfl⟩
                  have B2 : Hid (Below w.heap.size w w2) := by rw [hw2]; exact HB.out.alloc HB.out.size _
                  have K2 : Hid (w2.heap[wr.heap.size]? = some (.cells #[.int .i64 kd, .int .i64 p, .int .i64 rt, .int .i64 f, .int .i64 s, .int .i64 r] 48 (0, 0))) := by rw [hw2]; exact heap_alloc_new wr _
                  have T2 : Hid (TabIs w2 T g) := by rw [hw2]; exact HT.out.alloc _
                  have G2 : Hid (TabIs w2 G g) := by rw [hw2]; exact HG.out.alloc _
                  rw [← hw2]
                  clear hw2 d2
                  rintro e w' ⟨rfl, rfl⟩
                  have b0 := bk_cell K2.out 0
                  have b1 := bk_cell K2.out 1
                  have b2 := bk_cell K2.out 2
                  have b3 := bk_cell K2.out 3
                  have b4 := bk_cell K2.out 4
                  have b5 := bk_cell K2.out 5
                  go_wp2_with fail
                  clear b0 b1 b2 b3 b4 b5
                  refine (tprot_none _ T p g hp8 T2.out rt HR.out HZ0.out).mono ?_
                  rintro e w3 ⟨rfl, hb⟩
                  have B3 := Lib.hid (bl_trans B2.out hb)
                  have T3 := Lib.hid (T2.out.later hb)
                  have G3 := Lib.hid (G2.out.later hb)
                  clear hb
                  go_wp2_with fail
                  go_roundw
                  case rel => exact ⟨i + 1, g, by go_num, by omega, by omega, B3.out, T3.out, G3.out, HN⟩
                  case measure => simp [intOf]; omega
              · skip
                as_aux_lemma =>
                  have hz1 : (g (p * 3 + 2) != 0) = true := by simpa using hz0
                  have hz2 : (g (p * 3 + 2) == 0) = false := by simpa using hz0
                  go_wp2_with fail
                  refine (HMy.out _).mono ?_
                  obtain ⟨w2, hw2⟩ : ∃ w2, w2 = wr.alloc (.cells #[.int .i64 kd, .int .i64 p, .int .i64 rt, .int .i64 f, .int .i64 s, .int .i64 r] 48) := ⟨_, rfl⟩
                  have B2 : Hid (Below w.heap.size w w2) := by rw [hw2]; exact HB.out.alloc HB.out.size _
                  have K2 : Hid (w2.heap[wr.heap.size]? = some (.cells #[.int .i64 kd, .int .i64 p, .int .i64 rt, .int .i64 f, .int .i64 s, .int .i64 r] 48 (0, 0))) := by rw [hw2]; exact heap_alloc_new wr _
                  have T2 : Hid (TabIs w2 T g) := by rw [hw2]; exact HT.out.alloc _
                  have G2 : Hid (TabIs w2 G g) := by rw [hw2]; exact HG.out.alloc _
                  rw [← hw2]
                  clear hw2 d2
                  rintro e w' ⟨rfl, rfl⟩
                  have b0 := bk_cell K2.out 0
                  have b1 := bk_cell K2.out 1
                  have b2 := bk_cell K2.out 2
                  have b3 := bk_cell K2.out 3
                  have b4 := bk_cell K2.out 4
                  have b5 := bk_cell K2.out 5
                  have d0 := G2.out.1 (p * 3) (by omega)
                  have d1 := G2.out.1 (p * 3 + 1) (by omega)
                  have d2 := G2.out.1 (p * 3 + 2) (by omega)
                  have e0 := G2.out.2.1 (p * 3)
                  have e1 := G2.out.2.1 (p * 3 + 1)
                  have e2 := G2.out.2.1 (p * 3 + 2)
                  go_wp2_with fail
                  clear b0 b1 b2 b3 b4 b5
                  clear d0 d1 d2 e0 e1 e2
                  obtain ⟨w3, hw3⟩ : ∃ w3, w3 = w2.setCell ⟨G, p * 3 + 2, none⟩ (.int .i64 rt) := ⟨_, rfl⟩
                  have B3 : Hid (Below w.heap.size w w3) := by rw [hw3]; exact B2.out.setCell HGl.out _
                  have T3 : Hid (TabIs w3 T g) := by rw [hw3]; exact T2.out.far HGT.out _
                  have G3 : Hid (TabIs w3 G (protG g p rt)) := by rw [hw3]; exact G2.out.set (i := p * 3 + 2) (by omega) rt
                  rw [← hw3]
                  clear hw3
                  refine (tprot_ok _ T p g hp8 T3.out rt HR.out hz0).mono ?_
                  rintro e w4 ⟨rfl, ht, ho⟩
                  have B4 := Lib.hid (tp_bl B3.out HTl.out ho)
                  have T4 := Lib.hid ht
                  have G4 := Lib.hid (G3.out.only ho (fun e => HGT.out e.symm))
                  clear ht ho
                  go_wp2_with fail
                  go_roundw
                  case rel => exact ⟨i + 1, _, by go_num, by omega, by omega, B4.out, T4.out, G4.out, HN.out.prot p rt HR.out.1⟩
                  case measure => simp [intOf]; omega
            · have hm : mayB rt = false := by simp [mayB]; omega
              have HM := Lib.hid hm
              have HMn := Lib.hid (fun W => ref_may_no rt hm W)
              clear hr3 hm
              as_aux_lemma =>
                go_wp2_with fail
                refine (HMn.out _).mono ?_
                obtain ⟨w2, hw2⟩ : ∃ w2, w2 = wr.alloc (.cells #[.int .i64 kd, .int .i64 p, .int .i64 rt, .int .i64 f, .int .i64 s, .int .i64 r] 48) := ⟨_, rfl⟩
                have B2 : Hid (Below w.heap.size w w2) := by rw [hw2]; exact HB.out.alloc HB.out.size _
                have K2 : Hid (w2.heap[wr.heap.size]? = some (.cells #[.int .i64 kd, .int .i64 p, .int .i64 rt, .int .i64 f, .int .i64 s, .int .i64 r] 48 (0, 0))) := by rw [hw2]; exact heap_alloc_new wr _
                have T2 : Hid (TabIs w2 T g) := by rw [hw2]; exact HT.out.alloc _
                have G2 : Hid (TabIs w2 G g) := by rw [hw2]; exact HG.out.alloc _
                rw [← hw2]
                clear hw2 d2
                rintro e w' ⟨rfl, rfl⟩
                have b0 := bk_cell K2.out 0
                have b1 := bk_cell K2.out 1
                have b2 := bk_cell K2.out 2
                have b3 := bk_cell K2.out 3
                have b4 := bk_cell K2.out 4
                have b5 := bk_cell K2.out 5
                go_wp2_with fail
                clear b0 b1 b2 b3 b4 b5
                refine (tprot_bad _ T p rt hp8 HM.out).mono ?_
                rintro e w' ⟨rfl, rfl⟩
                go_wp2_with fail
                go_roundw
                case rel => exact ⟨i + 1, g, by go_num, by omega, by omega, B2.out, T2.out, G2.out, HN⟩
                case measure => simp [intOf]; omega
      · by_cases hp1 : 0 ≤ pg
        · have hp2 : ¬ pg < 8 := fun h => hp ⟨hp1, h⟩
          clear hp
          by_cases k0 : kd = 0
          · subst k0
            as_aux_lemma =>
              go_wp2_with fail
              refine (ref_pte_any f s r _).mono ?_
              rintro e w2 ⟨rfl, hb⟩
              have B2 := Lib.hid (bl_alloc HB.out hb)
              have K2 := Lib.hid (bk_one hb)
              have T2 := Lib.hid (HT.out.later (bl_alloc (Below.refl wr.heap.size wr) hb))
              have G2 := Lib.hid (HG.out.later (bl_alloc (Below.refl wr.heap.size wr) hb))
              clear hb
              have b0 := bk_cell K2.out 0
              have b1 := bk_cell K2.out 1
              have b2 := bk_cell K2.out 2
              have b3 := bk_cell K2.out 3
              have b4 := bk_cell K2.out 4
              have b5 := bk_cell K2.out 5
              go_wp2_with fail
              clear b0 b1 b2 b3 b4 b5
              refine (tins_out _ T pg f s r (.inr (by omega))).mono ?_
              rintro e w3 ⟨rfl, hb⟩
              have B3 := Lib.hid (bl_trans B2.out hb)
              have T3 := Lib.hid (T2.out.later hb)
              have G3 := Lib.hid (G2.out.later hb)
              clear hb
              go_wp2_with fail
              go_roundw
              case rel => exact ⟨i + 1, g, by go_num, by omega, by omega, B3.out, T3.out, G3.out, HN⟩
              case measure => simp [intOf]; omega
          · by_cases k1 : kd = 1
            · subst k1
              as_aux_lemma =>
                go_wp2_with fail
                refine (trem_out _ T pg (.inr (by omega))).mono ?_
                rintro e w2 ⟨rfl, hb⟩
                have B2 := Lib.hid (bl_alloc HB.out hb)
                have K2 := Lib.hid (bk_one hb)
                have T2 := Lib.hid (HT.out.later (bl_alloc (Below.refl wr.heap.size wr) hb))
                have G2 := Lib.hid (HG.out.later (bl_alloc (Below.refl wr.heap.size wr) hb))
                clear hb
                have b0 := bk_cell K2.out 0
                have b1 := bk_cell K2.out 1
                have b2 := bk_cell K2.out 2
                have b3 := bk_cell K2.out 3
                have b4 := bk_cell K2.out 4
                have b5 := bk_cell K2.out 5
                go_wp2_with fail
                go_roundw
                case rel => exact ⟨i + 1, g, by go_num, by omega, by omega, (B2.out.alloc B2.out.size _).alloc (by have := B2.out.size; simp; omega) _, (T2.out.alloc _).alloc _, (G2.out.alloc _).alloc _, HN⟩
                case measure => simp [intOf]; omega
            · skip
              as_aux_lemma =>
                go_wp2_with fail
                refine (tprot_out _ T pg rt (.inr (by omega))).mono ?_
                rintro e w2 ⟨rfl, rfl⟩
                go_wp2_with fail
                go_roundw
                case rel => exact ⟨i + 1, g, by go_num, by omega, by omega, HB.out.alloc HB.out.size _, HT.out.alloc _, HG.out.alloc _, HN⟩
                case measure => simp [intOf]; omega
        · clear hp
          by_cases k0 : kd = 0
          · subst k0
            as_aux_lemma =>
              go_wp2_with fail
              refine (ref_pte_any f s r _).mono ?_
              rintro e w2 ⟨rfl, hb⟩
              have B2 := Lib.hid (bl_alloc HB.out hb)
              have K2 := Lib.hid (bk_one hb)
              have T2 := Lib.hid (HT.out.later (bl_alloc (Below.refl wr.heap.size wr) hb))
              have G2 := Lib.hid (HG.out.later (bl_alloc (Below.refl wr.heap.size wr) hb))
              clear hb
              have b0 := bk_cell K2.out 0
              have b1 := bk_cell K2.out 1
              have b2 := bk_cell K2.out 2
              have b3 := bk_cell K2.out 3
              have b4 := bk_cell K2.out 4
              have b5 := bk_cell K2.out 5
              go_wp2_with fail
              clear b0 b1 b2 b3 b4 b5
              refine (tins_out _ T pg f s r (.inl (by omega))).mono ?_
              rintro e w3 ⟨rfl, hb⟩
              have B3 := Lib.hid (bl_trans B2.out hb)
              have T3 := Lib.hid (T2.out.later hb)
              have G3 := Lib.hid (G2.out.later hb)
              clear hb
              go_wp2_with fail
              go_roundw
              case rel => exact ⟨i + 1, g, by go_num, by omega, by omega, B3.out, T3.out, G3.out, HN⟩
              case measure => simp [intOf]; omega
          · by_cases k1 : kd = 1
            · subst k1
              as_aux_lemma =>
                go_wp2_with fail
                refine (trem_out _ T pg (.inl (by omega))).mono ?_
                rintro e w2 ⟨rfl, hb⟩
                have B2 := Lib.hid (bl_alloc HB.out hb)
                have K2 := Lib.hid (bk_one hb)
                have T2 := Lib.hid (HT.out.later (bl_alloc (Below.refl wr.heap.size wr) hb))
                have G2 := Lib.hid (HG.out.later (bl_alloc (Below.refl wr.heap.size wr) hb))
                clear hb
                have b0 := bk_cell K2.out 0
                have b1 := bk_cell K2.out 1
                have b2 := bk_cell K2.out 2
                have b3 := bk_cell K2.out 3
                have b4 := bk_cell K2.out 4
                have b5 := bk_cell K2.out 5
                go_wp2_with fail
                go_roundw
                case rel => exact ⟨i + 1, g, by go_num, by omega, by omega, (B2.out.alloc B2.out.size _).alloc (by have := B2.out.size; simp; omega) _, (T2.out.alloc _).alloc _, (G2.out.alloc _).alloc _, HN⟩
                case measure => simp [intOf]; omega
            · skip
              as_aux_lemma =>
                go_wp2_with fail
                refine (tprot_out _ T pg rt (.inl (by omega))).mono ?_
                rintro e w2 ⟨rfl, rfl⟩
                go_wp2_with fail
                go_roundw
                case rel => exact ⟨i + 1, g, by go_num, by omega, by omega, HB.out.alloc HB.out.size _, HT.out.alloc _, HG.out.alloc _, HN⟩
                case measure => simp [intOf]; omega
    · by_cases h1 : i < len
      · have h2 : ¬ i < 40 := fun h => hlt ⟨h1, h⟩
        clear hlt
        go_wp2_with fail
        refine (twords_any _ T g HT.out).mono ?_
        rintro e w4 ⟨rfl, hm, hb⟩
        obtain ⟨M, hM⟩ : ∃ M, M = wr.heap.size := ⟨_, rfl⟩
        rw [← hM] at hm
        rw [← hM]
        have B4 := Lib.hid (bl_trans HB.out hb)
        have T4 := Lib.hid (HT.out.later hb)
        have G4 := Lib.hid (HG.out.later hb)
        have M4 := Lib.hid hm
        clear hb hm hM
        go_wp2_with fail
        refine (tby_any _ T g slot T4.out).mono ?_
        rintro e w5 ⟨v, rfl, hown, hb⟩
        obtain ⟨A, c, rfl, hp⟩ := pages_at hown
        have B5 := Lib.hid (bl_trans B4.out hb)
        have T5 := Lib.hid (T4.out.later hb)
        have G5 := Lib.hid (G4.out.later hb)
        have M5 := Lib.hid (M4.out.later hb)
        have P5 := Lib.hid hp
        have hl8 := byL_le g slot 8
        clear hb hown hp
        obtain ⟨w5', rfl⟩ : ∃ x, x = w5 := ⟨_, rfl⟩
        go_wp2_with fail
        clear HZ HB HT HG
        go_loopw [22, 163] (fun nv kv W => ∃ k : Nat, k ≤ 8 ∧ kv = .int .i64 k ∧ nv = .int .i64 ((byL g slot k).length : Nat) ∧ Below w.heap.size w W ∧ TabIs W T g ∧ TabIs W G g ∧ WordsIs W M (wordsG g 8) ∧ PagesAt W A (byL g slot 8)) (fun _ kv _ => (8 - intOf kv).toNat)
        case atStart => exact ⟨0, by omega, rfl, rfl, B5.out, T5.out, G5.out, M5.out, P5.out⟩
        case round =>
          obtain ⟨k, hk, rfl, rfl, hb, ht, hg, hm, hp⟩ := hrel
          have HB := Lib.hid hb
          have HT := Lib.hid ht
          have HG := Lib.hid hg
          have HM := Lib.hid hm
          have HP := Lib.hid hp
          clear hb ht hg hm hp
          by_cases hlt : k < 8
          · have hkn : (0 : Int) ≤ (k : Int) := by omega
            have hk8 : (k : Int) < 8 := by omega
            go_wp2_with fail
            by_cases hz : g (k * 3 + 2) = 0
            · have HZ0 := Lib.hid hz
              have HN2 := Lib.hid (HN.out k hlt hz)
              have HL := Lib.hid (byL_no g slot k (fun h => h.1 hz))
              clear hz
              have hn := HN2.out
              as_aux_lemma =>
                refine (tat_none _ T k g hlt HT.out HZ0.out).mono ?_
                rintro e w6 ⟨rfl, hb⟩
                have B6 := Lib.hid (bl_trans HB.out hb)
                have T6 := Lib.hid (HT.out.later hb)
                have G6 := Lib.hid (HG.out.later hb)
                have M6 := Lib.hid (HM.out.later hb)
                have P6 := Lib.hid (HP.out.later hb)
                clear hb
                have d0 := G6.out.1 (k * 3) (by omega)
                have d1 := G6.out.1 (k * 3 + 1) (by omega)
                have d2 := G6.out.1 (k * 3 + 2) (by omega)
                rw [hn.1] at d0
                rw [hn.2] at d1
                rw [HZ0.out] at d2
                have gl6 := G6.out.2.2
                go_wp2_with fail
                refine (ref_pte_any _ _ _ _).mono ?_
                rintro e w7 ⟨rfl, hb⟩
                have B7 := Lib.hid (bl_alloc B6.out hb)
                have hbb := bl_alloc (Below.refl w6.heap.size w6) hb
                have T7 := Lib.hid (T6.out.later hbb)
                have G7 := Lib.hid (G6.out.later hbb)
                have M7 := Lib.hid (M6.out.later hbb)
                have P7 := Lib.hid (P6.out.later hbb)
                have K7 := Lib.hid (bk_one hb)
                clear hb hbb d0 d1 d2 gl6
                have b0 := bk_cell K7.out 0
                have b1 := bk_cell K7.out 1
                have b2 := bk_cell K7.out 2
                have m0 := M7.out.1 k hlt
                rw [show wordsG g 8 k = entW g k by unfold wordsG; rw [if_pos hlt]] at m0
                unfold entW at m0
                have d0 := G7.out.1 (k * 3) (by omega)
                have d1 := G7.out.1 (k * 3 + 1) (by omega)
                have d2 := G7.out.1 (k * 3 + 2) (by omega)
                rw [hn.1] at d0 m0
                rw [hn.2] at d1 m0
                rw [HZ0.out] at d2 m0
                go_wp2_with fail
                go_quiet (fail)
                go_wp2_with fail
                go_roundw
                case rel => exact ⟨k + 1, by omega, by go_num, by rw [HL.out], dn B7.out _, T7.out.drewN _, G7.out.drewN _, M7.out, P7.out⟩
                case measure => simp [intOf]; omega
            · have hz1 : (g (k * 3 + 2) != 0) = true := by simpa using hz
              have hz2 : (g (k * 3 + 2) == 0) = false := by simpa using hz
              by_cases hs : g (k * 3 + 1) = slot
              · have HH := Lib.hid (byL_hit g slot k hlt ⟨hz, hs⟩)
                have HL := Lib.hid (byL_len g slot k ⟨hz, hs⟩)
                have hs1 : (g (k * 3 + 1) == slot) = true := by simpa using hs
                have HS := Lib.hid hs
                clear hs
                as_aux_lemma =>
                  refine (tat_ok _ T k g hlt HT.out hz).mono ?_
                  rintro e w6 ⟨rfl, hb⟩
                  have B6 := Lib.hid (bl_trans HB.out hb)
                  have T6 := Lib.hid (HT.out.later hb)
                  have G6 := Lib.hid (HG.out.later hb)
                  have M6 := Lib.hid (HM.out.later hb)
                  have P6 := Lib.hid (HP.out.later hb)
                  clear hb
                  have d0 := G6.out.1 (k * 3) (by omega)
                  have d1 := G6.out.1 (k * 3 + 1) (by omega)
                  have d2 := G6.out.1 (k * 3 + 2) (by omega)
                  have gl6 := G6.out.2.2
                  go_wp2_with fail
                  refine (ref_pte_any _ _ _ _).mono ?_
                  rintro e w7 ⟨rfl, hb⟩
                  have B7 := Lib.hid (bl_alloc B6.out hb)
                  have hbb := bl_alloc (Below.refl w6.heap.size w6) hb
                  have T7 := Lib.hid (T6.out.later hbb)
                  have G7 := Lib.hid (G6.out.later hbb)
                  have M7 := Lib.hid (M6.out.later hbb)
                  have P7 := Lib.hid (P6.out.later hbb)
                  have K7 := Lib.hid (bk_one hb)
                  clear hb hbb d0 d1 d2 gl6
                  have b0 := bk_cell K7.out 0
                  have b1 := bk_cell K7.out 1
                  have b2 := bk_cell K7.out 2
                  have m0 := M7.out.1 k hlt
                  rw [show wordsG g 8 k = entW g k by unfold wordsG; rw [if_pos hlt]] at m0
                  unfold entW at m0
                  have d0 := G7.out.1 (k * 3) (by omega)
                  have d1 := G7.out.1 (k * 3 + 1) (by omega)
                  have d2 := G7.out.1 (k * 3 + 2) (by omega)
                  go_wp2_with fail
                  go_quiet (fail)
                  obtain ⟨b, rfl, _, hc⟩ := P7.out _ HH.out.1
                  rw [HH.out.2] at hc
                  have hhl := HH.out.1
                  have hhn : (0 : Int) ≤ ((byL g slot k).length : Int) := by omega
                  have hh9 := byL_le g slot k
                  have hh8 : decide ((byL g slot 8).length ≤ (byL g slot k).length) = false := decide_eq_false (Nat.not_le.2 hhl)
                  go_wp2_with fail
                  go_roundw
                  case rel => exact ⟨k + 1, by omega, by go_num, by rw [HL.out]; go_num, dn B7.out _, T7.out.drewN _, G7.out.drewN _, M7.out, P7.out⟩
                  case measure => simp [intOf]; omega
              · have HL := Lib.hid (byL_no g slot k (fun h => hs h.2))
                have hs2 : (g (k * 3 + 1) == slot) = false := by simpa using hs
                as_aux_lemma =>
                  refine (tat_ok _ T k g hlt HT.out hz).mono ?_
                  rintro e w6 ⟨rfl, hb⟩
                  have B6 := Lib.hid (bl_trans HB.out hb)
                  have T6 := Lib.hid (HT.out.later hb)
                  have G6 := Lib.hid (HG.out.later hb)
                  have M6 := Lib.hid (HM.out.later hb)
                  have P6 := Lib.hid (HP.out.later hb)
                  clear hb
                  have d0 := G6.out.1 (k * 3) (by omega)
                  have d1 := G6.out.1 (k * 3 + 1) (by omega)
                  have d2 := G6.out.1 (k * 3 + 2) (by omega)
                  have gl6 := G6.out.2.2
                  go_wp2_with fail
                  refine (ref_pte_any _ _ _ _).mono ?_
                  rintro e w7 ⟨rfl, hb⟩
                  have B7 := Lib.hid (bl_alloc B6.out hb)
                  have hbb := bl_alloc (Below.refl w6.heap.size w6) hb
                  have T7 := Lib.hid (T6.out.later hbb)
                  have G7 := Lib.hid (G6.out.later hbb)
                  have M7 := Lib.hid (M6.out.later hbb)
                  have P7 := Lib.hid (P6.out.later hbb)
                  have K7 := Lib.hid (bk_one hb)
                  clear hb hbb d0 d1 d2 gl6
                  have b0 := bk_cell K7.out 0
                  have b1 := bk_cell K7.out 1
                  have b2 := bk_cell K7.out 2
                  have m0 := M7.out.1 k hlt
                  rw [show wordsG g 8 k = entW g k by unfold wordsG; rw [if_pos hlt]] at m0
                  unfold entW at m0
                  have d0 := G7.out.1 (k * 3) (by omega)
                  have d1 := G7.out.1 (k * 3 + 1) (by omega)
                  have d2 := G7.out.1 (k * 3 + 2) (by omega)
                  go_wp2_with fail
                  go_quiet (fail)
                  go_wp2_with fail
                  go_roundw
                  case rel => exact ⟨k + 1, by omega, by go_num, by rw [HL.out], dn B7.out _, T7.out.drewN _, G7.out.drewN _, M7.out, P7.out⟩
                  case measure => simp [intOf]; omega
          · obtain rfl : k = 8 := by omega
            go_wp2_with fail
            refine (tat_out _ T 8 (.inr (by omega))).mono ?_
            rintro e w6 ⟨rfl, hb⟩
            have B6 := Lib.hid (bl_trans HB.out hb)
            clear hb
            go_wp2_with fail
            go_ret
            exact ⟨rfl, B6.out.alloc B6.out.size _⟩
      · clear hlt
        go_wp2_with fail
        refine (twords_any _ T g HT.out).mono ?_
        rintro e w4 ⟨rfl, hm, hb⟩
        obtain ⟨M, hM⟩ : ∃ M, M = wr.heap.size := ⟨_, rfl⟩
        rw [← hM] at hm
        rw [← hM]
        have B4 := Lib.hid (bl_trans HB.out hb)
        have T4 := Lib.hid (HT.out.later hb)
        have G4 := Lib.hid (HG.out.later hb)
        have M4 := Lib.hid hm
        clear hb hm hM
        go_wp2_with fail
        refine (tby_any _ T g slot T4.out).mono ?_
        rintro e w5 ⟨v, rfl, hown, hb⟩
        obtain ⟨A, c, rfl, hp⟩ := pages_at hown
        have B5 := Lib.hid (bl_trans B4.out hb)
        have T5 := Lib.hid (T4.out.later hb)
        have G5 := Lib.hid (G4.out.later hb)
        have M5 := Lib.hid (M4.out.later hb)
        have P5 := Lib.hid hp
        have hl8 := byL_le g slot 8
        clear hb hown hp
        obtain ⟨w5', rfl⟩ : ∃ x, x = w5 := ⟨_, rfl⟩
        go_wp2_with fail
        clear HZ HB HT HG
        go_loopw [22, 163] (fun nv kv W => ∃ k : Nat, k ≤ 8 ∧ kv = .int .i64 k ∧ nv = .int .i64 ((byL g slot k).length : Nat) ∧ Below w.heap.size w W ∧ TabIs W T g ∧ TabIs W G g ∧ WordsIs W M (wordsG g 8) ∧ PagesAt W A (byL g slot 8)) (fun _ kv _ => (8 - intOf kv).toNat)
        case atStart => exact ⟨0, by omega, rfl, rfl, B5.out, T5.out, G5.out, M5.out, P5.out⟩
        case round =>
          obtain ⟨k, hk, rfl, rfl, hb, ht, hg, hm, hp⟩ := hrel
          have HB := Lib.hid hb
          have HT := Lib.hid ht
          have HG := Lib.hid hg
          have HM := Lib.hid hm
          have HP := Lib.hid hp
          clear hb ht hg hm hp
          by_cases hlt : k < 8
          · have hkn : (0 : Int) ≤ (k : Int) := by omega
            have hk8 : (k : Int) < 8 := by omega
            go_wp2_with fail
            by_cases hz : g (k * 3 + 2) = 0
            · have HZ0 := Lib.hid hz
              have HN2 := Lib.hid (HN.out k hlt hz)
              have HL := Lib.hid (byL_no g slot k (fun h => h.1 hz))
              clear hz
              have hn := HN2.out
              as_aux_lemma =>
                refine (tat_none _ T k g hlt HT.out HZ0.out).mono ?_
                rintro e w6 ⟨rfl, hb⟩
                have B6 := Lib.hid (bl_trans HB.out hb)
                have T6 := Lib.hid (HT.out.later hb)
                have G6 := Lib.hid (HG.out.later hb)
                have M6 := Lib.hid (HM.out.later hb)
                have P6 := Lib.hid (HP.out.later hb)
                clear hb
                have d0 := G6.out.1 (k * 3) (by omega)
                have d1 := G6.out.1 (k * 3 + 1) (by omega)
                have d2 := G6.out.1 (k * 3 + 2) (by omega)
                rw [hn.1] at d0
                rw [hn.2] at d1
                rw [HZ0.out] at d2
                have gl6 := G6.out.2.2
                go_wp2_with fail
                refine (ref_pte_any _ _ _ _).mono ?_
                rintro e w7 ⟨rfl, hb⟩
                have B7 := Lib.hid (bl_alloc B6.out hb)
                have hbb := bl_alloc (Below.refl w6.heap.size w6) hb
                have T7 := Lib.hid (T6.out.later hbb)
                have G7 := Lib.hid (G6.out.later hbb)
                have M7 := Lib.hid (M6.out.later hbb)
                have P7 := Lib.hid (P6.out.later hbb)
                have K7 := Lib.hid (bk_one hb)
                clear hb hbb d0 d1 d2 gl6
                have b0 := bk_cell K7.out 0
                have b1 := bk_cell K7.out 1
                have b2 := bk_cell K7.out 2
                have m0 := M7.out.1 k hlt
                rw [show wordsG g 8 k = entW g k by unfold wordsG; rw [if_pos hlt]] at m0
                unfold entW at m0
                have d0 := G7.out.1 (k * 3) (by omega)
                have d1 := G7.out.1 (k * 3 + 1) (by omega)
                have d2 := G7.out.1 (k * 3 + 2) (by omega)
                rw [hn.1] at d0 m0
                rw [hn.2] at d1 m0
                rw [HZ0.out] at d2 m0
                go_wp2_with fail
                go_quiet (fail)
                go_wp2_with fail
                go_roundw
                case rel => exact ⟨k + 1, by omega, by go_num, by rw [HL.out], dn B7.out _, T7.out.drewN _, G7.out.drewN _, M7.out, P7.out⟩
                case measure => simp [intOf]; omega
            · have hz1 : (g (k * 3 + 2) != 0) = true := by simpa using hz
              have hz2 : (g (k * 3 + 2) == 0) = false := by simpa using hz
              by_cases hs : g (k * 3 + 1) = slot
              · have HH := Lib.hid (byL_hit g slot k hlt ⟨hz, hs⟩)
                have HL := Lib.hid (byL_len g slot k ⟨hz, hs⟩)
                have hs1 : (g (k * 3 + 1) == slot) = true := by simpa using hs
                have HS := Lib.hid hs
                clear hs
                as_aux_lemma =>
                  refine (tat_ok _ T k g hlt HT.out hz).mono ?_
                  rintro e w6 ⟨rfl, hb⟩
                  have B6 := Lib.hid (bl_trans HB.out hb)
                  have T6 := Lib.hid (HT.out.later hb)
                  have G6 := Lib.hid (HG.out.later hb)
                  have M6 := Lib.hid (HM.out.later hb)
                  have P6 := Lib.hid (HP.out.later hb)
                  clear hb
                  have d0 := G6.out.1 (k * 3) (by omega)
                  have d1 := G6.out.1 (k * 3 + 1) (by omega)
                  have d2 := G6.out.1 (k * 3 + 2) (by omega)
                  have gl6 := G6.out.2.2
                  go_wp2_with fail
                  refine (ref_pte_any _ _ _ _).mono ?_
                  rintro e w7 ⟨rfl, hb⟩
                  have B7 := Lib.hid (bl_alloc B6.out hb)
                  have hbb := bl_alloc (Below.refl w6.heap.size w6) hb
                  have T7 := Lib.hid (T6.out.later hbb)
                  have G7 := Lib.hid (G6.out.later hbb)
                  have M7 := Lib.hid (M6.out.later hbb)
                  have P7 := Lib.hid (P6.out.later hbb)
                  have K7 := Lib.hid (bk_one hb)
                  clear hb hbb d0 d1 d2 gl6
                  have b0 := bk_cell K7.out 0
                  have b1 := bk_cell K7.out 1
                  have b2 := bk_cell K7.out 2
                  have m0 := M7.out.1 k hlt
                  rw [show wordsG g 8 k = entW g k by unfold wordsG; rw [if_pos hlt]] at m0
                  unfold entW at m0
                  have d0 := G7.out.1 (k * 3) (by omega)
                  have d1 := G7.out.1 (k * 3 + 1) (by omega)
                  have d2 := G7.out.1 (k * 3 + 2) (by omega)
                  go_wp2_with fail
                  go_quiet (fail)
                  obtain ⟨b, rfl, _, hc⟩ := P7.out _ HH.out.1
                  rw [HH.out.2] at hc
                  have hhl := HH.out.1
                  have hhn : (0 : Int) ≤ ((byL g slot k).length : Int) := by omega
                  have hh9 := byL_le g slot k
                  have hh8 : decide ((byL g slot 8).length ≤ (byL g slot k).length) = false := decide_eq_false (Nat.not_le.2 hhl)
                  go_wp2_with fail
                  go_roundw
                  case rel => exact ⟨k + 1, by omega, by go_num, by rw [HL.out]; go_num, dn B7.out _, T7.out.drewN _, G7.out.drewN _, M7.out, P7.out⟩
                  case measure => simp [intOf]; omega
              · have HL := Lib.hid (byL_no g slot k (fun h => hs h.2))
                have hs2 : (g (k * 3 + 1) == slot) = false := by simpa using hs
                as_aux_lemma =>
                  refine (tat_ok _ T k g hlt HT.out hz).mono ?_
                  rintro e w6 ⟨rfl, hb⟩
                  have B6 := Lib.hid (bl_trans HB.out hb)
                  have T6 := Lib.hid (HT.out.later hb)
                  have G6 := Lib.hid (HG.out.later hb)
                  have M6 := Lib.hid (HM.out.later hb)
                  have P6 := Lib.hid (HP.out.later hb)
                  clear hb
                  have d0 := G6.out.1 (k * 3) (by omega)
                  have d1 := G6.out.1 (k * 3 + 1) (by omega)
                  have d2 := G6.out.1 (k * 3 + 2) (by omega)
                  have gl6 := G6.out.2.2
                  go_wp2_with fail
                  refine (ref_pte_any _ _ _ _).mono ?_
                  rintro e w7 ⟨rfl, hb⟩
                  have B7 := Lib.hid (bl_alloc B6.out hb)
                  have hbb := bl_alloc (Below.refl w6.heap.size w6) hb
                  have T7 := Lib.hid (T6.out.later hbb)
                  have G7 := Lib.hid (G6.out.later hbb)
                  have M7 := Lib.hid (M6.out.later hbb)
                  have P7 := Lib.hid (P6.out.later hbb)
                  have K7 := Lib.hid (bk_one hb)
                  clear hb hbb d0 d1 d2 gl6
                  have b0 := bk_cell K7.out 0
                  have b1 := bk_cell K7.out 1
                  have b2 := bk_cell K7.out 2
                  have m0 := M7.out.1 k hlt
                  rw [show wordsG g 8 k = entW g k by unfold wordsG; rw [if_pos hlt]] at m0
                  unfold entW at m0
                  have d0 := G7.out.1 (k * 3) (by omega)
                  have d1 := G7.out.1 (k * 3 + 1) (by omega)
                  have d2 := G7.out.1 (k * 3 + 2) (by omega)
                  go_wp2_with fail
                  go_quiet (fail)
                  go_wp2_with fail
                  go_roundw
                  case rel => exact ⟨k + 1, by omega, by go_num, by rw [HL.out], dn B7.out _, T7.out.drewN _, G7.out.drewN _, M7.out, P7.out⟩
                  case measure => simp [intOf]; omega
          · obtain rfl : k = 8 := by omega
            go_wp2_with fail
            refine (tat_out _ T 8 (.inr (by omega))).mono ?_
            rintro e w6 ⟨rfl, hb⟩
            have B6 := Lib.hid (bl_trans HB.out hb)
            clear hb
            go_wp2_with fail
            go_ret
            exact ⟨rfl, B6.out.alloc B6.out.size _⟩
set_option maxRecDepth 100000 in
set_option maxHeartbeats 8000000 in
theorem tableAll_nil (slot : Int) (w : World) (hbeg : ∀ W, Below w.heap.size w W → BegunAt W) :
    Calls Tryz.prog 5 #[.slice none 0 0, .int .i64 slot] w fun e w' => e = .returned (.bool true) ∧ Below w.heap.size w w' := by
  have HG := Lib.hid hbeg
  clear hbeg
  go_enter Tryz.func5, Tryz.ntmps5
  go_wp2_with fail
  refine Calls.mono (HG.out _ (Below.refl _ _)) ?_
  rintro e w1 ⟨rfl, hb1⟩
  have B1 := Lib.hid hb1
  clear hb1 HG
  go_wp2_with fail
  refine (tab_new _).mono ?_
  rintro e w2 ⟨rfl, hb2, ht2⟩
  obtain ⟨T, hT⟩ : ∃ T, T = w1.heap.size := ⟨_, rfl⟩
  rw [← hT] at ht2
  rw [← hT]
  have HTl : Hid (w.heap.size ≤ T) := by rw [hT]; exact B1.out.size
  have B2 := Lib.hid (bl_trans B1.out hb2)
  have T2 := Lib.hid ht2
  clear hb2 ht2 hT B1
  go_wp2_with fail
  obtain ⟨w3, hw3⟩ : ∃ w3, w3 = w2.alloc (.cells #[.int .i64 0, .int .i64 0, .int .i64 0, .int .i64 0, .int .i64 0, .int .i64 0, .int .i64 0, .int .i64 0, .int .i64 0, .int .i64 0, .int .i64 0, .int .i64 0, .int .i64 0, .int .i64 0, .int .i64 0, .int .i64 0, .int .i64 0, .int .i64 0, .int .i64 0, .int .i64 0, .int .i64 0, .int .i64 0, .int .i64 0, .int .i64 0] 46) := ⟨_, rfl⟩
  obtain ⟨G, hG⟩ : ∃ G, G = w2.heap.size := ⟨_, rfl⟩
  have G3 : Hid (TabIs w3 G (fun _ => 0)) := by rw [hw3, hG]; exact TabIs.new w2 _
  have T3 : Hid (TabIs w3 T (fun _ => 0)) := by rw [hw3]; exact T2.out.alloc _
  have B3 : Hid (Below w.heap.size w w3) := by rw [hw3]; exact B2.out.alloc B2.out.size _
  have HGT : Hid (¬ T = G) := by rw [hG]; have := T2.out.2.2; exact fun e => by omega
  have HGl : Hid (w.heap.size ≤ G) := by rw [hG]; exact B2.out.size
  rw [← hw3, ← hG]
  clear hw3 hG T2 B2
  go_loopw [8] (fun iv W => ∃ (i : Nat) (g : Nat → Int), iv = .int .i64 i ∧ i ≤ 40 ∧ Below w.heap.size w W ∧ TabIs W T g ∧ TabIs W G g ∧ Hid (NoneZero g)) (fun iv _ => (40 - intOf iv).toNat)
  case atStart => exact ⟨0, fun _ => 0, rfl, by omega, B3.out, T3.out, G3.out, NoneZero.start⟩
  case round =>
    obtain ⟨i, g, rfl, hi, hb, ht, hg, HN⟩ := hrel
    have HB := Lib.hid hb
    have HT := Lib.hid ht
    have HG := Lib.hid hg
    clear hb ht hg
    · skip
      go_wp2_with fail
      refine (twords_any _ T g HT.out).mono ?_
      rintro e w4 ⟨rfl, hm, hb⟩
      obtain ⟨M, hM⟩ : ∃ M, M = wr.heap.size := ⟨_, rfl⟩
      rw [← hM] at hm
      rw [← hM]
      have B4 := Lib.hid (bl_trans HB.out hb)
      have T4 := Lib.hid (HT.out.later hb)
      have G4 := Lib.hid (HG.out.later hb)
      have M4 := Lib.hid hm
      clear hb hm hM
      go_wp2_with fail
      refine (tby_any _ T g slot T4.out).mono ?_
      rintro e w5 ⟨v, rfl, hown, hb⟩
      obtain ⟨A, c, rfl, hp⟩ := pages_at hown
      have B5 := Lib.hid (bl_trans B4.out hb)
      have T5 := Lib.hid (T4.out.later hb)
      have G5 := Lib.hid (G4.out.later hb)
      have M5 := Lib.hid (M4.out.later hb)
      have P5 := Lib.hid hp
      have hl8 := byL_le g slot 8
      clear hb hown hp
      obtain ⟨w5', rfl⟩ : ∃ x, x = w5 := ⟨_, rfl⟩
      go_wp2_with fail
      clear HB HT HG
      go_loopw [22, 163] (fun nv kv W => ∃ k : Nat, k ≤ 8 ∧ kv = .int .i64 k ∧ nv = .int .i64 ((byL g slot k).length : Nat) ∧ Below w.heap.size w W ∧ TabIs W T g ∧ TabIs W G g ∧ WordsIs W M (wordsG g 8) ∧ PagesAt W A (byL g slot 8)) (fun _ kv _ => (8 - intOf kv).toNat)
      case atStart => exact ⟨0, by omega, rfl, rfl, B5.out, T5.out, G5.out, M5.out, P5.out⟩
      case round =>
        obtain ⟨k, hk, rfl, rfl, hb, ht, hg, hm, hp⟩ := hrel
        have HB := Lib.hid hb
        have HT := Lib.hid ht
        have HG := Lib.hid hg
        have HM := Lib.hid hm
        have HP := Lib.hid hp
        clear hb ht hg hm hp
        by_cases hlt : k < 8
        · have hkn : (0 : Int) ≤ (k : Int) := by omega
          have hk8 : (k : Int) < 8 := by omega
          go_wp2_with fail
          by_cases hz : g (k * 3 + 2) = 0
          · have HZ0 := Lib.hid hz
            have HN2 := Lib.hid (HN.out k hlt hz)
            have HL := Lib.hid (byL_no g slot k (fun h => h.1 hz))
            clear hz
            have hn := HN2.out
            as_aux_lemma =>
              refine (tat_none _ T k g hlt HT.out HZ0.out).mono ?_
              rintro e w6 ⟨rfl, hb⟩
              have B6 := Lib.hid (bl_trans HB.out hb)
              have T6 := Lib.hid (HT.out.later hb)
              have G6 := Lib.hid (HG.out.later hb)
              have M6 := Lib.hid (HM.out.later hb)
              have P6 := Lib.hid (HP.out.later hb)
              clear hb
              have d0 := G6.out.1 (k * 3) (by omega)
              have d1 := G6.out.1 (k * 3 + 1) (by omega)
              have d2 := G6.out.1 (k * 3 + 2) (by omega)
              rw [hn.1] at d0
              rw [hn.2] at d1
              rw [HZ0.out] at d2
              have gl6 := G6.out.2.2
              go_wp2_with fail
              refine (ref_pte_any _ _ _ _).mono ?_
              rintro e w7 ⟨rfl, hb⟩
              have B7 := Lib.hid (bl_alloc B6.out hb)
              have hbb := bl_alloc (Below.refl w6.heap.size w6) hb
              have T7 := Lib.hid (T6.out.later hbb)
              have G7 := Lib.hid (G6.out.later hbb)
              have M7 := Lib.hid (M6.out.later hbb)
              have P7 := Lib.hid (P6.out.later hbb)
              have K7 := Lib.hid (bk_one hb)
              clear hb hbb d0 d1 d2 gl6
              have b0 := bk_cell K7.out 0
              have b1 := bk_cell K7.out 1
              have b2 := bk_cell K7.out 2
              have m0 := M7.out.1 k hlt
              rw [show wordsG g 8 k = entW g k by unfold wordsG; rw [if_pos hlt]] at m0
              unfold entW at m0
              have d0 := G7.out.1 (k * 3) (by omega)
              have d1 := G7.out.1 (k * 3 + 1) (by omega)
              have d2 := G7.out.1 (k * 3 + 2) (by omega)
              rw [hn.1] at d0 m0
              rw [hn.2] at d1 m0
              rw [HZ0.out] at d2 m0
              go_wp2_with fail
              go_quiet (fail)
              go_wp2_with fail
              go_roundw
              case rel => exact ⟨k + 1, by omega, by go_num, by rw [HL.out], dn B7.out _, T7.out.drewN _, G7.out.drewN _, M7.out, P7.out⟩
              case measure => simp [intOf]; omega
          · have hz1 : (g (k * 3 + 2) != 0) = true := by simpa using hz
            have hz2 : (g (k * 3 + 2) == 0) = false := by simpa using hz
            by_cases hs : g (k * 3 + 1) = slot
            · have HH := Lib.hid (byL_hit g slot k hlt ⟨hz, hs⟩)
              have HL := Lib.hid (byL_len g slot k ⟨hz, hs⟩)
              have hs1 : (g (k * 3 + 1) == slot) = true := by simpa using hs
              have HS := Lib.hid hs
              clear hs
              as_aux_lemma =>
                refine (tat_ok _ T k g hlt HT.out hz).mono ?_
                rintro e w6 ⟨rfl, hb⟩
                have B6 := Lib.hid (bl_trans HB.out hb)
                have T6 := Lib.hid (HT.out.later hb)
                have G6 := Lib.hid (HG.out.later hb)
                have M6 := Lib.hid (HM.out.later hb)
                have P6 := Lib.hid (HP.out.later hb)
                clear hb
                have d0 := G6.out.1 (k * 3) (by omega)
                have d1 := G6.out.1 (k * 3 + 1) (by omega)
                have d2 := G6.out.1 (k * 3 + 2) (by omega)
                have gl6 := G6.out.2.2
                go_wp2_with fail
                refine (ref_pte_any _ _ _ _).mono ?_
                rintro e w7 ⟨rfl, hb⟩
                have B7 := Lib.hid (bl_alloc B6.out hb)
                have hbb := bl_alloc (Below.refl w6.heap.size w6) hb
                have T7 := Lib.hid (T6.out.later hbb)
                have G7 := Lib.hid (G6.out.later hbb)
                have M7 := Lib.hid (M6.out.later hbb)
                have P7 := Lib.hid (P6.out.later hbb)
                have K7 := Lib.hid (bk_one hb)
                clear hb hbb d0 d1 d2 gl6
                have b0 := bk_cell K7.out 0
                have b1 := bk_cell K7.out 1
                have b2 := bk_cell K7.out 2
                have m0 := M7.out.1 k hlt
                rw [show wordsG g 8 k = entW g k by unfold wordsG; rw [if_pos hlt]] at m0
                unfold entW at m0
                have d0 := G7.out.1 (k * 3) (by omega)
                have d1 := G7.out.1 (k * 3 + 1) (by omega)
                have d2 := G7.out.1 (k * 3 + 2) (by omega)
                go_wp2_with fail
                go_quiet (fail)
                obtain ⟨b, rfl, _, hc⟩ := P7.out _ HH.out.1
                rw [HH.out.2] at hc
                have hhl := HH.out.1
                have hhn : (0 : Int) ≤ ((byL g slot k).length : Int) := by omega
                have hh9 := byL_le g slot k
                have hh8 : decide ((byL g slot 8).length ≤ (byL g slot k).length) = false := decide_eq_false (Nat.not_le.2 hhl)
                go_wp2_with fail
                go_roundw
                case rel => exact ⟨k + 1, by omega, by go_num, by rw [HL.out]; go_num, dn B7.out _, T7.out.drewN _, G7.out.drewN _, M7.out, P7.out⟩
                case measure => simp [intOf]; omega
            · have HL := Lib.hid (byL_no g slot k (fun h => hs h.2))
              have hs2 : (g (k * 3 + 1) == slot) = false := by simpa using hs
              as_aux_lemma =>
                refine (tat_ok _ T k g hlt HT.out hz).mono ?_
                rintro e w6 ⟨rfl, hb⟩
                have B6 := Lib.hid (bl_trans HB.out hb)
                have T6 := Lib.hid (HT.out.later hb)
                have G6 := Lib.hid (HG.out.later hb)
                have M6 := Lib.hid (HM.out.later hb)
                have P6 := Lib.hid (HP.out.later hb)
                clear hb
                have d0 := G6.out.1 (k * 3) (by omega)
                have d1 := G6.out.1 (k * 3 + 1) (by omega)
                have d2 := G6.out.1 (k * 3 + 2) (by omega)
                have gl6 := G6.out.2.2
                go_wp2_with fail
                refine (ref_pte_any _ _ _ _).mono ?_
                rintro e w7 ⟨rfl, hb⟩
                have B7 := Lib.hid (bl_alloc B6.out hb)
                have hbb := bl_alloc (Below.refl w6.heap.size w6) hb
                have T7 := Lib.hid (T6.out.later hbb)
                have G7 := Lib.hid (G6.out.later hbb)
                have M7 := Lib.hid (M6.out.later hbb)
                have P7 := Lib.hid (P6.out.later hbb)
                have K7 := Lib.hid (bk_one hb)
                clear hb hbb d0 d1 d2 gl6
                have b0 := bk_cell K7.out 0
                have b1 := bk_cell K7.out 1
                have b2 := bk_cell K7.out 2
                have m0 := M7.out.1 k hlt
                rw [show wordsG g 8 k = entW g k by unfold wordsG; rw [if_pos hlt]] at m0
                unfold entW at m0
                have d0 := G7.out.1 (k * 3) (by omega)
                have d1 := G7.out.1 (k * 3 + 1) (by omega)
                have d2 := G7.out.1 (k * 3 + 2) (by omega)
                go_wp2_with fail
                go_quiet (fail)
                go_wp2_with fail
                go_roundw
                case rel => exact ⟨k + 1, by omega, by go_num, by rw [HL.out], dn B7.out _, T7.out.drewN _, G7.out.drewN _, M7.out, P7.out⟩
                case measure => simp [intOf]; omega
        · obtain rfl : k = 8 := by omega
          go_wp2_with fail
          refine (tat_out _ T 8 (.inr (by omega))).mono ?_
          rintro e w6 ⟨rfl, hb⟩
          have B6 := Lib.hid (bl_trans HB.out hb)
          clear hb
          go_wp2_with fail
          go_ret
          exact ⟨rfl, B6.out.alloc B6.out.size _⟩
end Go.Proofs.YtfpnpgpelncgeaaGreatDoor
