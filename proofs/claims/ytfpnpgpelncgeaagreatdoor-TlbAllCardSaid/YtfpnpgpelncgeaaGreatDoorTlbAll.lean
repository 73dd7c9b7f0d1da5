/- What is proved here: the walk of the statement TlbAll: it answers true and leaves the memory that was there as it was. Conditions: the statements' beginning does so in every later world; the list's operations are there. -/
import Derived.Test.YtfpnpgpelncgeaaGreatDoorTlbP
import Derived.RegionTactic
import Derived.Deep.CutBlock
import Derived.Deep.DeepCutAuto
namespace Go.Proofs.YtfpnpgpelncgeaaGreatDoor
open Go.RowKit Go.Extern.Stop Go.Stop Go.Extern

theorem tb_only {w w' : World} {b T : Nat} {o : Obj} (h : w.heap[b]? = some o) (ho : OnlyT T w w') (hne : ¬ b = T) : w'.heap[b]? = some o :=
  (ho.block b (bk_lt h) (fun e => hne (by injection e))).trans h
/-- What a round of TlbAll keeps. -/
def TwoBuf (w : World) (T R : Nat) (n : Int) (W : World) : Prop :=
  ∃ (g h : Nat → Int) (d : Int), Below w.heap.size w W ∧ NumsIs 41 W T g ∧ NumsIs 41 W R h ∧ Sim g h d ∧ h 40 ≤ n
theorem bl_drew {w W : World} (h : Below w.heap.size w W) : Below w.heap.size w W.drew := dn h 1
set_option maxRecDepth 100000 in
set_option maxHeartbeats 32000000 in
theorem tlball_some (a : Addr) (len cap : Nat) (hlen : len ≤ 9223372036854775807) (z : Nat → Nat → Int) (w : World) (hz : ∀ i, i < len → ∀ j, j < 7 → w.cell? (a.add (i * 7 + j)) = some (.int .i64 (z i j))) (hbeg : ∀ W, Below w.heap.size w W → BegunAt W) :
    Calls Tryz.prog 6 #[.slice (some a) len cap] w fun e w' => e = .returned (.bool true) ∧ Below w.heap.size w w' := by
  have HG := Lib.hid hbeg
  clear hbeg
  have HZ : Hid (∀ W, Below w.heap.size w W → ∀ i, i < len → ∀ j, j < 7 → W.cell? (a.add (i * 7 + j)) = some (.int .i64 (z i j))) := fun W hW i hi j hj => (hW.cell (cell_low (hz i hi j hj))).trans (hz i hi j hj)
  clear hz
  go_enter Tryz.func6, Tryz.ntmps6
  go_wp2_with fail
  refine Calls.mono (HG.out _ (Below.refl _ _)) ?_
  rintro e w1 ⟨rfl, hb1⟩
  have B1 := Lib.hid hb1
  clear hb1 HG
  go_wp2_with fail
  refine (tlb_new _).mono ?_
  rintro e w2 ⟨rfl, hb2, ht2⟩
  obtain ⟨T, hT⟩ : ∃ T, T = w1.heap.size := ⟨_, rfl⟩
  rw [← hT] at ht2
  rw [← hT]
  have HTl : Hid (w.heap.size ≤ T) := by rw [hT]; exact B1.out.size
  have B2 := Lib.hid (bl_trans B1.out hb2)
  have T2 := Lib.hid ht2
  clear hb2 ht2 hT B1
  go_wp2_with fail
  refine (rnew_any _).mono ?_
  rintro e w3 ⟨rfl, hb3, ht3⟩
  obtain ⟨R, hR⟩ : ∃ R, R = w2.heap.size := ⟨_, rfl⟩
  rw [← hR] at ht3
  rw [← hR]
  have HRl : Hid (w.heap.size ≤ R) := by rw [hR]; exact B2.out.size
  have HTR : Hid (¬ T = R) := by have := T2.out.2.2; show ¬ T = R; omega
  have HRT : Hid (¬ R = T) := fun hh => HTR.out hh.symm
  have B3 := Lib.hid (bl_trans B2.out hb3)
  have T3 := Lib.hid (T2.out.later hb3)
  have R3 := Lib.hid ht3
  clear hb3 ht3 hR B2 T2
  go_wp2_with fail
  go_loopw [6] (fun iv W => ∃ (i : Nat) (g h : Nat → Int) (d : Int), iv = .int .i64 i ∧ i ≤ 60 ∧ i ≤ len ∧ Below w.heap.size w W ∧ NumsIs 41 W T g ∧ NumsIs 41 W R h ∧ Sim g h d ∧ h 40 ≤ i) (fun iv _ => (60 - intOf iv).toNat)
  case atStart => exact ⟨0, fun _ => 0, noneK (fun _ => 0) 8, 0, rfl, by omega, by omega, B3.out, T3.out, R3.out, sim_none (fun _ => 0) (by simp), by rw [show noneK (fun _ => 0) 8 40 = 0 from if_neg (by omega)]; omega⟩
  case round =>
    obtain ⟨i, g, h, d, rfl, hi, hil, hb, ht, hr, hsim, h40⟩ := hrel
    have HB := Lib.hid hb
    have HT := Lib.hid ht
    have HR := Lib.hid hr
    have HSim := Lib.hid hsim
    clear hb ht hr hsim B3 T3 R3
    by_cases hlt : i < len ∧ i < 60
    · obtain ⟨hl1, hl2⟩ := hlt
      have z0 : wr.cell? (a.add (i * 7)) = some (.int .i64 (z i 0)) := HZ.out _ HB.out i hl1 0 (by omega)
      have z1 := (congrArg wr.cell? (ln_off a (i * 7) 1 (by omega))).trans (HZ.out _ HB.out i hl1 1 (by omega))
      have z2 := (congrArg wr.cell? (ln_off a (i * 7) 2 (by omega))).trans (HZ.out _ HB.out i hl1 2 (by omega))
      have z3 := (congrArg wr.cell? (ln_off a (i * 7) 3 (by omega))).trans (HZ.out _ HB.out i hl1 3 (by omega))
      have z4 := (congrArg wr.cell? (ln_off a (i * 7) 4 (by omega))).trans (HZ.out _ HB.out i hl1 4 (by omega))
      have z5 := (congrArg wr.cell? (ln_off a (i * 7) 5 (by omega))).trans (HZ.out _ HB.out i hl1 5 (by omega))
      have z6 := (congrArg wr.cell? (ln_off a (i * 7) 6 (by omega))).trans (HZ.out _ HB.out i hl1 6 (by omega))
      have hidx : (0 : Int) ≤ (i : Int) := by omega
      obtain ⟨kd, hkd⟩ : ∃ kd, kd = z i 0 := ⟨_, rfl⟩
      obtain ⟨e, he⟩ : ∃ e, e = z i 1 := ⟨_, rfl⟩
      obtain ⟨p, hp⟩ : ∃ p, p = z i 2 := ⟨_, rfl⟩
      obtain ⟨f, hf⟩ : ∃ f, f = z i 3 := ⟨_, rfl⟩
      obtain ⟨r, hrr⟩ : ∃ r, r = z i 4 := ⟨_, rfl⟩
      obtain ⟨st, hst⟩ : ∃ st, st = z i 5 := ⟨_, rfl⟩
      obtain ⟨wy, hwy⟩ : ∃ wy, wy = z i 6 := ⟨_, rfl⟩
      rw [← hkd] at z0
      rw [← he] at z1
      rw [← hp] at z2
      rw [← hf] at z3
      rw [← hrr] at z4
      rw [← hst] at z5
      rw [← hwy] at z6
      clear hkd he hp hf hrr hst hwy
      go_upto_block 2 with (fail)
      obtain ⟨w1, hw1⟩ : ∃ w1, w1 = wr.alloc (.cells #[.int .i64 kd, .int .i64 e, .int .i64 p, .int .i64 f, .int .i64 r, .int .i64 st, .int .i64 wy] 67) := ⟨_, rfl⟩
      obtain ⟨O, hO⟩ : ∃ O, O = wr.heap.size := ⟨_, rfl⟩
      have K1 : Hid (w1.heap[O]? = some (.cells #[.int .i64 kd, .int .i64 e, .int .i64 p, .int .i64 f, .int .i64 r, .int .i64 st, .int .i64 wy] 67 (0, 0))) := by rw [hw1, hO]; exact heap_alloc_new wr _
      have T1 : Hid (NumsIs 41 w1 T g) := by rw [hw1]; exact HT.out.alloc _
      have R1 : Hid (NumsIs 41 w1 R h) := by rw [hw1]; exact HR.out.alloc _
      have B1 : Hid (Below w.heap.size w w1) := by rw [hw1]; exact HB.out.alloc HB.out.size _
      have HOT : Hid (¬ O = T) := by have := HT.out.2.2; show ¬ O = T; omega
      have HOR : Hid (¬ O = R) := by have := HR.out.2.2; show ¬ O = R; omega
      have HH0 : Hid (0 ≤ h 40) := by have := HSim.out.1; have := HSim.out.2.1; have := HSim.out.2.2.1; show 0 ≤ h 40; omega
      rw [← hw1, ← hO]
      clear hw1 hO HT HR HB z0 z1 z2 z3 z4 z5 z6
      have c0 := bk_cell K1.out 0
      have c1 := bk_cell K1.out 1
      have c2 := bk_cell K1.out 2
      have c3 := bk_cell K1.out 3
      have c4 := bk_cell K1.out 4
      have c5 := bk_cell K1.out 5
      have c6 := bk_cell K1.out 6
      go_cut [8] (fun v W => v = .bool true ∧ TwoBuf w T R (i + 1) W)
      case first =>
        by_cases k0 : kd = 0
        · subst k0
          obtain ⟨b, x0, x1, x2, x3, hct, hcr⟩ := pair_find T R HSim.out e p
          have HCT := Lib.hid hct
          have HCR := Lib.hid hcr
          clear hct hcr
          go_wp2_with fail
          refine (HCT.out _ T1.out).mono ?_
          rintro e' w2 ⟨rfl, hb2⟩
          have R2 := Lib.hid (R1.out.later hb2)
          have T2 := Lib.hid (T1.out.later hb2)
          have B2 := Lib.hid (bl_trans B1.out hb2)
          have K2 := Lib.hid (bk_below K1.out hb2)
          clear hb2 c0 c1 c2 c3 c4 c5 c6 T1 R1 B1 K1
          have c1 := bk_cell K2.out 1
          have c2 := bk_cell K2.out 2
          have hol := bk_lt K2.out
          go_wp2_with fail
          refine (HCR.out _ (R2.out.alloc _)).mono ?_
          rintro e' w3 ⟨rfl, hb3⟩
          have R3 := Lib.hid ((R2.out.alloc _).later hb3)
          have T3 := Lib.hid ((T2.out.alloc _).later hb3)
          have B3 := Lib.hid (bl_alloc B2.out hb3)
          have X3 := Lib.hid (bk_one hb3)
          clear hb3 c1 c2 T2 R2 B2 K2
          have l0 := bk_cell X3.out 0
          have l1 := bk_cell X3.out 1
          have l2 := bk_cell X3.out 2
          have l3 := bk_cell X3.out 3
          have ll := bk_lt X3.out
          cases b
          all_goals
            go_wp2_with fail
            go_meet
            case rel => exact ⟨rfl, g, h, d, (by first | exact B3.out.alloc B3.out.size _ | exact B3.out), (by first | exact T3.out.alloc _ | exact T3.out), (by first | exact R3.out.alloc _ | exact R3.out), HSim.out, by omega⟩
        · by_cases k1 : kd = 1
          · subst k1
            clear k0
            obtain ⟨b, g', h', hct, hcr, hsm, hn⟩ := pair_fill T R HSim.out (by omega) e p f r
            have HCT := Lib.hid hct
            have HCR := Lib.hid hcr
            have HSM := Lib.hid hsm
            have HN := Lib.hid hn
            clear hct hcr hsm hn HSim
            cases b
            all_goals
              go_wp2_with fail
              clear c0 c1 c2 c3 c4 c5 c6
              have HT := Lib.hid T1.out.drew
              have HR := Lib.hid R1.out.drew
              have HB := Lib.hid (bl_drew B1.out)
              have HK : Hid (w1.drew.heap[O]? = some (.cells #[.int .i64 1, .int .i64 e, .int .i64 p, .int .i64 f, .int .i64 r, .int .i64 st, .int .i64 wy] 67 (0, 0))) := K1.out
              have hS : w1.drew.cell? ⟨O, 1, none⟩ = some (.int .i64 e) ∧ w1.drew.cell? ⟨O, 2, none⟩ = some (.int .i64 p) ∧ w1.drew.cell? ⟨O, 3, none⟩ = some (.int .i64 f) ∧ w1.drew.cell? ⟨O, 4, none⟩ = some (.int .i64 r) := ⟨bk_cell HK.out 1, bk_cell HK.out 2, bk_cell HK.out 3, bk_cell HK.out 4⟩
              clear T1 R1 B1 K1
              go_region_held3 (fun w' => w'.cell? ⟨O, 1, none⟩ = some (.int .i64 e) ∧ w'.cell? ⟨O, 2, none⟩ = some (.int .i64 p) ∧ w'.cell? ⟨O, 3, none⟩ = some (.int .i64 f) ∧ w'.cell? ⟨O, 4, none⟩ = some (.int .i64 r))
                (exact hS)
                (first
                  | (go_at_call 47; refine (HCT.out _ HT.out).mono ?_; rintro e' wn ⟨rfl, hg, ho⟩; replace HT := Lib.hid hg; replace HR := Lib.hid (HR.out.only ho HRT.out); replace HB := Lib.hid (tp_bl HB.out HTl.out ho); replace HK := Lib.hid (tb_only HK.out ho HOT.out); have hS : wn.cell? ⟨O, 1, none⟩ = some (.int .i64 e) ∧ wn.cell? ⟨O, 2, none⟩ = some (.int .i64 p) ∧ wn.cell? ⟨O, 3, none⟩ = some (.int .i64 f) ∧ wn.cell? ⟨O, 4, none⟩ = some (.int .i64 r) := ⟨bk_cell HK.out 1, bk_cell HK.out 2, bk_cell HK.out 3, bk_cell HK.out 4⟩; clear hg ho)
                  | (go_at_call 48; refine (HCR.out _ HR.out).mono ?_; rintro e' wn ⟨rfl, hg, ho⟩; replace HR := Lib.hid hg; replace HT := Lib.hid (HT.out.only ho HTR.out); replace HB := Lib.hid (tp_bl HB.out HRl.out ho); replace HK := Lib.hid (tb_only HK.out ho HOR.out); have hS : wn.cell? ⟨O, 1, none⟩ = some (.int .i64 e) ∧ wn.cell? ⟨O, 2, none⟩ = some (.int .i64 p) ∧ wn.cell? ⟨O, 3, none⟩ = some (.int .i64 f) ∧ wn.cell? ⟨O, 4, none⟩ = some (.int .i64 r) := ⟨bk_cell HK.out 1, bk_cell HK.out 2, bk_cell HK.out 3, bk_cell HK.out 4⟩; clear hg ho))
              all_goals
                go_wp2_with fail
                go_meet
                case rel => exact ⟨rfl, g', h', d, HB.out, HT.out, HR.out, HSM.out, by have := HN.out; omega⟩
          · by_cases k2 : kd = 2
            · subst k2
              clear k0 k1
              obtain ⟨b, g', h', hct, hcr, hsm, hn⟩ := pair_evict T R HSim.out st wy
              have HCT := Lib.hid hct
              have HCR := Lib.hid hcr
              have HSM := Lib.hid hsm
              have HN := Lib.hid hn
              clear hct hcr hsm hn HSim
              cases b
              all_goals
                go_wp2_with fail
                clear c0 c1 c2 c3 c4 c5 c6
                have HT := Lib.hid T1.out.drew
                have HR := Lib.hid R1.out.drew
                have HB := Lib.hid (bl_drew B1.out)
                have HK : Hid (w1.drew.heap[O]? = some (.cells #[.int .i64 2, .int .i64 e, .int .i64 p, .int .i64 f, .int .i64 r, .int .i64 st, .int .i64 wy] 67 (0, 0))) := K1.out
                have hS : w1.drew.cell? ⟨O, 5, none⟩ = some (.int .i64 st) ∧ w1.drew.cell? ⟨O, 6, none⟩ = some (.int .i64 wy) := ⟨bk_cell HK.out 5, bk_cell HK.out 6⟩
                clear T1 R1 B1 K1
                go_region_held3 (fun w' => w'.cell? ⟨O, 5, none⟩ = some (.int .i64 st) ∧ w'.cell? ⟨O, 6, none⟩ = some (.int .i64 wy))
                  (exact hS)
                  (first
                    | (go_at_call 49; refine (HCT.out _ HT.out).mono ?_; rintro e' wn ⟨rfl, hg, ho⟩; replace HT := Lib.hid hg; replace HR := Lib.hid (HR.out.only ho HRT.out); replace HB := Lib.hid (tp_bl HB.out HTl.out ho); replace HK := Lib.hid (tb_only HK.out ho HOT.out); have hS : wn.cell? ⟨O, 5, none⟩ = some (.int .i64 st) ∧ wn.cell? ⟨O, 6, none⟩ = some (.int .i64 wy) := ⟨bk_cell HK.out 5, bk_cell HK.out 6⟩; clear hg ho)
                    | (go_at_call 50; refine (HCR.out _ HR.out).mono ?_; rintro e' wn ⟨rfl, hg, ho⟩; replace HR := Lib.hid hg; replace HT := Lib.hid (HT.out.only ho HTR.out); replace HB := Lib.hid (tp_bl HB.out HRl.out ho); replace HK := Lib.hid (tb_only HK.out ho HOR.out); have hS : wn.cell? ⟨O, 5, none⟩ = some (.int .i64 st) ∧ wn.cell? ⟨O, 6, none⟩ = some (.int .i64 wy) := ⟨bk_cell HK.out 5, bk_cell HK.out 6⟩; clear hg ho))
                all_goals
                  go_wp2_with fail
                  go_meet
                  case rel => exact ⟨rfl, g', h', d, HB.out, HT.out, HR.out, HSM.out, by have := HN.out; omega⟩
            · by_cases k3 : kd = 3
              · subst k3
                clear k0 k1 k2
                obtain ⟨b, g', h', hct, hcr, hsm, hn⟩ := pair_flush T R HSim.out e p
                have HCT := Lib.hid hct
                have HCR := Lib.hid hcr
                have HSM := Lib.hid hsm
                have HN := Lib.hid hn
                clear hct hcr hsm hn HSim
                cases b
                all_goals
                  go_wp2_with fail
                  clear c0 c1 c2 c3 c4 c5 c6
                  have HT := Lib.hid T1.out.drew
                  have HR := Lib.hid R1.out.drew
                  have HB := Lib.hid (bl_drew B1.out)
                  have HK : Hid (w1.drew.heap[O]? = some (.cells #[.int .i64 3, .int .i64 e, .int .i64 p, .int .i64 f, .int .i64 r, .int .i64 st, .int .i64 wy] 67 (0, 0))) := K1.out
                  have hS : w1.drew.cell? ⟨O, 1, none⟩ = some (.int .i64 e) ∧ w1.drew.cell? ⟨O, 2, none⟩ = some (.int .i64 p) := ⟨bk_cell HK.out 1, bk_cell HK.out 2⟩
                  clear T1 R1 B1 K1
                  go_region_held3 (fun w' => w'.cell? ⟨O, 1, none⟩ = some (.int .i64 e) ∧ w'.cell? ⟨O, 2, none⟩ = some (.int .i64 p))
                    (exact hS)
                    (first
                      | (go_at_call 51; refine (HCT.out _ HT.out).mono ?_; rintro e' wn ⟨rfl, hg, ho⟩; replace HT := Lib.hid hg; replace HR := Lib.hid (HR.out.only ho HRT.out); replace HB := Lib.hid (tp_bl HB.out HTl.out ho); replace HK := Lib.hid (tb_only HK.out ho HOT.out); have hS : wn.cell? ⟨O, 1, none⟩ = some (.int .i64 e) ∧ wn.cell? ⟨O, 2, none⟩ = some (.int .i64 p) := ⟨bk_cell HK.out 1, bk_cell HK.out 2⟩; clear hg ho)
                      | (go_at_call 52; refine (HCR.out _ HR.out).mono ?_; rintro e' wn ⟨rfl, hg, ho⟩; replace HR := Lib.hid hg; replace HT := Lib.hid (HT.out.only ho HTR.out); replace HB := Lib.hid (tp_bl HB.out HRl.out ho); replace HK := Lib.hid (tb_only HK.out ho HOR.out); have hS : wn.cell? ⟨O, 1, none⟩ = some (.int .i64 e) ∧ wn.cell? ⟨O, 2, none⟩ = some (.int .i64 p) := ⟨bk_cell HK.out 1, bk_cell HK.out 2⟩; clear hg ho))
                  all_goals
                    go_wp2_with fail
                    go_meet
                    case rel => exact ⟨rfl, g', h', d, HB.out, HT.out, HR.out, HSM.out, by have := HN.out; omega⟩
              · by_cases k4 : kd = 4
                · subst k4
                  clear k0 k1 k2 k3
                  obtain ⟨b, g', h', hct, hcr, hsm, hn⟩ := pair_ff T R HSim.out f
                  have HCT := Lib.hid hct
                  have HCR := Lib.hid hcr
                  have HSM := Lib.hid hsm
                  have HN := Lib.hid hn
                  clear hct hcr hsm hn HSim
                  go_wp2_with fail
                  clear c0 c1 c2 c3 c4 c5 c6
                  have HT := Lib.hid T1.out.drew
                  have HR := Lib.hid R1.out.drew
                  have HB := Lib.hid (bl_drew B1.out)
                  have HK : Hid (w1.drew.heap[O]? = some (.cells #[.int .i64 4, .int .i64 e, .int .i64 p, .int .i64 f, .int .i64 r, .int .i64 st, .int .i64 wy] 67 (0, 0))) := K1.out
                  have hS : w1.drew.cell? ⟨O, 3, none⟩ = some (.int .i64 f) := bk_cell HK.out 3
                  clear T1 R1 B1 K1
                  go_region_held3 (fun w' => w'.cell? ⟨O, 3, none⟩ = some (.int .i64 f))
                    (exact hS)
                    (first
                      | (go_at_call 53; refine (HCT.out _ HT.out).mono ?_; rintro e' wn ⟨rfl, hg, ho⟩; replace HT := Lib.hid hg; replace HR := Lib.hid (HR.out.only ho HRT.out); replace HB := Lib.hid (tp_bl HB.out HTl.out ho); replace HK := Lib.hid (tb_only HK.out ho HOT.out); have hS : wn.cell? ⟨O, 3, none⟩ = some (.int .i64 f) := bk_cell HK.out 3; clear hg ho)
                      | (go_at_call 54; refine (HCR.out _ HR.out).mono ?_; rintro e' wn ⟨rfl, hg, ho⟩; replace HR := Lib.hid hg; replace HT := Lib.hid (HT.out.only ho HTR.out); replace HB := Lib.hid (tp_bl HB.out HRl.out ho); replace HK := Lib.hid (tb_only HK.out ho HOR.out); have hS : wn.cell? ⟨O, 3, none⟩ = some (.int .i64 f) := bk_cell HK.out 3; clear hg ho))
                  all_goals
                    go_wp2_with fail
                    go_meet
                    case rel => exact ⟨rfl, g', h', d, HB.out, HT.out, HR.out, HSM.out, by have := HN.out; omega⟩
                · have q0 : (kd == 0) = false := by simpa using k0
                  have q1 : (kd == 1) = false := by simpa using k1
                  have q2 : (kd == 2) = false := by simpa using k2
                  have q3 : (kd == 3) = false := by simpa using k3
                  have q4 : (kd == 4) = false := by simpa using k4
                  clear k0 k1 k2 k3 k4
                  go_wp2_with fail
                  refine (tclear_any T g _ T1.out).mono ?_
                  rintro e' w2 ⟨rfl, hg2, ho2⟩
                  have R2 := Lib.hid (R1.out.only ho2 HRT.out)
                  have T2 := Lib.hid hg2
                  have B2 := Lib.hid (tp_bl B1.out HTl.out ho2)
                  clear hg2 ho2 T1 R1 B1 K1 c0 c1 c2 c3 c4 c5 c6
                  go_wp2_with fail
                  go_loopw [13, 41] (fun v c W => ∃ k : Nat, k ≤ 8 ∧ c = .int .i64 k ∧ NumsIs 41 W R (noneK h k) ∧ NumsIs 41 W T (fun _ => 0) ∧ Below w.heap.size w W) (fun _ c _ => (8 - intOf c).toNat)
                  case atStart => exact ⟨0, by omega, rfl, by rw [noneK_zero]; exact R2.out, T2.out, B2.out⟩
                  case round =>
                    obtain ⟨k, hk, rfl, hr, ht, hb⟩ := hrel
                    have HM := Lib.hid hr
                    have HT := Lib.hid ht
                    have HB := Lib.hid hb
                    clear hr ht hb
                    by_cases hlt : k < 8
                    · have hx : (0 : Int) ≤ (k : Int) := by omega
                      have hy : (k : Int) < 8 := by omega
                      go_wp2_with fail
                      go_region_held3 (fun _ => True) (trivial) ((refine (none_any _).mono ?_; rintro e' wn ⟨rfl, hb⟩; have N2 := Lib.hid (HM.out.drew.later hb); have T2 := Lib.hid (HT.out.drew.later hb); have B2 := Lib.hid (bl_trans (w := w) (bl_drew HB.out) hb); clear hb; have c0 := N2.out.1 (k * 4) (by omega); have c1 := N2.out.1 (k * 4 + 1) (by omega); have c2 := N2.out.1 (k * 4 + 2) (by omega); have c3 := N2.out.1 (k * 4 + 3) (by omega); have e0 := N2.out.2.1 (k * 4); have e1 := N2.out.2.1 (k * 4 + 1); have e2 := N2.out.2.1 (k * 4 + 2); have e3 := N2.out.2.1 (k * 4 + 3)))
                      all_goals
                        go_wp2_with fail
                        go_roundw
                        case rel => exact ⟨k + 1, by omega, by go_num, by rw [← noneK_succ]; exact N2.out.emptied hlt, (((T2.out.far HTR.out _).far HTR.out _).far HTR.out _).far HTR.out _, bl_line B2.out HRl.out _ _ _ _⟩
                        case measure => simp [intOf]; omega
                    · obtain rfl : k = 8 := by omega
                      go_wp2_with fail
                      go_meet
                      case rel => exact ⟨rfl, _, _, _, HB.out, HT.out, HM.out, sim_none h HH0.out, by rw [show noneK h 8 40 = h 40 from if_neg (by omega)]; omega⟩
      case rest =>
        obtain ⟨rfl, g, h, d, hb, ht, hr, hsim, hn⟩ := hcut
        have HB := Lib.hid hb
        have HT := Lib.hid ht
        have HR := Lib.hid hr
        have HSim := Lib.hid hsim
        have HN := Lib.hid hn
        clear hb ht hr hsim hn
        go_wp2_with fail
        refine (tlines_any _ T g HT.out).mono ?_
        rintro e' w3 ⟨rfl, hm3, hb3⟩
        obtain ⟨M, hM⟩ : ∃ M, M = wc.heap.size := ⟨_, rfl⟩
        rw [← hM] at hm3
        rw [← hM]
        have T3 := Lib.hid (HT.out.later hb3)
        have R3 := Lib.hid (HR.out.later hb3)
        have B3 := Lib.hid (bl_trans HB.out hb3)
        have M3 := Lib.hid (NumsIs.congr hm3 (g' := h) fun j hj => (HSim.out.line hj).symm)
        clear hm3 hb3 hM HB HT HR
        go_wp2_with fail
        go_loopw [15, 152] (fun _ c W => ∃ k : Nat, k ≤ 8 ∧ c = .int .i64 k ∧ NumsIs 41 W T g ∧ NumsIs 41 W R h ∧ NumsIs 32 W M h ∧ Below w.heap.size w W) (fun _ c _ => (8 - intOf c).toNat)
        case atStart => exact ⟨0, by omega, rfl, T3.out, R3.out, M3.out, B3.out⟩
        case round =>
          obtain ⟨k, hk, rfl, ht, hr, hm, hb⟩ := hrel
          have HT := Lib.hid ht
          have HR := Lib.hid hr
          have HM := Lib.hid hm
          have HB := Lib.hid hb
          clear ht hr hm hb T3 R3 M3 B3
          by_cases hlt : k < 8
          · have hx : (0 : Int) ≤ (k : Int) := by omega
            have hy : (k : Int) < 8 := by omega
            have m0 := HM.out.1 (k * 4) (by omega)
            have m1 := HM.out.1 (k * 4 + 1) (by omega)
            have m2 := HM.out.1 (k * 4 + 2) (by omega)
            have m3 := HM.out.1 (k * 4 + 3) (by omega)
            have r0 := HR.out.1 (k * 4) (by omega)
            have r1 := HR.out.1 (k * 4 + 1) (by omega)
            have r2 := HR.out.1 (k * 4 + 2) (by omega)
            have r3 := HR.out.1 (k * 4 + 3) (by omega)
            go_wp2_with fail
            go_quiet (fail)
            go_wp2_with fail
            go_roundw
            case rel => exact ⟨k + 1, by omega, by go_num, HT.out.drewN _, HR.out.drewN _, HM.out.drewN _, dn HB.out _⟩
            case measure => simp [intOf]; omega
          · obtain rfl : k = 8 := by omega
            go_wp2_with fail
            go_roundw
            case rel => exact ⟨i + 1, g, h, d, by go_num, by omega, by omega, HB.out, HT.out, HR.out, HSim.out, by have := HN.out; omega⟩
            case measure => simp [intOf]; omega
    · by_cases hl : i < len
      · have hl2 : ¬ i < 60 := fun h => hlt ⟨hl, h⟩
        clear hlt
        go_wp2_with fail
        go_ret
        exact ⟨rfl, HB.out⟩
      · clear hlt
        go_wp2_with fail
        go_ret
        exact ⟨rfl, HB.out⟩

set_option maxRecDepth 100000 in
set_option maxHeartbeats 32000000 in
theorem tlball_nil (w : World) (hbeg : ∀ W, Below w.heap.size w W → BegunAt W) :
    Calls Tryz.prog 6 #[.slice none 0 0] w fun e w' => e = .returned (.bool true) ∧ Below w.heap.size w w' := by
  have HG := Lib.hid hbeg
  clear hbeg
  go_enter Tryz.func6, Tryz.ntmps6
  go_wp2_with fail
  refine Calls.mono (HG.out _ (Below.refl _ _)) ?_
  rintro e w1 ⟨rfl, hb1⟩
  have B1 := Lib.hid hb1
  clear hb1 HG
  go_wp2_with fail
  refine (tlb_new _).mono ?_
  rintro e w2 ⟨rfl, hb2, ht2⟩
  obtain ⟨T, hT⟩ : ∃ T, T = w1.heap.size := ⟨_, rfl⟩
  rw [← hT] at ht2
  rw [← hT]
  have HTl : Hid (w.heap.size ≤ T) := by rw [hT]; exact B1.out.size
  have B2 := Lib.hid (bl_trans B1.out hb2)
  have T2 := Lib.hid ht2
  clear hb2 ht2 hT B1
  go_wp2_with fail
  refine (rnew_any _).mono ?_
  rintro e w3 ⟨rfl, hb3, ht3⟩
  obtain ⟨R, hR⟩ : ∃ R, R = w2.heap.size := ⟨_, rfl⟩
  rw [← hR] at ht3
  rw [← hR]
  have HRl : Hid (w.heap.size ≤ R) := by rw [hR]; exact B2.out.size
  have HTR : Hid (¬ T = R) := by have := T2.out.2.2; show ¬ T = R; omega
  have HRT : Hid (¬ R = T) := fun hh => HTR.out hh.symm
  have B3 := Lib.hid (bl_trans B2.out hb3)
  have T3 := Lib.hid (T2.out.later hb3)
  have R3 := Lib.hid ht3
  clear hb3 ht3 hR B2 T2
  go_wp2_with fail
  go_loopw [6] (fun iv W => iv = .int .i64 0 ∧ Below w.heap.size w W) (fun iv _ => (60 - intOf iv).toNat)
  case atStart => exact ⟨rfl, B3.out⟩
  case round =>
    obtain ⟨rfl, hb⟩ := hrel
    have HB := Lib.hid hb
    clear hb B3 T3 R3
    go_wp2_with fail
    go_ret
    exact ⟨rfl, HB.out⟩
end Go.Proofs.YtfpnpgpelncgeaaGreatDoor
