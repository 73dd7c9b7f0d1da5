/- What is proved here: the walk of the statement TlbFlush: it answers true and leaves the memory that was there as it was. Conditions: the statements' beginning does so in every later world; the list's lines are there. -/
import Derived.Test.YtfpnpgpelncgeabGreatDoorTlbG
import Derived.RegionTactic
import Derived.Deep.CutBlock
import Derived.Deep.DeepCutAuto
namespace Go.Proofs.YtfpnpgpelncgeabGreatDoor
open Go.RowKit Go.Extern.Stop Go.Stop Go.Extern

set_option maxRecDepth 100000 in
set_option maxHeartbeats 16000000 in
theorem tflush_gen (ao : Option Addr) (a : Addr) (len cap : Nat) (hlen : len ≤ 9223372036854775807) (z : Nat → Nat → Int) (env page frame : Int) (w : World) (ha : 0 < len → ao = some a) (hz : ∀ i, i < len → ∀ j, j < 4 → w.cell? (a.add (i * 4 + j)) = some (.int .i64 (z i j))) (hbeg : ∀ W, Below w.heap.size w W → BegunAt W) :
    Calls Tryz.prog 7 #[.slice ao len cap, .int .i64 env, .int .i64 page, .int .i64 frame] w fun e w' => e = .returned (.bool true) ∧ Below w.heap.size w w' := by
  have HG := Lib.hid hbeg
  have HZ : Hid (∀ W, Below w.heap.size w W → ∀ i, i < len → ∀ j, j < 4 → W.cell? (a.add (i * 4 + j)) = some (.int .i64 (z i j))) := fun W hW i hi j hj => (hW.cell (cell_low (hz i hi j hj))).trans (hz i hi j hj)
  have HA := Lib.hid ha
  clear hbeg hz ha
  go_enter Tryz.func7, Tryz.ntmps7
  go_wp2_with fail
  refine Calls.mono (HG.out _ (Below.refl _ _)) ?_
  rintro e w1 ⟨rfl, hb1⟩
  have B1 := Lib.hid hb1
  clear hb1 HG
  go_wp2_with fail
  refine (tlb_new _).mono ?_
  rintro e w2 ⟨rfl, hb2, ht2⟩
  obtain ⟨T, hT⟩ : ∃ T, T = w1.heap.size := ⟨_, rfl⟩
  rw [← hT] at ht2
  rw [← hT]
  have HTl : Hid (w.heap.size ≤ T) := by rw [hT]; exact B1.out.size
  have B2 := Lib.hid (bl_trans B1.out hb2)
  have T2 := Lib.hid ht2
  clear hb2 ht2 hT B1
  go_upto_block 0 with (fail)
  go_cut [11] (fun _ W => ∃ g, VU g ∧ NumsIs 41 W T g ∧ Below w.heap.size w W)
  case first =>
    go_wp2_with fail
    go_loopw [11] (fun iv W => ∃ (i : Nat) (g : Nat → Int), iv = .int .i64 i ∧ i ≤ 12 ∧ i ≤ len ∧ Below w.heap.size w W ∧ NumsIs 41 W T g ∧ Hid (VU g) ∧ 0 ≤ g 40 ∧ g 40 ≤ i) (fun iv _ => (12 - intOf iv).toNat)
    case atStart => exact ⟨0, fun _ => 0, rfl, by omega, by omega, B2.out, T2.out, VU.start, by simp, by simp⟩
    case round =>
      obtain ⟨i, g, rfl, hi, hil, hb, ht, HV, h40⟩ := hrel
      have HB := Lib.hid hb
      have HT := Lib.hid ht
      clear hb ht B2 T2
      by_cases hlt : i < len ∧ i < 12
      · obtain ⟨hl1, hl2⟩ := hlt
        obtain rfl := HA.out (by omega)
        have z0 : wr.cell? (a.add (i * 4)) = some (.int .i64 (z i 0)) := HZ.out _ HB.out i hl1 0 (by omega)
        have z1 := (congrArg wr.cell? (ln_off a (i * 4) 1 (by omega))).trans (HZ.out _ HB.out i hl1 1 (by omega))
        have z2 := (congrArg wr.cell? (ln_off a (i * 4) 2 (by omega))).trans (HZ.out _ HB.out i hl1 2 (by omega))
        have z3 := (congrArg wr.cell? (ln_off a (i * 4) 3 (by omega))).trans (HZ.out _ HB.out i hl1 3 (by omega))
        have hidx : (0 : Int) ≤ (i : Int) := by omega
        have H40 := Lib.hid h40
        clear h40
        go_wp2_with fail
        refine (tfill_vu T g _ _ _ _ i _ HT.out HV.out H40.out (by omega)).mono ?_
        rintro e w3 ⟨b, g', rfl, hg3, hv3, h3, h4, ho3⟩
        have T3 := Lib.hid hg3
        have V3 := Lib.hid hv3
        have B3 := Lib.hid (tp_bl HB.out HTl.out ho3)
        have N3 := Lib.hid (And.intro h3 h4)
        clear hg3 hv3 ho3 h3 h4
        go_wp2_with fail
        go_roundw
        case rel => exact ⟨i + 1, g', by go_num, by omega, by omega, B3.out, T3.out, V3, N3.out.1, by have := N3.out.2; omega⟩
        case measure => simp [intOf]; omega
      · by_cases hl : i < len
        · have hl2 : ¬ i < 12 := fun h => hlt ⟨hl, h⟩
          clear hlt h40
          go_wp2_with fail
          go_meet
          case rel => exact ⟨g, HV.out, HT.out, HB.out⟩
        · clear hlt h40
          go_wp2_with fail
          go_meet
          case rel => exact ⟨g, HV.out, HT.out, HB.out⟩
  case rest =>
    obtain ⟨g, hv, ht, hb⟩ := hcut
    have HV := Lib.hid hv
    have HT := Lib.hid ht
    have HB := Lib.hid hb
    clear hv ht hb B2 T2
    go_wp2_with fail
    refine (tlines_any _ T g HT.out).mono ?_
    rintro e w3 ⟨rfl, hm3, hb3⟩
    obtain ⟨M, hM⟩ : ∃ M, M = wc.heap.size := ⟨_, rfl⟩
    rw [← hM] at hm3
    rw [← hM]
    have HTM : Hid (¬ M = T) := by have := HT.out.2.2; show ¬ M = T; rw [hM]; omega
    have T3 := Lib.hid (HT.out.later hb3)
    have M3 := Lib.hid hm3
    have B3 := Lib.hid (bl_trans HB.out hb3)
    clear hm3 hb3 hM
    go_wp2_with fail
    refine (tflush_vu T g env page _ T3.out HV.out).mono ?_
    rintro e w4 ⟨G, rfl, hg4, hk4, ho4⟩
    have T4 := Lib.hid hg4
    have HTK := Lib.hid hk4
    have M4 := Lib.hid (M3.out.only ho4 HTM.out)
    have B4 := Lib.hid (tp_bl B3.out HTl.out ho4)
    clear hg4 hk4 ho4
    go_wp2_with fail
    refine (tff_any T G frame _ T4.out).mono ?_
    rintro e w5 ⟨rfl, hg5, ho5⟩
    have T5 := Lib.hid hg5
    have M5 := Lib.hid (M4.out.only ho5 HTM.out)
    have B5 := Lib.hid (tp_bl B4.out HTl.out ho5)
    rw [cntN_ff HTK.out 8 (by omega)]
    clear hg5 ho5
    go_wp2_with fail
    go_loopw [15, 16, 53] (fun m h c W => ∃ k : Nat, k ≤ 8 ∧ c = .int .i64 k ∧ m = .int .i64 (cntN g env page frame k : Nat) ∧ h = .bool (hitN g env page k) ∧ NumsIs 41 W T (ffG G frame 8) ∧ NumsIs 32 W M (lnG g) ∧ Below w.heap.size w W) (fun _ _ c _ => (8 - intOf c).toNat)
    case atStart => exact ⟨0, by omega, rfl, rfl, rfl, T5.out, M5.out, B5.out⟩
    case round =>
      obtain ⟨k, hk, rfl, rfl, rfl, ht, hm, hb⟩ := hrel
      replace HT := Lib.hid ht
      have HM := Lib.hid hm
      replace HB := Lib.hid hb
      clear ht hm hb T3 T4 T5 M3 M4 M5 B3 B4 B5
      by_cases hlt : k < 8
      · skip
        have hx : (0 : Int) ≤ (k : Int) := by omega
        have hy : (k : Int) < 8 := by omega
        have c0 := HM.out.1 (k * 4) (by omega)
        have c1 := HM.out.1 (k * 4 + 1) (by omega)
        have c2 := HM.out.1 (k * 4 + 2) (by omega)
        have c3 := HM.out.1 (k * 4 + 3) (by omega)
        have o0 := lnG_off g k 0 (by omega)
        have o1 := lnG_off g k 1 (by omega)
        have o2 := lnG_off g k 2 (by omega)
        have o3 := lnG_off g k 3 (by omega)
        rw [Nat.add_zero, Nat.add_zero] at o0
        rw [o0] at c0
        rw [o1] at c1
        rw [o2] at c2
        rw [o3] at c3
        clear o0 o1 o2 o3
        have hle := cntN_le g env page frame k
        obtain ⟨m, hm⟩ : ∃ m, m = cntN g env page frame k := ⟨_, rfl⟩
        rw [← hm] at hle
        have hm8 : (m : Int) ≤ 8 := by omega
        obtain ⟨hv, hhv⟩ : ∃ b : Bool, b = hitN g env page k := ⟨_, rfl⟩
        rw [← hm, ← hhv]
        have HMC := Lib.hid hm
        have HHV := Lib.hid hhv
        clear hm hhv
        by_cases hz : g (k * 5 + 4) = 0
        · rw [if_pos hz, if_pos rfl] at c0
          rw [if_pos hz, if_neg (by omega)] at c1 c2 c3
          have HC := Lib.hid (cntN_no (g := g) (e := env) (p := page) (f := frame) (k := k) (fun h => h.1 hz))
          have HH : Hid (hitB g env page k = false) := decide_eq_false (fun h => h.1 hz)
          clear hz
          cases hv
          · by_cases q0 : env = -1
            · subst q0
              by_cases q1 : page = 0
              · subst q1
                go_wp2_with fail
                refine (tfind_no T _ (-1) 0 _ (HT.out.alloc _) (left_none HV.out HTK.out)).mono ?_
                rintro e w6 ⟨rfl, hb6⟩
                have T6 := Lib.hid ((HT.out.alloc _).later hb6)
                have M6 := Lib.hid ((HM.out.alloc _).later hb6)
                have B6 := Lib.hid (bl_alloc HB.out hb6)
                have L6 := Lib.hid (bk_one hb6)
                clear hb6 c0 c1 c2 c3
                have l0 := bk_cell L6.out 0
                have l1 := bk_cell L6.out 1
                have l2 := bk_cell L6.out 2
                have l3 := bk_cell L6.out 3
                have tl6 := T6.out.2.2
                have ll6 := bk_lt L6.out
                go_wp2_with fail
                go_roundw
                case rel => exact ⟨k + 1, by omega, by go_num, by rw [HC.out, ← HMC.out], by rw [hitN_succ, HH.out, ← HHV.out]; rfl, (by first | exact T6.out.alloc _ | exact T6.out), (by first | exact M6.out.alloc _ | exact M6.out), (by first | exact B6.out.alloc B6.out.size _ | exact B6.out)⟩
                case measure => simp [intOf]; omega
              · have q2 : ((0 : Int) == page) = false := by simpa using fun h => q1 h.symm
                clear q1
                go_wp2_with fail
                refine (tfind_no T _ (-1) 0 _ (HT.out.alloc _) (left_none HV.out HTK.out)).mono ?_
                rintro e w6 ⟨rfl, hb6⟩
                have T6 := Lib.hid ((HT.out.alloc _).later hb6)
                have M6 := Lib.hid ((HM.out.alloc _).later hb6)
                have B6 := Lib.hid (bl_alloc HB.out hb6)
                have L6 := Lib.hid (bk_one hb6)
                clear hb6 c0 c1 c2 c3
                have l0 := bk_cell L6.out 0
                have l1 := bk_cell L6.out 1
                have l2 := bk_cell L6.out 2
                have l3 := bk_cell L6.out 3
                have tl6 := T6.out.2.2
                have ll6 := bk_lt L6.out
                go_wp2_with fail
                go_roundw
                case rel => exact ⟨k + 1, by omega, by go_num, by rw [HC.out, ← HMC.out], by rw [hitN_succ, HH.out, ← HHV.out]; rfl, (by first | exact T6.out.alloc _ | exact T6.out), (by first | exact M6.out.alloc _ | exact M6.out), (by first | exact B6.out.alloc B6.out.size _ | exact B6.out)⟩
                case measure => simp [intOf]; omega
            · have q2 : ((-1 : Int) == env) = false := by simpa using fun h => q0 h.symm
              clear q0
              go_wp2_with fail
              refine (tfind_no T _ (-1) 0 _ (HT.out.alloc _) (left_none HV.out HTK.out)).mono ?_
              rintro e w6 ⟨rfl, hb6⟩
              have T6 := Lib.hid ((HT.out.alloc _).later hb6)
              have M6 := Lib.hid ((HM.out.alloc _).later hb6)
              have B6 := Lib.hid (bl_alloc HB.out hb6)
              have L6 := Lib.hid (bk_one hb6)
              clear hb6 c0 c1 c2 c3
              have l0 := bk_cell L6.out 0
              have l1 := bk_cell L6.out 1
              have l2 := bk_cell L6.out 2
              have l3 := bk_cell L6.out 3
              have tl6 := T6.out.2.2
              have ll6 := bk_lt L6.out
              go_wp2_with fail
              go_roundw
              case rel => exact ⟨k + 1, by omega, by go_num, by rw [HC.out, ← HMC.out], by rw [hitN_succ, HH.out, ← HHV.out]; rfl, (by first | exact T6.out.alloc _ | exact T6.out), (by first | exact M6.out.alloc _ | exact M6.out), (by first | exact B6.out.alloc B6.out.size _ | exact B6.out)⟩
              case measure => simp [intOf]; omega
          · by_cases q0 : env = -1
            · subst q0
              by_cases q1 : page = 0
              · subst q1
                go_wp2_with fail
                refine (tfind_no T _ (-1) 0 _ (HT.out.alloc _) (left_none HV.out HTK.out)).mono ?_
                rintro e w6 ⟨rfl, hb6⟩
                have T6 := Lib.hid ((HT.out.alloc _).later hb6)
                have M6 := Lib.hid ((HM.out.alloc _).later hb6)
                have B6 := Lib.hid (bl_alloc HB.out hb6)
                have L6 := Lib.hid (bk_one hb6)
                clear hb6 c0 c1 c2 c3
                have l0 := bk_cell L6.out 0
                have l1 := bk_cell L6.out 1
                have l2 := bk_cell L6.out 2
                have l3 := bk_cell L6.out 3
                have tl6 := T6.out.2.2
                have ll6 := bk_lt L6.out
                go_wp2_with fail
                go_roundw
                case rel => exact ⟨k + 1, by omega, by go_num, by rw [HC.out, ← HMC.out], by rw [hitN_succ, HH.out, ← HHV.out]; rfl, (by first | exact T6.out.alloc _ | exact T6.out), (by first | exact M6.out.alloc _ | exact M6.out), (by first | exact B6.out.alloc B6.out.size _ | exact B6.out)⟩
                case measure => simp [intOf]; omega
              · have q2 : ((0 : Int) == page) = false := by simpa using fun h => q1 h.symm
                clear q1
                go_wp2_with fail
                refine (tfind_no T _ (-1) 0 _ (HT.out.alloc _) (left_none HV.out HTK.out)).mono ?_
                rintro e w6 ⟨rfl, hb6⟩
                have T6 := Lib.hid ((HT.out.alloc _).later hb6)
                have M6 := Lib.hid ((HM.out.alloc _).later hb6)
                have B6 := Lib.hid (bl_alloc HB.out hb6)
                have L6 := Lib.hid (bk_one hb6)
                clear hb6 c0 c1 c2 c3
                have l0 := bk_cell L6.out 0
                have l1 := bk_cell L6.out 1
                have l2 := bk_cell L6.out 2
                have l3 := bk_cell L6.out 3
                have tl6 := T6.out.2.2
                have ll6 := bk_lt L6.out
                go_wp2_with fail
                go_roundw
                case rel => exact ⟨k + 1, by omega, by go_num, by rw [HC.out, ← HMC.out], by rw [hitN_succ, HH.out, ← HHV.out]; rfl, (by first | exact T6.out.alloc _ | exact T6.out), (by first | exact M6.out.alloc _ | exact M6.out), (by first | exact B6.out.alloc B6.out.size _ | exact B6.out)⟩
                case measure => simp [intOf]; omega
            · have q2 : ((-1 : Int) == env) = false := by simpa using fun h => q0 h.symm
              clear q0
              go_wp2_with fail
              refine (tfind_no T _ (-1) 0 _ (HT.out.alloc _) (left_none HV.out HTK.out)).mono ?_
              rintro e w6 ⟨rfl, hb6⟩
              have T6 := Lib.hid ((HT.out.alloc _).later hb6)
              have M6 := Lib.hid ((HM.out.alloc _).later hb6)
              have B6 := Lib.hid (bl_alloc HB.out hb6)
              have L6 := Lib.hid (bk_one hb6)
              clear hb6 c0 c1 c2 c3
              have l0 := bk_cell L6.out 0
              have l1 := bk_cell L6.out 1
              have l2 := bk_cell L6.out 2
              have l3 := bk_cell L6.out 3
              have tl6 := T6.out.2.2
              have ll6 := bk_lt L6.out
              go_wp2_with fail
              go_roundw
              case rel => exact ⟨k + 1, by omega, by go_num, by rw [HC.out, ← HMC.out], by rw [hitN_succ, HH.out, ← HHV.out]; rfl, (by first | exact T6.out.alloc _ | exact T6.out), (by first | exact M6.out.alloc _ | exact M6.out), (by first | exact B6.out.alloc B6.out.size _ | exact B6.out)⟩
              case measure => simp [intOf]; omega
        · rw [if_neg hz] at c0 c1 c2 c3
          rw [Nat.add_zero] at c0
          have henv := (HV.out.1 k hlt hz).1
          cases hh : hitB g env page k
          · by_cases hf : g (k * 5 + 2) = frame
            · have HC := Lib.hid (cntN_yes (g := g) (e := env) (p := page) (f := frame) (k := k) ⟨hz, hh, hf⟩)
              have HS := Lib.hid (left_no (f := frame) HV.out HTK.out hlt hz (decide_eq_false (fun h => h.2.2 hf)))
              have hq := hitB_no hh
              have HH := Lib.hid hh
              rw [hf] at c2
              clear hh hf
              cases hv
              · by_cases q0 : g (k * 5) = env
                · have q1 : (g (k * 5 + 1) == page) = false := by
                    have := (hq.resolve_left hz).resolve_left (fun h => h q0)
                    simpa using this
                  rw [q0] at c0 henv HS
                  clear hq q0 hz
                  go_wp2_with fail
                  refine (tfind_no T _ _ _ _ (HT.out.alloc _) HS.out).mono ?_
                  rintro e w6 ⟨rfl, hb6⟩
                  have T6 := Lib.hid ((HT.out.alloc _).later hb6)
                  have M6 := Lib.hid ((HM.out.alloc _).later hb6)
                  have B6 := Lib.hid (bl_alloc HB.out hb6)
                  have L6 := Lib.hid (bk_one hb6)
                  clear hb6 c0 c1 c2 c3
                  have l0 := bk_cell L6.out 0
                  have l1 := bk_cell L6.out 1
                  have l2 := bk_cell L6.out 2
                  have l3 := bk_cell L6.out 3
                  have tl6 := T6.out.2.2
                  have ll6 := bk_lt L6.out
                  go_wp2_with fail
                  go_roundw
                  case rel => exact ⟨k + 1, by omega, by go_num, by rw [HC.out, ← HMC.out]; go_num, by rw [hitN_succ, HH.out, ← HHV.out]; rfl, (by first | exact T6.out.alloc _ | exact T6.out), (by first | exact M6.out.alloc _ | exact M6.out), (by first | exact B6.out.alloc B6.out.size _ | exact B6.out)⟩
                  case measure => simp [intOf]; omega
                · have q2 : (g (k * 5) == env) = false := by simpa using q0
                  clear hq q0 hz
                  go_wp2_with fail
                  refine (tfind_no T _ _ _ _ (HT.out.alloc _) HS.out).mono ?_
                  rintro e w6 ⟨rfl, hb6⟩
                  have T6 := Lib.hid ((HT.out.alloc _).later hb6)
                  have M6 := Lib.hid ((HM.out.alloc _).later hb6)
                  have B6 := Lib.hid (bl_alloc HB.out hb6)
                  have L6 := Lib.hid (bk_one hb6)
                  clear hb6 c0 c1 c2 c3
                  have l0 := bk_cell L6.out 0
                  have l1 := bk_cell L6.out 1
                  have l2 := bk_cell L6.out 2
                  have l3 := bk_cell L6.out 3
                  have tl6 := T6.out.2.2
                  have ll6 := bk_lt L6.out
                  go_wp2_with fail
                  go_roundw
                  case rel => exact ⟨k + 1, by omega, by go_num, by rw [HC.out, ← HMC.out]; go_num, by rw [hitN_succ, HH.out, ← HHV.out]; rfl, (by first | exact T6.out.alloc _ | exact T6.out), (by first | exact M6.out.alloc _ | exact M6.out), (by first | exact B6.out.alloc B6.out.size _ | exact B6.out)⟩
                  case measure => simp [intOf]; omega
              · by_cases q0 : g (k * 5) = env
                · have q1 : (g (k * 5 + 1) == page) = false := by
                    have := (hq.resolve_left hz).resolve_left (fun h => h q0)
                    simpa using this
                  rw [q0] at c0 henv HS
                  clear hq q0 hz
                  go_wp2_with fail
                  refine (tfind_no T _ _ _ _ (HT.out.alloc _) HS.out).mono ?_
                  rintro e w6 ⟨rfl, hb6⟩
                  have T6 := Lib.hid ((HT.out.alloc _).later hb6)
                  have M6 := Lib.hid ((HM.out.alloc _).later hb6)
                  have B6 := Lib.hid (bl_alloc HB.out hb6)
                  have L6 := Lib.hid (bk_one hb6)
                  clear hb6 c0 c1 c2 c3
                  have l0 := bk_cell L6.out 0
                  have l1 := bk_cell L6.out 1
                  have l2 := bk_cell L6.out 2
                  have l3 := bk_cell L6.out 3
                  have tl6 := T6.out.2.2
                  have ll6 := bk_lt L6.out
                  go_wp2_with fail
                  go_roundw
                  case rel => exact ⟨k + 1, by omega, by go_num, by rw [HC.out, ← HMC.out]; go_num, by rw [hitN_succ, HH.out, ← HHV.out]; rfl, (by first | exact T6.out.alloc _ | exact T6.out), (by first | exact M6.out.alloc _ | exact M6.out), (by first | exact B6.out.alloc B6.out.size _ | exact B6.out)⟩
                  case measure => simp [intOf]; omega
                · have q2 : (g (k * 5) == env) = false := by simpa using q0
                  clear hq q0 hz
                  go_wp2_with fail
                  refine (tfind_no T _ _ _ _ (HT.out.alloc _) HS.out).mono ?_
                  rintro e w6 ⟨rfl, hb6⟩
                  have T6 := Lib.hid ((HT.out.alloc _).later hb6)
                  have M6 := Lib.hid ((HM.out.alloc _).later hb6)
                  have B6 := Lib.hid (bl_alloc HB.out hb6)
                  have L6 := Lib.hid (bk_one hb6)
                  clear hb6 c0 c1 c2 c3
                  have l0 := bk_cell L6.out 0
                  have l1 := bk_cell L6.out 1
                  have l2 := bk_cell L6.out 2
                  have l3 := bk_cell L6.out 3
                  have tl6 := T6.out.2.2
                  have ll6 := bk_lt L6.out
                  go_wp2_with fail
                  go_roundw
                  case rel => exact ⟨k + 1, by omega, by go_num, by rw [HC.out, ← HMC.out]; go_num, by rw [hitN_succ, HH.out, ← HHV.out]; rfl, (by first | exact T6.out.alloc _ | exact T6.out), (by first | exact M6.out.alloc _ | exact M6.out), (by first | exact B6.out.alloc B6.out.size _ | exact B6.out)⟩
                  case measure => simp [intOf]; omega
            · have HC := Lib.hid (cntN_no (g := g) (e := env) (p := page) (f := frame) (k := k) (fun h => hf h.2.2))
              have HSY : Hid (stayB g env page frame k = true) := decide_eq_true ⟨hz, hh, hf⟩
              have HS := Lib.hid (left_hit (f := frame) HV.out HTK.out hlt hz HSY.out)
              have s0 := stays (f := frame) HTK.out hlt (i := 0) (by omega) hz
              have s1 := stays (f := frame) HTK.out hlt (i := 1) (by omega) hz
              have s2 := stays (f := frame) HTK.out hlt (i := 2) (by omega) hz
              have s3 := stays (f := frame) HTK.out hlt (i := 3) (by omega) hz
              rw [if_pos HSY.out] at s0 s1 s2 s3
              rw [Nat.add_zero] at s0
              have HL := Lib.hid (And.intro s0 (And.intro s1 (And.intro s2 s3)))
              have hpage := (HV.out.1 k hlt hz).2.2
              have HP := Lib.hid hpage
              have hq := hitB_no hh
              have hr : (g (k * 5 + 2) == frame) = false := by simpa using hf
              have hr2 : (g (k * 5 + 2) != frame) = true := by simpa using hf
              have HH := Lib.hid hh
              clear hh hf s0 s1 s2 s3 hpage HSY
              cases hv
              · by_cases q0 : g (k * 5) = env
                · have q1 : (g (k * 5 + 1) == page) = false := by
                    have := (hq.resolve_left hz).resolve_left (fun h => h q0)
                    simpa using this
                  rw [q0] at c0 henv HS HL
                  clear hq q0 hz
                  go_wp2_with fail
                  refine (tfind_any T _ _ _ _ (HT.out.alloc _) k hlt HP.out HS.out.1 HS.out.2 HL.out).mono ?_
                  rintro e w6 ⟨rfl, hb6⟩
                  have T6 := Lib.hid ((HT.out.alloc _).later hb6)
                  have M6 := Lib.hid ((HM.out.alloc _).later hb6)
                  have B6 := Lib.hid (bl_alloc HB.out hb6)
                  have L6 := Lib.hid (bk_one hb6)
                  clear hb6 c0 c1 c2 c3
                  have l0 := bk_cell L6.out 0
                  have l1 := bk_cell L6.out 1
                  have l2 := bk_cell L6.out 2
                  have l3 := bk_cell L6.out 3
                  have tl6 := T6.out.2.2
                  have ll6 := bk_lt L6.out
                  go_wp2_with fail
                  go_roundw
                  case rel => exact ⟨k + 1, by omega, by go_num, by rw [HC.out, ← HMC.out], by rw [hitN_succ, HH.out, ← HHV.out]; rfl, (by first | exact T6.out.alloc _ | exact T6.out), (by first | exact M6.out.alloc _ | exact M6.out), (by first | exact B6.out.alloc B6.out.size _ | exact B6.out)⟩
                  case measure => simp [intOf]; omega
                · have q2 : (g (k * 5) == env) = false := by simpa using q0
                  clear hq q0 hz
                  go_wp2_with fail
                  refine (tfind_any T _ _ _ _ (HT.out.alloc _) k hlt HP.out HS.out.1 HS.out.2 HL.out).mono ?_
                  rintro e w6 ⟨rfl, hb6⟩
                  have T6 := Lib.hid ((HT.out.alloc _).later hb6)
                  have M6 := Lib.hid ((HM.out.alloc _).later hb6)
                  have B6 := Lib.hid (bl_alloc HB.out hb6)
                  have L6 := Lib.hid (bk_one hb6)
                  clear hb6 c0 c1 c2 c3
                  have l0 := bk_cell L6.out 0
                  have l1 := bk_cell L6.out 1
                  have l2 := bk_cell L6.out 2
                  have l3 := bk_cell L6.out 3
                  have tl6 := T6.out.2.2
                  have ll6 := bk_lt L6.out
                  go_wp2_with fail
                  go_roundw
                  case rel => exact ⟨k + 1, by omega, by go_num, by rw [HC.out, ← HMC.out], by rw [hitN_succ, HH.out, ← HHV.out]; rfl, (by first | exact T6.out.alloc _ | exact T6.out), (by first | exact M6.out.alloc _ | exact M6.out), (by first | exact B6.out.alloc B6.out.size _ | exact B6.out)⟩
                  case measure => simp [intOf]; omega
              · by_cases q0 : g (k * 5) = env
                · have q1 : (g (k * 5 + 1) == page) = false := by
                    have := (hq.resolve_left hz).resolve_left (fun h => h q0)
                    simpa using this
                  rw [q0] at c0 henv HS HL
                  clear hq q0 hz
                  go_wp2_with fail
                  refine (tfind_any T _ _ _ _ (HT.out.alloc _) k hlt HP.out HS.out.1 HS.out.2 HL.out).mono ?_
                  rintro e w6 ⟨rfl, hb6⟩
                  have T6 := Lib.hid ((HT.out.alloc _).later hb6)
                  have M6 := Lib.hid ((HM.out.alloc _).later hb6)
                  have B6 := Lib.hid (bl_alloc HB.out hb6)
                  have L6 := Lib.hid (bk_one hb6)
                  clear hb6 c0 c1 c2 c3
                  have l0 := bk_cell L6.out 0
                  have l1 := bk_cell L6.out 1
                  have l2 := bk_cell L6.out 2
                  have l3 := bk_cell L6.out 3
                  have tl6 := T6.out.2.2
                  have ll6 := bk_lt L6.out
                  go_wp2_with fail
                  go_roundw
                  case rel => exact ⟨k + 1, by omega, by go_num, by rw [HC.out, ← HMC.out], by rw [hitN_succ, HH.out, ← HHV.out]; rfl, (by first | exact T6.out.alloc _ | exact T6.out), (by first | exact M6.out.alloc _ | exact M6.out), (by first | exact B6.out.alloc B6.out.size _ | exact B6.out)⟩
                  case measure => simp [intOf]; omega
                · have q2 : (g (k * 5) == env) = false := by simpa using q0
                  clear hq q0 hz
                  go_wp2_with fail
                  refine (tfind_any T _ _ _ _ (HT.out.alloc _) k hlt HP.out HS.out.1 HS.out.2 HL.out).mono ?_
                  rintro e w6 ⟨rfl, hb6⟩
                  have T6 := Lib.hid ((HT.out.alloc _).later hb6)
                  have M6 := Lib.hid ((HM.out.alloc _).later hb6)
                  have B6 := Lib.hid (bl_alloc HB.out hb6)
                  have L6 := Lib.hid (bk_one hb6)
                  clear hb6 c0 c1 c2 c3
                  have l0 := bk_cell L6.out 0
                  have l1 := bk_cell L6.out 1
                  have l2 := bk_cell L6.out 2
                  have l3 := bk_cell L6.out 3
                  have tl6 := T6.out.2.2
                  have ll6 := bk_lt L6.out
                  go_wp2_with fail
                  go_roundw
                  case rel => exact ⟨k + 1, by omega, by go_num, by rw [HC.out, ← HMC.out], by rw [hitN_succ, HH.out, ← HHV.out]; rfl, (by first | exact T6.out.alloc _ | exact T6.out), (by first | exact M6.out.alloc _ | exact M6.out), (by first | exact B6.out.alloc B6.out.size _ | exact B6.out)⟩
                  case measure => simp [intOf]; omega
          · have HC := Lib.hid (cntN_no (g := g) (e := env) (p := page) (f := frame) (k := k) (fun h => by rw [hh] at h; exact absurd h.2.1 (by decide)))
            have HS := Lib.hid (left_no (f := frame) HV.out HTK.out hlt hz (decide_eq_false (fun h => by rw [hh] at h; exact absurd h.2.1 (by decide))))
            have HH := Lib.hid hh
            obtain ⟨_, q0, q1⟩ := of_decide_eq_true hh
            rw [q0] at c0 henv HS
            rw [q1] at c1 HS
            clear hh hz q0 q1
            cases hv
            · go_wp2_with fail
              refine (tfind_no T _ _ _ _ (HT.out.alloc _) HS.out).mono ?_
              rintro e w6 ⟨rfl, hb6⟩
              have T6 := Lib.hid ((HT.out.alloc _).later hb6)
              have M6 := Lib.hid ((HM.out.alloc _).later hb6)
              have B6 := Lib.hid (bl_alloc HB.out hb6)
              have L6 := Lib.hid (bk_one hb6)
              clear hb6 c0 c1 c2 c3
              have l0 := bk_cell L6.out 0
              have l1 := bk_cell L6.out 1
              have l2 := bk_cell L6.out 2
              have l3 := bk_cell L6.out 3
              have tl6 := T6.out.2.2
              have ll6 := bk_lt L6.out
              go_wp2_with fail
              go_roundw
              case rel => exact ⟨k + 1, by omega, by go_num, by rw [HC.out, ← HMC.out], by rw [hitN_succ, HH.out, ← HHV.out]; rfl, (by first | exact T6.out.alloc _ | exact T6.out), (by first | exact M6.out.alloc _ | exact M6.out), (by first | exact B6.out.alloc B6.out.size _ | exact B6.out)⟩
              case measure => simp [intOf]; omega
            · go_wp2_with fail
              refine (tfind_no T _ _ _ _ (HT.out.alloc _) HS.out).mono ?_
              rintro e w6 ⟨rfl, hb6⟩
              have T6 := Lib.hid ((HT.out.alloc _).later hb6)
              have M6 := Lib.hid ((HM.out.alloc _).later hb6)
              have B6 := Lib.hid (bl_alloc HB.out hb6)
              have L6 := Lib.hid (bk_one hb6)
              clear hb6 c0 c1 c2 c3
              have l0 := bk_cell L6.out 0
              have l1 := bk_cell L6.out 1
              have l2 := bk_cell L6.out 2
              have l3 := bk_cell L6.out 3
              have tl6 := T6.out.2.2
              have ll6 := bk_lt L6.out
              go_wp2_with fail
              go_roundw
              case rel => exact ⟨k + 1, by omega, by go_num, by rw [HC.out, ← HMC.out], by rw [hitN_succ, HH.out, ← HHV.out]; rfl, (by first | exact T6.out.alloc _ | exact T6.out), (by first | exact M6.out.alloc _ | exact M6.out), (by first | exact B6.out.alloc B6.out.size _ | exact B6.out)⟩
              case measure => simp [intOf]; omega
      · obtain rfl : k = 8 := by omega
        cases hitN g env page 8
        all_goals
          go_wp2_with fail
          go_ret
          exact ⟨rfl, HB.out⟩
theorem tflush_some (a : Addr) (len cap : Nat) (hlen : len ≤ 9223372036854775807) (z : Nat → Nat → Int) (env page frame : Int) (w : World) (hz : ∀ i, i < len → ∀ j, j < 4 → w.cell? (a.add (i * 4 + j)) = some (.int .i64 (z i j))) (hbeg : ∀ W, Below w.heap.size w W → BegunAt W) :
    Calls Tryz.prog 7 #[.slice (some a) len cap, .int .i64 env, .int .i64 page, .int .i64 frame] w fun e w' => e = .returned (.bool true) ∧ Below w.heap.size w w' :=
  tflush_gen (some a) a len cap hlen z env page frame w (fun _ => rfl) hz hbeg
theorem tflush_nil (env page frame : Int) (w : World) (hbeg : ∀ W, Below w.heap.size w W → BegunAt W) :
    Calls Tryz.prog 7 #[.slice none 0 0, .int .i64 env, .int .i64 page, .int .i64 frame] w fun e w' => e = .returned (.bool true) ∧ Below w.heap.size w w' :=
  tflush_gen none ⟨0, 0, none⟩ 0 0 (by omega) (fun _ _ => 0) env page frame w (fun h => absurd h (Nat.not_lt_zero _)) (fun i h => absurd h (Nat.not_lt_zero _)) hbeg
end Go.Proofs.YtfpnpgpelncgeabGreatDoor
