/- What is proved here: the statement CellAll: whatever its word and its slice, the statement returns true and leaves what was there. Conditions: the slice's operations are there and their words are words; the statements' own beginning returns true. -/
import Derived.Test.YtfpnpgpelncgeaaGreatDoorCellSwap
import Derived.RegionTactic
import Derived.Deep.CutBlock
import Derived.Deep.DeepCutAuto
import Derived.WalkArith
import Derived.Deep.RegionHeld3
namespace Go.Proofs.YtfpnpgpelncgeaaGreatDoor
open Go.RowKit Go.Extern.Stop Go.Stop Go.Extern Go.WalkArith

theorem cop_off (a : Addr) (m j : Nat) (hj : 0 < j) : (⟨(a.add m).block, (a.add m).off + j, none⟩ : Addr) = a.add (m + j) := by
  unfold Addr.add
  by_cases hm : m = 0
  · subst hm
    rw [if_pos rfl, if_neg (by omega), Nat.zero_add]
  · rw [if_neg hm, if_neg (by omega), Nat.add_assoc]
theorem cop_only {w w' : World} {b T : Nat} {o : Obj} (h : w.heap[b]? = some o) (ho : OnlyT T w w') (hne : ¬ b = T) : w'.heap[b]? = some o :=
  (ho.block b (bk_lt h) (fun e => hne (by injection e))).trans h
/-- What a round of CellAll keeps. -/
def CellRun (w : World) (C : Nat) (n : Int) (vv : Value) (W : World) : Prop :=
  ∃ v : Int, vv = .int .u64 v ∧ Hid ((Lit.int .u64 v).wf = true) ∧ Below w.heap.size w W ∧ CellB W C 0 v n
set_option maxRecDepth 100000 in
set_option maxHeartbeats 8000000 in
theorem call_any (v0 : Int) (hv0 : (Lit.int .u64 v0).wf = true) (ao : Option Addr) (a : Addr) (len cap : Nat) (hao : 0 < len → ao = some a) (K V U : Nat → Int) (w : World)
    (hz : ∀ i, i < len → w.cell? (a.add (i * 3)) = some (.int .i64 (K i)) ∧ w.cell? (a.add (i * 3 + 1)) = some (.int .u64 (V i)) ∧ w.cell? (a.add (i * 3 + 2)) = some (.int .u64 (U i))) (hwf : ∀ i, i < len → (Lit.int .u64 (V i)).wf = true ∧ (Lit.int .u64 (U i)).wf = true) (hbeg : ∀ V, Below w.heap.size w V → BegunAt V) :
    Calls Tryz.prog 8 #[.int .u64 v0, .slice ao len cap] w fun e w' => e = .returned (.bool true) ∧ Below w.heap.size w w' := by
  have HA := Lib.hid hao
  have HZ := Lib.hid hz
  have HW := Lib.hid hwf
  have HV := Lib.hid hv0
  have HB := Lib.hid (hbeg w (Below.refl _ _))
  clear hao hz hwf hbeg hv0
  go_enter Tryz.func8, Tryz.ntmps8
  go_wp2_with fail
  refine HB.out.mono ?_
  rintro e w1 ⟨rfl, hb1⟩
  have B1 := Lib.hid hb1
  clear hb1 HB
  go_wp2_with fail
  refine (cell_new v0 w1).mono ?_
  rintro e w2 ⟨C, rfl, hc, hb2, hC⟩
  have B2 := Lib.hid (bl_trans B1.out hb2)
  have HC : Hid (w.heap.size ≤ C) := by have := B1.out.size; show w.heap.size ≤ C; omega
  have C2 := Lib.hid hc
  clear hc hb2 hC B1
  go_wp2_with fail
  go_loopw [0, 7] (fun vv iv W => ∃ (i : Nat), iv = .int .i64 i ∧ i ≤ len ∧ i ≤ 50 ∧ CellRun w C (i : Int) vv W) (fun _ iv _ => (50 - intOf iv).toNat)
  case atStart => exact ⟨0, rfl, by omega, by omega, v0, rfl, HV, B2.out, C2.out⟩
  case round =>
    obtain ⟨i, rfl, hil, hi50, v, rfl, HVI, hb, hc⟩ := hrel
    have HB := Lib.hid hb
    have HCI := Lib.hid hc
    clear hb hc
    rcases (show (i < len ∧ i < 50) ∨ ¬ i < len ∨ (i < len ∧ i = 50) by omega) with ⟨h1, h2⟩ | h1 | ⟨h1, h2⟩
    · obtain rfl : ao = some a := HA.out (by omega)
      have i0 : (0 : Int) ≤ (i : Int) := by omega
      have i1 : (i : Int) < (len : Int) := by omega
      have i2 : (i : Int) < 50 := by omega
      obtain ⟨hz0, hz1, hz2⟩ := HZ.out i h1
      have z0 := (HB.out.cell (p := a.add (i * 3)) (World.block_lt_of_cell? _ _ hz0)).trans hz0
      have z1 := (congrArg wr.cell? (cop_off a (i * 3) 1 (by omega))).trans ((HB.out.cell (p := a.add (i * 3 + 1)) (World.block_lt_of_cell? _ _ hz1)).trans hz1)
      have z2 := (congrArg wr.cell? (cop_off a (i * 3) 2 (by omega))).trans ((HB.out.cell (p := a.add (i * 3 + 2)) (World.block_lt_of_cell? _ _ hz2)).trans hz2)
      clear hz0 hz1 hz2
      have HWF := Lib.hid (HW.out i h1)
      obtain ⟨kd, hkd⟩ : ∃ kd, K i = kd := ⟨_, rfl⟩
      obtain ⟨p, hp⟩ : ∃ p, V i = p := ⟨_, rfl⟩
      obtain ⟨q, hq⟩ : ∃ q, U i = q := ⟨_, rfl⟩
      rw [hkd] at z0
      rw [hp] at z1 HWF
      rw [hq] at z2 HWF
      clear hkd hp hq
      go_upto_block 2 with (fail)
      obtain ⟨w1, hw1⟩ : ∃ w1, w1 = wr.alloc (.cells #[.int .i64 kd, .int .u64 p, .int .u64 q] 94) := ⟨_, rfl⟩
      obtain ⟨O, hO⟩ : ∃ O, O = wr.heap.size := ⟨_, rfl⟩
      have K1 : Hid (w1.heap[O]? = some (.cells #[.int .i64 kd, .int .u64 p, .int .u64 q] 94 (0, 0))) := by rw [hw1, hO]; exact heap_alloc_new wr _
      have C1 : Hid (CellB w1 C 0 v (i : Int)) := by rw [hw1]; exact HCI.out.later ((Below.refl _ _).alloc (Nat.le_refl _) _)
      have B1 : Hid (Below w.heap.size w w1) := by rw [hw1]; exact HB.out.alloc HB.out.size _
      have HOC : Hid (¬ O = C) := by have := bk_lt HCI.out; show ¬ O = C; omega
      rw [← hw1, ← hO]
      clear hw1 hO HB HCI z0 z1 z2
      have c0 := bk_cell K1.out 0
      have c1 := bk_cell K1.out 1
      have c2 := bk_cell K1.out 2
      go_cut [0, 9] (fun vv ok W => ok = .bool true ∧ CellRun w C ((i : Int) + 1) vv W)
      case first =>
        by_cases k0 : kd = 0
        · subst k0
          go_wp2_with fail
          refine (cell_load C v (i : Int) _ C1.out (by omega) (by omega)).mono ?_
          rintro e' w2 ⟨rfl, hg, ho⟩
          have D := Lib.hid hg
          have B2 := Lib.hid (tp_bl B1.out HC.out ho)
          clear hg ho c0 c1 c2
          go_wp2_with fail
          go_meet
          case rel => exact ⟨rfl, v, rfl, HVI, B2.out, D.out⟩
        · by_cases k1 : kd = 1
          · subst k1
            clear k0
            go_wp2_with fail
            refine (cell_store C v (i : Int) p _ C1.out (by omega) (by omega)).mono ?_
            rintro e' w2 ⟨rfl, hg, ho⟩
            have D := Lib.hid hg
            have B2 := Lib.hid (tp_bl B1.out HC.out ho)
            have K2 := Lib.hid (cop_only K1.out ho HOC.out)
            clear hg ho c0 c1 c2 K1
            have c1 := bk_cell K2.out 1
            go_wp2_with fail
            go_meet
            case rel => exact ⟨rfl, p, rfl, Lib.hid HWF.out.1, B2.out, D.out⟩
          · by_cases k2 : kd = 2
            · subst k2
              clear k0 k1
              by_cases hvp : v = p
              · subst hvp
                go_wp2_with fail
                clear c0 c1 c2
                have HD : Hid (CellB w1.drew C 0 v (i : Int)) := C1.out
                have HB := Lib.hid (dn B1.out 1)
                have HK : Hid (w1.drew.heap[O]? = some (.cells #[.int .i64 2, .int .u64 v, .int .u64 q] 94 (0, 0))) := K1.out
                have hS : w1.drew.cell? ⟨O, 1, none⟩ = some (.int .u64 v) ∧ w1.drew.cell? ⟨O, 2, none⟩ = some (.int .u64 q) := ⟨bk_cell HK.out 1, bk_cell HK.out 2⟩
                clear C1 B1 K1
                go_region_held3 (fun w' => w'.cell? ⟨O, 1, none⟩ = some (.int .u64 v) ∧ w'.cell? ⟨O, 2, none⟩ = some (.int .u64 q)) (exact hS)
                  ((go_at_call 67; refine (cell_cas_yes C v (i : Int) q _ HD.out (by omega) (by omega)).mono ?_; rintro e' wn ⟨rfl, hg, ho⟩; replace HD := Lib.hid hg; replace HB := Lib.hid (tp_bl HB.out HC.out ho); replace HK := Lib.hid (cop_only HK.out ho HOC.out); have hS : wn.cell? ⟨O, 1, none⟩ = some (.int .u64 v) ∧ wn.cell? ⟨O, 2, none⟩ = some (.int .u64 q) := ⟨bk_cell HK.out 1, bk_cell HK.out 2⟩; clear hg ho))
                all_goals
                  have c1 := bk_cell HK.out 1
                  have c2 := bk_cell HK.out 2
                  go_wp2_with fail
                  go_meet
                  case rel => exact ⟨rfl, q, rfl, Lib.hid HWF.out.2, HB.out, HD.out⟩
              · have hne : (v == p) = false := beq_eq_false_iff_ne.2 hvp
                have HNE := Lib.hid hne
                go_wp2_with fail
                clear c0 c1 c2
                have HD : Hid (CellB w1.drew C 0 v (i : Int)) := C1.out
                have HB := Lib.hid (dn B1.out 1)
                have HK : Hid (w1.drew.heap[O]? = some (.cells #[.int .i64 2, .int .u64 p, .int .u64 q] 94 (0, 0))) := K1.out
                have hS : w1.drew.cell? ⟨O, 1, none⟩ = some (.int .u64 p) ∧ w1.drew.cell? ⟨O, 2, none⟩ = some (.int .u64 q) := ⟨bk_cell HK.out 1, bk_cell HK.out 2⟩
                clear C1 B1 K1
                go_region_held3 (fun w' => w'.cell? ⟨O, 1, none⟩ = some (.int .u64 p) ∧ w'.cell? ⟨O, 2, none⟩ = some (.int .u64 q)) (exact hS)
                  ((go_at_call 67; refine (cell_cas_no C v (i : Int) p q _ HD.out (by omega) (by omega) HNE.out).mono ?_; rintro e' wn ⟨rfl, hg, ho⟩; replace HD := Lib.hid hg; replace HB := Lib.hid (tp_bl HB.out HC.out ho); replace HK := Lib.hid (cop_only HK.out ho HOC.out); have hS : wn.cell? ⟨O, 1, none⟩ = some (.int .u64 p) ∧ wn.cell? ⟨O, 2, none⟩ = some (.int .u64 q) := ⟨bk_cell HK.out 1, bk_cell HK.out 2⟩; clear hg ho))
                all_goals
                  have c1 := bk_cell HK.out 1
                  have c2 := bk_cell HK.out 2
                  go_wp2_with fail
                  go_meet
                  case rel => exact ⟨rfl, v, rfl, HVI, HB.out, HD.out⟩
            · by_cases k3 : kd = 3
              · subst k3
                clear k0 k1 k2
                obtain ⟨v1, v2⟩ := bounds_u64 HVI.out
                obtain ⟨p1, p2⟩ := bounds_u64 HWF.out.1
                by_cases hvp : v < p
                · go_wp2_with fail
                  refine (cell_up_yes C v (i : Int) p _ C1.out (by omega) (by omega) v1 hvp p2).mono ?_
                  rintro e' w2 ⟨rfl, hg, ho⟩
                  have D := Lib.hid hg
                  have B2 := Lib.hid (tp_bl B1.out HC.out ho)
                  have K2 := Lib.hid (cop_only K1.out ho HOC.out)
                  clear hg ho c0 c1 c2 K1
                  have c1 := bk_cell K2.out 1
                  go_wp2_with fail
                  go_meet
                  case rel => exact ⟨rfl, v + 1, rfl, Lib.hid (wf_u64 ⟨by omega, by omega⟩), B2.out, D.out⟩
                · have hd : decide (v < p) = false := decide_eq_false hvp
                  go_wp2_with fail
                  refine (cell_up_no C v (i : Int) p _ C1.out (by omega) (by omega) (by omega)).mono ?_
                  rintro e' w2 ⟨rfl, hg, ho⟩
                  have D := Lib.hid hg
                  have B2 := Lib.hid (tp_bl B1.out HC.out ho)
                  have K2 := Lib.hid (cop_only K1.out ho HOC.out)
                  clear hg ho c0 c1 c2 K1
                  have c1 := bk_cell K2.out 1
                  go_wp2_with fail
                  go_meet
                  case rel => exact ⟨rfl, v, rfl, HVI, B2.out, D.out⟩
              · have q0 : (kd == 0) = false := by simpa using k0
                have q1 : (kd == 1) = false := by simpa using k1
                have q2 : (kd == 2) = false := by simpa using k2
                have q3 : (kd == 3) = false := by simpa using k3
                clear k0 k1 k2 k3
                obtain ⟨v1, v2⟩ := bounds_u64 HVI.out
                by_cases hv : 0 < v
                · have g1 : max v 1 = v := by omega
                  have g2 : ¬ v = 0 := by omega
                  go_wp2_with fail
                  refine (cell_down_yes C v (i : Int) _ C1.out (by omega) (by omega) hv v2).mono ?_
                  rintro e' w2 ⟨rfl, hg, ho⟩
                  have D := Lib.hid hg
                  have B2 := Lib.hid (tp_bl B1.out HC.out ho)
                  clear hg ho c0 c1 c2
                  go_wp2_with fail
                  go_meet
                  case rel => exact ⟨rfl, v - 1, rfl, Lib.hid (wf_u64 ⟨by omega, by omega⟩), B2.out, D.out⟩
                · obtain rfl : v = 0 := by omega
                  go_wp2_with fail
                  refine (cell_down_no C (i : Int) _ C1.out (by omega) (by omega)).mono ?_
                  rintro e' w2 ⟨rfl, hg, ho⟩
                  have D := Lib.hid hg
                  have B2 := Lib.hid (tp_bl B1.out HC.out ho)
                  clear hg ho c0 c1 c2
                  go_wp2_with fail
                  go_meet
                  case rel => exact ⟨rfl, 0, rfl, HVI, B2.out, D.out⟩
      case rest =>
        obtain ⟨rfl, v', rfl, HV', hb, hg⟩ := hcut
        have HB := Lib.hid hb
        have HD := Lib.hid hg
        clear hb hg
        go_wp2_with fail
        refine (cell_steps C v' _ _ HD.out).mono ?_
        rintro e' w3 ⟨rfl, hg, ho⟩
        have D3 := Lib.hid hg
        have B3 := Lib.hid (tp_bl HB.out HC.out ho)
        clear hg ho
        go_wp2_with fail
        go_roundw
        case rel => exact ⟨i + 1, by go_num, by omega, by omega, v', rfl, HV', B3.out, by have := D3.out; rw [show ((i + 1 : Nat) : Int) = (i : Int) + 1 by omega]; exact this⟩
        case measure => simp [intOf]; omega
    all_goals
      first
        | (have i1 : ¬ (i : Int) < (len : Int) := by omega
           go_wp2_with fail)
        | (have i1 : (i : Int) < (len : Int) := by omega
           have i2 : ¬ (i : Int) < 50 := by omega
           go_wp2_with fail)
      go_ret
      exact ⟨rfl, HB.out⟩
end Go.Proofs.YtfpnpgpelncgeaaGreatDoor
