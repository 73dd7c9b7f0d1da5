/- What is proved here: the statement TicketAll: whatever its slice, the statement returns true and leaves what was there. Conditions: the slice's numbers are there; the statements' own beginning returns true. -/
import Derived.Test.YtfpnpgpelncgeaaGreatDoorGCell
import Derived.RegionTactic
import Derived.Deep.CutBlock
import Derived.Deep.DeepCutAuto
import Derived.WalkArith
namespace Go.Proofs.YtfpnpgpelncgeaaGreatDoor
open Go.RowKit Go.Extern.Stop Go.Stop Go.Extern Go.WalkArith

/-- What a round of TicketAll keeps. -/
def TickRun (w : World) (L C D : Nat) (k : Int) (dv pv : Value) (W : World) : Prop :=
  ∃ d p : Int, dv = .int .u64 d ∧ pv = .int .u64 p ∧ 0 ≤ p ∧ p ≤ d ∧ d ≤ k ∧ Below w.heap.size w W ∧ LockAt W L C D d p k
set_option maxRecDepth 100000 in
set_option maxHeartbeats 8000000 in
theorem tall_any (ao : Option Addr) (a : Addr) (len cap : Nat) (hao : 0 < len → ao = some a) (E : Nat → Int) (w : World) (hz : ∀ i, i < len → w.cell? (a.add i) = some (.int .i64 (E i))) (hbeg : ∀ V, Below w.heap.size w V → BegunAt V) :
    Calls Tryz.prog 9 #[.slice ao len cap] w fun e w' => e = .returned (.bool true) ∧ Below w.heap.size w w' := by
  have HA := Lib.hid hao
  have HZ := Lib.hid hz
  have HB := Lib.hid (hbeg w (Below.refl _ _))
  clear hao hz hbeg
  go_enter Tryz.func9, Tryz.ntmps9
  go_wp2_with fail
  refine HB.out.mono ?_
  rintro e w1 ⟨rfl, hb1⟩
  have B1 := Lib.hid hb1
  clear hb1 HB
  go_wp2_with fail
  refine (tick_new w1).mono ?_
  rintro e w2 ⟨L, C, D, rfl, hl, hb2, hL, hC, hD⟩
  have B2 := Lib.hid (bl_trans B1.out hb2)
  have HC : Hid (w.heap.size ≤ C) := by have := B1.out.size; show w.heap.size ≤ C; omega
  have HD : Hid (w.heap.size ≤ D) := by have := B1.out.size; show w.heap.size ≤ D; omega
  have L2 := Lib.hid hl
  clear hl hb2 hL hC hD B1
  go_wp2_with fail
  go_loopw [5, 6, 7] (fun dv pv iv W => ∃ (i : Nat), iv = .int .i64 i ∧ i ≤ len ∧ i ≤ 60 ∧ TickRun w L C D (3 * (i : Int)) dv pv W) (fun _ _ iv _ => (60 - intOf iv).toNat)
  case atStart => exact ⟨0, rfl, by omega, by omega, 0, 0, rfl, rfl, by omega, by omega, by omega, B2.out, L2.out⟩
  case round =>
    obtain ⟨i, rfl, hil, hi60, d, p, rfl, rfl, hp0, hpd, hdk, hb, hl⟩ := hrel
    have HB := Lib.hid hb
    have HL := Lib.hid hl
    clear hb hl
    rcases (show (i < len ∧ i < 60) ∨ ¬ i < len ∨ (i < len ∧ i = 60) by omega) with ⟨h1, h2⟩ | h1 | ⟨h1, h2⟩
    · obtain rfl : ao = some a := HA.out (by omega)
      have i0 : (0 : Int) ≤ (i : Int) := by omega
      have i1 : (i : Int) < (len : Int) := by omega
      have i2 : (i : Int) < 60 := by omega
      have c1 := HB.out.cell (p := a.add i) (World.block_lt_of_cell? _ _ (HZ.out i h1))
      rw [HZ.out i h1] at c1
      obtain ⟨x, hx⟩ : ∃ x, E i = x := ⟨_, rfl⟩
      rw [hx] at c1
      clear hx
      go_upto_block 2 with (fail)
      generalize IntKind.u64.wrap (bits BinOp.and IntKind.i64 (wrap64 (x.tdiv 3)) 15) = t
      generalize x.tmod 3 = r
      clear c1
      go_cut [5, 6] (fun dv pv W => TickRun w L C D (3 * (i : Int) + 1) dv pv W)
      case first =>
        by_cases r0 : r = 0
        · subst r0
          go_wp2_with fail
          refine (tick_draw L C D d p (3 * (i : Int)) wr HL.out (by omega) (by omega) (by omega)).mono ?_
          rintro e' w2 ⟨rfl, hg, ho⟩
          have D2 := Lib.hid hg
          have B2 := Lib.hid (ol_bl HB.out HC.out HD.out ho)
          clear hg ho
          go_wp2_with fail
          go_meet
          case rel => exact ⟨d + 1, p, rfl, rfl, by omega, by omega, by omega, B2.out, D2.out⟩
        · have q0 : (r == 0) = false := by simpa using r0
          by_cases r1 : r = 1
          · subst r1
            clear r0 q0
            rcases (show (t < d ∧ t = p) ∨ ¬ t < d ∨ (t < d ∧ ¬ t = p) by omega) with ⟨t1, rfl⟩ | t1 | ⟨t1, t2⟩
            · go_wp2_with fail
              refine (tick_turn_yes L C D d t (3 * (i : Int)) t1 wr HL.out (by omega)).mono ?_
              rintro e' w2 ⟨rfl, hg, ho⟩
              have D2 := Lib.hid hg
              have B2 := Lib.hid (ol_bl HB.out HC.out HD.out ho)
              clear hg ho
              go_wp2_with fail
              go_meet
              case rel => exact ⟨d, t, rfl, rfl, by omega, by omega, by omega, B2.out, D2.out⟩
            · have g1 : decide (t < d) = false := decide_eq_false t1
              go_wp2_with fail
              refine (tick_turn_no L C D d p (3 * (i : Int)) t (by omega) wr HL.out (by omega)).mono ?_
              rintro e' w2 ⟨rfl, hg, ho⟩
              have D2 := Lib.hid hg
              have B2 := Lib.hid (ol_bl HB.out HC.out HD.out ho)
              clear hg ho
              go_wp2_with fail
              go_meet
              case rel => exact ⟨d, p, rfl, rfl, by omega, by omega, by omega, B2.out, D2.out⟩
            · have g2 : (t == p) = false := beq_eq_false_iff_ne.2 t2
              go_wp2_with fail
              refine (tick_turn_no L C D d p (3 * (i : Int)) t (by omega) wr HL.out (by omega)).mono ?_
              rintro e' w2 ⟨rfl, hg, ho⟩
              have D2 := Lib.hid hg
              have B2 := Lib.hid (ol_bl HB.out HC.out HD.out ho)
              clear hg ho
              go_wp2_with fail
              go_meet
              case rel => exact ⟨d, p, rfl, rfl, by omega, by omega, by omega, B2.out, D2.out⟩
          · have q1 : (r == 1) = false := by simpa using r1
            clear r0 r1
            rcases (show (p < d ∧ t = p) ∨ ¬ p < d ∨ (p < d ∧ ¬ t = p) by omega) with ⟨t1, rfl⟩ | t1 | ⟨t1, t2⟩
            · go_wp2_with fail
              refine (tick_pass_yes L C D d t (3 * (i : Int)) hp0 t1 (by omega) wr HL.out (by omega)).mono ?_
              rintro e' w2 ⟨rfl, hg, ho⟩
              have D2 := Lib.hid hg
              have B2 := Lib.hid (ol_bl HB.out HC.out HD.out ho)
              clear hg ho
              go_wp2_with fail
              go_meet
              case rel => exact ⟨d, t + 1, rfl, rfl, by omega, by omega, by omega, B2.out, D2.out⟩
            · have g1 : decide (p < d) = false := decide_eq_false t1
              go_wp2_with fail
              refine (tick_pass_no L C D d p (3 * (i : Int)) t (by omega) wr HL.out (by omega)).mono ?_
              rintro e' w2 ⟨rfl, hg, ho⟩
              have D2 := Lib.hid hg
              have B2 := Lib.hid (ol_bl HB.out HC.out HD.out ho)
              clear hg ho
              go_wp2_with fail
              go_meet
              case rel => exact ⟨d, p, rfl, rfl, by omega, by omega, by omega, B2.out, D2.out⟩
            · have g2 : (t == p) = false := beq_eq_false_iff_ne.2 t2
              go_wp2_with fail
              refine (tick_pass_no L C D d p (3 * (i : Int)) t (by omega) wr HL.out (by omega)).mono ?_
              rintro e' w2 ⟨rfl, hg, ho⟩
              have D2 := Lib.hid hg
              have B2 := Lib.hid (ol_bl HB.out HC.out HD.out ho)
              clear hg ho
              go_wp2_with fail
              go_meet
              case rel => exact ⟨d, p, rfl, rfl, by omega, by omega, by omega, B2.out, D2.out⟩
      case rest =>
        obtain ⟨d', p', rfl, rfl, hq0, hqd, hdk', hb, hl⟩ := hcut
        have HB := Lib.hid hb
        have HL := Lib.hid hl
        clear hb hl hp0 hpd hdk
        go_wp2_with fail
        refine (tick_waits L C D d' p' _ _ HL.out (by omega) hq0 hqd (by omega)).mono ?_
        rintro e' w3 ⟨rfl, hg, ho⟩
        have D3 := Lib.hid hg
        have B3 := Lib.hid (ol_bl HB.out HC.out HD.out ho)
        clear hg ho
        by_cases t1 : p' < d'
        · go_wp2_with fail
          refine (tick_turn_yes L C D d' p' _ t1 w3 D3.out (by omega)).mono ?_
          rintro e' w4 ⟨rfl, hg, ho⟩
          have D4 := Lib.hid hg
          have B4 := Lib.hid (ol_bl B3.out HC.out HD.out ho)
          clear hg ho
          go_wp2_with fail
          go_roundw
          case rel => exact ⟨i + 1, by go_num, by omega, by omega, d', p', rfl, rfl, by omega, by omega, by omega, B4.out, by have := D4.out; rw [show 3 * ((i + 1 : Nat) : Int) = 3 * (i : Int) + 1 + 1 + 1 by omega]; exact this⟩
          case measure => simp [intOf]; omega
        · have g1 : decide (p' < d') = false := decide_eq_false t1
          go_wp2_with fail
          refine (tick_turn_no L C D d' p' _ p' (by omega) w3 D3.out (by omega)).mono ?_
          rintro e' w4 ⟨rfl, hg, ho⟩
          have D4 := Lib.hid hg
          have B4 := Lib.hid (ol_bl B3.out HC.out HD.out ho)
          clear hg ho
          go_wp2_with fail
          go_roundw
          case rel => exact ⟨i + 1, by go_num, by omega, by omega, d', p', rfl, rfl, by omega, by omega, by omega, B4.out, by have := D4.out; rw [show 3 * ((i + 1 : Nat) : Int) = 3 * (i : Int) + 1 + 1 + 1 by omega]; exact this⟩
          case measure => simp [intOf]; omega
    all_goals
      first
        | (have i1 : ¬ (i : Int) < (len : Int) := by omega
           go_wp2_with fail)
        | (have i1 : (i : Int) < (len : Int) := by omega
           have i2 : ¬ (i : Int) < 60 := by omega
           go_wp2_with fail)
      go_ret
      exact ⟨rfl, HB.out⟩
end Go.Proofs.YtfpnpgpelncgeaaGreatDoor
