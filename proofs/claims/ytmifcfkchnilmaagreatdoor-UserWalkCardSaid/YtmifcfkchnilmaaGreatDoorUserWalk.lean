/- What is proved here: the statement UserWalk: whatever its lines, its entries and its numbers, the statement returns true and leaves what was there. Conditions: package user keeps its contracts; the lines and the entries are there; the statements' own beginning returns true. -/
import Derived.Test.YtmifcfkchnilmaaGreatDoorGUser
import Derived.Test.YtmifcfkchnilmaaGreatDoorLnAt
import Derived.Test.YtmifcfkchnilmaaGreatDoorGPair
import Derived.Test.YtmifcfkchnilmaaGreatDoorGParts
import Derived.RegionTactic
import Derived.WalkArith
namespace Go.Proofs.YtmifcfkchnilmaaGreatDoor
open Go.RowKit Go.Extern.Stop Go.Stop Go.Extern Go.WalkArith
structure UW (w : World) (T U : Nat) (g tg : Nat → Int) (W : World) : Prop where
  nums : NumsIs 41 W T g
  tab : TabIs W U tg
  ne : T ≠ U
  hT : w.heap.size ≤ T
  hU : w.heap.size ≤ U
  below : Below w.heap.size w W
section
variable {w W W' : World} {T U : Nat} {g tg : Nat → Int}
theorem UW.under (h : UW w T U g tg W) (hb : Below W.heap.size W W') : UW w T U g tg W' := ⟨h.nums.later hb, h.tab.later hb, h.ne, h.hT, h.hU, bl_trans h.below hb⟩
theorem UW.setT {g' : Nat → Int} (h : UW w T U g tg W) (hn : NumsIs 41 W' T g') (ho : OnlyT T W W') : UW w T U g' tg W' := ⟨hn, h.tab.only ho (fun e => h.ne e.symm), h.ne, h.hT, h.hU, tp_bl h.below h.hT ho⟩
theorem UW.setU {tg' : Nat → Int} (h : UW w T U g tg W) (hn : TabIs W' U tg') (ho : OnlyT U W W') : UW w T U g tg' W' := ⟨h.nums.only ho h.ne, hn, h.ne, h.hT, h.hU, tp_bl h.below h.hU ho⟩
theorem VU.ok (h : VU g) (h0 : 0 ≤ g 40) (h1 : g 40 ≤ 1000) : BufOk g := ⟨fun _ _ _ hk hh => h.page hk hh, h0, h1⟩
theorem TabOk.new : TabOk fun _ => 0 := fun _ _ => Or.inl rfl
theorem TabOk.put (h : TabOk tg) {q : Nat} {f s r : Int} (hm : mayIns f s r = true) : TabOk (putG tg q f s r) := by
  simp only [mayIns, Bool.and_eq_true, decide_eq_true_eq] at hm
  intro p hp
  have e2 : putG tg q f s r (p * 3 + 2) = if p = q then r else tg (p * 3 + 2) := by
    unfold putG
    by_cases hc : p = q
    · rw [if_pos (by omega), if_pos hc]
    · rw [if_neg (by omega), if_neg (by omega), if_neg (by omega), if_neg hc]
  have e0 : putG tg q f s r (p * 3) = if p = q then f else tg (p * 3) := by
    unfold putG
    by_cases hc : p = q
    · rw [if_neg (by omega), if_neg (by omega), if_pos (by omega), if_pos hc]
    · rw [if_neg (by omega), if_neg (by omega), if_neg (by omega), if_neg hc]
  rw [e2, e0]
  by_cases hc : p = q
  · rw [if_pos hc, if_pos hc]
    right
    omega
  · rw [if_neg hc, if_neg hc]
    exact h p hp
def bufT (T : Nat) (g : Nat → Int) : Thing := ⟨fun i => i = T, fun W => NumsIs 41 W T g, fun _ _ h hs hb => ⟨fun j hj => (World.cell?_of_block (a := ⟨T, j, none⟩) (hb T rfl h.2.2)).trans (h.1 j hj), fun j => (World.frozen?_of_block (a := ⟨T, j, none⟩) (hb T rfl h.2.2)).trans (h.2.1 j), Nat.lt_of_lt_of_le h.2.2 hs⟩, fun _ h i hi => by subst hi; exact h.2.2⟩
def tbT (U : Nat) (tg : Nat → Int) : Thing := ⟨fun i => i = U, fun W => TabIs W U tg, fun _ _ h hs hb => ⟨fun j hj => (World.cell?_of_block (a := ⟨U, j, none⟩) (hb U rfl h.2.2)).trans (h.1 j hj), fun j => (World.frozen?_of_block (a := ⟨U, j, none⟩) (hb U rfl h.2.2)).trans (h.2.1 j), Nat.lt_of_lt_of_le h.2.2 hs⟩, fun _ h i hi => by subst hi; exact h.2.2⟩
theorem UW.side (h : UW w T U g tg W) : Side w W [bufT T g, tbT U tg] :=
  ⟨h.nums, fun i hi => by rw [show i = T from hi]; exact h.hT, fun q hq i hi hqi => by
    obtain rfl : q = tbT U tg := by simpa using hq
    exact h.ne ((show i = T from hi).symm.trans (show i = U from hqi)), h.tab, fun i hi => by rw [show i = U from hi]; exact h.hU, fun _ hq => absurd hq (by simp), h.below⟩
def InsP (w : World) (T U : Nat) (g : Nat → Int) (x : Ending) (W' : World) : Prop := ∃ n tg', x = .returned (.int .i64 n) ∧ TabOk tg' ∧ UW w T U g tg' W'
theorem uw_insert {q : Nat} (hq : q < 8) (f s r : Int) (h : UW w T U g tg W) (ht : TabOk tg) :
    Calls Tryz.prog 39 #[.pointer (some ⟨U, 0, none⟩), .int .i64 (q : Int), .agg #[.int .i64 f, .int .i64 s, .int .i64 r]] W (InsP w T U g) := by
  cases hm : mayIns f s r
  · refine (tins_may W U q f s r hq hm).mono ?_
    rintro x W' ⟨rfl, hb⟩
    exact ⟨_, tg, rfl, ht, h.under hb⟩
  · by_cases hz : tg (q * 3 + 2) = 0
    · refine (tins_ok W U q f s r tg hq hm h.tab hz).mono ?_
      rintro x W' ⟨rfl, h1, h2⟩
      exact ⟨_, _, rfl, ht.put hm, h.setU h1 h2⟩
    · refine (tins_busy W U q f s r tg hq hm h.tab hz).mono ?_
      rintro x W' ⟨rfl, hb⟩
      exact ⟨_, tg, rfl, ht, h.under hb⟩
theorem uw_fill {n : Int} (e p f r : Int) (h : UW w T U g tg W) (hv : VU g) (h40 : 0 ≤ g 40 ∧ g 40 ≤ n) (hn : n ≤ 900) :
    Calls Tryz.prog 37 #[.pointer (some ⟨T, 0, none⟩), .agg #[.int .i64 e, .int .i64 p, .int .i64 f, .int .i64 r]] W fun x W' => ∃ b g', x = .returned (.bool b) ∧ VU g' ∧ 0 ≤ g' 40 ∧ g' 40 ≤ n + 1 ∧ UW w T U g' tg W' := by
  refine (tfill_vu T g e p f r n W h.nums hv h40 (by omega)).mono ?_
  rintro x W' ⟨b, g', rfl, h1, h2, h3, h4, h5⟩
  exact ⟨b, g', rfl, h2, h3, h4, h.setT h1 h5⟩
end
set_option maxRecDepth 100000 in
set_option maxHeartbeats 8000000 in
theorem uwalk_any (H : UserC) (ao : Option Addr) (a : Addr) (len cap : Nat) (bo : Option Addr) (b : Addr) (blen bcap : Nat) (e0 p0 kd : Int) (w : World) (ha : LnsAt w ao a len) (hb : PtsAt w bo b blen) (hbeg : BegunAt11 w) :
    Calls Tryz.prog 6 #[.slice ao len cap, .slice bo blen bcap, .int .i64 e0, .int .i64 p0, .int .i64 kd] w fun e w' => e = .returned (.bool true) ∧ Below w.heap.size w w' := by
  have HB := Lib.hid hbeg
  have HH := Lib.hid H
  have HA := Lib.hid ha
  have HC := Lib.hid hb
  clear hbeg H ha hb
  have m1 := Int.lt_tmod_of_pos e0 (show (0 : Int) < 4 by omega)
  have m2 := Int.tmod_lt_of_pos e0 (show (0 : Int) < 4 by omega)
  have m3 := Int.lt_tmod_of_pos p0 (show (0 : Int) < 8 by omega)
  have m4 := Int.tmod_lt_of_pos p0 (show (0 : Int) < 8 by omega)
  obtain ⟨e, he⟩ : ∃ e : Nat, (e0.tmod 4 + 4) % 4 = (e : Int) := ⟨((e0.tmod 4 + 4) % 4).toNat, by omega⟩
  obtain ⟨p, hp⟩ : ∃ p : Nat, (p0.tmod 8 + 8) % 8 = (p : Int) := ⟨((p0.tmod 8 + 8) % 8).toNat, by omega⟩
  have he4 : e < 4 := by omega
  have hp8 : p < 8 := by omega
  go_enter Tryz.func6, Tryz.ntmps6
  go_wp2_with fail
  refine HB.out.mono ?_
  rintro x w1 ⟨rfl, hb1⟩
  have B1 := Lib.hid hb1
  clear hb1 HB
  go_wp2_with fail
  refine (tlb_new w1).mono ?_
  rintro x w2 ⟨rfl, hb2, hn2⟩
  obtain ⟨T, hT⟩ : ∃ T, T = w1.heap.size := ⟨_, rfl⟩
  rw [← hT] at hn2 ⊢
  have B2 := Lib.hid (bl_trans B1.out hb2)
  have N2 := Lib.hid hn2
  have hTw : w.heap.size ≤ T := by have := B1.out.size; omega
  clear hb2 hn2 hT B1
  go_wp2_with fail
  refine (tab_new w2).mono ?_
  rintro x w3 ⟨rfl, hb3, ht3⟩
  obtain ⟨U, hU⟩ : ∃ U, U = w2.heap.size := ⟨_, rfl⟩
  rw [← hU] at ht3 ⊢
  have U3 : Hid (UW w T U (fun _ => 0) (fun _ => 0) w3) := ⟨N2.out.later hb3, ht3, by have := N2.out.2.2; omega, hTw, by have := B2.out.size; omega, bl_trans B2.out hb3⟩
  clear hb3 ht3 hU N2 B2 hTw
  go_upto_block 0 with (fail)
  go_cut [14] (fun _ W => ∃ g, VU g ∧ 0 ≤ g 40 ∧ g 40 ≤ 12 ∧ UW w T U g (fun _ => 0) W)
  case first =>
    go_wp2_with fail
    go_loopw [14] (fun iv W => ∃ (i : Nat) (g : Nat → Int), iv = .int .i64 i ∧ i ≤ len ∧ i ≤ 12 ∧ VU g ∧ 0 ≤ g 40 ∧ g 40 ≤ (i : Int) ∧ UW w T U g (fun _ => 0) W) (fun iv _ => (12 - intOf iv).toNat)
    case atStart => exact ⟨0, _, rfl, by omega, by omega, VU.start, by decide, by decide, U3.out⟩
    case round =>
      clear U3
      obtain ⟨i, g, rfl, hil, hi12, hv, h40, h41, h⟩ := hrel
      have HU := Lib.hid h
      have HV := Lib.hid hv
      have HG := Lib.hid (And.intro h40 h41)
      clear h hv h40 h41
      have i0 : (0 : Int) ≤ (i : Int) := by omega
      rcases (show (i < len ∧ i < 12) ∨ ¬ i < len ∨ (i < len ∧ ¬ i < 12) by omega) with ⟨h1, h2⟩ | h1 | ⟨h1, h2⟩
      · obtain rfl : ao = some a := HA.out.1 (by omega)
        have i1 : (i : Int) < (len : Int) := by omega
        have i2 : (i : Int) < 12 := by omega
        obtain ⟨y0, y1, y2, y3, hq⟩ := HA.out.2 i h1
        have hq := hq.later HU.out.below
        have q0 := hq.c0
        have q1 := hq.c1
        have q2 := hq.c2
        have q3 := hq.c3
        clear hq
        go_wp2_with fail
        refine (uw_fill (n := (i : Int)) y0 y1 y2 y3 HU.out HV.out HG.out (by omega)).mono ?_
        rintro x w4 ⟨bb, g', rfl, h3, h4, h5, h6⟩
        have HU4 := Lib.hid h6
        have HV4 := Lib.hid h3
        have HG4 := Lib.hid (And.intro h4 h5)
        clear h3 h4 h5 h6 HU q0 q1 q2 q3
        go_wp2_with fail
        go_roundw
        case rel => exact ⟨i + 1, g', by go_num, by omega, by omega, HV4.out, HG4.out.1, by have := HG4.out.2; omega, HU4.out⟩
        case measure => simp [intOf]; omega
      · have i1 : ¬ (i : Int) < (len : Int) := by omega
        go_wp2_with fail
        go_meet
        case rel => exact ⟨g, HV.out, HG.out.1, by have := HG.out.2; omega, HU.out⟩
      · have i1 : (i : Int) < (len : Int) := by omega
        have i2 : ¬ (i : Int) < 12 := by omega
        go_wp2_with fail
        go_meet
        case rel => exact ⟨g, HV.out, HG.out.1, by have := HG.out.2; omega, HU.out⟩
  case rest =>
    obtain ⟨g, hv, h40, h41, h⟩ := hcut
    have HV := Lib.hid hv
    have HG := Lib.hid (And.intro h40 h41)
    have U4 := Lib.hid h
    clear hv h40 h41 h U3
    go_upto_block 2 with (fail)
    go_cut [15] (fun _ W => ∃ tg, TabOk tg ∧ UW w T U g tg W)
    case first =>
      go_wp2_with fail
      go_loopw [15] (fun iv W => ∃ (i : Nat) (tg : Nat → Int), iv = .int .i64 i ∧ i ≤ blen ∧ i ≤ 8 ∧ TabOk tg ∧ UW w T U g tg W) (fun iv _ => (8 - intOf iv).toNat)
      case atStart => exact ⟨0, _, rfl, by omega, by omega, TabOk.new, U4.out⟩
      case round =>
        clear U4
        obtain ⟨i, tg, rfl, hil, hi8, hv, h⟩ := hrel
        have HU := Lib.hid h
        have HTK := Lib.hid hv
        clear h hv
        have i0 : (0 : Int) ≤ (i : Int) := by omega
        rcases (show (i < blen ∧ i < 8) ∨ ¬ i < blen ∨ (i < blen ∧ ¬ i < 8) by omega) with ⟨h1, h2⟩ | h1 | ⟨h1, h2⟩
        · obtain rfl : bo = some b := HC.out.1 (by omega)
          have i1 : (i : Int) < (blen : Int) := by omega
          have i2 : (i : Int) < 8 := by omega
          obtain ⟨y0, y1, y2, hq⟩ := HC.out.2 i h1
          have hq := hq.later HU.out.below
          have q0 := hq.c0
          have q1 := hq.c1
          have q2 := hq.c2
          clear hq
          go_wp2_with fail
          refine (uw_insert h2 y0 y1 y2 HU.out HTK.out).mono ?_
          rintro x w4 ⟨nn, tg', rfl, h3, h4⟩
          have HU4 := Lib.hid h4
          have HTK4 := Lib.hid h3
          clear h3 h4 HU q0 q1 q2
          go_wp2_with fail
          go_roundw
          case rel => exact ⟨i + 1, tg', by go_num, by omega, by omega, HTK4.out, HU4.out⟩
          case measure => simp [intOf]; omega
        · have i1 : ¬ (i : Int) < (blen : Int) := by omega
          go_wp2_with fail
          go_meet
          case rel => exact ⟨tg, HTK.out, HU.out⟩
        · have i1 : (i : Int) < (blen : Int) := by omega
          have i2 : ¬ (i : Int) < 8 := by omega
          go_wp2_with fail
          go_meet
          case rel => exact ⟨tg, HTK.out, HU.out⟩
    case rest =>
      obtain ⟨tg, hv, h⟩ := hcut
      have HTK := Lib.hid hv
      have U5 := Lib.hid h
      clear hv h U4
      go_upto_region 14 with (fail)
      simp only [he, hp]
      generalize (e0.tmod 4 + 4) % 4 = u1 at he
      generalize (p0.tmod 8 + 8) % 8 = u2 at hp
      generalize e0.tmod 4 + 4 = u3
      generalize e0.tmod 4 = u4 at m1 m2
      generalize p0.tmod 8 + 8 = u5
      generalize p0.tmod 8 = u6 at m3 m4
      clear m1 m2 m3 m4 he hp
      have hTU := U5.out.ne
      have HBO := Lib.hid (HV.out.ok HG.out.1 (by have := HG.out.2; omega))
      have S5 : Hid (Side w _ [bufT T g, tbT U tg]) := U5.out.side
      clear U5
      rcases first_or (hitB g (e : Int) (p : Int)) 8 with ⟨n, hn8, hit, hno⟩ | hno
      · have HPG := Lib.hid (HV.out.page hn8 hit)
        have HIT := Lib.hid hit
        have HNO := Lib.hid hno
        have HONE := Lib.hid (HV.out.one hn8 hit)
        have HWH := Lib.hid (show whereN g (e : Int) (p : Int) = n from fstN_hit hit hno 8 hn8)
        obtain ⟨x0, h0⟩ : ∃ x, g (n * 5) = x := ⟨_, rfl⟩
        obtain ⟨x1, h1⟩ : ∃ x, g (n * 5 + 1) = x := ⟨_, rfl⟩
        obtain ⟨x2, h2⟩ : ∃ x, g (n * 5 + 2) = x := ⟨_, rfl⟩
        obtain ⟨x3, h3⟩ : ∃ x, g (n * 5 + 3) = x := ⟨_, rfl⟩
        have HL := Lib.hid (And.intro h0 (And.intro h1 (And.intro h2 h3)))
        clear hit hno h0 h1 h2 h3
        cases hlet : withinB (needN kd) x3
        · have HLET := Lib.hid hlet
          clear hlet
          rcases (show tg (p * 3 + 2) = 0 ∨ ¬ tg (p * 3 + 2) = 0 by omega) with hz | hz
          · have HT := Lib.hid hz
            have HTL := Lib.hid (show withinB (needN kd) 0 = false by unfold withinB mayB; simp)
            clear hz
            as_aux_lemma =>
              have HW : Hid (walkS g tg (e : Int) (p : Int) kd = ((clearG g n), (0, 0, 0, 0), false)) := by
                show walkS g tg (e : Int) (p : Int) kd = _
                unfold walkS
                rw [if_neg (fun hc => by have h := hc.2; rw [HWH.out, HL.out.2.2.2, HLET.out] at h; exact absurd h (by decide)), Int.toNat_natCast]
                rw [HT.out, if_neg (by rw [HTL.out]; decide)]
                unfold flushS
                rw [HWH.out, if_pos hn8]
              go_wp2_with fail
              refine (tfind_any T g (e : Int) (p : Int) _ (Side.at [] S5.out) n hn8 HPG.out HIT.out HNO.out HL.out).mono ?_
              rintro x w6 ⟨rfl, hb⟩
              have S6 := Lib.hid ((S5.out.under hb).box (.cells #[.int .i64 x0, .int .i64 x1, .int .i64 x2, .int .i64 x3] 78))
              clear hb
              go_wp2_with fail
              refine (tat_none _ U p tg hp8 (Side.at [fixT w6.heap.size (.cells #[.int .i64 x0, .int .i64 x1, .int .i64 x2, .int .i64 x3] 78), bufT T g] S6.out) HT.out).mono ?_
              rintro x w7 ⟨rfl, hb⟩
              have S7 := Lib.hid ((S6.out.under hb).box (.cells #[.int .i64 0, .int .i64 0, .int .i64 0] 39))
              clear hb
              have HWK := Lib.hid (HH.out.walk_ T U g tg (e : Int) (p : Int) kd _ (Side.at [fixT w7.heap.size (.cells #[.int .i64 0, .int .i64 0, .int .i64 0] 39), fixT w6.heap.size (.cells #[.int .i64 x0, .int .i64 x1, .int .i64 x2, .int .i64 x3] 78)] S7.out) HBO.out (Side.at [fixT w7.heap.size (.cells #[.int .i64 0, .int .i64 0, .int .i64 0] 39), fixT w6.heap.size (.cells #[.int .i64 x0, .int .i64 x1, .int .i64 x2, .int .i64 x3] 78), bufT T g] S7.out) HTK.out hTU ⟨by omega, by omega⟩ ⟨by omega, by omega⟩)
              rw [HW.out] at HWK
              dsimp only at HWK
              go_wp2_with fail
              refine HWK.out.mono ?_
              rintro x w8 ⟨rfl, hn, ho⟩
              have S8 := Lib.hid ((Side.step (o := bufT T g) (bufT T (clearG g n)) hn (fun _ h => Or.inl h) (only_T ho) [fixT w7.heap.size (.cells #[.int .i64 0, .int .i64 0, .int .i64 0] 39), fixT w6.heap.size (.cells #[.int .i64 x0, .int .i64 x1, .int .i64 x2, .int .i64 x3] 78)] S7.out).box (.cells #[.int .i64 0, .int .i64 0, .int .i64 0, .int .i64 0] 78))
              clear hn ho HWK
              go_wp2_with fail
              refine (tfind_no T (clearG g n) (e : Int) (p : Int) _ (Side.at [fixT w8.heap.size (.cells #[.int .i64 0, .int .i64 0, .int .i64 0, .int .i64 0] 78), fixT w7.heap.size (.cells #[.int .i64 0, .int .i64 0, .int .i64 0] 39), fixT w6.heap.size (.cells #[.int .i64 x0, .int .i64 x1, .int .i64 x2, .int .i64 x3] 78)] S8.out) (clear_find HONE.out)).mono ?_
              rintro x w9 ⟨rfl, hb⟩
              have S9 := Lib.hid ((S8.out.under hb).box (.cells #[.int .i64 0, .int .i64 0, .int .i64 0, .int .i64 0] 78))
              clear hb S5 S6 S7 S8
              have ka := S9.out.1
              have ka0 := bk_cell ka 0
              have ka1 := bk_cell ka 1
              have ka2 := bk_cell ka 2
              have ka3 := bk_cell ka 3
              have lka := bk_lt ka
              clear ka
              have kb := S9.out.2.2.2.1
              have kb0 := bk_cell kb 0
              have kb1 := bk_cell kb 1
              have kb2 := bk_cell kb 2
              have kb3 := bk_cell kb 3
              have lkb := bk_lt kb
              clear kb
              have kc := S9.out.2.2.2.2.2.2.1
              have kc0 := bk_cell kc 0
              have kc1 := bk_cell kc 1
              have kc2 := bk_cell kc 2
              have lkc := bk_lt kc
              clear kc
              have ke := S9.out.2.2.2.2.2.2.2.2.2.1
              have ke0 := bk_cell ke 0
              have ke1 := bk_cell ke 1
              have ke2 := bk_cell ke 2
              have ke3 := bk_cell ke 3
              have lke := bk_lt ke
              clear ke
              go_wp2_with fail
              refine (ref_lets_any x3 kd _).mono ?_
              rintro x v1 ⟨rfl, hv1⟩
              rw [HLET.out]
              subst hv1
              go_wp2_with fail
              go_ret
              exact ⟨rfl, S9.out.below⟩
          · obtain ⟨f0, h0⟩ : ∃ x, tg (p * 3) = x := ⟨_, rfl⟩
            obtain ⟨f1, h1⟩ : ∃ x, tg (p * 3 + 1) = x := ⟨_, rfl⟩
            obtain ⟨f2, h2⟩ : ∃ x, tg (p * 3 + 2) = x := ⟨_, rfl⟩
            have hok := (HTK.out p hp8).resolve_left hz
            rw [h2] at hz
            rw [h0, h2] at hok
            have HTZ := Lib.hid hz
            have HLB := Lib.hid (show lineB (e : Int) (p : Int) f0 f2 = true from decide_eq_true ⟨⟨by omega, by omega⟩, ⟨by omega, by omega⟩, hok.1, hok.2⟩)
            have HT := Lib.hid (And.intro h0 (And.intro h1 h2))
            clear h0 h1 h2 hz hok
            cases hw : withinB (needN kd) f2
            · have HTL := Lib.hid hw
              clear hw
              as_aux_lemma =>
                have HW : Hid (walkS g tg (e : Int) (p : Int) kd = ((clearG g n), (0, 0, 0, 0), false)) := by
                  show walkS g tg (e : Int) (p : Int) kd = _
                  unfold walkS
                  rw [if_neg (fun hc => by have h := hc.2; rw [HWH.out, HL.out.2.2.2, HLET.out] at h; exact absurd h (by decide)), Int.toNat_natCast]
                  rw [HT.out.2.2, if_neg (by rw [HTL.out]; decide)]
                  unfold flushS
                  rw [HWH.out, if_pos hn8]
                go_wp2_with fail
                refine (tfind_any T g (e : Int) (p : Int) _ (Side.at [] S5.out) n hn8 HPG.out HIT.out HNO.out HL.out).mono ?_
                rintro x w6 ⟨rfl, hb⟩
                have S6 := Lib.hid ((S5.out.under hb).box (.cells #[.int .i64 x0, .int .i64 x1, .int .i64 x2, .int .i64 x3] 78))
                clear hb
                go_wp2_with fail
                refine (tat_ok _ U p tg hp8 (Side.at [fixT w6.heap.size (.cells #[.int .i64 x0, .int .i64 x1, .int .i64 x2, .int .i64 x3] 78), bufT T g] S6.out) (by rw [HT.out.2.2]; exact HTZ.out)).mono ?_
                rw [HT.out.1, HT.out.2.1, HT.out.2.2]
                rintro x w7 ⟨rfl, hb⟩
                have S7 := Lib.hid ((S6.out.under hb).box (.cells #[.int .i64 f0, .int .i64 f1, .int .i64 f2] 39))
                clear hb
                have HWK := Lib.hid (HH.out.walk_ T U g tg (e : Int) (p : Int) kd _ (Side.at [fixT w7.heap.size (.cells #[.int .i64 f0, .int .i64 f1, .int .i64 f2] 39), fixT w6.heap.size (.cells #[.int .i64 x0, .int .i64 x1, .int .i64 x2, .int .i64 x3] 78)] S7.out) HBO.out (Side.at [fixT w7.heap.size (.cells #[.int .i64 f0, .int .i64 f1, .int .i64 f2] 39), fixT w6.heap.size (.cells #[.int .i64 x0, .int .i64 x1, .int .i64 x2, .int .i64 x3] 78), bufT T g] S7.out) HTK.out hTU ⟨by omega, by omega⟩ ⟨by omega, by omega⟩)
                rw [HW.out] at HWK
                dsimp only at HWK
                go_wp2_with fail
                refine HWK.out.mono ?_
                rintro x w8 ⟨rfl, hn, ho⟩
                have S8 := Lib.hid ((Side.step (o := bufT T g) (bufT T (clearG g n)) hn (fun _ h => Or.inl h) (only_T ho) [fixT w7.heap.size (.cells #[.int .i64 f0, .int .i64 f1, .int .i64 f2] 39), fixT w6.heap.size (.cells #[.int .i64 x0, .int .i64 x1, .int .i64 x2, .int .i64 x3] 78)] S7.out).box (.cells #[.int .i64 0, .int .i64 0, .int .i64 0, .int .i64 0] 78))
                clear hn ho HWK
                go_wp2_with fail
                refine (tfind_no T (clearG g n) (e : Int) (p : Int) _ (Side.at [fixT w8.heap.size (.cells #[.int .i64 0, .int .i64 0, .int .i64 0, .int .i64 0] 78), fixT w7.heap.size (.cells #[.int .i64 f0, .int .i64 f1, .int .i64 f2] 39), fixT w6.heap.size (.cells #[.int .i64 x0, .int .i64 x1, .int .i64 x2, .int .i64 x3] 78)] S8.out) (clear_find HONE.out)).mono ?_
                rintro x w9 ⟨rfl, hb⟩
                have S9 := Lib.hid ((S8.out.under hb).box (.cells #[.int .i64 0, .int .i64 0, .int .i64 0, .int .i64 0] 78))
                clear hb S5 S6 S7 S8
                have ka := S9.out.1
                have ka0 := bk_cell ka 0
                have ka1 := bk_cell ka 1
                have ka2 := bk_cell ka 2
                have ka3 := bk_cell ka 3
                have lka := bk_lt ka
                clear ka
                have kb := S9.out.2.2.2.1
                have kb0 := bk_cell kb 0
                have kb1 := bk_cell kb 1
                have kb2 := bk_cell kb 2
                have kb3 := bk_cell kb 3
                have lkb := bk_lt kb
                clear kb
                have kc := S9.out.2.2.2.2.2.2.1
                have kc0 := bk_cell kc 0
                have kc1 := bk_cell kc 1
                have kc2 := bk_cell kc 2
                have lkc := bk_lt kc
                clear kc
                have ke := S9.out.2.2.2.2.2.2.2.2.2.1
                have ke0 := bk_cell ke 0
                have ke1 := bk_cell ke 1
                have ke2 := bk_cell ke 2
                have ke3 := bk_cell ke 3
                have lke := bk_lt ke
                clear ke
                go_wp2_with fail
                refine (ref_lets_any x3 kd _).mono ?_
                rintro x v1 ⟨rfl, hv1⟩
                rw [HLET.out]
                subst hv1
                go_wp2_with fail
                refine (ref_lets_any f2 kd _).mono ?_
                rintro x v1 ⟨rfl, hv1⟩
                rw [HTL.out]
                subst hv1
                go_wp2_with fail
                go_ret
                exact ⟨rfl, S9.out.below⟩
            · have HTL := Lib.hid hw
              clear hw
              have HFF := Lib.hid (fill_find (g := g) (k := n) (e := (e : Int)) (p := (p : Int)) f0 f2 HG.out.1 HONE.out)
              obtain ⟨K, hK⟩ : ∃ K, K = n := ⟨_, rfl⟩
              rw [← hK] at HFF
              have HK8 := Lib.hid (show K < 8 by rw [hK]; exact hn8)
              have HPK := Lib.hid (show 0 ≤ (p : Int) ∧ (p : Int) < 8 ∧ (p : Int) % 4 = ((K / 2 : Nat) : Int) by rw [hK]; exact HPG.out)
              have HFO := Lib.hid (let h := fillG_own g K (e : Int) (p : Int) f0 f2; And.intro h.1 (And.intro h.2.1 (And.intro h.2.2.1 h.2.2.2.1)))
              have HKN := Lib.hid hK
              clear hK
              as_aux_lemma =>
                have HW : Hid (walkS g tg (e : Int) (p : Int) kd = ((fillG g K (e : Int) (p : Int) f0 f2), ((e : Int), (p : Int), f0, f2), true)) := by
                  show walkS g tg (e : Int) (p : Int) kd = _
                  unfold walkS
                  rw [if_neg (fun hc => by have h := hc.2; rw [HWH.out, HL.out.2.2.2, HLET.out] at h; exact absurd h (by decide)), Int.toNat_natCast]
                  rw [HT.out.2.2, HT.out.1, if_pos HTL.out]
                  unfold fillS
                  rw [if_pos HLB.out, HWH.out, if_pos hn8, HKN.out]
                go_wp2_with fail
                refine (tfind_any T g (e : Int) (p : Int) _ (Side.at [] S5.out) n hn8 HPG.out HIT.out HNO.out HL.out).mono ?_
                rintro x w6 ⟨rfl, hb⟩
                have S6 := Lib.hid ((S5.out.under hb).box (.cells #[.int .i64 x0, .int .i64 x1, .int .i64 x2, .int .i64 x3] 78))
                clear hb
                go_wp2_with fail
                refine (tat_ok _ U p tg hp8 (Side.at [fixT w6.heap.size (.cells #[.int .i64 x0, .int .i64 x1, .int .i64 x2, .int .i64 x3] 78), bufT T g] S6.out) (by rw [HT.out.2.2]; exact HTZ.out)).mono ?_
                rw [HT.out.1, HT.out.2.1, HT.out.2.2]
                rintro x w7 ⟨rfl, hb⟩
                have S7 := Lib.hid ((S6.out.under hb).box (.cells #[.int .i64 f0, .int .i64 f1, .int .i64 f2] 39))
                clear hb
                have HWK := Lib.hid (HH.out.walk_ T U g tg (e : Int) (p : Int) kd _ (Side.at [fixT w7.heap.size (.cells #[.int .i64 f0, .int .i64 f1, .int .i64 f2] 39), fixT w6.heap.size (.cells #[.int .i64 x0, .int .i64 x1, .int .i64 x2, .int .i64 x3] 78)] S7.out) HBO.out (Side.at [fixT w7.heap.size (.cells #[.int .i64 f0, .int .i64 f1, .int .i64 f2] 39), fixT w6.heap.size (.cells #[.int .i64 x0, .int .i64 x1, .int .i64 x2, .int .i64 x3] 78), bufT T g] S7.out) HTK.out hTU ⟨by omega, by omega⟩ ⟨by omega, by omega⟩)
                rw [HW.out] at HWK
                dsimp only at HWK
                go_wp2_with fail
                refine HWK.out.mono ?_
                rintro x w8 ⟨rfl, hn, ho⟩
                have S8 := Lib.hid ((Side.step (o := bufT T g) (bufT T (fillG g K (e : Int) (p : Int) f0 f2)) hn (fun _ h => Or.inl h) (only_T ho) [fixT w7.heap.size (.cells #[.int .i64 f0, .int .i64 f1, .int .i64 f2] 39), fixT w6.heap.size (.cells #[.int .i64 x0, .int .i64 x1, .int .i64 x2, .int .i64 x3] 78)] S7.out).box (.cells #[.int .i64 (e : Int), .int .i64 (p : Int), .int .i64 f0, .int .i64 f2] 78))
                clear hn ho HWK
                go_wp2_with fail
                refine (tfind_any T (fillG g K (e : Int) (p : Int) f0 f2) (e : Int) (p : Int) _ (Side.at [fixT w8.heap.size (.cells #[.int .i64 (e : Int), .int .i64 (p : Int), .int .i64 f0, .int .i64 f2] 78), fixT w7.heap.size (.cells #[.int .i64 f0, .int .i64 f1, .int .i64 f2] 39), fixT w6.heap.size (.cells #[.int .i64 x0, .int .i64 x1, .int .i64 x2, .int .i64 x3] 78)] S8.out) K HK8.out HPK.out HFF.out.1 (fun j hj => HFF.out.2 j (by have := HK8.out; omega) (by omega)) HFO.out).mono ?_
                rintro x w9 ⟨rfl, hb⟩
                have S9 := Lib.hid ((S8.out.under hb).box (.cells #[.int .i64 (e : Int), .int .i64 (p : Int), .int .i64 f0, .int .i64 f2] 78))
                clear hb S5 S6 S7 S8
                have ka := S9.out.1
                have ka0 := bk_cell ka 0
                have ka1 := bk_cell ka 1
                have ka2 := bk_cell ka 2
                have ka3 := bk_cell ka 3
                have lka := bk_lt ka
                clear ka
                have kb := S9.out.2.2.2.1
                have kb0 := bk_cell kb 0
                have kb1 := bk_cell kb 1
                have kb2 := bk_cell kb 2
                have kb3 := bk_cell kb 3
                have lkb := bk_lt kb
                clear kb
                have kc := S9.out.2.2.2.2.2.2.1
                have kc0 := bk_cell kc 0
                have kc1 := bk_cell kc 1
                have kc2 := bk_cell kc 2
                have lkc := bk_lt kc
                clear kc
                have ke := S9.out.2.2.2.2.2.2.2.2.2.1
                have ke0 := bk_cell ke 0
                have ke1 := bk_cell ke 1
                have ke2 := bk_cell ke 2
                have ke3 := bk_cell ke 3
                have lke := bk_lt ke
                clear ke
                go_wp2_with fail
                refine (ref_lets_any x3 kd _).mono ?_
                rintro x v1 ⟨rfl, hv1⟩
                rw [HLET.out]
                subst hv1
                go_wp2_with fail
                refine (ref_lets_any f2 kd _).mono ?_
                rintro x v1 ⟨rfl, hv1⟩
                rw [HTL.out]
                subst hv1
                go_wp2_with fail
                go_ret
                exact ⟨rfl, S9.out.below⟩
        · have HLET := Lib.hid hlet
          clear hlet
          rcases (show tg (p * 3 + 2) = 0 ∨ ¬ tg (p * 3 + 2) = 0 by omega) with hz | hz
          · have HT := Lib.hid hz
            clear hz
            as_aux_lemma =>
              have HW : Hid (walkS g tg (e : Int) (p : Int) kd = (g, (x0, x1, x2, x3), true)) := by
                show walkS g tg (e : Int) (p : Int) kd = _
                unfold walkS
                rw [HWH.out, if_pos ⟨hn8, by rw [HL.out.2.2.2]; exact HLET.out⟩, HL.out.1, HL.out.2.1, HL.out.2.2.1, HL.out.2.2.2]
              go_wp2_with fail
              refine (tfind_any T g (e : Int) (p : Int) _ (Side.at [] S5.out) n hn8 HPG.out HIT.out HNO.out HL.out).mono ?_
              rintro x w6 ⟨rfl, hb⟩
              have S6 := Lib.hid ((S5.out.under hb).box (.cells #[.int .i64 x0, .int .i64 x1, .int .i64 x2, .int .i64 x3] 78))
              clear hb
              go_wp2_with fail
              refine (tat_none _ U p tg hp8 (Side.at [fixT w6.heap.size (.cells #[.int .i64 x0, .int .i64 x1, .int .i64 x2, .int .i64 x3] 78), bufT T g] S6.out) HT.out).mono ?_
              rintro x w7 ⟨rfl, hb⟩
              have S7 := Lib.hid ((S6.out.under hb).box (.cells #[.int .i64 0, .int .i64 0, .int .i64 0] 39))
              clear hb
              have HWK := Lib.hid (HH.out.walk_ T U g tg (e : Int) (p : Int) kd _ (Side.at [fixT w7.heap.size (.cells #[.int .i64 0, .int .i64 0, .int .i64 0] 39), fixT w6.heap.size (.cells #[.int .i64 x0, .int .i64 x1, .int .i64 x2, .int .i64 x3] 78)] S7.out) HBO.out (Side.at [fixT w7.heap.size (.cells #[.int .i64 0, .int .i64 0, .int .i64 0] 39), fixT w6.heap.size (.cells #[.int .i64 x0, .int .i64 x1, .int .i64 x2, .int .i64 x3] 78), bufT T g] S7.out) HTK.out hTU ⟨by omega, by omega⟩ ⟨by omega, by omega⟩)
              rw [HW.out] at HWK
              dsimp only at HWK
              go_wp2_with fail
              refine HWK.out.mono ?_
              rintro x w8 ⟨rfl, hn, ho⟩
              have S8 := Lib.hid ((Side.step (o := bufT T g) (bufT T g) hn (fun _ h => Or.inl h) (only_T ho) [fixT w7.heap.size (.cells #[.int .i64 0, .int .i64 0, .int .i64 0] 39), fixT w6.heap.size (.cells #[.int .i64 x0, .int .i64 x1, .int .i64 x2, .int .i64 x3] 78)] S7.out).box (.cells #[.int .i64 x0, .int .i64 x1, .int .i64 x2, .int .i64 x3] 78))
              clear hn ho HWK
              go_wp2_with fail
              refine (tfind_any T g (e : Int) (p : Int) _ (Side.at [fixT w8.heap.size (.cells #[.int .i64 x0, .int .i64 x1, .int .i64 x2, .int .i64 x3] 78), fixT w7.heap.size (.cells #[.int .i64 0, .int .i64 0, .int .i64 0] 39), fixT w6.heap.size (.cells #[.int .i64 x0, .int .i64 x1, .int .i64 x2, .int .i64 x3] 78)] S8.out) n hn8 HPG.out HIT.out HNO.out HL.out).mono ?_
              rintro x w9 ⟨rfl, hb⟩
              have S9 := Lib.hid ((S8.out.under hb).box (.cells #[.int .i64 x0, .int .i64 x1, .int .i64 x2, .int .i64 x3] 78))
              clear hb S5 S6 S7 S8
              have ka := S9.out.1
              have ka0 := bk_cell ka 0
              have ka1 := bk_cell ka 1
              have ka2 := bk_cell ka 2
              have ka3 := bk_cell ka 3
              have lka := bk_lt ka
              clear ka
              have kb := S9.out.2.2.2.1
              have kb0 := bk_cell kb 0
              have kb1 := bk_cell kb 1
              have kb2 := bk_cell kb 2
              have kb3 := bk_cell kb 3
              have lkb := bk_lt kb
              clear kb
              have kc := S9.out.2.2.2.2.2.2.1
              have kc0 := bk_cell kc 0
              have kc1 := bk_cell kc 1
              have kc2 := bk_cell kc 2
              have lkc := bk_lt kc
              clear kc
              have ke := S9.out.2.2.2.2.2.2.2.2.2.1
              have ke0 := bk_cell ke 0
              have ke1 := bk_cell ke 1
              have ke2 := bk_cell ke 2
              have ke3 := bk_cell ke 3
              have lke := bk_lt ke
              clear ke
              go_wp2_with fail
              refine (ref_lets_any x3 kd _).mono ?_
              rintro x v1 ⟨rfl, hv1⟩
              rw [HLET.out]
              subst hv1
              go_wp2_with fail
              go_ret
              exact ⟨rfl, S9.out.below⟩
          · obtain ⟨f0, h0⟩ : ∃ x, tg (p * 3) = x := ⟨_, rfl⟩
            obtain ⟨f1, h1⟩ : ∃ x, tg (p * 3 + 1) = x := ⟨_, rfl⟩
            obtain ⟨f2, h2⟩ : ∃ x, tg (p * 3 + 2) = x := ⟨_, rfl⟩
            have hok := (HTK.out p hp8).resolve_left hz
            rw [h2] at hz
            rw [h0, h2] at hok
            have HTZ := Lib.hid hz
            have HLB := Lib.hid (show lineB (e : Int) (p : Int) f0 f2 = true from decide_eq_true ⟨⟨by omega, by omega⟩, ⟨by omega, by omega⟩, hok.1, hok.2⟩)
            have HT := Lib.hid (And.intro h0 (And.intro h1 h2))
            clear h0 h1 h2 hz hok
            as_aux_lemma =>
              have HW : Hid (walkS g tg (e : Int) (p : Int) kd = (g, (x0, x1, x2, x3), true)) := by
                show walkS g tg (e : Int) (p : Int) kd = _
                unfold walkS
                rw [HWH.out, if_pos ⟨hn8, by rw [HL.out.2.2.2]; exact HLET.out⟩, HL.out.1, HL.out.2.1, HL.out.2.2.1, HL.out.2.2.2]
              go_wp2_with fail
              refine (tfind_any T g (e : Int) (p : Int) _ (Side.at [] S5.out) n hn8 HPG.out HIT.out HNO.out HL.out).mono ?_
              rintro x w6 ⟨rfl, hb⟩
              have S6 := Lib.hid ((S5.out.under hb).box (.cells #[.int .i64 x0, .int .i64 x1, .int .i64 x2, .int .i64 x3] 78))
              clear hb
              go_wp2_with fail
              refine (tat_ok _ U p tg hp8 (Side.at [fixT w6.heap.size (.cells #[.int .i64 x0, .int .i64 x1, .int .i64 x2, .int .i64 x3] 78), bufT T g] S6.out) (by rw [HT.out.2.2]; exact HTZ.out)).mono ?_
              rw [HT.out.1, HT.out.2.1, HT.out.2.2]
              rintro x w7 ⟨rfl, hb⟩
              have S7 := Lib.hid ((S6.out.under hb).box (.cells #[.int .i64 f0, .int .i64 f1, .int .i64 f2] 39))
              clear hb
              have HWK := Lib.hid (HH.out.walk_ T U g tg (e : Int) (p : Int) kd _ (Side.at [fixT w7.heap.size (.cells #[.int .i64 f0, .int .i64 f1, .int .i64 f2] 39), fixT w6.heap.size (.cells #[.int .i64 x0, .int .i64 x1, .int .i64 x2, .int .i64 x3] 78)] S7.out) HBO.out (Side.at [fixT w7.heap.size (.cells #[.int .i64 f0, .int .i64 f1, .int .i64 f2] 39), fixT w6.heap.size (.cells #[.int .i64 x0, .int .i64 x1, .int .i64 x2, .int .i64 x3] 78), bufT T g] S7.out) HTK.out hTU ⟨by omega, by omega⟩ ⟨by omega, by omega⟩)
              rw [HW.out] at HWK
              dsimp only at HWK
              go_wp2_with fail
              refine HWK.out.mono ?_
              rintro x w8 ⟨rfl, hn, ho⟩
              have S8 := Lib.hid ((Side.step (o := bufT T g) (bufT T g) hn (fun _ h => Or.inl h) (only_T ho) [fixT w7.heap.size (.cells #[.int .i64 f0, .int .i64 f1, .int .i64 f2] 39), fixT w6.heap.size (.cells #[.int .i64 x0, .int .i64 x1, .int .i64 x2, .int .i64 x3] 78)] S7.out).box (.cells #[.int .i64 x0, .int .i64 x1, .int .i64 x2, .int .i64 x3] 78))
              clear hn ho HWK
              go_wp2_with fail
              refine (tfind_any T g (e : Int) (p : Int) _ (Side.at [fixT w8.heap.size (.cells #[.int .i64 x0, .int .i64 x1, .int .i64 x2, .int .i64 x3] 78), fixT w7.heap.size (.cells #[.int .i64 f0, .int .i64 f1, .int .i64 f2] 39), fixT w6.heap.size (.cells #[.int .i64 x0, .int .i64 x1, .int .i64 x2, .int .i64 x3] 78)] S8.out) n hn8 HPG.out HIT.out HNO.out HL.out).mono ?_
              rintro x w9 ⟨rfl, hb⟩
              have S9 := Lib.hid ((S8.out.under hb).box (.cells #[.int .i64 x0, .int .i64 x1, .int .i64 x2, .int .i64 x3] 78))
              clear hb S5 S6 S7 S8
              have ka := S9.out.1
              have ka0 := bk_cell ka 0
              have ka1 := bk_cell ka 1
              have ka2 := bk_cell ka 2
              have ka3 := bk_cell ka 3
              have lka := bk_lt ka
              clear ka
              have kb := S9.out.2.2.2.1
              have kb0 := bk_cell kb 0
              have kb1 := bk_cell kb 1
              have kb2 := bk_cell kb 2
              have kb3 := bk_cell kb 3
              have lkb := bk_lt kb
              clear kb
              have kc := S9.out.2.2.2.2.2.2.1
              have kc0 := bk_cell kc 0
              have kc1 := bk_cell kc 1
              have kc2 := bk_cell kc 2
              have lkc := bk_lt kc
              clear kc
              have ke := S9.out.2.2.2.2.2.2.2.2.2.1
              have ke0 := bk_cell ke 0
              have ke1 := bk_cell ke 1
              have ke2 := bk_cell ke 2
              have ke3 := bk_cell ke 3
              have lke := bk_lt ke
              clear ke
              go_wp2_with fail
              refine (ref_lets_any x3 kd _).mono ?_
              rintro x v1 ⟨rfl, hv1⟩
              rw [HLET.out]
              subst hv1
              go_wp2_with fail
              go_ret
              exact ⟨rfl, S9.out.below⟩
      · have HNO := Lib.hid hno
        have HWH := Lib.hid (show whereN g (e : Int) (p : Int) = 8 from fstN_none 8 hno)
        clear hno
        rcases (show tg (p * 3 + 2) = 0 ∨ ¬ tg (p * 3 + 2) = 0 by omega) with hz | hz
        · have HT := Lib.hid hz
          have HTL := Lib.hid (show withinB (needN kd) 0 = false by unfold withinB mayB; simp)
          clear hz
          as_aux_lemma =>
            have HW : Hid (walkS g tg (e : Int) (p : Int) kd = (g, (0, 0, 0, 0), false)) := by
              show walkS g tg (e : Int) (p : Int) kd = _
              unfold walkS
              rw [if_neg (fun hc => by have h := hc.1; rw [HWH.out] at h; exact absurd h (by decide)), Int.toNat_natCast]
              rw [HT.out, if_neg (by rw [HTL.out]; decide)]
              unfold flushS
              rw [HWH.out, if_neg (by decide)]
            go_wp2_with fail
            refine (tfind_no T g (e : Int) (p : Int) _ (Side.at [] S5.out) HNO.out).mono ?_
            rintro x w6 ⟨rfl, hb⟩
            have S6 := Lib.hid ((S5.out.under hb).box (.cells #[.int .i64 0, .int .i64 0, .int .i64 0, .int .i64 0] 78))
            clear hb
            go_wp2_with fail
            refine (tat_none _ U p tg hp8 (Side.at [fixT w6.heap.size (.cells #[.int .i64 0, .int .i64 0, .int .i64 0, .int .i64 0] 78), bufT T g] S6.out) HT.out).mono ?_
            rintro x w7 ⟨rfl, hb⟩
            have S7 := Lib.hid ((S6.out.under hb).box (.cells #[.int .i64 0, .int .i64 0, .int .i64 0] 39))
            clear hb
            have HWK := Lib.hid (HH.out.walk_ T U g tg (e : Int) (p : Int) kd _ (Side.at [fixT w7.heap.size (.cells #[.int .i64 0, .int .i64 0, .int .i64 0] 39), fixT w6.heap.size (.cells #[.int .i64 0, .int .i64 0, .int .i64 0, .int .i64 0] 78)] S7.out) HBO.out (Side.at [fixT w7.heap.size (.cells #[.int .i64 0, .int .i64 0, .int .i64 0] 39), fixT w6.heap.size (.cells #[.int .i64 0, .int .i64 0, .int .i64 0, .int .i64 0] 78), bufT T g] S7.out) HTK.out hTU ⟨by omega, by omega⟩ ⟨by omega, by omega⟩)
            rw [HW.out] at HWK
            dsimp only at HWK
            go_wp2_with fail
            refine HWK.out.mono ?_
            rintro x w8 ⟨rfl, hn, ho⟩
            have S8 := Lib.hid ((Side.step (o := bufT T g) (bufT T g) hn (fun _ h => Or.inl h) (only_T ho) [fixT w7.heap.size (.cells #[.int .i64 0, .int .i64 0, .int .i64 0] 39), fixT w6.heap.size (.cells #[.int .i64 0, .int .i64 0, .int .i64 0, .int .i64 0] 78)] S7.out).box (.cells #[.int .i64 0, .int .i64 0, .int .i64 0, .int .i64 0] 78))
            clear hn ho HWK
            go_wp2_with fail
            refine (tfind_no T g (e : Int) (p : Int) _ (Side.at [fixT w8.heap.size (.cells #[.int .i64 0, .int .i64 0, .int .i64 0, .int .i64 0] 78), fixT w7.heap.size (.cells #[.int .i64 0, .int .i64 0, .int .i64 0] 39), fixT w6.heap.size (.cells #[.int .i64 0, .int .i64 0, .int .i64 0, .int .i64 0] 78)] S8.out) HNO.out).mono ?_
            rintro x w9 ⟨rfl, hb⟩
            have S9 := Lib.hid ((S8.out.under hb).box (.cells #[.int .i64 0, .int .i64 0, .int .i64 0, .int .i64 0] 78))
            clear hb S5 S6 S7 S8
            have ka := S9.out.1
            have ka0 := bk_cell ka 0
            have ka1 := bk_cell ka 1
            have ka2 := bk_cell ka 2
            have ka3 := bk_cell ka 3
            have lka := bk_lt ka
            clear ka
            have kb := S9.out.2.2.2.1
            have kb0 := bk_cell kb 0
            have kb1 := bk_cell kb 1
            have kb2 := bk_cell kb 2
            have kb3 := bk_cell kb 3
            have lkb := bk_lt kb
            clear kb
            have kc := S9.out.2.2.2.2.2.2.1
            have kc0 := bk_cell kc 0
            have kc1 := bk_cell kc 1
            have kc2 := bk_cell kc 2
            have lkc := bk_lt kc
            clear kc
            have ke := S9.out.2.2.2.2.2.2.2.2.2.1
            have ke0 := bk_cell ke 0
            have ke1 := bk_cell ke 1
            have ke2 := bk_cell ke 2
            have ke3 := bk_cell ke 3
            have lke := bk_lt ke
            clear ke
            go_wp2_with fail
            go_ret
            exact ⟨rfl, S9.out.below⟩
        · obtain ⟨f0, h0⟩ : ∃ x, tg (p * 3) = x := ⟨_, rfl⟩
          obtain ⟨f1, h1⟩ : ∃ x, tg (p * 3 + 1) = x := ⟨_, rfl⟩
          obtain ⟨f2, h2⟩ : ∃ x, tg (p * 3 + 2) = x := ⟨_, rfl⟩
          have hok := (HTK.out p hp8).resolve_left hz
          rw [h2] at hz
          rw [h0, h2] at hok
          have HTZ := Lib.hid hz
          have HLB := Lib.hid (show lineB (e : Int) (p : Int) f0 f2 = true from decide_eq_true ⟨⟨by omega, by omega⟩, ⟨by omega, by omega⟩, hok.1, hok.2⟩)
          have HT := Lib.hid (And.intro h0 (And.intro h1 h2))
          clear h0 h1 h2 hz hok
          cases hw : withinB (needN kd) f2
          · have HTL := Lib.hid hw
            clear hw
            as_aux_lemma =>
              have HW : Hid (walkS g tg (e : Int) (p : Int) kd = (g, (0, 0, 0, 0), false)) := by
                show walkS g tg (e : Int) (p : Int) kd = _
                unfold walkS
                rw [if_neg (fun hc => by have h := hc.1; rw [HWH.out] at h; exact absurd h (by decide)), Int.toNat_natCast]
                rw [HT.out.2.2, if_neg (by rw [HTL.out]; decide)]
                unfold flushS
                rw [HWH.out, if_neg (by decide)]
              go_wp2_with fail
              refine (tfind_no T g (e : Int) (p : Int) _ (Side.at [] S5.out) HNO.out).mono ?_
              rintro x w6 ⟨rfl, hb⟩
              have S6 := Lib.hid ((S5.out.under hb).box (.cells #[.int .i64 0, .int .i64 0, .int .i64 0, .int .i64 0] 78))
              clear hb
              go_wp2_with fail
              refine (tat_ok _ U p tg hp8 (Side.at [fixT w6.heap.size (.cells #[.int .i64 0, .int .i64 0, .int .i64 0, .int .i64 0] 78), bufT T g] S6.out) (by rw [HT.out.2.2]; exact HTZ.out)).mono ?_
              rw [HT.out.1, HT.out.2.1, HT.out.2.2]
              rintro x w7 ⟨rfl, hb⟩
              have S7 := Lib.hid ((S6.out.under hb).box (.cells #[.int .i64 f0, .int .i64 f1, .int .i64 f2] 39))
              clear hb
              have HWK := Lib.hid (HH.out.walk_ T U g tg (e : Int) (p : Int) kd _ (Side.at [fixT w7.heap.size (.cells #[.int .i64 f0, .int .i64 f1, .int .i64 f2] 39), fixT w6.heap.size (.cells #[.int .i64 0, .int .i64 0, .int .i64 0, .int .i64 0] 78)] S7.out) HBO.out (Side.at [fixT w7.heap.size (.cells #[.int .i64 f0, .int .i64 f1, .int .i64 f2] 39), fixT w6.heap.size (.cells #[.int .i64 0, .int .i64 0, .int .i64 0, .int .i64 0] 78), bufT T g] S7.out) HTK.out hTU ⟨by omega, by omega⟩ ⟨by omega, by omega⟩)
              rw [HW.out] at HWK
              dsimp only at HWK
              go_wp2_with fail
              refine HWK.out.mono ?_
              rintro x w8 ⟨rfl, hn, ho⟩
              have S8 := Lib.hid ((Side.step (o := bufT T g) (bufT T g) hn (fun _ h => Or.inl h) (only_T ho) [fixT w7.heap.size (.cells #[.int .i64 f0, .int .i64 f1, .int .i64 f2] 39), fixT w6.heap.size (.cells #[.int .i64 0, .int .i64 0, .int .i64 0, .int .i64 0] 78)] S7.out).box (.cells #[.int .i64 0, .int .i64 0, .int .i64 0, .int .i64 0] 78))
              clear hn ho HWK
              go_wp2_with fail
              refine (tfind_no T g (e : Int) (p : Int) _ (Side.at [fixT w8.heap.size (.cells #[.int .i64 0, .int .i64 0, .int .i64 0, .int .i64 0] 78), fixT w7.heap.size (.cells #[.int .i64 f0, .int .i64 f1, .int .i64 f2] 39), fixT w6.heap.size (.cells #[.int .i64 0, .int .i64 0, .int .i64 0, .int .i64 0] 78)] S8.out) HNO.out).mono ?_
              rintro x w9 ⟨rfl, hb⟩
              have S9 := Lib.hid ((S8.out.under hb).box (.cells #[.int .i64 0, .int .i64 0, .int .i64 0, .int .i64 0] 78))
              clear hb S5 S6 S7 S8
              have ka := S9.out.1
              have ka0 := bk_cell ka 0
              have ka1 := bk_cell ka 1
              have ka2 := bk_cell ka 2
              have ka3 := bk_cell ka 3
              have lka := bk_lt ka
              clear ka
              have kb := S9.out.2.2.2.1
              have kb0 := bk_cell kb 0
              have kb1 := bk_cell kb 1
              have kb2 := bk_cell kb 2
              have kb3 := bk_cell kb 3
              have lkb := bk_lt kb
              clear kb
              have kc := S9.out.2.2.2.2.2.2.1
              have kc0 := bk_cell kc 0
              have kc1 := bk_cell kc 1
              have kc2 := bk_cell kc 2
              have lkc := bk_lt kc
              clear kc
              have ke := S9.out.2.2.2.2.2.2.2.2.2.1
              have ke0 := bk_cell ke 0
              have ke1 := bk_cell ke 1
              have ke2 := bk_cell ke 2
              have ke3 := bk_cell ke 3
              have lke := bk_lt ke
              clear ke
              go_wp2_with fail
              refine (ref_lets_any f2 kd _).mono ?_
              rintro x v1 ⟨rfl, hv1⟩
              rw [HTL.out]
              subst hv1
              go_wp2_with fail
              go_ret
              exact ⟨rfl, S9.out.below⟩
          · have HTL := Lib.hid hw
            clear hw
            obtain ⟨K, hK⟩ : ∃ K, old g ((p : Int) % 4).toNat = K := ⟨_, rfl⟩
            have hin := old_in g ((p : Int) % 4).toNat (by omega)
            rw [hK] at hin
            have HK := Lib.hid hK
            have HK8 := Lib.hid hin.1
            have HPK := Lib.hid (show 0 ≤ (p : Int) ∧ (p : Int) < 8 ∧ (p : Int) % 4 = ((K / 2 : Nat) : Int) by rw [hin.2]; omega)
            have HFF := Lib.hid (fill_find (g := g) (k := K) (e := (e : Int)) (p := (p : Int)) f0 f2 HG.out.1 fun j hj _ => HNO.out j hj)
            have HFO := Lib.hid (let h := fillG_own g K (e : Int) (p : Int) f0 f2; And.intro h.1 (And.intro h.2.1 (And.intro h.2.2.1 h.2.2.2.1)))
            clear hK hin
            as_aux_lemma =>
              have HW : Hid (walkS g tg (e : Int) (p : Int) kd = ((fillG g K (e : Int) (p : Int) f0 f2), ((e : Int), (p : Int), f0, f2), true)) := by
                show walkS g tg (e : Int) (p : Int) kd = _
                unfold walkS
                rw [if_neg (fun hc => by have h := hc.1; rw [HWH.out] at h; exact absurd h (by decide)), Int.toNat_natCast]
                rw [HT.out.2.2, HT.out.1, if_pos HTL.out]
                unfold fillS
                rw [if_pos HLB.out, HWH.out, if_neg (by decide), HK.out]
              go_wp2_with fail
              refine (tfind_no T g (e : Int) (p : Int) _ (Side.at [] S5.out) HNO.out).mono ?_
              rintro x w6 ⟨rfl, hb⟩
              have S6 := Lib.hid ((S5.out.under hb).box (.cells #[.int .i64 0, .int .i64 0, .int .i64 0, .int .i64 0] 78))
              clear hb
              go_wp2_with fail
              refine (tat_ok _ U p tg hp8 (Side.at [fixT w6.heap.size (.cells #[.int .i64 0, .int .i64 0, .int .i64 0, .int .i64 0] 78), bufT T g] S6.out) (by rw [HT.out.2.2]; exact HTZ.out)).mono ?_
              rw [HT.out.1, HT.out.2.1, HT.out.2.2]
              rintro x w7 ⟨rfl, hb⟩
              have S7 := Lib.hid ((S6.out.under hb).box (.cells #[.int .i64 f0, .int .i64 f1, .int .i64 f2] 39))
              clear hb
              have HWK := Lib.hid (HH.out.walk_ T U g tg (e : Int) (p : Int) kd _ (Side.at [fixT w7.heap.size (.cells #[.int .i64 f0, .int .i64 f1, .int .i64 f2] 39), fixT w6.heap.size (.cells #[.int .i64 0, .int .i64 0, .int .i64 0, .int .i64 0] 78)] S7.out) HBO.out (Side.at [fixT w7.heap.size (.cells #[.int .i64 f0, .int .i64 f1, .int .i64 f2] 39), fixT w6.heap.size (.cells #[.int .i64 0, .int .i64 0, .int .i64 0, .int .i64 0] 78), bufT T g] S7.out) HTK.out hTU ⟨by omega, by omega⟩ ⟨by omega, by omega⟩)
              rw [HW.out] at HWK
              dsimp only at HWK
              go_wp2_with fail
              refine HWK.out.mono ?_
              rintro x w8 ⟨rfl, hn, ho⟩
              have S8 := Lib.hid ((Side.step (o := bufT T g) (bufT T (fillG g K (e : Int) (p : Int) f0 f2)) hn (fun _ h => Or.inl h) (only_T ho) [fixT w7.heap.size (.cells #[.int .i64 f0, .int .i64 f1, .int .i64 f2] 39), fixT w6.heap.size (.cells #[.int .i64 0, .int .i64 0, .int .i64 0, .int .i64 0] 78)] S7.out).box (.cells #[.int .i64 (e : Int), .int .i64 (p : Int), .int .i64 f0, .int .i64 f2] 78))
              clear hn ho HWK
              go_wp2_with fail
              refine (tfind_any T (fillG g K (e : Int) (p : Int) f0 f2) (e : Int) (p : Int) _ (Side.at [fixT w8.heap.size (.cells #[.int .i64 (e : Int), .int .i64 (p : Int), .int .i64 f0, .int .i64 f2] 78), fixT w7.heap.size (.cells #[.int .i64 f0, .int .i64 f1, .int .i64 f2] 39), fixT w6.heap.size (.cells #[.int .i64 0, .int .i64 0, .int .i64 0, .int .i64 0] 78)] S8.out) K HK8.out HPK.out HFF.out.1 (fun j hj => HFF.out.2 j (by have := HK8.out; omega) (by omega)) HFO.out).mono ?_
              rintro x w9 ⟨rfl, hb⟩
              have S9 := Lib.hid ((S8.out.under hb).box (.cells #[.int .i64 (e : Int), .int .i64 (p : Int), .int .i64 f0, .int .i64 f2] 78))
              clear hb S5 S6 S7 S8
              have ka := S9.out.1
              have ka0 := bk_cell ka 0
              have ka1 := bk_cell ka 1
              have ka2 := bk_cell ka 2
              have ka3 := bk_cell ka 3
              have lka := bk_lt ka
              clear ka
              have kb := S9.out.2.2.2.1
              have kb0 := bk_cell kb 0
              have kb1 := bk_cell kb 1
              have kb2 := bk_cell kb 2
              have kb3 := bk_cell kb 3
              have lkb := bk_lt kb
              clear kb
              have kc := S9.out.2.2.2.2.2.2.1
              have kc0 := bk_cell kc 0
              have kc1 := bk_cell kc 1
              have kc2 := bk_cell kc 2
              have lkc := bk_lt kc
              clear kc
              have ke := S9.out.2.2.2.2.2.2.2.2.2.1
              have ke0 := bk_cell ke 0
              have ke1 := bk_cell ke 1
              have ke2 := bk_cell ke 2
              have ke3 := bk_cell ke 3
              have lke := bk_lt ke
              clear ke
              go_wp2_with fail
              refine (ref_lets_any f2 kd _).mono ?_
              rintro x v1 ⟨rfl, hv1⟩
              rw [HTL.out]
              subst hv1
              go_wp2_with fail
              go_ret
              exact ⟨rfl, S9.out.below⟩
end Go.Proofs.YtmifcfkchnilmaaGreatDoor

