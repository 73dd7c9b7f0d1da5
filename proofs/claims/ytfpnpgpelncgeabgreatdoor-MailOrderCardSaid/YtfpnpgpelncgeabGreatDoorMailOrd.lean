/- What is proved here: the statement MailOrder: whatever its slice, the statement returns true and leaves what was there. Conditions: the slice's words are there and are words; the statements' own beginning returns true. -/
import Derived.Test.YtfpnpgpelncgeabGreatDoorGMail
namespace Go.Proofs.YtfpnpgpelncgeabGreatDoor
open Go.RowKit Go.Extern.Stop Go.Stop Go.Extern Go.Maps

/-- The statement's Mail of two cores: nothing in box 0, ml in box 1; its own list wl in the row wv. -/
def OrdAt (w : World) (M B : Nat) (wv : Value) (wl ml : List Int) (k : Nat) (W : World) : Prop :=
  ∃ S L, MailAt W S M B 2 L k ∧ L 0 = [] ∧ L 1 = ml ∧ W.ownsRow 0 26 1 wv wl.length (wordsV wl) ∧ (∀ g, wv.ownBlock = some g → ¬ S g) ∧ (∀ i, S i → w.heap.size ≤ i) ∧ Below w.heap.size w W
theorem row_out {W W' : World} {v : Value} {n : Nat} {xs : List Value} (h : W.ownsRow 0 26 1 v n xs) (hb : ∀ g, v.ownBlock = some g → g < W.heap.size → W'.heap[g]? = W.heap[g]?) : W'.ownsRow 0 26 1 v n xs := by
  obtain ⟨r1, r2 | ⟨g, cap, cur, rfl, a1, a2, a3⟩⟩ := h
  · exact ⟨r1, .inl r2⟩
  · exact ⟨r1, .inr ⟨g, cap, cur, rfl, a1, (hb g rfl (bk_lt a2)).trans a2, a3⟩⟩
/-- A call that turns the Mail's blocks alone, and makes new ones that are the Mail's. -/
theorem low_only {w W W' : World} {S : Nat → Prop} (hb : Below w.heap.size w W) (ho : Only S W W') (hS : ∀ i, S i → w.heap.size ≤ i) : Below w.heap.size w W' := by
  obtain ⟨h1, h2, h3, h4, h5⟩ := ho
  exact ⟨h1.trans hb.os, h2.trans hb.tape, h3.trans hb.output, Nat.le_trans hb.size h4, fun i hi => (h5 i (Nat.lt_of_lt_of_le hi hb.size) (fun hs => by have := hS i hs; omega)).trans (hb.block i hi)⟩
theorem plus_low {w W W' : World} {S : Nat → Prop} (hw : w.heap.size ≤ W.heap.size) (hS : ∀ i, S i → w.heap.size ≤ i) : ∀ i, Plus S W W' i → w.heap.size ≤ i := by
  rintro i (hi | hi)
  · exact hS i hi
  · omega
theorem ord_mail {w W W' : World} {M B k k' : Nat} {wv : Value} {wl ml : List Int} {S : Nat → Prop} {L' : Nat → List Int} (hr : W.ownsRow 0 26 1 wv wl.length (wordsV wl)) (hs : ∀ g, wv.ownBlock = some g → ¬ S g) (hS : ∀ i, S i → w.heap.size ≤ i) (hb : Below w.heap.size w W)
    (hm : MailAt W' (Plus S W W') M B 2 L' k') (ho : Only S W W') (h0 : L' 0 = []) (h1 : L' 1 = ml) (hk : k' = k) : OrdAt w M B wv wl ml k W' := by
  subst hk
  refine ⟨_, L', hm, h0, h1, row_out hr fun g hg hl => ho.2.2.2.2 g hl (hs g hg), fun g hg hp => ?_, plus_low hb.size hS, low_only hb ho hS⟩
  rcases hp with hp | hp
  · exact hs g hg hp
  · have := (hr.lt g hg).2
    omega
theorem ord_send {w W : World} {M B k : Nat} {wv : Value} {wl ml : List Int} (h : OrdAt w M B wv wl ml k W) (e : Int) (he : (Lit.int .u64 e).wf = true) (hk : k ≤ 800) : Calls Tryz.prog 31 #[.pointer (some ⟨M, 0, none⟩), .int .i64 0, .int .i64 1, .int .u64 e] W fun r W' => r = .returned (.bool true) ∧ OrdAt w M B wv wl (putL ml e) (k + 1) W' := by
  obtain ⟨S, L, h1, h2, h3, h4, h5, h6, h7⟩ := h
  refine (msend_ok M B 2 S L k 0 1 e (by omega) (by omega) (by omega) he hk W h1).mono ?_
  rintro r W' ⟨rfl, hm, ho⟩
  exact ⟨rfl, ord_mail h4 h5 h6 h7 hm ho (by simpa [upL] using h2) (by simp [upL, h3]) rfl⟩
theorem ord_take {w W : World} {M B k : Nat} {wv : Value} {wl l : List Int} {m : Int} (h : OrdAt w M B wv wl (m :: l) k W) (hk : k ≤ 800) : Calls Tryz.prog 33 #[.pointer (some ⟨M, 0, none⟩), .int .i64 1] W fun r W' => r = .returned (.tuple #[.int .u64 m, .bool true]) ∧ OrdAt w M B wv wl l k W' := by
  obtain ⟨S, L, h1, h2, h3, h4, h5, h6, h7⟩ := h
  refine (mtake_some M B 2 S L k 1 m l (by omega) h3 hk W h1).mono ?_
  rintro r W' ⟨rfl, hm, ho⟩
  exact ⟨rfl, ord_mail h4 h5 h6 h7 hm ho (by simpa [upL] using h2) (by simp [upL]) rfl⟩
theorem ord_none {w W : World} {M B k : Nat} {wv : Value} {wl : List Int} (h : OrdAt w M B wv wl [] k W) : Calls Tryz.prog 33 #[.pointer (some ⟨M, 0, none⟩), .int .i64 1] W fun r W' => r = .returned (.tuple #[.int .u64 0, .bool false]) ∧ W = W' := by
  obtain ⟨S, L, h1, h2, h3, h4, h5, h6, h7⟩ := h
  exact mtake_none M B 2 S L k 1 (by omega) h3 W h1
theorem ord_waits {w W : World} {M B k q : Nat} {wv : Value} {wl ml : List Int} (h : OrdAt w M B wv wl ml k W) (hq : ml.length = q) : Calls Tryz.prog 34 #[.pointer (some ⟨M, 0, none⟩), .int .i64 1] W fun r W' => r = .returned (.int .i64 q) ∧ W = W' := by
  obtain ⟨S, L, h1, h2, h3, h4, h5, h6, h7⟩ := h
  have := mwaits_in M B 2 S L k 1 (by omega) W h1
  rw [h3, hq] at this
  exact this
theorem ord_waits0 {w W : World} {M B k : Nat} {wv : Value} {wl ml : List Int} (h : OrdAt w M B wv wl ml k W) : Calls Tryz.prog 34 #[.pointer (some ⟨M, 0, none⟩), .int .i64 0] W fun r W' => r = .returned (.int .i64 0) ∧ W = W' := by
  obtain ⟨S, L, h1, h2, h3, h4, h5, h6, h7⟩ := h
  have := mwaits_in M B 2 S L k 0 (by omega) W h1
  rw [h2] at this
  exact this
theorem ord_no {w W : World} {M B k : Nat} {wv : Value} {wl ml : List Int} (h : OrdAt w M B wv wl ml k W) : Calls Tryz.prog 31 #[.pointer (some ⟨M, 0, none⟩), .int .i64 1, .int .i64 1, .int .u64 5] W fun r W' => r = .returned (.bool false) ∧ W = W' := by
  obtain ⟨S, L, h1, h2, h3, h4, h5, h6, h7⟩ := h
  exact msend_no M B 2 1 1 5 (by decide) W h1.top
theorem ord_put {w W : World} {M B k : Nat} {wv : Value} {wl ml : List Int} (h : OrdAt w M B wv wl ml k W) (e : Int) (hl : wl.length ≤ 1000) : Calls Tryz.prog 32 #[wv, .int .u64 e] W fun r W' => ∃ wv', r = .returned wv' ∧ OrdAt w M B wv' (putL wl e) ml k W' := by
  obtain ⟨S, L, h1, h2, h3, h4, h5, h6, h7⟩ := h
  have hsl : ∀ i, S i → i < W.heap.size := by obtain ⟨v, b, h⟩ := h1; exact h.sl
  refine (putw_any 0 wv wl e W h4 hl (Nat.zero_le _)).mono ?_
  rintro r W' ⟨v', rfl, ho, hb, hv⟩
  refine ⟨v', rfl, S, L, h1.below hb, h2, h3, ho, ?_, h6, bl_trans h7 hb⟩
  intro g hg
  rcases hv with rfl | hv
  · exact h5 g hg
  · intro hs
    have := hv g hg
    have := hsl g hs
    omega
theorem ord_new (w W : World) (hb : Below w.heap.size w W) : Calls Tryz.prog 30 #[.int .i64 2] W fun r W' => ∃ M B, r = .returned (.pointer (some ⟨M, 0, none⟩)) ∧ OrdAt w M B (.slice none 0 0) [] [] 0 W' := by
  refine (mnew_ok 2 (by omega) (by omega) W).mono ?_
  rintro r W' ⟨M, B, rfl, hm, hb2⟩
  refine ⟨M, B, rfl, _, _, hm, rfl, rfl, World.ownsRow_nil _ _ _ _, fun g hg => by simp [Value.ownBlock] at hg, ?_, bl_trans hb hb2⟩
  rintro i (hi | hi)
  · exact hi.elim
  · have := hb.size
    omega
theorem ord_row {w W : World} {M B k : Nat} {wv : Value} {wl ml : List Int} (h : OrdAt w M B wv wl ml k W) : ∃ wo wc g, wv = .slice wo wl.length wc ∧ (0 < wl.length → wo = some ⟨g, 0, none⟩) := by
  obtain ⟨S, L, h1, h2, h3, h4, h5, h6, h7⟩ := h
  rcases h4.2 with ⟨rfl, h0⟩ | ⟨g, cap, cur, rfl, _⟩
  · exact ⟨none, 0, 0, by rw [h0], fun h => by omega⟩
  · exact ⟨_, cap, g, rfl, fun _ => rfl⟩
theorem ord_cell {w W : World} {M B k g wc n i : Nat} {wl ml : List Int} (h : OrdAt w M B (.slice (some ⟨g, 0, none⟩) n wc) wl ml k W) (hn : wl.length = n) (hi : i < n) : W.cell? ⟨g, i, none⟩ = some (.int .u64 (gz wl i)) := by
  obtain ⟨S, L, h1, h2, h3, h4, h5, h6, h7⟩ := h
  subst hn
  exact RowQ.cell h4 hi
theorem drop_gz {l : List Int} {i : Nat} (hi : i < l.length) : l.drop i = gz l i :: l.drop (i + 1) := by
  rw [List.drop_eq_getElem_cons hi]
  simp [gz, List.getD, List.getElem?_eq_getElem hi]
theorem ord_below {w W : World} {M B k : Nat} {wv : Value} {wl ml : List Int} (h : OrdAt w M B wv wl ml k W) : Below w.heap.size w W := by
  obtain ⟨S, L, h1, h2, h3, h4, h5, h6, h7⟩ := h
  exact h7
theorem putL_len' {l : List Int} {e : Int} {i : Nat} (h : l.length ≤ i) : (putL l e).length ≤ i + 1 := Nat.le_trans (putL_len e l) (Nat.succ_le_succ h)
set_option maxRecDepth 100000 in
set_option maxHeartbeats 2000000 in
theorem morder_any (ao : Option Addr) (a : Addr) (len cap : Nat) (hao : 0 < len → ao = some a) (E : Nat → Int) (w : World) (hz : ∀ i, i < len → w.cell? (a.add i) = some (.int .u64 (E i))) (hwf : ∀ i, i < len → (Lit.int .u64 (E i)).wf = true) (hbeg : ∀ V, Below w.heap.size w V → BegunAt V) :
    Calls Tryz.prog 8 #[.slice ao len cap] w fun e w' => e = .returned (.bool true) ∧ Below w.heap.size w w' := by
  have HA := Lib.hid hao
  have HZ := Lib.hid hz
  have HW := Lib.hid hwf
  have HB := Lib.hid (hbeg w (Below.refl _ _))
  clear hao hz hwf hbeg
  go_enter Tryz.func8, Tryz.ntmps8
  go_wp2_with fail
  refine HB.out.mono ?_
  rintro e w1 ⟨rfl, hb1⟩
  have HN := Lib.hid (ord_new w w1 hb1)
  clear hb1
  go_wp2_with fail
  refine HN.out.mono ?_
  rintro e w2 ⟨M, B, rfl, ho⟩
  have HO := Lib.hid ho
  clear ho HN HB
  go_wp2_with fail
  go_loopw [5, 6] (fun wv iv W => ∃ (i : Nat) (wl : List Int), iv = .int .i64 i ∧ i ≤ len ∧ i ≤ 30 ∧ wl.length ≤ i ∧ OrdAt w M B wv wl wl i W) (fun _ iv _ => (30 - intOf iv).toNat)
  case atStart => exact ⟨0, [], rfl, by omega, by omega, by simp, HO.out⟩
  case round =>
    obtain ⟨i, wl, rfl, hil, hi30, hwl, ho⟩ := hrel
    have HO1 := Lib.hid ho
    clear ho
    rcases (show (i < len ∧ i < 30) ∨ ¬ i < len ∨ (i < len ∧ i = 30) by omega) with ⟨h1, h2⟩ | h1 | ⟨h1, h2⟩
    · have c := (ord_below HO1.out).cell (p := a.add i) (World.block_lt_of_cell? _ _ (HZ.out i h1))
      rw [HZ.out i h1] at c
      obtain rfl : ao = some a := HA.out (by omega)
      have i0 : (0 : Int) ≤ (i : Int) := by omega
      have i1 : (i : Int) < (len : Int) := by omega
      have i2 : (i : Int) < 30 := by omega
      have HS := Lib.hid (ord_send HO1.out (E i) (HW.out i h1) (by omega))
      go_wp2_with fail
      refine HS.out.mono ?_
      rintro e w3 ⟨rfl, ho3⟩
      have HP := Lib.hid (ord_put ho3 (E i) (by omega))
      have c3 := (ord_below ho3).cell (p := a.add i) (World.block_lt_of_cell? _ _ (HZ.out i h1))
      rw [HZ.out i h1] at c3
      clear ho3 c
      go_wp2_with fail
      refine HP.out.mono ?_
      rintro e w4 ⟨wv', rfl, ho4⟩
      have HO4 := Lib.hid ho4
      clear ho4 c3
      go_wp2_with fail
      go_roundw
      case rel => exact ⟨i + 1, putL wl (E i), by go_num, by omega, by omega, putL_len' hwl, HO4.out⟩
      case measure => simp [intOf]; omega
    all_goals
      obtain ⟨wo, wc, g, rfl, hwo⟩ := ord_row HO1.out
      have HWO := Lib.hid hwo
      clear hwo
      obtain ⟨n, hn⟩ : ∃ n, wl.length = n := ⟨_, rfl⟩
      rw [hn] at HO1 HWO ⊢
      have HNN := Lib.hid hn
      have hn30 : n ≤ 30 := by omega
      have hi30' : i ≤ 30 := hi30
      clear hn hwl
      first
        | (have i1 : ¬ (i : Int) < (len : Int) := by omega
           go_wp2_with fail)
        | (have i1 : (i : Int) < (len : Int) := by omega
           have i2 : ¬ (i : Int) < 30 := by omega
           go_wp2_with fail)
      go_loopw [7, 8, 9, 41] (fun _ _ _ qv W => ∃ q : Nat, qv = .int .i64 q ∧ q ≤ n ∧ OrdAt w M B (.slice wo n wc) wl (wl.drop q) i W) (fun _ _ _ qv _ => (n - intOf qv).toNat)
      case atStart => exact ⟨0, rfl, by omega, by rw [List.drop_zero]; exact HO1.out⟩
      case round =>
        obtain ⟨q, rfl, hq, ho⟩ := hrel
        have HO2 := Lib.hid ho
        clear ho
        by_cases hqn : q < n
        · have q1 : (q : Int) < (n : Int) := by omega
          have q0 : (0 : Int) ≤ (q : Int) := by omega
          obtain rfl : wo = some ⟨g, 0, none⟩ := HWO.out (by omega)
          obtain ⟨x, hx⟩ : ∃ x, gz wl q = x := ⟨_, rfl⟩
          obtain ⟨l, hl⟩ : ∃ l, wl.drop (q + 1) = l := ⟨_, rfl⟩
          have hd := drop_gz (l := wl) (i := q) (by rw [HNN.out]; exact hqn)
          rw [hx, hl] at hd
          have ho2 := HO2.out
          rw [hd] at ho2
          obtain ⟨r, hr⟩ : ∃ r, n = q + 1 + r := ⟨n - (q + 1), by omega⟩
          have hll : l.length = r := by rw [← hl, List.length_drop, HNN.out]; omega
          have HT := Lib.hid (ord_take ho2 (by omega))
          have HL := Lib.hid hl
          have HX := Lib.hid hx
          have r1 : (n : Int) - (q : Int) = ((r + 1 : Nat) : Int) := by omega
          have r2 : ((r + 1 : Nat) : Int) - 1 = (r : Int) := by omega
          clear hx hl hd ho2 hr
          go_wp2_with fail
          refine HT.out.mono ?_
          rintro e w5 ⟨rfl, ho5⟩
          have HO5 := Lib.hid ho5
          have HW5 := Lib.hid (ord_waits ho5 hll)
          have c := ord_cell ho5 HNN.out hqn
          rw [HX.out] at c
          clear ho5
          go_wp2_with fail
          refine HW5.out.mono ?_
          rintro e w6 ⟨rfl, rfl⟩
          go_wp2_with fail
          go_roundw
          case rel => exact ⟨q + 1, by go_num, by omega, by rw [HL.out]; exact HO5.out⟩
          case measure => simp [intOf]; omega
        · obtain rfl : q = n := by omega
          have ho2 := HO2.out
          rw [show wl.drop q = [] from List.drop_eq_nil_of_le (by rw [HNN.out]; exact Nat.le_refl _)] at ho2
          have HT := Lib.hid (ord_none ho2)
          have HW0 := Lib.hid (ord_waits0 ho2)
          have HNO := Lib.hid (ord_no ho2)
          clear ho2
          go_wp2_with fail
          refine HT.out.mono ?_
          rintro e w5 ⟨rfl, rfl⟩
          go_wp2_with fail
          refine HW0.out.mono ?_
          rintro e w5 ⟨rfl, rfl⟩
          go_wp2_with fail
          refine HNO.out.mono ?_
          rintro e w5 ⟨rfl, rfl⟩
          go_wp2_with fail
          go_ret
          exact ⟨rfl, ord_below HO2.out⟩
end Go.Proofs.YtfpnpgpelncgeabGreatDoor
