/- What is proved here: the statement MailOrder: whatever its slice, the statement returns true and leaves what was there. Conditions: the slice's words are there and are words; the statements' own beginning returns true. -/
import Derived.Test.YtfpnpgpelncgeaaGreatDoorGMail
namespace Go.Proofs.YtfpnpgpelncgeaaGreatDoor
open Go.RowKit Go.Extern.Stop Go.Stop Go.Extern Go.Maps

/-- The statement's Mail of two cores: nothing in box 0, ml in box 1; its own list wl in the row wv. -/
def OrdAt (w : World) (M B : Nat) (wv : Value) (wl ml : List Int) (k : Nat) (W : World) : Prop :=
  ∃ S L, MailAt W S M B 2 L k ∧ L 0 = [] ∧ L 1 = ml ∧ W.ownsRow 0 22 1 wv wl.length (wordsV wl) ∧ (∀ g, wv.ownBlock = some g → ¬ S g) ∧ (∀ i, S i → w.heap.size ≤ i) ∧ Below w.heap.size w W
theorem row_out {W W' : World} {v : Value} {n : Nat} {xs : List Value} (h : W.ownsRow 0 22 1 v n xs) (hb : ∀ g, v.ownBlock = some g → g < W.heap.size → W'.heap[g]? = W.heap[g]?) : W'.ownsRow 0 22 1 v n xs := by
  obtain ⟨r1, r2 | ⟨g, cap, cur, rfl, a1, a2, a3⟩⟩ := h
  · exact ⟨r1, .inl r2⟩
  · exact ⟨r1, .inr ⟨g, cap, cur, rfl, a1, (hb g rfl (bk_lt a2)).trans a2, a3⟩⟩
/-- A call that turns the Mail's blocks alone, and makes new ones that are the Mail's. -/
theorem low_only {w W W' : World} {S : Nat → Prop} (hb : Below w.heap.size w W) (ho : Only S W W') (hS : ∀ i, S i → w.heap.size ≤ i) : Below w.heap.size w W' := by
  obtain ⟨h1, h2, h3, h4, h5⟩ := ho
  exact ⟨h1.trans hb.os, h2.trans hb.tape, h3.trans hb.output, Nat.le_trans hb.size h4, fun i hi => (h5 i (Nat.lt_of_lt_of_le hi hb.size) (fun hs => by have := hS i hs; omega)).trans (hb.block i hi)⟩
theorem plus_low {w W W' : World} {S : Nat → Prop} (hw : w.heap.size ≤ W.heap.size) (hS : ∀ i, S i → w.heap.size ≤ i) : ∀ i, Plus S W W' i → w.heap.size ≤ i := by
  rintro i (hi | hi)
  · exact hS i hi
  · omega
theorem ord_mail {w W W' : World} {M B k k' : Nat} {wv : Value} {wl ml : List Int} {S : Nat → Prop} {L' : Nat → List Int} (hr : W.ownsRow 0 22 1 wv wl.length (wordsV wl)) (hs : ∀ g, wv.ownBlock = some g → ¬ S g) (hS : ∀ i, S i → w.heap.size ≤ i) (hb : Below w.heap.size w W)
    (hm : MailAt W' (Plus S W W') M B 2 L' k') (ho : Only S W W') (h0 : L' 0 = []) (h1 : L' 1 = ml) (hk : k' = k) : OrdAt w M B wv wl ml k W' := by
  subst hk
  refine ⟨_, L', hm, h0, h1, row_out hr fun g hg hl => ho.2.2.2.2 g hl (hs g hg), fun g hg hp => ?_, plus_low hb.size hS, low_only hb ho hS⟩
  rcases hp with hp | hp
  · exact hs g hg hp
  · have := (hr.lt g hg).2
    omega
theorem ord_send {w W : World} {M B k : Nat} {wv : Value} {wl ml : List Int} (h : OrdAt w M B wv wl ml k W) (e : Int) (he : (Lit.int .u64 e).wf = true) (hk : k ≤ 800) : Calls Tryz.prog 59 #[.pointer (some ⟨M, 0, none⟩), .int .i64 0, .int .i64 1, .int .u64 e] W fun r W' => r = .returned (.bool true) ∧ OrdAt w M B wv wl (putL ml e) (k + 1) W' := by
  obtain ⟨S, L, h1, h2, h3, h4, h5, h6, h7⟩ := h
  refine (msend_ok M B 2 S L k 0 1 e (by omega) (by omega) (by omega) he hk W h1).mono ?_
  rintro r W' ⟨rfl, hm, ho⟩
  exact ⟨rfl, ord_mail h4 h5 h6 h7 hm ho (by simpa [upL] using h2) (by simp [upL, h3]) rfl⟩
theorem ord_take {w W : World} {M B k : Nat} {wv : Value} {wl l : List Int} {m : Int} (h : OrdAt w M B wv wl (m :: l) k W) (hk : k ≤ 800) : Calls Tryz.prog 62 #[.pointer (some ⟨M, 0, none⟩), .int .i64 1] W fun r W' => r = .returned (.tuple #[.int .u64 m, .bool true]) ∧ OrdAt w M B wv wl l k W' := by
  obtain ⟨S, L, h1, h2, h3, h4, h5, h6, h7⟩ := h
  refine (mtake_some M B 2 S L k 1 m l (by omega) h3 hk W h1).mono ?_
  rintro r W' ⟨rfl, hm, ho⟩
  exact ⟨rfl, ord_mail h4 h5 h6 h7 hm ho (by simpa [upL] using h2) (by simp [upL]) rfl⟩
theorem ord_none {w W : World} {M B k : Nat} {wv : Value} {wl : List Int} (h : OrdAt w M B wv wl [] k W) : Calls Tryz.prog 62 #[.pointer (some ⟨M, 0, none⟩), .int .i64 1] W fun r W' => r = .returned (.tuple #[.int .u64 0, .bool false]) ∧ W = W' := by
  obtain ⟨S, L, h1, h2, h3, h4, h5, h6, h7⟩ := h
  exact mtake_none M B 2 S L k 1 (by omega) h3 W h1
theorem ord_waits {w W : World} {M B k q : Nat} {wv : Value} {wl ml : List Int} (h : OrdAt w M B wv wl ml k W) (hq : ml.length = q) : Calls Tryz.prog 63 #[.pointer (some ⟨M, 0, none⟩), .int .i64 1] W fun r W' => r = .returned (.int .i64 q) ∧ W = W' := by
  obtain ⟨S, L, h1, h2, h3, h4, h5, h6, h7⟩ := h
  have := mwaits_in M B 2 S L k 1 (by omega) W h1
  rw [h3, hq] at this
  exact this
theorem ord_waits0 {w W : World} {M B k : Nat} {wv : Value} {wl ml : List Int} (h : OrdAt w M B wv wl ml k W) : Calls Tryz.prog 63 #[.pointer (some ⟨M, 0, none⟩), .int .i64 0] W fun r W' => r = .returned (.int .i64 0) ∧ W = W' := by
  obtain ⟨S, L, h1, h2, h3, h4, h5, h6, h7⟩ := h
  have := mwaits_in M B 2 S L k 0 (by omega) W h1
  rw [h2] at this
  exact this
theorem ord_no {w W : World} {M B k : Nat} {wv : Value} {wl ml : List Int} (h : OrdAt w M B wv wl ml k W) : Calls Tryz.prog 59 #[.pointer (some ⟨M, 0, none⟩), .int .i64 1, .int .i64 1, .int .u64 5] W fun r W' => r = .returned (.bool false) ∧ W = W' := by
  obtain ⟨S, L, h1, h2, h3, h4, h5, h6, h7⟩ := h
  exact msend_no M B 2 1 1 5 (by decide) W h1.top
theorem ord_put {w W : World} {M B k : Nat} {wv : Value} {wl ml : List Int} (h : OrdAt w M B wv wl ml k W) (e : Int) (hl : wl.length ≤ 1000) : Calls Tryz.prog 60 #[wv, .int .u64 e] W fun r W' => ∃ wv', r = .returned wv' ∧ OrdAt w M B wv' (putL wl e) ml k W' := by
  obtain ⟨S, L, h1, h2, h3, h4, h5, h6, h7⟩ := h
  have hsl : ∀ i, S i → i < W.heap.size := by obtain ⟨v, b, h⟩ := h1; exact h.sl
  refine (putw_any 0 wv wl e W h4 hl (Nat.zero_le _)).mono ?_
  rintro r W' ⟨v', rfl, ho, hb, hv⟩
  refine ⟨v', rfl, S, L, h1.below hb, h2, h3, ho, ?_, h6, bl_trans h7 hb⟩
  intro g hg
  rcases hv with rfl | hv
  · exact h5 g hg
  · intro hs
    have := hv g hg
    have := hsl g hs
    omega
theorem ord_new (w W : World) (hb : Below w.heap.size w W) : Calls Tryz.prog 58 #[.int .i64 2] W fun r W' => ∃ M B, r = .returned (.pointer (some ⟨M, 0, none⟩)) ∧ OrdAt w M B (.slice none 0 0) [] [] 0 W' := by
  refine (mnew_ok 2 (by omega) (by omega) W).mono ?_
  rintro r W' ⟨M, B, rfl, hm, hb2⟩
  refine ⟨M, B, rfl, _, _, hm, rfl, rfl, World.ownsRow_nil _ _ _ _, fun g hg => by simp [Value.ownBlock] at hg, ?_, bl_trans hb hb2⟩
  rintro i (hi | hi)
  · exact hi.elim
  · have := hb.size
    omega
theorem ord_row {w W : World} {M B k : Nat} {wv : Value} {wl ml : List Int} (h : OrdAt w M B wv wl ml k W) : ∃ wo wc g, wv = .slice wo wl.length wc ∧ (0 < wl.length → wo = some ⟨g, 0, none⟩) := by
  obtain ⟨S, L, h1, h2, h3, h4, h5, h6, h7⟩ := h
  rcases h4.2 with ⟨rfl, h0⟩ | ⟨g, cap, cur, rfl, _⟩
  · exact ⟨none, 0, 0, by rw [h0], fun h => by omega⟩
  · exact ⟨_, cap, g, rfl, fun _ => rfl⟩
theorem ord_cell {w W : World} {M B k g wc n i : Nat} {wl ml : List Int} (h : OrdAt w M B (.slice (some ⟨g, 0, none⟩) n wc) wl ml k W) (hn : wl.length = n) (hi : i < n) : W.cell? ⟨g, i, none⟩ = some (.int .u64 (gz wl i)) := by
  obtain ⟨S, L, h1, h2, h3, h4, h5, h6, h7⟩ := h
  subst hn
  exact RowQ.cell h4 hi
theorem drop_gz {l : List Int} {i : Nat} (hi : i < l.length) : l.drop i = gz l i :: l.drop (i + 1) := by
  rw [List.drop_eq_getElem_cons hi]
  simp [gz, List.getD, List.getElem?_eq_getElem hi]
theorem ord_below {w W : World} {M B k : Nat} {wv : Value} {wl ml : List Int} (h : OrdAt w M B wv wl ml k W) : Below w.heap.size w W := by
  obtain ⟨S, L, h1, h2, h3, h4, h5, h6, h7⟩ := h
  exact h7
theorem putL_len' {l : List Int} {e : Int} {i : Nat} (h : l.length ≤ i) : (putL l e).length ≤ i + 1 := Nat.le_trans (putL_len e l) (Nat.succ_le_succ h)
end Go.Proofs.YtfpnpgpelncgeaaGreatDoor
