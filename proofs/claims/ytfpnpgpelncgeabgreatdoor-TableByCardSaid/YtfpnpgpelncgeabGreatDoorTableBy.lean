/- What is proved here: the walk of the statement TableBy: it answers true and leaves the memory that was there as it was. Conditions: the statements' beginning does so in every later world; the list's numbers are there. -/
import Derived.Test.YtfpnpgpelncgeabGreatDoorTabPages
import Derived.Test.YtfpnpgpelncgeabGreatDoorGParts
import Derived.Maps.AppendAt
import Derived.Deep.AppendLies
namespace Go.Proofs.YtfpnpgpelncgeabGreatDoor
open Go.RowKit Go.Extern.Stop Go.Stop Go.Extern

/-- The array of lists in block G: at s the first k pages whose entries are by slot s; each list's memory is its own, from block B on. -/
def WantIs (w : World) (G B : Nat) (g : Nat → Int) (k : Nat) : Prop :=
  ∃ V : Nat → Value, (∀ s : Nat, s < 8 → w.cell? ⟨G, s, none⟩ = some (V s)) ∧ (∀ s : Nat, s < 8 → w.ownsRow B 3 1 (V s) (byL g s k).length (pagesV (byL g s k))) ∧ (∀ s, w.frozen? ⟨G, s, none⟩ = false) ∧ G < w.heap.size ∧ G < B ∧
    ∀ s s', s < 8 → s' < 8 → s ≠ s' → (V s).ownBlock = none ∨ (V s).ownBlock ≠ (V s').ownBlock
theorem WantIs.later {w w' : World} {G B k : Nat} {g : Nat → Int} (h : WantIs w G B g k) (hb : Below w.heap.size w w') : WantIs w' G B g k := by
  obtain ⟨V, h1, h2, h3, h4, h5, h6⟩ := h
  exact ⟨V, fun s hs => (hb.cell (p := ⟨G, s, none⟩) h4).trans (h1 s hs), fun s hs => own_below (h2 s hs) hb, fun s => (hb.frozen (p := ⟨G, s, none⟩) h4).trans (h3 s), Nat.lt_of_lt_of_le h4 hb.size, h5, h6⟩
theorem WantIs.only {w w' : World} {G B k T : Nat} {g : Nat → Int} (h : WantIs w G B g k) (ho : OnlyT T w w') (hTG : T ≠ G) (hTB : T < B) : WantIs w' G B g k := by
  obtain ⟨V, h1, h2, h3, h4, h5, h6⟩ := h
  have hk := ho.block G h4 (fun e => hTG (by injection e with e; exact e.symm))
  refine ⟨V, fun s hs => (World.cell?_of_block (a := ⟨G, s, none⟩) hk).trans (h1 s hs), fun s hs => (h2 s hs).kept ho ?_, fun s => (World.frozen?_of_block (a := ⟨G, s, none⟩) hk).trans (h3 s), Nat.lt_of_lt_of_le h4 ho.size, h5, h6⟩
  refine .inr fun e => ?_
  have h := ((h2 s hs).lt T e).1
  omega
theorem WantIs.congr {w : World} {G B k k' : Nat} {g g' : Nat → Int} (h : WantIs w G B g k) (e : ∀ s : Nat, s < 8 → byL g' s k' = byL g s k) : WantIs w G B g' k' := by
  obtain ⟨V, h1, h2, h3, h4, h5, h6⟩ := h
  exact ⟨V, h1, fun s hs => by rw [e s hs]; exact h2 s hs, h3, h4, h5, h6⟩
theorem WantIs.new (w : World) (t : TypeId) (g : Nat → Int) : WantIs (w.alloc (.cells #[.slice none 0 0, .slice none 0 0, .slice none 0 0, .slice none 0 0, .slice none 0 0, .slice none 0 0, .slice none 0 0, .slice none 0 0] t)) w.heap.size (w.heap.size + 1) g 0 := by
  have h := heap_alloc_new w (.cells #[.slice none 0 0, .slice none 0 0, .slice none 0 0, .slice none 0 0, .slice none 0 0, .slice none 0 0, .slice none 0 0, .slice none 0 0] t)
  refine ⟨fun _ => .slice none 0 0, fun s hs => ?_, fun s _ => World.ownsRow_nil _ _ _ _, fun s => bk_free h s, bk_lt h, by omega, fun _ _ _ _ _ => .inl rfl⟩
  rw [bk_cell h s]
  have hc : s = 0 ∨ s = 1 ∨ s = 2 ∨ s = 3 ∨ s = 4 ∨ s = 5 ∨ s = 6 ∨ s = 7 := by omega
  rcases hc with rfl | rfl | rfl | rfl | rfl | rfl | rfl | rfl <;> rfl
/-- One page more is appended to the list at s. -/
theorem want_step {w w3 : World} {G B k s : Nat} {g : Nat → Int} {o : Obj} {v' : Value} {V : Nat → Value} (h1 : ∀ s : Nat, s < 8 → w.cell? ⟨G, s, none⟩ = some (V s)) (h2 : ∀ s : Nat, s < 8 → w.ownsRow B 3 1 (V s) (byL g s k).length (pagesV (byL g s k)))
    (h3 : ∀ s, w.frozen? ⟨G, s, none⟩ = false) (h4 : G < w.heap.size) (h5 : G < B) (h6 : ∀ s s', s < 8 → s' < 8 → s ≠ s' → (V s).ownBlock = none ∨ (V s).ownBlock ≠ (V s').ownBlock) (hs : s < 8)
    (hg : (w.alloc o).grownBy w3 (V s).ownBlock) (hown : w3.ownsRow B 3 1 v' (byL g s (k + 1)).length (pagesV (byL g s (k + 1)))) (hat : v'.ownBlock = (V s).ownBlock ∨ v'.ownBlock = some (w.heap.size + 1))
    (hno : ∀ j : Nat, j < 8 → j ≠ s → byL g j (k + 1) = byL g j k) : WantIs (w3.setCell ⟨G, s, none⟩ v') G B g (k + 1) := by
  have hGs : some G ≠ (V s).ownBlock := fun e => by have h := ((h2 s hs).lt G e.symm).1; omega
  have hsz : (w.alloc o).heap.size = w.heap.size + 1 := by simp
  have hcell : ∀ j, j < 8 → w3.cell? ⟨G, j, none⟩ = some (V j) := fun j hj => by
    rw [hg.cell_far ⟨G, j, none⟩ (by rw [hsz]; exact Nat.lt_succ_of_lt h4) hGs]
    exact (World.cell?_alloc_lt w o ⟨G, j, none⟩ h4).trans (h1 j hj)
  have hblk : ∀ j, j < 8 → ∀ b, (V j).ownBlock = some b → b < w.heap.size := fun j hj b e => ((h2 j hj).lt b e).2
  refine ⟨fun j => if j = s then v' else V j, fun j hj => ?_, fun j hj => ?_, fun j => ?_, ?_, h5, fun a b ha hb hab => ?_⟩
  · by_cases e : j = s
    · subst e
      rw [World.cell?_setCell_same _ _ _ (hcell j hj)]
      simp
    · rw [World.cell?_setCell_other _ _ _ _ (fun h => e (congrArg Addr.off h).symm)]
      simp only [if_neg e]
      exact hcell j hj
  · by_cases e : j = s
    · subst e
      simp only [if_true]
      exact ownsRow_setCell_below hown h5 _
    · simp only [if_neg e]
      rw [hno j hj e]
      refine ownsRow_setCell_below (((h2 j hj).alloc o).kept hg ?_) h5 _
      exact h6 j s hj hs e
  · rw [World.frozen?_setCell]
    rw [hg.frozen_far ⟨G, j, none⟩ (by rw [hsz]; exact Nat.lt_succ_of_lt h4) hGs]
    exact ((Below.refl w.heap.size w).alloc (Nat.le_refl _) o).frozen (p := ⟨G, j, none⟩) h4 |>.trans (h3 j)
  · have := hg.size
    have h8 : (w3.setCell ⟨G, s, none⟩ v').heap.size = w3.heap.size := by simp
    omega
  · by_cases ea : a = s
    · subst ea
      have eb : ¬ b = a := fun e => hab e.symm
      simp only [if_true, if_neg eb]
      rcases hat with h | h
      · rw [h]
        exact h6 a b ha hb hab
      · right
        rw [h]
        intro e
        have := hblk b hb _ e.symm
        omega
    · simp only [if_neg ea]
      by_cases eb : b = s
      · subst eb
        simp only [if_true]
        rcases hat with h | h
        · rw [h]
          exact h6 a b ha hb hab
        · right
          rw [h]
          intro e
          have := hblk a ha _ e
          omega
      · simp only [if_neg eb]
        exact h6 a b ha hb hab

theorem tab_grown {w w3 : World} {T : Nat} {g : Nat → Int} {o : Obj} {row : Option Nat} (h : TabIs w T g) (hg : (w.alloc o).grownBy w3 row) (hr : row ≠ some T) : TabIs w3 T g := by
  obtain ⟨h1, h2, h3⟩ := h.alloc o
  exact ⟨fun j hj => (hg.cell_far ⟨T, j, none⟩ h3 (fun e => hr e.symm)).trans (h1 j hj), fun j => (hg.frozen_far ⟨T, j, none⟩ h3 (fun e => hr e.symm)).trans (h2 j), Nat.lt_of_lt_of_le h3 hg.size⟩
/-- The first k pages have entries, by slots that may be; the others have none. -/
def SlotsIn (g : Nat → Int) (k : Nat) : Prop := ∀ p, p < 8 → (k ≤ p → g (p * 3 + 2) = 0) ∧ (¬ g (p * 3 + 2) = 0 → 0 ≤ g (p * 3 + 1) ∧ g (p * 3 + 1) < 8)
theorem SlotsIn.put {g : Nat → Int} {k s : Nat} (h : SlotsIn g k) (f r : Int) (hs : s < 8) : SlotsIn (putG g k f s r) (k + 1) := by
  intro p hp
  unfold putG
  by_cases e : p = k
  · subst e
    refine ⟨fun h => by omega, fun _ => ?_⟩
    rw [if_neg (by omega), if_pos rfl]
    omega
  · rw [if_neg (by omega), if_neg (by omega), if_neg (by omega), if_neg (by omega), if_neg (by omega), if_neg (by omega)]
    exact ⟨fun hk => (h p hp).1 (by omega), (h p hp).2⟩
theorem slots_all {g : Nat → Int} {k : Nat} (h : SlotsIn g k) (s : Int) (hk : k ≤ 8) : byL g s 8 = byL g s k := by
  have key : ∀ d, k + d ≤ 8 → byL g s (k + d) = byL g s k := by
    intro d
    induction d with
    | zero => intro _; rfl
    | succ d ih =>
      intro hd
      rw [← Nat.add_assoc, byL_no g s (k + d) (fun hh => hh.1 ((h (k + d) (by omega)).1 (by omega))), ih (by omega)]
  have h8 := key (8 - k) (by omega)
  rwa [show k + (8 - k) = 8 by omega] at h8
theorem slots_none {g : Nat → Int} {k : Nat} (h : SlotsIn g k) (s : Int) (hs : s < 0 ∨ 8 ≤ s) : byL g s 8 = [] := by
  unfold byL
  rw [List.filter_eq_nil_iff]
  intro j hj
  have hj := List.mem_range.1 hj
  simp only [decide_eq_true_eq, not_and]
  intro hr
  have := (h j hj).2 hr
  omega
theorem put_same {g : Nat → Int} {k s : Nat} {f r : Int} (hr : ¬ r = 0) : byL (putG g k f s r) s (k + 1) = byL g s k ++ [k] := by
  rw [byL_yes _ _ _ (by unfold putG; exact ⟨by rw [if_pos rfl]; exact hr, by rw [if_neg (by omega), if_pos rfl]⟩)]
  rw [byL_congr (g := putG g k f s r) (h := g) (fun j hj => by unfold putG; exact ⟨by rw [if_neg (by omega), if_neg (by omega), if_neg (by omega)], by rw [if_neg (by omega), if_neg (by omega), if_neg (by omega)]⟩)]
theorem put_below {g : Nat → Int} {k s : Nat} {f r : Int} (t : Int) : byL (putG g k f s r) t k = byL g t k :=
  byL_congr fun j hj => by unfold putG; exact ⟨by rw [if_neg (by omega), if_neg (by omega), if_neg (by omega)], by rw [if_neg (by omega), if_neg (by omega), if_neg (by omega)]⟩
theorem put_other {g : Nat → Int} {k s j : Nat} {f r : Int} (hj : j ≠ s) : byL (putG g k f s r) j (k + 1) = byL (putG g k f s r) j k :=
  byL_no _ _ _ fun h => hj (by have h2 := h.2; unfold putG at h2; rw [if_neg (by omega), if_pos rfl] at h2; omega)

set_option maxRecDepth 100000 in
set_option maxHeartbeats 8000000 in
theorem tableBy_some (a : Addr) (len cap : Nat) (hlen : len ≤ 9223372036854775807) (z : Nat → Int) (w : World) (hz : ∀ i, i < len → w.cell? (a.add i) = some (.int .i64 (z i))) (hbeg : ∀ W, Below w.heap.size w W → BegunAt W) :
    Calls Tryz.prog 5 #[.slice (some a) len cap] w fun e w' => e = .returned (.bool true) ∧ Below w.heap.size w w' := by
  obtain ⟨i0, hi0, hz0, hz1, hz2⟩ := info_parts Tryz.intInfo
  have HGg := Lib.hid hbeg
  clear hbeg
  have HZ : Hid (∀ W, Below w.heap.size w W → ∀ i, i < len → W.cell? (a.add i) = some (.int .i64 (z i))) := fun W hW i hi => (hW.cell (cell_lt (hz i hi))).trans (hz i hi)
  clear hz
  go_enter Tryz.func5, Tryz.ntmps5
  go_wp2_with fail
  refine Calls.mono (HGg.out _ (Below.refl _ _)) ?_
  rintro e w1 ⟨rfl, hb1⟩
  have B1 := Lib.hid hb1
  clear hb1 HGg
  go_wp2_with fail
  refine (tab_new _).mono ?_
  rintro e w2 ⟨rfl, hb2, ht2⟩
  obtain ⟨T, hT⟩ : ∃ T, T = w1.heap.size := ⟨_, rfl⟩
  rw [← hT] at ht2
  rw [← hT]
  have HTl : Hid (w.heap.size ≤ T) := by rw [hT]; exact B1.out.size
  have B2 := Lib.hid (bl_trans B1.out hb2)
  have T2 := Lib.hid ht2
  clear hb2 ht2 hT B1
  go_wp2_with fail
  obtain ⟨w3, hw3⟩ : ∃ w3, w3 = w2.alloc (.cells #[.slice none 0 0, .slice none 0 0, .slice none 0 0, .slice none 0 0, .slice none 0 0, .slice none 0 0, .slice none 0 0, .slice none 0 0] 35) := ⟨_, rfl⟩
  obtain ⟨G, hG⟩ : ∃ G, G = w2.heap.size := ⟨_, rfl⟩
  have N3 : Hid (WantIs w3 G (G + 1) (fun _ => 0) 0) := by rw [hw3, hG]; exact WantIs.new w2 _ _
  have T3 : Hid (TabIs w3 T (fun _ => 0)) := by rw [hw3]; exact T2.out.alloc _
  have B3 : Hid (Below w.heap.size w w3) := by rw [hw3]; exact B2.out.alloc B2.out.size _
  have HGT : Hid (T < G) := by rw [hG]; exact T2.out.2.2
  have HGl : Hid (w.heap.size ≤ G) := by rw [hG]; exact B2.out.size
  rw [← hw3, ← hG]
  clear hw3 hG T2 B2
  go_loopw [6] (fun iv W => ∃ (k : Nat) (g : Nat → Int), iv = .int .i64 k ∧ k ≤ 8 ∧ k ≤ len ∧ Below w.heap.size w W ∧ TabIs W T g ∧ WantIs W G (G + 1) g k ∧ Hid (SlotsIn g k)) (fun iv _ => (8 - intOf iv).toNat)
  case atStart => exact ⟨0, fun _ => 0, rfl, by omega, by omega, B3.out, T3.out, N3.out, fun p _ => ⟨fun _ => rfl, fun h => absurd rfl h⟩⟩
  case round =>
    obtain ⟨k, g, rfl, hk, hkl, hb, ht, hn, HS⟩ := hrel
    have HB := Lib.hid hb
    have HT := Lib.hid ht
    have HN := Lib.hid hn
    clear hb ht hn
    by_cases hlt : k < len ∧ k < 8
    · obtain ⟨hl1, hl2⟩ := hlt
      have zk := HZ.out _ HB.out k hl1
      have hkn : (0 : Int) ≤ (k : Int) := by omega
      obtain ⟨s, hs, hs8⟩ := pmod (z k) 8 (by omega) (by omega)
      have hs : (wrap64 ((z k).tmod 8 + 8)).tmod 8 = (s : Int) := hs
      have hsi : (s : Int) < 8 := by omega
      have hsn : (0 : Int) ≤ (s : Int) := by omega
      obtain ⟨m, hm, hm0, hm2⟩ : ∃ m : Int, (k : Int) % 3 = m ∧ 0 ≤ m ∧ m ≤ 2 := ⟨_, rfl, by omega, by omega⟩
      have HS0 := Lib.hid ((HS.out k hl2).1 (Nat.le_refl k))
      have HM : Hid (mayIns (k : Int) (s : Int) (1 + m) = true) := by
        show mayIns (k : Int) (s : Int) (1 + m) = true
        simp only [mayIns, Bool.and_eq_true, decide_eq_true_eq]
        omega
      go_wp2_with fail
      refine (tins_ok _ T k k s (1 + m) g hl2 HM.out HT.out HS0.out).mono ?_
      rintro e w4 ⟨rfl, ht, ho⟩
      have B4 := Lib.hid (tp_bl HB.out HTl.out ho)
      have T4 := Lib.hid ht
      have N4 := Lib.hid ((HN.out.only ho (fun e => by have := HGT.out; omega) (by have := HGT.out; omega)).congr (g' := putG g k k s (1 + m)) (k' := k) (fun t _ => put_below t))
      have S4 := Lib.hid (HS.out.put k (1 + m) hs8)
      clear ht ho hs hm zk
      obtain ⟨V, h1, h2, h3, h4, h5, h6⟩ := N4.out
      have H1 := Lib.hid h1
      have H2 := Lib.hid h2
      have H3 := Lib.hid h3
      have H4 := Lib.hid h4
      have H5 := Lib.hid h5
      have H6 := Lib.hid h6
      have HO := Lib.hid (h2 s hs8)
      have hle := byL_le (putG g k k s (1 + m)) s k
      have c := h1 s hs8
      clear h1 h2 h3 h4 h5 h6
      go_wp2_with (refine wpList_append_own_at (o := ⟨some 48, _, _, _, _, _⟩) _ rfl (.tmp 45) (.tmp 47) 32 rfl (G + 1) 3 i0 (.int .i64 0) 1 8 Tryz.underlying32 hi0 hz0 hz1 hz2 rfl (by decide) _ _ _ rfl (HO.out.alloc _) ⟨w4.heap.size, 0, none⟩ 1 1 [.int .i64 (k : Int)] rfl rfl (one_at _ _ _) (one_cell k) (by unfold maxLen; omega) (by omega) (by have := H4.out; simp; omega) ?_)
      intro v' w5 hown hgrow _ hat
      have hw5 : w5.cell? ⟨G, s, none⟩ = some (V s) := by
        rw [hgrow.cell_far ⟨G, s, none⟩ (by have := H4.out; simp; omega) (fun e => by have h := (HO.out.lt G e.symm).1; omega)]
        exact (World.cell?_alloc_lt w4 _ ⟨G, s, none⟩ H4.out).trans (H1.out s hs8)
      have hf5 : w5.frozen? ⟨G, s, none⟩ = false := by
        rw [hgrow.frozen_far ⟨G, s, none⟩ (by have := H4.out; simp; omega) (fun e => by have h := (HO.out.lt G e.symm).1; omega)]
        exact ((Below.refl w4.heap.size w4).alloc (Nat.le_refl _) _).frozen (p := ⟨G, s, none⟩) H4.out |>.trans (H3.out s)
      have hsame := put_same (g := g) (k := k) (s := s) (f := (k : Int)) (r := 1 + m) (by omega)
      have hown2 : w5.ownsRow (G + 1) 3 1 v' (byL (putG g k k s (1 + m)) s (k + 1)).length (pagesV (byL (putG g k k s (1 + m)) s (k + 1))) := by
        rw [hsame, List.length_append]
        rw [put_below] at hown
        unfold pagesV at hown ⊢
        rw [List.map_append]
        exact hown
      have N5 := Lib.hid (want_step H1.out H2.out H3.out H4.out H5.out H6.out hs8 hgrow hown2 hat (fun j _ hj => put_other hj))
      have B5 := Lib.hid (((B4.out.alloc B4.out.size _).grown hgrow (by have := B4.out.size; simp; omega) (fun b e => by have h := (HO.out.lt b e).1; have := HGl.out; omega)).setCell (p := ⟨G, s, none⟩) HGl.out v')
      have T5 := Lib.hid (tab_grown T4.out hgrow (fun e => by have h := (HO.out.lt T e).1; have := HGT.out; omega) |>.far (S := G) (i := s) (fun e => by have := HGT.out; omega) v')
      obtain ⟨b, cap2, rfl, _, _⟩ := hown.form (by omega)
      clear hown hown2 hat hgrow hsame c HO
      go_wp2_with fail
      go_roundw
      case rel => exact ⟨k + 1, _, by go_num, by omega, by omega, B5.out, T5.out, N5.out, S4⟩
      case measure => simp [intOf]; omega
    · by_cases h1 : k < len
      · have h2 : ¬ k < 8 := fun h => hlt ⟨h1, h⟩
        clear hlt
        have HS8 : Hid (∀ s : Int, byL g s 8 = byL g s k) := fun s => slots_all HS.out s hk
        have N8 := Lib.hid (HN.out.congr (g' := g) (k' := 8) (fun s _ => HS8.out s))
        go_wp2_with fail
        go_loopw [50] (fun jv W => ∃ j : Nat, jv = .int .i64 j ∧ j ≤ 8 ∧ Below w.heap.size w W ∧ TabIs W T g ∧ WantIs W G (G + 1) g 8) (fun jv _ => (8 - intOf jv).toNat)
        case atStart => exact ⟨0, rfl, by omega, HB.out, HT.out, N8.out⟩
        case round =>
          clear HB HT HN N8
          obtain ⟨j, rfl, hj, hb, ht, hn⟩ := hrel
          have HB := Lib.hid hb
          have HT := Lib.hid ht
          have HN := Lib.hid hn
          clear hb ht hn
          by_cases hlt2 : j < 8
          · have hjn : (0 : Int) ≤ (j : Int) := by omega
            have hji : (j : Int) < 8 := by omega
            go_wp2_with fail
            refine (tby_any _ T g j HT.out).mono ?_
            rintro e w5 ⟨v, rfl, hown, hb⟩
            obtain ⟨A, c, rfl, hp⟩ := pages_at hown
            have B5 := Lib.hid (bl_trans HB.out hb)
            have T5 := Lib.hid (HT.out.later hb)
            have N5 := Lib.hid (HN.out.later hb)
            have P5 := Lib.hid hp
            clear hb hown hp
            obtain ⟨V, h1, h2, h3, h4, h5, h6⟩ := N5.out
            obtain ⟨A2, c2, hV, hp2⟩ := pages_at (h2 j hlt2)
            have hc := h1 j hlt2
            rw [hV] at hc
            have Q5 := Lib.hid hp2
            clear h1 h2 h3 h4 h5 h6 hV hp2
            have hl8 := byL_le g j 8
            go_wp2_with fail
            go_loopw [65] (fun iv W => ∃ i : Nat, iv = .int .i64 i ∧ i ≤ (byL g j 8).length ∧ Below w.heap.size w W ∧ TabIs W T g ∧ WantIs W G (G + 1) g 8 ∧ W.cell? ⟨G, j, none⟩ = some (.slice A2 (byL g j 8).length c2) ∧ PagesAt W A (byL g j 8) ∧ PagesAt W A2 (byL g j 8)) (fun iv _ => ((byL g j 8).length - intOf iv).toNat)
            case atStart => exact ⟨0, rfl, by omega, B5.out, T5.out, N5.out, hc, P5.out, Q5.out⟩
            case round =>
              clear B5 T5 N5 P5 Q5 hc
              obtain ⟨i, rfl, hi, hb, ht, hn, hc, hp, hq⟩ := hrel
              have B5 := Lib.hid hb
              have T5 := Lib.hid ht
              have N5 := Lib.hid hn
              have P5 := Lib.hid hp
              have Q5 := Lib.hid hq
              clear hb ht hn hp hq
              by_cases hlt3 : i < (byL g j 8).length
              · have hin : (0 : Int) ≤ (i : Int) := by omega
                obtain ⟨b, rfl, _, e1⟩ := P5.out i hlt3
                obtain ⟨b2, rfl, _, e2⟩ := Q5.out i hlt3
                obtain ⟨y, hy⟩ : ∃ y : Nat, y = (byL g j 8).getD i 0 := ⟨_, rfl⟩
                rw [← hy] at e1 e2
                clear hy
                have hci : (i : Int) < ((byL g j 8).length : Int) := by omega
                go_wp2_with fail
                go_quiet (fail)
                go_wp2_with fail
                go_roundw
                case rel => exact ⟨i + 1, by go_num, by omega, dn B5.out _, T5.out.drewN _, N5.out, hc, P5.out, Q5.out⟩
                case measure => simp [intOf]; omega
              · obtain ⟨L, hL⟩ : ∃ L, L = (byL g j 8).length := ⟨_, rfl⟩
                rw [← hL] at hlt3 hi
                obtain rfl : i = L := by omega
                have hL2 := Lib.hid hL
                clear hlt3
                rw [← hL] at hc
                go_wp2_with fail
                go_roundw
                case rel => exact ⟨j + 1, by go_num, by omega, B5.out, T5.out, N5.out⟩
                case measure => simp [intOf]; omega
          · obtain rfl : j = 8 := by omega
            have hn1 := slots_none HS.out (-1) (.inl (by omega))
            have hn2 := slots_none HS.out 8 (.inr (by omega))
            have HN1 := Lib.hid hn1
            have HN2 := Lib.hid hn2
            clear hn1 hn2
            go_wp2_with fail
            refine (tby_any _ T g (-1) HT.out).mono ?_
            rintro e w5 ⟨v, rfl, hown, hb⟩
            obtain ⟨A, c, rfl, _⟩ := pages_at hown
            have B5 := Lib.hid (bl_trans HB.out hb)
            have T5 := Lib.hid (HT.out.later hb)
            clear hb hown
            rw [HN1.out]
            go_wp2_with fail
            refine (tby_any _ T g 8 T5.out).mono ?_
            rintro e w6 ⟨v, rfl, hown, hb⟩
            obtain ⟨A3, c3, rfl, _⟩ := pages_at hown
            have B6 := Lib.hid (bl_trans B5.out hb)
            clear hb hown
            rw [HN2.out]
            go_wp2_with fail
            go_ret
            exact ⟨rfl, B6.out⟩
      · clear hlt
        have HS8 : Hid (∀ s : Int, byL g s 8 = byL g s k) := fun s => slots_all HS.out s hk
        have N8 := Lib.hid (HN.out.congr (g' := g) (k' := 8) (fun s _ => HS8.out s))
        go_wp2_with fail
        go_loopw [50] (fun jv W => ∃ j : Nat, jv = .int .i64 j ∧ j ≤ 8 ∧ Below w.heap.size w W ∧ TabIs W T g ∧ WantIs W G (G + 1) g 8) (fun jv _ => (8 - intOf jv).toNat)
        case atStart => exact ⟨0, rfl, by omega, HB.out, HT.out, N8.out⟩
        case round =>
          clear HB HT HN N8
          obtain ⟨j, rfl, hj, hb, ht, hn⟩ := hrel
          have HB := Lib.hid hb
          have HT := Lib.hid ht
          have HN := Lib.hid hn
          clear hb ht hn
          by_cases hlt2 : j < 8
          · have hjn : (0 : Int) ≤ (j : Int) := by omega
            have hji : (j : Int) < 8 := by omega
            go_wp2_with fail
            refine (tby_any _ T g j HT.out).mono ?_
            rintro e w5 ⟨v, rfl, hown, hb⟩
            obtain ⟨A, c, rfl, hp⟩ := pages_at hown
            have B5 := Lib.hid (bl_trans HB.out hb)
            have T5 := Lib.hid (HT.out.later hb)
            have N5 := Lib.hid (HN.out.later hb)
            have P5 := Lib.hid hp
            clear hb hown hp
            obtain ⟨V, h1, h2, h3, h4, h5, h6⟩ := N5.out
            obtain ⟨A2, c2, hV, hp2⟩ := pages_at (h2 j hlt2)
            have hc := h1 j hlt2
            rw [hV] at hc
            have Q5 := Lib.hid hp2
            clear h1 h2 h3 h4 h5 h6 hV hp2
            have hl8 := byL_le g j 8
            go_wp2_with fail
            go_loopw [65] (fun iv W => ∃ i : Nat, iv = .int .i64 i ∧ i ≤ (byL g j 8).length ∧ Below w.heap.size w W ∧ TabIs W T g ∧ WantIs W G (G + 1) g 8 ∧ W.cell? ⟨G, j, none⟩ = some (.slice A2 (byL g j 8).length c2) ∧ PagesAt W A (byL g j 8) ∧ PagesAt W A2 (byL g j 8)) (fun iv _ => ((byL g j 8).length - intOf iv).toNat)
            case atStart => exact ⟨0, rfl, by omega, B5.out, T5.out, N5.out, hc, P5.out, Q5.out⟩
            case round =>
              clear B5 T5 N5 P5 Q5 hc
              obtain ⟨i, rfl, hi, hb, ht, hn, hc, hp, hq⟩ := hrel
              have B5 := Lib.hid hb
              have T5 := Lib.hid ht
              have N5 := Lib.hid hn
              have P5 := Lib.hid hp
              have Q5 := Lib.hid hq
              clear hb ht hn hp hq
              by_cases hlt3 : i < (byL g j 8).length
              · have hin : (0 : Int) ≤ (i : Int) := by omega
                obtain ⟨b, rfl, _, e1⟩ := P5.out i hlt3
                obtain ⟨b2, rfl, _, e2⟩ := Q5.out i hlt3
                obtain ⟨y, hy⟩ : ∃ y : Nat, y = (byL g j 8).getD i 0 := ⟨_, rfl⟩
                rw [← hy] at e1 e2
                clear hy
                have hci : (i : Int) < ((byL g j 8).length : Int) := by omega
                go_wp2_with fail
                go_quiet (fail)
                go_wp2_with fail
                go_roundw
                case rel => exact ⟨i + 1, by go_num, by omega, dn B5.out _, T5.out.drewN _, N5.out, hc, P5.out, Q5.out⟩
                case measure => simp [intOf]; omega
              · obtain ⟨L, hL⟩ : ∃ L, L = (byL g j 8).length := ⟨_, rfl⟩
                rw [← hL] at hlt3 hi
                obtain rfl : i = L := by omega
                have hL2 := Lib.hid hL
                clear hlt3
                rw [← hL] at hc
                go_wp2_with fail
                go_roundw
                case rel => exact ⟨j + 1, by go_num, by omega, B5.out, T5.out, N5.out⟩
                case measure => simp [intOf]; omega
          · obtain rfl : j = 8 := by omega
            have hn1 := slots_none HS.out (-1) (.inl (by omega))
            have hn2 := slots_none HS.out 8 (.inr (by omega))
            have HN1 := Lib.hid hn1
            have HN2 := Lib.hid hn2
            clear hn1 hn2
            go_wp2_with fail
            refine (tby_any _ T g (-1) HT.out).mono ?_
            rintro e w5 ⟨v, rfl, hown, hb⟩
            obtain ⟨A, c, rfl, _⟩ := pages_at hown
            have B5 := Lib.hid (bl_trans HB.out hb)
            have T5 := Lib.hid (HT.out.later hb)
            clear hb hown
            rw [HN1.out]
            go_wp2_with fail
            refine (tby_any _ T g 8 T5.out).mono ?_
            rintro e w6 ⟨v, rfl, hown, hb⟩
            obtain ⟨A3, c3, rfl, _⟩ := pages_at hown
            have B6 := Lib.hid (bl_trans B5.out hb)
            clear hb hown
            rw [HN2.out]
            go_wp2_with fail
            go_ret
            exact ⟨rfl, B6.out⟩
set_option maxRecDepth 100000 in
set_option maxHeartbeats 8000000 in
theorem tableBy_nil (w : World) (hbeg : ∀ W, Below w.heap.size w W → BegunAt W) :
    Calls Tryz.prog 5 #[.slice none 0 0] w fun e w' => e = .returned (.bool true) ∧ Below w.heap.size w w' := by
  have HGg := Lib.hid hbeg
  clear hbeg
  go_enter Tryz.func5, Tryz.ntmps5
  go_wp2_with fail
  refine Calls.mono (HGg.out _ (Below.refl _ _)) ?_
  rintro e w1 ⟨rfl, hb1⟩
  have B1 := Lib.hid hb1
  clear hb1 HGg
  go_wp2_with fail
  refine (tab_new _).mono ?_
  rintro e w2 ⟨rfl, hb2, ht2⟩
  obtain ⟨T, hT⟩ : ∃ T, T = w1.heap.size := ⟨_, rfl⟩
  rw [← hT] at ht2
  rw [← hT]
  have HTl : Hid (w.heap.size ≤ T) := by rw [hT]; exact B1.out.size
  have B2 := Lib.hid (bl_trans B1.out hb2)
  have T2 := Lib.hid ht2
  clear hb2 ht2 hT B1
  go_wp2_with fail
  obtain ⟨w3, hw3⟩ : ∃ w3, w3 = w2.alloc (.cells #[.slice none 0 0, .slice none 0 0, .slice none 0 0, .slice none 0 0, .slice none 0 0, .slice none 0 0, .slice none 0 0, .slice none 0 0] 35) := ⟨_, rfl⟩
  obtain ⟨G, hG⟩ : ∃ G, G = w2.heap.size := ⟨_, rfl⟩
  have N3 : Hid (WantIs w3 G (G + 1) (fun _ => 0) 0) := by rw [hw3, hG]; exact WantIs.new w2 _ _
  have T3 : Hid (TabIs w3 T (fun _ => 0)) := by rw [hw3]; exact T2.out.alloc _
  have B3 : Hid (Below w.heap.size w w3) := by rw [hw3]; exact B2.out.alloc B2.out.size _
  have HGT : Hid (T < G) := by rw [hG]; exact T2.out.2.2
  have HGl : Hid (w.heap.size ≤ G) := by rw [hG]; exact B2.out.size
  rw [← hw3, ← hG]
  clear hw3 hG T2 B2
  go_loopw [6] (fun iv W => ∃ (k : Nat) (g : Nat → Int), iv = .int .i64 k ∧ k ≤ 8 ∧ Below w.heap.size w W ∧ TabIs W T g ∧ WantIs W G (G + 1) g k ∧ Hid (SlotsIn g k)) (fun iv _ => (8 - intOf iv).toNat)
  case atStart => exact ⟨0, fun _ => 0, rfl, by omega, B3.out, T3.out, N3.out, fun p _ => ⟨fun _ => rfl, fun h => absurd rfl h⟩⟩
  case round =>
    obtain ⟨k, g, rfl, hk, hb, ht, hn, HS⟩ := hrel
    have HB := Lib.hid hb
    have HT := Lib.hid ht
    have HN := Lib.hid hn
    clear hb ht hn
    · skip
      have HS8 : Hid (∀ s : Int, byL g s 8 = byL g s k) := fun s => slots_all HS.out s hk
      have N8 := Lib.hid (HN.out.congr (g' := g) (k' := 8) (fun s _ => HS8.out s))
      go_wp2_with fail
      go_loopw [50] (fun jv W => ∃ j : Nat, jv = .int .i64 j ∧ j ≤ 8 ∧ Below w.heap.size w W ∧ TabIs W T g ∧ WantIs W G (G + 1) g 8) (fun jv _ => (8 - intOf jv).toNat)
      case atStart => exact ⟨0, rfl, by omega, HB.out, HT.out, N8.out⟩
      case round =>
        clear HB HT HN N8
        obtain ⟨j, rfl, hj, hb, ht, hn⟩ := hrel
        have HB := Lib.hid hb
        have HT := Lib.hid ht
        have HN := Lib.hid hn
        clear hb ht hn
        by_cases hlt2 : j < 8
        · have hjn : (0 : Int) ≤ (j : Int) := by omega
          have hji : (j : Int) < 8 := by omega
          go_wp2_with fail
          refine (tby_any _ T g j HT.out).mono ?_
          rintro e w5 ⟨v, rfl, hown, hb⟩
          obtain ⟨A, c, rfl, hp⟩ := pages_at hown
          have B5 := Lib.hid (bl_trans HB.out hb)
          have T5 := Lib.hid (HT.out.later hb)
          have N5 := Lib.hid (HN.out.later hb)
          have P5 := Lib.hid hp
          clear hb hown hp
          obtain ⟨V, h1, h2, h3, h4, h5, h6⟩ := N5.out
          obtain ⟨A2, c2, hV, hp2⟩ := pages_at (h2 j hlt2)
          have hc := h1 j hlt2
          rw [hV] at hc
          have Q5 := Lib.hid hp2
          clear h1 h2 h3 h4 h5 h6 hV hp2
          have hl8 := byL_le g j 8
          go_wp2_with fail
          go_loopw [65] (fun iv W => ∃ i : Nat, iv = .int .i64 i ∧ i ≤ (byL g j 8).length ∧ Below w.heap.size w W ∧ TabIs W T g ∧ WantIs W G (G + 1) g 8 ∧ W.cell? ⟨G, j, none⟩ = some (.slice A2 (byL g j 8).length c2) ∧ PagesAt W A (byL g j 8) ∧ PagesAt W A2 (byL g j 8)) (fun iv _ => ((byL g j 8).length - intOf iv).toNat)
          case atStart => exact ⟨0, rfl, by omega, B5.out, T5.out, N5.out, hc, P5.out, Q5.out⟩
          case round =>
            clear B5 T5 N5 P5 Q5 hc
            obtain ⟨i, rfl, hi, hb, ht, hn, hc, hp, hq⟩ := hrel
            have B5 := Lib.hid hb
            have T5 := Lib.hid ht
            have N5 := Lib.hid hn
            have P5 := Lib.hid hp
            have Q5 := Lib.hid hq
            clear hb ht hn hp hq
            by_cases hlt3 : i < (byL g j 8).length
            · have hin : (0 : Int) ≤ (i : Int) := by omega
              obtain ⟨b, rfl, _, e1⟩ := P5.out i hlt3
              obtain ⟨b2, rfl, _, e2⟩ := Q5.out i hlt3
              obtain ⟨y, hy⟩ : ∃ y : Nat, y = (byL g j 8).getD i 0 := ⟨_, rfl⟩
              rw [← hy] at e1 e2
              clear hy
              have hci : (i : Int) < ((byL g j 8).length : Int) := by omega
              go_wp2_with fail
              go_quiet (fail)
              go_wp2_with fail
              go_roundw
              case rel => exact ⟨i + 1, by go_num, by omega, dn B5.out _, T5.out.drewN _, N5.out, hc, P5.out, Q5.out⟩
              case measure => simp [intOf]; omega
            · obtain ⟨L, hL⟩ : ∃ L, L = (byL g j 8).length := ⟨_, rfl⟩
              rw [← hL] at hlt3 hi
              obtain rfl : i = L := by omega
              have hL2 := Lib.hid hL
              clear hlt3
              rw [← hL] at hc
              go_wp2_with fail
              go_roundw
              case rel => exact ⟨j + 1, by go_num, by omega, B5.out, T5.out, N5.out⟩
              case measure => simp [intOf]; omega
        · obtain rfl : j = 8 := by omega
          have hn1 := slots_none HS.out (-1) (.inl (by omega))
          have hn2 := slots_none HS.out 8 (.inr (by omega))
          have HN1 := Lib.hid hn1
          have HN2 := Lib.hid hn2
          clear hn1 hn2
          go_wp2_with fail
          refine (tby_any _ T g (-1) HT.out).mono ?_
          rintro e w5 ⟨v, rfl, hown, hb⟩
          obtain ⟨A, c, rfl, _⟩ := pages_at hown
          have B5 := Lib.hid (bl_trans HB.out hb)
          have T5 := Lib.hid (HT.out.later hb)
          clear hb hown
          rw [HN1.out]
          go_wp2_with fail
          refine (tby_any _ T g 8 T5.out).mono ?_
          rintro e w6 ⟨v, rfl, hown, hb⟩
          obtain ⟨A3, c3, rfl, _⟩ := pages_at hown
          have B6 := Lib.hid (bl_trans B5.out hb)
          clear hb hown
          rw [HN2.out]
          go_wp2_with fail
          go_ret
          exact ⟨rfl, B6.out⟩
end Go.Proofs.YtfpnpgpelncgeabGreatDoor
