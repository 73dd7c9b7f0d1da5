/- What is proved here: contracts of package caps: what is below, what goes; package caps keeps its chapter. Conditions: those that each theorem names. -/
import Derived.Test.YtdfhfmdelinemaaGreatDoorCapsP
import Derived.Test.YtdfhfmdelinemaaGreatDoorSame
import Derived.Laws.NewBlocks
namespace Go.Proofs.YtdfhfmdelinemaaGreatDoor
open Go.RowKit Go.Extern.Stop Go.Stop Go.Extern Go.WalkArith
def belowQ (k : KernS) (a b : Int) (e s : Nat) : Bool := fromI k a b 32 (e * 8 + s)
def withinQ (k : KernS) (a b : Int) (e s : Nat) : Bool := decide ((e : Int) = a ∧ (s : Int) = b) || fromI k a b 32 (e * 8 + s)
theorem range_cut {p : Nat → Bool} {n : Nat} (hn : n ≤ 32) (h : ∀ i, n ≤ i → i < 32 → p i = false) : (List.range 32).filter p = (List.range n).filter p := by
 obtain ⟨m, hm⟩ : ∃ m, 32 = n + m := ⟨32 - n, by omega⟩
 rw [hm, List.range_add, List.filter_append]
 have h2 : ((List.range m).map (n + ·)).filter p = [] := by
  rw [List.filter_eq_nil_iff]
  intro i hi
  obtain ⟨j, hj, rfl⟩ := List.mem_map.1 hi
  have := List.mem_range.1 hj
  rw [h (n + j) (by omega) (by omega)]
  decide
 rw [h2, List.append_nil]
section
variable {k : KernS} {E : Nat}
theorem TreeOk.beyond (hk : TreeOk k) (hE : k.envs = (E : Int)) {i : Nat} (hi : E * 8 ≤ i) : (k.sl (i / 8) (i % 8)).is = false := hk.out _ _ (by rw [hE]; omega)
theorem tgone_iff {a b : Int} : tgoneE k a b = 0 ↔ inB k a b = true ∧ (k.sl a.toNat b.toNat).is = true := by
 unfold tgoneE
 by_cases h1 : inB k a b = true
 ·rw [if_pos h1]
  by_cases h2 : (k.sl a.toNat b.toNat).is = true
  ·rw [if_pos h2]
   exact ⟨fun _ => ⟨h1, h2⟩, fun _ => rfl⟩
  ·rw [if_neg h2]
   exact ⟨fun h => absurd h (by decide), fun h => absurd h.2 h2⟩
 ·rw [if_neg h1]
  exact ⟨fun h => absurd h (by decide), fun h => absurd h.1 h1⟩
theorem from_eq (hk : TreeOk k) {a b : Int} (h : tgoneE k a b = 0) (i : Nat) : ((k.sl (i / 8) (i % 8)).is && fromI k a b 32 (i / 8 * 8 + i % 8)) = fromB k (a.toNat * 8 + b.toNat) 32 i := by
 obtain ⟨h1, h2⟩ := tgone_iff.1 h
 have h3 := in_of h1
 have hm : i % 8 < 8 := by omega
 have hi : i = i / 8 * 8 + i % 8 := by omega
 cases hs : (k.sl (i / 8) (i % 8)).is
 ·rw [Bool.false_and]
  have := fromB_empty (q := a.toNat * 8 + b.toNat) (n := 32) hm hs
  rw [← hi] at this
  exact this.symm
 ·rw [Bool.true_and]
  have ha : ((a.toNat : Nat) : Int) = a := by omega
  have hb : ((b.toNat : Nat) : Int) = b := by omega
  have h4 := fromI_yes hk (x := a.toNat) (y := b.toNat) (by omega) 32 (i / 8) (i % 8) hm hs
  rw [ha, hb, ← hi] at h4
  rw [← hi]
  exact h4
theorem sel_below (hk : TreeOk k) (hE : k.envs = (E : Int)) (a b : Int) : selL (belowQ k a b) k (E * 8) = tbelowL k a b := by
 have h4 := hk.envs
 unfold tbelowL
 by_cases h : tgoneE k a b = 0
 ·rw [if_pos h]
  unfold selL belowL
  rw [range_cut (p := fromB k (a.toNat * 8 + b.toNat) 32) (n := E * 8) (by omega) fun i hi _ => by rw [← from_eq hk h i, hk.beyond hE hi, Bool.false_and]]
  exact List.filter_congr fun i _ => from_eq hk h i
 ·rw [if_neg h]
  unfold selL
  rw [List.filter_eq_nil_iff]
  intro i _
  cases hs : (k.sl (i / 8) (i % 8)).is
  ·rw [Bool.false_and]
   decide
  ·unfold belowQ
   rw [fromI_no hk (fun hc => h (tgone_iff.2 hc)) 32 (i / 8) (i % 8) (by omega) hs]
   decide
theorem sel_gone (hk : TreeOk k) (hE : k.envs = (E : Int)) {a b : Int} (h : tgoneE k a b = 0) (it : Bool) : selL (if it = true then withinQ k a b else belowQ k a b) k (E * 8) = tgoneL k a b it := by
 have h4 := hk.envs
 obtain ⟨h1, h2⟩ := tgone_iff.1 h
 have h3 := in_of h1
 unfold tgoneL
 rw [if_pos h]
 unfold selL goneL
 have hq : ∀ i : Nat, ((k.sl (i / 8) (i % 8)).is && (if it = true then withinQ k a b else belowQ k a b) (i / 8) (i % 8)) = ((it && decide (i = a.toNat * 8 + b.toNat)) || fromB k (a.toNat * 8 + b.toNat) 32 i) := by
  intro i
  rw [← from_eq hk h i]
  cases it
  ·rw [if_neg (by decide), Bool.false_and, Bool.false_or]
   rfl
  ·rw [if_pos rfl, Bool.true_and]
   unfold withinQ
   by_cases hc : i = a.toNat * 8 + b.toNat
   ·have e1 : i / 8 = a.toNat := by omega
    have e2 : i % 8 = b.toNat := by omega
    rw [decide_eq_true hc, Bool.true_or, e1, e2, h2, decide_eq_true ⟨by omega, by omega⟩, Bool.true_or]
    rfl
   ·rw [decide_eq_false hc, Bool.false_or, decide_eq_false (by omega), Bool.false_or]
 rw [range_cut (n := E * 8) (by omega) fun i hi _ => by rw [← hq i, hk.beyond hE hi, Bool.false_and]]
 exact List.filter_congr fun i _ => hq i
end
def ClosAt (P t1 t2 : Nat) (a b : Int) (W : World) : Prop := (W.cell? ⟨t1, 0, none⟩ = some (.pointer (some ⟨P, 0, none⟩)) ∧ t1 < W.heap.size) ∧ W.cell? ⟨t2, 0, none⟩ = some (.int .i64 a) ∧ W.cell? ⟨t2, 1, none⟩ = some (.int .i64 b) ∧ t2 < W.heap.size
theorem ClosAt.foot {P t1 t2 : Nat} {a b : Int} {w : World} (h1 : t1 < w.heap.size) (h2 : t2 < w.heap.size) : ∀ W W' : World, ClosAt P t1 t2 a b W → W.heap.size ≤ W'.heap.size → (∀ j, j < w.heap.size → W'.heap[j]? = W.heap[j]?) → ClosAt P t1 t2 a b W' :=
 fun _ _ h hs hb => ⟨⟨(World.cell?_of_block (a := ⟨t1, 0, none⟩) (hb t1 h1)).trans h.1.1, Nat.lt_of_lt_of_le h.1.2 hs⟩, (World.cell?_of_block (a := ⟨t2, 0, none⟩) (hb t2 h2)).trans h.2.1, (World.cell?_of_block (a := ⟨t2, 1, none⟩) (hb t2 h2)).trans h.2.2.1, Nat.lt_of_lt_of_le h.2.2.2 hs⟩
theorem ClosAt.later {P t1 t2 : Nat} {a b : Int} {W W' : World} (h : ClosAt P t1 t2 a b W) (hb : Below W.heap.size W W') : ClosAt P t1 t2 a b W' := ClosAt.foot (w := W) h.1.2 h.2.2.2 W W' h hb.size hb.block
theorem clo_below {P G E t1 t2 : Nat} {k : KernS} {a b : Int} (W : World) (e s : Nat) (hh : ClosAt P t1 t2 a b W) (h : TreeIs W P G E k) (he : e < E) (hs : s < 8) (hi : (k.sl e s).is = true) :
  Calls Tryz.prog 91 #[.agg #[.int .i64 (e : Int), .int .i64 (s : Int)], .agg #[.int .i64 (capI (k.sl e s) 0), .int .i64 (capI (k.sl e s) 1), .int .i64 (capI (k.sl e s) 2), .int .i64 (capI (k.sl e s) 3)], .pointer (some ⟨t1, 0, none⟩), .pointer (some ⟨t2, 0, none⟩)] W fun z w' => z = .returned (.bool (belowQ k a b e s)) ∧ Below W.heap.size W w' := by
 have HC := Lib.hid (fun V hV => cfrom_any (P := P) (G := G) he hs hi a b V hV)
 have HT := Lib.hid h
 have HH := Lib.hid hh
 clear h hh hi
 obtain ⟨q, hq⟩ : ∃ q, belowQ k a b e s = q := ⟨_, rfl⟩
 unfold belowQ at hq
 rw [show belowQ k a b e s = q from hq]
 rw [hq] at HC
 clear hq
 obtain ⟨⟨b0, l1⟩, c0, c1, l2⟩ := HH.out
 go_enter Tryz.func91, Tryz.ntmps91
 go_wp2_with fail
 refine (HC.out _ (HT.out.later (((Below.refl _ _).alloc (Nat.le_refl _) _).alloc (by simp) _))).mono ?_
 rintro z w1 ⟨rfl, hb⟩
 have B1 := Lib.hid (two_kept hb).2.2
 clear hb
 go_wp2_with fail
 go_ret
 exact ⟨rfl, B1.out⟩
theorem clo_within {P G E t1 t2 : Nat} {k : KernS} {a b : Int} (W : World) (e s : Nat) (hh : ClosAt P t1 t2 a b W) (h : TreeIs W P G E k) (he : e < E) (hs : s < 8) (hi : (k.sl e s).is = true) :
  Calls Tryz.prog 180 #[.agg #[.int .i64 (e : Int), .int .i64 (s : Int)], .agg #[.int .i64 (capI (k.sl e s) 0), .int .i64 (capI (k.sl e s) 1), .int .i64 (capI (k.sl e s) 2), .int .i64 (capI (k.sl e s) 3)], .pointer (some ⟨t2, 0, none⟩), .pointer (some ⟨t1, 0, none⟩)] W fun z w' => z = .returned (.bool (withinQ k a b e s)) ∧ Below W.heap.size W w' := by
 have HC := Lib.hid (fun V hV => cfrom_any (P := P) (G := G) he hs hi a b V hV)
 have HT := Lib.hid h
 have HH := Lib.hid hh
 clear h hh hi
 obtain ⟨q, hq⟩ : ∃ q, fromI k a b 32 (e * 8 + s) = q := ⟨_, rfl⟩
 rw [hq] at HC
 obtain ⟨⟨b0, l1⟩, c0, c1, l2⟩ := HH.out
 by_cases hc : (e : Int) = a ∧ (s : Int) = b
 ·have hv : withinQ k a b e s = true := by
   unfold withinQ
   rw [decide_eq_true hc, Bool.true_or]
  rw [hv]
  obtain ⟨rfl, rfl⟩ := hc
  clear hv hq HC
  go_enter Tryz.func180, Tryz.ntmps180
  go_wp2_with fail
  go_ret
  exact ⟨rfl, ((Below.refl _ _).alloc (Nat.le_refl _) _).alloc (by simp) _⟩
 ·have hv : withinQ k a b e s = q := by
   unfold withinQ
   rw [decide_eq_false hc, Bool.false_or, hq]
  rw [hv]
  clear hv hq
  rcases (show ((e : Int) = a ∧ ¬ (s : Int) = b) ∨ ¬ (e : Int) = a by omega) with ⟨rfl, hy⟩ | hx
  all_goals
   clear hc
   go_enter Tryz.func180, Tryz.ntmps180
   go_wp2_with fail
   refine (HC.out _ (HT.out.later (((Below.refl _ _).alloc (Nat.le_refl _) _).alloc (by simp) _))).mono ?_
   rintro z w1 ⟨rfl, hb⟩
   have B1 := Lib.hid (two_kept hb).2.2
   clear hb
   go_wp2_with fail
   go_ret
   exact ⟨rfl, B1.out⟩
def ListIs (w W : World) (v : Value) (l : List Nat) : Prop := SliceIs W v l.length (placesV l) ∧ ∀ g c, v = .slice (some ⟨g, 0, none⟩) l.length c → 0 < l.length → w.heap.size ≤ g
theorem own_list {w W : World} {base : Nat} {v : Value} {l : List Nat} (h : W.ownsRow base 168 2 v l.length (placesV l)) (hb : w.heap.size ≤ base) : ListIs w W v l := by
 refine ⟨own_slice h, fun g c hv hl => ?_⟩
 obtain ⟨_, ⟨_, h2⟩ | ⟨g', cap, cur, h1, h3, _⟩⟩ := h
 ·omega
 ·rw [hv] at h1
  injection h1 with h1
  injection h1 with h1
  injection h1 with h1
  omega
theorem cbelow_any {P G E : Nat} {k : KernS} (a b : Int) (w : World) (h : TreeIs w P G E k) :
  Calls Tryz.prog 37 #[.pointer (some ⟨P, 0, none⟩), .int .i64 a, .int .i64 b] w fun x w' => ∃ v, x = .returned v ∧ ListIs w w' v (selL (belowQ k a b) k (E * 8)) ∧ Below w.heap.size w w' := by
 have HT := Lib.hid h
 clear h
 go_enter Tryz.func37, Tryz.ntmps37
 go_wp2_with fail
 obtain ⟨t1, ht1⟩ : ∃ t, t = w.heap.size := ⟨_, rfl⟩
 obtain ⟨t2, ht2⟩ : ∃ t, t = w.heap.size + 1 := ⟨_, rfl⟩
 obtain ⟨w1, hw1⟩ : ∃ w1, w1 = (w.alloc (.cells #[.pointer (some ⟨P, 0, none⟩)] 66)).alloc (.cells #[.int .i64 a, .int .i64 b] 168) := ⟨_, rfl⟩
 have K := Lib.hid (two_kept (w := w) (o1 := .cells #[.pointer (some ⟨P, 0, none⟩)] 66) (o2 := .cells #[.int .i64 a, .int .i64 b] 168) (Below.refl _ _))
 rw [← hw1, ← ht2, ← ht1] at K
 have HH : Hid (ClosAt P t1 t2 a b w1) := ⟨⟨bk_cell K.out.1 0, bk_lt K.out.1⟩, bk_cell K.out.2.1 0, bk_cell K.out.2.1 1, bk_lt K.out.2.1⟩
 have B1 : Hid (Below w.heap.size w w1) := by rw [ht1] at K; exact K.out.2.2
 have T1 := Lib.hid (HT.out.later B1.out)
 have l1 : t1 < w1.heap.size := bk_lt K.out.1
 have l2 : t2 < w1.heap.size := bk_lt K.out.2.1
 rw [← hw1, ← ht2, ← ht1]
 clear hw1 ht1 ht2 K HT
 refine (cplaces_below (belowQ k a b) (ClosAt P t1 t2 a b) t1 t2 w1 (ClosAt.foot l1 l2) (fun W e s h1 h2 h3 h4 h5 => clo_below W e s h1 h2 h3 h4 h5) T1.out HH.out).mono ?_
 rintro x w2 ⟨v, rfl, ho, hb⟩
 have L2 := Lib.hid (own_list ho B1.out.size)
 have B2 := Lib.hid (bl_trans B1.out hb)
 clear ho hb
 go_wp2_with fail
 go_ret
 exact ⟨v, rfl, L2.out, B2.out⟩
theorem cwithin_any {P G E : Nat} {k : KernS} (a b : Int) (w : World) (h : TreeIs w P G E k) :
  Calls Tryz.prog 154 #[.pointer (some ⟨P, 0, none⟩), .int .i64 a, .int .i64 b] w fun x w' => ∃ v, x = .returned v ∧ ListIs w w' v (selL (withinQ k a b) k (E * 8)) ∧ Below w.heap.size w w' := by
 have HT := Lib.hid h
 clear h
 go_enter Tryz.func154, Tryz.ntmps154
 go_wp2_with fail
 obtain ⟨t1, ht1⟩ : ∃ t, t = w.heap.size := ⟨_, rfl⟩
 obtain ⟨t2, ht2⟩ : ∃ t, t = w.heap.size + 1 := ⟨_, rfl⟩
 obtain ⟨w1, hw1⟩ : ∃ w1, w1 = (w.alloc (.cells #[.pointer (some ⟨P, 0, none⟩)] 66)).alloc (.cells #[.int .i64 a, .int .i64 b] 168) := ⟨_, rfl⟩
 have K := Lib.hid (two_kept (w := w) (o1 := .cells #[.pointer (some ⟨P, 0, none⟩)] 66) (o2 := .cells #[.int .i64 a, .int .i64 b] 168) (Below.refl _ _))
 rw [← hw1, ← ht2, ← ht1] at K
 have HH : Hid (ClosAt P t1 t2 a b w1) := ⟨⟨bk_cell K.out.1 0, bk_lt K.out.1⟩, bk_cell K.out.2.1 0, bk_cell K.out.2.1 1, bk_lt K.out.2.1⟩
 have B1 : Hid (Below w.heap.size w w1) := by rw [ht1] at K; exact K.out.2.2
 have T1 := Lib.hid (HT.out.later B1.out)
 have l1 : t1 < w1.heap.size := bk_lt K.out.1
 have l2 : t2 < w1.heap.size := bk_lt K.out.2.1
 rw [← hw1, ← ht2, ← ht1]
 clear hw1 ht1 ht2 K HT
 refine (cplaces_within (withinQ k a b) (ClosAt P t1 t2 a b) t2 t1 w1 (ClosAt.foot l1 l2) (fun W e s h1 h2 h3 h4 h5 => clo_within W e s h1 h2 h3 h4 h5) T1.out HH.out).mono ?_
 rintro x w2 ⟨v, rfl, ho, hb⟩
 have L2 := Lib.hid (own_list ho B1.out.size)
 have B2 := Lib.hid (bl_trans B1.out hb)
 clear ho hb
 go_wp2_with fail
 go_ret
 exact ⟨v, rfl, L2.out, B2.out⟩
end Go.Proofs.YtdfhfmdelinemaaGreatDoor
namespace Go.Proofs.YtdfhfmdelinemaaGreatDoor
open Go.RowKit Go.Extern.Stop Go.Stop Go.Extern Go.WalkArith
theorem nums_clr {w : World} {G E : Nat} {k : KernS} (h : NumsIs (E * 32) w G (treeG k)) {e s : Nat} (he : e < E) (hs : s < 8) :
  NumsIs (E * 32) ((((w.setCell ⟨G, e * 32 + s * 4, none⟩ (.int .i64 0)).setCell ⟨G, e * 32 + s * 4 + 1, none⟩ (.int .i64 0)).setCell ⟨G, e * 32 + s * 4 + 2, none⟩ (.int .i64 0)).setCell ⟨G, e * 32 + s * 4 + 3, none⟩ (.int .i64 0)) G (treeG (clr k e s 8)) := by
 have b3 : e * 32 + s * 4 + 3 < E * 32 := by omega
 have n0 := h.set (i := e * 32 + s * 4) (by omega) 0
 have n1 := n0.set (i := e * 32 + s * 4 + 1) (by omega) 0
 have n2 := n1.set (i := e * 32 + s * 4 + 2) (by omega) 0
 have n3 := n2.set (i := e * 32 + s * 4 + 3) b3 0
 refine n3.congr fun j hj => ?_
 clear n0 n1 n2 n3
 have e1 : treeG (clr k e s 8) j = capI (if j / 32 = e ∧ j % 32 / 4 = s then noSlot else k.sl (j / 32) (j % 32 / 4)) (j % 4) := rfl
 rw [e1]
 by_cases hc : j / 32 = e ∧ j % 32 / 4 = s
 ·rw [if_pos hc]
  have h0 : capI noSlot (j % 4) = 0 := capI_no rfl _
  rw [h0]
  by_cases c3 : j = e * 32 + s * 4 + 3
  ·rw [if_pos c3]
  rw [if_neg c3]
  by_cases c2 : j = e * 32 + s * 4 + 2
  ·rw [if_pos c2]
  rw [if_neg c2]
  by_cases c1 : j = e * 32 + s * 4 + 1
  ·rw [if_pos c1]
  rw [if_neg c1, if_pos (by omega)]
 ·rw [if_neg hc, if_neg (by omega), if_neg (by omega), if_neg (by omega), if_neg (by omega)]
  rfl
theorem goneF_take {k : KernS} {l : List Nat} {i : Nat} (hi : i < l.length) : goneF k (l.take (i + 1)) = clr (goneF k (l.take i)) (l.getD i 0 / 8) (l.getD i 0 % 8) 8 := by
 rw [List.take_succ_eq_append_getElem hi, goneF_snoc]
 have e1 : l.getD i 0 = l[i] := by simp [List.getD, hi]
 rw [e1]
theorem selL_mem {Q : Nat → Nat → Bool} {k : KernS} {n j : Nat} (h : j ∈ selL Q k n) : j < n := by
 unfold selL at h
 exact List.mem_range.1 (List.mem_filter.1 h).1
structure GoneAt (w : World) (P G E : Nat) (k : KernS) (l : List Nat) (g i : Nat) (W : World) : Prop where
 top : W.cell? ⟨P, 0, none⟩ = some (.slice (some ⟨G, 0, none⟩) E E)
 lp : P < W.heap.size
 nums : NumsIs (E * 32) W G (treeG (goneF k (l.take i)))
 list : 0 < l.length → g < W.heap.size ∧ ∀ j, j < l.length → W.cell? ⟨g, j * 2, none⟩ = some (.int .i64 ((l.getD j 0 / 8 : Nat) : Int)) ∧ W.cell? ⟨g, j * 2 + 1, none⟩ = some (.int .i64 ((l.getD j 0 % 8 : Nat) : Int))
 only : OnlyT G w W
theorem GoneAt.later {w : World} {P G E : Nat} {k : KernS} {l : List Nat} {g i : Nat} {W W' : World} (h : GoneAt w P G E k l g i W) (hb : Below W.heap.size W W') : GoneAt w P G E k l g i W' :=
 ⟨(hb.cell (p := ⟨P, 0, none⟩) h.lp).trans h.top, Nat.lt_of_lt_of_le h.lp hb.size, h.nums.later hb, fun hl => ⟨Nat.lt_of_lt_of_le (h.list hl).1 hb.size, fun j hj => ⟨(hb.cell (p := ⟨g, j * 2, none⟩) (h.list hl).1).trans ((h.list hl).2 j hj).1, (hb.cell (p := ⟨g, j * 2 + 1, none⟩) (h.list hl).1).trans ((h.list hl).2 j hj).2⟩⟩, tp_trans h.only (tp_below hb)⟩
theorem GoneAt.step {w : World} {P G E : Nat} {k : KernS} {l : List Nat} {g i : Nat} {W : World} (h : GoneAt w P G E k l g i W) (hPG : P ≠ G) (hg : 0 < l.length → g ≠ G) (hi : i < l.length) (he : l.getD i 0 / 8 < E) :
  GoneAt w P G E k l g (i + 1) ((((W.setCell ⟨G, l.getD i 0 / 8 * 32 + l.getD i 0 % 8 * 4, none⟩ (.int .i64 0)).setCell ⟨G, l.getD i 0 / 8 * 32 + l.getD i 0 % 8 * 4 + 1, none⟩ (.int .i64 0)).setCell ⟨G, l.getD i 0 / 8 * 32 + l.getD i 0 % 8 * 4 + 2, none⟩ (.int .i64 0)).setCell ⟨G, l.getD i 0 / 8 * 32 + l.getD i 0 % 8 * 4 + 3, none⟩ (.int .i64 0)).drew := by
 have hn := nums_clr h.nums he (show l.getD i 0 % 8 < 8 by omega)
 rw [← goneF_take hi] at hn
 generalize l.getD i 0 / 8 * 32 + l.getD i 0 % 8 * 4 = o at hn ⊢
 have hfar : ∀ j, j ≠ G → ((((W.setCell ⟨G, o, none⟩ (.int .i64 0)).setCell ⟨G, o + 1, none⟩ (.int .i64 0)).setCell ⟨G, o + 2, none⟩ (.int .i64 0)).setCell ⟨G, o + 3, none⟩ (.int .i64 0)).drew.heap[j]? = W.heap[j]? := fun j hj =>
  (Below.heap_setCell _ _ _ j hj).trans ((Below.heap_setCell _ _ _ j hj).trans ((Below.heap_setCell _ _ _ j hj).trans (Below.heap_setCell _ _ _ j hj)))
 refine ⟨(World.cell?_of_block (a := ⟨P, 0, none⟩) (hfar P hPG)).trans h.top, by simpa using h.lp, NumsIs.drewN (m := 1) hn, fun hl => ⟨by simpa using (h.list hl).1, fun j hj => ⟨(World.cell?_of_block (a := ⟨g, j * 2, none⟩) (hfar g (hg hl))).trans ((h.list hl).2 j hj).1, (World.cell?_of_block (a := ⟨g, j * 2 + 1, none⟩) (hfar g (hg hl))).trans ((h.list hl).2 j hj).2⟩⟩, ?_⟩
 exact tk_drew (tk_four h.only _ _ _ _ _ _ _ _)
theorem slice_places {W : World} {g : Nat} {l : List Nat} (h : ∀ j, j < l.length → W.cell? ⟨g, j * 2, none⟩ = some (.int .i64 ((l.getD j 0 / 8 : Nat) : Int)) ∧ W.cell? ⟨g, j * 2 + 1, none⟩ = some (.int .i64 ((l.getD j 0 % 8 : Nat) : Int))) (i : Nat) (x : Value) (hx : (placesV l)[i]? = some x) : W.cell? ⟨g, i, none⟩ = some x := by
 have hlen : (placesV l).length = l.length * 2 := by
  clear h hx
  induction l with
  | nil => rfl
  | cons a l ih =>
   have e1 : placesV (a :: l) = [Value.int .i64 ((a / 8 : Nat) : Int), Value.int .i64 ((a % 8 : Nat) : Int)] ++ placesV l := rfl
   rw [e1, List.length_append, ih]
   simp only [List.length_cons, List.length_nil]
   omega
 have hi : i < l.length * 2 := by
  rw [← hlen]
  exact (List.getElem?_eq_some_iff.1 hx).1
 have hj : i / 2 < l.length := by omega
 obtain ⟨h1, h2⟩ := places_at l (i / 2) hj
 obtain ⟨h3, h4⟩ := h (i / 2) hj
 rcases (show i = i / 2 * 2 ∨ i = i / 2 * 2 + 1 by omega) with h5 | h5
 ·rw [← h5] at h1 h3
  rw [h3, ← hx, h1]
 ·rw [← h5] at h2 h4
  rw [h4, ← hx, h2]
theorem list_nil (w W : World) : ListIs w W (.slice none 0 0) [] := ⟨⟨none, 0, 0, rfl, fun h => absurd h (Nat.lt_irrefl 0)⟩, fun _ _ _ h => absurd h (Nat.lt_irrefl 0)⟩
def GonePost (P G E : Nat) (k : KernS) (a b : Int) (it : Bool) (w : World) (x : Ending) (w' : World) : Prop :=
 ∃ v, x = .returned (.tuple #[v, .int .i64 (tgoneE k a b)]) ∧ ListIs w w' v (tgoneL k a b it) ∧ TreeIs w' P G E (tgoneS k a b it) ∧ OnlyT G w w'
theorem gone_no {P G E : Nat} {k : KernS} {a b : Int} {it : Bool} {w w' : World} {n : Int} (hn : ¬ n = 0) (h1 : tgoneE k a b = n) (ht : TreeIs w' P G E k) (hb : Below w.heap.size w w') : GonePost P G E k a b it w (.returned (.tuple #[.slice none 0 0, .int .i64 n])) w' := by
 obtain ⟨e1, e2⟩ := tgone_no (it := it) (k := k) (e := a) (s := b) (by rw [h1]; exact hn)
 refine ⟨.slice none 0 0, by rw [h1], ?_, ?_, tp_below hb⟩
 ·rw [e1]
  exact list_nil _ _
 ·rw [e2]
  exact ht
set_option maxHeartbeats 2000000 in
theorem cempty_below {P G E : Nat} {k : KernS} (a b : Int) (w : World) (h : TreeIs w P G E k) :
  Calls Tryz.prog 152 #[.pointer (some ⟨P, 0, none⟩), .int .i64 a, .int .i64 b, .func (.func 37) #[.pointer (some ⟨P, 0, none⟩)] #[]] w (GonePost P G E k a b false w) := by
 have HT := Lib.hid h
 clear h
 by_cases ho : inB k a b = true
 ·have hin := in_of ho
  have hE := HT.out.envs
  obtain ⟨e, rfl⟩ : ∃ n : Nat, a = (n : Int) := ⟨a.toNat, by omega⟩
  obtain ⟨s, rfl⟩ : ∃ n : Nat, b = (n : Int) := ⟨b.toNat, by omega⟩
  have he : e < E := by omega
  have hs : s < 8 := by omega
  have e0 : tgoneE k (e : Int) (s : Int) = if (k.sl e s).is = true then 0 else 3 := by
   unfold tgoneE
   rw [if_pos ho, Int.toNat_natCast, Int.toNat_natCast]
  clear hin hE ho
  have HC := Lib.hid (fun W h => ctaken_in (k := k) (P := P) (G := G) he hs W h)
  cases hi : (k.sl e s).is
  ·rw [hi, if_neg (by decide)] at e0
   rw [takenE_no hi] at HC
   have HE := Lib.hid e0
   clear hi e0
   go_enter Tryz.func152, Tryz.ntmps152
   go_wp2_with fail
   refine (HC.out _ HT.out).mono ?_
   rintro x w1 ⟨rfl, hb⟩
   have B1 := Lib.hid hb
   clear hb
   go_wp2_with fail
   go_ret2
   exact gone_no (by decide) HE.out ((HT.out.later B1.out).later ((Below.refl _ _).alloc (Nat.le_refl _) _)) (B1.out.alloc B1.out.size _)
  ·rw [hi, if_pos rfl] at e0
   rw [takenE_yes hi] at HC
   have HE := Lib.hid e0
   have HSEL := Lib.hid (show selL (belowQ k (e : Int) (s : Int)) k (E * 8) = tgoneL k (e : Int) (s : Int) false from sel_gone HT.out.ok HT.out.envs e0 false)
   clear hi e0
   go_enter Tryz.func152, Tryz.ntmps152
   go_wp2_with fail
   refine (HC.out _ HT.out).mono ?_
   rintro x w1 ⟨rfl, hb⟩
   have B1 := Lib.hid hb
   clear hb
   go_wp2_with fail
   refine (cbelow_any (e : Int) (s : Int) _ ((HT.out.later B1.out).later ((Below.refl _ _).alloc (Nat.le_refl _) _))).mono ?_
   rintro x w2 ⟨v, rfl, hl, hb2⟩
   have hb3 := bl_alloc B1.out hb2
   have B3 := Lib.hid hb3
   have T2 := Lib.hid (HT.out.later hb3)
   have hl2 : ListIs w w2 v (tgoneL k (e : Int) (s : Int) false) := by
    have h1 := hl
    rw [show selL (belowQ k (e : Int) (s : Int)) k (E * 8) = tgoneL k (e : Int) (s : Int) false from HSEL.out] at h1
    exact ⟨h1.1, fun g c hv hn => Nat.le_trans B1.out.size (Nat.le_trans (by simp) (h1.2 g c hv hn))⟩
   have hm : ∀ j, j ∈ tgoneL k (e : Int) (s : Int) false → j < E * 8 := fun j hj => by
    rw [← HSEL.out] at hj
    exact selL_mem hj
   have hle : (tgoneL k (e : Int) (s : Int) false).length ≤ 32 := by
    have h1 := selL_le (belowQ k (e : Int) (s : Int)) k (E * 8)
    rw [HSEL.out] at h1
    have := HT.out.e4
    omega
   have HM := Lib.hid hm
   have HLL := Lib.hid hl2
   clear hb2 hb3 hl hl2 hm HSEL HC
   obtain ⟨⟨ao, cap, g, rfl, h1⟩, h2⟩ := HLL.out
   obtain ⟨l, hl⟩ : ∃ l, tgoneL k (e : Int) (s : Int) false = l := ⟨_, rfl⟩
   rw [hl] at h1 h2 HM HLL hle
   rw [hl]
   have HLQ := Lib.hid hl
   have hPG := T2.out.ne
   have hgG : 0 < l.length → g ≠ G := fun hn => by
    have h3 := (h1 hn).1
    subst h3
    have := h2 g cap rfl hn
    have := HT.out.lg
    omega
   have HAO := Lib.hid (fun hn => (h1 hn).1)
   have G0 : Hid (GoneAt w P G E k l g 0 w2) := ⟨T2.out.top, T2.out.lp, by rw [List.take_zero]; exact T2.out.nums, fun hn => ⟨(h1 hn).2.1, fun j hj => ⟨(h1 hn).2.2 _ _ (places_at l j hj).1, (h1 hn).2.2 _ _ (places_at l j hj).2⟩⟩, tp_below B3.out⟩
   have HK := Lib.hid T2.out.ok
   have HEN := Lib.hid T2.out.envs
   clear h1 h2 hl T2 HT
   obtain ⟨n, hn⟩ : ∃ n, n = l.length := ⟨_, rfl⟩
   rw [← hn] at hle
   rw [← hn]
   have HN := Lib.hid hn
   clear hn
   go_wp2_with fail
   go_loopw [31] (fun iv W => ∃ i : Nat, iv = .int .i64 i ∧ i ≤ n ∧ GoneAt w P G E k l g i W) (fun iv _ => (n - intOf iv).toNat)
   case atStart => exact ⟨0, rfl, by omega, G0.out⟩
   case round =>
    clear G0
    obtain ⟨i, rfl, hin, hg⟩ := hrel
    have HG := Lib.hid hg
    clear hg
    by_cases h1 : i < n
    ·have i1 : (i : Int) < (n : Int) := by omega
     have hil : i < l.length := by have := HN.out; omega
     have h0l : 0 < l.length := by omega
     obtain rfl := HAO.out h0l
     obtain ⟨gl, hcell⟩ := HG.out.list h0l
     obtain ⟨c0, c1⟩ := hcell i hil
     clear hcell
     have hq : l.getD i 0 < E * 8 := HM.out _ (by
      have e1 : l.getD i 0 = l[i] := by simp [List.getD, hil]
      rw [e1]
      exact List.getElem_mem hil)
     have hx : l.getD i 0 / 8 < E := by omega
     have hy : l.getD i 0 % 8 < 8 := by omega
     have HX := Lib.hid hx
     obtain ⟨x, hxx⟩ : ∃ x, l.getD i 0 / 8 = x := ⟨_, rfl⟩
     obtain ⟨y, hyy⟩ : ∃ y, l.getD i 0 % 8 = y := ⟨_, rfl⟩
     rw [hxx] at c0 hx
     rw [hyy] at c1 hy
     have HXX := Lib.hid hxx
     have HYY := Lib.hid hyy
     clear hxx hyy hq hil h0l
     go_wp2_with fail
     obtain ⟨C, hC⟩ : ∃ C, C = wr.heap.size := ⟨_, rfl⟩
     obtain ⟨w3, hw3⟩ : ∃ w3, w3 = wr.alloc (.cells #[.int .i64 (x : Int), .int .i64 (y : Int)] 168) := ⟨_, rfl⟩
     have hb4 : Below wr.heap.size wr w3 := by rw [hw3]; exact (Below.refl _ _).alloc (Nat.le_refl _) _
     have C3 : Hid (w3.heap[C]? = some (.cells #[.int .i64 (x : Int), .int .i64 (y : Int)] 168 (0, 0))) := by rw [hw3, hC]; exact heap_alloc_new wr _
     have G3 := Lib.hid (HG.out.later hb4)
     rw [← hw3, ← hC]
     clear hw3 hC hb4 HG c0 c1 gl
     have p0 := bk_cell C3.out 0
     have p1 := bk_cell C3.out 1
     have pl := bk_lt C3.out
     have t0 := G3.out.top
     have tl := G3.out.lp
     have gl := G3.out.nums.2.2
     have f0 := G3.out.nums.2.1 (x * 32 + y * 4)
     have f1 := G3.out.nums.2.1 (x * 32 + y * 4 + 1)
     have f2 := G3.out.nums.2.1 (x * 32 + y * 4 + 2)
     have f3 := G3.out.nums.2.1 (x * 32 + y * 4 + 3)
     have b0 : x * 32 + y * 4 + 3 < E * 32 := by omega
     have d0 := G3.out.nums.1 (x * 32 + y * 4) (by omega)
     have d1 := G3.out.nums.1 (x * 32 + y * 4 + 1) (by omega)
     have d2 := G3.out.nums.1 (x * 32 + y * 4 + 2) (by omega)
     have d3 := G3.out.nums.1 (x * 32 + y * 4 + 3) b0
     have a0 : (0 : Int) ≤ (x : Int) := by omega
     have a2 : (x : Int) < (E : Int) := by omega
     have b1 : (0 : Int) ≤ (y : Int) := by omega
     have b2 : (y : Int) < 8 := by omega
     clear b0
     go_region
     go_wp2_with fail
     go_roundw
     case rel =>
      have hst := G3.out.step hPG hgG (by have := HN.out; omega) HX.out
      rw [HXX.out, HYY.out] at hst
      exact ⟨i + 1, by go_num, by omega, hst⟩
     case measure => simp [intOf]; omega
    ·obtain rfl : i = n := by omega
     have i1 : ¬ (i : Int) < (i : Int) := by omega
     go_wp2_with fail
     go_ret2
     refine ⟨.slice ao i cap, by rw [HE.out]; rfl, ?_, ?_, HG.out.only⟩
     ·have hn := HN.out
      have h2 := HLL.out.2
      rw [HLQ.out]
      subst hn
      exact ⟨⟨ao, cap, g, rfl, fun hl => ⟨HAO.out hl, (HG.out.list hl).1, slice_places (HG.out.list hl).2⟩⟩, fun g' c hv hl => h2 g' c hv hl⟩
     ·have hnu := HG.out.nums
      rw [HN.out, List.take_length] at hnu
      have hok := HK.out.tgone (e : Int) (s : Int) false
      have hS : tgoneS k (e : Int) (s : Int) false = goneF k l := by
       unfold tgoneS
       rw [HLQ.out]
      rw [hS] at hok ⊢
      exact ⟨hok, (goneF_sizes l k).1.trans HEN.out, hPG, HG.out.top, hnu, HG.out.lp⟩
 ·have e0 : tgoneE k a b = 2 := by
   unfold tgoneE
   rw [if_neg ho]
  have HE := Lib.hid e0
  have HO := Lib.hid ho
  clear ho e0
  go_enter Tryz.func152, Tryz.ntmps152
  go_wp2_with fail
  refine (ctaken_out HO.out _ HT.out).mono ?_
  rintro x w1 ⟨rfl, hb⟩
  have B1 := Lib.hid hb
  clear hb
  go_wp2_with fail
  go_ret2
  exact gone_no (by decide) HE.out ((HT.out.later B1.out).later ((Below.refl _ _).alloc (Nat.le_refl _) _)) (B1.out.alloc B1.out.size _)
set_option maxHeartbeats 2000000 in
theorem cempty_within {P G E : Nat} {k : KernS} (a b : Int) (w : World) (h : TreeIs w P G E k) :
  Calls Tryz.prog 152 #[.pointer (some ⟨P, 0, none⟩), .int .i64 a, .int .i64 b, .func (.func 154) #[.pointer (some ⟨P, 0, none⟩)] #[]] w (GonePost P G E k a b true w) := by
 have HT := Lib.hid h
 clear h
 by_cases ho : inB k a b = true
 ·have hin := in_of ho
  have hE := HT.out.envs
  obtain ⟨e, rfl⟩ : ∃ n : Nat, a = (n : Int) := ⟨a.toNat, by omega⟩
  obtain ⟨s, rfl⟩ : ∃ n : Nat, b = (n : Int) := ⟨b.toNat, by omega⟩
  have he : e < E := by omega
  have hs : s < 8 := by omega
  have e0 : tgoneE k (e : Int) (s : Int) = if (k.sl e s).is = true then 0 else 3 := by
   unfold tgoneE
   rw [if_pos ho, Int.toNat_natCast, Int.toNat_natCast]
  clear hin hE ho
  have HC := Lib.hid (fun W h => ctaken_in (k := k) (P := P) (G := G) he hs W h)
  cases hi : (k.sl e s).is
  ·rw [hi, if_neg (by decide)] at e0
   rw [takenE_no hi] at HC
   have HE := Lib.hid e0
   clear hi e0
   go_enter Tryz.func152, Tryz.ntmps152
   go_wp2_with fail
   refine (HC.out _ HT.out).mono ?_
   rintro x w1 ⟨rfl, hb⟩
   have B1 := Lib.hid hb
   clear hb
   go_wp2_with fail
   go_ret2
   exact gone_no (by decide) HE.out ((HT.out.later B1.out).later ((Below.refl _ _).alloc (Nat.le_refl _) _)) (B1.out.alloc B1.out.size _)
  ·rw [hi, if_pos rfl] at e0
   rw [takenE_yes hi] at HC
   have HE := Lib.hid e0
   have HSEL := Lib.hid (show selL (withinQ k (e : Int) (s : Int)) k (E * 8) = tgoneL k (e : Int) (s : Int) true from sel_gone HT.out.ok HT.out.envs e0 true)
   clear hi e0
   go_enter Tryz.func152, Tryz.ntmps152
   go_wp2_with fail
   refine (HC.out _ HT.out).mono ?_
   rintro x w1 ⟨rfl, hb⟩
   have B1 := Lib.hid hb
   clear hb
   go_wp2_with fail
   refine (cwithin_any (e : Int) (s : Int) _ ((HT.out.later B1.out).later ((Below.refl _ _).alloc (Nat.le_refl _) _))).mono ?_
   rintro x w2 ⟨v, rfl, hl, hb2⟩
   have hb3 := bl_alloc B1.out hb2
   have B3 := Lib.hid hb3
   have T2 := Lib.hid (HT.out.later hb3)
   have hl2 : ListIs w w2 v (tgoneL k (e : Int) (s : Int) true) := by
    have h1 := hl
    rw [show selL (withinQ k (e : Int) (s : Int)) k (E * 8) = tgoneL k (e : Int) (s : Int) true from HSEL.out] at h1
    exact ⟨h1.1, fun g c hv hn => Nat.le_trans B1.out.size (Nat.le_trans (by simp) (h1.2 g c hv hn))⟩
   have hm : ∀ j, j ∈ tgoneL k (e : Int) (s : Int) true → j < E * 8 := fun j hj => by
    rw [← HSEL.out] at hj
    exact selL_mem hj
   have hle : (tgoneL k (e : Int) (s : Int) true).length ≤ 32 := by
    have h1 := selL_le (withinQ k (e : Int) (s : Int)) k (E * 8)
    rw [HSEL.out] at h1
    have := HT.out.e4
    omega
   have HM := Lib.hid hm
   have HLL := Lib.hid hl2
   clear hb2 hb3 hl hl2 hm HSEL HC
   obtain ⟨⟨ao, cap, g, rfl, h1⟩, h2⟩ := HLL.out
   obtain ⟨l, hl⟩ : ∃ l, tgoneL k (e : Int) (s : Int) true = l := ⟨_, rfl⟩
   rw [hl] at h1 h2 HM HLL hle
   rw [hl]
   have HLQ := Lib.hid hl
   have hPG := T2.out.ne
   have hgG : 0 < l.length → g ≠ G := fun hn => by
    have h3 := (h1 hn).1
    subst h3
    have := h2 g cap rfl hn
    have := HT.out.lg
    omega
   have HAO := Lib.hid (fun hn => (h1 hn).1)
   have G0 : Hid (GoneAt w P G E k l g 0 w2) := ⟨T2.out.top, T2.out.lp, by rw [List.take_zero]; exact T2.out.nums, fun hn => ⟨(h1 hn).2.1, fun j hj => ⟨(h1 hn).2.2 _ _ (places_at l j hj).1, (h1 hn).2.2 _ _ (places_at l j hj).2⟩⟩, tp_below B3.out⟩
   have HK := Lib.hid T2.out.ok
   have HEN := Lib.hid T2.out.envs
   clear h1 h2 hl T2 HT
   obtain ⟨n, hn⟩ : ∃ n, n = l.length := ⟨_, rfl⟩
   rw [← hn] at hle
   rw [← hn]
   have HN := Lib.hid hn
   clear hn
   go_wp2_with fail
   go_loopw [31] (fun iv W => ∃ i : Nat, iv = .int .i64 i ∧ i ≤ n ∧ GoneAt w P G E k l g i W) (fun iv _ => (n - intOf iv).toNat)
   case atStart => exact ⟨0, rfl, by omega, G0.out⟩
   case round =>
    clear G0
    obtain ⟨i, rfl, hin, hg⟩ := hrel
    have HG := Lib.hid hg
    clear hg
    by_cases h1 : i < n
    ·have i1 : (i : Int) < (n : Int) := by omega
     have hil : i < l.length := by have := HN.out; omega
     have h0l : 0 < l.length := by omega
     obtain rfl := HAO.out h0l
     obtain ⟨gl, hcell⟩ := HG.out.list h0l
     obtain ⟨c0, c1⟩ := hcell i hil
     clear hcell
     have hq : l.getD i 0 < E * 8 := HM.out _ (by
      have e1 : l.getD i 0 = l[i] := by simp [List.getD, hil]
      rw [e1]
      exact List.getElem_mem hil)
     have hx : l.getD i 0 / 8 < E := by omega
     have hy : l.getD i 0 % 8 < 8 := by omega
     have HX := Lib.hid hx
     obtain ⟨x, hxx⟩ : ∃ x, l.getD i 0 / 8 = x := ⟨_, rfl⟩
     obtain ⟨y, hyy⟩ : ∃ y, l.getD i 0 % 8 = y := ⟨_, rfl⟩
     rw [hxx] at c0 hx
     rw [hyy] at c1 hy
     have HXX := Lib.hid hxx
     have HYY := Lib.hid hyy
     clear hxx hyy hq hil h0l
     go_wp2_with fail
     obtain ⟨C, hC⟩ : ∃ C, C = wr.heap.size := ⟨_, rfl⟩
     obtain ⟨w3, hw3⟩ : ∃ w3, w3 = wr.alloc (.cells #[.int .i64 (x : Int), .int .i64 (y : Int)] 168) := ⟨_, rfl⟩
     have hb4 : Below wr.heap.size wr w3 := by rw [hw3]; exact (Below.refl _ _).alloc (Nat.le_refl _) _
     have C3 : Hid (w3.heap[C]? = some (.cells #[.int .i64 (x : Int), .int .i64 (y : Int)] 168 (0, 0))) := by rw [hw3, hC]; exact heap_alloc_new wr _
     have G3 := Lib.hid (HG.out.later hb4)
     rw [← hw3, ← hC]
     clear hw3 hC hb4 HG c0 c1 gl
     have p0 := bk_cell C3.out 0
     have p1 := bk_cell C3.out 1
     have pl := bk_lt C3.out
     have t0 := G3.out.top
     have tl := G3.out.lp
     have gl := G3.out.nums.2.2
     have f0 := G3.out.nums.2.1 (x * 32 + y * 4)
     have f1 := G3.out.nums.2.1 (x * 32 + y * 4 + 1)
     have f2 := G3.out.nums.2.1 (x * 32 + y * 4 + 2)
     have f3 := G3.out.nums.2.1 (x * 32 + y * 4 + 3)
     have b0 : x * 32 + y * 4 + 3 < E * 32 := by omega
     have d0 := G3.out.nums.1 (x * 32 + y * 4) (by omega)
     have d1 := G3.out.nums.1 (x * 32 + y * 4 + 1) (by omega)
     have d2 := G3.out.nums.1 (x * 32 + y * 4 + 2) (by omega)
     have d3 := G3.out.nums.1 (x * 32 + y * 4 + 3) b0
     have a0 : (0 : Int) ≤ (x : Int) := by omega
     have a2 : (x : Int) < (E : Int) := by omega
     have b1 : (0 : Int) ≤ (y : Int) := by omega
     have b2 : (y : Int) < 8 := by omega
     clear b0
     go_region
     go_wp2_with fail
     go_roundw
     case rel =>
      have hst := G3.out.step hPG hgG (by have := HN.out; omega) HX.out
      rw [HXX.out, HYY.out] at hst
      exact ⟨i + 1, by go_num, by omega, hst⟩
     case measure => simp [intOf]; omega
    ·obtain rfl : i = n := by omega
     have i1 : ¬ (i : Int) < (i : Int) := by omega
     go_wp2_with fail
     go_ret2
     refine ⟨.slice ao i cap, by rw [HE.out]; rfl, ?_, ?_, HG.out.only⟩
     ·have hn := HN.out
      have h2 := HLL.out.2
      rw [HLQ.out]
      subst hn
      exact ⟨⟨ao, cap, g, rfl, fun hl => ⟨HAO.out hl, (HG.out.list hl).1, slice_places (HG.out.list hl).2⟩⟩, fun g' c hv hl => h2 g' c hv hl⟩
     ·have hnu := HG.out.nums
      rw [HN.out, List.take_length] at hnu
      have hok := HK.out.tgone (e : Int) (s : Int) true
      have hS : tgoneS k (e : Int) (s : Int) true = goneF k l := by
       unfold tgoneS
       rw [HLQ.out]
      rw [hS] at hok ⊢
      exact ⟨hok, (goneF_sizes l k).1.trans HEN.out, hPG, HG.out.top, hnu, HG.out.lp⟩
 ·have e0 : tgoneE k a b = 2 := by
   unfold tgoneE
   rw [if_neg ho]
  have HE := Lib.hid e0
  have HO := Lib.hid ho
  clear ho e0
  go_enter Tryz.func152, Tryz.ntmps152
  go_wp2_with fail
  refine (ctaken_out HO.out _ HT.out).mono ?_
  rintro x w1 ⟨rfl, hb⟩
  have B1 := Lib.hid hb
  clear hb
  go_wp2_with fail
  go_ret2
  exact gone_no (by decide) HE.out ((HT.out.later B1.out).later ((Below.refl _ _).alloc (Nat.le_refl _) _)) (B1.out.alloc B1.out.size _)
set_option maxHeartbeats 1000000 in
theorem crevoke_any {P G E : Nat} {k : KernS} (a b : Int) (w : World) (h : TreeIs w P G E k) :
  Calls Tryz.prog 98 #[.pointer (some ⟨P, 0, none⟩), .int .i64 a, .int .i64 b] w (GonePost P G E k a b false w) := by
 have HC := Lib.hid (cempty_below a b w h)
 clear h
 go_enter Tryz.func98, Tryz.ntmps98
 go_wp2_with fail
 refine HC.out.mono ?_
 rintro x w' ⟨v, rfl, h1, h2, h3⟩
 have H := Lib.hid (And.intro h1 (And.intro h2 h3))
 clear h1 h2 h3
 go_wp2_with fail
 go_ret2
 exact ⟨v, rfl, H.out.1, H.out.2.1, H.out.2.2⟩
set_option maxHeartbeats 1000000 in
theorem cdrop_any {P G E : Nat} {k : KernS} (a b : Int) (w : World) (h : TreeIs w P G E k) :
  Calls Tryz.prog 101 #[.pointer (some ⟨P, 0, none⟩), .int .i64 a, .int .i64 b] w (GonePost P G E k a b true w) := by
 have HC := Lib.hid (cempty_within a b w h)
 clear h
 go_enter Tryz.func101, Tryz.ntmps101
 go_wp2_with fail
 refine HC.out.mono ?_
 rintro x w' ⟨v, rfl, h1, h2, h3⟩
 have H := Lib.hid (And.intro h1 (And.intro h2 h3))
 clear h1 h2 h3
 go_wp2_with fail
 go_ret2
 exact ⟨v, rfl, H.out.1, H.out.2.1, H.out.2.2⟩
def TreeAt (w : World) (S : Nat → Prop) (P : Nat) (k : KernS) : Prop := ∃ G E, (∀ i, S i ↔ (i = P ∨ i = G)) ∧ TreeIs w P G E k
theorem tree_only {w w' : World} {S : Nat → Prop} {P G : Nat} (hS : ∀ i, S i ↔ (i = P ∨ i = G)) (h : OnlyT G w w') : Only S w w' :=
 ⟨h.os, h.tape, h.output, h.size, fun i hi hn => h.block i hi fun e => by injection e with e; exact hn ((hS i).2 (Or.inr e))⟩
theorem cap_is {k : KernS} {e s : Nat} (hi : (k.sl e s).is = true) : CapIs (k.sl e s) (.tuple #[.agg #[.int .i64 (capI (k.sl e s) 0), .int .i64 (capI (k.sl e s) 1), .int .i64 (capI (k.sl e s) 2), .int .i64 (capI (k.sl e s) 3)], .bool true]) := by
 obtain ⟨y0, y1, y2, y3⟩ := capI_yes hi
 rw [y0, y1, y2, y3]
 exact ⟨(k.sl e s).env, (k.sl e s).slot, rfl, fun h => h, fun _ => ⟨rfl, rfl⟩⟩
theorem gone_tree {P G E : Nat} {S : Nat → Prop} {k : KernS} {a b : Int} {it : Bool} {w w' : World} {x : Ending} (hS : ∀ i, S i ↔ (i = P ∨ i = G)) (h0 : TreeIs w P G E k) (h : GonePost P G E k a b it w x w') :
  ∃ S' v, x = .returned (.tuple #[v, .int .i64 (tgoneE k a b)]) ∧ SliceIs w' v (tgoneL k a b it).length (placesV (tgoneL k a b it)) ∧ (∀ g c, v = .slice (some ⟨g, 0, none⟩) (tgoneL k a b it).length c → 0 < (tgoneL k a b it).length → w.heap.size ≤ g ∧ ¬ S' g) ∧ TreeAt w' S' P (tgoneS k a b it) ∧ (∀ i, S' i → S i ∨ w.heap.size ≤ i) ∧ Only S w w' := by
 obtain ⟨v, rfl, hl, ht, ho⟩ := h
 refine ⟨S, v, rfl, hl.1, fun g c hv hn => ?_, ⟨G, E, hS, ht⟩, fun i hi => Or.inl hi, tree_only hS ho⟩
 have h1 := hl.2 g c hv hn
 refine ⟨h1, fun hg => ?_⟩
 have h2 := h0.lp
 have h3 := h0.lg
 rcases (hS g).1 hg with rfl | rfl <;> omega
theorem tree_keeps : TreeC TreeAt where
 low := by
  rintro W S P k ⟨G, E, hS, h⟩ i hi
  rcases (hS i).1 hi with rfl | rfl
  ·exact h.lp
  ·exact h.lg
 foot := by
  rintro W W' S P k ⟨G, E, hS, h⟩ hs hb
  exact ⟨G, E, hS, h.foot hs (hb P ((hS P).2 (Or.inl rfl))) (hb G ((hS G).2 (Or.inr rfl)))⟩
 new_ := by
  intro n w hn
  refine (ctree_new hn w).mono ?_
  rintro x w' ⟨P, G, E, rfl, h, hP, hG, hb⟩
  exact ⟨P, fun i => i = P ∨ i = G, rfl, ⟨G, E, fun _ => Iff.rfl, h⟩, fun i hi => by rcases hi with rfl | rfl <;> assumption, hb⟩
 no_ := fun n w hn => ctree_no hn w
 root_ := by
  rintro P S k e s f w ⟨G, E, hS, h⟩
  refine (croot_any e s f w h).mono ?_
  rintro x w' ⟨rfl, h1, h2⟩
  exact ⟨S, rfl, ⟨G, E, hS, h1⟩, fun i hi => Or.inl hi, tree_only hS h2⟩
 derive_ := by
  rintro P S k e s t d r w ⟨G, E, hS, h⟩
  refine (cderive_any e s t d r w h).mono ?_
  rintro x w' ⟨rfl, h1, h2⟩
  exact ⟨S, rfl, ⟨G, E, hS, h1⟩, fun i hi => Or.inl hi, tree_only hS h2⟩
 at_ := by
  rintro P S k e s w ⟨G, E, hS, h⟩ he hs
  have he2 : e < E := by have := h.envs; omega
  refine (cat_in he2 hs w h).mono ?_
  rintro x w' ⟨rfl, hb⟩
  refine ⟨_, rfl, ?_, hb⟩
  cases hi : (k.sl e s).is
  ·refine Or.inr ⟨rfl, ?_⟩
   rw [capI_no hi 0, capI_no hi 1, capI_no hi 2, capI_no hi 3]
  ·exact Or.inl ⟨rfl, cap_is hi⟩
 below_ := by
  rintro P S k e s w ⟨G, E, hS, h⟩
  refine (cbelow_any e s w h).mono ?_
  rintro x w' ⟨v, rfl, hl, hb⟩
  rw [sel_below h.ok h.envs] at hl
  exact ⟨v, rfl, hl.1, hb⟩
 revoke_ := by
  rintro P S k e s w ⟨G, E, hS, h⟩
  exact (crevoke_any e s w h).mono fun x w' hp => gone_tree hS h hp
 drop_ := by
  rintro P S k e s w ⟨G, E, hS, h⟩
  exact (cdrop_any e s w h).mono fun x w' hp => gone_tree hS h hp
end Go.Proofs.YtdfhfmdelinemaaGreatDoor
