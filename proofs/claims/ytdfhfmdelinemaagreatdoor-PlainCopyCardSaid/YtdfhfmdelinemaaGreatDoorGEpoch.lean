/- What is proved here: what the statements ask of package epoch; contracts of package epoch. Conditions: those that each theorem names. -/
import Derived.Test.YtdfhfmdelinemaaGreatDoorGTree
import Derived.Test.YtdfhfmdelinemaaGreatDoorGCell
import Derived.Deep.AppendLies
import Derived.Deep.RegionLaw
import Derived.Deep.RegionHeld3
import Derived.RegionTactic
import Derived.WalkArith
import Derived.WalkSpells
namespace Go.Proofs.YtdfhfmdelinemaaGreatDoor
open Go.RowKit Go.Extern.Stop Go.Stop Go.Extern Go.WalkArith
structure EpS where
 n : Nat
 hr : Nat → Nat
 fr : List Nat
def newE (n : Nat) : EpS := ⟨n, fun _ => 0, []⟩
def EpS.begin_ (k : EpS) (c : Nat) : EpS := { k with fr := k.fr ++ [c] }
def EpS.ack (k : EpS) (c x : Nat) : EpS := { k with hr := fun j => if j = c then max (k.hr c) x else k.hr j }
def waitsL (k : EpS) (x : Nat) : List Nat := if 1 ≤ x ∧ x ≤ k.fr.length then (List.range k.n).filter fun c => decide (¬ k.fr.getD (x - 1) 0 = c ∧ k.hr c < x) else []
def doneB (k : EpS) (x : Nat) : Bool := decide (1 ≤ x ∧ x ≤ k.fr.length) && (waitsL k x).isEmpty
def intsV (l : List Nat) : List Value := l.map fun j : Nat => Value.int .i64 (j : Int)
structure EpochC (At : World → (Nat → Prop) → Nat → EpS → Prop) : Prop where
 low : ∀ W S P k, At W S P k → ∀ i, S i → i < W.heap.size
 foot : ∀ W W' S P k, At W S P k → W.heap.size ≤ W'.heap.size → (∀ i, S i → W'.heap[i]? = W.heap[i]?) → At W' S P k
 new_ : ∀ (n : Nat) (w : World), 1 ≤ n → n ≤ 8 → Calls Tryz.prog 26 #[.int .i64 (n : Int)] w fun x w' => ∃ P S, x = .returned (.pointer (some ⟨P, 0, none⟩)) ∧ At w' S P (newE n) ∧ (∀ i, S i → w.heap.size ≤ i) ∧ Below w.heap.size w w'
 begin_ : ∀ (P : Nat) (S : Nat → Prop) (k : EpS) (c : Nat) (w : World), At w S P k → c < k.n → k.fr.length < 1000 → (∀ j, k.hr j = 0) →
  Calls Tryz.prog 32 #[.pointer (some ⟨P, 0, none⟩), .int .i64 (c : Int)] w fun x w' => ∃ S', x = .returned (.tuple #[.int .u64 ((k.fr.length + 1 : Nat) : Int), .bool true]) ∧ At w' S' P (k.begin_ c) ∧ (∀ i, S' i → S i ∨ w.heap.size ≤ i) ∧ Only S w w'
 ack_ : ∀ (P : Nat) (S : Nat → Prop) (k : EpS) (c x : Nat) (w : World), At w S P k → c < k.n → 1 ≤ x → x ≤ k.fr.length → k.fr.length < 1000 →
  Calls Tryz.prog 33 #[.pointer (some ⟨P, 0, none⟩), .int .i64 (c : Int), .int .u64 (x : Int)] w fun z w' => ∃ S', z = .returned (.bool true) ∧ At w' S' P (k.ack c x) ∧ (∀ i, S' i → S i ∨ w.heap.size ≤ i) ∧ Only S w w'
 waits_ : ∀ (P : Nat) (S : Nat → Prop) (k : EpS) (x : Nat) (w : World), At w S P k → x < 1000 → k.fr.length < 1000 →
  Calls Tryz.prog 39 #[.pointer (some ⟨P, 0, none⟩), .int .u64 (x : Int)] w fun z w' => ∃ v, z = .returned v ∧ SliceIs w' v (waitsL k x).length (intsV (waitsL k x)) ∧ Below w.heap.size w w'
 done_ : ∀ (P : Nat) (S : Nat → Prop) (k : EpS) (x : Nat) (w : World), At w S P k → x < 1000 → k.fr.length < 1000 →
  Calls Tryz.prog 38 #[.pointer (some ⟨P, 0, none⟩), .int .u64 (x : Int)] w fun z w' => z = .returned (.bool (doneB k x)) ∧ Below w.heap.size w w'
section
variable {At : World → (Nat → Prop) → Nat → EpS → Prop}
def epT (H : EpochC At) (S : Nat → Prop) (P : Nat) (k : EpS) : Thing := ⟨S, fun W => At W S P k, fun W W' h hs hb => H.foot W W' S P k h hs fun i hi => hb i hi (H.low W S P k h i hi), fun W h => H.low W S P k h⟩
def ERun (H : EpochC At) (w : World) (P : Nat) (k : EpS) (W : World) : Prop := ∃ S, Side w W [epT H S P k]
variable {H : EpochC At} {w W W' : World} {P : Nat} {k k' : EpS}
theorem ERun.below (h : ERun H w P k W) : Below w.heap.size w W := h.elim fun _ h => h.below
theorem ERun.under (h : ERun H w P k W) (hb : Below W.heap.size W W') : ERun H w P k W' := h.elim fun S h => ⟨S, h.under hb⟩
theorem ERun.step {S S' : Nat → Prop} (h : Side w W [epT H S P k]) (hp : At W' S' P k') (hn : ∀ i, S' i → S i ∨ W.heap.size ≤ i) (ho : Only S W W') : ERun H w P k' W' :=
 ⟨S', Side.step (o := epT H S P k) (l2 := []) (epT H S' P k') hp hn ho [] h⟩
end
end Go.Proofs.YtdfhfmdelinemaaGreatDoor
namespace Go.Proofs.YtdfhfmdelinemaaGreatDoor
open Go.RowKit Go.Extern.Stop Go.Stop Go.Extern Go.WalkArith
def rowL (k : EpS) (j : Nat) : List Nat := (List.range k.fr.length).filter fun i => decide (¬ k.fr.getD i 0 = j ∧ k.hr j < i + 1)
theorem rowL_mem (k : EpS) (j i : Nat) : i ∈ rowL k j ↔ i < k.fr.length ∧ ¬ k.fr.getD i 0 = j ∧ k.hr j < i + 1 := by
 unfold rowL
 rw [List.mem_filter, List.mem_range, decide_eq_true_eq]
theorem rowL_rise (k : EpS) (j : Nat) : (rowL k j).Pairwise (· < ·) := List.pairwise_lt_range.filter _
theorem rowL_len (k : EpS) (j : Nat) : (rowL k j).length ≤ k.fr.length := by
 have h := List.length_filter_le (fun i => decide (¬ k.fr.getD i 0 = j ∧ k.hr j < i + 1)) (List.range k.fr.length)
 simpa [rowL] using h
theorem rowL_begin (k : EpS) (c j : Nat) (hh : k.hr j ≤ k.fr.length) : rowL (k.begin_ c) j = if j = c then rowL k j else rowL k j ++ [k.fr.length] := by
 have e0 : (k.begin_ c).fr = k.fr ++ [c] := rfl
 have e1 : (k.begin_ c).hr = k.hr := rfl
 have h1 : (List.range k.fr.length).filter (fun i => decide (¬ (k.fr ++ [c]).getD i 0 = j ∧ k.hr j < i + 1)) = rowL k j := by
  refine List.filter_congr fun i hi => ?_
  have hi := List.mem_range.1 hi
  have h2 : (k.fr ++ [c]).getD i 0 = k.fr.getD i 0 := by
   simp [List.getD_eq_getElem?_getD, List.getElem?_append_left hi]
  rw [h2]
 have h3 : (k.fr ++ [c]).getD k.fr.length 0 = c := by simp [List.getD_eq_getElem?_getD]
 unfold rowL at h1 ⊢
 rw [e0, e1, List.length_append, List.length_singleton, List.range_succ, List.filter_append, h1]
 by_cases hj : j = c
 ·rw [if_pos hj, List.filter_cons_of_neg, List.filter_nil, List.append_nil]
  rw [h3, decide_eq_true_eq]
  exact fun h => h.1 hj.symm
 ·rw [if_neg hj, List.filter_cons_of_pos, List.filter_nil]
  rw [h3, decide_eq_true_eq]
  exact ⟨fun h => hj h.symm, by omega⟩
def CutAt (l : List Nat) (t m : Nat) : Prop := m ≤ l.length ∧ (∀ q x, q < m → l[q]? = some x → x < t) ∧ ∀ q x, m ≤ q → l[q]? = some x → t ≤ x
theorem rowL_ack (k : EpS) (c x m : Nat) (hx : k.hr c ≤ k.fr.length) (h : CutAt (rowL k c) x m) (j : Nat) : rowL (k.ack c x) j = if j = c then (rowL k c).drop m else rowL k j := by
 have e0 : (k.ack c x).fr = k.fr := rfl
 by_cases hj : j = c
 ·subst hj
  have e1 : (k.ack j x).hr j = max (k.hr j) x := if_pos rfl
  rw [if_pos rfl]
  have h1 : rowL (k.ack j x) j = (rowL k j).filter fun i => decide (x ≤ i) := by
   unfold rowL
   rw [e0, e1, List.filter_filter]
   refine List.filter_congr fun i _ => ?_
   rw [← Bool.decide_and]
   exact decide_eq_decide.2 ⟨fun h => ⟨by omega, h.1, by omega⟩, fun h => ⟨h.2.1, by omega⟩⟩
  rw [h1]
  obtain ⟨_, h2, h3⟩ := h
  conv => lhs; rw [← List.take_append_drop m (rowL k j)]
  rw [List.filter_append]
  have h4 : ((rowL k j).take m).filter (fun i => decide (x ≤ i)) = [] := by
   rw [List.filter_eq_nil_iff]
   intro i hi
   obtain ⟨q, hq⟩ := List.mem_iff_getElem?.1 hi
   rw [List.getElem?_take] at hq
   split at hq
   ·rename_i hqm
    have := h2 q i hqm hq
    rw [decide_eq_true_eq]
    omega
   ·exact absurd hq (by simp)
  have h5 : ((rowL k j).drop m).filter (fun i => decide (x ≤ i)) = (rowL k j).drop m := by
   rw [List.filter_eq_self]
   intro i hi
   obtain ⟨q, hq⟩ := List.mem_iff_getElem?.1 hi
   rw [List.getElem?_drop] at hq
   have := h3 _ i (by omega) hq
   rw [decide_eq_true_eq]
   omega
  rw [h4, h5, List.nil_append]
 ·have e1 : (k.ack c x).hr j = k.hr j := if_neg hj
  rw [if_neg hj]
  unfold rowL
  rw [e0, e1]
def waitsU (k : EpS) (x n : Nat) : List Nat := (List.range n).filter fun c => decide (x - 1 ∈ rowL k c ∧ 1 ≤ x)
theorem waitsU_all (k : EpS) (x : Nat) : waitsU k x k.n = waitsL k x := by
 unfold waitsU waitsL
 split
 ·rename_i h
  refine List.filter_congr fun c _ => ?_
  rw [decide_eq_decide, rowL_mem]
  exact ⟨fun h1 => ⟨h1.1.2.1, by omega⟩, fun h1 => ⟨⟨by omega, h1.1, by omega⟩, by omega⟩⟩
 ·rename_i h
  rw [List.filter_eq_nil_iff]
  intro c _ hc
  rw [decide_eq_true_eq, rowL_mem] at hc
  exact h ⟨by omega, by omega⟩
theorem waitsU_yes (k : EpS) (x n : Nat) (h : x - 1 ∈ rowL k n ∧ 1 ≤ x) : waitsU k x (n + 1) = waitsU k x n ++ [n] := by
 unfold waitsU
 rw [List.range_succ, List.filter_append, List.filter_cons_of_pos (by rw [decide_eq_true_eq]; exact h), List.filter_nil]
theorem waitsU_no (k : EpS) (x n : Nat) (h : ¬ (x - 1 ∈ rowL k n ∧ 1 ≤ x)) : waitsU k x (n + 1) = waitsU k x n := by
 unfold waitsU
 rw [List.range_succ, List.filter_append, List.filter_cons_of_neg (by rw [decide_eq_true_eq]; exact h), List.filter_nil, List.append_nil]
theorem waitsU_le (k : EpS) (x n : Nat) : (waitsU k x n).length ≤ n := by
 have h := List.length_filter_le (fun c => decide (x - 1 ∈ rowL k c ∧ 1 ≤ x)) (List.range n)
 simpa [waitsU] using h
theorem done_waits (k : EpS) (x : Nat) (h : 1 ≤ x ∧ x ≤ k.fr.length) : doneB k x = decide ((waitsL k x).length = 0) := by
 unfold doneB
 rw [decide_eq_true h, Bool.true_and]
 cases waitsL k x <;> simp
theorem done_out (k : EpS) (x : Nat) (h : ¬ (1 ≤ x ∧ x ≤ k.fr.length)) : doneB k x = false := by
 unfold doneB
 rw [decide_eq_false h, Bool.false_and]
theorem cut_in {l : List Nat} {t m : Nat} (hl : l.Pairwise (· < ·)) (h : CutAt l t m) : t ∈ l ↔ l[m]? = some t := by
 obtain ⟨_, h2, h3⟩ := h
 refine ⟨fun hm => ?_, List.mem_of_getElem?⟩
 obtain ⟨q, hq⟩ := List.mem_iff_getElem?.1 hm
 rcases Nat.lt_or_ge q m with h4 | h4
 ·have := h2 q t h4 hq; omega
 ·rcases Nat.lt_or_ge m q with h5 | h5
  ·have hql : q < l.length := (List.getElem?_eq_some_iff.1 hq).1
   have h6 := List.pairwise_iff_getElem.1 hl m q (by omega) hql h5
   have h7 := h3 m l[m] (Nat.le_refl _) (List.getElem?_eq_getElem (by omega))
   have h8 := (List.getElem?_eq_some_iff.1 hq).2
   omega
  ·obtain rfl : q = m := by omega
   exact hq
theorem cut_up {l : List Nat} {t m : Nat} (h : CutAt (l.map (· + 1)) (t + 1) m) : CutAt l t m := by
 obtain ⟨h1, h2, h3⟩ := h
 rw [List.length_map] at h1
 refine ⟨h1, fun q x hq hx => ?_, fun q x hq hx => ?_⟩
 ·have := h2 q (x + 1) hq (by rw [List.getElem?_map, hx]; rfl)
  omega
 ·have := h3 q (x + 1) hq (by rw [List.getElem?_map, hx]; rfl)
  omega
def numsV (l : List Nat) : List Value := l.map fun x : Nat => Value.int .u64 (x : Int)
def ERow (W : World) (v : Value) (l : List Nat) : Prop :=
 ∃ ao cap b o, v = .slice ao l.length cap ∧ l.length ≤ cap ∧ cap ≤ maxLen ∧ (0 < l.length → ao = some ⟨b, o, none⟩ ∧ b < W.heap.size ∧ ∀ i x, l[i]? = some x → W.cell? ⟨b, o + i, none⟩ = some (.int .u64 (x : Nat)))
theorem own_erow {w : World} {base : Nat} {e : TypeId} {v : Value} {l : List Nat} (h : w.ownsRow base e 1 v l.length (numsV l)) : ERow w v l := by
 obtain ⟨h1, ⟨rfl, h2⟩ | ⟨g, cap, cur, rfl, h3, h4, h5, h6, h7, h8⟩⟩ := h
 ·exact ⟨none, 0, 0, 0, by rw [h2], by omega, by unfold maxLen; omega, fun h => by omega⟩
 ·refine ⟨_, cap, g, 0, rfl, h5, h6, fun _ => ⟨rfl, bk_lt h4, fun i x hx => ?_⟩⟩
  have hv : (numsV l)[i]? = some (.int .u64 (x : Nat)) := by unfold numsV; rw [List.getElem?_map, hx]; rfl
  rw [← h8, List.getElem?_take] at hv
  rw [Nat.zero_add, bk_cell h4]
  split at hv
  ·simpa using hv
  ·exact absurd hv (by simp)
theorem ERow.foot {W W' : World} {v : Value} {l : List Nat} (h : ERow W v l) (hs : W.heap.size ≤ W'.heap.size) (hb : ∀ g, v.ownBlock = some g → W'.heap[g]? = W.heap[g]?) : ERow W' v l := by
 obtain ⟨ao, cap, b, o, rfl, h1, h2, h3⟩ := h
 refine ⟨ao, cap, b, o, rfl, h1, h2, fun hl => ?_⟩
 obtain ⟨rfl, h4, h5⟩ := h3 hl
 exact ⟨rfl, Nat.lt_of_lt_of_le h4 hs, fun i x hx => (World.cell?_of_block (a := ⟨b, o + i, none⟩) (hb b rfl)).trans (h5 i x hx)⟩
structure EpBase (W : World) (P R : Nat) (vs : Nat → Value) (n last : Nat) : Prop where
 nn : 1 ≤ n ∧ n ≤ 8
 ne : P ≠ R
 last : W.cell? ⟨P, 0, none⟩ = some (.int .u64 (last : Nat))
 head : W.cell? ⟨P, 1, none⟩ = some (.slice (some ⟨R, 0, none⟩) n n)
 fp : ∀ i, W.frozen? ⟨P, i, none⟩ = false
 fr : ∀ i, W.frozen? ⟨R, i, none⟩ = false
 row : ∀ j, j < n → W.cell? ⟨R, j, none⟩ = some (vs j)
 off : ∀ j, j < n → ∀ g, (vs j).ownBlock = some g → g ≠ P ∧ g ≠ R ∧ g < W.heap.size
 apart : ∀ i j, i < n → j < n → i ≠ j → ∀ g, (vs i).ownBlock = some g → (vs j).ownBlock ≠ some g
 lp : P < W.heap.size
 lr : R < W.heap.size
def EpBlk (P R : Nat) (vs : Nat → Value) (n i : Nat) : Prop := i = P ∨ i = R ∨ ∃ j, j < n ∧ (vs j).ownBlock = some i
def upHead (vs : Nat → Value) (j : Nat) (v : Value) (i : Nat) : Value := if i = j then v else vs i
section
variable {W W' W3 w : World} {P R n last : Nat} {vs : Nat → Value}
theorem EpBase.lt (h : EpBase W P R vs n last) (i : Nat) (hi : EpBlk P R vs n i) : i < W.heap.size := by
 rcases hi with rfl | rfl | ⟨j, hj, hg⟩
 ·exact h.lp
 ·exact h.lr
 ·exact (h.off j hj i hg).2.2
theorem EpBase.foot (h : EpBase W P R vs n last) (hs : W.heap.size ≤ W'.heap.size) (hb : ∀ i, EpBlk P R vs n i → W'.heap[i]? = W.heap[i]?) : EpBase W' P R vs n last :=
 have hP := hb P (Or.inl rfl)
 have hR := hb R (Or.inr (Or.inl rfl))
 ⟨h.nn, h.ne, (World.cell?_of_block (a := ⟨P, 0, none⟩) hP).trans h.last, (World.cell?_of_block (a := ⟨P, 1, none⟩) hP).trans h.head, fun i => (World.frozen?_of_block (a := ⟨P, i, none⟩) hP).trans (h.fp i), fun i => (World.frozen?_of_block (a := ⟨R, i, none⟩) hR).trans (h.fr i),
  fun j hj => (World.cell?_of_block (a := ⟨R, j, none⟩) hR).trans (h.row j hj), fun j hj g hg => ⟨(h.off j hj g hg).1, (h.off j hj g hg).2.1, Nat.lt_of_lt_of_le (h.off j hj g hg).2.2 hs⟩, h.apart, Nat.lt_of_lt_of_le h.lp hs, Nat.lt_of_lt_of_le h.lr hs⟩
theorem EpBase.under (h : EpBase W P R vs n last) (hb : Below W.heap.size W W') : EpBase W' P R vs n last := h.foot hb.size fun i hi => hb.block i (h.lt i hi)
theorem EpBase.put (h : EpBase W P R vs n last) {j : Nat} (hj : j < n) {v : Value} (hv : ∀ g, v.ownBlock = some g → (g < W.heap.size ∧ g ≠ P ∧ g ≠ R) ∧ ∀ i, i < n → i ≠ j → (vs i).ownBlock ≠ some g) : EpBase (W.setCell ⟨R, j, none⟩ v) P R (upHead vs j v) n last := by
 refine ⟨h.nn, h.ne, ?_, ?_, fun i => by rw [World.frozen?_setCell]; exact h.fp i, fun i => by rw [World.frozen?_setCell]; exact h.fr i, fun i hi => ?_, fun i hi g hg => ?_, fun a b ha hb hab g hg => ?_, by simpa using h.lp, by simpa using h.lr⟩
 ·rw [World.cell?_setCell_other _ _ _ _ (fun e => h.ne (congrArg Addr.block e).symm)]
  exact h.last
 ·rw [World.cell?_setCell_other _ _ _ _ (fun e => h.ne (congrArg Addr.block e).symm)]
  exact h.head
 ·unfold upHead
  by_cases e : i = j
  ·subst e
   rw [World.cell?_setCell_same _ _ _ (h.row i hi), if_pos rfl]
  ·rw [World.cell?_setCell_other _ _ _ _ (fun e2 => e (congrArg Addr.off e2).symm), if_neg e]
   exact h.row i hi
 ·unfold upHead at hg
  by_cases e : i = j
  ·rw [if_pos e] at hg
   have h2 := (hv g hg).1
   exact ⟨h2.2.1, h2.2.2, by simpa using h2.1⟩
  ·rw [if_neg e] at hg
   have h2 := h.off i hi g hg
   exact ⟨h2.1, h2.2.1, by simpa using h2.2.2⟩
 ·unfold upHead at hg ⊢
  by_cases e : a = j
  ·rw [if_pos e] at hg
   rw [if_neg (fun e2 => hab (e.trans e2.symm))]
   exact (hv g hg).2 b hb (fun e2 => hab (e.trans e2.symm))
  ·rw [if_neg e] at hg
   by_cases e2 : b = j
   ·rw [if_pos e2]
    intro hc
    exact (hv g hc).2 a ha e hg
   ·rw [if_neg e2]
    exact h.apart a b ha hb hab g hg
theorem ep_far {b i g : Nat} {u : Value} (hne : g ≠ b) : (W.setCell ⟨b, i, none⟩ u).heap[g]? = W.heap[g]? := Below.heap_setCell W ⟨b, i, none⟩ u g (fun e => hne e)
def EpRows (W : World) (P R : Nat) (vs : Nat → Value) (n last : Nat) (T : TypeId) (L : Nat → List Nat) : Prop := EpBase W P R vs n last ∧ ∀ j, j < n → W.ownsRow 0 T 1 (vs j) (L j).length (numsV (L j))
def upRow (L : Nat → List Nat) (j : Nat) (l : List Nat) (i : Nat) : List Nat := if i = j then l else L i
variable {T : TypeId} {L : Nat → List Nat}
theorem own_set {v : Value} {m : Nat} {xs : List Value} (h : W.ownsRow 0 T 1 v m xs) {b i : Nat} {u : Value} (hne : v.ownBlock ≠ some b) : (W.setCell ⟨b, i, none⟩ u).ownsRow 0 T 1 v m xs := by
 obtain ⟨h1, h2 | ⟨g, cap, cur, rfl, a1, a2, a3⟩⟩ := h
 ·exact ⟨h1, .inl h2⟩
 ·refine ⟨h1, .inr ⟨g, cap, cur, rfl, a1, ?_, a3⟩⟩
  rw [ep_far (by rintro rfl; exact hne rfl)]
  exact a2
theorem EpRows.up (h : EpRows W P R vs n last T L) (m : Nat) : EpRows (W.setCell ⟨P, 0, none⟩ (.int .u64 (m : Nat))) P R vs n m T L := by
 obtain ⟨hb, hr⟩ := h
 refine ⟨⟨hb.nn, hb.ne, World.cell?_setCell_same _ _ _ hb.last, ?_, fun i => by rw [World.frozen?_setCell]; exact hb.fp i, fun i => by rw [World.frozen?_setCell]; exact hb.fr i, fun j hj => ?_, fun j hj g hg => ⟨(hb.off j hj g hg).1, (hb.off j hj g hg).2.1, by simpa using (hb.off j hj g hg).2.2⟩, hb.apart, by simpa using hb.lp, by simpa using hb.lr⟩, fun j hj => own_set (hr j hj) fun e => (hb.off j hj P e).1 rfl⟩
 ·rw [World.cell?_setCell_other _ _ _ _ (fun e => by have := congrArg Addr.off e; simp at this)]
  exact hb.head
 ·rw [World.cell?_setCell_other _ _ _ _ (fun e => hb.ne (congrArg Addr.block e))]
  exact hb.row j hj
theorem EpRows.more (h : EpRows W P R vs n last T L) {j x : Nat} (hj : j < n) {o : Obj} {v' : Value} (hg : (W.alloc o).grownBy W3 (vs j).ownBlock) (hown : W3.ownsRow 0 T 1 v' ((L j).length + 1) (numsV (L j) ++ [.int .u64 (x : Nat)])) (hat1 : v'.ownBlock = (vs j).ownBlock ∨ v'.ownBlock = some (W.alloc o).heap.size) :
  EpRows (W3.setCell ⟨R, j, none⟩ v') P R (upHead vs j v') n last T (upRow L j (L j ++ [x])) ∧ Only (EpBlk P R vs n) W (W3.setCell ⟨R, j, none⟩ v') ∧ (∀ i, EpBlk P R (upHead vs j v') n i → EpBlk P R vs n i ∨ W.heap.size ≤ i) ∧ EpBase W3 P R vs n last := by
 obtain ⟨hb, hr⟩ := h
 have hsz : (W.alloc o).heap.size = W.heap.size + 1 := by simp
 have hat : v'.ownBlock = (vs j).ownBlock ∨ v'.ownBlock = some (W.heap.size + 1) := by rw [← hsz]; exact hat1
 have hblk : ∀ i, i < W.heap.size → (vs j).ownBlock ≠ some i → W3.heap[i]? = W.heap[i]? := fun i hi hne => (hg.block i (by omega) (fun e => hne e.symm)).trans (heap_alloc_old W o hi)
 have hs3 : W.heap.size < W3.heap.size := by have := hg.size; omega
 have hfR : (vs j).ownBlock ≠ some R := fun e => (hb.off j hj R e).2.1 rfl
 have hfP : (vs j).ownBlock ≠ some P := fun e => (hb.off j hj P e).1 rfl
 have bP := hblk P hb.lp hfP
 have bR := hblk R hb.lr hfR
 have hb3 : EpBase W3 P R vs n last :=
  ⟨hb.nn, hb.ne, (World.cell?_of_block (a := ⟨P, 0, none⟩) bP).trans hb.last, (World.cell?_of_block (a := ⟨P, 1, none⟩) bP).trans hb.head, fun i => (World.frozen?_of_block (a := ⟨P, i, none⟩) bP).trans (hb.fp i), fun i => (World.frozen?_of_block (a := ⟨R, i, none⟩) bR).trans (hb.fr i),
  fun i hi => (World.cell?_of_block (a := ⟨R, i, none⟩) bR).trans (hb.row i hi), fun i hi g hg => ⟨(hb.off i hi g hg).1, (hb.off i hi g hg).2.1, by have := (hb.off i hi g hg).2.2; omega⟩, hb.apart, by have := hb.lp; omega, by have := hb.lr; omega⟩
 have hvlt : ∀ g, v'.ownBlock = some g → g < W3.heap.size := fun g e => (hown.lt g e).2
 have hv : ∀ g, v'.ownBlock = some g → (g < W3.heap.size ∧ g ≠ P ∧ g ≠ R) ∧ ∀ i, i < n → i ≠ j → (vs i).ownBlock ≠ some g := by
  intro g e
  have h3 := hvlt g e
  rcases hat with h | h
  ·rw [h] at e
   exact ⟨⟨h3, (hb.off j hj g e).1, (hb.off j hj g e).2.1⟩, fun i hi hij e2 => hb.apart i j hi hj hij g e2 e⟩
  ·rw [h] at e
   injection e with e
   have := hb.lp
   have := hb.lr
   exact ⟨⟨h3, by omega, by omega⟩, fun i hi _ e2 => by have := (hb.off i hi g e2).2.2; omega⟩
 refine ⟨⟨hb3.put hj hv, fun i hi => ?_⟩, ⟨hg.os, hg.tape, hg.output, by simp; omega, fun i hi hn => ?_⟩, fun i hi => ?_, hb3⟩
 ·unfold upHead upRow
  by_cases e : i = j
  ·rw [if_pos e, if_pos e]
   have h4 := own_set (b := R) (i := j) (u := v') hown (fun e2 => (hv R e2).1.2.2 rfl)
   have e5 : numsV (L j ++ [x]) = numsV (L j) ++ [.int .u64 (x : Nat)] := by simp [numsV]
   rw [List.length_append, e5]
   exact h4
  ·rw [if_neg e, if_neg e]
   refine own_set (((hr i hi).alloc o).kept hg ?_) (fun e2 => (hb.off i hi R e2).2.1 rfl)
   cases he : (vs i).ownBlock with
   | none => exact .inl rfl
   | some g => exact .inr fun e2 => hb.apart i j hi hj e g he e2.symm
 ·rw [ep_far (fun e => hn (Or.inr (Or.inl e)))]
  exact hblk i hi fun e => hn (Or.inr (Or.inr ⟨j, hj, e⟩))
 ·rcases hi with h | h | ⟨a, ha, hg2⟩
  ·exact Or.inl (Or.inl h)
  ·exact Or.inl (Or.inr (Or.inl h))
  ·unfold upHead at hg2
   by_cases e : a = j
   ·rw [if_pos e] at hg2
    rcases hat with h | h
    ·exact Or.inl (Or.inr (Or.inr ⟨j, hj, h ▸ hg2⟩))
    ·rw [h] at hg2
     injection hg2 with hg2
     exact Or.inr (by omega)
   ·rw [if_neg e] at hg2
    exact Or.inl (Or.inr (Or.inr ⟨a, ha, hg2⟩))
theorem Only.chain {S S2 : Nat → Prop} {w W W' : World} (h : Only S w W) (h2 : Only S2 W W') (hs : ∀ i, S2 i → S i ∨ w.heap.size ≤ i) : Only S w W' := by
 obtain ⟨a1, a2, a3, a4, a5⟩ := h
 obtain ⟨b1, b2, b3, b4, b5⟩ := h2
 exact ⟨b1.trans a1, b2.trans a2, b3.trans a3, Nat.le_trans a4 b4, fun i hi hn => (b5 i (Nat.lt_of_lt_of_le hi a4) (fun h => (hs i h).elim hn fun h => by omega)).trans (a5 i hi hn)⟩
theorem ERow.drop {v : Value} {l : List Nat} (h : ERow W v l) {m : Nat} (hm : m ≤ l.length) : ∃ ao cap b o, v = .slice ao l.length cap ∧ l.length ≤ cap ∧ cap ≤ maxLen ∧ (0 < l.length → ao = some ⟨b, o, none⟩) ∧ ∀ ao2, (m < l.length → ao2 = some ⟨b, o + m, none⟩) → ERow W (.slice ao2 (l.length - m) (cap - m)) (l.drop m) := by
 obtain ⟨ao, cap, b, o, rfl, h1, h2, h3⟩ := h
 refine ⟨ao, cap, b, o, rfl, h1, h2, fun hl => (h3 hl).1, fun ao2 hao => ?_⟩
 refine ⟨ao2, cap - m, b, o + m, by rw [List.length_drop], by rw [List.length_drop]; omega, by omega, fun hl => ?_⟩
 rw [List.length_drop] at hl
 obtain ⟨_, h4, h5⟩ := h3 (by omega)
 exact ⟨hao (by omega), h4, fun i x hx => by rw [List.getElem?_drop] at hx; rw [Nat.add_assoc]; exact h5 _ x hx⟩
end
theorem eless (x t : Int) (w : World) : Calls Tryz.prog 128 #[.int .u64 x, .int .u64 t] w fun e w' => e = .returned (.bool (decide (x < t))) ∧ w = w' := by
 have H : Hid (∀ (y : Int) (W : World), Calls Tryz.prog 161 #[.int .u64 y] W fun e w' => e = .returned (.bool false) ∧ W = w') := fun y W => by
  go_enter Tryz.func161, Tryz.ntmps161
  go_wp2_with fail
  go_ret
  exact ⟨by simp, rfl⟩
 go_enter Tryz.func128, Tryz.ntmps128
 go_wp2_with (refine (H.out _ _).mono ?_; rintro e w' ⟨rfl, rfl⟩)
 go_ret
 exact ⟨by simp, rfl⟩
theorem enan (x : Int) (w : World) : Calls Tryz.prog 129 #[.int .u64 x] w fun e w' => e = .returned (.bool false) ∧ w = w' := by
 go_enter Tryz.func129, Tryz.ntmps129
 go_wp2_with fail
 go_ret
 exact ⟨by simp, rfl⟩
def foundB (n : Nat) (r : Nat → Nat) (t m : Nat) : Bool := decide (m < n ∧ r m = t)
theorem found_told {n t m : Nat} {r : Nat → Nat} {b : Bool} (h : foundB n r t m = b) : Ending.returned (.tuple #[.int .i64 (m : Nat), .bool b]) = .returned (.tuple #[.int .i64 (m : Nat), .bool (foundB n r t m)]) := by rw [h]
theorem esearch (ao : Option Addr) (a : Addr) (n cap t : Nat) (r : Nat → Nat) (w : World) (hn : n ≤ 1000) (ha : 0 < n → ao = some a) (hx : ∀ i, i < n → w.cell? (a.add i) = some (.int .u64 (r i : Nat))) (hr : ∀ i j, i < j → j < n → r i < r j) :
  Calls Tryz.prog 80 #[.slice ao n cap, .int .u64 (t : Nat)] w fun e w' => ∃ m, (m ≤ n ∧ (∀ q, q < m → r q < t) ∧ ∀ q, m ≤ q → q < n → t ≤ r q) ∧ e = .returned (.tuple #[.int .i64 (m : Nat), .bool (foundB n r t m)]) ∧ w = w' := by
 have HA := Lib.hid ha
 have HX := Lib.hid hx
 have HR := Lib.hid hr
 have HL := Lib.hid (fun x W => eless x (t : Int) W)
 have HN := Lib.hid (fun x W => enan x W)
 clear ha hx hr
 go_enter Tryz.func80, Tryz.ntmps80
 go_wp2_with fail
 go_loop [7, 8] (fun iv jv => ∃ i j : Nat, iv = .int .i64 i ∧ jv = .int .i64 j ∧ i ≤ j ∧ j ≤ n ∧ (∀ q, q < i → r q < t) ∧ ∀ q, j ≤ q → q < n → t ≤ r q) (fun iv jv => (intOf jv - intOf iv).toNat)
 case atStart => exact ⟨0, n, rfl, rfl, by omega, by omega, fun q hq => absurd hq (by omega), fun q h1 h2 => absurd h1 (by omega)⟩
 case round =>
  obtain ⟨i, j, rfl, rfl, hij, hjn, hlo, hhi⟩ := hrel
  have HLo := Lib.hid hlo
  have HHi := Lib.hid hhi
  clear hlo hhi
  rcases Nat.lt_or_ge i j with h1 | h1
  ·obtain rfl : ao = some a := HA.out (by omega)
   have q1 : (i : Int) < (j : Int) := by omega
   obtain ⟨s, hs⟩ : ∃ s : Nat, s = i + j := ⟨_, rfl⟩
   obtain ⟨h, hh⟩ : ∃ h : Nat, h = s / 2 := ⟨_, rfl⟩
   have q2 : (h : Int) < (n : Int) := by omega
   have q3 : (i : Int) + (j : Int) = (s : Int) := by omega
   have q5 : s < 3000 := by omega
   have HS := Lib.hid (And.intro hs hh)
   have q6 : i ≤ h ∧ h < j := by omega
   obtain ⟨q7, q8⟩ := q6
   have q9 : (s : Int) / 2 = (h : Int) := by omega
   clear hs hh
   have c1 := HX.out h (by omega)
   by_cases hd : r h < t
   ·have q4 : decide ((r h : Int) < (t : Int)) = true := decide_eq_true (by omega)
    have HD : Hid (r h < t) := hd
    clear hd
    go_wp2_with (refine (HL.out _ _).mono ?_; rintro e w' ⟨rfl, rfl⟩)
    go_round
    case rel => exact ⟨h + 1, j, by go_num, rfl, by omega, by omega, fun q hq => by
     rcases Nat.lt_or_ge q h with h2 | h2
     ·have := HR.out q h h2 (by omega); have := HD.out; omega
     ·obtain rfl : q = h := by omega
      exact HD.out, HHi.out⟩
    case measure => simp [intOf]; omega
   ·have q4 : decide ((r h : Int) < (t : Int)) = false := decide_eq_false (by omega)
    have HD : Hid (¬ r h < t) := hd
    clear hd
    go_wp2_with (refine (HL.out _ _).mono ?_; rintro e w' ⟨rfl, rfl⟩)
    go_round
    case rel => exact ⟨i, h, rfl, by go_num, by omega, by omega, HLo.out, fun q h1 h2 => by
     rcases Nat.lt_or_ge h q with h3 | h3
     ·have := HR.out h q h3 h2; have := HD.out; omega
     ·obtain rfl : q = h := by omega
      have := HD.out
      omega⟩
    case measure => simp [intOf]; omega
  ·obtain rfl : i = j := by omega
   have q1 : ¬ (i : Int) < (i : Int) := by omega
   rcases Nat.lt_or_ge i n with h2 | h2
   ·obtain rfl : ao = some a := HA.out (by omega)
    have q2 : (i : Int) < (n : Int) := by omega
    have c1 := HX.out i h2
    by_cases hd : r i = t
    ·rw [hd] at c1
     go_wp2_with fail
     go_ret2
     exact ⟨i, ⟨by omega, HLo.out, HHi.out⟩, found_told (decide_eq_true (show i < n ∧ r i = t from ⟨h2, hd⟩)), rfl⟩
    ·have q4 : ((r i : Int) == (t : Int)) = false := beq_eq_false_iff_ne.2 (by omega)
     go_wp2_with (refine (HN.out _ _).mono ?_; rintro e w' ⟨rfl, rfl⟩)
     go_ret2
     exact ⟨i, ⟨by omega, HLo.out, HHi.out⟩, found_told (decide_eq_false (show ¬ (i < n ∧ r i = t) from fun h => hd h.2)), rfl⟩
   ·have q2 : ¬ (i : Int) < (n : Int) := by omega
    go_wp2_with fail
    go_ret2
    exact ⟨i, ⟨by omega, HLo.out, HHi.out⟩, found_told (decide_eq_false (show ¬ (i < n ∧ r i = t) from fun h => absurd h.1 (by omega))), rfl⟩
theorem add_at (b o i : Nat) : (⟨b, o, none⟩ : Addr).add i = ⟨b, o + i, none⟩ := by
 unfold Addr.add
 split <;> simp_all
theorem erow_search (v : Value) (l : List Nat) (t : Nat) (w : World) (hl : l.length ≤ 1000) (hp : l.Pairwise (· < ·)) (h : ERow w v l) :
  Calls Tryz.prog 80 #[v, .int .u64 (t : Nat)] w fun e w' => ∃ m, CutAt l t m ∧ e = .returned (.tuple #[.int .i64 (m : Nat), .bool (decide (l[m]? = some t))]) ∧ w = w' := by
 obtain ⟨ao, cap, b, o, rfl, h1, h2, h3⟩ := h
 have hg : ∀ i, i < l.length → l[i]? = some (l.getD i 0) := fun i hi => by rw [List.getD_eq_getElem?_getD, List.getElem?_eq_getElem hi]; rfl
 refine (esearch ao ⟨b, o, none⟩ l.length cap t (fun i => l.getD i 0) w hl (fun hn => (h3 hn).1) (fun i hi => ?_) (fun i j hij hj => ?_)).mono ?_
 ·rw [add_at]
  exact (h3 (by omega)).2.2 i _ (hg i hi)
 ·have h6 := List.pairwise_iff_getElem.1 hp i j (by omega) hj hij
  rw [List.getD_eq_getElem?_getD, List.getD_eq_getElem?_getD, List.getElem?_eq_getElem hj, List.getElem?_eq_getElem (show i < l.length by omega)]
  exact h6
 ·rintro e w' ⟨m, ⟨a1, a2, a3⟩, rfl, rfl⟩
  refine ⟨m, ⟨a1, fun q x hq hx => ?_, fun q x hq hx => ?_⟩, ?_, rfl⟩
  ·have := a2 q hq
   rw [List.getD_eq_getElem?_getD, hx] at this
   exact this
  ·have hql : q < l.length := (List.getElem?_eq_some_iff.1 hx).1
   have := a3 q hq hql
   rw [List.getD_eq_getElem?_getD, hx] at this
   exact this
  ·refine congrArg (fun b => Ending.returned (.tuple #[.int .i64 (m : Nat), .bool b])) (decide_eq_decide.2 ⟨fun h => ?_, fun h => ?_⟩)
   ·rw [hg m h.1]
    exact congrArg some h.2
   ·have hml : m < l.length := (List.getElem?_eq_some_iff.1 h).1
    refine ⟨hml, ?_⟩
    rw [hg m hml] at h
    injection h
def rowE (k : EpS) (j : Nat) : List Nat := (rowL k j).map (· + 1)
def EpAt (W : World) (S : Nat → Prop) (P : Nat) (k : EpS) : Prop :=
 ∃ R vs, EpBase W P R vs k.n k.fr.length ∧ (∀ j, j < k.n → ERow W (vs j) (rowE k j)) ∧ ((∀ j, k.hr j = 0) → ∀ j, j < k.n → W.ownsRow 0 34 1 (vs j) (rowE k j).length (numsV (rowE k j))) ∧ (∀ j, k.hr j ≤ k.fr.length) ∧ ∀ i, S i ↔ EpBlk P R vs k.n i
theorem rowE_len (k : EpS) (j : Nat) : (rowE k j).length ≤ k.fr.length := by
 unfold rowE
 rw [List.length_map]
 exact rowL_len k j
theorem rowE_rise (k : EpS) (j : Nat) : (rowE k j).Pairwise (· < ·) := by
 unfold rowE
 exact (rowL_rise k j).map _ fun a b h => by omega
theorem ep_has (P R n last : Nat) (vs : Nat → Value) (c : Nat) (hc : c < n) (w : World) (h : EpBase w P R vs n last) :
  Calls Tryz.prog 78 #[.pointer (some ⟨P, 0, none⟩), .int .i64 (c : Int)] w fun e w' => e = .returned (.bool true) ∧ w = w' := by
 have c1 := h.head
 have q1 : (0 : Int) ≤ (c : Int) := by omega
 have q2 : (c : Int) < (n : Int) := by omega
 clear h
 go_enter Tryz.func78, Tryz.ntmps78
 go_wp2_with fail
 go_ret
 exact ⟨by simp, rfl⟩
theorem ep_now (P R n last : Nat) (vs : Nat → Value) (w : World) (h : EpBase w P R vs n last) :
  Calls Tryz.prog 127 #[.pointer (some ⟨P, 0, none⟩)] w fun e w' => e = .returned (.int .u64 (last : Nat)) ∧ w = w' := by
 have c1 := h.last
 clear h
 go_enter Tryz.func127, Tryz.ntmps127
 go_wp2_with fail
 go_ret
 exact ⟨rfl, rfl⟩
theorem ep_was (P R n last : Nat) (vs : Nat → Value) (x : Nat) (w : World) (h : EpBase w P R vs n last) :
  Calls Tryz.prog 79 #[.pointer (some ⟨P, 0, none⟩), .int .u64 (x : Int)] w fun e w' => e = .returned (.bool (decide (1 ≤ x ∧ x ≤ last))) ∧ w = w' := by
 have HN := Lib.hid (ep_now P R n last vs w h)
 clear h
 by_cases h0 : 0 < x
 ·have q1 : (0 : Int) < (x : Int) := by omega
  go_enter Tryz.func79, Tryz.ntmps79
  go_wp2_with (refine HN.out.mono ?_; rintro e w' ⟨rfl, rfl⟩)
  go_ret
  refine ⟨?_, rfl⟩
  simp
  omega
 ·have q1 : ¬ (0 : Int) < (x : Int) := by omega
  rw [decide_eq_false (show ¬ (1 ≤ x ∧ x ≤ last) from fun h => h0 (by omega))]
  go_enter Tryz.func79, Tryz.ntmps79
  go_wp2_with fail
  go_ret
  exact ⟨rfl, rfl⟩
theorem Tryz.epInfo : (Tryz.prog.info? 34).map (fun i => (i.zero, i.size, i.bytes)) = some (some (.int .u64 0), 1, 8) := by kernel_rfl
theorem Tryz.rowsInfo : (Tryz.prog.info? 63).map (fun i => (i.zero, i.size, i.bytes)) = some (some (.slice none 0 0), 1, 24) := by kernel_rfl
theorem made_rows (n : Nat) : madeCells (#[.slice none 0 0] : Array Value) n = Array.replicate n (.slice none 0 0) := by
 unfold madeCells
 apply Array.ext
 ·simp
 ·intro i h1 h2
  simp [Nat.mod_one]
theorem make_nils (n : Nat) (hn : n ≤ 16) (w : World) :
  (Instr.makeSlice 141 (.int .i64 (n : Int)) (.int .i64 (n : Int))).run Tryz.prog w = .ok (.slice (some ⟨w.heap.size, 0, none⟩) n n) (w.alloc (.cells (Array.replicate n (.slice none 0 0)) 63)) := by
 obtain ⟨i, hi, hz⟩ := Option.map_eq_some_iff.1 Tryz.rowsInfo
 simp only [Prod.mk.injEq] at hz
 obtain ⟨hz0, hz1, hz2⟩ := hz
 have h := run_make (P := Tryz.prog) w 141 63 i _ Tryz.underlying141 hi hz0 .i64 .i64 n n (by omega) (by omega) (by rw [hz2]; omega) (by omega)
 rw [hz1] at h
 simp only [Int.toNat_natCast, Nat.mul_one] at h
 rw [h, ← made_rows]
 rfl
theorem ep_new (n : Nat) (w : World) (h1 : 1 ≤ n) (h8 : n ≤ 8) : Calls Tryz.prog 26 #[.int .i64 (n : Int)] w fun x w' => ∃ P S, x = .returned (.pointer (some ⟨P, 0, none⟩)) ∧ EpAt w' S P (newE n) ∧ (∀ i, S i → w.heap.size ≤ i) ∧ Below w.heap.size w w' := by
 obtain ⟨cs, hcs⟩ : ∃ cs : Array Value, cs = Array.replicate n (.slice none 0 0) := ⟨_, rfl⟩
 have hmk : ∀ W : World, (Instr.makeSlice 141 (.int .i64 (n : Int)) (.int .i64 (n : Int))).run Tryz.prog W = .ok (.slice (some ⟨W.heap.size, 0, none⟩) n n) (W.alloc (.cells cs 63)) := fun W => by rw [hcs]; exact make_nils n (by omega) W
 have hat : ∀ j, j < n → cs[j]? = some (.slice none 0 0) := fun j hj => by rw [hcs, Array.getElem?_replicate, if_pos hj]
 have HS := Lib.hid hat
 have q1 : ¬ (n : Int) < 1 := by omega
 have q2 : ¬ (8 : Int) < (n : Int) := by omega
 clear hcs hat
 go_enter Tryz.func26, Tryz.ntmps26
 go_wp2_with fail
 go_ret
 have k1 : ((w.alloc (.cells cs 63)).alloc (.cells #[.int .u64 0, .slice (some ⟨w.heap.size, 0, none⟩) n n] 143)).heap[w.heap.size + 1]? = some (.cells #[.int .u64 0, .slice (some ⟨w.heap.size, 0, none⟩) n n] 143 (0, 0)) := by
  have h := heap_alloc_new (w.alloc (.cells cs 63)) (.cells #[.int .u64 0, .slice (some ⟨w.heap.size, 0, none⟩) n n] 143)
  simpa using h
 have k2 : ((w.alloc (.cells cs 63)).alloc (.cells #[.int .u64 0, .slice (some ⟨w.heap.size, 0, none⟩) n n] 143)).heap[w.heap.size]? = some (.cells cs 63 (0, 0)) :=
  (Below.heap_alloc (w.alloc (.cells cs 63)) _ w.heap.size (by simp)).trans (heap_alloc_new w _)
 refine ⟨w.heap.size + 1, rfl, _, ⟨w.heap.size, fun _ => .slice none 0 0, ⟨⟨h1, h8⟩, by omega, bk_cell k1 0, bk_cell k1 1, fun i => bk_free k1 i, fun i => bk_free k2 i, fun j hj => (bk_cell k2 j).trans (HS.out j hj), fun j _ g hg => absurd hg (by simp [Value.ownBlock]), fun i j _ _ _ g hg => absurd hg (by simp [Value.ownBlock]), bk_lt k1, bk_lt k2⟩, fun j _ => ?_, fun _ j _ => World.ownsRow_nil _ _ _ _, fun _ => Nat.le_refl 0, fun _ => Iff.rfl⟩, fun i hi => ?_, ((Below.refl _ _).alloc (Nat.le_refl _) _).alloc (by simp) _⟩
 ·exact own_erow (World.ownsRow_nil _ 0 34 1)
 ·rcases hi with rfl | rfl | ⟨j, _, hg⟩
  ·omega
  ·omega
  ·exact absurd hg (by simp [Value.ownBlock])
set_option maxRecDepth 100000 in
set_option maxHeartbeats 1000000 in
theorem ep_waits (P : Nat) (S : Nat → Prop) (k : EpS) (x : Nat) (w : World) (h : EpAt w S P k) (hx : x < 1000) (hl : k.fr.length < 1000) :
  Calls Tryz.prog 39 #[.pointer (some ⟨P, 0, none⟩), .int .u64 (x : Int)] w fun z w' => ∃ v, z = .returned v ∧ w'.ownsRow w.heap.size 3 1 v (waitsL k x).length (pagesV (waitsL k x)) ∧ (waitsL k x = [] → v = .slice none 0 0) ∧ Below w.heap.size w w' := by
 obtain ⟨i0, hi, hz0, hz1, hz2⟩ := info_parts Tryz.intInfo
 obtain ⟨R, vs, hb, hrow, _, _, _⟩ := h
 have c0 := hb.head
 have HB := Lib.hid hb
 have HR := Lib.hid hrow
 obtain ⟨n, hn⟩ : ∃ n, n = k.n := ⟨_, rfl⟩
 have hn8 := hb.nn
 rw [← hn] at c0 HB HR hn8
 have HW : Hid (waitsU k x n = waitsL k x) := by rw [hn]; exact waitsU_all k x
 have HK := Lib.hid (fun j => rowE_len k j)
 have HZ := Lib.hid hl
 clear hb hrow hn hl
 rw [← HW.out]
 go_enter Tryz.func39, Tryz.ntmps39
 go_wp2_with fail
 clear c0
 go_loopw [5, 17] (fun v c W => ∃ j : Nat, j ≤ n ∧ c = .int .i64 j ∧ W.ownsRow w.heap.size 3 1 v (waitsU k x j).length (pagesV (waitsU k x j)) ∧ (waitsU k x j = [] → v = .slice none 0 0) ∧ Below w.heap.size w W) (fun _ c _ => (n - intOf c).toNat)
 case atStart => exact ⟨0, by omega, rfl, by rw [show waitsU k x 0 = [] from rfl]; exact World.ownsRow_nil _ _ _ _, fun _ => rfl, Below.refl _ _⟩
 case round =>
  obtain ⟨j, hj, rfl, hown, hnil, hb⟩ := hrel
  have HNil := Lib.hid hnil
  clear hnil
  have HO := Lib.hid hown
  have HB2 := Lib.hid hb
  have HP := Lib.hid (HB.out.under hb)
  clear hown
  by_cases hlt : j < n
  ·have c1 := HP.out.row j hlt
   have hin : (j : Int) < (n : Int) := by omega
   have hrow := (HR.out j hlt).foot hb.size fun g hg => hb.block g (HB.out.off j hlt g hg).2.2
   have HS := Lib.hid (fun W (hW : Below wr.heap.size wr W) => erow_search (vs j) (rowE k j) x W (by have := HK.out j; have := HZ.out; omega) (rowE_rise k j) (hrow.foot hW.size fun g hg => hW.block g (HP.out.off j hlt g hg).2.2))
   clear hrow hb
   go_wp2_with fail
   refine (HS.out _ (Below.refl _ _)).mono ?_
   rintro e w2 ⟨m, hcut, rfl, rfl⟩
   clear c1
   have hin2 : (decide ((rowE k j)[m]? = some x)) = decide (x - 1 ∈ rowL k j ∧ 1 ≤ x) := by
    refine decide_eq_decide.2 ?_
    rw [← cut_in (rowE_rise k j) hcut]
    unfold rowE
    rw [List.mem_map]
    constructor
    ·rintro ⟨y, hy, rfl⟩
     exact ⟨by rw [Nat.add_sub_cancel]; exact hy, by omega⟩
    ·exact fun h => ⟨x - 1, h.1, by omega⟩
   rw [hin2]
   clear hin2 hcut
   by_cases hr : x - 1 ∈ rowL k j ∧ 1 ≤ x
   ·have HL := Lib.hid (waitsU_yes k x j hr)
    have hle := waitsU_le k x j
    rw [decide_eq_true hr]
    clear hr
    go_wp2_with (refine wpList_append_own (o := ⟨some 32, _, _, _, _, _⟩) _ rfl (.tmp 29) (.tmp 31) 61 rfl w.heap.size 3 i0 (.int .i64 0) 1 8 Tryz.underlying61 hi hz0 hz1 hz2 rfl (by decide) _ _ _ rfl (HO.out.alloc _) ⟨wr.heap.size, 0, none⟩ 1 1 [.int .i64 (j : Int)] rfl rfl (one_at _ _ _) (one_cell j) (by unfold maxLen; omega) (by omega) (by have := HB2.out.size; simp; omega) ?_)
    intro v' w3 hown hgrow _
    have B3 := Lib.hid (own_grown HB2.out hgrow HO.out)
    have O3 := Lib.hid hown
    clear hown hgrow
    go_wp2_with fail
    go_roundw
    case rel => exact ⟨j + 1, by omega, by go_num, by rw [HL.out, List.length_append]; unfold pagesV at O3 ⊢; rw [List.map_append]; exact O3.out, fun e => absurd (HL.out.symm.trans e) (by simp), B3.out⟩
    case measure => simp [intOf]; omega
   ·have HL := Lib.hid (waitsU_no k x j hr)
    rw [decide_eq_false hr]
    clear hr
    go_wp2_with fail
    go_roundw
    case rel => exact ⟨j + 1, by omega, by go_num, by rw [HL.out]; exact HO.out, fun e => HNil.out (HL.out.symm.trans e), HB2.out⟩
    case measure => simp [intOf]; omega
  ·obtain rfl : n = j := by omega
   have hin : ¬ (n : Int) < (n : Int) := by omega
   go_wp2_with fail
   go_ret
   exact ⟨_, rfl, HO.out, HNil.out, HB2.out⟩
theorem ep_done (P : Nat) (S : Nat → Prop) (k : EpS) (x : Nat) (w : World) (h : EpAt w S P k) (hx : x < 1000) (hl : k.fr.length < 1000) :
  Calls Tryz.prog 38 #[.pointer (some ⟨P, 0, none⟩), .int .u64 (x : Int)] w fun z w' => z = .returned (.bool (doneB k x)) ∧ Below w.heap.size w w' := by
 have hs : ∀ (W : World) (a : Option Addr) (m c : Nat), (binOp .eql 61 (.slice a m c) (.slice none 0 0)).run Tryz.prog W = .ok (.bool a.isNone) W := fun W a m c => Lib.run_eql_slice_nil W _ _ a m c 0 0 Tryz.underlying61
 have HW := Lib.hid (ep_waits P S k x w h hx hl)
 obtain ⟨R, vs, hb, _⟩ := h
 have HH := Lib.hid (ep_was P R k.n k.fr.length vs x w hb)
 clear hb
 by_cases hin : 1 ≤ x ∧ x ≤ k.fr.length
 ·rw [done_waits k x hin]
  rw [decide_eq_true hin] at HH
  by_cases h0 : waitsL k x = []
  ·rw [decide_eq_true (show (waitsL k x).length = 0 by rw [h0]; rfl)]
   go_enter Tryz.func38, Tryz.ntmps38
   go_wp2_with (go_at_call 79; refine HH.out.mono ?_; rintro e w' ⟨rfl, rfl⟩)
   refine HW.out.mono ?_
   rintro e w1 ⟨v, rfl, ho, hnil, hb⟩
   have HB := Lib.hid hb
   obtain rfl := hnil h0
   clear hb ho hnil
   go_wp2_with fail
   go_ret
   exact ⟨rfl, HB.out⟩
  ·rw [decide_eq_false (show ¬ (waitsL k x).length = 0 from fun h => h0 (List.length_eq_zero_iff.1 h))]
   go_enter Tryz.func38, Tryz.ntmps38
   go_wp2_with (go_at_call 79; refine HH.out.mono ?_; rintro e w' ⟨rfl, rfl⟩)
   refine HW.out.mono ?_
   rintro e w1 ⟨v, rfl, ho, hnil, hb⟩
   have HB := Lib.hid hb
   rcases row_frees ho with ⟨h1, _⟩ | ⟨g, cap, rfl, _⟩
   ·exact absurd h1 h0
   ·clear hb ho hnil
    go_wp2_with fail
    go_ret
    exact ⟨rfl, HB.out⟩
 ·rw [done_out k x hin]
  rw [decide_eq_false hin] at HH
  go_enter Tryz.func38, Tryz.ntmps38
  go_wp2_with (refine HH.out.mono ?_; rintro e w' ⟨rfl, rfl⟩)
  go_ret
  exact ⟨rfl, Below.refl _ _⟩
end Go.Proofs.YtdfhfmdelinemaaGreatDoor
