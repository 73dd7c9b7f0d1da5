/- What is proved here: contracts of package mail and of the statements' own put. Conditions: those that each theorem names. -/
import Derived.Test.YtdfhfmdelinemaaGreatDoorGParts
import Derived.Laws.AppendOwn
import Derived.Maps.AppendAt
import Derived.OwnWalk
import Derived.Deep.RegionHeld3
import Derived.Deep.AppendLies
import Derived.Deep.Slices
import Derived.Laws.OwnMore
import Derived.Deep.QuietTactic
import Derived.BigRegion
import Derived.RegionTactic
import Derived.Deep.RegionLaw
import Derived.Maps.OwnOps
import Derived.Maps.OwnSet
import Derived.Maps.Views
namespace Go.Proofs.YtdfhfmdelinemaaGreatDoor
open Go.RowKit Go.Extern.Stop Go.Stop Go.Extern
end Go.Proofs.YtdfhfmdelinemaaGreatDoor
namespace Go.Proofs.YtdfhfmdelinemaaGreatDoor
open Go.RowKit Go.Extern.Stop Go.Stop Go.Extern
theorem Tryz.wordInfo : (Tryz.prog.info? 34).map (fun i => (i.zero, i.size, i.bytes)) = some (some (.int .u64 0), 1, 8) := by kernel_rfl
def wordsV (l : List Int) : List Value := l.map fun x => Value.int .u64 x
theorem one_word {W : World} {B : Nat} {t : TypeId} {n : Int} (h : W.heap[B]? = some (.cells #[.int .u64 n] t (0, 0))) : ∀ j u, [Value.int .u64 n][j]? = some u → W.cell? ((⟨B, 0, none⟩ : Addr).add j) = some u := World.news_of_block h
end Go.Proofs.YtdfhfmdelinemaaGreatDoor
namespace Go.Proofs.YtdfhfmdelinemaaGreatDoor
open Go.RowKit Go.Extern.Stop Go.Stop Go.Extern
end Go.Proofs.YtdfhfmdelinemaaGreatDoor
namespace Go.Proofs.YtdfhfmdelinemaaGreatDoor
open Go.RowKit Go.Extern.Stop Go.Stop Go.Extern
def putL : List Int → Int → List Int
 | [], n => [n]
 | x :: xs, n => if x < n then x :: putL xs n else if x = n then x :: xs else n :: x :: xs
theorem putL_len (n : Int) : ∀ l : List Int, (putL l n).length ≤ l.length + 1
 | [] => Nat.le_refl _
 | x :: l => by
  have := putL_len n l
  unfold putL
  split
  ·simp; omega
  ·split
   ·simp
   ·simp
theorem own_base {W : World} {b b' n : Nat} {e : TypeId} {v : Value} {xs : List Value} (h : W.ownsRow b e 1 v n xs) (hb : b' ≤ b) : W.ownsRow b' e 1 v n xs := by
 obtain ⟨h1, h2 | ⟨g, cap, cur, a1, a2, a3⟩⟩ := h
 ·exact ⟨h1, .inl h2⟩
 ·exact ⟨h1, .inr ⟨g, cap, cur, a1, by omega, a3⟩⟩
end Go.Proofs.YtdfhfmdelinemaaGreatDoor
namespace Go.Proofs.YtdfhfmdelinemaaGreatDoor
open Go.RowKit Go.Extern.Stop Go.Stop Go.Extern
def gz (xs : List Int) (k : Nat) : Int := xs.getD k 0
def swapL (xs : List Int) (i j : Nat) : List Int := (xs.set i (gz xs j)).set j (gz xs i)
theorem swapL_len (xs : List Int) (i j : Nat) : (swapL xs i j).length = xs.length := by simp [swapL]
theorem gz_at {xs : List Int} {k : Nat} (h : k < xs.length) : xs[k]? = some (gz xs k) := by
 simp [gz, List.getD, List.getElem?_eq_getElem h]
theorem gz_swap {xs : List Int} {i j : Nat} (hi : i < xs.length) (hj : j < xs.length) (k : Nat) : gz (swapL xs i j) k = if k = j then gz xs i else if k = i then gz xs j else gz xs k := by
 unfold swapL
 show (((xs.set i (gz xs j)).set j (gz xs i)).getD k 0) = _
 rw [List.getD_eq_getElem?_getD, List.getElem?_set, List.getElem?_set]
 by_cases h1 : j = k
 ·subst h1
  simp [hj]
 ·rw [if_neg h1, if_neg (fun e : k = j => h1 e.symm)]
  by_cases h2 : i = k
  ·subst h2
   simp [hi]
  ·rw [if_neg h2, if_neg (fun e : k = i => h2 e.symm)]
   rfl
theorem swap_perm {xs : List Int} {i j : Nat} (hi : i < xs.length) (hj : j < xs.length) : (swapL xs i j).Perm xs := by
 have h := Array.swap_perm (xs := xs.toArray) (i := i) (j := j) (by simpa using hi) (by simpa using hj)
 rw [Array.perm_iff_toList_perm] at h
 have e : (xs.toArray.swap i j (by simpa using hi) (by simpa using hj)).toList = swapL xs i j := by
  simp [swapL, gz, List.getD, List.getElem?_eq_getElem hi, List.getElem?_eq_getElem hj]
 rw [e] at h
 simpa using h
def IsHeap (n : Nat) (z : Nat → Int) : Prop := ∀ k, 0 < k → k < n → z ((k - 1) / 2) ≤ z k
def HeapUp (n j : Nat) (z : Nat → Int) : Prop :=
 (∀ k, 0 < k → k < n → k ≠ j → z ((k - 1) / 2) ≤ z k) ∧ (∀ k, 0 < k → k < n → (k - 1) / 2 = j → 0 < j → z ((j - 1) / 2) ≤ z k)
def HeapDown (n i : Nat) (z : Nat → Int) : Prop :=
 (∀ k, 0 < k → k < n → (k - 1) / 2 ≠ i → z ((k - 1) / 2) ≤ z k) ∧ (∀ k, 0 < k → k < n → (k - 1) / 2 = i → 0 < i → z ((i - 1) / 2) ≤ z k)
theorem up_done {n j : Nat} {z : Nat → Int} (h : HeapUp n j z) (hd : j = 0 ∨ z ((j - 1) / 2) ≤ z j) : IsHeap n z := by
 intro k h0 hk
 by_cases hj : k = j
 ·subst hj
  rcases hd with hd | hd
  ·omega
  ·exact hd
 ·exact h.1 k h0 hk hj
theorem up_step {n j : Nat} {z y : Nat → Int} (h : HeapUp n j z) (h0 : 0 < j) (hj : j < n) (hlt : z j < z ((j - 1) / 2))
  (hy : ∀ k, y k = if k = j then z ((j - 1) / 2) else if k = (j - 1) / 2 then z j else z k) : HeapUp n ((j - 1) / 2) y := by
 obtain ⟨h1, h2⟩ := h
 generalize hp : (j - 1) / 2 = p at *
 have hpj : p < j := by omega
 refine ⟨fun k k0 kn hk => ?_, fun k k0 kn hk p0 => ?_⟩
 ·have a1 := h1 k k0 kn
  have a2 := h2 k k0 kn
  generalize hq : (k - 1) / 2 = q at *
  rw [hy q, hy k]
  by_cases e1 : k = j
  ·subst e1
   rw [if_neg (show ¬ q = k by omega), if_pos (show q = p by omega), if_pos rfl]
   omega
  ·rw [if_neg e1, if_neg hk]
   have a1 := a1 e1
   by_cases e2 : q = j
   ·rw [if_pos e2]
    exact a2 e2 h0
   ·rw [if_neg e2]
    by_cases e3 : q = p
    ·rw [if_pos e3]
     rw [e3] at a1
     omega
    ·rw [if_neg e3]
     exact a1
 ·have a1 := h1 k k0 kn
  have b1 := h1 p p0 (by omega) (by omega)
  rw [hk] at a1
  rw [hy ((p - 1) / 2), hy k, if_neg (show ¬ (p - 1) / 2 = j by omega), if_neg (show ¬ (p - 1) / 2 = p by omega)]
  by_cases e1 : k = j
  ·rw [if_pos e1]
   exact b1
  ·rw [if_neg e1, if_neg (show ¬ k = p by omega)]
   have a1 := a1 e1
   omega
theorem down_done {n i : Nat} {z : Nat → Int} (h : HeapDown n i z) (hd : ∀ k, 0 < k → k < n → (k - 1) / 2 = i → z i ≤ z k) : IsHeap n z := by
 intro k h0 hk
 by_cases hj : (k - 1) / 2 = i
 ·rw [hj]
  exact hd k h0 hk hj
 ·exact h.1 k h0 hk hj
theorem down_step {n i j : Nat} {z y : Nat → Int} (h : HeapDown n i z) (h0 : 0 < j) (hj : j < n) (hij : (j - 1) / 2 = i) (hm : ∀ k, 0 < k → k < n → (k - 1) / 2 = i → z j ≤ z k) (hlt : z j < z i)
  (hy : ∀ k, y k = if k = j then z i else if k = i then z j else z k) : HeapDown n j y := by
 obtain ⟨h1, h2⟩ := h
 have hij' : i < j := by omega
 refine ⟨fun k k0 kn hk => ?_, fun k k0 kn hk j0 => ?_⟩
 ·have a1 := h1 k k0 kn
  have a2 := h2 k k0 kn
  have a3 := hm k k0 kn
  by_cases e1 : k = j
  ·subst e1
   rw [hy, hy, hij, if_neg (show ¬ i = k by omega), if_pos rfl, if_pos rfl]
   omega
  ·by_cases e2 : (k - 1) / 2 = i
   ·rw [hy, hy, e2, if_neg (show ¬ i = j by omega), if_pos rfl, if_neg e1, if_neg (show ¬ k = i by omega)]
    exact a3 e2
   ·have a1 := a1 e2
    rw [hy, hy, if_neg hk, if_neg e2, if_neg e1]
    by_cases e3 : k = i
    ·subst e3
     rw [if_pos rfl]
     have b2 := h2 j h0 hj hij k0
     exact b2
    ·rw [if_neg e3]
     exact a1
 ·have a1 := h1 k k0 kn (by omega)
  rw [hk] at a1
  rw [hy, hy, hij, if_neg (show ¬ i = j by omega), if_pos rfl, if_neg (show ¬ k = j by omega), if_neg (show ¬ k = i by omega)]
  exact a1
theorem heap_push {n : Nat} {z : Nat → Int} (h : IsHeap n z) (y : Nat → Int) (hy : ∀ k, k < n → y k = z k) : HeapUp (n + 1) n y :=
 ⟨fun k k0 kn hk => by rw [hy _ (by omega), hy _ (by omega)]; exact h k k0 (by omega), fun k k0 kn hk _ => by omega⟩
theorem heap_pop {n : Nat} {z y : Nat → Int} (h : IsHeap (n + 1) z) (hy : ∀ k, 0 < k → k < n → y k = z k) : HeapDown n 0 y :=
 ⟨fun k k0 kn hk => by rw [hy _ (by omega) (by omega), hy _ (by omega) (by omega)]; exact h k k0 (by omega), fun k k0 kn hk h0 => by omega⟩
theorem heap_least {n : Nat} {z : Nat → Int} (h : IsHeap n z) : ∀ k, k < n → z 0 ≤ z k := by
 intro k
 induction k using Nat.strongRecOn with
 | ind k ih =>
  intro hk
  by_cases h0 : k = 0
  ·subst h0; exact Int.le_refl _
  ·exact Int.le_trans (ih ((k - 1) / 2) (by omega) (by omega)) (h k (by omega) hk)
def Rising (l : List Int) : Prop := l.Pairwise (· < ·)
theorem putL_mem (n x : Int) : ∀ l : List Int, x ∈ putL l n ↔ x = n ∨ x ∈ l
 | [] => by simp [putL]
 | y :: l => by
  unfold putL
  split
  ·simp only [List.mem_cons, putL_mem n x l]
   exact ⟨by rintro (h | h | h) <;> simp [h], by rintro (h | h | h) <;> simp [h]⟩
  ·split
   ·rename_i h1 h2
    subst h2
    simp only [List.mem_cons]
    exact ⟨fun h => .inr h, fun h => h.elim (fun e => .inl e) id⟩
   ·simp only [List.mem_cons]
theorem putL_rising (n : Int) : ∀ {l : List Int}, Rising l → Rising (putL l n)
 | [], _ => List.pairwise_singleton _ _
 | y :: l, h => by
  unfold putL
  have h' := List.pairwise_cons.1 h
  split
  ·rename_i h1
   exact List.pairwise_cons.2 ⟨fun x hx => by
    rcases (putL_mem n x l).1 hx with rfl | hx
    ·exact h1
    ·exact h'.1 x hx, putL_rising n h'.2⟩
  ·split
   ·exact h
   ·rename_i h1 h2
    have h3 : n < y := by omega
    exact List.pairwise_cons.2 ⟨fun x hx => by
     rcases List.mem_cons.1 hx with rfl | hx
     ·exact h3
     ·exact Int.lt_trans h3 (h'.1 x hx), h⟩
theorem putL_perm (n : Int) : ∀ {l : List Int}, n ∉ l → (putL l n).Perm (n :: l)
 | [], _ => List.Perm.refl _
 | y :: l, h => by
  unfold putL
  split
  ·exact ((putL_perm n (fun hx => h (List.mem_cons_of_mem _ hx))).cons y).trans (List.Perm.swap n y l)
  ·split
   ·rename_i h1 h2
    exact absurd (h2 ▸ List.mem_cons_self) h
   ·exact List.Perm.refl _
theorem putL_in (n : Int) : ∀ {l : List Int}, Rising l → n ∈ l → putL l n = l
 | [], _, h => by simp at h
 | y :: l, hr, h => by
  have h' := List.pairwise_cons.1 hr
  unfold putL
  rcases List.mem_cons.1 h with rfl | h1
  ·rw [if_neg (Int.lt_irrefl _), if_pos rfl]
  ·rw [if_pos (h'.1 n h1), putL_in n h'.2 h1]
theorem heap_head {xs l : List Int} {m : Int} (hp : xs.Perm (m :: l)) (hr : Rising (m :: l)) (h : IsHeap xs.length (gz xs)) : gz xs 0 = m := by
 have hl : 0 < xs.length := by rw [hp.length_eq]; simp
 have hm : m ∈ xs := hp.symm.subset List.mem_cons_self
 obtain ⟨k, hk, he⟩ := List.getElem_of_mem hm
 have h1 := heap_least h k hk
 have h2 : gz xs k = m := by
  rw [← he]
  simp [gz, List.getD, List.getElem?_eq_getElem hk]
 have h3 : gz xs 0 ∈ m :: l := hp.subset (by
  have := gz_at hl
  exact List.mem_of_getElem? this)
 rcases List.mem_cons.1 h3 with h4 | h4
 ·exact h4
 ·have := (List.pairwise_cons.1 hr).1 _ h4
  omega
theorem gz_append_lt {xs : List Int} {n : Int} {k : Nat} (h : k < xs.length) : gz (xs ++ [n]) k = gz xs k := by
 simp [gz, List.getD, List.getElem?_append_left h]
theorem gz_take {xs : List Int} {n k : Nat} (h : k < n) : gz (xs.take n) k = gz xs k := by
 simp [gz, List.getD, h]
theorem take_last {xs : List Int} {n : Nat} (h : xs.length = n + 1) : xs.take n ++ [gz xs n] = xs := by
 have e := List.take_append_drop n xs
 have d : xs.drop n = [gz xs n] := by
  rw [List.drop_eq_getElem_cons (by omega), List.drop_eq_nil_of_le (by omega)]
  simp [gz, List.getD, List.getElem?_eq_getElem (show n < xs.length by omega)]
 rw [d] at e
 exact e
theorem pop_perm {ys l : List Int} {m : Int} {n : Nat} (hn : ys.length = n + 1) (hp : ys.Perm (m :: l)) (hm : gz ys n = m) : (ys.take n).Perm l := by
 have e := take_last hn
 rw [hm] at e
 have h1 : (m :: ys.take n).Perm (m :: l) := ((List.perm_append_singleton m (ys.take n)).symm.trans (List.Perm.of_eq e)).trans hp
 exact h1.cons_inv
end Go.Proofs.YtdfhfmdelinemaaGreatDoor
namespace Go.Proofs.YtdfhfmdelinemaaGreatDoor
open Go.RowKit Go.Extern.Stop Go.Stop Go.Extern
theorem wrap_run (P : Program) (t : TypeId) (a : Addr) (n : String) (w : World) : (Builtin.ssaWrapNilChk_ #[t] t #[.pointer (some a), strVal "", strVal n]).run P w = .ok (.pointer (some a)) w := rfl
theorem q_load (a : Addr) (v : Value) (w : World) (h : w.cell? a = some v) : (loadVar 268 a).run Tryz.prog w = .ok v w := by
 have hr : (loadVar 268 a).run Tryz.prog w = (load a).run Tryz.prog w := by kernel_rfl
 rw [hr]
 simp [h]
theorem q_recv (n : String) (a : Addr) (v : Value) (w : World) (h : w.cell? a = some v) : (receiverAt 287 (.val (.pointer (some a))) false (some n)).run Tryz.prog w = .ok v w := by
 unfold receiverAt
 simp [run_underlying Tryz.underlying287, Place.get, wrap_run, asAddr, q_load a v w h]
theorem Tryz.methodLess (a : Addr) (v : Value) (w : World) (h : w.cell? a = some v) : (Go.method 458 287 (.pointer (some a)) "Less").run Tryz.prog w = .ok (269, v) w := by
 have hr : (Go.method 458 287 (.pointer (some a)) "Less").run Tryz.prog w = (do let r ← receiverAt 287 (.val (.pointer (some a))) false (some "Less"); pure (269, r) : Sem (FuncId × Value)).run Tryz.prog w := by kernel_rfl
 rw [hr]
 simp [q_recv "Less" a v w h]
theorem Tryz.methodSwap (a : Addr) (v : Value) (w : World) (h : w.cell? a = some v) : (Go.method 458 287 (.pointer (some a)) "Swap").run Tryz.prog w = .ok (270, v) w := by
 have hr : (Go.method 458 287 (.pointer (some a)) "Swap").run Tryz.prog w = (do let r ← receiverAt 287 (.val (.pointer (some a))) false (some "Swap"); pure (270, r) : Sem (FuncId × Value)).run Tryz.prog w := by kernel_rfl
 rw [hr]
 simp [q_recv "Swap" a v w h]
theorem Tryz.methodLen (a : Addr) (v : Value) (w : World) (h : w.cell? a = some v) : (Go.method 458 287 (.pointer (some a)) "Len").run Tryz.prog w = .ok (268, v) w := by
 have hr : (Go.method 458 287 (.pointer (some a)) "Len").run Tryz.prog w = (do let r ← receiverAt 287 (.val (.pointer (some a))) false (some "Len"); pure (268, r) : Sem (FuncId × Value)).run Tryz.prog w := by kernel_rfl
 rw [hr]
 simp [q_recv "Len" a v w h]
theorem Tryz.methodPush (v : Value) (w : World) : (Go.method 458 287 v "Push").run Tryz.prog w = .ok (272, v) w := by kernel_rfl
theorem Tryz.methodPop (v : Value) (w : World) : (Go.method 458 287 v "Pop").run Tryz.prog w = .ok (271, v) w := by kernel_rfl
end Go.Proofs.YtdfhfmdelinemaaGreatDoor
namespace Go.Proofs.YtdfhfmdelinemaaGreatDoor
open Go.RowKit Go.Extern.Stop Go.Stop Go.Extern
def RowQ (w : World) (v : Value) (xs : List Int) : Prop := w.ownsRow 0 34 1 v xs.length (wordsV xs)
theorem RowQ.cell {w : World} {g cap : Nat} {xs : List Int} (h : RowQ w (.slice (some ⟨g, 0, none⟩) xs.length cap) xs) {i : Nat} (hi : i < xs.length) : w.cell? ⟨g, i, none⟩ = some (.int .u64 (gz xs i)) := by
 unfold RowQ at h
 rw [h.cellAt i (by omega)]
 unfold wordsV
 rw [List.getElem?_map, gz_at hi]
 rfl
theorem RowQ.open {w : World} {v : Value} {xs : List Int} (h : RowQ w v xs) (hp : 0 < xs.length) : ∃ g cap, v = .slice (some ⟨g, 0, none⟩) xs.length cap ∧ xs.length ≤ cap ∧ cap ≤ 9223372036854775807 ∧ g < w.heap.size := by
 rcases h.2 with ⟨_, h0⟩ | ⟨g, cap, cur, rfl, _, hg, hnc, hcm, _, _⟩
 ·omega
 ·exact ⟨g, cap, rfl, hnc, by unfold maxLen at hcm; omega, (Array.getElem?_eq_some_iff.1 hg).1⟩
def LikeW (w' w : World) : Prop := w'.heap = w.heap ∧ w'.os = w.os ∧ w'.tape = w.tape ∧ w'.output = w.output
theorem qlen_len (ao : Option Addr) (n cap : Nat) (w : World) : Calls Tryz.prog 268 #[.slice ao n cap] w fun e w' => e = .returned (.int .i64 n) ∧ w = w' := by
 go_enter Tryz.func268, Tryz.ntmps268
 go_wp2_with fail
 go_ret
 exact ⟨rfl, rfl⟩
theorem qless (g cap : Nat) (xs : List Int) (i j : Nat) (hi : i < xs.length) (hj : j < xs.length) (w : World) (h : RowQ w (.slice (some ⟨g, 0, none⟩) xs.length cap) xs) :
  Calls Tryz.prog 269 #[.slice (some ⟨g, 0, none⟩) xs.length cap, .int .i64 i, .int .i64 j] w fun e w' => e = .returned (.bool (decide (gz xs i < gz xs j))) ∧ ∃ k, w' = w.drewN k := by
 have ci := h.cell hi
 have cj := h.cell hj
 clear h
 generalize gz xs i = zi at *
 generalize gz xs j = zj at *
 generalize xs.length = n at *
 have hi0 : (0 : Int) ≤ (i : Int) := by omega
 have hj0 : (0 : Int) ≤ (j : Int) := by omega
 have hi1 : (i : Int) < (n : Int) := by omega
 have hj1 : (j : Int) < (n : Int) := by omega
 go_enter Tryz.func269, Tryz.ntmps269
 go_wp2_with fail
 go_quiet (fail)
 go_wp2_with fail
 go_ret
 exact ⟨rfl, _, rfl⟩
theorem qswap_far (g cap : Nat) (n i j : Nat) (zi zj : Int) (hi : i < n) (hj : j < n) (hij : ¬ i = j) (w : World) (ci : w.cell? ⟨g, i, none⟩ = some (.int .u64 zi)) (cj : w.cell? ⟨g, j, none⟩ = some (.int .u64 zj)) (fi : w.frozen? ⟨g, i, none⟩ = false) (fj : w.frozen? ⟨g, j, none⟩ = false) :
  Calls Tryz.prog 270 #[.slice (some ⟨g, 0, none⟩) n cap, .int .i64 i, .int .i64 j] w fun e w' => e = .returned (.tuple #[]) ∧ LikeW w' ((w.setCell ⟨g, i, none⟩ (.int .u64 zj)).setCell ⟨g, j, none⟩ (.int .u64 zi)) := by
 have hi0 : (0 : Int) ≤ (i : Int) := by omega
 have hj0 : (0 : Int) ≤ (j : Int) := by omega
 have hi1 : (i : Int) < (n : Int) := by omega
 have hj1 : (j : Int) < (n : Int) := by omega
 go_enter Tryz.func270, Tryz.ntmps270
 go_wp2_with fail
 go_region
 all_goals
  go_wp2_with fail
  go_end0
  exact ⟨rfl, rfl, rfl, rfl, rfl⟩
theorem qswap_same (g cap : Nat) (n i : Nat) (zi : Int) (hi : i < n) (w : World) (ci : w.cell? ⟨g, i, none⟩ = some (.int .u64 zi)) (fi : w.frozen? ⟨g, i, none⟩ = false) :
  Calls Tryz.prog 270 #[.slice (some ⟨g, 0, none⟩) n cap, .int .i64 i, .int .i64 i] w fun e w' => e = .returned (.tuple #[]) ∧ LikeW w' ((w.setCell ⟨g, i, none⟩ (.int .u64 zi)).setCell ⟨g, i, none⟩ (.int .u64 zi)) := by
 have hi0 : (0 : Int) ≤ (i : Int) := by omega
 have hi1 : (i : Int) < (n : Int) := by omega
 go_enter Tryz.func270, Tryz.ntmps270
 go_wp2_with fail
 go_region
 all_goals
  go_wp2_with fail
  go_end0
  exact ⟨rfl, rfl, rfl, rfl, rfl⟩
end Go.Proofs.YtdfhfmdelinemaaGreatDoor
namespace Go.Proofs.YtdfhfmdelinemaaGreatDoor
open Go.RowKit Go.Extern.Stop Go.Stop Go.Extern
theorem gr_refl (w : World) (r : Option Nat) : w.grownBy w r := ⟨rfl, rfl, rfl, Nat.le_refl _, fun _ _ _ => rfl⟩
theorem gr_trans {w a b : World} {r : Option Nat} (h : w.grownBy a r) (h2 : a.grownBy b r) : w.grownBy b r :=
 ⟨h2.os.trans h.os, h2.tape.trans h.tape, h2.output.trans h.output, Nat.le_trans h.size h2.size, fun k hk hn => (h2.block k (Nat.lt_of_lt_of_le hk h.size) hn).trans (h.block k hk hn)⟩
theorem gr_drewN {w a : World} {r : Option Nat} (h : w.grownBy a r) (n : Nat) : w.grownBy (a.drewN n) r := ⟨h.os, h.tape, h.output, h.size, h.block⟩
theorem RowQ.like {w w' : World} {v : Value} {xs : List Int} (h : RowQ w v xs) (hh : w'.heap = w.heap) : RowQ w' v xs := by
 unfold RowQ World.ownsRow at *
 rw [hh]
 exact h
theorem RowQ.drewN {w : World} {v : Value} {xs : List Int} (h : RowQ w v xs) (n : Nat) : RowQ (w.drewN n) v xs := h
theorem RowQ.put {w : World} {g cap n : Nat} {xs : List Int} (hn : xs.length = n) (h : RowQ w (.slice (some ⟨g, 0, none⟩) n cap) xs) (i : Nat) (x : Int) : RowQ (w.setCell ⟨g, i, none⟩ (.int .u64 x)) (.slice (some ⟨g, 0, none⟩) n cap) (xs.set i x) ∧ w.grownBy (w.setCell ⟨g, i, none⟩ (.int .u64 x)) (some g) := by
 subst hn
 obtain ⟨h1, h2⟩ := World.ownsRow.stored h i (.int .u64 x)
 refine ⟨?_, h2⟩
 unfold RowQ
 rw [List.length_set]
 have e : (wordsV xs).set i (.int .u64 x) = wordsV (xs.set i x) := by unfold wordsV; rw [List.map_set]
 rw [← e]
 exact h1
theorem RowQ.frozen {w : World} {g cap : Nat} {xs : List Int} (h : RowQ w (.slice (some ⟨g, 0, none⟩) xs.length cap) xs) (i : Nat) : w.frozen? ⟨g, i, none⟩ = false :=
 World.ownsRow.frozenAt h i
theorem qswap (g cap n : Nat) (xs : List Int) (hn : xs.length = n) (i j : Nat) (hi : i < n) (hj : j < n) (w : World) (h : RowQ w (.slice (some ⟨g, 0, none⟩) n cap) xs) :
  Calls Tryz.prog 270 #[.slice (some ⟨g, 0, none⟩) n cap, .int .i64 i, .int .i64 j] w fun e w' => e = .returned (.tuple #[]) ∧ RowQ w' (.slice (some ⟨g, 0, none⟩) n cap) (swapL xs i j) ∧ w.grownBy w' (some g) := by
 subst hn
 have key : ∀ w' : World, w'.heap = ((w.setCell ⟨g, i, none⟩ (.int .u64 (gz xs j))).setCell ⟨g, j, none⟩ (.int .u64 (gz xs i))).heap → w'.os = w.os → w'.tape = w.tape → w'.output = w.output → RowQ w' (.slice (some ⟨g, 0, none⟩) xs.length cap) (swapL xs i j) ∧ w.grownBy w' (some g) := by
  intro w' hh ho ht hu
  obtain ⟨h1, g1⟩ := RowQ.put rfl h i (gz xs j)
  obtain ⟨h2, g2⟩ := RowQ.put (by simp) h1 j (gz xs i)
  have g3 := gr_trans g1 g2
  exact ⟨h2.like hh, ho, ht, hu, by rw [hh]; exact g3.size, fun k hk hne => by rw [hh]; exact g3.block k hk hne⟩
 by_cases hij : i = j
 ·subst hij
  refine (qswap_same g cap xs.length i (gz xs i) hi w (h.cell hi) (h.frozen i)).mono ?_
  rintro e w' ⟨rfl, a1, a2, a3, a4⟩
  exact ⟨rfl, key w' a1 a2 a3 a4⟩
 ·refine (qswap_far g cap xs.length i j (gz xs i) (gz xs j) hi hj hij w (h.cell hi) (h.cell hj) (h.frozen i) (h.frozen j)).mono ?_
  rintro e w' ⟨rfl, a1, a2, a3, a4⟩
  exact ⟨rfl, key w' a1 a2 a3 a4⟩
theorem qless_is (g cap n : Nat) (xs : List Int) (hn : xs.length = n) (i j : Nat) (hi : i < n) (hj : j < n) (w : World) (h : RowQ w (.slice (some ⟨g, 0, none⟩) n cap) xs) (b : Bool) (hb : decide (gz xs i < gz xs j) = b) :
  Calls Tryz.prog 269 #[.slice (some ⟨g, 0, none⟩) n cap, .int .i64 i, .int .i64 j] w fun e w' => e = .returned (.bool b) ∧ ∃ k, w' = w.drewN k := by
 subst hn
 subst hb
 exact qless g cap xs i j hi hj w h
def MixQ (w : World) (g : Nat) (v : Value) (xs ys : List Int) (w' : World) : Prop := RowQ w' v ys ∧ ys.length = xs.length ∧ ys.Perm xs ∧ w.grownBy w' (some g)
theorem MixQ.swap {w w1 w2 : World} {g n cap : Nat} {xs ys : List Int} {i j : Nat} (h : MixQ w g (.slice (some ⟨g, 0, none⟩) n cap) xs ys w1) (hi : i < ys.length) (hj : j < ys.length) (h2 : RowQ w2 (.slice (some ⟨g, 0, none⟩) n cap) (swapL ys i j)) (hg : w1.grownBy w2 (some g)) :
  MixQ w g (.slice (some ⟨g, 0, none⟩) n cap) xs (swapL ys i j) w2 :=
 ⟨h2, by rw [swapL_len]; exact h.2.1, (swap_perm hi hj).trans h.2.2.1, gr_trans h.2.2.2 hg⟩
theorem MixQ.drewN {w w1 : World} {g : Nat} {v : Value} {xs ys : List Int} (h : MixQ w g v xs ys w1) (k : Nat) : MixQ w g v xs ys (w1.drewN k) := ⟨h.1, h.2.1, h.2.2.1, gr_drewN h.2.2.2 k⟩
theorem up_next {ys : List Int} {j p : Nat} (h : HeapUp ys.length j (gz ys)) (h0 : 0 < j) (hj : j < ys.length) (hp : (j - 1) / 2 = p) (hlt : gz ys j < gz ys p) : HeapUp (swapL ys p j).length p (gz (swapL ys p j)) := by
 subst hp
 rw [swapL_len]
 exact up_step h h0 hj hlt fun k => gz_swap (by omega) hj k
set_option maxRecDepth 100000 in
theorem hup (a : Addr) (g cap n : Nat) (xs : List Int) (hn : xs.length = n) (hl : n ≤ 1000) (j : Nat) (hj : j < n) (w : World) (hc : w.cell? a = some (.slice (some ⟨g, 0, none⟩) n cap)) (hag : a.block ≠ g) (h : RowQ w (.slice (some ⟨g, 0, none⟩) n cap) xs) (hu : HeapUp n j (gz xs)) :
  Calls Tryz.prog 195 #[.iface 287 (.pointer (some a)), .int .i64 j] w fun e w' => e = .returned (.tuple #[]) ∧ ∃ ys, MixQ w g (.slice (some ⟨g, 0, none⟩) n cap) xs ys w' ∧ IsHeap n (gz ys) := by
 have HA := Lib.hid hag
 have HC := Lib.hid hc
 have hM : MixQ w g (.slice (some ⟨g, 0, none⟩) n cap) xs xs w := ⟨h, rfl, List.Perm.refl _, gr_refl _ _⟩
 have HM := Lib.hid hM
 have HU := Lib.hid hu
 clear hag hc h hu hM
 go_enter Tryz.func195, Tryz.ntmps195
 go_wp2_with fail
 go_loopw [1, 4] (fun jv _ W => ∃ (k : Nat) (ys : List Int), jv = .int .i64 k ∧ k < n ∧ MixQ w g (.slice (some ⟨g, 0, none⟩) n cap) xs ys W ∧ HeapUp n k (gz ys)) (fun jv _ _ => (intOf jv).toNat)
 case atStart => exact ⟨j, xs, rfl, hj, HM.out, HU.out⟩
 case round =>
  obtain ⟨k, ys, rfl, hk, hm, hu⟩ := hrel
  have HM1 := Lib.hid hm
  have HU1 := Lib.hid hu
  clear hm hu
  by_cases k0 : k = 0
  ·subst k0
   go_wp2_with fail
   go_end0
   exact ⟨rfl, ys, HM1.out, up_done HU1.out (.inl rfl)⟩
  ·obtain ⟨p, hp⟩ : ∃ p, (k - 1) / 2 = p := ⟨_, rfl⟩
   have hpk : p < k := by omega
   have hpn : p < n := by omega
   have hq : ((k : Int) - 1).tdiv 2 = (p : Int) := by
    rw [show (k : Int) - 1 = ((k - 1 : Nat) : Int) by omega]
    rw [← hp]
    rfl
   have HP := Lib.hid hp
   have hy : ys.length = n := HM1.out.2.1.trans hn
   have cW : wr.cell? a = some (.slice (some ⟨g, 0, none⟩) n cap) := HM1.out.2.2.2.cell HC.out (fun e => HA.out (by injection e))
   have mL := Tryz.methodLess a _ wr cW
   by_cases hlt : gz ys k < gz ys p
   ·have hd : decide (gz ys k < gz ys p) = true := by simp [hlt]
    have HD := Lib.hid hd
    have HLT := Lib.hid hlt
    clear hd hlt hp
    go_wp2_with fail
    refine (qless_is g cap n ys hy k p hk hpn wr HM1.out.1 true HD.out).mono ?_
    rintro e w1 ⟨rfl, kk, rfl⟩
    have cW1 : (wr.drewN kk).cell? a = some (.slice (some ⟨g, 0, none⟩) n cap) := cW
    have mS := Tryz.methodSwap a _ (wr.drewN kk) cW1
    clear cW mL
    go_wp2_with fail
    refine (qswap g cap n ys hy p k hpn hk (wr.drewN kk) HM1.out.1).mono ?_
    rintro e w2 ⟨rfl, hr2, hg2⟩
    have HM2 := Lib.hid ((HM1.out.drewN kk).swap (by omega) (by omega) hr2 hg2)
    have HU2 := Lib.hid (up_next (hy.symm ▸ HU1.out) (by omega) (by omega) HP.out HLT.out)
    clear hr2 hg2 mS cW1
    go_wp2_with fail
    go_roundw
    case rel => exact ⟨p, swapL ys p k, by go_num, hpn, HM2.out, by have h := HU2.out; rw [swapL_len, hy] at h; exact h⟩
    case measure => simp [intOf]; omega
   ·have hd : decide (gz ys k < gz ys p) = false := by simp; omega
    have HD := Lib.hid hd
    have HLT : Hid (gz ys ((k - 1) / 2) ≤ gz ys k) := by rw [hp]; show gz ys p ≤ gz ys k; omega
    clear hd hlt hp
    go_wp2_with fail
    refine (qless_is g cap n ys hy k p hk hpn wr HM1.out.1 false HD.out).mono ?_
    rintro e w1 ⟨rfl, kk, rfl⟩
    clear cW mL
    go_wp2_with fail
    go_end0
    exact ⟨rfl, ys, HM1.out.drewN kk, up_done HU1.out (.inr HLT.out)⟩
end Go.Proofs.YtdfhfmdelinemaaGreatDoor
namespace Go.Proofs.YtdfhfmdelinemaaGreatDoor
open Go.RowKit Go.Extern.Stop Go.Stop Go.Extern
theorem down_next {ys : List Int} {n k j : Nat} (h : HeapDown n k (gz ys)) (h0 : 0 < j) (hn : n < ys.length) (hj : j < n) (hp : (j - 1) / 2 = k) (hm : ∀ i, 0 < i → i < n → (i - 1) / 2 = k → gz ys j ≤ gz ys i) (hlt : gz ys j < gz ys k) : HeapDown n j (gz (swapL ys k j)) ∧ gz (swapL ys k j) n = gz ys n := by
 refine ⟨down_step h h0 hj hp hm hlt fun i => gz_swap (by omega) (by omega) i, ?_⟩
 rw [gz_swap (by omega) (by omega), if_neg (by omega), if_neg (by omega)]
theorem down_leaf {z : Nat → Int} {n k q : Nat} (h : HeapDown n k z) (hq : 2 * k + 1 = q) (hn : n ≤ q) : IsHeap n z := down_done h fun i i0 hi hk => by omega
theorem down_stop {z : Nat → Int} {n k j : Nat} (h : HeapDown n k z) (hm : ∀ i, 0 < i → i < n → (i - 1) / 2 = k → z j ≤ z i) (hge : z k ≤ z j) : IsHeap n z :=
 down_done h fun i i0 hi hk => Int.le_trans hge (hm i i0 hi hk)
theorem two_kids {k q r i : Nat} (hq : 2 * k + 1 = q) (hr : q + 1 = r) (i0 : 0 < i) (hi : (i - 1) / 2 = k) : i = q ∨ i = r := by omega
theorem kid_a {z : Nat → Int} {n k q r : Nat} (hq : 2 * k + 1 = q) (hr : q + 1 = r) (hlt : z r < z q) : ∀ i, 0 < i → i < n → (i - 1) / 2 = k → z r ≤ z i := fun i i0 _ hi => by
 rcases two_kids hq hr i0 hi with rfl | rfl <;> omega
theorem kid_b {z : Nat → Int} {n k q r : Nat} (hq : 2 * k + 1 = q) (hr : q + 1 = r) (hle : z q ≤ z r) : ∀ i, 0 < i → i < n → (i - 1) / 2 = k → z q ≤ z i := fun i i0 _ hi => by
 rcases two_kids hq hr i0 hi with rfl | rfl <;> omega
theorem kid_c {z : Nat → Int} {n k q r : Nat} (hq : 2 * k + 1 = q) (hr : q + 1 = r) (hle : n ≤ r) : ∀ i, 0 < i → i < n → (i - 1) / 2 = k → z q ≤ z i := fun i i0 hn hi => by
 rcases two_kids hq hr i0 hi with rfl | rfl <;> omega
set_option maxRecDepth 100000 in
set_option maxHeartbeats 2000000 in
theorem hdown (a : Addr) (g cap n : Nat) (xs : List Int) (hn : xs.length = n + 1) (hl : n ≤ 1000) (w : World) (hc : w.cell? a = some (.slice (some ⟨g, 0, none⟩) (n + 1) cap)) (hag : a.block ≠ g) (h : RowQ w (.slice (some ⟨g, 0, none⟩) (n + 1) cap) xs) (hu : HeapDown n 0 (gz xs)) :
  Calls Tryz.prog 188 #[.iface 287 (.pointer (some a)), .int .i64 0, .int .i64 n] w fun e w' => (∃ b, e = .returned (.bool b)) ∧ ∃ ys, MixQ w g (.slice (some ⟨g, 0, none⟩) (n + 1) cap) xs ys w' ∧ IsHeap n (gz ys) ∧ gz ys n = gz xs n := by
 have HA := Lib.hid hag
 have HC := Lib.hid hc
 have hM : MixQ w g (.slice (some ⟨g, 0, none⟩) (n + 1) cap) xs xs w := ⟨h, rfl, List.Perm.refl _, gr_refl _ _⟩
 have HM := Lib.hid hM
 have HU := Lib.hid hu
 clear hag hc h hu hM
 go_enter Tryz.func188, Tryz.ntmps188
 go_wp2_with fail
 go_loopw [7, 8, 9, 10] (fun iv _ _ _ W => ∃ (k : Nat) (ys : List Int), iv = .int .i64 k ∧ k ≤ n ∧ MixQ w g (.slice (some ⟨g, 0, none⟩) (n + 1) cap) xs ys W ∧ HeapDown n k (gz ys) ∧ gz ys n = gz xs n) (fun iv _ _ _ _ => (n - intOf iv).toNat)
 case atStart => exact ⟨0, xs, rfl, by omega, HM.out, HU.out, rfl⟩
 case round =>
  obtain ⟨k, ys, rfl, hk, hm, hu, hz⟩ := hrel
  have HM1 := Lib.hid hm
  have HU1 := Lib.hid hu
  have HZ := Lib.hid hz
  clear hm hu hz
  obtain ⟨q, hq⟩ : ∃ q, 2 * k + 1 = q := ⟨_, rfl⟩
  obtain ⟨r, hr⟩ : ∃ r, q + 1 = r := ⟨_, rfl⟩
  have hq1 : 2 * (k : Int) + 1 = (q : Int) := by omega
  have hr1 : (q : Int) + 1 = (r : Int) := by omega
  have HQ := Lib.hid hq
  have HR := Lib.hid hr
  have hk1 : (k : Int) ≤ 1000 := by omega
  have hk0 : (0 : Int) ≤ (k : Int) := by omega
  have hq2 : (q : Int) ≤ 2001 := by omega
  have hq0 : (0 : Int) ≤ (q : Int) := by omega
  by_cases hqn : n ≤ q
  ·have hqn1 : (n : Int) ≤ (q : Int) := by omega
   clear hq hr
   go_wp2_with fail
   go_ret
   exact ⟨⟨_, rfl⟩, ys, HM1.out, down_leaf HU1.out HQ.out hqn, HZ.out⟩
  ·have hqn1 : ¬ (n : Int) ≤ (q : Int) := by omega
   have hq3 : q < n := by omega
   have hkn : k < n := by omega
   have hy : ys.length = n + 1 := HM1.out.2.1.trans hn
   have cW : wr.cell? a = some (.slice (some ⟨g, 0, none⟩) (n + 1) cap) := HM1.out.2.2.2.cell HC.out (fun e => HA.out (by injection e))
   have CW := Lib.hid cW
   have mL := Tryz.methodLess a _ wr cW
   clear cW
   by_cases hrn : r < n
   ·have hrn1 : (r : Int) < (n : Int) := by omega
    by_cases hlt : gz ys r < gz ys q
    ·have hd : decide (gz ys r < gz ys q) = true := by simp [hlt]
     have HD := Lib.hid hd
     have HK : Hid (∀ i, 0 < i → i < n → (i - 1) / 2 = k → gz ys r ≤ gz ys i) := kid_a hq hr hlt
     have hjp : Hid ((r - 1) / 2 = k) := by show (r - 1) / 2 = k; omega
     have hj0 : 0 < r := by omega
     clear hd hlt hq hr
     go_wp2_with fail
     refine (qless_is g cap (n + 1) ys hy r q (by omega) (by omega) wr HM1.out.1 true HD.out).mono ?_
     rintro e w1 ⟨rfl, kk, rfl⟩
     have mL1 := Tryz.methodLess a _ (wr.drewN kk) CW.out
     clear mL
     obtain ⟨W1, hW1⟩ : ∃ W1, W1 = wr.drewN kk := ⟨_, rfl⟩
     rw [← hW1] at mL1 ⊢
     have HM3 : Hid (MixQ w g (.slice (some ⟨g, 0, none⟩) (n + 1) cap) xs ys W1) := by rw [hW1]; exact HM1.out.drewN kk
     have CW1 : Hid (W1.cell? a = some (.slice (some ⟨g, 0, none⟩) (n + 1) cap)) := by rw [hW1]; exact CW.out
     clear hW1 HM1 CW
     by_cases hlt : gz ys r < gz ys k
     ·have hd : decide (gz ys r < gz ys k) = true := by simp [hlt]
      have HD := Lib.hid hd
      have HLT := Lib.hid hlt
      clear hd hlt
      go_wp2_with fail
      refine (qless_is g cap (n + 1) ys hy r k (by omega) (by omega) W1 HM3.out.1 true HD.out).mono ?_
      rintro e w1 ⟨rfl, k2, rfl⟩
      have mS := Tryz.methodSwap a _ (W1.drewN k2) CW1.out
      clear mL1
      go_wp2_with fail
      refine (qswap g cap (n + 1) ys hy k r (by omega) (by omega) (W1.drewN k2) HM3.out.1).mono ?_
      rintro e w2 ⟨rfl, hr2, hg2⟩
      have HM4 := Lib.hid ((HM3.out.drewN k2).swap (by omega) (by omega) hr2 hg2)
      have HU2 := Lib.hid (down_next HU1.out hj0 (by omega) (by omega) hjp.out HK.out HLT.out)
      clear hr2 hg2 mS
      go_wp2_with fail
      go_roundw
      case rel => exact ⟨r, swapL ys k r, by go_num, by omega, HM4.out, HU2.out.1, HU2.out.2.trans HZ.out⟩
      case measure => simp [intOf]; omega
     ·have hd : decide (gz ys r < gz ys k) = false := by simp; omega
      have HD := Lib.hid hd
      have HLT : Hid (gz ys k ≤ gz ys r) := by show gz ys k ≤ gz ys r; omega
      clear hd hlt
      go_wp2_with fail
      refine (qless_is g cap (n + 1) ys hy r k (by omega) (by omega) W1 HM3.out.1 false HD.out).mono ?_
      rintro e w1 ⟨rfl, k2, rfl⟩
      clear mL1
      go_wp2_with fail
      go_ret
      exact ⟨⟨_, rfl⟩, ys, HM3.out.drewN k2, down_stop HU1.out HK.out HLT.out, HZ.out⟩
    ·have hd : decide (gz ys r < gz ys q) = false := by simp; omega
     have HD := Lib.hid hd
     have HK : Hid (∀ i, 0 < i → i < n → (i - 1) / 2 = k → gz ys q ≤ gz ys i) := kid_b hq hr (by omega)
     have hjp : Hid ((q - 1) / 2 = k) := by show (q - 1) / 2 = k; omega
     have hj0 : 0 < q := by omega
     clear hd hlt hq hr
     go_wp2_with fail
     refine (qless_is g cap (n + 1) ys hy r q (by omega) (by omega) wr HM1.out.1 false HD.out).mono ?_
     rintro e w1 ⟨rfl, kk, rfl⟩
     have mL1 := Tryz.methodLess a _ (wr.drewN kk) CW.out
     clear mL
     obtain ⟨W1, hW1⟩ : ∃ W1, W1 = wr.drewN kk := ⟨_, rfl⟩
     rw [← hW1] at mL1 ⊢
     have HM3 : Hid (MixQ w g (.slice (some ⟨g, 0, none⟩) (n + 1) cap) xs ys W1) := by rw [hW1]; exact HM1.out.drewN kk
     have CW1 : Hid (W1.cell? a = some (.slice (some ⟨g, 0, none⟩) (n + 1) cap)) := by rw [hW1]; exact CW.out
     clear hW1 HM1 CW
     by_cases hlt : gz ys q < gz ys k
     ·have hd : decide (gz ys q < gz ys k) = true := by simp [hlt]
      have HD := Lib.hid hd
      have HLT := Lib.hid hlt
      clear hd hlt
      go_wp2_with fail
      refine (qless_is g cap (n + 1) ys hy q k (by omega) (by omega) W1 HM3.out.1 true HD.out).mono ?_
      rintro e w1 ⟨rfl, k2, rfl⟩
      have mS := Tryz.methodSwap a _ (W1.drewN k2) CW1.out
      clear mL1
      go_wp2_with fail
      refine (qswap g cap (n + 1) ys hy k q (by omega) (by omega) (W1.drewN k2) HM3.out.1).mono ?_
      rintro e w2 ⟨rfl, hr2, hg2⟩
      have HM4 := Lib.hid ((HM3.out.drewN k2).swap (by omega) (by omega) hr2 hg2)
      have HU2 := Lib.hid (down_next HU1.out hj0 (by omega) (by omega) hjp.out HK.out HLT.out)
      clear hr2 hg2 mS
      go_wp2_with fail
      go_roundw
      case rel => exact ⟨q, swapL ys k q, by go_num, by omega, HM4.out, HU2.out.1, HU2.out.2.trans HZ.out⟩
      case measure => simp [intOf]; omega
     ·have hd : decide (gz ys q < gz ys k) = false := by simp; omega
      have HD := Lib.hid hd
      have HLT : Hid (gz ys k ≤ gz ys q) := by show gz ys k ≤ gz ys q; omega
      clear hd hlt
      go_wp2_with fail
      refine (qless_is g cap (n + 1) ys hy q k (by omega) (by omega) W1 HM3.out.1 false HD.out).mono ?_
      rintro e w1 ⟨rfl, k2, rfl⟩
      clear mL1
      go_wp2_with fail
      go_ret
      exact ⟨⟨_, rfl⟩, ys, HM3.out.drewN k2, down_stop HU1.out HK.out HLT.out, HZ.out⟩
   ·have hrn1 : ¬ (r : Int) < (n : Int) := by omega
    have HK : Hid (∀ i, 0 < i → i < n → (i - 1) / 2 = k → gz ys q ≤ gz ys i) := kid_c hq hr (by omega)
    have hjp : Hid ((q - 1) / 2 = k) := by show (q - 1) / 2 = k; omega
    have hj0 : 0 < q := by omega
    clear hq hr
    obtain ⟨W1, hW1⟩ : ∃ W1, W1 = wr := ⟨_, rfl⟩
    rw [← hW1] at mL ⊢
    have mL1 := mL
    clear mL
    have HM3 : Hid (MixQ w g (.slice (some ⟨g, 0, none⟩) (n + 1) cap) xs ys W1) := by rw [hW1]; exact HM1.out
    have CW1 : Hid (W1.cell? a = some (.slice (some ⟨g, 0, none⟩) (n + 1) cap)) := by rw [hW1]; exact CW.out
    clear hW1 HM1 CW
    by_cases hlt : gz ys q < gz ys k
    ·have hd : decide (gz ys q < gz ys k) = true := by simp [hlt]
     have HD := Lib.hid hd
     have HLT := Lib.hid hlt
     clear hd hlt
     go_wp2_with fail
     refine (qless_is g cap (n + 1) ys hy q k (by omega) (by omega) W1 HM3.out.1 true HD.out).mono ?_
     rintro e w1 ⟨rfl, k2, rfl⟩
     have mS := Tryz.methodSwap a _ (W1.drewN k2) CW1.out
     clear mL1
     go_wp2_with fail
     refine (qswap g cap (n + 1) ys hy k q (by omega) (by omega) (W1.drewN k2) HM3.out.1).mono ?_
     rintro e w2 ⟨rfl, hr2, hg2⟩
     have HM4 := Lib.hid ((HM3.out.drewN k2).swap (by omega) (by omega) hr2 hg2)
     have HU2 := Lib.hid (down_next HU1.out hj0 (by omega) (by omega) hjp.out HK.out HLT.out)
     clear hr2 hg2 mS
     go_wp2_with fail
     go_roundw
     case rel => exact ⟨q, swapL ys k q, by go_num, by omega, HM4.out, HU2.out.1, HU2.out.2.trans HZ.out⟩
     case measure => simp [intOf]; omega
    ·have hd : decide (gz ys q < gz ys k) = false := by simp; omega
     have HD := Lib.hid hd
     have HLT : Hid (gz ys k ≤ gz ys q) := by show gz ys k ≤ gz ys q; omega
     clear hd hlt
     go_wp2_with fail
     refine (qless_is g cap (n + 1) ys hy q k (by omega) (by omega) W1 HM3.out.1 false HD.out).mono ?_
     rintro e w1 ⟨rfl, k2, rfl⟩
     clear mL1
     go_wp2_with fail
     go_ret
     exact ⟨⟨_, rfl⟩, ys, HM3.out.drewN k2, down_stop HU1.out HK.out HLT.out, HZ.out⟩
end Go.Proofs.YtdfhfmdelinemaaGreatDoor
namespace Go.Proofs.YtdfhfmdelinemaaGreatDoor
open Go.RowKit Go.Extern.Stop Go.Stop Go.Extern
theorem step_append_where {P : Program} (w : World) {ops : Array Oper} {o : Oper} {a : Act} {K : Act → World → Prop} {Q : Exit → Act → World → Prop} {E : Prop} (hgd : o.guard = none) (s x : Operand) (t : TypeId)
  (ho : o.op = .call { callee := .builtin .append, args := #[s, x], argTypes := #[t, t] })
  (base : Nat) (e : TypeId) (i : TypeInfo) (z : Value) (size bytes : Nat) (ht : P.underlying t = some (.slice e)) (hi : P.info? e = some i) (hz : i.zero = some z)
  (hsize : i.size = size) (hby : i.bytes = bytes) (hzs : z.cells.size = size) (hsz : 0 < size)
  (v : Value) (n : Nat) (xs : List Value) (hs : a.eval s = v) (hown : w.ownsRow base e size v n xs)
  (ad : Addr) (m c : Nat) (news : List Value) (hx : a.eval x = .slice (some ad) m c) (hl : news.length = m * size) (hnews : ∀ j u, news[j]? = some u → w.cell? (ad.add j) = some u) (h1 : ∀ u ∈ news, u.oneCell' = true)
  (h63 : n + m ≤ maxLen) (hbytes : (n + m) * bytes ≤ 140737488355328) (hbase : base ≤ w.heap.size)
  (h : ∀ v' w', w'.ownsRow base e size v' (n + m) (xs ++ news) → w.grownBy w' v.ownBlock → (v'.ownBlock = v.ownBlock ∨ v'.ownBlock = some w.heap.size) → K (a.put o.dst v') w') :
  if Region.wanted o (yielded ops a.tmps) = true then Oper.wp P o a w K Q else E := by
 have hw : Region.wanted o (yielded ops a.tmps) = true := by simp [Region.wanted, hgd]
 rw [if_pos hw]
 obtain ⟨v', w', hrun, r1, r2, _, r3⟩ := run_append_own_at (P := P) w base t o.type e i z size bytes ht hi hz hsize hby hzs hsz v n xs hown ad m c news hl hnews h1 h63 hbytes hbase
 unfold Oper.wp
 simp [execOp, ho, resolve, invoke, builtin, hs, hx, hrun, Result.andThen]
 exact h v' w' r1 r2 r3
structure Near (a : Addr) (S : Nat → Prop) (w w' : World) : Prop where
 os : w'.os = w.os
 tape : w'.tape = w.tape
 output : w'.output = w.output
 size : w.heap.size ≤ w'.heap.size
 block : ∀ k, k < w.heap.size → k ≠ a.block → ¬ S k → w'.heap[k]? = w.heap[k]?
 cell : ∀ p : Addr, p.block = a.block → p ≠ a → w'.cell? p = w.cell? p
 frozen : ∀ p : Addr, p.block = a.block → w'.frozen? p = w.frozen? p
theorem Near.refl (a : Addr) (S : Nat → Prop) (w : World) : Near a S w w := ⟨rfl, rfl, rfl, Nat.le_refl _, fun _ _ _ _ => rfl, fun _ _ _ => rfl, fun _ _ => rfl⟩
theorem Near.trans {a : Addr} {S T : Nat → Prop} {w u w' : World} (h : Near a S w u) (h2 : Near a T u w') (hS : ∀ k, k < w.heap.size → T k → S k) : Near a S w w' :=
 ⟨h2.os.trans h.os, h2.tape.trans h.tape, h2.output.trans h.output, Nat.le_trans h.size h2.size,
  fun k hk ha hn => (h2.block k (Nat.lt_of_lt_of_le hk h.size) ha (fun ht => hn (hS k hk ht))).trans (h.block k hk ha hn),
  fun p hp hne => (h2.cell p hp hne).trans (h.cell p hp hne), fun p hp => (h2.frozen p hp).trans (h.frozen p hp)⟩
theorem Near.of {a : Addr} {S : Nat → Prop} {r : Option Nat} {w w' : World} (h : w.grownBy w' r) (ha : a.block < w.heap.size) (hr : r ≠ some a.block) (hS : ∀ k, r = some k → S k) : Near a S w w' :=
 ⟨h.os, h.tape, h.output, h.size, fun k hk _ hn => h.block k hk (fun e => hn (hS k e.symm)),
  fun p hp _ => World.cell?_of_block (by rw [hp]; exact h.block a.block ha (fun e => hr e.symm)), fun p hp => World.frozen?_of_block (by rw [hp]; exact h.block a.block ha (fun e => hr e.symm))⟩
theorem Near.set {a : Addr} {S : Nat → Prop} {w w' : World} (h : Near a S w w') (v : Value) : Near a S w (w'.setCell a v) :=
 ⟨h.os, h.tape, h.output, by simpa [World.setCell] using h.size, fun k hk ha hn => (Below.heap_setCell w' a v k (by exact ha)).trans (h.block k hk ha hn),
  fun p hp hne => (World.cell?_setCell_other _ _ _ _ (fun e => hne e.symm)).trans (h.cell p hp hne), fun p hp => by rw [World.frozen?_setCell]; exact h.frozen p hp⟩
theorem Near.drewN {a : Addr} {S : Nat → Prop} {w w' : World} (h : Near a S w w') (n : Nat) : Near a S w (w'.drewN n) :=
 ⟨h.os, h.tape, h.output, h.size, h.block, h.cell, h.frozen⟩
theorem RowQ.far {w : World} {v : Value} {xs : List Int} (h : RowQ w v xs) (a : Addr) (ha : v.ownBlock ≠ some a.block) (u : Value) : RowQ (w.setCell a u) v xs := by
 obtain ⟨h1, h2 | ⟨g, cap, cur, rfl, a1, a2, a3⟩⟩ := h
 ·exact ⟨h1, .inl h2⟩
 ·refine ⟨h1, .inr ⟨g, cap, cur, rfl, a1, ?_, a3⟩⟩
  rw [Below.heap_setCell w a u g (by rintro rfl; exact ha rfl)]
  exact a2
def RowAt (w : World) (v v' : Value) : Prop := v'.ownBlock = v.ownBlock ∨ ∃ g, v'.ownBlock = some g ∧ w.heap.size ≤ g
def PushQ (a : Addr) (v : Value) (xs : List Int) (e : Int) (w w' : World) : Prop :=
 ∃ v', w'.cell? a = some v' ∧ w'.frozen? a = false ∧ RowQ w' v' (xs ++ [e]) ∧ RowAt w v v' ∧ v'.ownBlock ≠ some a.block ∧ Near a (fun k => v.ownBlock = some k) w w'
theorem cell_alloc {w : World} {a : Addr} {v : Value} (h : w.cell? a = some v) (o : Obj) : (w.alloc o).cell? a = some v :=
 (World.cell?_of_block (heap_alloc_old w o (World.block_lt_of_cell? _ _ h))).trans h
theorem PushQ.of {a : Addr} {v v1 : Value} {xs : List Int} {e : Int} {w u u1 : World} (hc : w.cell? a = some v) (hf : w.frozen? a = false) (hav : v.ownBlock ≠ some a.block)
  (hown : u1.ownsRow 0 34 1 v1 (xs.length + 1) (wordsV xs ++ [.int .u64 e])) (hg : u.grownBy u1 v.ownBlock) (hw : v1.ownBlock = v.ownBlock ∨ v1.ownBlock = some u.heap.size) (o : Obj) (hu : u.heap = (w.alloc o).heap ∧ u.os = w.os ∧ u.tape = w.tape ∧ u.output = w.output) :
  PushQ a v xs e w (u1.setCell a v1) ∧ u1.cell? a = some v ∧ u1.frozen? a = false := by
 obtain ⟨u2, u3, u4, u5⟩ := hu
 have hal := World.block_lt_of_cell? _ _ hc
 have hs : u.heap.size = w.heap.size + 1 := by simp [u2]
 have hgw : w.grownBy u1 v.ownBlock := ⟨hg.os.trans u3, hg.tape.trans u4, hg.output.trans u5, by have := hg.size; omega,
  fun k hk hne => (hg.block k (by omega) hne).trans (by rw [u2]; exact heap_alloc_old w o hk)⟩
 have c1 : u1.cell? a = some v := hgw.cell hc (fun e => hav e.symm)
 have f1 : u1.frozen? a = false := (World.frozen?_of_block (hgw.block a.block hal (fun e => hav e.symm))).trans hf
 have hne : v1.ownBlock ≠ some a.block := by
  rcases hw with h | h
  ·rw [h]; exact hav
  ·rw [h, hs]; intro e; injection e with e; omega
 have hr : RowQ u1 v1 (xs ++ [e]) := by
  unfold RowQ
  have e1 : wordsV (xs ++ [e]) = wordsV xs ++ [.int .u64 e] := by simp [wordsV]
  rw [e1, List.length_append]
  exact hown
 refine ⟨⟨v1, World.cell?_setCell_same _ _ _ c1, by rw [World.frozen?_setCell]; exact f1, hr.far a hne v1, ?_, hne, (Near.of hgw hal hav fun _ h => h).set v1⟩, c1, f1⟩
 rcases hw with h | h
 ·exact .inl h
 ·exact .inr ⟨_, h, by omega⟩
theorem own_open {w : World} {b n : Nat} {e : TypeId} {v : Value} {xs : List Value} (h : w.ownsRow b e 1 v n xs) (hn : 0 < n) : ∃ g cap, v = .slice (some ⟨g, 0, none⟩) n cap := by
 rcases h.2 with ⟨_, h0⟩ | ⟨g, cap, cur, rfl, _⟩
 ·omega
 ·exact ⟨g, cap, rfl⟩
theorem qassert (e : Int) (t : TypeId) (w : World) : (Instr.typeAssert (.iface 34 (.int .u64 e)) t 34 false).run Tryz.prog w = .ok (.int .u64 e) w := by kernel_rfl
set_option maxRecDepth 100000 in
theorem qpush (B o : Nat) (v : Value) (xs : List Int) (e : Int) (hl : xs.length ≤ 1000) (w : World) (hc : w.cell? ⟨B, o, none⟩ = some v) (hf : w.frozen? ⟨B, o, none⟩ = false) (hav : v.ownBlock ≠ some B) (h : RowQ w v xs) :
  Calls Tryz.prog 272 #[.pointer (some ⟨B, o, none⟩), .iface 34 (.int .u64 e)] w fun r w' => r = .returned (.tuple #[]) ∧ PushQ ⟨B, o, none⟩ v xs e w w' := by
 obtain ⟨i0, hi0, hz0, hz1, hz2⟩ := info_parts Tryz.wordInfo
 have HC := Lib.hid hc
 have HF := Lib.hid hf
 have HV := Lib.hid hav
 have HR := Lib.hid h
 have hTA := qassert e
 have hcA := cell_alloc hc (.cells #[.int .u64 e] 34)
 clear hf hav h
 go_enter Tryz.func272, Tryz.ntmps272
 go_wp2_with fail
 go_region_law
  (first
   | (refine step_append_where _ (by rfl) (.tmp 7) (.tmp 10) 268 (by rfl) 0 34 i0 (.int .u64 0) 1 8 Tryz.underlying268 hi0 hz0 hz1 hz2 (by rfl) (by decide) v xs.length (wordsV xs) (by rfl) (by exact HR.out.alloc _) _ 1 1 [.int .u64 e] (by rfl) (by rfl) (one_word (heap_alloc_new _ _)) (by simp [Value.oneCell']) (by unfold maxLen; omega) (by omega) (Nat.zero_le _) ?_; intro v1 w1 hown1 hgrow1 hat1; obtain ⟨g1, cap1, rfl⟩ := own_open hown1 (Nat.succ_pos _); obtain ⟨hp1, c1, f1⟩ := PushQ.of (xs := xs) HC.out HF.out HV.out hown1 hgrow1 hat1 _ ⟨rfl, rfl, rfl, rfl⟩; have HP1 := Lib.hid hp1; clear hp1 hown1 hgrow1 hat1))
 all_goals
  go_wp2_with fail
  go_end0
  exact ⟨rfl, HP1.out⟩
end Go.Proofs.YtdfhfmdelinemaaGreatDoor
namespace Go.Proofs.YtdfhfmdelinemaaGreatDoor
open Go.RowKit Go.Extern.Stop Go.Stop Go.Extern
theorem RowQ.take {w : World} {g cap n : Nat} {xs : List Int} (hn : xs.length = n + 1) (h : RowQ w (.slice (some ⟨g, 0, none⟩) (n + 1) cap) xs) : RowQ w (.slice (some ⟨g, 0, none⟩) n cap) (xs.take n) := by
 have hl : (xs.take n).length = n := by rw [List.length_take]; omega
 rcases h.2 with ⟨h', _⟩ | ⟨g', cap', cur, h', hb, hg, hnc, hcm, hcs, htake⟩
 ·simp at h'
 ·simp only [Value.slice.injEq, Option.some.injEq, Addr.mk.injEq, and_true] at h'
  obtain ⟨rfl, _, rfl⟩ := h'
  refine ⟨by simp [wordsV], .inr ⟨g, cap, cur, by rw [hl], hb, hg, by omega, hcm, hcs, ?_⟩⟩
  rw [hl]
  unfold wordsV at *
  rw [List.map_take, ← htake, List.take_take]
  congr 1
  omega
theorem qpop (B o g cap n : Nat) (xs : List Int) (hn : xs.length = n + 1) (hl : n ≤ 1000) (w : World) (hc : w.cell? ⟨B, o, none⟩ = some (.slice (some ⟨g, 0, none⟩) (n + 1) cap)) (hf : w.frozen? ⟨B, o, none⟩ = false) (h : RowQ w (.slice (some ⟨g, 0, none⟩) (n + 1) cap) xs) :
  Calls Tryz.prog 271 #[.pointer (some ⟨B, o, none⟩)] w fun r w' => r = .returned (.iface 34 (.int .u64 (gz xs n))) ∧ w' = w.setCell ⟨B, o, none⟩ (.slice (some ⟨g, 0, none⟩) n cap) := by
 have ci : w.cell? ⟨g, n, none⟩ = some (.int .u64 (gz xs n)) := by
  rw [← hn] at h
  exact h.cell (by omega)
 have hcap : n + 1 ≤ cap ∧ cap ≤ 9223372036854775807 := by
  rw [← hn] at h
  obtain ⟨_, _, h1, h2, h3, _⟩ := h.open (by omega)
  injection h1 with _ _ h1
  subst h1
  omega
 obtain ⟨hcap1, hcap2⟩ := hcap
 clear h
 generalize gz xs n = z at *
 have n0 : (0 : Int) ≤ (n : Int) := by omega
 have n1 : ((n + 1 : Nat) : Int) - 1 = (n : Int) := by omega
 have n2 : (n : Int) < ((n + 1 : Nat) : Int) := by omega
 have n3 : (n : Int) ≤ (cap : Int) := by omega
 go_enter Tryz.func271, Tryz.ntmps271
 go_wp2_with fail
 go_ret
 exact ⟨rfl, rfl⟩
def HeapQ (a : Addr) (v : Value) (w : World) (ys : List Int) (w' : World) : Prop :=
 ∃ v', w'.cell? a = some v' ∧ w'.frozen? a = false ∧ RowQ w' v' ys ∧ IsHeap ys.length (gz ys) ∧ RowAt w v v' ∧ v'.ownBlock ≠ some a.block ∧ Near a (fun k => v.ownBlock = some k) w w'
theorem HeapQ.sift {a : Addr} {v v' : Value} {w w1 w2 : World} {g : Nat} {ys zs : List Int} (hal : a.block < w.heap.size) (hg : v'.ownBlock = some g)
  (c1 : w1.cell? a = some v') (f1 : w1.frozen? a = false) (hat : RowAt w v v') (hne : v'.ownBlock ≠ some a.block) (hn : Near a (fun k => v.ownBlock = some k) w w1) (hm : MixQ w1 g v' ys zs w2) (hh : IsHeap zs.length (gz zs)) : HeapQ a v w zs w2 := by
 obtain ⟨m1, m2, m3, m4⟩ := hm
 have hag : some g ≠ some a.block := fun e => hne (hg.trans e)
 have hal1 : a.block < w1.heap.size := Nat.lt_of_lt_of_le hal hn.size
 refine ⟨v', m4.cell c1 (fun e => hag e.symm), (World.frozen?_of_block (m4.block a.block hal1 (fun e => hag e.symm))).trans f1, m1, hh, hat, hne, hn.trans (Near.of (S := fun k => some g = some k) m4 hal1 hag fun _ h => h) fun k hk he => ?_⟩
 injection he with he
 subst he
 rcases hat with h | ⟨g', h, hge⟩
 ·exact h.symm.trans hg
 ·rw [hg] at h
  injection h with h
  omega
set_option maxRecDepth 100000 in
theorem hpush (B o : Nat) (v : Value) (xs : List Int) (x : Int) (hl : xs.length ≤ 900) (w : World) (hc : w.cell? ⟨B, o, none⟩ = some v) (hf : w.frozen? ⟨B, o, none⟩ = false) (hav : v.ownBlock ≠ some B) (h : RowQ w v xs) (hh : IsHeap xs.length (gz xs)) :
  Calls Tryz.prog 187 #[.iface 287 (.pointer (some ⟨B, o, none⟩)), .iface 34 (.int .u64 x)] w fun r w' => r = .returned (.tuple #[]) ∧ ∃ ys, HeapQ ⟨B, o, none⟩ v w ys w' ∧ ys.Perm (x :: xs) := by
 have hal := Lib.hid (World.block_lt_of_cell? _ _ hc)
 have HH := Lib.hid hh
 have mP := Tryz.methodPush (.pointer (some ⟨B, o, none⟩)) w
 have HP := Lib.hid (qpush B o v xs x (by omega) w hc hf hav h)
 clear hc hf hav h hh
 obtain ⟨n, hn⟩ : ∃ n, xs.length = n := ⟨_, rfl⟩
 have n1 : ((n + 1 : Nat) : Int) - 1 = (n : Int) := by omega
 go_enter Tryz.func187, Tryz.ntmps187
 go_wp2_with fail
 refine HP.out.mono ?_
 rintro r w1 ⟨rfl, v', c1, f1, hr, hat, hne, hnear⟩
 obtain ⟨g, cap, rfl, _⟩ := hr.open (by simp)
 have hlen : (xs ++ [x]).length = n + 1 := by simp [hn]
 rw [hlen] at c1 hr hat hne
 have mL := Tryz.methodLen ⟨B, o, none⟩ _ w1 c1
 have F := Lib.hid (And.intro f1 (And.intro hr (And.intro hat (And.intro hne hnear))))
 have hu : HeapUp (n + 1) n (gz (xs ++ [x])) := by
  rw [← hn]
  exact heap_push HH.out _ fun k hk => gz_append_lt hk
 have C1 := Lib.hid c1
 have HU := Lib.hid hu
 clear f1 hr hat hne hnear c1 hu mP HP
 go_wp2_with (first | (refine (qlen_len (some ⟨g, 0, none⟩) (n + 1) cap w1).mono ?_; rintro r w2 ⟨rfl, rfl⟩) | (refine (hup ⟨B, o, none⟩ g cap (n + 1) (xs ++ [x]) hlen (by omega) n (by omega) w1 C1.out (fun e => F.out.2.2.2.1 (congrArg some e.symm)) F.out.2.1 HU.out).mono ?_; rintro r w2 ⟨rfl, zs, hm, hz⟩))
 go_end0
 have hzl : zs.length = n + 1 := hm.2.1.trans hlen
 exact ⟨rfl, zs, HeapQ.sift hal.out rfl C1.out F.out.1 F.out.2.2.1 F.out.2.2.2.1 F.out.2.2.2.2 hm (by rw [hzl]; exact hz), hm.2.2.1.trans (List.perm_append_singleton x xs)⟩
end Go.Proofs.YtdfhfmdelinemaaGreatDoor
namespace Go.Proofs.YtdfhfmdelinemaaGreatDoor
open Go.RowKit Go.Extern.Stop Go.Stop Go.Extern
theorem HeapQ.popped {B o g cap n : Nat} {w w1 w2 : World} {ys zs : List Int} (hc : w.cell? ⟨B, o, none⟩ = some (.slice (some ⟨g, 0, none⟩) (n + 1) cap)) (hf : w.frozen? ⟨B, o, none⟩ = false) (hB : ¬ g = B)
  (g1 : w.grownBy w1 (some g)) (hy : ys.length = n + 1) (hm : MixQ w1 g (.slice (some ⟨g, 0, none⟩) (n + 1) cap) ys zs w2) (hh : IsHeap n (gz zs)) :
  HeapQ ⟨B, o, none⟩ (.slice (some ⟨g, 0, none⟩) (n + 1) cap) w (zs.take n) (w2.setCell ⟨B, o, none⟩ (.slice (some ⟨g, 0, none⟩) n cap)) ∧ w2.cell? ⟨B, o, none⟩ = some (.slice (some ⟨g, 0, none⟩) (n + 1) cap) ∧ w2.frozen? ⟨B, o, none⟩ = false := by
 obtain ⟨m1, m2, m3, m4⟩ := hm
 have gg := gr_trans g1 m4
 have hal := World.block_lt_of_cell? _ _ hc
 have hne : (some g : Option Nat) ≠ some B := fun e => hB (by injection e)
 have hzl : zs.length = n + 1 := m2.trans hy
 have htl : (zs.take n).length = n := by rw [List.length_take]; omega
 have c2 := gg.cell hc (fun e => hB (by injection e with e; exact e.symm))
 have f2 : w2.frozen? ⟨B, o, none⟩ = false := (World.frozen?_of_block (a := ⟨B, o, none⟩) (gg.block B hal (fun e => hB (by injection e with e; exact e.symm)))).trans hf
 have hn : Near ⟨B, o, none⟩ (fun k => some g = some k) w w2 := Near.of (r := some g) gg hal hne fun _ h => h
 refine ⟨⟨_, World.cell?_setCell_same _ _ _ c2, by rw [World.frozen?_setCell]; exact f2, (RowQ.take hzl m1).far ⟨B, o, none⟩ hne _, ?_, .inl rfl, hne, hn.set _⟩, c2, f2⟩
 rw [htl]
 intro k k0 hk
 rw [gz_take (by omega), gz_take hk]
 exact hh k k0 hk
set_option maxRecDepth 100000 in
theorem hpop (B o g cap n : Nat) (xs : List Int) (hx : xs.length = n + 1) (hl : n ≤ 900) (w : World) (hc : w.cell? ⟨B, o, none⟩ = some (.slice (some ⟨g, 0, none⟩) (n + 1) cap)) (hf : w.frozen? ⟨B, o, none⟩ = false) (hB : ¬ g = B) (h : RowQ w (.slice (some ⟨g, 0, none⟩) (n + 1) cap) xs) (hh : IsHeap (n + 1) (gz xs)) :
  Calls Tryz.prog 184 #[.iface 287 (.pointer (some ⟨B, o, none⟩))] w fun r w' => (∃ x, r = .returned x) ∧ ∃ zs, zs.Perm xs ∧ zs.length = n + 1 ∧ gz zs n = gz xs 0 ∧ HeapQ ⟨B, o, none⟩ (.slice (some ⟨g, 0, none⟩) (n + 1) cap) w (zs.take n) w' := by
 have mL := Tryz.methodLen ⟨B, o, none⟩ _ w hc
 have mS := Tryz.methodSwap ⟨B, o, none⟩ _ w hc
 have hy : (swapL xs 0 n).length = n + 1 := by rw [swapL_len]; exact hx
 have hd : HeapDown n 0 (gz (swapL xs 0 n)) := heap_pop hh fun k k0 hk => by
  rw [gz_swap (by omega) (by omega), if_neg (by omega), if_neg (by omega)]
 have hz : gz (swapL xs 0 n) n = gz xs 0 := by rw [gz_swap (by omega) (by omega), if_pos rfl]
 have hp : (swapL xs 0 n).Perm xs := swap_perm (by omega) (by omega)
 have HS := Lib.hid (qswap g cap (n + 1) xs hx 0 n (by omega) (by omega) w h)
 have HC := Lib.hid hc
 have HF := Lib.hid hf
 have HD := Lib.hid hd
 have HZ := Lib.hid hz
 have HP := Lib.hid hp
 have n1 : ((n + 1 : Nat) : Int) - 1 = (n : Int) := by omega
 clear hc hf h hh hd hz hp hx
 generalize swapL xs 0 n = ys at *
 go_enter Tryz.func184, Tryz.ntmps184
 go_wp2_with (refine (qlen_len (some ⟨g, 0, none⟩) (n + 1) cap w).mono ?_; rintro r w2 ⟨rfl, rfl⟩)
 refine HS.out.mono ?_
 rintro r w1 ⟨rfl, hr1, hg1⟩
 have HG := Lib.hid hg1
 have c1 := hg1.cell HC.out (fun e => hB (by injection e with e; exact e.symm))
 have HW := Lib.hid (hdown ⟨B, o, none⟩ g cap n ys hy (by omega) w1 c1 (fun e => hB e.symm) hr1 HD.out)
 clear hr1 hg1 c1 mL mS
 go_wp2_with fail
 refine HW.out.mono ?_
 rintro r w2 ⟨⟨b, rfl⟩, zs, hm, hhz, hlast⟩
 have hzl : zs.length = n + 1 := hm.2.1.trans hy
 obtain ⟨q1, q2, q3⟩ := HeapQ.popped HC.out HF.out hB HG.out hy hm hhz
 have HQ := Lib.hid q1
 have HM := Lib.hid hm
 have HL := Lib.hid hlast
 have HPop := Lib.hid (qpop B o g cap n zs hzl (by omega) w2 q2 q3 hm.1)
 have mP := Tryz.methodPop (.pointer (some ⟨B, o, none⟩)) w2
 clear q1 q2 q3 hm hhz hlast
 go_wp2_with fail
 refine HPop.out.mono ?_
 rintro r w3 ⟨rfl, rfl⟩
 go_wp2_with fail
 go_ret
 exact ⟨⟨_, rfl⟩, zs, HM.out.2.2.1.trans HP.out, hzl, HL.out.trans HZ.out, HQ.out⟩
end Go.Proofs.YtdfhfmdelinemaaGreatDoor
namespace Go.Proofs.YtdfhfmdelinemaaGreatDoor
open Go.RowKit Go.Extern.Stop Go.Stop Go.Extern Go.Maps
theorem ulaw : Keyed Tryz.prog 34 := int_keyed Tryz.underlying34
theorem ukey {e : Int} (he : (Lit.int .u64 e).wf = true) : keyOf Tryz.prog 34 (.int .u64 e) = some (.int .u64 e) := keyOf_int_mk Tryz.underlying34 he
theorem zero_unit (w : World) : (zeroValue 130).run Tryz.prog w = .ok (.agg #[]) w := by kernel_rfl
theorem map_like {w w' : World} {b n : Nat} {D : DataW Unit} (h : w.ownsMap Tryz.prog 34 unitElem b n D) (hh : w'.heap[b]? = w.heap[b]?) : w'.ownsMap Tryz.prog 34 unitElem b n D := by
 obtain ⟨es, clock, h1, h2⟩ := h
 exact ⟨es, clock, hh.trans h1, h2⟩
theorem row_ne {w : World} {b n : Nat} {D : DataW Unit} {v : Value} {xs : List Int} (h : w.ownsMap Tryz.prog 34 unitElem b n D) (hr : RowQ w v xs) : v.ownBlock ≠ some b := by
 obtain ⟨es, clock, h1, _⟩ := h
 rcases hr.2 with ⟨rfl, _⟩ | ⟨g, cap, cur, rfl, _, hg, _⟩
 ·simp [Value.ownBlock]
 ·intro e
  simp only [Value.ownBlock, Option.some.injEq] at e
  subst e
  rw [h1] at hg
  simp at hg
def HasL (D : DataW Unit) (l : List Int) : Prop := ∀ e : Int, (Lit.int .u64 e).wf = true → has D (.int .u64 e) = decide (e ∈ l)
def BoxIs (w : World) (B o : Nat) (v : Value) (b : Nat) (l : List Int) (k : Nat) : Prop :=
 ∃ xs n D, w.cell? ⟨B, o, none⟩ = some v ∧ w.frozen? ⟨B, o, none⟩ = false ∧ w.cell? ⟨B, o + 1, none⟩ = some (.map (some b)) ∧ RowQ w v xs ∧ w.ownsMap Tryz.prog 34 unitElem b n D ∧ n ≤ k ∧ xs.Perm l ∧ IsHeap xs.length (gz xs) ∧ v.ownBlock ≠ some B ∧ b ≠ B ∧ HasL D l
theorem BoxIs.kept {w w' : World} {B o : Nat} {v : Value} {b : Nat} {l : List Int} {k : Nat} (h : BoxIs w B o v b l k) (hc : w'.cell? ⟨B, o, none⟩ = w.cell? ⟨B, o, none⟩) (hc1 : w'.cell? ⟨B, o + 1, none⟩ = w.cell? ⟨B, o + 1, none⟩) (hf : w'.frozen? ⟨B, o, none⟩ = w.frozen? ⟨B, o, none⟩) (hr : ∀ g, v.ownBlock = some g → g < w.heap.size → w'.heap[g]? = w.heap[g]?) (hb : b < w.heap.size → w'.heap[b]? = w.heap[b]?) : BoxIs w' B o v b l k := by
 obtain ⟨xs, n, D, h1, h2, h3, h4, h5, h6⟩ := h
 refine ⟨xs, n, D, hc.trans h1, hf.trans h2, hc1.trans h3, ?_, map_like h5 (hb h5.lt), h6⟩
 obtain ⟨r1, r2 | ⟨g, cap, cur, rfl, a1, a2, a3⟩⟩ := h4
 ·exact ⟨r1, .inl r2⟩
 ·exact ⟨r1, .inr ⟨g, cap, cur, rfl, a1, (hr g rfl (Array.getElem?_eq_some_iff.1 a2).1).trans a2, a3⟩⟩
theorem BoxIs.lt {w : World} {B o : Nat} {v : Value} {b : Nat} {l : List Int} {k : Nat} (h : BoxIs w B o v b l k) : B < w.heap.size ∧ b < w.heap.size ∧ ∀ g, v.ownBlock = some g → g < w.heap.size := by
 obtain ⟨xs, n, D, h1, h2, h3, h4, h5, h6⟩ := h
 exact ⟨World.block_lt_of_cell? _ _ h1, h5.lt, fun g hg => (h4.lt g hg).2⟩
theorem BoxIs.below {w w' : World} {B o : Nat} {v : Value} {b : Nat} {l : List Int} {k : Nat} (h : BoxIs w B o v b l k) (hb : Below w.heap.size w w') : BoxIs w' B o v b l k :=
 h.kept (hb.cell (p := ⟨B, o, none⟩) h.lt.1) (hb.cell (p := ⟨B, o + 1, none⟩) h.lt.1) (hb.frozen (p := ⟨B, o, none⟩) h.lt.1) (fun g _ hg => hb.block g hg) (fun hl => hb.block b hl)
theorem BoxIs.mono {w : World} {B o : Nat} {v : Value} {b : Nat} {l : List Int} {k k' : Nat} (h : BoxIs w B o v b l k) (hk : k ≤ k') : BoxIs w B o v b l k' := by
 obtain ⟨xs, n, D, h1, h2, h3, h4, h5, h6, h7⟩ := h
 exact ⟨xs, n, D, h1, h2, h3, h4, h5, by omega, h7⟩
theorem bsize (B o : Nat) (v : Value) (b : Nat) (l : List Int) (k : Nat) (w : World) (h : BoxIs w B o v b l k) : Calls Tryz.prog 172 #[.pointer (some ⟨B, o, none⟩)] w fun e w' => e = .returned (.int .i64 (l.length : Nat)) ∧ w = w' := by
 obtain ⟨xs, n, D, h1, _, _, h4, _, _, h7, _⟩ := h
 rw [← h7.length_eq]
 have hv : ∃ ao cap, v = .slice ao xs.length cap := by
  rcases h4.2 with ⟨rfl, h0⟩ | ⟨g, cap, cur, rfl, _⟩
  ·exact ⟨none, 0, by rw [h0]⟩
  ·exact ⟨_, _, rfl⟩
 obtain ⟨ao, cap, rfl⟩ := hv
 clear h4 h7
 go_enter Tryz.func172, Tryz.ntmps172
 go_wp2_with fail
 go_ret
 exact ⟨rfl, rfl⟩
theorem bput_in (B o : Nat) (v : Value) (b : Nat) (l : List Int) (k : Nat) (e : Int) (w : World) (h : BoxIs w B o v b l k) (he : (Lit.int .u64 e).wf = true) (hin : e ∈ l) : Calls Tryz.prog 183 #[.pointer (some ⟨B, o, none⟩), .int .u64 e] w fun r w' => r = .returned (.tuple #[]) ∧ Below w.heap.size w w' := by
 obtain ⟨xs, n, D, _, _, c1, _, hm, _, _, _, _, _, hh⟩ := h
 have hd : has D (.int .u64 e) = true := by rw [hh e he]; simp [hin]
 have HM := Lib.hid hm
 have HE := Lib.hid he
 clear hm he hh hin
 go_enter Tryz.func183, Tryz.ntmps183
 go_wp2_with (at_lookup; refine wpList_lookup_own_unit _ rfl _ _ 269 rfl 34 130 ulaw Tryz.underlying269 (zero_unit _) b n D rfl HM.out _ _ rfl (ukey HE.out) ?_; rw [hd])
 refine bodyPost_ret (results_none rfl _ _ _) rfl ?_
 exact ⟨rfl, (Below.refl _ _).alloc (Nat.le_refl _) _⟩
end Go.Proofs.YtdfhfmdelinemaaGreatDoor
namespace Go.Proofs.YtdfhfmdelinemaaGreatDoor
open Go.RowKit Go.Extern.Stop Go.Stop Go.Extern Go.Maps
def BoxP (B o : Nat) (v : Value) (b : Nat) (l : List Int) (k : Nat) (w w' : World) : Prop :=
 ∃ v', BoxIs w' B o v' b l k ∧ RowAt w v v' ∧ Near ⟨B, o, none⟩ (fun i => i = b ∨ v.ownBlock = some i) w w'
structure Mid (B o : Nat) (v : Value) (b : Nat) (xs : List Int) (n : Nat) (D : DataW Unit) (w w1 : World) : Prop where
 c : w1.cell? ⟨B, o, none⟩ = some v
 f : w1.frozen? ⟨B, o, none⟩ = false
 m : w1.cell? ⟨B, o + 1, none⟩ = some (.map (some b))
 r : RowQ w1 v xs
 h : w1.ownsMap Tryz.prog 34 unitElem b n D
 near : Near ⟨B, o, none⟩ (fun i => i = b ∨ v.ownBlock = some i) w w1
theorem Mid.of {B o : Nat} {v : Value} {b : Nat} {xs : List Int} {n n' : Nat} {D D' : DataW Unit} {w u w1 : World} (c : w.cell? ⟨B, o, none⟩ = some v) (f : w.frozen? ⟨B, o, none⟩ = false) (m : w.cell? ⟨B, o + 1, none⟩ = some (.map (some b))) (r : RowQ w v xs) (h : w.ownsMap Tryz.prog 34 unitElem b n D) (hb : b ≠ B)
  (h1 : w1.ownsMap Tryz.prog 34 unitElem b n' D') (ht : u.mapTurned w1 b) (hu : Below w.heap.size w u) : Mid B o v b xs n' D' w w1 := by
 have hal := World.block_lt_of_cell? _ _ c
 have hg : w.grownBy w1 (some b) := by
  have g1 := ht.grown
  exact ⟨g1.os.trans hu.os, g1.tape.trans hu.tape, g1.output.trans hu.output, Nat.le_trans hu.size g1.size, fun k hk hne => (g1.block k (Nat.lt_of_lt_of_le hk hu.size) hne).trans (hu.block k hk)⟩
 have hne : (some b : Option Nat) ≠ some B := fun e => hb (by injection e)
 have hcell : ∀ i, w1.cell? ⟨B, i, none⟩ = w.cell? ⟨B, i, none⟩ := fun i => World.cell?_of_block (a := ⟨B, i, none⟩) (hg.block B hal (fun e => hne e.symm))
 refine ⟨(hcell _).trans c, (World.frozen?_of_block (a := ⟨B, o, none⟩) (hg.block B hal (fun e => hne e.symm))).trans f, (hcell _).trans m, ?_, h1, Near.of (r := some b) hg hal hne fun i hi => .inl (by injection hi with hi; exact hi.symm)⟩
 exact World.ownsRow.kept r hg (by
  rcases hv : v.ownBlock with _ | g
  ·exact .inl rfl
  ·exact .inr fun e => row_ne h r (hv.trans e))
theorem Mid.done {B o : Nat} {v : Value} {b : Nat} {xs ys l : List Int} {n k : Nat} {D : DataW Unit} {w w1 w2 : World} (hm : Mid B o v b xs n D w w1) (hb : b ≠ B) (hq : HeapQ ⟨B, o, none⟩ v w1 ys w2) (hp : ys.Perm l) (hl : HasL D l) (hn : n ≤ k) : BoxP B o v b l k w w2 := by
 obtain ⟨v', q1, q2, q3, q4, q5, q6, q7⟩ := hq
 have hbl : b < w1.heap.size := hm.h.lt
 have hkb : w2.heap[b]? = w1.heap[b]? := q7.block b hbl hb (row_ne hm.h hm.r)
 refine ⟨v', ⟨ys, n, D, q1, q2, (q7.cell ⟨B, o + 1, none⟩ rfl (fun e => by simp at e)).trans hm.m, q3, map_like hm.h hkb, hn, hp, q4, q6, hb, hl⟩, ?_, hm.near.trans q7 fun i _ hi => .inr hi⟩
 rcases q5 with h | ⟨g, h, hg⟩
 ·exact .inl h
 ·exact .inr ⟨g, h, Nat.le_trans hm.near.size hg⟩
theorem HasL.put {D : DataW Unit} {l : List Int} {e : Int} (h : HasL D l) (hD : IsMap D) (he : (Lit.int .u64 e).wf = true) (d : DataW Unit) : HasL (D.put (.int .u64 e) d) (putL l e) := by
 intro x hx
 by_cases hxe : x = e
 ·subst hxe
  rw [has_put_same hD (ulaw.key (ukey he))]
  simp [putL_mem]
 ·rw [has_put_other (fun e2 => hxe (by injection e2)), h x hx]
  simp [putL_mem, hxe]
set_option maxRecDepth 100000 in
theorem bput_new (B o : Nat) (v : Value) (b : Nat) (l : List Int) (k : Nat) (e : Int) (w : World) (h : BoxIs w B o v b l k) (he : (Lit.int .u64 e).wf = true) (hin : e ∉ l) (hk : k ≤ 800) (hl : l.length ≤ 800) : Calls Tryz.prog 183 #[.pointer (some ⟨B, o, none⟩), .int .u64 e] w fun r w' => r = .returned (.tuple #[]) ∧ BoxP B o v b (putL l e) (k + 1) w w' := by
 obtain ⟨xs, n, D, c0, f0, c1, hr, hm, hn, hp, hi, hv, hb, hh⟩ := h
 have hd : has D (.int .u64 e) = false := by rw [hh e he]; simp [hin]
 have HM := Lib.hid hm
 have HE := Lib.hid he
 have HF := Lib.hid f0
 have HR := Lib.hid hr
 have HI := Lib.hid hi
 have HV := Lib.hid hv
 have HB := Lib.hid hb
 have HH := Lib.hid (hh.put hm.isMap he (.agg []))
 have HC0 := Lib.hid c0
 have HC1 := Lib.hid c1
 have HP : Hid ((e :: xs).Perm (putL l e)) := (hp.cons e).trans (putL_perm e hin).symm
 have hxl : xs.length ≤ 800 := by rw [hp.length_eq]; exact hl
 have c1' := cell_alloc c1 (.cells #[] 130)
 clear hm he hh hin f0 hr hi hv hb c0 hp
 go_enter Tryz.func183, Tryz.ntmps183
 go_wp2_with (first
  | (at_lookup; refine wpList_lookup_own_unit _ rfl _ _ 269 rfl 34 130 ulaw Tryz.underlying269 (zero_unit _) b n D rfl HM.out _ _ rfl (ukey HE.out) ?_; rw [hd])
  | (at_mapUpdate; refine wpList_mapUpdate_in _ rfl _ _ _ 269 rfl 34 130 ulaw Tryz.underlying269 unitElem b n D rfl (HM.out.alloc _) (by unfold maxLen; omega) _ _ _ rfl rfl (ukey HE.out) (.agg []) [] unitElem_mk ?_; intro w1 hown1 hturn1; have HMID := Lib.hid (Mid.of HC0.out HF.out HC1.out HR.out HM.out HB.out hown1 hturn1 ((Below.refl _ _).alloc (Nat.le_refl _) _)); clear hown1 hturn1))
 refine (hpush B o v xs e (by omega) w1 HMID.out.c HMID.out.f HV.out HMID.out.r HI.out).mono ?_
 rintro r w2 ⟨rfl, ys, hq, hyp⟩
 have HZ := Lib.hid (HMID.out.done HB.out hq (hyp.trans HP.out) HH.out (show n + 1 ≤ k + 1 by omega))
 clear hq hyp
 go_wp2_with fail
 go_end0
 exact ⟨rfl, HZ.out⟩
end Go.Proofs.YtdfhfmdelinemaaGreatDoor
namespace Go.Proofs.YtdfhfmdelinemaaGreatDoor
open Go.RowKit Go.Extern.Stop Go.Stop Go.Extern Go.Maps
theorem HasL.del {D : DataW Unit} {l : List Int} {m : Int} (h : HasL D (m :: l)) (hr : Rising (m :: l)) : HasL (D.del (.int .u64 m)) l := by
 intro x hx
 by_cases hxe : x = m
 ·subst hxe
  rw [has_del_same]
  have : x ∉ l := fun hm => by
   have := (List.pairwise_cons.1 hr).1 x hm
   omega
  simp [this]
 ·rw [has_del_other (fun e2 => hxe (by injection e2)), h x hx]
  simp [hxe]
theorem take_mid {B o : Nat} {v : Value} {b : Nat} {xs ys : List Int} {n : Nat} {D : DataW Unit} {w w1 : World} (m : w.cell? ⟨B, o + 1, none⟩ = some (.map (some b))) (r : RowQ w v xs) (h : w.ownsMap Tryz.prog 34 unitElem b n D) (hb : b ≠ B) (hq : HeapQ ⟨B, o, none⟩ v w ys w1) : w1.cell? ⟨B, o + 1, none⟩ = some (.map (some b)) ∧ w1.ownsMap Tryz.prog 34 unitElem b n D := by
 obtain ⟨v', q1, q2, q3, q4, q5, q6, q7⟩ := hq
 exact ⟨(q7.cell ⟨B, o + 1, none⟩ rfl (fun e => by simp at e)).trans m, map_like h (q7.block b h.lt hb (row_ne h r))⟩
theorem take_done {B o : Nat} {v : Value} {b : Nat} {ys l : List Int} {n k : Nat} {D D' : DataW Unit} {w w1 w2 : World} (m1 : w1.cell? ⟨B, o + 1, none⟩ = some (.map (some b))) (hmap : w1.ownsMap Tryz.prog 34 unitElem b n D) (hb : b ≠ B) (hq : HeapQ ⟨B, o, none⟩ v w ys w1) (hown : w2.ownsMap Tryz.prog 34 unitElem b n D') (ht : w1.mapTurned w2 b) (hp : ys.Perm l) (hl : HasL D' l) (hn : n ≤ k) : BoxP B o v b l k w w2 := by
 obtain ⟨v', q1, q2, q3, q4, q5, q6, q7⟩ := hq
 have hg := ht.grown
 have hal1 : B < w1.heap.size := World.block_lt_of_cell? _ _ q1
 have hne : (some b : Option Nat) ≠ some B := fun e => hb (by injection e)
 have hcell : ∀ i, w2.cell? ⟨B, i, none⟩ = w1.cell? ⟨B, i, none⟩ := fun i => World.cell?_of_block (a := ⟨B, i, none⟩) (hg.block B hal1 (fun e => hne e.symm))
 have hrow : RowQ w2 v' ys := World.ownsRow.kept q3 hg (by
  rcases hv : v'.ownBlock with _ | g
  ·exact .inl rfl
  ·exact .inr fun e => row_ne hmap q3 (hv.trans e))
 refine ⟨v', ⟨ys, n, D', (hcell _).trans q1, (World.frozen?_of_block (a := ⟨B, o, none⟩) (hg.block B hal1 (fun e => hne e.symm))).trans q2, (hcell _).trans m1, hrow, hown, hn, hp, q4, q6, hb, hl⟩, q5, ?_⟩
 have n1 : Near ⟨B, o, none⟩ (fun i => i = b ∨ v.ownBlock = some i) w w1 := (Near.refl _ _ w).trans q7 fun i _ hi => .inr hi
 exact n1.trans (Near.of (S := fun i => i = b) hg hal1 hne fun i hi => by injection hi with hi; exact hi.symm) fun i _ hi => .inl hi
set_option maxRecDepth 100000 in
theorem btake (B o : Nat) (v : Value) (b : Nat) (m : Int) (l : List Int) (k : Nat) (w : World) (h : BoxIs w B o v b (m :: l) k) (hm64 : (Lit.int .u64 m).wf = true) (hri : Rising (m :: l)) (hll : l.length ≤ 800) : Calls Tryz.prog 173 #[.pointer (some ⟨B, o, none⟩)] w fun r w' => r = .returned (.int .u64 m) ∧ BoxP B o v b l k w w' := by
 obtain ⟨xs, n, D, c0, f0, c1, hr, hm, hn, hp, hi, hv, hb, hh⟩ := h
 have hxl : xs.length = l.length + 1 := by rw [hp.length_eq]; rfl
 have h0 : gz xs 0 = m := heap_head hp hri hi
 obtain ⟨g, cap, rfl, hcap, hcap2, _⟩ := hr.open (by omega)
 have d0 : w.cell? ⟨g, 0, none⟩ = some (.int .u64 m) := by rw [hr.cell (by omega), h0]
 have HM := Lib.hid hm
 have HE := Lib.hid hm64
 have HR := Lib.hid hr
 have HB := Lib.hid hb
 have HH := Lib.hid (hh.del hri)
 have HC1 := Lib.hid c1
 have HP := Lib.hid hp
 have HX := Lib.hid hxl
 have H0 := Lib.hid h0
 have hgB : ¬ g = B := fun e => hv (congrArg some e)
 rw [hxl] at c0 hr hi
 have HPOP := Lib.hid (hpop B o g cap l.length xs hxl (by omega) w c0 f0 hgB hr hi)
 have q0 : (0 : Int) < ((l.length + 1 : Nat) : Int) := by omega
 clear hm hm64 hri hh hr hi hv hb hp f0 h0 c1 hcap
 go_enter Tryz.func173, Tryz.ntmps173
 go_wp2_with fail
 refine HPOP.out.mono ?_
 rintro r w1 ⟨⟨x, rfl⟩, zs, hz1, hz2, hz3, hq⟩
 rw [← hxl] at hq
 obtain ⟨m1, hmap⟩ := take_mid HC1.out HR.out HM.out HB.out hq
 have HQ := Lib.hid hq
 have HMAP := Lib.hid hmap
 have M1 := Lib.hid m1
 have HPP : Hid ((zs.take l.length).Perm l) := pop_perm hz2 (hz1.trans HP.out) (hz3.trans H0.out)
 clear hq hmap hz1 hz2 hz3
 go_wp2_with (at_delete; refine wpList_delete_own _ rfl _ _ 269 34 rfl 130 ulaw Tryz.underlying269 unitElem b n D rfl HMAP.out _ _ rfl (ukey HE.out) ?_; intro w2 hown2 hturn2; have HZ := Lib.hid (take_done M1.out HMAP.out HB.out HQ.out hown2 hturn2 HPP.out HH.out hn); clear hown2 hturn2)
 go_ret
 exact ⟨rfl, HZ.out⟩
theorem heap_alloc_new' (w : World) (o : Obj) {i : Nat} (h : i = w.heap.size) : (w.alloc o).heap[i]? = some o := by
 subst h
 exact heap_alloc_new w o
theorem qmake (w : World) : (Instr.makeMap 269 none).run Tryz.prog w = .ok (.map (some w.heap.size)) (w.alloc (.map #[] 0)) := by kernel_rfl
theorem bnew (w : World) : Calls Tryz.prog 169 #[] w fun r w' => ∃ b, r = .returned (.agg #[.slice none 0 0, .map (some b)]) ∧ w.heap.size ≤ b ∧ w'.heap[b]? = some (.map #[] 0) ∧ Below w.heap.size w w' := by
 have hMK := qmake
 go_enter Tryz.func169, Tryz.ntmps169
 go_wp2_with fail
 refine bodyPost_ret (v := .agg #[.slice none 0 0, .map (some (w.heap.size + 1))]) (by simp [results, Tryz.results169, go_sem]) rfl ⟨_, rfl, Nat.le_succ _, ?_, ?_⟩
 ·exact heap_alloc_new' _ _ (by simp)
 ·exact ((Below.refl _ _).alloc (Nat.le_refl _) _).alloc (by simp) _
end Go.Proofs.YtdfhfmdelinemaaGreatDoor
namespace Go.Proofs.YtdfhfmdelinemaaGreatDoor
open Go.RowKit Go.Extern.Stop Go.Stop Go.Extern Go.Maps
def Good (l : List Int) (k : Nat) : Prop := Rising l ∧ l.length ≤ k ∧ ∀ x ∈ l, (Lit.int .u64 x).wf = true
theorem Good.put {l : List Int} {k : Nat} (h : Good l k) {e : Int} (he : (Lit.int .u64 e).wf = true) : Good (putL l e) (k + 1) :=
 ⟨putL_rising e h.1, Nat.le_trans (putL_len e l) (Nat.succ_le_succ h.2.1), fun x hx => by
  rcases (putL_mem e x l).1 hx with rfl | hx
  ·exact he
  ·exact h.2.2 x hx⟩
theorem Good.tail {m : Int} {l : List Int} {k : Nat} (h : Good (m :: l) k) : Good l k :=
 ⟨(List.pairwise_cons.1 h.1).2, by have := h.2.1; simp at this; omega, fun x hx => h.2.2 x (List.mem_cons_of_mem _ hx)⟩
theorem Good.mono {l : List Int} {k k' : Nat} (h : Good l k) (hk : k ≤ k') : Good l k' := ⟨h.1, by have := h.2.1; omega, h.2.2⟩
theorem Good.nil (k : Nat) : Good [] k := ⟨List.Pairwise.nil, Nat.zero_le _, fun x hx => by simp at hx⟩
structure MailW (w : World) (S : Nat → Prop) (M B C : Nat) (L : Nat → List Int) (k : Nat) (v : Nat → Value) (b : Nat → Nat) : Prop where
 top : w.cell? ⟨M, 0, none⟩ = some (.slice (some ⟨B, 0, none⟩) C C)
 c1 : 1 ≤ C
 c8 : C ≤ 8
 ne : M ≠ B
 sM : S M
 sB : S B
 sl : ∀ i, S i → i < w.heap.size
 box : ∀ c, c < C → BoxIs w B (c * 2) (v c) (b c) (L c) k
 good : ∀ c, c < C → Good (L c) k
 sb : ∀ c, c < C → S (b c) ∧ b c ≠ M
 sv : ∀ c, c < C → ∀ g, (v c).ownBlock = some g → S g ∧ g ≠ M
 bb : ∀ c d, c < C → d < C → c ≠ d → b c ≠ b d
 vv : ∀ c d, c < C → d < C → c ≠ d → ∀ g, (v c).ownBlock = some g → (v d).ownBlock ≠ some g
def MailAt (w : World) (S : Nat → Prop) (M B C : Nat) (L : Nat → List Int) (k : Nat) : Prop := ∃ v b, MailW w S M B C L k v b
def upL (L : Nat → List Int) (c : Nat) (l : List Int) (d : Nat) : List Int := if d = c then l else L d
theorem BoxIs.parts {w : World} {B o : Nat} {v : Value} {b : Nat} {l : List Int} {k : Nat} (h : BoxIs w B o v b l k) : v.ownBlock ≠ some B ∧ b ≠ B ∧ ∃ xs n D, RowQ w v xs ∧ w.ownsMap (H := Unit) Tryz.prog 34 unitElem b n D := by
 obtain ⟨xs, n, D, h1, h2, h3, h4, h5, h6, h7, h8, h9, h10, h11⟩ := h
 exact ⟨h9, h10, xs, n, D, h4, h5⟩
theorem box_apart {w : World} {B o o' : Nat} {v v' : Value} {b b' : Nat} {l l' : List Int} {k k' : Nat} (h : BoxIs w B o v b l k) (h' : BoxIs w B o' v' b' l' k') : v'.ownBlock ≠ some b := by
 obtain ⟨_, _, _, _, _, _, h3⟩ := h.parts
 obtain ⟨_, _, _, _, _, h4, _⟩ := h'.parts
 exact row_ne h3 h4
theorem mail_step {w w' : World} {S : Nat → Prop} {M B C : Nat} {L : Nat → List Int} {k k' : Nat} {v : Nat → Value} {b : Nat → Nat} (h : MailW w S M B C L k v b) {c : Nat} (hc : c < C) {l : List Int} (hk : k ≤ k') (hl : Good l k') (hp : BoxP B (c * 2) (v c) (b c) l k' w w') : MailAt w' (Plus S w w') M B C (upL L c l) k' ∧ Only S w w' := by
 obtain ⟨v', hbox, hat, hn⟩ := hp
 have hM := h.sl M h.sM
 have hB := h.sl B h.sB
 have hv' := hbox.lt.2.2
 have hnew : ∀ g, v'.ownBlock = some g → (v c).ownBlock = some g ∨ w.heap.size ≤ g := fun g hg => by
  rcases hat with e | ⟨g', e, hge⟩
  ·exact .inl (e ▸ hg)
  ·rw [hg] at e
   injection e with e
   exact .inr (by omega)
 refine ⟨⟨fun d => if d = c then v' else v d, b, ?_, h.c1, h.c8, h.ne, .inl h.sM, .inl h.sB, ?_, ?_, ?_, ?_, ?_, h.bb, ?_⟩, hn.os, hn.tape, hn.output, hn.size, ?_⟩
 ·refine (World.cell?_of_block (a := ⟨M, 0, none⟩) (hn.block M hM h.ne ?_)).trans h.top
  rintro (e | e)
  ·exact (h.sb c hc).2 e.symm
  ·exact (h.sv c hc M e).2 rfl
 ·rintro i (hi | hi)
  ·exact Nat.lt_of_lt_of_le (h.sl i hi) hn.size
  ·exact hi.2
 ·intro d hd
  by_cases hdc : d = c
  ·subst hdc
   simp only [upL, if_pos]
   exact hbox
  ·simp only [upL, if_neg hdc]
   have hx := h.box d hd
   have hy := h.box c hc
   refine (hx.kept (hn.cell _ rfl fun e => ?_) (hn.cell _ rfl fun e => ?_) (hn.frozen _ rfl) (fun g hg hgl => hn.block g hgl (fun e => hx.parts.1 (hg.trans (congrArg some e))) ?_) (fun hbl => hn.block (b d) hbl hx.parts.2.1 ?_)).mono hk
   ·injection e with _ e
    omega
   ·injection e with _ e
    omega
   ·rintro (e | e)
    ·exact box_apart hy hx (e ▸ hg)
    ·exact h.vv d c hd hc hdc g hg e
   ·rintro (e | e)
    ·exact h.bb d c hd hc hdc e
    ·exact box_apart hx hy e
 ·intro d hd
  by_cases hdc : d = c
  ·simp only [upL, if_pos hdc]
   exact hl
  ·simp only [upL, if_neg hdc]
   exact (h.good d hd).mono hk
 ·intro d hd
  exact ⟨.inl (h.sb d hd).1, (h.sb d hd).2⟩
 ·intro d hd g hg
  by_cases hdc : d = c
  ·rw [if_pos hdc] at hg
   rcases hnew g hg with e | e
   ·exact ⟨.inl (h.sv c hc g e).1, (h.sv c hc g e).2⟩
   ·exact ⟨.inr ⟨e, hv' g hg⟩, by omega⟩
  ·rw [if_neg hdc] at hg
   exact ⟨.inl (h.sv d hd g hg).1, (h.sv d hd g hg).2⟩
 ·intro d e hd he hde g hg
  by_cases hdc : d = c
  ·rw [if_pos hdc] at hg
   have hec : ¬ e = c := fun x => hde (hdc.trans x.symm)
   rw [if_neg hec]
   rcases hnew g hg with x | x
   ·exact h.vv c e hc he (fun y => hec y.symm) g x
   ·intro y
    have := h.sl g (h.sv e he g y).1
    omega
  ·rw [if_neg hdc] at hg
   by_cases hec : e = c
   ·rw [if_pos hec]
    intro y
    rcases hnew g y with x | x
    ·exact h.vv d c hd hc hdc g hg x
    ·have := h.sl g (h.sv d hd g hg).1
     omega
   ·rw [if_neg hec]
    exact h.vv d e hd he hde g hg
 ·intro i hi hs
  refine hn.block i hi (fun e => hs (e ▸ h.sB)) ?_
  rintro (e | e)
  ·exact hs (e ▸ (h.sb c hc).1)
  ·exact hs (h.sv c hc i e).1
theorem MailAt.out {w w' : World} {S : Nat → Prop} {M B C : Nat} {L : Nat → List Int} {k : Nat} (h : MailAt w S M B C L k) (hs : w.heap.size ≤ w'.heap.size) (hb : ∀ i, S i → w'.heap[i]? = w.heap[i]?) : MailAt w' S M B C L k := by
 obtain ⟨v, b, h⟩ := h
 refine ⟨v, b, (World.cell?_of_block (a := ⟨M, 0, none⟩) (hb M h.sM)).trans h.top, h.c1, h.c8, h.ne, h.sM, h.sB, fun i hi => Nat.lt_of_lt_of_le (h.sl i hi) hs, fun c hc => ?_, h.good, h.sb, h.sv, h.bb, h.vv⟩
 exact (h.box c hc).kept (World.cell?_of_block (a := ⟨B, c * 2, none⟩) (hb B h.sB)) (World.cell?_of_block (a := ⟨B, c * 2 + 1, none⟩) (hb B h.sB)) (World.frozen?_of_block (a := ⟨B, c * 2, none⟩) (hb B h.sB)) (fun g hg _ => hb g (h.sv c hc g hg).1) (fun _ => hb _ (h.sb c hc).1)
theorem MailAt.below {w w' : World} {S : Nat → Prop} {M B C : Nat} {L : Nat → List Int} {k : Nat} (h : MailAt w S M B C L k) (hb : Below w.heap.size w w') : MailAt w' S M B C L k := by
 have hs : ∀ i, S i → i < w.heap.size := by obtain ⟨v, b, h⟩ := h; exact h.sl
 exact h.out hb.size fun i hi => hb.block i (hs i hi)
theorem MailAt.mono {w : World} {S : Nat → Prop} {M B C : Nat} {L : Nat → List Int} {k k' : Nat} (h : MailAt w S M B C L k) (hk : k ≤ k') : MailAt w S M B C L k' := by
 obtain ⟨v, b, h⟩ := h
 exact ⟨v, b, h.top, h.c1, h.c8, h.ne, h.sM, h.sB, h.sl, fun c hc => (h.box c hc).mono hk, fun c hc => (h.good c hc).mono hk, h.sb, h.sv, h.bb, h.vv⟩
end Go.Proofs.YtdfhfmdelinemaaGreatDoor
namespace Go.Proofs.YtdfhfmdelinemaaGreatDoor
open Go.RowKit Go.Extern.Stop Go.Stop Go.Extern Go.Maps
theorem mbox_in (M B C c : Nat) (hc : c < C) (w : World) (ht : w.cell? ⟨M, 0, none⟩ = some (.slice (some ⟨B, 0, none⟩) C C)) : Calls Tryz.prog 171 #[.pointer (some ⟨M, 0, none⟩), .int .i64 c] w fun r w' => r = .returned (.pointer (some ⟨B, c * 2, none⟩)) ∧ w = w' := by
 have h0 : (0 : Int) ≤ (c : Int) := by omega
 have h1 : (c : Int) < (C : Int) := by omega
 go_enter Tryz.func171, Tryz.ntmps171
 go_wp2_with fail
 go_ret
 exact ⟨rfl, rfl⟩
theorem mbox_out (M B C : Nat) (x : Int) (hx : x < 0 ∨ (C : Int) ≤ x) (w : World) (ht : w.cell? ⟨M, 0, none⟩ = some (.slice (some ⟨B, 0, none⟩) C C)) : Calls Tryz.prog 171 #[.pointer (some ⟨M, 0, none⟩), .int .i64 x] w fun r w' => r = .returned (.pointer none) ∧ w = w' := by
 by_cases hx0 : x < 0
 ·go_enter Tryz.func171, Tryz.ntmps171
  go_wp2_with fail
  go_ret
  exact ⟨rfl, rfl⟩
 ·have h1 : (C : Int) ≤ x := by omega
  go_enter Tryz.func171, Tryz.ntmps171
  go_wp2_with fail
  go_ret
  exact ⟨rfl, rfl⟩
theorem bput_any (B o : Nat) (v : Value) (b : Nat) (l : List Int) (k : Nat) (e : Int) (w : World) (h : BoxIs w B o v b l k) (he : (Lit.int .u64 e).wf = true) (hr : Rising l) (hk : k ≤ 800) (hl : l.length ≤ 800) : Calls Tryz.prog 183 #[.pointer (some ⟨B, o, none⟩), .int .u64 e] w fun r w' => r = .returned (.tuple #[]) ∧ BoxP B o v b (putL l e) (k + 1) w w' := by
 by_cases hin : e ∈ l
 ·refine (bput_in B o v b l k e w h he hin).mono ?_
  rintro r w' ⟨rfl, hb⟩
  rw [putL_in e hr hin]
  exact ⟨rfl, v, (h.below hb).mono (Nat.le_succ k), .inl rfl, Near.of (r := none) ⟨hb.os, hb.tape, hb.output, hb.size, fun i hi _ => hb.block i hi⟩ h.lt.1 (fun x => by simp at x) fun i hi => by simp at hi⟩
 ·exact bput_new B o v b l k e w h he hin hk hl
theorem msend_ok (M B C : Nat) (S : Nat → Prop) (L : Nat → List Int) (k f t : Nat) (e : Int) (hf : f < C) (ht : t < C) (hne : ¬ t = f) (he : (Lit.int .u64 e).wf = true) (hk : k ≤ 800) (w : World) (h : MailAt w S M B C L k) : Calls Tryz.prog 170 #[.pointer (some ⟨M, 0, none⟩), .int .i64 f, .int .i64 t, .int .u64 e] w fun r w' => r = .returned (.bool true) ∧ MailAt w' (Plus S w w') M B C (upL L t (putL (L t) e)) (k + 1) ∧ Only S w w' := by
 obtain ⟨v, b, h⟩ := h
 have H1 := Lib.hid (mbox_in M B C t ht w h.top)
 have H2 := Lib.hid (mbox_in M B C f hf w h.top)
 have hg := h.good t ht
 have H3 := Lib.hid (bput_any B (t * 2) (v t) (b t) (L t) k e w (h.box t ht) he hg.1 hk (Nat.le_trans hg.2.1 hk))
 have HG := Lib.hid hg
 have HE := Lib.hid he
 have HW := Lib.hid h
 have hne1 : ¬ (t : Int) = (f : Int) := by omega
 clear h hg he
 go_enter Tryz.func170, Tryz.ntmps170
 go_wp2_with fail
 refine H1.out.mono ?_
 rintro r w1 ⟨rfl, rfl⟩
 go_wp2_with fail
 refine H2.out.mono ?_
 rintro r w1 ⟨rfl, rfl⟩
 go_wp2_with fail
 refine H3.out.mono ?_
 rintro r w1 ⟨rfl, hp⟩
 have HP := Lib.hid (mail_step HW.out ht (Nat.le_succ k) (HG.out.put HE.out) hp)
 clear hp
 go_wp2_with fail
 go_ret
 exact ⟨rfl, HP.out.1, HP.out.2⟩
def sendB (C : Nat) (f t : Int) : Bool := decide (0 ≤ f ∧ f < C) && decide (0 ≤ t ∧ t < C) && decide (¬ t = f)
theorem msend_no (M B C : Nat) (f t e : Int) (hno : sendB C f t = false) (w : World) (htop : w.cell? ⟨M, 0, none⟩ = some (.slice (some ⟨B, 0, none⟩) C C)) : Calls Tryz.prog 170 #[.pointer (some ⟨M, 0, none⟩), .int .i64 f, .int .i64 t, .int .u64 e] w fun r w' => r = .returned (.bool false) ∧ w = w' := by
 by_cases ht : 0 ≤ t ∧ t < C
 ·obtain ⟨tn, rfl⟩ := Int.eq_ofNat_of_zero_le ht.1
  have H1 := Lib.hid (mbox_in M B C tn (by omega) w htop)
  by_cases hf : 0 ≤ f ∧ f < C
  ·obtain ⟨fn, rfl⟩ := Int.eq_ofNat_of_zero_le hf.1
   have H2 := Lib.hid (mbox_in M B C fn (by omega) w htop)
   have htf : (tn : Int) = (fn : Int) := by
    simp only [sendB, Bool.and_eq_false_iff, decide_eq_false_iff_not] at hno
    omega
   have htf' : tn = fn := by omega
   subst htf'
   clear hno htop ht hf htf
   go_enter Tryz.func170, Tryz.ntmps170
   go_wp2_with fail
   refine H1.out.mono ?_
   rintro r w1 ⟨rfl, rfl⟩
   go_wp2_with fail
   refine H2.out.mono ?_
   rintro r w1 ⟨rfl, rfl⟩
   go_wp2_with fail
   go_ret
   exact ⟨rfl, rfl⟩
  ·have H2 := Lib.hid (mbox_out M B C f (by omega) w htop)
   clear hno htop ht hf
   go_enter Tryz.func170, Tryz.ntmps170
   go_wp2_with fail
   refine H1.out.mono ?_
   rintro r w1 ⟨rfl, rfl⟩
   go_wp2_with fail
   refine H2.out.mono ?_
   rintro r w1 ⟨rfl, rfl⟩
   go_wp2_with fail
   go_ret
   exact ⟨rfl, rfl⟩
 ·have H1 := Lib.hid (mbox_out M B C t (by omega) w htop)
  clear hno htop ht
  go_enter Tryz.func170, Tryz.ntmps170
  go_wp2_with fail
  refine H1.out.mono ?_
  rintro r w1 ⟨rfl, rfl⟩
  go_wp2_with fail
  go_ret
  exact ⟨rfl, rfl⟩
theorem mtake_some (M B C : Nat) (S : Nat → Prop) (L : Nat → List Int) (k c : Nat) (m : Int) (l : List Int) (hc : c < C) (hL : L c = m :: l) (hk : k ≤ 800) (w : World) (h : MailAt w S M B C L k) : Calls Tryz.prog 142 #[.pointer (some ⟨M, 0, none⟩), .int .i64 c] w fun r w' => r = .returned (.tuple #[.int .u64 m, .bool true]) ∧ MailAt w' (Plus S w w') M B C (upL L c l) k ∧ Only S w w' := by
 obtain ⟨v, b, h⟩ := h
 have hg := h.good c hc
 have hx := h.box c hc
 rw [hL] at hg hx
 have H1 := Lib.hid (mbox_in M B C c hc w h.top)
 have H2 := Lib.hid (bsize B (c * 2) (v c) (b c) (m :: l) k w hx)
 have H3 := Lib.hid (btake B (c * 2) (v c) (b c) m l k w hx (hg.2.2 m List.mem_cons_self) hg.1 (by have := hg.tail.2.1; omega))
 have HG := Lib.hid hg
 have HW := Lib.hid h
 obtain ⟨n, hn⟩ : ∃ n, l.length = n := ⟨_, rfl⟩
 have hlen : (m :: l).length = n + 1 := by simp [hn]
 rw [hlen] at H2
 have hn0 : ¬ ((n + 1 : Nat) : Int) = 0 := by omega
 clear h hg hx hL hlen
 go_enter Tryz.func142, Tryz.ntmps142
 go_wp2_with fail
 refine H1.out.mono ?_
 rintro r w1 ⟨rfl, rfl⟩
 go_wp2_with fail
 refine H2.out.mono ?_
 rintro r w1 ⟨rfl, rfl⟩
 go_wp2_with fail
 refine H3.out.mono ?_
 rintro r w1 ⟨rfl, hp⟩
 have HP := Lib.hid (mail_step HW.out hc (Nat.le_refl k) HG.out.tail hp)
 clear hp
 go_wp2_with fail
 go_ret2
 exact ⟨rfl, HP.out.1, HP.out.2⟩
end Go.Proofs.YtdfhfmdelinemaaGreatDoor
namespace Go.Proofs.YtdfhfmdelinemaaGreatDoor
open Go.RowKit Go.Extern.Stop Go.Stop Go.Extern Go.Maps
theorem plus_plus (S : Nat → Prop) {w a b : World} (h1 : w.heap.size ≤ a.heap.size) (h2 : a.heap.size ≤ b.heap.size) : Plus (Plus S w a) a b = Plus S w b := by
 funext i
 apply propext
 unfold Plus
 constructor
 ·rintro ((h | ⟨h, h'⟩) | ⟨h, h'⟩)
  ·exact .inl h
  ·exact .inr ⟨h, by omega⟩
  ·exact .inr ⟨by omega, h'⟩
 ·rintro (h | ⟨h, h'⟩)
  ·exact .inl (.inl h)
  ·by_cases hi : i < a.heap.size
   ·exact .inl (.inr ⟨h, hi⟩)
   ·exact .inr ⟨by omega, h'⟩
theorem plus_self (S : Nat → Prop) (w : World) : Plus S w w = S := by
 funext i
 apply propext
 unfold Plus
 exact ⟨fun h => h.elim id fun h => by omega, .inl⟩
def Led (S : Nat → Prop) (M B C : Nat) (w : World) (L : Nat → List Int) (k : Nat) (W : World) : Prop := MailAt W (Plus S w W) M B C L k ∧ Only S w W
theorem Led.start {S : Nat → Prop} {M B C : Nat} {w : World} {L : Nat → List Int} {k : Nat} (h : MailAt w S M B C L k) : Led S M B C w L k w := ⟨by rw [plus_self]; exact h, Only.refl _ _⟩
theorem Led.step {S : Nat → Prop} {M B C : Nat} {w W W' : World} {L L' : Nat → List Int} {k k' : Nat} (h : Led S M B C w L k W) (h2 : MailAt W' (Plus (Plus S w W) W W') M B C L' k') (ho : Only (Plus S w W) W W') : Led S M B C w L' k' W' := by
 rw [plus_plus S h.2.2.2.2.1 ho.2.2.2.1] at h2
 exact ⟨h2, h.2.trans ho⟩
def cntA (f j : Nat) : Nat := if f < j then j - 1 else j
def LA (L : Nat → List Int) (f : Nat) (e : Int) (j d : Nat) : List Int := if d < j ∧ d ≠ f then putL (L d) e else L d
theorem LA_zero (L : Nat → List Int) (f : Nat) (e : Int) : LA L f e 0 = L := by
 funext d
 simp [LA]
theorem LA_own (L : Nat → List Int) (f : Nat) (e : Int) : LA L f e (f + 1) = LA L f e f := by
 funext d
 unfold LA
 by_cases h : d = f
 ·rw [if_neg (fun x => x.2 h), if_neg (fun x => x.2 h)]
 ·by_cases h2 : d < f
  ·rw [if_pos ⟨by omega, h⟩, if_pos ⟨h2, h⟩]
  ·rw [if_neg (fun x => by have := x.1; omega), if_neg (fun x => h2 x.1)]
theorem LA_step (L : Nat → List Int) (f : Nat) (e : Int) (j : Nat) (hj : ¬ j = f) : LA L f e (j + 1) = upL (LA L f e j) j (putL (LA L f e j j) e) := by
 funext d
 unfold upL
 by_cases h : d = j
 ·subst h
  rw [if_pos rfl]
  have e1 : LA L f e d d = L d := by unfold LA; rw [if_neg (fun x => by have := x.1; omega)]
  rw [e1]
  unfold LA
  rw [if_pos ⟨by omega, hj⟩]
 ·rw [if_neg h]
  unfold LA
  by_cases h2 : d < j ∧ d ≠ f
  ·rw [if_pos h2, if_pos ⟨by omega, h2.2⟩]
  ·rw [if_neg h2, if_neg (fun x => h2 ⟨by have := x.1; omega, x.2⟩)]
theorem MailAt.top {w : World} {S : Nat → Prop} {M B C : Nat} {L : Nat → List Int} {k : Nat} (h : MailAt w S M B C L k) : w.cell? ⟨M, 0, none⟩ = some (.slice (some ⟨B, 0, none⟩) C C) := by
 obtain ⟨v, b, h⟩ := h
 exact h.top
set_option maxRecDepth 100000 in
set_option maxHeartbeats 1000000 in
theorem mall_in (M B C : Nat) (S : Nat → Prop) (L : Nat → List Int) (k f : Nat) (e : Int) (hf : f < C) (hC : C ≤ 8) (he : (Lit.int .u64 e).wf = true) (hk : k ≤ 700) (w : World) (h : MailAt w S M B C L k) : Calls Tryz.prog 141 #[.pointer (some ⟨M, 0, none⟩), .int .i64 f, .int .u64 e] w fun r w' => r = .returned (.int .i64 ((C - 1 : Nat) : Nat)) ∧ MailAt w' (Plus S w w') M B C (LA L f e C) (k + C) ∧ Only S w w' := by
 have htop := h.top
 have H0 := Lib.hid (Led.start h)
 have HE := Lib.hid he
 clear h he
 go_enter Tryz.func141, Tryz.ntmps141
 go_wp2_with fail
 go_loopw [7, 8, 16] (fun n _ c W => ∃ j : Nat, j ≤ C ∧ c = .int .i64 j ∧ n = .int .i64 (cntA f j : Nat) ∧ Led S M B C w (LA L f e j) (k + j) W) (fun _ _ c _ => (C - intOf c).toNat)
 case atStart => exact ⟨0, by omega, rfl, by simp [cntA], by rw [LA_zero]; exact H0.out⟩
 case round =>
  obtain ⟨j, hj, rfl, rfl, hl⟩ := hrel
  have HL := Lib.hid hl
  clear hl
  by_cases hjC : j < C
  ·have hjC1 : (j : Int) < (C : Int) := by omega
   by_cases hjf : j = f
   ·subst hjf
    have hno : sendB C (j : Int) (j : Int) = false := by simp [sendB]
    have HS := Lib.hid (msend_no M B C j j e hno wr HL.out.1.top)
    have hcn : cntA j j = j := by unfold cntA; rw [if_neg (by omega)]
    have hcn2 : cntA j (j + 1) = j := by unfold cntA; rw [if_pos (by omega)]; omega
    rw [hcn]
    have HN := Lib.hid hcn2
    clear hno hcn hcn2
    go_wp2_with fail
    refine HS.out.mono ?_
    rintro r w1 ⟨rfl, rfl⟩
    go_wp2_with fail
    go_roundw
    case rel => exact ⟨j + 1, by omega, by go_num, by rw [HN.out], by have h := HL.out; rw [LA_own]; exact ⟨h.1.mono (by omega), h.2⟩⟩
    case measure => simp [intOf]; omega
   ·have HS := Lib.hid (msend_ok M B C (Plus S w wr) (LA L f e j) (k + j) f j e hf hjC hjf HE.out (by omega) wr HL.out.1)
    obtain ⟨q, hq⟩ : ∃ q, cntA f j = q := ⟨_, rfl⟩
    have hq8 : q ≤ 8 := by rw [← hq]; unfold cntA; split <;> omega
    have hq2 : cntA f (j + 1) = q + 1 := by rw [← hq]; unfold cntA; split <;> split <;> omega
    have hq0 : (0 : Int) ≤ (q : Int) := by omega
    have hq9 : (q : Int) ≤ 8 := by omega
    rw [hq]
    have HQ := Lib.hid hq2
    clear hq hq2
    go_wp2_with fail
    refine HS.out.mono ?_
    rintro r w1 ⟨rfl, hm1, ho1⟩
    have HL2 := Lib.hid (HL.out.step hm1 ho1)
    clear hm1 ho1
    go_wp2_with fail
    go_roundw
    case rel => exact ⟨j + 1, by omega, by go_num, by rw [HQ.out]; go_num, by rw [LA_step L f e j hjf]; exact HL2.out⟩
    case measure => simp [intOf]; omega
  ·obtain rfl : j = C := by omega
   have hcn : cntA f j = j - 1 := by unfold cntA; rw [if_pos hf]
   rw [hcn]
   go_wp2_with fail
   go_ret
   exact ⟨rfl, HL.out.1, HL.out.2⟩
end Go.Proofs.YtdfhfmdelinemaaGreatDoor
namespace Go.Proofs.YtdfhfmdelinemaaGreatDoor
open Go.RowKit Go.Extern.Stop Go.Stop Go.Extern Go.Maps
theorem Tryz.boxInfo : (Tryz.prog.info? 271).map (fun i => (i.zero, i.size, i.bytes)) = some (some (.agg #[.slice none 0 0, .map none]), 2, 32) := by kernel_rfl
theorem make_boxes (n : Nat) (hn : n ≤ 8) (cs : Array Value) (hcs : madeCells #[.slice none 0 0, .map none] (n * 2) = cs) (w : World) :
  (Instr.makeSlice 265 (.int .i64 (n : Int)) (.int .i64 (n : Int))).run Tryz.prog w = .ok (.slice (some ⟨w.heap.size, 0, none⟩) n n) (w.alloc (.cells cs 271)) := by
 obtain ⟨i, hi, hz⟩ := Option.map_eq_some_iff.1 Tryz.boxInfo
 simp only [Prod.mk.injEq] at hz
 obtain ⟨hz0, hz1, hz2⟩ := hz
 have h := run_make (P := Tryz.prog) w 265 271 i _ Tryz.underlying265 hi hz0 .i64 .i64 n n (by omega) (by omega) (by rw [hz2]; omega) (by omega)
 rw [hz1] at h
 simp only [Int.toNat_natCast] at h
 rw [h, ← hcs]
 rfl
theorem made_box (n c : Nat) (hc : c < n) : (madeCells #[.slice none 0 0, .map none] (n * 2))[c * 2]? = some (.slice none 0 0) ∧ (madeCells #[.slice none 0 0, .map none] (n * 2))[c * 2 + 1]? = some (.map none) := by
 constructor
 ·simp [madeCells, show c * 2 < n * 2 by omega]
 ·have h : (c * 2 + 1) % 2 = 1 := by omega
  simp [madeCells, show c * 2 + 1 < n * 2 by omega, h]
structure NewAt (w : World) (M B C j : Nat) (bm : Nat → Nat) (W : World) : Prop where
 top : W.cell? ⟨M, 0, none⟩ = some (.slice (some ⟨B, 0, none⟩) C C)
 done : ∀ c, c < j → W.cell? ⟨B, c * 2, none⟩ = some (.slice none 0 0) ∧ W.cell? ⟨B, c * 2 + 1, none⟩ = some (.map (some (bm c))) ∧ W.heap[bm c]? = some (.map #[] 0) ∧ w.heap.size ≤ bm c ∧ bm c ≠ B ∧ bm c ≠ M
 left : ∀ c, c < C → (∃ x, W.cell? ⟨B, c * 2, none⟩ = some x) ∧ ∃ y, W.cell? ⟨B, c * 2 + 1, none⟩ = some y
 free : ∀ i, W.frozen? ⟨B, i, none⟩ = false
 inj : ∀ c d, c < j → d < j → c ≠ d → bm c ≠ bm d
 below : Below w.heap.size w W
 mB : w.heap.size ≤ B ∧ w.heap.size ≤ M ∧ M ≠ B
theorem NewAt.next {w W W' : World} {M B C j b : Nat} {bm : Nat → Nat} (h : NewAt w M B C j bm W) (hj : j < C) (hb : W.heap.size ≤ b) (hm : W'.heap[b]? = some (.map #[] 0)) (hW : Below W.heap.size W W') :
  NewAt w M B C (j + 1) (fun d => if d = j then b else bm d) ((W'.setCell ⟨B, j * 2, none⟩ (.slice none 0 0)).setCell ⟨B, j * 2 + 1, none⟩ (.map (some b))) := by
 have hMl : M < W.heap.size := World.block_lt_of_cell? _ _ h.top
 obtain ⟨⟨x0, hx0⟩, _⟩ := h.left j hj
 have hBl : B < W.heap.size := World.block_lt_of_cell? _ _ hx0
 have bkc : ∀ i, W'.cell? ⟨B, i, none⟩ = W.cell? ⟨B, i, none⟩ := fun i => hW.cell (p := ⟨B, i, none⟩) hBl
 have far : ∀ i u, W'.cell? ⟨B, i, none⟩ = some u → i ≠ j * 2 → i ≠ j * 2 + 1 → ((W'.setCell ⟨B, j * 2, none⟩ (.slice none 0 0)).setCell ⟨B, j * 2 + 1, none⟩ (.map (some b))).cell? ⟨B, i, none⟩ = some u := fun i u hu h1 h2 => by
  rw [World.cell?_setCell_other _ _ _ _ (fun e => h2 (congrArg Addr.off e).symm), World.cell?_setCell_other _ _ _ _ (fun e => h1 (congrArg Addr.off e).symm)]
  exact hu
 have n0 : ((W'.setCell ⟨B, j * 2, none⟩ (.slice none 0 0)).setCell ⟨B, j * 2 + 1, none⟩ (.map (some b))).cell? ⟨B, j * 2, none⟩ = some (.slice none 0 0) := by
  rw [World.cell?_setCell_other _ _ _ _ (fun e => by have := congrArg Addr.off e; simp at this)]
  obtain ⟨⟨x, hx⟩, _⟩ := h.left j hj
  exact World.cell?_setCell_same _ _ _ ((bkc _).trans hx)
 have n1 : ((W'.setCell ⟨B, j * 2, none⟩ (.slice none 0 0)).setCell ⟨B, j * 2 + 1, none⟩ (.map (some b))).cell? ⟨B, j * 2 + 1, none⟩ = some (.map (some b)) := by
  obtain ⟨_, y, hy⟩ := h.left j hj
  have hy' : (W'.setCell ⟨B, j * 2, none⟩ (.slice none 0 0)).cell? ⟨B, j * 2 + 1, none⟩ = some y := by
   rw [World.cell?_setCell_other _ _ _ _ (fun e => by have := congrArg Addr.off e; simp at this)]
   exact (bkc _).trans hy
  exact World.cell?_setCell_same _ _ _ hy'
 have hblk : ∀ i, i ≠ B → ((W'.setCell ⟨B, j * 2, none⟩ (.slice none 0 0)).setCell ⟨B, j * 2 + 1, none⟩ (.map (some b))).heap[i]? = W'.heap[i]? := fun i hi => by
  rw [Below.heap_setCell _ _ _ i hi, Below.heap_setCell _ _ _ i hi]
 refine ⟨?_, ?_, ?_, ?_, ?_, ?_, h.mB⟩
 ·exact (World.cell?_of_block (a := ⟨M, 0, none⟩) (hblk M h.mB.2.2)).trans ((hW.cell (p := ⟨M, 0, none⟩) hMl).trans h.top)
 ·intro c hc
  by_cases hcj : c = j
  ·subst hcj
   rw [if_pos rfl]
   exact ⟨n0, n1, (hblk b (by omega)).trans hm, Nat.le_trans h.below.size hb, by omega, by omega⟩
  ·rw [if_neg hcj]
   obtain ⟨d1, d2, d3, d4, d5, d6⟩ := h.done c (by omega)
   exact ⟨far _ _ ((bkc _).trans d1) (by omega) (by omega), far _ _ ((bkc _).trans d2) (by omega) (by omega), (hblk _ d5).trans ((hW.block _ (bk_lt d3)).trans d3), d4, d5, d6⟩
 ·intro c hc
  by_cases hcj : c = j
  ·subst hcj
   exact ⟨⟨_, n0⟩, _, n1⟩
  ·obtain ⟨⟨x, hx⟩, y, hy⟩ := h.left c hc
   exact ⟨⟨_, far _ _ ((bkc _).trans hx) (by omega) (by omega)⟩, _, far _ _ ((bkc _).trans hy) (by omega) (by omega)⟩
 ·intro i
  rw [World.frozen?_setCell, World.frozen?_setCell]
  exact (hW.frozen (p := ⟨B, i, none⟩) hBl).trans (h.free i)
 ·intro c d hc hd hcd
  have fresh : ∀ i, i < j → bm i ≠ b := fun i hi => by have := bk_lt (h.done i hi).2.2.1; omega
  by_cases hcj : c = j
  ·rw [if_pos hcj, if_neg (fun x => hcd (hcj.trans x.symm))]
   exact fun e => fresh d (by omega) e.symm
  ·rw [if_neg hcj]
   by_cases hdj : d = j
   ·rw [if_pos hdj]
    exact fresh c (by omega)
   ·rw [if_neg hdj]
    exact h.inj c d (by omega) (by omega) hcd
 ·have hlow : Below w.heap.size w W' := bl_trans h.below hW
  exact (hlow.setCell (p := ⟨B, j * 2, none⟩) h.mB.1 _).setCell (p := ⟨B, j * 2 + 1, none⟩) h.mB.1 _
theorem map_none {W : World} {b : Nat} (h : W.heap[b]? = some (.map #[] 0)) : W.ownsMap (H := Unit) Tryz.prog 34 unitElem b 0 (.map []) := by
 obtain ⟨es, clock, h1, h2, h3, h4⟩ := World.ownsMap_made (H := Unit) W Tryz.prog 34 unitElem
 rw [heap_alloc_new] at h1
 injection h1 with h1
 injection h1 with e1 e2
 subst e1
 subst e2
 exact ⟨#[], 0, h, h2, h3, h4⟩
theorem NewAt.all {w W : World} {M B C : Nat} {bm : Nat → Nat} (h : NewAt w M B C C bm W) (h1 : 1 ≤ C) (h8 : C ≤ 8) : MailAt W (Plus (fun _ => False) w W) M B C (fun _ => []) 0 := by
 obtain ⟨⟨x0, hx0⟩, _⟩ := h.left 0 (by omega)
 have hBl : B < W.heap.size := World.block_lt_of_cell? _ _ hx0
 refine ⟨fun _ => .slice none 0 0, bm, h.top, h1, h8, h.mB.2.2, .inr ⟨h.mB.2.1, World.block_lt_of_cell? _ _ h.top⟩, .inr ⟨h.mB.1, hBl⟩, ?_, ?_, fun c _ => Good.nil 0, ?_, ?_, h.inj, ?_⟩
 ·rintro i (hi | hi)
  ·exact hi.elim
  ·exact hi.2
 ·intro c hc
  obtain ⟨d1, d2, d3, d4, d5, d6⟩ := h.done c hc
  exact ⟨[], 0, .map [], d1, h.free _, d2, World.ownsRow_nil _ _ _ _, map_none d3, Nat.le_refl _, List.Perm.refl _, fun k k0 hk => by simp at hk, by simp [Value.ownBlock], d5, fun e _ => by simp [has]⟩
 ·intro c hc
  obtain ⟨d1, d2, d3, d4, d5, d6⟩ := h.done c hc
  exact ⟨.inr ⟨d4, bk_lt d3⟩, d6⟩
 ·intro c _ g hg
  simp [Value.ownBlock] at hg
 ·intro c d _ _ _ g hg
  simp [Value.ownBlock] at hg
theorem far_two {w : World} {M B i j : Nat} (hne : ¬ B = M) {v : Value} (h : w.cell? ⟨M, 0, none⟩ = some v) (x y : Value) : ((w.setCell ⟨B, i, none⟩ x).setCell ⟨B, j, none⟩ y).cell? ⟨M, 0, none⟩ = some v := by
 rw [World.cell?_setCell_other _ _ _ _ (fun e => hne (congrArg Addr.block e)), World.cell?_setCell_other _ _ _ _ (fun e => hne (congrArg Addr.block e))]
 exact h
set_option maxRecDepth 100000 in
theorem mnew_ok (C : Nat) (h1 : 1 ≤ C) (h8 : C ≤ 8) (w : World) : Calls Tryz.prog 138 #[.int .i64 C] w fun r w' => ∃ M B, r = .returned (.pointer (some ⟨M, 0, none⟩)) ∧ MailAt w' (Plus (fun _ => False) w w') M B C (fun _ => []) 0 ∧ Below w.heap.size w w' := by
 obtain ⟨cs, hcs⟩ : ∃ cs, madeCells #[.slice none 0 0, .map none] (C * 2) = cs := ⟨_, rfl⟩
 have hmk := make_boxes C h8 cs hcs
 have HCS : Hid (∀ c, c < C → cs[c * 2]? = some (.slice none 0 0) ∧ cs[c * 2 + 1]? = some (.map none)) := fun c hc => by rw [← hcs]; exact made_box C c hc
 have hC1 : (1 : Int) ≤ (C : Int) := by omega
 have hC8 : (C : Int) ≤ 8 := by omega
 clear hcs
 go_enter Tryz.func138, Tryz.ntmps138
 go_wp2_with fail
 go_loopw [4, 20] (fun _ c W => ∃ (j : Nat) (bm : Nat → Nat), j ≤ C ∧ c = .int .i64 j ∧ NewAt w (w.heap.size + 1) w.heap.size C j bm W) (fun _ c _ => (C - intOf c).toNat)
 case atStart =>
  have q1 : ((w.alloc (.cells cs 271)).alloc (.cells #[.slice (some ⟨w.heap.size, 0, none⟩) C C] 267)).heap[w.heap.size + 1]? = some (.cells #[.slice (some ⟨w.heap.size, 0, none⟩) C C] 267 (0, 0)) := heap_alloc_new' _ _ (by simp)
  have q2 : ((w.alloc (.cells cs 271)).alloc (.cells #[.slice (some ⟨w.heap.size, 0, none⟩) C C] 267)).heap[w.heap.size]? = some (.cells cs 271 (0, 0)) :=
   (Below.heap_alloc (w.alloc (.cells cs 271)) _ w.heap.size (by simp)).trans (heap_alloc_new w _)
  exact ⟨0, fun _ => 0, by omega, rfl, bk_cell q1 0, fun c hc => by omega, fun c hc => ⟨⟨_, (bk_cell q2 _).trans (HCS.out c hc).1⟩, _, (bk_cell q2 _).trans (HCS.out c hc).2⟩, fun i => bk_free q2 i, fun c d hc => by omega, ((Below.refl _ _).alloc (Nat.le_refl _) _).alloc (by simp) _, Nat.le_refl _, by omega, by omega⟩
 case round =>
  obtain ⟨j, bm, hj, rfl, hn⟩ := hrel
  have HN := Lib.hid hn
  have HT := Lib.hid hn.top
  clear hmk
  by_cases hjC : j < C
  ·have hjC1 : (j : Int) < (C : Int) := by omega
   obtain ⟨⟨x, hx⟩, y, hy⟩ := hn.left j hjC
   have HX := Lib.hid hx
   have HY := Lib.hid hy
   have HBL := Lib.hid (World.block_lt_of_cell? _ _ hx)
   have HML := Lib.hid (World.block_lt_of_cell? _ _ hn.top)
   have HF := Lib.hid hn.free
   clear hn hx hy
   go_wp2_with fail
   go_region_held3 (fun W => W.cell? ⟨w.heap.size + 1, 0, none⟩ = some (.slice (some ⟨w.heap.size, 0, none⟩) C C)) (first | exact HT.out | assumption)
    ((refine (bnew _).mono ?_; rintro r w2 ⟨b, rfl, hbb, hmm, hb⟩; have hb' : Below wr.heap.size wr w2 := bl_trans (w := wr) (dn (Below.refl _ _) 1) hb; have t2 := (hb'.cell (p := ⟨w.heap.size + 1, 0, none⟩) HML.out).trans HT.out; have d0 := (hb'.cell (p := ⟨w.heap.size, j * 2, none⟩) HBL.out).trans HX.out; have d1 := (hb'.cell (p := ⟨w.heap.size, j * 2 + 1, none⟩) HBL.out).trans HY.out; have e0 := (hb'.frozen (p := ⟨w.heap.size, j * 2, none⟩) HBL.out).trans (HF.out _); have e1 := (hb'.frozen (p := ⟨w.heap.size, j * 2 + 1, none⟩) HBL.out).trans (HF.out _); have t3 := far_two (B := w.heap.size) (i := j * 2) (j := j * 2 + 1) (by omega) t2 (.slice none 0 0) (.map (some b)); have HN2 := Lib.hid (HN.out.next hjC hbb hmm hb'); clear hbb hmm hb hb'))
   all_goals
    go_wp2_with fail
    go_roundw
    case rel => exact ⟨j + 1, _, by omega, by go_num, HN2.out⟩
    case measure => simp [intOf]; omega
  ·obtain rfl : j = C := by omega
   clear hn
   go_wp2_with fail
   go_ret
   exact ⟨_, _, rfl, HN.out.all h1 h8, HN.out.below⟩
end Go.Proofs.YtdfhfmdelinemaaGreatDoor
