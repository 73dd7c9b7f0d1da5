/- What is proved here: contracts of packages pte, word, mem, table and tlb, as far as the statements ask them. Conditions: those that each theorem names. -/
import Derived.Test.YtdfhfmdelinemaaGreatDoorProg
import Derived.WalkKit
import Derived.Lib.Hide
import Derived.IntWalk
import Derived.LoopTactic
import Derived.RowKitTokens
import Derived.Below
import Derived.BigQuiet
import Derived.Deep.QuietTactic
import Derived.Laws.BitsAllLaws
import Derived.Laws.MakeOwn
import Derived.Laws.Entries
import Derived.Lib.SliceRun
import Derived.Laws.OwnMore
import Derived.Laws.AppendOwn
import Derived.OwnWalk
import Derived.Deep.DeepCutAuto
import Derived.Deep.MidRow
import Derived.StillTailTactics
namespace Go.Proofs.YtdfhfmdelinemaaGreatDoor
open Go.RowKit Go.Extern.Stop Go.Stop Go.Extern
def BegunAt (w : World) : Prop := Calls Tryz.prog 89 #[] w fun e w' => e = .returned (.bool true) ∧ Below w.heap.size w w'
theorem dn {B : Nat} {a w : World} (h : Below B a w) (n : Nat) : Below B a (w.drewN n) := ⟨h.os, h.tape, h.output, h.size, h.block⟩
theorem bk_cell {w : World} {b : Nat} {cs : Array Value} {t : TypeId} (h : w.heap[b]? = some (.cells cs t (0, 0))) (i : Nat) : w.cell? ⟨b, i, none⟩ = cs[i]? := by
 simp [World.cell?, h]
theorem bk_free {w : World} {b : Nat} {cs : Array Value} {t : TypeId} (h : w.heap[b]? = some (.cells cs t (0, 0))) (i : Nat) : w.frozen? ⟨b, i, none⟩ = false := by
 simp [World.frozen?, h]
theorem bk_two {w w' : World} {o1 o2 : Obj} (h : Below ((w.alloc o1).alloc o2).heap.size ((w.alloc o1).alloc o2) w') : w'.heap[w.heap.size]? = some o1 := by
 rw [h.block _ (by simp; omega)]
 exact (Below.heap_alloc (w.alloc o1) o2 w.heap.size (by simp)).trans (heap_alloc_new w o1)
theorem bk_lt {w : World} {b : Nat} {o : Obj} (h : w.heap[b]? = some o) : b < w.heap.size := by
 rcases Nat.lt_or_ge b w.heap.size with h1 | h1
 ·exact h1
 ·simp [Array.getElem?_eq_none h1] at h
theorem bk_one {w w' : World} {o : Obj} (h : Below (w.alloc o).heap.size (w.alloc o) w') : w'.heap[w.heap.size]? = some o := by
 rw [h.block _ (by simp)]
 exact heap_alloc_new w o
theorem bk_keep {w w' : World} {o p : Obj} {b : Nat} (hk : w.heap[b]? = some p) (h : Below (w.alloc o).heap.size (w.alloc o) w') : w'.heap[b]? = some p := by
 have hl := bk_lt hk
 rw [h.block _ (by simp; omega), Below.heap_alloc w o b hl]
 exact hk
theorem bk_below {w w' : World} {p : Obj} {b : Nat} (hk : w.heap[b]? = some p) (h : Below w.heap.size w w') : w'.heap[b]? = some p := by
 rw [h.block _ (bk_lt hk)]
 exact hk
theorem bl_alloc {w a b : World} {o : Obj} (h : Below w.heap.size w a) (hb : Below (a.alloc o).heap.size (a.alloc o) b) : Below w.heap.size w b :=
 (h.alloc h.size _).trans (hb.mono (by have := h.size; simp; omega))
theorem bl_trans {w a b : World} (h : Below w.heap.size w a) (hb : Below a.heap.size a b) : Below w.heap.size w b := h.trans (hb.mono h.size)
def Only (S : Nat → Prop) (w w' : World) : Prop := w'.os = w.os ∧ w'.tape = w.tape ∧ w'.output = w.output ∧ w.heap.size ≤ w'.heap.size ∧ ∀ i, i < w.heap.size → ¬ S i → w'.heap[i]? = w.heap[i]?
theorem Only.refl (S : Nat → Prop) (w : World) : Only S w w := ⟨rfl, rfl, rfl, Nat.le_refl _, fun _ _ _ => rfl⟩
def Plus (S : Nat → Prop) (w w' : World) (i : Nat) : Prop := S i ∨ (w.heap.size ≤ i ∧ i < w'.heap.size)
theorem Only.trans {S : Nat → Prop} {w a b : World} (h : Only S w a) (h2 : Only (Plus S w a) a b) : Only S w b := by
 obtain ⟨h1, h3, h4, h5, h6⟩ := h
 obtain ⟨g1, g3, g4, g5, g6⟩ := h2
 exact ⟨g1.trans h1, g3.trans h3, g4.trans h4, Nat.le_trans h5 g5, fun i hi hn => (g6 i (Nat.lt_of_lt_of_le hi h5) (fun hp => hp.elim hn fun hp => by omega)).trans (h6 i hi hn)⟩
theorem Only.below {S : Nat → Prop} {w w' : World} (h : Below w.heap.size w w') : Only S w w' := ⟨h.os, h.tape, h.output, h.size, fun i hi _ => h.block i hi⟩
theorem Only.cell {S : Nat → Prop} {w w' : World} (h : Only S w w') {a : Addr} (ha : a.block < w.heap.size) (hs : ¬ S a.block) : w'.cell? a = w.cell? a := World.cell?_of_block (h.2.2.2.2 _ ha hs)
theorem Only.frozen {S : Nat → Prop} {w w' : World} (h : Only S w w') {a : Addr} (ha : a.block < w.heap.size) (hs : ¬ S a.block) : w'.frozen? a = w.frozen? a := World.frozen?_of_block (h.2.2.2.2 _ ha hs)
end Go.Proofs.YtdfhfmdelinemaaGreatDoor
namespace Go.Proofs.YtdfhfmdelinemaaGreatDoor
open Go.RowKit Go.Extern.Stop Go.Stop Go.Extern Go.IntWalk
end Go.Proofs.YtdfhfmdelinemaaGreatDoor
namespace Go.Proofs.YtdfhfmdelinemaaGreatDoor
open Go.RowKit Go.Extern.Stop Go.Stop Go.Extern
def KS (w W : World) (x0 x1 x2 x3 x4 : Value) : Prop := W.cell? ⟨w.heap.size, 0, none⟩ = some x0 ∧ W.cell? ⟨w.heap.size, 1, none⟩ = some x1 ∧ W.cell? ⟨w.heap.size, 2, none⟩ = some x2 ∧ W.cell? ⟨w.heap.size, 3, none⟩ = some x3 ∧ W.cell? ⟨w.heap.size, 4, none⟩ = some x4 ∧ w.heap.size < W.heap.size ∧ Below w.heap.size w W
end Go.Proofs.YtdfhfmdelinemaaGreatDoor
namespace Go.Proofs.YtdfhfmdelinemaaGreatDoor
open Go.RowKit Go.Extern.Stop Go.Stop Go.Extern
def mayB (r : Int) : Bool := decide (1 ≤ r) && decide (r ≤ 3)
theorem may_any (r : Int) (w : World) : Calls Tryz.prog 76 #[.int .i64 r] w fun e w' => e = .returned (.bool (mayB r)) ∧ w = w' := by
 unfold mayB
 by_cases h1 : 1 ≤ r
 all_goals by_cases h2 : r ≤ 3
 all_goals
  go_enter Tryz.func76, Tryz.ntmps76
  go_wp2
  go_ret
  simp [h1, h2]
theorem ref_may_any (r : Int) (w : World) : Calls Tryz.prog 111 #[.int .i64 r] w fun e w' => e = .returned (.bool (mayB r)) ∧ w = w' := by
 unfold mayB
 by_cases h1 : 1 ≤ r
 all_goals by_cases h2 : r ≤ 3
 all_goals
  go_enter Tryz.func111, Tryz.ntmps111
  go_wp2
  go_ret
  simp [h1, h2]
theorem putbelow (n m : Int) (w : World) : Calls Tryz.prog 162 #[.int .i64 n, .int .i64 m] w fun e w' => e = .returned (.bool (decide (0 ≤ n) && decide (n < m))) ∧ w = w' := by
 by_cases h1 : 0 ≤ n
 all_goals by_cases h2 : n < m
 all_goals
  go_enter Tryz.func162, Tryz.ntmps162
  go_wp2
  go_ret
  simp [h1, h2]
theorem may_yes (r : Int) (h1 : 1 ≤ r) (h2 : r ≤ 3) (w : World) : Calls Tryz.prog 76 #[.int .i64 r] w fun e w' => e = .returned (.bool true) ∧ w = w' :=
 (may_any r w).mono fun _ _ h => by rw [show mayB r = true by simp [mayB, h1, h2]] at h; exact h
theorem below_yes (n m : Int) (h1 : 0 ≤ n) (h2 : n < m) (w : World) : Calls Tryz.prog 162 #[.int .i64 n, .int .i64 m] w fun e w' => e = .returned (.bool true) ∧ w = w' :=
 (putbelow n m w).mono fun _ _ h => by rw [show (decide (0 ≤ n) && decide (n < m)) = true by simp [h1, h2]] at h; exact h
theorem put_bits (f s r : Int) (hf : 0 ≤ f) (hf2 : f ≤ 15) (hs : 0 ≤ s) (hs2 : s ≤ 7) (hr : 1 ≤ r) (hr2 : r ≤ 3) :
  bits .or .u64 (bits .or .u64 (bits .or .u64 32768 (f * 256)) (s * 16)) r = 32768 + 256 * f + 16 * s + r := by
 have key : ∀ a < 16, ∀ b < 8, ∀ c < 4, bits .or .u64 (bits .or .u64 (bits .or .u64 32768 (((a : Nat) : Int) * 256)) (((b : Nat) : Int) * 16)) ((c : Nat) : Int) = 32768 + 256 * (a : Int) + 16 * (b : Int) + (c : Int) := by decide +kernel
 have h := key f.toNat (by omega) s.toNat (by omega) r.toNat (by omega)
 rwa [show ((f.toNat : Nat) : Int) = f by omega, show ((s.toNat : Nat) : Int) = s by omega, show ((r.toNat : Nat) : Int) = r by omega] at h
theorem put_yes (f s r : Int) (hf : 0 ≤ f) (hf2 : f ≤ 15) (hs : 0 ≤ s) (hs2 : s ≤ 7) (hr : 1 ≤ r) (hr2 : r ≤ 3) (w : World) :
  Calls Tryz.prog 130 #[.agg #[.int .i64 f, .int .i64 s, .int .i64 r]] w fun e w' => e = .returned (.tuple #[.int .u64 (32768 + 256 * f + 16 * s + r), .bool true]) ∧ Below w.heap.size w w' := by
 go_enter Tryz.func130, Tryz.ntmps130
 go_wp2_with (first | (go_at_call 76; refine (may_yes _ hr hr2 _).mono ?_; rintro e w' ⟨rfl, rfl⟩) | (go_at_call 162; refine (below_yes _ _ (by omega) (by omega) _).mono ?_; rintro e w' ⟨rfl, rfl⟩))
 go_ret2
 exact ⟨by rw [put_bits f s r hf hf2 hs hs2 hr hr2]; rfl, (Below.refl _ _).alloc (Nat.le_refl _) _⟩
theorem may_no (r : Int) (h : mayB r = false) (w : World) : Calls Tryz.prog 76 #[.int .i64 r] w fun e w' => e = .returned (.bool false) ∧ w = w' :=
 (may_any r w).mono fun _ _ hh => by rw [h] at hh; exact hh
theorem below_no (n m : Int) (h : n < 0 ∨ m ≤ n) (w : World) : Calls Tryz.prog 162 #[.int .i64 n, .int .i64 m] w fun e w' => e = .returned (.bool false) ∧ w = w' :=
 (putbelow n m w).mono fun _ _ hh => by rw [show (decide (0 ≤ n) && decide (n < m)) = false by rcases h with h | h <;> simp <;> omega] at hh; exact hh
theorem put_zero (w : World) :
  Calls Tryz.prog 130 #[.agg #[.int .i64 0, .int .i64 0, .int .i64 0]] w fun e w' => e = .returned (.tuple #[.int .u64 0, .bool true]) ∧ Below w.heap.size w w' := by
 go_enter Tryz.func130, Tryz.ntmps130
 go_wp2
 go_ret2
 exact ⟨rfl, (Below.refl _ _).alloc (Nat.le_refl _) _⟩
theorem put_no_r (f s r : Int) (h : ¬ (f = 0 ∧ s = 0 ∧ r = 0)) (hr : mayB r = false) (w : World) :
  Calls Tryz.prog 130 #[.agg #[.int .i64 f, .int .i64 s, .int .i64 r]] w fun e w' => e = .returned (.tuple #[.int .u64 0, .bool false]) ∧ Below w.heap.size w w' := by
 have H := Lib.hid h
 have HR := Lib.hid hr
 clear h hr
 go_enter Tryz.func130, Tryz.ntmps130
 go_wp2_with (go_at_call 76; refine (may_no _ HR.out _).mono ?_; rintro e w' ⟨rfl, rfl⟩)
 all_goals first
  | (exfalso; exact H.out ⟨by assumption, by assumption, by assumption⟩)
  | (go_ret2; exact ⟨rfl, (Below.refl _ _).alloc (Nat.le_refl _) _⟩)
theorem put_no_s (f s r : Int) (_hs0 : ¬ s = 0) (hs : s < 0 ∨ 8 ≤ s) (hr : 1 ≤ r) (hr2 : r ≤ 3) (w : World) :
  Calls Tryz.prog 130 #[.agg #[.int .i64 f, .int .i64 s, .int .i64 r]] w fun e w' => e = .returned (.tuple #[.int .u64 0, .bool false]) ∧ Below w.heap.size w w' := by
 have HS := Lib.hid hs
 clear hs
 go_enter Tryz.func130, Tryz.ntmps130
 go_wp2_with (first | (go_at_call 76; refine (may_yes _ hr hr2 _).mono ?_; rintro e w' ⟨rfl, rfl⟩) | (go_at_call 162; refine (below_no _ _ HS.out _).mono ?_; rintro e w' ⟨rfl, rfl⟩))
 all_goals (go_ret2; exact ⟨rfl, (Below.refl _ _).alloc (Nat.le_refl _) _⟩)
theorem put_no_f (f s r : Int) (_hf0 : ¬ f = 0) (hf : f < 0 ∨ 16 ≤ f) (hs : 0 ≤ s) (hs2 : s ≤ 7) (hr : 1 ≤ r) (hr2 : r ≤ 3) (w : World) :
  Calls Tryz.prog 130 #[.agg #[.int .i64 f, .int .i64 s, .int .i64 r]] w fun e w' => e = .returned (.tuple #[.int .u64 0, .bool false]) ∧ Below w.heap.size w w' := by
 have HF := Lib.hid hf
 clear hf
 go_enter Tryz.func130, Tryz.ntmps130
 go_wp2_with (first | (go_at_call 76; refine (may_yes _ hr hr2 _).mono ?_; rintro e w' ⟨rfl, rfl⟩) | (go_at_call 162; (with_reducible refine (below_yes s 8 hs (by omega) _).mono ?_); rintro e w' ⟨rfl, rfl⟩) | (go_at_call 162; (with_reducible refine (below_no f 16 HF.out _).mono ?_); rintro e w' ⟨rfl, rfl⟩))
 all_goals (go_ret2; exact ⟨rfl, (Below.refl _ _).alloc (Nat.le_refl _) _⟩)
def putB (f s r : Int) : Bool := decide (f = 0 ∧ s = 0 ∧ r = 0) || (decide (1 ≤ r ∧ r ≤ 3) && decide (0 ≤ s ∧ s ≤ 7) && decide (0 ≤ f ∧ f ≤ 15))
def putW (f s r : Int) : Int := if putB f s r = true ∧ r ≠ 0 then 32768 + 256 * f + 16 * s + r else 0
theorem put_any (f s r : Int) (w : World) :
  Calls Tryz.prog 130 #[.agg #[.int .i64 f, .int .i64 s, .int .i64 r]] w fun e w' => e = .returned (.tuple #[.int .u64 (putW f s r), .bool (putB f s r)]) ∧ Below w.heap.size w w' := by
 by_cases h0 : f = 0 ∧ s = 0 ∧ r = 0
 ·obtain ⟨rfl, rfl, rfl⟩ := h0
  exact put_zero w
 have no : putB f s r = false → putW f s r = 0 := fun h => by simp [putW, h]
 by_cases hr : 1 ≤ r ∧ r ≤ 3
 ·by_cases hs : 0 ≤ s ∧ s ≤ 7
  ·by_cases hf : 0 ≤ f ∧ f ≤ 15
   ·have e1 : putB f s r = true := by simp [putB, hr, hs, hf]
    have e2 : putW f s r = 32768 + 256 * f + 16 * s + r := by unfold putW; rw [if_pos ⟨e1, by omega⟩]
    rw [e1, e2]
    exact put_yes f s r hf.1 hf.2 hs.1 hs.2 hr.1 hr.2 w
   ·have e1 : putB f s r = false := by simp [putB, h0, hf]
    rw [no e1, e1]
    exact put_no_f f s r (by omega) (by omega) hs.1 hs.2 hr.1 hr.2 w
  ·have e1 : putB f s r = false := by simp [putB, h0, hs]
   rw [no e1, e1]
   exact put_no_s f s r (by omega) (by omega) hr.1 hr.2 w
 ·have e1 : putB f s r = false := by simp [putB, h0, hr]
  rw [no e1, e1]
  exact put_no_r f s r h0 (by simp [mayB]; omega) w
theorem ref_may_yes (r : Int) (h1 : 1 ≤ r) (h2 : r ≤ 3) (w : World) : Calls Tryz.prog 111 #[.int .i64 r] w fun e w' => e = .returned (.bool true) ∧ w = w' :=
 (ref_may_any r w).mono fun _ _ h => by rw [show mayB r = true by simp [mayB, h1, h2]] at h; exact h
theorem ref_may_no (r : Int) (h : mayB r = false) (w : World) : Calls Tryz.prog 111 #[.int .i64 r] w fun e w' => e = .returned (.bool false) ∧ w = w' :=
 (ref_may_any r w).mono fun _ _ hh => by rw [h] at hh; exact hh
end Go.Proofs.YtdfhfmdelinemaaGreatDoor
namespace Go.Proofs.YtdfhfmdelinemaaGreatDoor
open Go.RowKit Go.Extern.Stop Go.Stop Go.Extern
def withinB (a b : Int) : Bool := mayB a && mayB b && decide (a = b ∨ b = 3)
theorem may_cases {r : Int} (h : mayB r = true) : r = 1 ∨ r = 2 ∨ r = 3 := by simp [mayB] at h; omega
theorem within_yes (a b : Int) (ha : mayB a = true) (hb : mayB b = true) (w : World) : Calls Tryz.prog 77 #[.int .i64 a, .int .i64 b] w fun e w' => e = .returned (.bool (withinB a b)) ∧ w = w' := by
 rcases may_cases ha with rfl | rfl | rfl
 all_goals rcases may_cases hb with rfl | rfl | rfl
 all_goals
  clear ha hb
  go_enter Tryz.func77, Tryz.ntmps77
  go_wp2_with (go_at_call 76; refine (may_yes _ (by omega) (by omega) _).mono ?_; rintro e w' ⟨rfl, rfl⟩)
  go_ret
  exact ⟨rfl, rfl⟩
theorem ref_within_yes (a b : Int) (ha : mayB a = true) (hb : mayB b = true) (w : World) : Calls Tryz.prog 109 #[.int .i64 a, .int .i64 b] w fun e w' => e = .returned (.bool (withinB a b)) ∧ w = w' := by
 rcases may_cases ha with rfl | rfl | rfl
 all_goals rcases may_cases hb with rfl | rfl | rfl
 all_goals
  clear ha hb
  go_enter Tryz.func109, Tryz.ntmps109
  go_wp2_with (go_at_call 111; refine (ref_may_yes _ (by omega) (by omega) _).mono ?_; rintro e w' ⟨rfl, rfl⟩)
  go_ret
  exact ⟨rfl, rfl⟩
theorem within_any (a b : Int) (w : World) : Calls Tryz.prog 77 #[.int .i64 a, .int .i64 b] w fun e w' => e = .returned (.bool (withinB a b)) ∧ w = w' := by
 rcases Bool.eq_false_or_eq_true (mayB a) with ha | ha
 ·rcases Bool.eq_false_or_eq_true (mayB b) with hb | hb
  ·exact within_yes a b ha hb w
  ·rw [show withinB a b = false by simp [withinB, hb]]
   have HB := Lib.hid hb
   have H1 := may_cases ha
   have h1 : 1 ≤ a := by omega
   have h2 : a ≤ 3 := by omega
   clear ha hb H1
   go_enter Tryz.func77, Tryz.ntmps77
   go_wp2_with fail
   refine (may_yes _ h1 h2 _).mono ?_
   rintro e w' ⟨rfl, rfl⟩
   go_wp2_with fail
   refine (may_no _ HB.out _).mono ?_
   rintro e w' ⟨rfl, rfl⟩
   go_wp2_with fail
   go_ret
   exact ⟨rfl, rfl⟩
 ·rw [show withinB a b = false by simp [withinB, ha]]
  have HB := Lib.hid ha
  clear ha
  go_enter Tryz.func77, Tryz.ntmps77
  go_wp2_with (go_at_call 76; refine (may_no _ HB.out _).mono ?_; rintro e w' ⟨rfl, rfl⟩)
  go_ret
  exact ⟨rfl, rfl⟩
theorem ref_within_any (a b : Int) (w : World) : Calls Tryz.prog 109 #[.int .i64 a, .int .i64 b] w fun e w' => e = .returned (.bool (withinB a b)) ∧ w = w' := by
 rcases Bool.eq_false_or_eq_true (mayB a) with ha | ha
 ·rcases Bool.eq_false_or_eq_true (mayB b) with hb | hb
  ·exact ref_within_yes a b ha hb w
  ·rw [show withinB a b = false by simp [withinB, hb]]
   have HB := Lib.hid hb
   have H1 := may_cases ha
   have h1 : 1 ≤ a := by omega
   have h2 : a ≤ 3 := by omega
   clear ha hb H1
   go_enter Tryz.func109, Tryz.ntmps109
   go_wp2_with fail
   refine (ref_may_yes _ h1 h2 _).mono ?_
   rintro e w' ⟨rfl, rfl⟩
   go_wp2_with fail
   refine (ref_may_no _ HB.out _).mono ?_
   rintro e w' ⟨rfl, rfl⟩
   go_wp2_with fail
   go_ret
   exact ⟨rfl, rfl⟩
 ·rw [show withinB a b = false by simp [withinB, ha]]
  have HB := Lib.hid ha
  clear ha
  go_enter Tryz.func109, Tryz.ntmps109
  go_wp2_with (go_at_call 111; refine (ref_may_no _ HB.out _).mono ?_; rintro e w' ⟨rfl, rfl⟩)
  go_ret
  exact ⟨rfl, rfl⟩
def needN (k : Int) : Int := if k = 20 then 1 else if k = 21 then 2 else if k = 22 ∨ k = 23 then 3 else 0
theorem needs_any (k : Int) (w : World) : Calls Tryz.prog 164 #[.int .i64 k] w fun e w' => e = .returned (.int .i64 (needN k)) ∧ w = w' := by
 by_cases h0 : k = 20
 ·subst h0
  go_enter Tryz.func164, Tryz.ntmps164
  go_wp2
  go_ret
  exact ⟨rfl, rfl⟩
 by_cases h1 : k = 21
 ·subst h1
  go_enter Tryz.func164, Tryz.ntmps164
  go_wp2
  go_ret
  exact ⟨rfl, rfl⟩
 by_cases h2 : k = 22
 ·subst h2
  go_enter Tryz.func164, Tryz.ntmps164
  go_wp2
  go_ret
  exact ⟨rfl, rfl⟩
 by_cases h3 : k = 23
 ·subst h3
  go_enter Tryz.func164, Tryz.ntmps164
  go_wp2
  go_ret
  exact ⟨rfl, rfl⟩
 rw [show needN k = 0 by simp [needN, h0, h1, h2, h3]]
 go_enter Tryz.func164, Tryz.ntmps164
 go_wp2
 go_ret
 exact ⟨rfl, rfl⟩
theorem lets_any (r k : Int) (w : World) : Calls Tryz.prog 134 #[.int .i64 r, .int .i64 k] w fun e w' => e = .returned (.bool (withinB (needN k) r)) ∧ w = w' := by
 go_enter Tryz.func134, Tryz.ntmps134
 go_wp2_with (first | (go_at_call 164; refine (needs_any _ _).mono ?_; rintro e w' ⟨rfl, rfl⟩) | (go_at_call 77; refine (within_any _ _ _).mono ?_; rintro e w' ⟨rfl, rfl⟩))
 go_ret
 exact ⟨rfl, rfl⟩
theorem ref_lets_any (r k : Int) (w : World) : Calls Tryz.prog 58 #[.int .i64 r, .int .i64 k] w fun e w' => e = .returned (.bool (withinB (needN k) r)) ∧ w = w' := by
 rcases Bool.eq_false_or_eq_true (mayB r) with hr | hr
 ·rcases may_cases hr with rfl | rfl | rfl
  all_goals
   clear hr
   by_cases h0 : k = 20
   ·subst h0
    go_enter Tryz.func58, Tryz.ntmps58
    go_wp2_with (go_at_call 111; refine (ref_may_yes _ (by omega) (by omega) _).mono ?_; rintro e w' ⟨rfl, rfl⟩)
    go_ret
    exact ⟨rfl, rfl⟩
   by_cases h1 : k = 21
   ·subst h1
    go_enter Tryz.func58, Tryz.ntmps58
    go_wp2_with (go_at_call 111; refine (ref_may_yes _ (by omega) (by omega) _).mono ?_; rintro e w' ⟨rfl, rfl⟩)
    go_ret
    exact ⟨rfl, rfl⟩
   by_cases h2 : k = 22
   ·subst h2
    go_enter Tryz.func58, Tryz.ntmps58
    go_wp2_with (go_at_call 111; refine (ref_may_yes _ (by omega) (by omega) _).mono ?_; rintro e w' ⟨rfl, rfl⟩)
    go_ret
    exact ⟨rfl, rfl⟩
   by_cases h3 : k = 23
   ·subst h3
    go_enter Tryz.func58, Tryz.ntmps58
    go_wp2_with (go_at_call 111; refine (ref_may_yes _ (by omega) (by omega) _).mono ?_; rintro e w' ⟨rfl, rfl⟩)
    go_ret
    exact ⟨rfl, rfl⟩
   rw [show needN k = 0 by simp [needN, h0, h1, h2, h3]]
   go_enter Tryz.func58, Tryz.ntmps58
   go_wp2_with (go_at_call 111; refine (ref_may_yes _ (by omega) (by omega) _).mono ?_; rintro e w' ⟨rfl, rfl⟩)
   go_ret
   exact ⟨rfl, rfl⟩
 ·rw [show withinB (needN k) r = false by simp [withinB, hr]]
  have HR := Lib.hid hr
  clear hr
  go_enter Tryz.func58, Tryz.ntmps58
  go_wp2_with (go_at_call 111; refine (ref_may_no _ HR.out _).mono ?_; rintro e w' ⟨rfl, rfl⟩)
  go_ret
  exact ⟨rfl, rfl⟩
end Go.Proofs.YtdfhfmdelinemaaGreatDoor
namespace Go.Proofs.YtdfhfmdelinemaaGreatDoor
open Go.RowKit Go.Extern.Stop Go.Stop Go.Extern
def isKind (k : Int) : Bool := decide (1 ≤ k ∧ k ≤ 10 ∨ 20 ≤ k ∧ k ≤ 23)
def shp (k : Int) : List Int :=
 if k = 1 ∨ k = 4 ∨ k = 5 then [1, 0, 0, 0] else if k = 2 then [1, 1, 5, 0] else if k = 3 then [1, 4, 1, 5] else if k = 6 then [2, 1, 5, 0] else if k = 7 then [2, 0, 0, 0]
 else if k = 8 then [2, 5, 0, 0] else if k = 9 then [1, 3, 6, 7] else if k = 20 then [2, 3, 0, 0] else if k = 21 ∨ k = 23 then [2, 3, 7, 0] else if k = 22 then [2, 3, 7, 7] else [0, 0, 0, 0]
def mean (k : Int) (j : Nat) : Int := (shp k).getD j 0
theorem kind_cases {k : Int} (h : isKind k = true) : k = 1 ∨ k = 2 ∨ k = 3 ∨ k = 4 ∨ k = 5 ∨ k = 6 ∨ k = 7 ∨ k = 8 ∨ k = 9 ∨ k = 10 ∨ k = 20 ∨ k = 21 ∨ k = 22 ∨ k = 23 := by
 simp only [isKind, decide_eq_true_eq] at h
 omega
theorem kind_no {k : Int} (h : isKind k = false) : ¬ k = 1 ∧ ¬ k = 2 ∧ ¬ k = 3 ∧ ¬ k = 4 ∧ ¬ k = 5 ∧ ¬ k = 6 ∧ ¬ k = 7 ∧ ¬ k = 8 ∧ ¬ k = 9 ∧ ¬ k = 10 ∧ ¬ k = 20 ∧ ¬ k = 21 ∧ ¬ k = 22 ∧ ¬ k = 23 := by
 simp only [isKind, decide_eq_false_iff_not] at h
 omega
theorem shp_no {k : Int} (h : isKind k = false) : shp k = [0, 0, 0, 0] := by
 obtain ⟨h1, h2, h3, h4, h5, h6, h7, h8, h9, h10, h11, h12, h13, h14⟩ := kind_no h
 simp [shp, h1, h2, h3, h4, h5, h6, h7, h8, h9, h11, h12, h13, h14]
theorem mean_07 (k : Int) (j : Nat) : 0 ≤ mean k j ∧ mean k j ≤ 7 := by
 have key : ∀ l ∈ [[1, 0, 0, 0], [1, 1, 5, 0], [1, 4, 1, 5], [2, 1, 5, 0], [2, 0, 0, 0], [2, 5, 0, 0], [1, 3, 6, 7], [2, 3, 0, 0], [2, 3, 7, 0], [2, 3, 7, 7], [(0 : Int), 0, 0, 0]], ∀ x ∈ l, 0 ≤ x ∧ x ≤ 7 := by decide
 have hs : shp k ∈ [[1, 0, 0, 0], [1, 1, 5, 0], [1, 4, 1, 5], [2, 1, 5, 0], [2, 0, 0, 0], [2, 5, 0, 0], [1, 3, 6, 7], [2, 3, 0, 0], [2, 3, 7, 0], [2, 3, 7, 7], [(0 : Int), 0, 0, 0]] := by
  unfold shp
  repeat (first | (split; · simp) | simp)
 unfold mean
 rw [List.getD_eq_getElem?_getD]
 cases hx : (shp k)[j]? with
 | none => simp
 | some x => exact key _ hs x (List.mem_of_getElem? hx)
theorem shape_1 (w : World) : Calls Tryz.prog 96 #[.int .i64 1] w fun e w' => e = .returned (.tuple #[.agg #[.int .i64 1, .int .i64 0, .int .i64 0, .int .i64 0], .bool true]) ∧ Below w.heap.size w w' := by
 go_enter Tryz.func96, Tryz.ntmps96
 go_wp2
 refine bodyPost_ret (v := .tuple #[.agg #[.int .i64 1, .int .i64 0, .int .i64 0, .int .i64 0], .bool true]) (by simp [results, Tryz.results96, go_sem]) rfl ⟨rfl, ?_⟩
 exact (Below.refl _ _).alloc (Nat.le_refl _) _
theorem shape_2 (w : World) : Calls Tryz.prog 96 #[.int .i64 2] w fun e w' => e = .returned (.tuple #[.agg #[.int .i64 1, .int .i64 1, .int .i64 5, .int .i64 0], .bool true]) ∧ Below w.heap.size w w' := by
 go_enter Tryz.func96, Tryz.ntmps96
 go_wp2
 refine bodyPost_ret (v := .tuple #[.agg #[.int .i64 1, .int .i64 1, .int .i64 5, .int .i64 0], .bool true]) (by simp [results, Tryz.results96, go_sem]) rfl ⟨rfl, ?_⟩
 exact (Below.refl _ _).alloc (Nat.le_refl _) _
theorem shape_3 (w : World) : Calls Tryz.prog 96 #[.int .i64 3] w fun e w' => e = .returned (.tuple #[.agg #[.int .i64 1, .int .i64 4, .int .i64 1, .int .i64 5], .bool true]) ∧ Below w.heap.size w w' := by
 go_enter Tryz.func96, Tryz.ntmps96
 go_wp2
 refine bodyPost_ret (v := .tuple #[.agg #[.int .i64 1, .int .i64 4, .int .i64 1, .int .i64 5], .bool true]) (by simp [results, Tryz.results96, go_sem]) rfl ⟨rfl, ?_⟩
 exact (Below.refl _ _).alloc (Nat.le_refl _) _
theorem shape_4 (w : World) : Calls Tryz.prog 96 #[.int .i64 4] w fun e w' => e = .returned (.tuple #[.agg #[.int .i64 1, .int .i64 0, .int .i64 0, .int .i64 0], .bool true]) ∧ Below w.heap.size w w' := by
 go_enter Tryz.func96, Tryz.ntmps96
 go_wp2
 refine bodyPost_ret (v := .tuple #[.agg #[.int .i64 1, .int .i64 0, .int .i64 0, .int .i64 0], .bool true]) (by simp [results, Tryz.results96, go_sem]) rfl ⟨rfl, ?_⟩
 exact (Below.refl _ _).alloc (Nat.le_refl _) _
theorem shape_5 (w : World) : Calls Tryz.prog 96 #[.int .i64 5] w fun e w' => e = .returned (.tuple #[.agg #[.int .i64 1, .int .i64 0, .int .i64 0, .int .i64 0], .bool true]) ∧ Below w.heap.size w w' := by
 go_enter Tryz.func96, Tryz.ntmps96
 go_wp2
 refine bodyPost_ret (v := .tuple #[.agg #[.int .i64 1, .int .i64 0, .int .i64 0, .int .i64 0], .bool true]) (by simp [results, Tryz.results96, go_sem]) rfl ⟨rfl, ?_⟩
 exact (Below.refl _ _).alloc (Nat.le_refl _) _
theorem shape_6 (w : World) : Calls Tryz.prog 96 #[.int .i64 6] w fun e w' => e = .returned (.tuple #[.agg #[.int .i64 2, .int .i64 1, .int .i64 5, .int .i64 0], .bool true]) ∧ Below w.heap.size w w' := by
 go_enter Tryz.func96, Tryz.ntmps96
 go_wp2
 refine bodyPost_ret (v := .tuple #[.agg #[.int .i64 2, .int .i64 1, .int .i64 5, .int .i64 0], .bool true]) (by simp [results, Tryz.results96, go_sem]) rfl ⟨rfl, ?_⟩
 exact (Below.refl _ _).alloc (Nat.le_refl _) _
theorem shape_7 (w : World) : Calls Tryz.prog 96 #[.int .i64 7] w fun e w' => e = .returned (.tuple #[.agg #[.int .i64 2, .int .i64 0, .int .i64 0, .int .i64 0], .bool true]) ∧ Below w.heap.size w w' := by
 go_enter Tryz.func96, Tryz.ntmps96
 go_wp2
 refine bodyPost_ret (v := .tuple #[.agg #[.int .i64 2, .int .i64 0, .int .i64 0, .int .i64 0], .bool true]) (by simp [results, Tryz.results96, go_sem]) rfl ⟨rfl, ?_⟩
 exact (Below.refl _ _).alloc (Nat.le_refl _) _
theorem shape_8 (w : World) : Calls Tryz.prog 96 #[.int .i64 8] w fun e w' => e = .returned (.tuple #[.agg #[.int .i64 2, .int .i64 5, .int .i64 0, .int .i64 0], .bool true]) ∧ Below w.heap.size w w' := by
 go_enter Tryz.func96, Tryz.ntmps96
 go_wp2
 refine bodyPost_ret (v := .tuple #[.agg #[.int .i64 2, .int .i64 5, .int .i64 0, .int .i64 0], .bool true]) (by simp [results, Tryz.results96, go_sem]) rfl ⟨rfl, ?_⟩
 exact (Below.refl _ _).alloc (Nat.le_refl _) _
theorem shape_9 (w : World) : Calls Tryz.prog 96 #[.int .i64 9] w fun e w' => e = .returned (.tuple #[.agg #[.int .i64 1, .int .i64 3, .int .i64 6, .int .i64 7], .bool true]) ∧ Below w.heap.size w w' := by
 go_enter Tryz.func96, Tryz.ntmps96
 go_wp2
 refine bodyPost_ret (v := .tuple #[.agg #[.int .i64 1, .int .i64 3, .int .i64 6, .int .i64 7], .bool true]) (by simp [results, Tryz.results96, go_sem]) rfl ⟨rfl, ?_⟩
 exact (Below.refl _ _).alloc (Nat.le_refl _) _
theorem shape_10 (w : World) : Calls Tryz.prog 96 #[.int .i64 10] w fun e w' => e = .returned (.tuple #[.agg #[.int .i64 0, .int .i64 0, .int .i64 0, .int .i64 0], .bool true]) ∧ Below w.heap.size w w' := by
 go_enter Tryz.func96, Tryz.ntmps96
 go_wp2
 refine bodyPost_ret (v := .tuple #[.agg #[.int .i64 0, .int .i64 0, .int .i64 0, .int .i64 0], .bool true]) (by simp [results, Tryz.results96, go_sem]) rfl ⟨rfl, ?_⟩
 exact (Below.refl _ _).alloc (Nat.le_refl _) _
theorem shape_20 (w : World) : Calls Tryz.prog 96 #[.int .i64 20] w fun e w' => e = .returned (.tuple #[.agg #[.int .i64 2, .int .i64 3, .int .i64 0, .int .i64 0], .bool true]) ∧ Below w.heap.size w w' := by
 go_enter Tryz.func96, Tryz.ntmps96
 go_wp2
 refine bodyPost_ret (v := .tuple #[.agg #[.int .i64 2, .int .i64 3, .int .i64 0, .int .i64 0], .bool true]) (by simp [results, Tryz.results96, go_sem]) rfl ⟨rfl, ?_⟩
 exact (Below.refl _ _).alloc (Nat.le_refl _) _
theorem shape_21 (w : World) : Calls Tryz.prog 96 #[.int .i64 21] w fun e w' => e = .returned (.tuple #[.agg #[.int .i64 2, .int .i64 3, .int .i64 7, .int .i64 0], .bool true]) ∧ Below w.heap.size w w' := by
 go_enter Tryz.func96, Tryz.ntmps96
 go_wp2
 refine bodyPost_ret (v := .tuple #[.agg #[.int .i64 2, .int .i64 3, .int .i64 7, .int .i64 0], .bool true]) (by simp [results, Tryz.results96, go_sem]) rfl ⟨rfl, ?_⟩
 exact (Below.refl _ _).alloc (Nat.le_refl _) _
theorem shape_22 (w : World) : Calls Tryz.prog 96 #[.int .i64 22] w fun e w' => e = .returned (.tuple #[.agg #[.int .i64 2, .int .i64 3, .int .i64 7, .int .i64 7], .bool true]) ∧ Below w.heap.size w w' := by
 go_enter Tryz.func96, Tryz.ntmps96
 go_wp2
 refine bodyPost_ret (v := .tuple #[.agg #[.int .i64 2, .int .i64 3, .int .i64 7, .int .i64 7], .bool true]) (by simp [results, Tryz.results96, go_sem]) rfl ⟨rfl, ?_⟩
 exact (Below.refl _ _).alloc (Nat.le_refl _) _
theorem shape_23 (w : World) : Calls Tryz.prog 96 #[.int .i64 23] w fun e w' => e = .returned (.tuple #[.agg #[.int .i64 2, .int .i64 3, .int .i64 7, .int .i64 0], .bool true]) ∧ Below w.heap.size w w' := by
 go_enter Tryz.func96, Tryz.ntmps96
 go_wp2
 refine bodyPost_ret (v := .tuple #[.agg #[.int .i64 2, .int .i64 3, .int .i64 7, .int .i64 0], .bool true]) (by simp [results, Tryz.results96, go_sem]) rfl ⟨rfl, ?_⟩
 exact (Below.refl _ _).alloc (Nat.le_refl _) _
theorem shape_none (k : Int) (h : isKind k = false) (w : World) : Calls Tryz.prog 96 #[.int .i64 k] w fun e w' => e = .returned (.tuple #[.agg #[.int .i64 0, .int .i64 0, .int .i64 0, .int .i64 0], .bool false]) ∧ Below w.heap.size w w' := by
 obtain ⟨h1, h2, h3, h4, h5, h6, h7, h8, h9, h10, h11, h12, h13, h14⟩ := kind_no h
 clear h
 go_enter Tryz.func96, Tryz.ntmps96
 go_wp2
 refine bodyPost_ret (v := .tuple #[.agg #[.int .i64 0, .int .i64 0, .int .i64 0, .int .i64 0], .bool false]) (by simp [results, Tryz.results96, go_sem]) rfl ⟨rfl, ?_⟩
 exact (Below.refl _ _).alloc (Nat.le_refl _) _
theorem shape_any (k : Int) (w : World) : Calls Tryz.prog 96 #[.int .i64 k] w fun e w' => e = .returned (.tuple #[.agg #[.int .i64 (mean k 0), .int .i64 (mean k 1), .int .i64 (mean k 2), .int .i64 (mean k 3)], .bool (isKind k)]) ∧ Below w.heap.size w w' := by
 rcases Bool.eq_false_or_eq_true (isKind k) with h | h
 ·rcases kind_cases h with rfl | rfl | rfl | rfl | rfl | rfl | rfl | rfl | rfl | rfl | rfl | rfl | rfl | rfl
  ·exact shape_1 w
  ·exact shape_2 w
  ·exact shape_3 w
  ·exact shape_4 w
  ·exact shape_5 w
  ·exact shape_6 w
  ·exact shape_7 w
  ·exact shape_8 w
  ·exact shape_9 w
  ·exact shape_10 w
  ·exact shape_20 w
  ·exact shape_21 w
  ·exact shape_22 w
  ·exact shape_23 w
 ·rw [h]
  have e : mean k 0 = 0 ∧ mean k 1 = 0 ∧ mean k 2 = 0 ∧ mean k 3 = 0 := by
   unfold mean
   rw [shp_no h]
   exact ⟨rfl, rfl, rfl, rfl⟩
  rw [e.1, e.2.1, e.2.2.1, e.2.2.2]
  exact shape_none k h w
def belowN (x m : Int) : Int := if 0 ≤ m ∧ x < m then x else 0
def belowB (x m : Int) : Bool := decide (0 ≤ m ∧ x < m)
def rightsN (x : Int) : Int := if 1 ≤ x ∧ x ≤ 3 then x else 0
def rightsB (x : Int) : Bool := decide (1 ≤ x ∧ x ≤ 3)
theorem below_any (x m : Int) (h0 : 0 ≤ x) (h1 : x < 18446744073709551616) (hm : -9223372036854775808 ≤ m) (hm2 : m ≤ 9223372036854775807) (w : World) :
  Calls Tryz.prog 132 #[.int .u64 x, .int .i64 m] w fun e w' => e = .returned (.tuple #[.int .i64 (belowN x m), .bool (belowB x m)]) ∧ w = w' := by
 unfold belowN belowB
 by_cases h2 : 0 ≤ m
 ·by_cases h3 : x < m
  ·rw [if_pos ⟨h2, h3⟩, decide_eq_true ⟨h2, h3⟩]
   go_enter Tryz.func132, Tryz.ntmps132
   go_wp2
   go_ret2
   exact ⟨rfl, rfl⟩
  ·rw [if_neg (fun h => h3 h.2), decide_eq_false (fun h => h3 h.2)]
   go_enter Tryz.func132, Tryz.ntmps132
   go_wp2
   go_ret2
   exact ⟨rfl, rfl⟩
 ·rw [if_neg (fun h => h2 h.1), decide_eq_false (fun h => h2 h.1)]
  go_enter Tryz.func132, Tryz.ntmps132
  go_wp2
  go_ret2
  exact ⟨rfl, rfl⟩
theorem rights_any (x : Int) (h0 : 0 ≤ x) (h1 : x < 18446744073709551616) (w : World) :
  Calls Tryz.prog 151 #[.int .u64 x] w fun e w' => e = .returned (.tuple #[.int .i64 (rightsN x), .bool (rightsB x)]) ∧ w = w' := by
 unfold rightsN rightsB
 by_cases h2 : 1 ≤ x
 ·by_cases h3 : x ≤ 3
  ·rw [if_pos ⟨h2, h3⟩, decide_eq_true ⟨h2, h3⟩]
   go_enter Tryz.func151, Tryz.ntmps151
   go_wp2
   go_ret2
   exact ⟨rfl, rfl⟩
  ·rw [if_neg (fun h => h3 h.2), decide_eq_false (fun h => h3 h.2)]
   go_enter Tryz.func151, Tryz.ntmps151
   go_wp2
   go_ret2
   exact ⟨rfl, rfl⟩
 ·rw [if_neg (fun h => h2 h.1), decide_eq_false (fun h => h2 h.1)]
  go_enter Tryz.func151, Tryz.ntmps151
  go_wp2
  go_ret2
  exact ⟨rfl, rfl⟩
def userB (k : Int) : Bool := decide (20 ≤ k) && decide (k ≤ 23)
theorem user_any (k : Int) (w : World) : Calls Tryz.prog 131 #[.int .i64 k] w fun e w' => e = .returned (.bool (userB k)) ∧ w = w' := by
 unfold userB
 by_cases h1 : 20 ≤ k
 all_goals by_cases h2 : k ≤ 23
 all_goals
  go_enter Tryz.func131, Tryz.ntmps131
  go_wp2
  go_ret
  simp [h1, h2]
def mayW (m x envs : Int) : Bool :=
 if m = 1 ∨ m = 2 then belowB x 8 else if m = 3 then belowB x 16 else if m = 4 then belowB x envs else if m = 5 then rightsB x else if m = 6 then decide (1 ≤ x ∧ x ≤ 4) else true
theorem means_any (m x envs : Int) (hm : 0 ≤ m) (hm7 : m ≤ 7) (h0 : 0 ≤ x) (h1 : x < 18446744073709551616) (he : -9223372036854775808 ≤ envs) (he2 : envs ≤ 9223372036854775807) (w : World) :
  Calls Tryz.prog 97 #[.int .i64 m, .int .u64 x, .int .i64 envs] w fun e w' => e = .returned (.bool (mayW m x envs)) ∧ w = w' := by
 have hc : m = 0 ∨ m = 1 ∨ m = 2 ∨ m = 3 ∨ m = 4 ∨ m = 5 ∨ m = 6 ∨ m = 7 := by omega
 clear hm hm7
 rcases hc with rfl | rfl | rfl | rfl | rfl | rfl | rfl | rfl
 ·go_enter Tryz.func97, Tryz.ntmps97
  go_wp2
  go_ret
  exact ⟨rfl, rfl⟩
 ·go_enter Tryz.func97, Tryz.ntmps97
  go_wp2_with (go_at_call 132; refine (below_any x 8 h0 h1 (by omega) (by omega) _).mono ?_; rintro e w' ⟨rfl, rfl⟩)
  go_ret
  exact ⟨rfl, rfl⟩
 ·go_enter Tryz.func97, Tryz.ntmps97
  go_wp2_with (go_at_call 132; refine (below_any x 8 h0 h1 (by omega) (by omega) _).mono ?_; rintro e w' ⟨rfl, rfl⟩)
  go_ret
  exact ⟨rfl, rfl⟩
 ·go_enter Tryz.func97, Tryz.ntmps97
  go_wp2_with (go_at_call 132; refine (below_any x 16 h0 h1 (by omega) (by omega) _).mono ?_; rintro e w' ⟨rfl, rfl⟩)
  go_ret
  exact ⟨rfl, rfl⟩
 ·go_enter Tryz.func97, Tryz.ntmps97
  go_wp2_with (go_at_call 132; refine (below_any x envs h0 h1 he he2 _).mono ?_; rintro e w' ⟨rfl, rfl⟩)
  go_ret
  exact ⟨rfl, rfl⟩
 ·go_enter Tryz.func97, Tryz.ntmps97
  go_wp2_with (go_at_call 151; refine (rights_any x h0 h1 _).mono ?_; rintro e w' ⟨rfl, rfl⟩)
  go_ret
  exact ⟨rfl, rfl⟩
 ·by_cases h2 : 1 ≤ x
  all_goals by_cases h3 : x ≤ 4
  all_goals
   go_enter Tryz.func97, Tryz.ntmps97
   go_wp2
   go_ret
   exact ⟨by simp [mayW, h2, h3], rfl⟩
 ·go_enter Tryz.func97, Tryz.ntmps97
  go_wp2
  go_ret
  exact ⟨rfl, rfl⟩
end Go.Proofs.YtdfhfmdelinemaaGreatDoor
namespace Go.Proofs.YtdfhfmdelinemaaGreatDoor
open Go.RowKit Go.Extern.Stop Go.Stop Go.Extern
abbrev callV (x0 x1 x2 x3 x4 : Int) : Value := .agg #[.int .u64 x0, .int .u64 x1, .int .u64 x2, .int .u64 x3, .int .u64 x4]
def kindN (x : Int) : Int := if isKind x = true then x else 0
theorem Kind_yes (x0 x1 x2 x3 x4 : Int) (h : isKind x0 = true) (w : World) :
  Calls Tryz.prog 85 #[callV x0 x1 x2 x3 x4] w fun e w' => e = .returned (.tuple #[.int .i64 x0, .bool true]) ∧ Below w.heap.size w w' := by
 have hc := kind_cases h
 have h0 : 0 ≤ x0 := by omega
 have h1 : x0 < 100 := by omega
 have HS := fun W => shape_any x0 W
 rw [h] at HS
 have H := Lib.hid HS
 clear hc HS h
 go_enter Tryz.func85, Tryz.ntmps85
 go_wp2_with (go_at_call 96; refine (H.out _).mono ?_; rintro e w1 ⟨rfl, hb1⟩; have B1 := Lib.hid (bl_alloc (Below.refl _ _) hb1); clear hb1)
 go_ret2
 exact ⟨rfl, B1.out.alloc B1.out.size _⟩
theorem Kind_no_lo (x0 x1 x2 x3 x4 : Int) (h : isKind x0 = false) (h0 : 0 ≤ x0) (h1 : x0 ≤ 9223372036854775807) (w : World) :
  Calls Tryz.prog 85 #[callV x0 x1 x2 x3 x4] w fun e w' => e = .returned (.tuple #[.int .i64 0, .bool false]) ∧ Below w.heap.size w w' := by
 have HS := fun W => shape_none x0 h W
 have H := Lib.hid HS
 clear HS h
 go_enter Tryz.func85, Tryz.ntmps85
 go_wp2_with (go_at_call 96; refine (H.out _).mono ?_; rintro e w1 ⟨rfl, hb1⟩; have B1 := Lib.hid (bl_alloc (Below.refl _ _) hb1); clear hb1)
 go_ret2
 exact ⟨rfl, B1.out.alloc B1.out.size _⟩
theorem Kind_no_hi (x0 x1 x2 x3 x4 : Int) (h0 : 9223372036854775807 < x0) (h1 : x0 < 18446744073709551616) (w : World) :
  Calls Tryz.prog 85 #[callV x0 x1 x2 x3 x4] w fun e w' => e = .returned (.tuple #[.int .i64 0, .bool false]) ∧ Below w.heap.size w w' := by
 have hk : isKind (wrap64 x0) = false := by
  simp only [isKind, decide_eq_false_iff_not, wrap64]
  omega
 have HS := fun W => shape_none (wrap64 x0) hk W
 have H := Lib.hid HS
 clear HS hk
 go_enter Tryz.func85, Tryz.ntmps85
 go_wp2_with (go_at_call 96; refine (H.out _).mono ?_; rintro e w1 ⟨rfl, hb1⟩; have B1 := Lib.hid (bl_alloc (Below.refl _ _) hb1); clear hb1)
 go_ret2
 exact ⟨rfl, B1.out.alloc B1.out.size _⟩
theorem Kind_any (x0 x1 x2 x3 x4 : Int) (h0 : 0 ≤ x0) (h1 : x0 < 18446744073709551616) (w : World) :
  Calls Tryz.prog 85 #[callV x0 x1 x2 x3 x4] w fun e w' => e = .returned (.tuple #[.int .i64 (kindN x0), .bool (isKind x0)]) ∧ Below w.heap.size w w' := by
 unfold kindN
 rcases Bool.eq_false_or_eq_true (isKind x0) with h | h
 ·rw [h, if_pos rfl]
  exact Kind_yes x0 x1 x2 x3 x4 h w
 ·rw [h, if_neg (by simp)]
  by_cases h2 : x0 ≤ 9223372036854775807
  ·exact Kind_no_lo x0 x1 x2 x3 x4 h h0 h2 w
  ·exact Kind_no_hi x0 x1 x2 x3 x4 (by omega) h1 w
theorem ref_Kind_any (x0 x1 x2 x3 x4 : Int) (h0 : 0 ≤ x0) (h1 : x0 < 18446744073709551616) (w : World) :
  Calls Tryz.prog 51 #[callV x0 x1 x2 x3 x4] w fun e w' => e = .returned (.tuple #[.int .i64 (kindN x0), .bool (isKind x0)]) ∧ Below w.heap.size w w' := by
 unfold kindN
 rcases Bool.eq_false_or_eq_true (isKind x0) with h | h
 ·rw [h, if_pos rfl]
  have hc := kind_cases h
  clear h h0 h1
  rcases hc with rfl | rfl | rfl | rfl | rfl | rfl | rfl | rfl | rfl | rfl | rfl | rfl | rfl | rfl
  all_goals
   go_enter Tryz.func51, Tryz.ntmps51
   go_wp2
   go_ret2
   exact ⟨rfl, (Below.refl _ _).alloc (Nat.le_refl _) _⟩
 ·rw [h, if_neg (by simp)]
  simp only [isKind, decide_eq_false_iff_not] at h
  by_cases h2 : x0 ≤ 0
  ·obtain rfl : x0 = 0 := by omega
   clear h h0 h1 h2
   go_enter Tryz.func51, Tryz.ntmps51
   go_wp2
   go_ret2
   exact ⟨rfl, (Below.refl _ _).alloc (Nat.le_refl _) _⟩
  by_cases h3 : x0 < 20
  ·have h4 : 10 < x0 := by omega
   have h5 : 1 ≤ x0 := by omega
   clear h h2
   go_enter Tryz.func51, Tryz.ntmps51
   go_wp2
   go_ret2
   exact ⟨rfl, (Below.refl _ _).alloc (Nat.le_refl _) _⟩
  ·have h4 : 23 < x0 := by omega
   have h5 : 1 ≤ x0 := by omega
   have h6 : 10 < x0 := by omega
   have h7 : 20 ≤ x0 := by omega
   clear h h2 h3
   go_enter Tryz.func51, Tryz.ntmps51
   go_wp2
   go_ret2
   exact ⟨rfl, (Below.refl _ _).alloc (Nat.le_refl _) _⟩
def cnt4 (m0 m1 m2 m3 : Int) (i : Nat) : Nat := (([m0, m1, m2, m3].take i).filter fun m => m != 0).length
theorem cnt4_le (m0 m1 m2 m3 : Int) (i : Nat) : cnt4 m0 m1 m2 m3 i ≤ 4 :=
 Nat.le_trans (List.length_filter_le _ _) (by simp; omega)
theorem cnt4_0 (m0 m1 m2 m3 : Int) : cnt4 m0 m1 m2 m3 1 = cnt4 m0 m1 m2 m3 0 + if (m0 != 0) = true then 1 else 0 := by
 unfold cnt4; by_cases h : m0 = 0 <;> simp [h]
theorem cnt4_1 (m0 m1 m2 m3 : Int) : cnt4 m0 m1 m2 m3 2 = cnt4 m0 m1 m2 m3 1 + if (m1 != 0) = true then 1 else 0 := by
 unfold cnt4; by_cases h0 : m0 = 0 <;> by_cases h : m1 = 0 <;> simp [h0, h]
theorem cnt4_2 (m0 m1 m2 m3 : Int) : cnt4 m0 m1 m2 m3 3 = cnt4 m0 m1 m2 m3 2 + if (m2 != 0) = true then 1 else 0 := by
 unfold cnt4; by_cases h0 : m0 = 0 <;> by_cases h1 : m1 = 0 <;> by_cases h : m2 = 0 <;> simp [h0, h1, h]
theorem cnt4_3 (m0 m1 m2 m3 : Int) : cnt4 m0 m1 m2 m3 4 = cnt4 m0 m1 m2 m3 3 + if (m3 != 0) = true then 1 else 0 := by
 unfold cnt4; by_cases h0 : m0 = 0 <;> by_cases h1 : m1 = 0 <;> by_cases h2 : m2 = 0 <;> by_cases h : m3 = 0 <;> simp [h0, h1, h2, h]
theorem Tryz.shapeAt0 (m0 m1 m2 m3 : Int) (w : World) : (Instr.index 179 (.agg #[.int .i64 m0, .int .i64 m1, .int .i64 m2, .int .i64 m3]) (.int .i64 0)).run Tryz.prog w = .ok (.int .i64 m0) w := by
 simp [Instr.index, run_underlying Tryz.underlying179, asIntOf, part]
theorem Tryz.shapeAt1 (m0 m1 m2 m3 : Int) (w : World) : (Instr.index 179 (.agg #[.int .i64 m0, .int .i64 m1, .int .i64 m2, .int .i64 m3]) (.int .i64 1)).run Tryz.prog w = .ok (.int .i64 m1) w := by
 simp [Instr.index, run_underlying Tryz.underlying179, asIntOf, part]
theorem Tryz.shapeAt2 (m0 m1 m2 m3 : Int) (w : World) : (Instr.index 179 (.agg #[.int .i64 m0, .int .i64 m1, .int .i64 m2, .int .i64 m3]) (.int .i64 2)).run Tryz.prog w = .ok (.int .i64 m2) w := by
 simp [Instr.index, run_underlying Tryz.underlying179, asIntOf, part]
theorem Tryz.shapeAt3 (m0 m1 m2 m3 : Int) (w : World) : (Instr.index 179 (.agg #[.int .i64 m0, .int .i64 m1, .int .i64 m2, .int .i64 m3]) (.int .i64 3)).run Tryz.prog w = .ok (.int .i64 m3) w := by
 simp [Instr.index, run_underlying Tryz.underlying179, asIntOf, part]
set_option maxRecDepth 20000 in
theorem args_of (k m0 m1 m2 m3 : Int) (b : Bool) (H : Hid (∀ W, Calls Tryz.prog 96 #[.int .i64 k] W fun e w' => e = .returned (.tuple #[.agg #[.int .i64 m0, .int .i64 m1, .int .i64 m2, .int .i64 m3], .bool b]) ∧ Below W.heap.size W w')) (w : World) :
  Calls Tryz.prog 148 #[.int .i64 k] w fun e w' => e = .returned (.int .i64 (cnt4 m0 m1 m2 m3 4 : Nat)) ∧ Below w.heap.size w w' := by
 go_enter Tryz.func148, Tryz.ntmps148
 go_wp2_with (go_at_call 96; refine (H.out _).mono ?_; rintro e w1 ⟨rfl, hb1⟩; have B1 := Lib.hid hb1; clear hb1)
 go_loop [5, 14] (fun n v => ∃ (i : Int) (c : Nat), 0 ≤ i ∧ i ≤ 4 ∧ c ≤ 4 ∧ v = .int .i64 i ∧ n = .int .i64 c ∧ Hid (c = cnt4 m0 m1 m2 m3 i.toNat)) (fun _ v => (4 - intOf v).toNat)
 case atStart => exact ⟨0, 0, by omega, by omega, by omega, rfl, rfl, rfl⟩
 case round =>
  obtain ⟨i, c, hi0, hi, hc4, rfl, rfl, hn⟩ := hrel
  have hc : i = 0 ∨ i = 1 ∨ i = 2 ∨ i = 3 ∨ i = 4 := by omega
  clear hi0 hi
  rcases hc with rfl | rfl | rfl | rfl | rfl
  ·have HC := Lib.hid (cnt4_0 m0 m1 m2 m3)
   have hx := Tryz.shapeAt0 m0 m1 m2 m3
   by_cases h : m0 = 0
   ·subst h
    go_wp2_with fail
    go_round
    case rel => exact ⟨1, c, by omega, by omega, by omega, rfl, rfl, by refine Eq.trans hn.out (Eq.trans ?_ HC.out.symm); simp⟩
    case measure => simp [intOf]
   ·go_wp2_with fail
    go_round
    case rel => exact ⟨1, c + 1, by omega, by omega, by have := cnt4_le m0 m1 m2 m3 1; rw [HC.out] at this; simp only [bne_iff_ne, ne_eq, h, not_false_eq_true, if_true] at this; have h9 : c = cnt4 m0 m1 m2 m3 _ := hn.out; simp at h9; omega, rfl, by go_num, by refine Eq.trans (congrArg (· + 1) hn.out) (Eq.trans ?_ HC.out.symm); simp [h]⟩
    case measure => simp [intOf]
  ·have HC := Lib.hid (cnt4_1 m0 m1 m2 m3)
   have hx := Tryz.shapeAt1 m0 m1 m2 m3
   by_cases h : m1 = 0
   ·subst h
    go_wp2_with fail
    go_round
    case rel => exact ⟨2, c, by omega, by omega, by omega, rfl, rfl, by refine Eq.trans hn.out (Eq.trans ?_ HC.out.symm); simp⟩
    case measure => simp [intOf]
   ·go_wp2_with fail
    go_round
    case rel => exact ⟨2, c + 1, by omega, by omega, by have := cnt4_le m0 m1 m2 m3 2; rw [HC.out] at this; simp only [bne_iff_ne, ne_eq, h, not_false_eq_true, if_true] at this; have h9 : c = cnt4 m0 m1 m2 m3 _ := hn.out; simp at h9; omega, rfl, by go_num, by refine Eq.trans (congrArg (· + 1) hn.out) (Eq.trans ?_ HC.out.symm); simp [h]⟩
    case measure => simp [intOf]
  ·have HC := Lib.hid (cnt4_2 m0 m1 m2 m3)
   have hx := Tryz.shapeAt2 m0 m1 m2 m3
   by_cases h : m2 = 0
   ·subst h
    go_wp2_with fail
    go_round
    case rel => exact ⟨3, c, by omega, by omega, by omega, rfl, rfl, by refine Eq.trans hn.out (Eq.trans ?_ HC.out.symm); simp⟩
    case measure => simp [intOf]
   ·go_wp2_with fail
    go_round
    case rel => exact ⟨3, c + 1, by omega, by omega, by have := cnt4_le m0 m1 m2 m3 3; rw [HC.out] at this; simp only [bne_iff_ne, ne_eq, h, not_false_eq_true, if_true] at this; have h9 : c = cnt4 m0 m1 m2 m3 _ := hn.out; simp at h9; omega, rfl, by go_num, by refine Eq.trans (congrArg (· + 1) hn.out) (Eq.trans ?_ HC.out.symm); simp [h]⟩
    case measure => simp [intOf]
  ·have HC := Lib.hid (cnt4_3 m0 m1 m2 m3)
   have hx := Tryz.shapeAt3 m0 m1 m2 m3
   by_cases h : m3 = 0
   ·subst h
    go_wp2_with fail
    go_round
    case rel => exact ⟨4, c, by omega, by omega, by omega, rfl, rfl, by refine Eq.trans hn.out (Eq.trans ?_ HC.out.symm); simp⟩
    case measure => simp [intOf]
   ·go_wp2_with fail
    go_round
    case rel => exact ⟨4, c + 1, by omega, by omega, by have := cnt4_le m0 m1 m2 m3 4; rw [HC.out] at this; simp only [bne_iff_ne, ne_eq, h, not_false_eq_true, if_true] at this; have h9 : c = cnt4 m0 m1 m2 m3 _ := hn.out; simp at h9; omega, rfl, by go_num, by refine Eq.trans (congrArg (· + 1) hn.out) (Eq.trans ?_ HC.out.symm); simp [h]⟩
    case measure => simp [intOf]
  ·go_wp2_with fail
   go_ret
   exact ⟨by rw [show cnt4 m0 m1 m2 m3 4 = c from hn.out.symm]; rfl, B1.out.alloc B1.out.size _⟩
def argsN (k : Int) : Int := ((cnt4 (mean k 0) (mean k 1) (mean k 2) (mean k 3) 4 : Nat) : Int)
theorem Args_any (k : Int) (w : World) : Calls Tryz.prog 148 #[.int .i64 k] w fun e w' => e = .returned (.int .i64 (argsN k)) ∧ Below w.heap.size w w' :=
 args_of k _ _ _ _ _ (fun W => shape_any k W) w
theorem Arg_in (x0 x1 x2 x3 x4 m : Int) (h1 : 0 ≤ x1 ∧ x1 < 18446744073709551616) (h2 : 0 ≤ x2 ∧ x2 < 18446744073709551616) (h3 : 0 ≤ x3 ∧ x3 < 18446744073709551616) (h4 : 0 ≤ x4 ∧ x4 < 18446744073709551616)
  (hm : -9223372036854775808 ≤ m) (hm2 : m ≤ 9223372036854775807) (i : Nat) (hi : i < 4) (w : World) :
  Calls Tryz.prog 86 #[callV x0 x1 x2 x3 x4, .int .i64 ((i : Int) + 1), .int .i64 m] w fun e w' => e = .returned (.tuple #[.int .i64 (belowN ([x1, x2, x3, x4].getD i 0) m), .bool (belowB ([x1, x2, x3, x4].getD i 0) m)]) ∧ Below w.heap.size w w' := by
 have hc : i = 0 ∨ i = 1 ∨ i = 2 ∨ i = 3 := by omega
 rcases hc with rfl | rfl | rfl | rfl
 ·have H := fun W => below_any x1 m h1.1 h1.2 hm hm2 W
  show Calls Tryz.prog 86 #[callV x0 x1 x2 x3 x4, .int .i64 1, .int .i64 m] w fun e w' => e = .returned (.tuple #[.int .i64 (belowN x1 m), .bool (belowB x1 m)]) ∧ Below w.heap.size w w'
  have HH := Lib.hid H
  clear h1 h2 h3 h4 H
  go_enter Tryz.func86, Tryz.ntmps86
  go_wp2_with (go_at_call 132; refine (HH.out _).mono ?_; rintro e w' ⟨rfl, rfl⟩)
  go_ret2
  exact ⟨rfl, (Below.refl _ _).alloc (Nat.le_refl _) _⟩
 ·have H := fun W => below_any x2 m h2.1 h2.2 hm hm2 W
  show Calls Tryz.prog 86 #[callV x0 x1 x2 x3 x4, .int .i64 2, .int .i64 m] w fun e w' => e = .returned (.tuple #[.int .i64 (belowN x2 m), .bool (belowB x2 m)]) ∧ Below w.heap.size w w'
  have HH := Lib.hid H
  clear h1 h2 h3 h4 H
  go_enter Tryz.func86, Tryz.ntmps86
  go_wp2_with (go_at_call 132; refine (HH.out _).mono ?_; rintro e w' ⟨rfl, rfl⟩)
  go_ret2
  exact ⟨rfl, (Below.refl _ _).alloc (Nat.le_refl _) _⟩
 ·have H := fun W => below_any x3 m h3.1 h3.2 hm hm2 W
  show Calls Tryz.prog 86 #[callV x0 x1 x2 x3 x4, .int .i64 3, .int .i64 m] w fun e w' => e = .returned (.tuple #[.int .i64 (belowN x3 m), .bool (belowB x3 m)]) ∧ Below w.heap.size w w'
  have HH := Lib.hid H
  clear h1 h2 h3 h4 H
  go_enter Tryz.func86, Tryz.ntmps86
  go_wp2_with (go_at_call 132; refine (HH.out _).mono ?_; rintro e w' ⟨rfl, rfl⟩)
  go_ret2
  exact ⟨rfl, (Below.refl _ _).alloc (Nat.le_refl _) _⟩
 ·have H := fun W => below_any x4 m h4.1 h4.2 hm hm2 W
  show Calls Tryz.prog 86 #[callV x0 x1 x2 x3 x4, .int .i64 4, .int .i64 m] w fun e w' => e = .returned (.tuple #[.int .i64 (belowN x4 m), .bool (belowB x4 m)]) ∧ Below w.heap.size w w'
  have HH := Lib.hid H
  clear h1 h2 h3 h4 H
  go_enter Tryz.func86, Tryz.ntmps86
  go_wp2_with (go_at_call 132; refine (HH.out _).mono ?_; rintro e w' ⟨rfl, rfl⟩)
  go_ret2
  exact ⟨rfl, (Below.refl _ _).alloc (Nat.le_refl _) _⟩
end Go.Proofs.YtdfhfmdelinemaaGreatDoor
namespace Go.Proofs.YtdfhfmdelinemaaGreatDoor
open Go.RowKit Go.Extern.Stop Go.Stop Go.Extern
def pre (b0 b1 b2 b3 : Bool) (n : Nat) : Bool := ([b0, b1, b2, b3].take n).all id
def res4 (b0 b1 b2 b3 : Bool) : Int := if pre b0 b1 b2 b3 4 = true then 0 else 2
theorem pre_4 (b0 b1 b2 b3 : Bool) : pre b0 b1 b2 b3 4 = (b0 && b1 && b2 && b3) := by simp [pre, Bool.and_assoc]
def chkN (x0 x1 x2 x3 x4 envs : Int) : Int :=
 if isKind x0 = true then res4 (mayW (mean x0 0) x1 envs) (mayW (mean x0 1) x2 envs) (mayW (mean x0 2) x3 envs) (mayW (mean x0 3) x4 envs) else 1
def wordsIn (x0 x1 x2 x3 x4 : Int) : Prop := (0 ≤ x0 ∧ x0 < 18446744073709551616) ∧ (0 ≤ x1 ∧ x1 < 18446744073709551616) ∧ (0 ≤ x2 ∧ x2 < 18446744073709551616) ∧ (0 ≤ x3 ∧ x3 < 18446744073709551616) ∧ (0 ≤ x4 ∧ x4 < 18446744073709551616)
def intIn (m : Int) : Prop := -9223372036854775808 ≤ m ∧ m ≤ 9223372036854775807
theorem Kind_is (x0 x1 x2 x3 x4 : Int) (h : isKind x0 = true) (w : World) :
  Calls Tryz.prog 51 #[callV x0 x1 x2 x3 x4] w fun e w' => e = .returned (.tuple #[.int .i64 x0, .bool true]) ∧ Below w.heap.size w w' := by
 have hc := kind_cases h
 have H := ref_Kind_any x0 x1 x2 x3 x4 (by omega) (by omega) w
 rw [show kindN x0 = x0 by simp [kindN, h], h] at H
 exact H
theorem Check_no (x0 x1 x2 x3 x4 envs : Int) (h : isKind x0 = false) (hx : wordsIn x0 x1 x2 x3 x4) (w : World) :
  Calls Tryz.prog 47 #[callV x0 x1 x2 x3 x4, .int .i64 envs] w fun e w' => e = .returned (.int .i64 1) ∧ Below w.heap.size w w' := by
 have HK := fun W => Kind_any x0 x1 x2 x3 x4 hx.1.1 hx.1.2 W
 rw [h] at HK
 have H := Lib.hid HK
 clear HK h hx
 go_enter Tryz.func47, Tryz.ntmps47
 go_wp2_with (go_at_call 85; refine (H.out _).mono ?_; rintro e w1 ⟨rfl, hb1⟩; have B1 := Lib.hid (bl_alloc (Below.refl _ _) hb1); clear hb1)
 go_ret
 exact ⟨rfl, B1.out⟩
theorem ref_Check_no (x0 x1 x2 x3 x4 envs : Int) (h : isKind x0 = false) (hx : wordsIn x0 x1 x2 x3 x4) (w : World) :
  Calls Tryz.prog 50 #[callV x0 x1 x2 x3 x4, .int .i64 envs] w fun e w' => e = .returned (.int .i64 1) ∧ Below w.heap.size w w' := by
 have HK := fun W => ref_Kind_any x0 x1 x2 x3 x4 hx.1.1 hx.1.2 W
 rw [h] at HK
 have H := Lib.hid HK
 clear HK h hx
 go_enter Tryz.func50, Tryz.ntmps50
 go_wp2_with (go_at_call 51; refine (H.out _).mono ?_; rintro e w1 ⟨rfl, hb1⟩; have B1 := Lib.hid (bl_alloc (Below.refl _ _) hb1); clear hb1)
 go_ret
 exact ⟨rfl, B1.out⟩
set_option maxRecDepth 20000 in
set_option maxHeartbeats 1000000 in
theorem check_of (x0 x1 x2 x3 x4 envs m0 m1 m2 m3 : Int) (b0 b1 b2 b3 : Bool) (h : isKind x0 = true)
  (HS : Hid (∀ W, Calls Tryz.prog 96 #[.int .i64 x0] W fun e w' => e = .returned (.tuple #[.agg #[.int .i64 m0, .int .i64 m1, .int .i64 m2, .int .i64 m3], .bool true]) ∧ Below W.heap.size W w'))
  (H0 : Hid (∀ W, Calls Tryz.prog 97 #[.int .i64 m0, .int .u64 x1, .int .i64 envs] W fun e w' => e = .returned (.bool b0) ∧ W = w'))
  (H1 : Hid (∀ W, Calls Tryz.prog 97 #[.int .i64 m1, .int .u64 x2, .int .i64 envs] W fun e w' => e = .returned (.bool b1) ∧ W = w'))
  (H2 : Hid (∀ W, Calls Tryz.prog 97 #[.int .i64 m2, .int .u64 x3, .int .i64 envs] W fun e w' => e = .returned (.bool b2) ∧ W = w'))
  (H3 : Hid (∀ W, Calls Tryz.prog 97 #[.int .i64 m3, .int .u64 x4, .int .i64 envs] W fun e w' => e = .returned (.bool b3) ∧ W = w'))
  (w : World) : Calls Tryz.prog 47 #[callV x0 x1 x2 x3 x4, .int .i64 envs] w fun e w' => e = .returned (.int .i64 (res4 b0 b1 b2 b3)) ∧ Below w.heap.size w w' := by
 have HK := Lib.hid (fun W => Kind_yes x0 x1 x2 x3 x4 h W)
 clear h
 go_enter Tryz.func47, Tryz.ntmps47
 go_wp2_with fail
 refine (HK.out _).mono ?_
 rintro e w1 ⟨rfl, hb1⟩
 have B1 := Lib.hid (bl_alloc (Below.refl _ _) hb1)
 have K1 := Lib.hid (bk_one hb1)
 clear hb1
 go_wp2_with fail
 refine (HS.out _).mono ?_
 rintro e w2 ⟨rfl, hb2⟩
 have B2 := Lib.hid (bl_trans B1.out hb2)
 have K2 := Lib.hid (bk_below K1.out hb2)
 clear hb2
 have lt2 := bk_lt K2.out
 have c0 := bk_cell K2.out 0
 have c1 := bk_cell K2.out 1
 have c2 := bk_cell K2.out 2
 have c3 := bk_cell K2.out 3
 have c4 := bk_cell K2.out 4
 go_wp2_with fail
 go_loop [24] (fun v => ∃ i : Int, 0 ≤ i ∧ i ≤ 4 ∧ v = .int .i64 i ∧ Hid (pre b0 b1 b2 b3 i.toNat = true)) (fun v => (4 - intOf v).toNat)
 case atStart => exact ⟨0, by omega, by omega, rfl, rfl⟩
 case round =>
  obtain ⟨i, hi0, hi, rfl, hp⟩ := hrel
  have hc : i = 0 ∨ i = 1 ∨ i = 2 ∨ i = 3 ∨ i = 4 := by omega
  clear hi0 hi
  rcases hc with rfl | rfl | rfl | rfl | rfl
  ·have hx := Tryz.shapeAt0 m0 m1 m2 m3
   go_wp2_with fail
   refine (H0.out _).mono ?_
   rintro e w' ⟨rfl, rfl⟩
   cases b0
   ·go_wp2_with fail
    go_ret
    exact ⟨by simp [res4, pre], B2.out.alloc B2.out.size _⟩
   ·go_wp2_with fail
    go_round
    case rel => exact ⟨1, by omega, by omega, rfl, by show pre _ _ _ _ 1 = true; simp [pre]⟩
    case measure => simp [intOf]
  ·have hx := Tryz.shapeAt1 m0 m1 m2 m3
   go_wp2_with fail
   refine (H1.out _).mono ?_
   rintro e w' ⟨rfl, rfl⟩
   cases b1
   ·go_wp2_with fail
    go_ret
    exact ⟨by simp [res4, pre], B2.out.alloc B2.out.size _⟩
   ·go_wp2_with fail
    go_round
    case rel => exact ⟨2, by omega, by omega, rfl, by have h1 := hp.out; simp [pre] at h1; show pre _ _ _ _ 2 = true; simp [pre, h1]⟩
    case measure => simp [intOf]
  ·have hx := Tryz.shapeAt2 m0 m1 m2 m3
   go_wp2_with fail
   refine (H2.out _).mono ?_
   rintro e w' ⟨rfl, rfl⟩
   cases b2
   ·go_wp2_with fail
    go_ret
    exact ⟨by simp [res4, pre], B2.out.alloc B2.out.size _⟩
   ·go_wp2_with fail
    go_round
    case rel => exact ⟨3, by omega, by omega, rfl, by have h1 := hp.out; simp [pre] at h1; show pre _ _ _ _ 3 = true; simp [pre, h1]⟩
    case measure => simp [intOf]
  ·have hx := Tryz.shapeAt3 m0 m1 m2 m3
   go_wp2_with fail
   refine (H3.out _).mono ?_
   rintro e w' ⟨rfl, rfl⟩
   cases b3
   ·go_wp2_with fail
    go_ret
    exact ⟨by simp [res4, pre], B2.out.alloc B2.out.size _⟩
   ·go_wp2_with fail
    go_round
    case rel => exact ⟨4, by omega, by omega, rfl, by have h1 := hp.out; simp [pre] at h1; show pre _ _ _ _ 4 = true; simp [pre, h1]⟩
    case measure => simp [intOf]
  ·have h1 : pre b0 b1 b2 b3 4 = true := hp.out
   have h2 : res4 b0 b1 b2 b3 = 0 := by simp [res4, h1]
   have HR := Lib.hid h2
   clear h1 h2
   go_wp2_with fail
   go_ret
   exact ⟨by rw [HR.out]; rfl, B2.out.alloc B2.out.size _⟩
end Go.Proofs.YtdfhfmdelinemaaGreatDoor
namespace Go.Proofs.YtdfhfmdelinemaaGreatDoor
open Go.RowKit Go.Extern.Stop Go.Stop Go.Extern
def MemIs (w : World) (M F n : Nat) (g : Nat → Int) : Prop :=
 M ≠ F ∧ w.cell? ⟨M, 0, none⟩ = some (.slice (some ⟨F, 0, none⟩) n n) ∧ (∀ j, j < n * 16 → w.cell? ⟨F, j, none⟩ = some (.int .u64 (g j))) ∧ (∀ j, w.frozen? ⟨F, j, none⟩ = false) ∧ M < w.heap.size ∧ F < w.heap.size
theorem MemIs.later {w w' : World} {M F n : Nat} {g : Nat → Int} (h : MemIs w M F n g) (hb : Below w.heap.size w w') : MemIs w' M F n g := by
 obtain ⟨h1, h2, h3, h4, h5, h6⟩ := h
 exact ⟨h1, (hb.cell (p := ⟨M, 0, none⟩) h5).trans h2, fun j hj => (hb.cell (p := ⟨F, j, none⟩) h6).trans (h3 j hj), fun j => (hb.frozen (p := ⟨F, j, none⟩) h6).trans (h4 j), Nat.lt_of_lt_of_le h5 hb.size, Nat.lt_of_lt_of_le h6 hb.size⟩
theorem MemIs.set {w : World} {M F n i : Nat} {g : Nat → Int} (h : MemIs w M F n g) (hi : i < n * 16) (u : Int) : MemIs (w.setCell ⟨F, i, none⟩ (.int .u64 u)) M F n (fun j => if j = i then u else g j) := by
 obtain ⟨h1, h2, h3, h4, h5, h6⟩ := h
 refine ⟨h1, ?_, fun j hj => ?_, fun j => ?_, by simpa using h5, by simpa using h6⟩
 ·rw [World.cell?_setCell_other _ _ _ _ (fun e => h1 (congrArg Addr.block e).symm)]
  exact h2
 ·by_cases he : j = i
  ·subst he
   rw [World.cell?_setCell_same _ _ _ (h3 j hj)]
   simp
  ·rw [World.cell?_setCell_other _ _ _ _ (fun e => he (congrArg Addr.off e).symm)]
   simp only [if_neg he]
   exact h3 j hj
 ·rw [World.frozen?_setCell]
  exact h4 j
theorem MemIs.fill {w : World} {M F n f : Nat} {g : Nat → Int} (h : MemIs w M F n g) (hf : f < n) : MemIs (w.setCells F (f * 16) (List.replicate 16 (.int .u64 0))) M F n (fun j => if f * 16 ≤ j ∧ j < f * 16 + 16 then 0 else g j) := by
 obtain ⟨h1, h2, h3, h4, h5, h6⟩ := h
 have hsz : ∀ (l : List Value) (o : Nat) (W : World), (W.setCells F o l).heap.size = W.heap.size := by
  intro l
  induction l with
  | nil => intro o W; rfl
  | cons v r ih => intro o W; rw [World.setCells, ih]; simp
 refine ⟨h1, ?_, fun j hj => ?_, fun j => ?_, by rw [hsz]; exact h5, by rw [hsz]; exact h6⟩
 ·rw [World.cell?_setCells_out _ _ _ _ _ (fun e _ => absurd e h1)]
  exact h2
 ·by_cases he : f * 16 ≤ j ∧ j < f * 16 + 16
  ·have h := World.cell?_setCells_in F (List.replicate 16 (.int .u64 0)) (f * 16) w (fun k hk => by rw [h3 _ (by simp at hk; omega)]; rfl) (j - f * 16) (by simp; omega)
   rw [show f * 16 + (j - f * 16) = j by omega] at h
   rw [h]
   simp only [if_pos he, List.getElem_replicate]
  ·rw [World.cell?_setCells_out _ _ _ _ _ (fun _ _ => by simp; omega)]
   simp only [if_neg he]
   exact h3 j hj
 ·rw [World.frozen?_setCells]
  exact h4 j
theorem bl_fill {w a : World} {F : Nat} (h : Below w.heap.size w a) (hF : w.heap.size ≤ F) (l : List Value) (o : Nat) : Below w.heap.size w (a.setCells F o l) := by
 induction l generalizing a o with
 | nil => exact h
 | cons v r ih => rw [World.setCells]; exact ih (h.setCell hF _) _
theorem frames_any (w : World) (M F n : Nat) (g : Nat → Int) (h : MemIs w M F n g) : Calls Tryz.prog 64 #[.pointer (some ⟨M, 0, none⟩)] w fun e w' => e = .returned (.int .i64 n) ∧ w = w' := by
 have c0 := h.2.1
 go_enter Tryz.func64, Tryz.ntmps64
 go_wp2
 go_ret
 exact ⟨rfl, rfl⟩
theorem at_any (w : World) (M F n f : Nat) (g : Nat → Int) (h : MemIs w M F n g) (hf : f < n) (_hn : n ≤ 16) : Calls Tryz.prog 126 #[.pointer (some ⟨M, 0, none⟩), .int .i64 f] w fun e w' => e = .returned (.pointer (some ⟨F, f * 16, none⟩)) ∧ w = w' := by
 have c0 := h.2.1
 have H := Lib.hid h
 clear h
 go_enter Tryz.func126, Tryz.ntmps126
 go_wp2_with (go_at_call 64; refine (frames_any _ M F n g H.out).mono ?_; rintro e w' ⟨rfl, rfl⟩)
 go_ret
 exact ⟨rfl, rfl⟩
theorem word_any (w : World) (M F n f a : Nat) (g : Nat → Int) (h : MemIs w M F n g) (hf : f < n) (hn : n ≤ 16) (ha : a < 16) : Calls Tryz.prog 160 #[.pointer (some ⟨M, 0, none⟩), .int .i64 f, .int .i64 a] w fun e w' => e = .returned (.pointer (some ⟨F, f * 16 + a, none⟩)) ∧ w = w' := by
 have H := Lib.hid h
 clear h
 go_enter Tryz.func160, Tryz.ntmps160
 go_wp2_with (go_at_call 126; refine (at_any _ M F n f g H.out hf hn).mono ?_; rintro e w' ⟨rfl, rfl⟩)
 go_ret
 exact ⟨rfl, rfl⟩
theorem store_any (w : World) (M F n f a : Nat) (v : Int) (g : Nat → Int) (h : MemIs w M F n g) (hf : f < n) (hn : n ≤ 16) (ha : a < 16) :
  Calls Tryz.prog 121 #[.pointer (some ⟨M, 0, none⟩), .int .i64 f, .int .i64 a, .int .u64 v] w fun e w' => e = .returned (.bool true) ∧ w.setCell ⟨F, f * 16 + a, none⟩ (.int .u64 v) = w' := by
 have c0 := h.2.2.1 (f * 16 + a) (by omega)
 have f0 := h.2.2.2.1 (f * 16 + a)
 have H := Lib.hid h
 clear h
 go_enter Tryz.func121, Tryz.ntmps121
 go_wp2_with (go_at_call 160; refine (word_any _ M F n f a g H.out hf hn ha).mono ?_; rintro e w' ⟨rfl, rfl⟩)
 go_ret
 exact ⟨rfl, rfl⟩
theorem load_any (w : World) (M F n f a : Nat) (v : Int) (g : Nat → Int) (h : MemIs w M F n g) (hf : f < n) (hn : n ≤ 16) (ha : a < 16) (ho : g (f * 16 + a) = v) :
  Calls Tryz.prog 122 #[.pointer (some ⟨M, 0, none⟩), .int .i64 f, .int .i64 a] w fun e w' => e = .returned (.tuple #[.int .u64 v, .bool true]) ∧ w = w' := by
 have c0 := h.2.2.1 (f * 16 + a) (by omega)
 rw [ho] at c0
 have H := Lib.hid h
 clear h ho
 go_enter Tryz.func122, Tryz.ntmps122
 go_wp2_with (go_at_call 160; refine (word_any _ M F n f a g H.out hf hn ha).mono ?_; rintro e w' ⟨rfl, rfl⟩)
 go_ret2
 exact ⟨rfl, rfl⟩
theorem add_any (w : World) (M F n f a : Nat) (x v : Int) (g : Nat → Int) (h : MemIs w M F n g) (hf : f < n) (hn : n ≤ 16) (ha : a < 16) (ho : g (f * 16 + a) = x) :
  Calls Tryz.prog 124 #[.pointer (some ⟨M, 0, none⟩), .int .i64 f, .int .i64 a, .int .u64 v] w fun e w' => e = .returned (.tuple #[.int .u64 x, .bool true]) ∧ w.setCell ⟨F, f * 16 + a, none⟩ (.int .u64 (IntKind.u64.wrap (x + v))) = w' := by
 have c0 := h.2.2.1 (f * 16 + a) (by omega)
 rw [ho] at c0
 have f0 := h.2.2.2.1 (f * 16 + a)
 have H := Lib.hid h
 clear h ho
 go_enter Tryz.func124, Tryz.ntmps124
 go_wp2_with (go_at_call 160; refine (word_any _ M F n f a g H.out hf hn ha).mono ?_; rintro e w' ⟨rfl, rfl⟩)
 go_ret2
 exact ⟨rfl, rfl⟩
theorem cas_yes (w : World) (M F n f a : Nat) (x v : Int) (g : Nat → Int) (h : MemIs w M F n g) (hf : f < n) (hn : n ≤ 16) (ha : a < 16) (ho : g (f * 16 + a) = x) :
  Calls Tryz.prog 123 #[.pointer (some ⟨M, 0, none⟩), .int .i64 f, .int .i64 a, .int .u64 x, .int .u64 v] w fun e w' => e = .returned (.tuple #[.int .u64 x, .bool true]) ∧ w.setCell ⟨F, f * 16 + a, none⟩ (.int .u64 v) = w' := by
 have c0 := h.2.2.1 (f * 16 + a) (by omega)
 rw [ho] at c0
 have f0 := h.2.2.2.1 (f * 16 + a)
 have H := Lib.hid h
 clear h ho
 go_enter Tryz.func123, Tryz.ntmps123
 go_wp2_with (go_at_call 160; refine (word_any _ M F n f a g H.out hf hn ha).mono ?_; rintro e w' ⟨rfl, rfl⟩)
 go_ret2
 exact ⟨rfl, rfl⟩
theorem cas_no (w : World) (M F n f a : Nat) (x y v : Int) (hxy : (x == y) = false) (g : Nat → Int) (h : MemIs w M F n g) (hf : f < n) (hn : n ≤ 16) (ha : a < 16) (ho : g (f * 16 + a) = x) :
  Calls Tryz.prog 123 #[.pointer (some ⟨M, 0, none⟩), .int .i64 f, .int .i64 a, .int .u64 y, .int .u64 v] w fun e w' => e = .returned (.tuple #[.int .u64 x, .bool true]) ∧ w = w' := by
 have c0 := h.2.2.1 (f * 16 + a) (by omega)
 rw [ho] at c0
 have H := Lib.hid h
 clear h ho
 go_enter Tryz.func123, Tryz.ntmps123
 go_wp2_with (go_at_call 160; refine (word_any _ M F n f a g H.out hf hn ha).mono ?_; rintro e w' ⟨rfl, rfl⟩)
 go_ret2
 exact ⟨rfl, rfl⟩
theorem Tryz.wordsInfo : (Tryz.prog.info? 218).map (fun i => (i.zero, i.size, i.bytes)) = some (some (.agg (Array.replicate 16 (.int .u64 0))), 16, 128) := by kernel_rfl
theorem make_words (n : Nat) (hn : n ≤ 16) (cs : Array Value) (hcs : madeCells (Array.replicate 16 (.int .u64 0)) (n * 16) = cs) (w : World) :
  (Instr.makeSlice 151 (.int .i64 (n : Int)) (.int .i64 (n : Int))).run Tryz.prog w = .ok (.slice (some ⟨w.heap.size, 0, none⟩) n n) (w.alloc (.cells cs 218)) := by
 obtain ⟨i, hi, hz⟩ := Option.map_eq_some_iff.1 Tryz.wordsInfo
 simp only [Prod.mk.injEq] at hz
 obtain ⟨hz0, hz1, hz2⟩ := hz
 have h := run_make (P := Tryz.prog) w 151 218 i _ Tryz.underlying151 hi hz0 .i64 .i64 n n (by omega) (by omega) (by rw [hz2]; omega) (by omega)
 rw [hz1] at h
 simp only [Int.toNat_natCast] at h
 rw [h, ← hcs]
 rfl
theorem made_zero (n : Nat) : madeCells (Array.replicate 16 (.int .u64 0)) n = Array.replicate n (.int .u64 0) := by
 unfold madeCells
 apply Array.ext
 ·simp
 ·intro i h1 h2
  have h3 : i % 16 < 16 := Nat.mod_lt _ (by omega)
  simp [h3]
def frameV (g : Nat → Int) (f : Nat) : Array Value := #[.int .u64 (g (f * 16)), .int .u64 (g (f * 16 + 1)), .int .u64 (g (f * 16 + 2)), .int .u64 (g (f * 16 + 3)), .int .u64 (g (f * 16 + 4)), .int .u64 (g (f * 16 + 5)), .int .u64 (g (f * 16 + 6)), .int .u64 (g (f * 16 + 7)), .int .u64 (g (f * 16 + 8)), .int .u64 (g (f * 16 + 9)), .int .u64 (g (f * 16 + 10)), .int .u64 (g (f * 16 + 11)), .int .u64 (g (f * 16 + 12)), .int .u64 (g (f * 16 + 13)), .int .u64 (g (f * 16 + 14)), .int .u64 (g (f * 16 + 15))]
theorem frame_at (g : Nat → Int) (f k : Nat) (hk : k < 16) : (frameV g f)[k]? = some (.int .u64 (g (f * 16 + k))) := by
 have hc : k = 0 ∨ k = 1 ∨ k = 2 ∨ k = 3 ∨ k = 4 ∨ k = 5 ∨ k = 6 ∨ k = 7 ∨ k = 8 ∨ k = 9 ∨ k = 10 ∨ k = 11 ∨ k = 12 ∨ k = 13 ∨ k = 14 ∨ k = 15 := by omega
 rcases hc with rfl | rfl | rfl | rfl | rfl | rfl | rfl | rfl | rfl | rfl | rfl | rfl | rfl | rfl | rfl | rfl <;> rfl
set_option maxRecDepth 20000 in
theorem frame_any (w : World) (M F n f : Nat) (g : Nat → Int) (h : MemIs w M F n g) (hf : f < n) (hn : n ≤ 16) :
  Calls Tryz.prog 72 #[.pointer (some ⟨M, 0, none⟩), .int .i64 f] w fun e w' => e = .returned (.slice (some ⟨w.heap.size, 0, none⟩) 16 16) ∧ w.alloc (.cells (frameV g f) 218) = w' := by
 have c := fun j (hj : j < 16) => h.2.2.1 (f * 16 + j) (by omega)
 have c0 := c 0 (by omega)
 have c1 := c 1 (by omega)
 have c2 := c 2 (by omega)
 have c3 := c 3 (by omega)
 have c4 := c 4 (by omega)
 have c5 := c 5 (by omega)
 have c6 := c 6 (by omega)
 have c7 := c 7 (by omega)
 have c8 := c 8 (by omega)
 have c9 := c 9 (by omega)
 have c10 := c 10 (by omega)
 have c11 := c 11 (by omega)
 have c12 := c 12 (by omega)
 have c13 := c 13 (by omega)
 have c14 := c 14 (by omega)
 have c15 := c 15 (by omega)
 have d0 : w.cell? ⟨F, f * 16, none⟩ = some (.int .u64 (g (f * 16 + 0))) := c0
 unfold frameV
 have H := Lib.hid h
 clear h c c0
 go_enter Tryz.func72, Tryz.ntmps72
 go_wp2_with (go_at_call 126; refine (at_any _ M F n f g H.out hf hn).mono ?_; rintro e w' ⟨rfl, rfl⟩)
 go_ret
 exact ⟨rfl, rfl⟩
set_option maxRecDepth 20000 in
theorem zero_any (w : World) (M F n f : Nat) (g : Nat → Int) (h : MemIs w M F n g) (hf : f < n) (hn : n ≤ 16) :
  Calls Tryz.prog 153 #[.pointer (some ⟨M, 0, none⟩), .int .i64 f] w fun e w' => e = .returned (.bool true) ∧ w.setCells F (f * 16) (List.replicate 16 (.int .u64 0)) = w' := by
 have hcl : (Builtin.clear_ #[63] 0 #[.slice (some ⟨F, f * 16, none⟩) 16 16]).run Tryz.prog w = .ok (.tuple #[]) (w.setCells F (f * 16) (List.replicate 16 (.int .u64 0))) :=
  Lib.run_clear_slice w _ _ _ _ Tryz.underlying63 (fun _ => by kernel_rfl) rfl rfl F (f * 16) 16 16 (by omega) (fun j hj => by rw [h.2.2.1 _ (by omega)]; rfl) (fun j _ => h.2.2.2.1 _)
 obtain ⟨W, hW⟩ : ∃ W, W = w.setCells F (f * 16) (List.replicate 16 (.int .u64 0)) := ⟨_, rfl⟩
 rw [← hW] at hcl ⊢
 have H := Lib.hid h
 clear h hW
 go_enter Tryz.func153, Tryz.ntmps153
 go_wp2_with (go_at_call 126; refine (at_any _ M F n f g H.out hf hn).mono ?_; rintro e w' ⟨rfl, rfl⟩)
 go_ret
 exact ⟨rfl, rfl⟩
end Go.Proofs.YtdfhfmdelinemaaGreatDoor
namespace Go.Proofs.YtdfhfmdelinemaaGreatDoor
open Go.RowKit Go.Extern.Stop Go.Stop Go.Extern
def TabIs (w : World) (T : Nat) (g : Nat → Int) : Prop :=
 (∀ j, j < 24 → w.cell? ⟨T, j, none⟩ = some (.int .i64 (g j))) ∧ (∀ j, w.frozen? ⟨T, j, none⟩ = false) ∧ T < w.heap.size
theorem TabIs.later {w w' : World} {T : Nat} {g : Nat → Int} (h : TabIs w T g) (hb : Below w.heap.size w w') : TabIs w' T g := by
 obtain ⟨h1, h2, h3⟩ := h
 exact ⟨fun j hj => (hb.cell (p := ⟨T, j, none⟩) h3).trans (h1 j hj), fun j => (hb.frozen (p := ⟨T, j, none⟩) h3).trans (h2 j), Nat.lt_of_lt_of_le h3 hb.size⟩
theorem TabIs.set {w : World} {T i : Nat} {g : Nat → Int} (h : TabIs w T g) (hi : i < 24) (u : Int) : TabIs (w.setCell ⟨T, i, none⟩ (.int .i64 u)) T (fun j => if j = i then u else g j) := by
 obtain ⟨h1, h2, h3⟩ := h
 refine ⟨fun j hj => ?_, fun j => ?_, by simpa using h3⟩
 ·by_cases he : j = i
  ·subst he
   rw [World.cell?_setCell_same _ _ _ (h1 j hj)]
   simp
  ·rw [World.cell?_setCell_other _ _ _ _ (fun e => he (congrArg Addr.off e).symm)]
   simp only [if_neg he]
   exact h1 j hj
 ·rw [World.frozen?_setCell]
  exact h2 j
theorem TabIs.far {w : World} {T S i : Nat} {g : Nat → Int} (h : TabIs w T g) (hne : T ≠ S) (v : Value) : TabIs (w.setCell ⟨S, i, none⟩ v) T g := by
 obtain ⟨h1, h2, h3⟩ := h
 refine ⟨fun j hj => ?_, fun j => ?_, by simpa using h3⟩
 ·rw [World.cell?_setCell_other _ _ _ _ (fun e => hne (congrArg Addr.block e).symm)]
  exact h1 j hj
 ·rw [World.frozen?_setCell]
  exact h2 j
theorem TabIs.alloc {w : World} {T : Nat} {g : Nat → Int} (h : TabIs w T g) (o : Obj) : TabIs (w.alloc o) T g := h.later ((Below.refl _ _).alloc (Nat.le_refl _) _)
theorem TabIs.drewN {w : World} {T : Nat} {g : Nat → Int} (h : TabIs w T g) (n : Nat) : TabIs (w.drewN n) T g := h
def putG (g : Nat → Int) (p : Nat) (f s r : Int) (j : Nat) : Int := if j = p * 3 + 2 then r else if j = p * 3 + 1 then s else if j = p * 3 then f else g j
theorem TabIs.put {w : World} {T p : Nat} {g : Nat → Int} (h : TabIs w T g) (hp : p < 8) (f s r : Int) :
  TabIs (((w.setCell ⟨T, p * 3, none⟩ (.int .i64 f)).setCell ⟨T, p * 3 + 1, none⟩ (.int .i64 s)).setCell ⟨T, p * 3 + 2, none⟩ (.int .i64 r)) T (putG g p f s r) :=
 ((h.set (i := p * 3) (by omega) f).set (i := p * 3 + 1) (by omega) s).set (i := p * 3 + 2) (by omega) r
def protG (g : Nat → Int) (p : Nat) (r : Int) (j : Nat) : Int := if j = p * 3 + 2 then r else g j
def OnlyT (T : Nat) (w w' : World) : Prop := w.grownBy w' (some T)
theorem tp_below {w w' : World} (h : Below w.heap.size w w') {T : Nat} : OnlyT T w w' := ⟨h.os, h.tape, h.output, h.size, fun i hi _ => h.block i hi⟩
theorem tp_set {w w' : World} {T : Nat} (h : OnlyT T w w') (i : Nat) (u : Value) : OnlyT T w (w'.setCell ⟨T, i, none⟩ u) :=
 ⟨h.os, h.tape, h.output, by simpa [World.setCell] using h.size, fun i hi hne => (Below.heap_setCell w' _ u i (by rintro rfl; exact hne rfl)).trans (h.block i hi hne)⟩
theorem tp_put {w w' : World} {T : Nat} (h : OnlyT T w w') (p : Nat) (u v x : Value) : OnlyT T w (((w'.setCell ⟨T, p * 3, none⟩ u).setCell ⟨T, p * 3 + 1, none⟩ v).setCell ⟨T, p * 3 + 2, none⟩ x) :=
 tp_set (tp_set (tp_set h _ _) _ _) _ _
theorem tp_new {w w' : World} {T S : Nat} (h : OnlyT T w w') (hS : w.heap.size ≤ S) (i : Nat) (u : Value) : OnlyT T w (w'.setCell ⟨S, i, none⟩ u) :=
 ⟨h.os, h.tape, h.output, by simpa [World.setCell] using h.size, fun i hi hne => (Below.heap_setCell w' _ u i (by rintro rfl; exact absurd hi (Nat.not_lt.2 hS))).trans (h.block i hi hne)⟩
theorem tp_alloc {w w' : World} {T : Nat} (h : OnlyT T w w') (o : Obj) : OnlyT T w (w'.alloc o) :=
 ⟨h.os, h.tape, h.output, Nat.le_trans h.size (by simp), fun i hi hne => (Below.heap_alloc w' o i (Nat.lt_of_lt_of_le hi h.size)).trans (h.block i hi hne)⟩
theorem tp_trans {w a b : World} {T : Nat} (h : OnlyT T w a) (hb : OnlyT T a b) : OnlyT T w b :=
 ⟨hb.os.trans h.os, hb.tape.trans h.tape, hb.output.trans h.output, Nat.le_trans h.size hb.size, fun i hi hne => (hb.block i (Nat.lt_of_lt_of_le hi h.size) hne).trans (h.block i hi hne)⟩
theorem tp_bl {w a b : World} {T : Nat} (h : Below w.heap.size w a) (hT : w.heap.size ≤ T) (hb : OnlyT T a b) : Below w.heap.size w b :=
 ⟨hb.os.trans h.os, hb.tape.trans h.tape, hb.output.trans h.output, Nat.le_trans h.size hb.size, fun i hi => (hb.block i (Nat.lt_of_lt_of_le hi h.size) (fun e => by injection e with e; omega)).trans (h.block i hi)⟩
theorem TabIs.only {w w' : World} {T S : Nat} {g : Nat → Int} (h : TabIs w T g) (hb : OnlyT S w w') (hne : T ≠ S) : TabIs w' T g := by
 obtain ⟨h1, h2, h3⟩ := h
 have hk := hb.block T h3 (fun e => hne (by injection e))
 exact ⟨fun j hj => (World.cell?_of_block (a := ⟨T, j, none⟩) hk).trans (h1 j hj), fun j => (World.frozen?_of_block (a := ⟨T, j, none⟩) hk).trans (h2 j), Nat.lt_of_lt_of_le h3 hb.size⟩
theorem tthere_yes (f s r : Int) (hr : ¬ r = 0) (w : World) : Calls Tryz.prog 83 #[.agg #[.int .i64 f, .int .i64 s, .int .i64 r]] w fun e w' => e = .returned (.bool true) ∧ Below w.heap.size w w' := by
 go_enter Tryz.func83, Tryz.ntmps83
 go_wp2
 go_ret
 exact ⟨by simp [hr], (Below.refl _ _).alloc (Nat.le_refl _) _⟩
theorem tthere_no (f s : Int) (w : World) : Calls Tryz.prog 83 #[.agg #[.int .i64 f, .int .i64 s, .int .i64 0]] w fun e w' => e = .returned (.bool false) ∧ Below w.heap.size w w' := by
 go_enter Tryz.func83, Tryz.ntmps83
 go_wp2
 go_ret
 exact ⟨rfl, (Below.refl _ _).alloc (Nat.le_refl _) _⟩
def mayIns (f s r : Int) : Bool := decide (1 ≤ r ∧ r ≤ 3) && decide (0 ≤ s ∧ s ≤ 7) && decide (0 ≤ f ∧ f ≤ 15)
theorem tmay_yes (f s r : Int) (h : mayIns f s r = true) (w : World) : Calls Tryz.prog 82 #[.agg #[.int .i64 f, .int .i64 s, .int .i64 r]] w fun e w' => e = .returned (.bool true) ∧ Below w.heap.size w w' := by
 simp only [mayIns, Bool.and_eq_true, decide_eq_true_eq] at h
 obtain ⟨⟨⟨r1, r2⟩, s1, s2⟩, f1, f2⟩ := h
 have hr : ¬ r = 0 := by omega
 go_enter Tryz.func82, Tryz.ntmps82
 go_wp2_with fail
 refine (put_yes f s r f1 f2 s1 s2 r1 r2 _).mono ?_
 rintro e w1 ⟨rfl, hb⟩
 have hB := Lib.hid (bl_alloc (Below.refl w.heap.size w) hb)
 have K := Lib.hid (bk_one hb)
 clear hb
 have c0 := bk_cell K.out 0
 have c1 := bk_cell K.out 1
 have c2 := bk_cell K.out 2
 go_wp2_with fail
 refine (tthere_yes f s r hr _).mono ?_
 rintro e w2 ⟨rfl, hb⟩
 have hB2 := Lib.hid (bl_trans hB.out hb)
 clear hb
 go_wp2_with fail
 go_ret
 exact ⟨rfl, hB2.out⟩
theorem entry_in (w : World) (T p : Nat) (hp : p < 8) : Calls Tryz.prog 81 #[.pointer (some ⟨T, 0, none⟩), .int .i64 p] w fun e w' => e = .returned (.tuple #[.pointer (some ⟨T, p * 3, none⟩), .int .i64 0]) ∧ w = w' := by
 have h1 : (p : Int) < 8 := by omega
 go_enter Tryz.func81, Tryz.ntmps81
 go_wp2
 go_ret2
 exact ⟨by simp, rfl⟩
theorem TabIs.new (w : World) (t : TypeId) : TabIs (w.alloc (.cells #[.int .i64 0, .int .i64 0, .int .i64 0, .int .i64 0, .int .i64 0, .int .i64 0, .int .i64 0, .int .i64 0, .int .i64 0, .int .i64 0, .int .i64 0, .int .i64 0, .int .i64 0, .int .i64 0, .int .i64 0, .int .i64 0, .int .i64 0, .int .i64 0, .int .i64 0, .int .i64 0, .int .i64 0, .int .i64 0, .int .i64 0, .int .i64 0] t)) w.heap.size (fun _ => 0) := by
 have h := heap_alloc_new w (.cells #[.int .i64 0, .int .i64 0, .int .i64 0, .int .i64 0, .int .i64 0, .int .i64 0, .int .i64 0, .int .i64 0, .int .i64 0, .int .i64 0, .int .i64 0, .int .i64 0, .int .i64 0, .int .i64 0, .int .i64 0, .int .i64 0, .int .i64 0, .int .i64 0, .int .i64 0, .int .i64 0, .int .i64 0, .int .i64 0, .int .i64 0, .int .i64 0] t)
 refine ⟨fun j hj => ?_, fun j => bk_free h j, bk_lt h⟩
 rw [bk_cell h j]
 have hc : j = 0 ∨ j = 1 ∨ j = 2 ∨ j = 3 ∨ j = 4 ∨ j = 5 ∨ j = 6 ∨ j = 7 ∨ j = 8 ∨ j = 9 ∨ j = 10 ∨ j = 11 ∨ j = 12 ∨ j = 13 ∨ j = 14 ∨ j = 15 ∨ j = 16 ∨ j = 17 ∨ j = 18 ∨ j = 19 ∨ j = 20 ∨ j = 21 ∨ j = 22 ∨ j = 23 := by omega
 rcases hc with rfl | rfl | rfl | rfl | rfl | rfl | rfl | rfl | rfl | rfl | rfl | rfl | rfl | rfl | rfl | rfl | rfl | rfl | rfl | rfl | rfl | rfl | rfl | rfl <;> rfl
theorem tab_new (w : World) : Calls Tryz.prog 28 #[] w fun e w' => e = .returned (.pointer (some ⟨w.heap.size, 0, none⟩)) ∧ Below w.heap.size w w' ∧ TabIs w' w.heap.size (fun _ => 0) := by
 go_enter Tryz.func28, Tryz.ntmps28
 go_wp2
 go_ret
 exact ⟨rfl, (Below.refl _ _).alloc (Nat.le_refl _) _, TabIs.new w _⟩
theorem tins_ok (w : World) (T p : Nat) (f s r : Int) (g : Nat → Int) (hp : p < 8) (h : mayIns f s r = true) (ht : TabIs w T g) (hz : g (p * 3 + 2) = 0) : Calls Tryz.prog 34 #[.pointer (some ⟨T, 0, none⟩), .int .i64 p, .agg #[.int .i64 f, .int .i64 s, .int .i64 r]] w fun e w' => e = .returned (.int .i64 0) ∧ TabIs w' T (putG g p f s r) ∧ OnlyT T w w' := by
 have HZ := Lib.hid hz
 have H := Lib.hid (fun W => tmay_yes f s r h W)
 have HT := Lib.hid ht
 clear h ht hz
 go_enter Tryz.func34, Tryz.ntmps34
 go_wp2_with fail
 refine (entry_in _ T p hp).mono ?_
 rintro e w1 ⟨rfl, rfl⟩
 go_wp2_with fail
 refine (H.out _).mono ?_
 rintro e w2 ⟨rfl, hb⟩
 have hB := Lib.hid (bl_alloc (Below.refl w.heap.size w) hb)
 have K := Lib.hid (bk_one hb)
 have T2 := Lib.hid (HT.out.later hB.out)
 clear hb
 have d0 := T2.out.1 (p * 3) (by omega)
 have d1 := T2.out.1 (p * 3 + 1) (by omega)
 have d2 := T2.out.1 (p * 3 + 2) (by omega)
 rw [HZ.out] at d2
 go_wp2_with fail
 refine (tthere_no _ _ _).mono ?_
 rintro e w3 ⟨rfl, hb⟩
 have hB3 := Lib.hid (bl_trans hB.out hb)
 have K3 := Lib.hid (bk_below K.out hb)
 have T3 := Lib.hid (T2.out.later hb)
 clear hb d0 d1 d2
 have c0 := bk_cell K3.out 0
 have c1 := bk_cell K3.out 1
 have c2 := bk_cell K3.out 2
 have d0 := T3.out.1 (p * 3) (by omega)
 have d1 := T3.out.1 (p * 3 + 1) (by omega)
 have d2 := T3.out.1 (p * 3 + 2) (by omega)
 have e0 := T3.out.2.1 (p * 3)
 have e1 := T3.out.2.1 (p * 3 + 1)
 have e2 := T3.out.2.1 (p * 3 + 2)
 go_wp2_with fail
 go_ret
 exact ⟨rfl, T3.out.put hp f s r, tp_put (tp_below hB3.out) p _ _ _⟩
theorem trem_none (w : World) (T p : Nat) (g : Nat → Int) (hp : p < 8) (ht : TabIs w T g) (hz : g (p * 3 + 2) = 0) : Calls Tryz.prog 104 #[.pointer (some ⟨T, 0, none⟩), .int .i64 p] w fun e w' => e = .returned (.tuple #[.agg #[.int .i64 0, .int .i64 0, .int .i64 0], .int .i64 3]) ∧ Below w.heap.size w w' := by
 have HZ := Lib.hid hz
 have HT := Lib.hid ht
 clear ht hz
 go_enter Tryz.func104, Tryz.ntmps104
 go_wp2_with fail
 refine (entry_in _ T p hp).mono ?_
 rintro e w1 ⟨rfl, hw⟩
 have B1 : Hid (Below w.heap.size w w1) := by rw [← hw]; exact (Below.refl _ _).alloc (Nat.le_refl _) _
 have K1 : Hid (w1.heap[w.heap.size]? = some (.cells #[.int .i64 0, .int .i64 0, .int .i64 0] 83 (0, 0))) := by rw [← hw]; exact heap_alloc_new w _
 have T1 := Lib.hid (HT.out.later B1.out)
 clear hw
 have d0 := T1.out.1 (p * 3) (by omega)
 have d1 := T1.out.1 (p * 3 + 1) (by omega)
 have d2 := T1.out.1 (p * 3 + 2) (by omega)
 rw [HZ.out] at d2
 go_wp2_with fail
 refine (tthere_no _ _ _).mono ?_
 rintro e w2 ⟨rfl, hb⟩
 have B2 := Lib.hid (bl_trans B1.out hb)
 have K2 := Lib.hid (bk_below K1.out hb)
 have T2 := Lib.hid (T1.out.later hb)
 clear hb d0 d1 d2
 have b0 := bk_cell K2.out 0
 have b1 := bk_cell K2.out 1
 have b2 := bk_cell K2.out 2
 have q0 := bk_free K2.out 0
 have q1 := bk_free K2.out 1
 have q2 := bk_free K2.out 2
 have ql := bk_lt K2.out
 have tl := T2.out.2.2
 go_wp2_with fail
 refine bodyPost_ret (v := .tuple #[.agg #[.int .i64 0, .int .i64 0, .int .i64 0], .int .i64 3]) (by simp [results, Tryz.results104, go_sem, b0, b1, b2]) rfl ⟨rfl, ?_⟩
 exact ((B2.out.setCell (Nat.le_refl _) _).setCell (Nat.le_refl _) _).setCell (Nat.le_refl _) _
theorem trem_ok (w : World) (T p : Nat) (g : Nat → Int) (hp : p < 8) (ht : TabIs w T g) (hz : ¬ g (p * 3 + 2) = 0) : Calls Tryz.prog 104 #[.pointer (some ⟨T, 0, none⟩), .int .i64 p] w fun e w' => e = .returned (.tuple #[.agg #[.int .i64 (g (p * 3)), .int .i64 (g (p * 3 + 1)), .int .i64 (g (p * 3 + 2))], .int .i64 0]) ∧ TabIs w' T (putG g p 0 0 0) ∧ OnlyT T w w' := by
 have HT := Lib.hid ht
 clear ht
 go_enter Tryz.func104, Tryz.ntmps104
 go_wp2_with fail
 refine (entry_in _ T p hp).mono ?_
 rintro e w1 ⟨rfl, hw⟩
 have B1 : Hid (Below w.heap.size w w1) := by rw [← hw]; exact (Below.refl _ _).alloc (Nat.le_refl _) _
 have K1 : Hid (w1.heap[w.heap.size]? = some (.cells #[.int .i64 0, .int .i64 0, .int .i64 0] 83 (0, 0))) := by rw [← hw]; exact heap_alloc_new w _
 have T1 := Lib.hid (HT.out.later B1.out)
 clear hw
 have d0 := T1.out.1 (p * 3) (by omega)
 have d1 := T1.out.1 (p * 3 + 1) (by omega)
 have d2 := T1.out.1 (p * 3 + 2) (by omega)
 go_wp2_with fail
 refine (tthere_yes _ _ _ hz _).mono ?_
 rintro e w2 ⟨rfl, hb⟩
 have B2 := Lib.hid (bl_trans B1.out hb)
 have K2 := Lib.hid (bk_below K1.out hb)
 have T2 := Lib.hid (T1.out.later hb)
 clear hb d0 d1 d2
 have d0 := T2.out.1 (p * 3) (by omega)
 have d1 := T2.out.1 (p * 3 + 1) (by omega)
 have d2 := T2.out.1 (p * 3 + 2) (by omega)
 have e0 := T2.out.2.1 (p * 3)
 have e1 := T2.out.2.1 (p * 3 + 1)
 have e2 := T2.out.2.1 (p * 3 + 2)
 have b0 := bk_cell K2.out 0
 have b1 := bk_cell K2.out 1
 have b2 := bk_cell K2.out 2
 have q0 := bk_free K2.out 0
 have q1 := bk_free K2.out 1
 have q2 := bk_free K2.out 2
 have ql := bk_lt K2.out
 have tl := T2.out.2.2
 have hne : ¬ w.heap.size = T := by have := HT.out.2.2; omega
 go_wp2_with fail
 refine bodyPost_ret (v := .tuple #[.agg #[.int .i64 (g (p * 3)), .int .i64 (g (p * 3 + 1)), .int .i64 (g (p * 3 + 2))], .int .i64 0]) (by simp [results, Tryz.results104, go_sem, b0, b1, b2, ql]) rfl ⟨rfl, ?_⟩
 exact ⟨((T2.out.put hp 0 0 0).far (fun e => hne e.symm) _ |>.far (fun e => hne e.symm) _ |>.far (fun e => hne e.symm) _).alloc _, tp_alloc (tp_new (tp_new (tp_new (tp_put (tp_below B2.out) p _ _ _) (Nat.le_refl _) _ _) (Nat.le_refl _) _ _) (Nat.le_refl _) _ _) _⟩
theorem tprot_ok (w : World) (T p : Nat) (g : Nat → Int) (hp : p < 8) (ht : TabIs w T g) (r : Int) (hr : 1 ≤ r ∧ r ≤ 3) (hz : ¬ g (p * 3 + 2) = 0) : Calls Tryz.prog 156 #[.pointer (some ⟨T, 0, none⟩), .int .i64 p, .int .i64 r] w fun e w' => e = .returned (.int .i64 0) ∧ TabIs w' T (protG g p r) ∧ OnlyT T w w' := by
 have HR := Lib.hid hr
 have HT := Lib.hid ht
 clear ht hr
 go_enter Tryz.func156, Tryz.ntmps156
 go_wp2_with fail
 refine (entry_in _ T p hp).mono ?_
 rintro e w1 ⟨rfl, hw⟩
 have B1 : Hid (Below w.heap.size w w1) := by rw [← hw]; exact Below.refl _ _
 have T1 := Lib.hid (HT.out.later B1.out)
 clear hw
 go_wp2_with fail
 refine (may_yes r HR.out.1 HR.out.2 _).mono ?_
 rintro e w' ⟨rfl, rfl⟩
 have d0 := T1.out.1 (p * 3) (by omega)
 have d1 := T1.out.1 (p * 3 + 1) (by omega)
 have d2 := T1.out.1 (p * 3 + 2) (by omega)
 go_wp2_with fail
 refine (tthere_yes _ _ _ hz _).mono ?_
 rintro e w2 ⟨rfl, hb⟩
 have B2 := Lib.hid (bl_trans B1.out hb)
 have T2 := Lib.hid (T1.out.later hb)
 clear hb d0 d1 d2
 have d0 := T2.out.1 (p * 3) (by omega)
 have d1 := T2.out.1 (p * 3 + 1) (by omega)
 have d2 := T2.out.1 (p * 3 + 2) (by omega)
 have e0 := T2.out.2.1 (p * 3)
 have e1 := T2.out.2.1 (p * 3 + 1)
 have e2 := T2.out.2.1 (p * 3 + 2)
 go_wp2_with fail
 go_ret
 exact ⟨rfl, T2.out.set (i := p * 3 + 2) (by omega) r, tp_set (tp_below B2.out) _ _⟩
theorem tat_none (w : World) (T p : Nat) (g : Nat → Int) (hp : p < 8) (ht : TabIs w T g) (hz : g (p * 3 + 2) = 0) : Calls Tryz.prog 112 #[.pointer (some ⟨T, 0, none⟩), .int .i64 p] w fun e w' => e = .returned (.tuple #[.agg #[.int .i64 0, .int .i64 0, .int .i64 0], .bool false]) ∧ Below w.heap.size w w' := by
 have HZ := Lib.hid hz
 have HT := Lib.hid ht
 clear ht hz
 go_enter Tryz.func112, Tryz.ntmps112
 go_wp2_with fail
 refine (entry_in _ T p hp).mono ?_
 rintro e w1 ⟨rfl, hw⟩
 have B1 : Hid (Below w.heap.size w w1) := by rw [← hw]; exact (Below.refl _ _).alloc (Nat.le_refl _) _
 have K1 : Hid (w1.heap[w.heap.size]? = some (.cells #[.int .i64 0, .int .i64 0, .int .i64 0] 83 (0, 0))) := by rw [← hw]; exact heap_alloc_new w _
 have T1 := Lib.hid (HT.out.later B1.out)
 clear hw
 have d0 := T1.out.1 (p * 3) (by omega)
 have d1 := T1.out.1 (p * 3 + 1) (by omega)
 have d2 := T1.out.1 (p * 3 + 2) (by omega)
 rw [HZ.out] at d2
 go_wp2_with fail
 refine (tthere_no _ _ _).mono ?_
 rintro e w2 ⟨rfl, hb⟩
 have B2 := Lib.hid (bl_trans B1.out hb)
 have K2 := Lib.hid (bk_below K1.out hb)
 have T2 := Lib.hid (T1.out.later hb)
 clear hb d0 d1 d2
 have b0 := bk_cell K2.out 0
 have b1 := bk_cell K2.out 1
 have b2 := bk_cell K2.out 2
 have q0 := bk_free K2.out 0
 have q1 := bk_free K2.out 1
 have q2 := bk_free K2.out 2
 have ql := bk_lt K2.out
 have tl := T2.out.2.2
 go_wp2_with fail
 refine bodyPost_ret (v := .tuple #[.agg #[.int .i64 0, .int .i64 0, .int .i64 0], .bool false]) (by simp [results, Tryz.results112, go_sem, b0, b1, b2]) rfl ⟨rfl, ?_⟩
 exact ((B2.out.setCell (Nat.le_refl _) _).setCell (Nat.le_refl _) _).setCell (Nat.le_refl _) _
theorem tat_ok (w : World) (T p : Nat) (g : Nat → Int) (hp : p < 8) (ht : TabIs w T g) (hz : ¬ g (p * 3 + 2) = 0) : Calls Tryz.prog 112 #[.pointer (some ⟨T, 0, none⟩), .int .i64 p] w fun e w' => e = .returned (.tuple #[.agg #[.int .i64 (g (p * 3)), .int .i64 (g (p * 3 + 1)), .int .i64 (g (p * 3 + 2))], .bool true]) ∧ Below w.heap.size w w' := by
 have HT := Lib.hid ht
 clear ht
 go_enter Tryz.func112, Tryz.ntmps112
 go_wp2_with fail
 refine (entry_in _ T p hp).mono ?_
 rintro e w1 ⟨rfl, hw⟩
 have B1 : Hid (Below w.heap.size w w1) := by rw [← hw]; exact (Below.refl _ _).alloc (Nat.le_refl _) _
 have K1 : Hid (w1.heap[w.heap.size]? = some (.cells #[.int .i64 0, .int .i64 0, .int .i64 0] 83 (0, 0))) := by rw [← hw]; exact heap_alloc_new w _
 have T1 := Lib.hid (HT.out.later B1.out)
 clear hw
 have d0 := T1.out.1 (p * 3) (by omega)
 have d1 := T1.out.1 (p * 3 + 1) (by omega)
 have d2 := T1.out.1 (p * 3 + 2) (by omega)
 go_wp2_with fail
 refine (tthere_yes _ _ _ hz _).mono ?_
 rintro e w2 ⟨rfl, hb⟩
 have B2 := Lib.hid (bl_trans B1.out hb)
 have K2 := Lib.hid (bk_below K1.out hb)
 have T2 := Lib.hid (T1.out.later hb)
 clear hb d0 d1 d2
 have d0 := T2.out.1 (p * 3) (by omega)
 have d1 := T2.out.1 (p * 3 + 1) (by omega)
 have d2 := T2.out.1 (p * 3 + 2) (by omega)
 have b0 := bk_cell K2.out 0
 have b1 := bk_cell K2.out 1
 have b2 := bk_cell K2.out 2
 have q0 := bk_free K2.out 0
 have q1 := bk_free K2.out 1
 have q2 := bk_free K2.out 2
 have ql := bk_lt K2.out
 have tl := T2.out.2.2
 go_wp2_with fail
 refine bodyPost_ret (v := .tuple #[.agg #[.int .i64 (g (p * 3)), .int .i64 (g (p * 3 + 1)), .int .i64 (g (p * 3 + 2))], .bool true]) (by simp [results, Tryz.results112, go_sem, b0, b1, b2]) rfl ⟨rfl, ?_⟩
 exact ((B2.out.setCell (Nat.le_refl _) _).setCell (Nat.le_refl _) _).setCell (Nat.le_refl _) _
end Go.Proofs.YtdfhfmdelinemaaGreatDoor
namespace Go.Proofs.YtdfhfmdelinemaaGreatDoor
open Go.RowKit Go.Extern.Stop Go.Stop Go.Extern
def tabV (g : Nat → Int) : Array Value := #[.int .i64 (g 0), .int .i64 (g 1), .int .i64 (g 2), .int .i64 (g 3), .int .i64 (g 4), .int .i64 (g 5), .int .i64 (g 6), .int .i64 (g 7), .int .i64 (g 8), .int .i64 (g 9), .int .i64 (g 10), .int .i64 (g 11), .int .i64 (g 12), .int .i64 (g 13), .int .i64 (g 14), .int .i64 (g 15), .int .i64 (g 16), .int .i64 (g 17), .int .i64 (g 18), .int .i64 (g 19), .int .i64 (g 20), .int .i64 (g 21), .int .i64 (g 22), .int .i64 (g 23)]
def entV (g : Nat → Int) (k : Nat) : Array Value := #[.int .i64 (g (k * 3)), .int .i64 (g (k * 3 + 1)), .int .i64 (g (k * 3 + 2))]
theorem idx_0 (g : Nat → Int) (W : World) : (Instr.index 101 (.agg (tabV g)) (.int .i64 0)).run Tryz.prog W = .ok (.agg (entV g 0)) W := by kernel_rfl
theorem idx_1 (g : Nat → Int) (W : World) : (Instr.index 101 (.agg (tabV g)) (.int .i64 1)).run Tryz.prog W = .ok (.agg (entV g 1)) W := by kernel_rfl
theorem idx_2 (g : Nat → Int) (W : World) : (Instr.index 101 (.agg (tabV g)) (.int .i64 2)).run Tryz.prog W = .ok (.agg (entV g 2)) W := by kernel_rfl
theorem idx_3 (g : Nat → Int) (W : World) : (Instr.index 101 (.agg (tabV g)) (.int .i64 3)).run Tryz.prog W = .ok (.agg (entV g 3)) W := by kernel_rfl
theorem idx_4 (g : Nat → Int) (W : World) : (Instr.index 101 (.agg (tabV g)) (.int .i64 4)).run Tryz.prog W = .ok (.agg (entV g 4)) W := by kernel_rfl
theorem idx_5 (g : Nat → Int) (W : World) : (Instr.index 101 (.agg (tabV g)) (.int .i64 5)).run Tryz.prog W = .ok (.agg (entV g 5)) W := by kernel_rfl
theorem idx_6 (g : Nat → Int) (W : World) : (Instr.index 101 (.agg (tabV g)) (.int .i64 6)).run Tryz.prog W = .ok (.agg (entV g 6)) W := by kernel_rfl
theorem idx_7 (g : Nat → Int) (W : World) : (Instr.index 101 (.agg (tabV g)) (.int .i64 7)).run Tryz.prog W = .ok (.agg (entV g 7)) W := by kernel_rfl
theorem tabV_at (g : Nat → Int) (j : Nat) (hj : j < 24) : (tabV g).toList[j]? = some (.int .i64 (g j)) := by
 have hc : j = 0 ∨ j = 1 ∨ j = 2 ∨ j = 3 ∨ j = 4 ∨ j = 5 ∨ j = 6 ∨ j = 7 ∨ j = 8 ∨ j = 9 ∨ j = 10 ∨ j = 11 ∨ j = 12 ∨ j = 13 ∨ j = 14 ∨ j = 15 ∨ j = 16 ∨ j = 17 ∨ j = 18 ∨ j = 19 ∨ j = 20 ∨ j = 21 ∨ j = 22 ∨ j = 23 := by omega
 rcases hc with rfl | rfl | rfl | rfl | rfl | rfl | rfl | rfl | rfl | rfl | rfl | rfl | rfl | rfl | rfl | rfl | rfl | rfl | rfl | rfl | rfl | rfl | rfl | rfl <;> rfl
theorem TabIs.range {w : World} {T : Nat} {g : Nat → Int} (h : TabIs w T g) : w.rangeAt T 0 (tabV g).toList := fun j v hj => by
 have hl : j < 24 := by
  rcases Nat.lt_or_ge j 24 with h1 | h1
  ·exact h1
  ·rw [List.getElem?_eq_none (by simpa [tabV] using h1)] at hj
   cases hj
 rw [tabV_at g j hl] at hj
 rw [Nat.zero_add, ← hj]
 exact h.1 j hl
theorem Tryz.sizeTab : (Tryz.prog.info? 101).map (fun x => x.size) = some 24 := by kernel_rfl
theorem idx_any (g : Nat → Int) (k : Nat) (hk : k < 8) (W : World) : (Instr.index 101 (.agg (tabV g)) (.int .i64 (k : Int))).run Tryz.prog W = .ok (.agg (entV g k)) W := by
 have hc : k = 0 ∨ k = 1 ∨ k = 2 ∨ k = 3 ∨ k = 4 ∨ k = 5 ∨ k = 6 ∨ k = 7 := by omega
 rcases hc with rfl | rfl | rfl | rfl | rfl | rfl | rfl | rfl
 ·exact idx_0 g W
 ·exact idx_1 g W
 ·exact idx_2 g W
 ·exact idx_3 g W
 ·exact idx_4 g W
 ·exact idx_5 g W
 ·exact idx_6 g W
 ·exact idx_7 g W
def WordsIs (w : World) (M : Nat) (h : Nat → Int) : Prop :=
 (∀ j, j < 8 → w.cell? ⟨M, j, none⟩ = some (.int .u64 (h j))) ∧ (∀ j, w.frozen? ⟨M, j, none⟩ = false) ∧ M < w.heap.size
theorem WordsIs.later {w w' : World} {M : Nat} {h : Nat → Int} (hm : WordsIs w M h) (hb : Below w.heap.size w w') : WordsIs w' M h := by
 obtain ⟨h1, h2, h3⟩ := hm
 exact ⟨fun j hj => (hb.cell (p := ⟨M, j, none⟩) h3).trans (h1 j hj), fun j => (hb.frozen (p := ⟨M, j, none⟩) h3).trans (h2 j), Nat.lt_of_lt_of_le h3 hb.size⟩
theorem WordsIs.set {w : World} {M i : Nat} {h : Nat → Int} (hm : WordsIs w M h) (hi : i < 8) (u : Int) : WordsIs (w.setCell ⟨M, i, none⟩ (.int .u64 u)) M (fun j => if j = i then u else h j) := by
 obtain ⟨h1, h2, h3⟩ := hm
 refine ⟨fun j hj => ?_, fun j => ?_, by simpa using h3⟩
 ·by_cases he : j = i
  ·subst he
   rw [World.cell?_setCell_same _ _ _ (h1 j hj)]
   simp
  ·rw [World.cell?_setCell_other _ _ _ _ (fun e => he (congrArg Addr.off e).symm)]
   simp only [if_neg he]
   exact h1 j hj
 ·rw [World.frozen?_setCell]
  exact h2 j
theorem WordsIs.new (w : World) (t : TypeId) : WordsIs (w.alloc (.cells #[.int .u64 0, .int .u64 0, .int .u64 0, .int .u64 0, .int .u64 0, .int .u64 0, .int .u64 0, .int .u64 0] t)) w.heap.size (fun _ => 0) := by
 have h := heap_alloc_new w (.cells #[.int .u64 0, .int .u64 0, .int .u64 0, .int .u64 0, .int .u64 0, .int .u64 0, .int .u64 0, .int .u64 0] t)
 refine ⟨fun j hj => ?_, fun j => bk_free h j, bk_lt h⟩
 rw [bk_cell h j]
 have hc : j = 0 ∨ j = 1 ∨ j = 2 ∨ j = 3 ∨ j = 4 ∨ j = 5 ∨ j = 6 ∨ j = 7 := by omega
 rcases hc with rfl | rfl | rfl | rfl | rfl | rfl | rfl | rfl <;> rfl
def byL (g : Nat → Int) (s : Int) (k : Nat) : List Nat := (List.range k).filter (fun j => decide (¬ g (j * 3 + 2) = 0 ∧ g (j * 3 + 1) = s))
theorem byL_yes (g : Nat → Int) (s : Int) (k : Nat) (h : ¬ g (k * 3 + 2) = 0 ∧ g (k * 3 + 1) = s) : byL g s (k + 1) = byL g s k ++ [k] := by
 unfold byL
 rw [List.range_succ, List.filter_append]
 simp [h]
theorem byL_no (g : Nat → Int) (s : Int) (k : Nat) (h : ¬ (¬ g (k * 3 + 2) = 0 ∧ g (k * 3 + 1) = s)) : byL g s (k + 1) = byL g s k := by
 unfold byL
 rw [List.range_succ, List.filter_append]
 simp only [List.filter_cons, h, decide_false]
 simp
theorem byL_le (g : Nat → Int) (s : Int) (k : Nat) : (byL g s k).length ≤ k := by
 have h := List.length_filter_le (fun j => decide (¬ g (j * 3 + 2) = 0 ∧ g (j * 3 + 1) = s)) (List.range k)
 simpa [byL] using h
def pagesV (l : List Nat) : List Value := l.map fun (j : Nat) => Value.int .i64 (j : Int)
theorem own_below {w w' : World} {base n : Nat} {e : TypeId} {v : Value} {xs : List Value} (h : w.ownsRow base e 1 v n xs) (hb : Below w.heap.size w w') : w'.ownsRow base e 1 v n xs :=
 h.kept (row := none) ⟨hb.os, hb.tape, hb.output, hb.size, fun i hi _ => hb.block i hi⟩ (by cases v.ownBlock <;> simp)
theorem own_grown {w w2 w3 : World} {n : Nat} {e : TypeId} {o : Obj} {v : Value} {xs : List Value} (h : Below w.heap.size w w2) (hg : (w2.alloc o).grownBy w3 v.ownBlock) (ho : w2.ownsRow w.heap.size e 1 v n xs) : Below w.heap.size w w3 :=
 (h.alloc h.size o).grown hg (by have := h.size; simp; omega) (fun g hg' => (ho.lt g hg').1)
theorem one_at (w : World) (u : Value) (t : TypeId) (j : Nat) (x : Value) (h : [u][j]? = some x) : (w.alloc (.cells #[u] t)).cell? (Addr.add ⟨w.heap.size, 0, none⟩ j) = some x := by
 match j, h with
 | 0, h =>
  simp at h
  subst h
  exact bk_cell (heap_alloc_new w _) 0
theorem one_cell (k : Nat) (u : Value) (hu : u ∈ [Value.int .i64 (k : Int)]) : u.oneCell' = true := by
 simp at hu
 subst hu
 rfl
def ByPost (g : Nat → Int) (s : Int) (w : World) (e : Ending) (w' : World) : Prop :=
 ∃ v : Value, e = .returned v ∧ w'.ownsRow w.heap.size 3 1 v (byL g s 8).length (pagesV (byL g s 8)) ∧ Below w.heap.size w w'
theorem Tryz.intInfo : (Tryz.prog.info? 3).map (fun i => (i.zero, i.size, i.bytes)) = some (some (.int .i64 0), 1, 8) := by kernel_rfl
set_option maxRecDepth 100000 in
set_option maxHeartbeats 2000000 in
theorem tby_any (w : World) (T : Nat) (g : Nat → Int) (s : Int) (ht : TabIs w T g) : Calls Tryz.prog 149 #[.pointer (some ⟨T, 0, none⟩), .int .i64 s] w (ByPost g s w) := by
 obtain ⟨i0, hi, hz0, hz1, hz2⟩ := info_parts Tryz.intInfo
 have HT := Lib.hid ht
 clear ht
 go_enter Tryz.func149, Tryz.ntmps149
 go_wp2_with (refine wpList_load_mid (op := ⟨some 13, _, _, _, _, _⟩) rfl 101 (.tmp 12) rfl T 0 rfl (tabV g).toList _ HT.out.range Tryz.underlying101 rfl Tryz.sizeTab ?_)
 obtain ⟨V, hV⟩ : ∃ V : Value, V = .agg (tabV g).toList.toArray := ⟨_, rfl⟩
 rw [← hV]
 have HI : Hid (∀ k : Nat, k < 8 → ∀ W : World, (Instr.index 101 V (.int .i64 (k : Int))).run Tryz.prog W = .ok (.agg (entV g k)) W) := by rw [hV]; exact idx_any g
 clear hV
 go_loopw [5, 14] (fun v c W => ∃ k : Nat, k ≤ 8 ∧ c = .int .i64 k ∧ W.ownsRow w.heap.size 3 1 v (byL g s k).length (pagesV (byL g s k)) ∧ Below w.heap.size w W) (fun _ c _ => (8 - intOf c).toNat)
 case atStart => exact ⟨0, by omega, rfl, by rw [show byL g s 0 = [] from rfl]; exact World.ownsRow_nil _ _ _ _, Below.refl _ _⟩
 case round =>
  obtain ⟨k, hk, rfl, hown, hb⟩ := hrel
  have HO := Lib.hid hown
  have HB := Lib.hid hb
  clear hown hb
  by_cases hlt : k < 8
  ·have hidx := HI.out k hlt
   unfold entV at hidx
   by_cases hr : g (k * 3 + 2) = 0
   ·rw [hr] at hidx
    have hbl := byL_no g s k (fun h => h.1 hr)
    have HL := Lib.hid hbl
    clear hr hbl
    go_wp2_with fail
    refine (tthere_no _ _ _).mono ?_
    rintro e w2 ⟨rfl, hb⟩
    have B2 := Lib.hid (bl_alloc HB.out hb)
    have O2 := Lib.hid (own_below HO.out (bl_alloc (Below.refl wr.heap.size wr) hb))
    clear hb hidx
    go_wp2_with fail
    go_roundw
    case rel => exact ⟨k + 1, by omega, by go_num, by rw [HL.out]; exact O2.out, B2.out⟩
    case measure => simp [intOf]; omega
   ·by_cases hs : g (k * 3 + 1) = s
    ·have hbl := byL_yes g s k ⟨hr, hs⟩
     have HL := Lib.hid hbl
     have hle := byL_le g s k
     rw [hs] at hidx
     clear hbl
     go_wp2_with fail
     refine (tthere_yes _ _ _ hr _).mono ?_
     rintro e w2 ⟨rfl, hb⟩
     have B2 := Lib.hid (bl_alloc HB.out hb)
     have K2 := Lib.hid (bk_one hb)
     have O2 := Lib.hid (own_below HO.out (bl_alloc (Below.refl wr.heap.size wr) hb))
     clear hb hidx hs hr
     have b1 := bk_cell K2.out 1
     go_wp2_with (refine wpList_append_own (o := ⟨some 29, _, _, _, _, _⟩) _ rfl (.tmp 26) (.tmp 28) 61 rfl w.heap.size 3 i0 (.int .i64 0) 1 8 Tryz.underlying61 hi hz0 hz1 hz2 rfl (by decide) _ _ _ rfl (O2.out.alloc _) ⟨w2.heap.size, 0, none⟩ 1 1 [.int .i64 (k : Int)] rfl rfl (one_at _ _ _) (one_cell k) (by unfold maxLen; omega) (by omega) (by have := B2.out.size; simp; omega) ?_)
     intro v' w3 hown hgrow _
     have B3 := Lib.hid (own_grown B2.out hgrow O2.out)
     have O3 := Lib.hid hown
     clear hown hgrow b1
     go_wp2_with fail
     go_roundw
     case rel => exact ⟨k + 1, by omega, by go_num, by rw [HL.out, List.length_append]; unfold pagesV at O3 ⊢; rw [List.map_append]; exact O3.out, B3.out⟩
     case measure => simp [intOf]; omega
    ·have hbl := byL_no g s k (fun h => hs h.2)
     have HL := Lib.hid hbl
     have hs2 : (g (k * 3 + 1) == s) = false := by simpa using hs
     clear hbl
     go_wp2_with fail
     refine (tthere_yes _ _ _ hr _).mono ?_
     rintro e w2 ⟨rfl, hb⟩
     have B2 := Lib.hid (bl_alloc HB.out hb)
     have K2 := Lib.hid (bk_one hb)
     have O2 := Lib.hid (own_below HO.out (bl_alloc (Below.refl wr.heap.size wr) hb))
     clear hb hidx hr
     have b1 := bk_cell K2.out 1
     go_wp2_with fail
     go_roundw
     case rel => exact ⟨k + 1, by omega, by go_num, by rw [HL.out]; exact O2.out, B2.out⟩
     case measure => simp [intOf]; omega
  ·obtain rfl : k = 8 := by omega
   go_wp2_with fail
   go_ret
   exact ⟨_, rfl, HO.out, HB.out⟩
end Go.Proofs.YtdfhfmdelinemaaGreatDoor
namespace Go.Proofs.YtdfhfmdelinemaaGreatDoor
def hitB (g : Nat → Int) (e p : Int) (k : Nat) : Bool := decide (¬ g (k * 5 + 4) = 0 ∧ g (k * 5) = e ∧ g (k * 5 + 1) = p)
def lineB (e p f r : Int) : Bool := decide ((0 ≤ e ∧ e < 4) ∧ (0 ≤ p ∧ p < 8) ∧ (0 ≤ f ∧ f < 16) ∧ (1 ≤ r ∧ r ≤ 3))
theorem lineB_yes {e p f r : Int} (h : lineB e p f r = true) : (0 ≤ e ∧ e < 4) ∧ (0 ≤ p ∧ p < 8) ∧ (0 ≤ f ∧ f < 16) ∧ (1 ≤ r ∧ r ≤ 3) := of_decide_eq_true h
theorem first_or (f : Nat → Bool) : ∀ n : Nat, (∃ k, k < n ∧ f k = true ∧ ∀ j, j < k → f j = false) ∨ (∀ j, j < n → f j = false)
 | 0 => .inr fun j hj => absurd hj (Nat.not_lt_zero j)
 | n + 1 => by
  rcases first_or f n with ⟨k, h1, h2, h3⟩ | h
  ·exact .inl ⟨k, by omega, h2, h3⟩
  ·cases hn : f n
   ·refine .inr fun j hj => ?_
    rcases Nat.lt_or_eq_of_le (Nat.le_of_lt_succ hj) with h1 | h1
    ·exact h j h1
    ·rw [h1]; exact hn
   ·exact .inl ⟨n, by omega, hn, h⟩
def old (g : Nat → Int) (s : Nat) : Nat := if g ((s * 2 + 1) * 5 + 4) < g (s * 2 * 5 + 4) then s * 2 + 1 else s * 2
theorem old_in (g : Nat → Int) (s : Nat) (hs : s < 4) : old g s < 8 ∧ old g s / 2 = s := by
 unfold old
 split <;> omega
def fillG (g : Nat → Int) (k : Nat) (e p f r : Int) (j : Nat) : Int :=
 if j = k * 5 + 4 then g 40 + 1 else if j = k * 5 + 3 then r else if j = k * 5 + 2 then f else if j = k * 5 + 1 then p else if j = k * 5 then e else if j = 40 then g 40 + 1 else g j
def fillH (h : Nat → Int) (k : Nat) (e p f r : Int) (j : Nat) : Int :=
 if j = 32 + k then h 40 + 1 else if j = k * 4 + 3 then r else if j = k * 4 + 2 then f else if j = k * 4 + 1 then p else if j = k * 4 then e else if j = 40 then h 40 + 1 else h j
def clearG (g : Nat → Int) (k j : Nat) : Int :=
 if j = k * 5 + 4 then 0 else if j = k * 5 + 3 then 0 else if j = k * 5 + 2 then 0 else if j = k * 5 + 1 then 0 else if j = k * 5 then 0 else g j
def noneH (h : Nat → Int) (k j : Nat) : Int :=
 if j = k * 4 + 3 then 0 else if j = k * 4 + 2 then 0 else if j = k * 4 + 1 then 0 else if j = k * 4 then -1 else h j
theorem fillG_far (g : Nat → Int) (k : Nat) (e p f r : Int) (m i : Nat) (hm : ¬ m = k) (hi : i < 5) (hk : m < 8) : fillG g k e p f r (m * 5 + i) = g (m * 5 + i) := by
 unfold fillG
 rw [if_neg (by omega), if_neg (by omega), if_neg (by omega), if_neg (by omega), if_neg (by omega), if_neg (by omega)]
theorem clearG_far (g : Nat → Int) (k m i : Nat) (hm : ¬ m = k) (hi : i < 5) : clearG g k (m * 5 + i) = g (m * 5 + i) := by
 unfold clearG
 rw [if_neg (by omega), if_neg (by omega), if_neg (by omega), if_neg (by omega), if_neg (by omega)]
theorem fillH_far (h : Nat → Int) (k : Nat) (e p f r : Int) (m i : Nat) (hm : ¬ m = k) (hi : i < 4) (hm8 : m < 8) (hk : k < 8) : fillH h k e p f r (m * 4 + i) = h (m * 4 + i) := by
 unfold fillH
 rw [if_neg (by omega), if_neg (by omega), if_neg (by omega), if_neg (by omega), if_neg (by omega), if_neg (by omega)]
theorem fillH_at (h : Nat → Int) (k : Nat) (e p f r : Int) (m : Nat) (hm : ¬ m = k) (hm8 : m < 8) (hk : k < 8) : fillH h k e p f r (32 + m) = h (32 + m) := by
 unfold fillH
 rw [if_neg (by omega), if_neg (by omega), if_neg (by omega), if_neg (by omega), if_neg (by omega), if_neg (by omega)]
theorem noneH_far (h : Nat → Int) (k m i : Nat) (hm : ¬ m = k) (hi : i < 4) : noneH h k (m * 4 + i) = h (m * 4 + i) := by
 unfold noneH
 rw [if_neg (by omega), if_neg (by omega), if_neg (by omega), if_neg (by omega)]
theorem noneH_at (h : Nat → Int) (k m : Nat) (hk : k < 8) : noneH h k (32 + m) = h (32 + m) := by
 unfold noneH
 rw [if_neg (by omega), if_neg (by omega), if_neg (by omega), if_neg (by omega)]
theorem fillG_own (g : Nat → Int) (k : Nat) (e p f r : Int) : fillG g k e p f r (k * 5) = e ∧ fillG g k e p f r (k * 5 + 1) = p ∧ fillG g k e p f r (k * 5 + 2) = f ∧ fillG g k e p f r (k * 5 + 3) = r ∧ fillG g k e p f r (k * 5 + 4) = g 40 + 1 := by
 unfold fillG
 refine ⟨?_, ?_, ?_, ?_, ?_⟩
 ·rw [if_neg (by omega), if_neg (by omega), if_neg (by omega), if_neg (by omega), if_pos rfl]
 ·rw [if_neg (by omega), if_neg (by omega), if_neg (by omega), if_pos rfl]
 ·rw [if_neg (by omega), if_neg (by omega), if_pos rfl]
 ·rw [if_neg (by omega), if_pos rfl]
 ·rw [if_pos rfl]
theorem fillG_now (g : Nat → Int) (k : Nat) (e p f r : Int) (hk : k < 8) : fillG g k e p f r 40 = g 40 + 1 := by
 unfold fillG
 rw [if_neg (by omega), if_neg (by omega), if_neg (by omega), if_neg (by omega), if_neg (by omega), if_pos rfl]
theorem fillH_own (h : Nat → Int) (k : Nat) (e p f r : Int) (hk : k < 8) : fillH h k e p f r (k * 4) = e ∧ fillH h k e p f r (k * 4 + 1) = p ∧ fillH h k e p f r (k * 4 + 2) = f ∧ fillH h k e p f r (k * 4 + 3) = r ∧ fillH h k e p f r (32 + k) = h 40 + 1 := by
 unfold fillH
 refine ⟨?_, ?_, ?_, ?_, ?_⟩
 ·rw [if_neg (by omega), if_neg (by omega), if_neg (by omega), if_neg (by omega), if_pos rfl]
 ·rw [if_neg (by omega), if_neg (by omega), if_neg (by omega), if_pos rfl]
 ·rw [if_neg (by omega), if_neg (by omega), if_pos rfl]
 ·rw [if_neg (by omega), if_pos rfl]
 ·rw [if_pos rfl]
theorem fillH_now (h : Nat → Int) (k : Nat) (e p f r : Int) (hk : k < 8) : fillH h k e p f r 40 = h 40 + 1 := by
 unfold fillH
 rw [if_neg (by omega), if_neg (by omega), if_neg (by omega), if_neg (by omega), if_neg (by omega), if_pos rfl]
theorem clearG_own (g : Nat → Int) (k : Nat) : clearG g k (k * 5) = 0 ∧ clearG g k (k * 5 + 1) = 0 ∧ clearG g k (k * 5 + 2) = 0 ∧ clearG g k (k * 5 + 3) = 0 ∧ clearG g k (k * 5 + 4) = 0 := by
 unfold clearG
 refine ⟨?_, ?_, ?_, ?_, ?_⟩
 ·rw [if_neg (by omega), if_neg (by omega), if_neg (by omega), if_neg (by omega), if_pos rfl]
 ·rw [if_neg (by omega), if_neg (by omega), if_neg (by omega), if_pos rfl]
 ·rw [if_neg (by omega), if_neg (by omega), if_pos rfl]
 ·rw [if_neg (by omega), if_pos rfl]
 ·rw [if_pos rfl]
theorem clearG_now (g : Nat → Int) (k : Nat) (hk : k < 8) : clearG g k 40 = g 40 := by
 unfold clearG
 rw [if_neg (by omega), if_neg (by omega), if_neg (by omega), if_neg (by omega), if_neg (by omega)]
theorem noneH_own (h : Nat → Int) (k : Nat) : noneH h k (k * 4) = -1 ∧ noneH h k (k * 4 + 1) = 0 ∧ noneH h k (k * 4 + 2) = 0 ∧ noneH h k (k * 4 + 3) = 0 := by
 unfold noneH
 refine ⟨?_, ?_, ?_, ?_⟩
 ·rw [if_neg (by omega), if_neg (by omega), if_neg (by omega), if_pos rfl]
 ·rw [if_neg (by omega), if_neg (by omega), if_pos rfl]
 ·rw [if_neg (by omega), if_pos rfl]
 ·rw [if_pos rfl]
theorem noneH_now (h : Nat → Int) (k : Nat) (hk : k < 8) : noneH h k 40 = h 40 := by
 unfold noneH
 rw [if_neg (by omega), if_neg (by omega), if_neg (by omega), if_neg (by omega)]
def SimAt (g h : Nat → Int) (d : Int) (k : Nat) : Prop :=
 (g (k * 5 + 4) = 0 ∧ h (k * 4) = -1 ∧ h (k * 4 + 1) = 0 ∧ h (k * 4 + 2) = 0 ∧ h (k * 4 + 3) = 0) ∨
 (1 ≤ g (k * 5 + 4) ∧ g (k * 5 + 4) ≤ g 40 ∧ 0 ≤ g (k * 5) ∧ g (k * 5) ≤ 3 ∧ 0 ≤ g (k * 5 + 1) ∧ g (k * 5 + 1) ≤ 7 ∧ g (k * 5 + 1) % 4 = ((k / 2 : Nat) : Int) ∧
  h (k * 4) = g (k * 5) ∧ h (k * 4 + 1) = g (k * 5 + 1) ∧ h (k * 4 + 2) = g (k * 5 + 2) ∧ h (k * 4 + 3) = g (k * 5 + 3) ∧ h (32 + k) = g (k * 5 + 4) + d)
def Sim (g h : Nat → Int) (d : Int) : Prop := 0 ≤ g 40 ∧ 0 ≤ d ∧ h 40 = g 40 + d ∧ ∀ k, k < 8 → SimAt g h d k
theorem Sim.page {g h : Nat → Int} {d : Int} (H : Sim g h d) {e p : Int} {k : Nat} (hk : k < 8) (hh : hitB g e p k = true) : 0 ≤ p ∧ p < 8 ∧ p % 4 = ((k / 2 : Nat) : Int) := by
 have hh := of_decide_eq_true hh
 rcases H.2.2.2 k hk with ⟨h0, _⟩ | ⟨h0, _, h1, h2, h3, h4, h5, _⟩
 ·exact absurd h0 hh.1
 ·rw [← hh.2.2]; exact ⟨h3, by omega, h5⟩
theorem Sim.fill {g h : Nat → Int} {d : Int} (H : Sim g h d) {k : Nat} (hk : k < 8) {e p f r : Int} (hl : lineB e p f r = true) (hp : p % 4 = ((k / 2 : Nat) : Int)) : Sim (fillG g k e p f r) (fillH h k e p f r) d := by
 obtain ⟨he, hpp, hf, hr⟩ := lineB_yes hl
 obtain ⟨h0, h1, h2, h3⟩ := H
 have n1 := fillG_now g k e p f r hk
 have n2 := fillH_now h k e p f r hk
 refine ⟨by omega, h1, by omega, fun m hm => ?_⟩
 by_cases hmk : m = k
 ·subst hmk
  obtain ⟨a0, a1, a2, a3, a4⟩ := fillG_own g m e p f r
  obtain ⟨b0, b1, b2, b3, b4⟩ := fillH_own h m e p f r hk
  right
  rw [a0, a1, a2, a3, a4, b0, b1, b2, b3, b4, n1]
  exact ⟨by omega, by omega, by omega, by omega, by omega, by omega, hp, rfl, rfl, rfl, rfl, by omega⟩
 ·have a0 := fillG_far g k e p f r m 0 hmk (by omega) hm
  have a1 := fillG_far g k e p f r m 1 hmk (by omega) hm
  have a2 := fillG_far g k e p f r m 2 hmk (by omega) hm
  have a3 := fillG_far g k e p f r m 3 hmk (by omega) hm
  have a4 := fillG_far g k e p f r m 4 hmk (by omega) hm
  have b0 := fillH_far h k e p f r m 0 hmk (by omega) hm hk
  have b1 := fillH_far h k e p f r m 1 hmk (by omega) hm hk
  have b2 := fillH_far h k e p f r m 2 hmk (by omega) hm hk
  have b3 := fillH_far h k e p f r m 3 hmk (by omega) hm hk
  have b4 := fillH_at h k e p f r m hmk hm hk
  rw [Nat.add_zero] at a0 b0
  have h4 := h3 m hm
  unfold SimAt at h4 ⊢
  rw [a0, a1, a2, a3, a4, b0, b1, b2, b3, b4, n1]
  rcases h4 with h4 | ⟨c0, c1, c2⟩
  ·exact .inl h4
  ·exact .inr ⟨c0, by omega, c2⟩
theorem Sim.clear {g h : Nat → Int} {d : Int} (H : Sim g h d) {k : Nat} (hk : k < 8) : Sim (clearG g k) (noneH h k) d := by
 obtain ⟨h0, h1, h2, h3⟩ := H
 have n1 := clearG_now g k hk
 have n2 := noneH_now h k hk
 refine ⟨by omega, h1, by omega, fun m hm => ?_⟩
 by_cases hmk : m = k
 ·subst hmk
  obtain ⟨a0, a1, a2, a3, a4⟩ := clearG_own g m
  obtain ⟨b0, b1, b2, b3⟩ := noneH_own h m
  left
  exact ⟨a4, b0, b1, b2, b3⟩
 ·have a0 := clearG_far g k m 0 hmk (by omega)
  have a1 := clearG_far g k m 1 hmk (by omega)
  have a2 := clearG_far g k m 2 hmk (by omega)
  have a3 := clearG_far g k m 3 hmk (by omega)
  have a4 := clearG_far g k m 4 hmk (by omega)
  have b0 := noneH_far h k m 0 hmk (by omega)
  have b1 := noneH_far h k m 1 hmk (by omega)
  have b2 := noneH_far h k m 2 hmk (by omega)
  have b3 := noneH_far h k m 3 hmk (by omega)
  have b4 := noneH_at h k m hk
  rw [Nat.add_zero] at a0 b0
  have h4 := h3 m hm
  unfold SimAt at h4 ⊢
  rw [a0, a1, a2, a3, a4, b0, b1, b2, b3, b4, n1]
  exact h4
def ffG (g : Nat → Int) (f : Int) : Nat → Nat → Int
 | 0 => g
 | k + 1 => if ¬ ffG g f k (k * 5 + 4) = 0 ∧ ffG g f k (k * 5 + 2) = f then clearG (ffG g f k) k else ffG g f k
end Go.Proofs.YtdfhfmdelinemaaGreatDoor
namespace Go.Proofs.YtdfhfmdelinemaaGreatDoor
open Go.RowKit Go.Extern.Stop Go.Stop Go.Extern
def NumsIs (n : Nat) (w : World) (T : Nat) (g : Nat → Int) : Prop :=
 (∀ j, j < n → w.cell? ⟨T, j, none⟩ = some (.int .i64 (g j))) ∧ (∀ j, w.frozen? ⟨T, j, none⟩ = false) ∧ T < w.heap.size
theorem NumsIs.later {n : Nat} {w w' : World} {T : Nat} {g : Nat → Int} (h : NumsIs n w T g) (hb : Below w.heap.size w w') : NumsIs n w' T g := by
 obtain ⟨h1, h2, h3⟩ := h
 exact ⟨fun j hj => (hb.cell (p := ⟨T, j, none⟩) h3).trans (h1 j hj), fun j => (hb.frozen (p := ⟨T, j, none⟩) h3).trans (h2 j), Nat.lt_of_lt_of_le h3 hb.size⟩
theorem NumsIs.congr {n : Nat} {w : World} {T : Nat} {g g' : Nat → Int} (h : NumsIs n w T g) (he : ∀ j, j < n → g' j = g j) : NumsIs n w T g' :=
 ⟨fun j hj => by rw [he j hj]; exact h.1 j hj, h.2⟩
theorem NumsIs.set {n : Nat} {w : World} {T i : Nat} {g : Nat → Int} (h : NumsIs n w T g) (hi : i < n) (u : Int) : NumsIs n (w.setCell ⟨T, i, none⟩ (.int .i64 u)) T (fun j => if j = i then u else g j) := by
 obtain ⟨h1, h2, h3⟩ := h
 refine ⟨fun j hj => ?_, fun j => ?_, by simpa using h3⟩
 ·by_cases he : j = i
  ·subst he
   rw [World.cell?_setCell_same _ _ _ (h1 j hj)]
   simp
  ·rw [World.cell?_setCell_other _ _ _ _ (fun e => he (congrArg Addr.off e).symm)]
   simp only [if_neg he]
   exact h1 j hj
 ·rw [World.frozen?_setCell]
  exact h2 j
theorem NumsIs.alloc {n : Nat} {w : World} {T : Nat} {g : Nat → Int} (h : NumsIs n w T g) (o : Obj) : NumsIs n (w.alloc o) T g := h.later ((Below.refl _ _).alloc (Nat.le_refl _) _)
theorem NumsIs.drewN {n : Nat} {w : World} {T : Nat} {g : Nat → Int} (h : NumsIs n w T g) (m : Nat) : NumsIs n (w.drewN m) T g := h
theorem NumsIs.only {n : Nat} {w w' : World} {T S : Nat} {g : Nat → Int} (h : NumsIs n w T g) (hb : OnlyT S w w') (hne : T ≠ S) : NumsIs n w' T g := by
 obtain ⟨h1, h2, h3⟩ := h
 have hk := hb.block T h3 (fun e => hne (by injection e))
 exact ⟨fun j hj => (World.cell?_of_block (a := ⟨T, j, none⟩) hk).trans (h1 j hj), fun j => (World.frozen?_of_block (a := ⟨T, j, none⟩) hk).trans (h2 j), Nat.lt_of_lt_of_le h3 hb.size⟩
theorem tlbelow (n m : Int) (w : World) : Calls Tryz.prog 181 #[.int .i64 n, .int .i64 m] w fun e w' => e = .returned (.bool (decide (0 ≤ n) && decide (n < m))) ∧ w = w' := by
 by_cases h1 : 0 ≤ n
 all_goals by_cases h2 : n < m
 all_goals
  go_enter Tryz.func181, Tryz.ntmps181
  go_wp2
  go_ret
  simp [h1, h2]
theorem tlbelow_yes (n m : Int) (h1 : 0 ≤ n) (h2 : n < m) (w : World) : Calls Tryz.prog 181 #[.int .i64 n, .int .i64 m] w fun e w' => e = .returned (.bool true) ∧ w = w' :=
 (tlbelow n m w).mono fun _ _ ⟨he, hw⟩ => ⟨by rw [he]; simp [h1, h2], hw⟩
theorem tlbelow_no (n m : Int) (h : n < 0 ∨ m ≤ n) (w : World) : Calls Tryz.prog 181 #[.int .i64 n, .int .i64 m] w fun e w' => e = .returned (.bool false) ∧ w = w' :=
 (tlbelow n m w).mono fun _ _ ⟨he, hw⟩ => ⟨by rw [he]; rcases h with h | h <;> simp <;> omega, hw⟩
theorem full_yes (B o : Nat) (x : Int) (w : World) (hc : w.cell? ⟨B, o + 4, none⟩ = some (.int .i64 x)) (hx : ¬ x = 0) : Calls Tryz.prog 182 #[.pointer (some ⟨B, o, none⟩)] w fun e w' => e = .returned (.bool true) ∧ w = w' := by
 go_enter Tryz.func182, Tryz.ntmps182
 go_wp2
 go_ret
 exact ⟨by simp [hx], rfl⟩
theorem full_no (B o : Nat) (w : World) (hc : w.cell? ⟨B, o + 4, none⟩ = some (.int .i64 0)) : Calls Tryz.prog 182 #[.pointer (some ⟨B, o, none⟩)] w fun e w' => e = .returned (.bool false) ∧ w = w' := by
 go_enter Tryz.func182, Tryz.ntmps182
 go_wp2
 go_ret
 exact ⟨rfl, rfl⟩
theorem set_any (T s : Nat) (hs : s < 4) (w : World) : Calls Tryz.prog 168 #[.pointer (some ⟨T, 0, none⟩), .int .i64 (s : Int)] w fun e w' => e = .returned (.slice (some ⟨T, s * 10, none⟩) 2 (8 - s * 2)) ∧ w = w' := by
 have hc : s = 0 ∨ s = 1 ∨ s = 2 ∨ s = 3 := by omega
 rcases hc with rfl | rfl | rfl | rfl
 all_goals
  go_enter Tryz.func168, Tryz.ntmps168
  go_wp2
  go_ret
  exact ⟨rfl, rfl⟩
theorem NumsIs.clear {w : World} {T k : Nat} {g : Nat → Int} (h : NumsIs 41 w T g) (hk : k < 8) :
  NumsIs 41 (((((w.setCell ⟨T, k * 5, none⟩ (.int .i64 0)).setCell ⟨T, k * 5 + 1, none⟩ (.int .i64 0)).setCell ⟨T, k * 5 + 2, none⟩ (.int .i64 0)).setCell ⟨T, k * 5 + 3, none⟩ (.int .i64 0)).setCell ⟨T, k * 5 + 4, none⟩ (.int .i64 0)) T (clearG g k) :=
 ((((h.set (i := k * 5) (by omega) 0).set (i := k * 5 + 1) (by omega) 0).set (i := k * 5 + 2) (by omega) 0).set (i := k * 5 + 3) (by omega) 0).set (i := k * 5 + 4) (by omega) 0
theorem tp_five {w w' : World} {T : Nat} (h : OnlyT T w w') (k : Nat) (a b c d e : Value) : OnlyT T w (((((w'.setCell ⟨T, k * 5, none⟩ a).setCell ⟨T, k * 5 + 1, none⟩ b).setCell ⟨T, k * 5 + 2, none⟩ c).setCell ⟨T, k * 5 + 3, none⟩ d).setCell ⟨T, k * 5 + 4, none⟩ e) :=
 tp_set (tp_set (tp_set (tp_set (tp_set h _ _) _ _) _ _) _ _) _ _
theorem clear_yes (T k : Nat) (g : Nat → Int) (w : World) (ht : NumsIs 41 w T g) (hk : k < 8) (hz : ¬ g (k * 5 + 4) = 0) : Calls Tryz.prog 165 #[.pointer (some ⟨T, k * 5, none⟩)] w fun e w' => e = .returned (.bool true) ∧ NumsIs 41 w' T (clearG g k) ∧ OnlyT T w w' := by
 have HT := Lib.hid ht
 have d4 := ht.1 (k * 5 + 4) (by omega)
 clear ht
 go_enter Tryz.func165, Tryz.ntmps165
 go_wp2_with (refine (full_yes _ _ _ _ d4 hz).mono ?_; rintro e w1 ⟨rfl, rfl⟩; have d0 := HT.out.1 (k * 5) (by omega); have d1 := HT.out.1 (k * 5 + 1) (by omega); have d2 := HT.out.1 (k * 5 + 2) (by omega); have d3 := HT.out.1 (k * 5 + 3) (by omega); have e0 := HT.out.2.1 (k * 5); have e1 := HT.out.2.1 (k * 5 + 1); have e2 := HT.out.2.1 (k * 5 + 2); have e3 := HT.out.2.1 (k * 5 + 3); have e4 := HT.out.2.1 (k * 5 + 4))
 go_ret
 exact ⟨rfl, HT.out.clear hk, tp_five (tp_below (Below.refl _ _)) k _ _ _ _ _⟩
theorem hitB_no {g : Nat → Int} {e p : Int} {k : Nat} (h : hitB g e p k = false) : g (k * 5 + 4) = 0 ∨ ¬ g (k * 5) = e ∨ ¬ g (k * 5 + 1) = p := by
 have h := of_decide_eq_false h
 by_cases h0 : g (k * 5 + 4) = 0
 ·exact .inl h0
 ·by_cases h1 : g (k * 5) = e
  ·exact .inr (.inr fun h2 => h ⟨h0, h1, h2⟩)
  ·exact .inr (.inl h1)
theorem place_out (T : Nat) (e p : Int) (w : World) (hp : p < 0 ∨ 8 ≤ p) : Calls Tryz.prog 163 #[.pointer (some ⟨T, 0, none⟩), .int .i64 e, .int .i64 p] w fun e w' => e = .returned (.pointer none) ∧ w = w' := by
 go_enter Tryz.func163, Tryz.ntmps163
 go_wp2_with (refine (tlbelow_no _ _ hp _).mono ?_; rintro e w1 ⟨rfl, rfl⟩)
 go_ret
 exact ⟨rfl, rfl⟩
theorem ret_ptr {T a b : Nat} (h : a = b) : Ending.returned (.pointer (some ⟨T, a, none⟩)) = .returned (.pointer (some ⟨T, b, none⟩)) := by rw [h]
theorem set_of (p : Int) (hp : ¬ (p < 0 ∨ 8 ≤ p)) : ∃ s : Nat, s < 4 ∧ p.tmod 4 = (s : Int) ∧ p % 4 = (s : Int) := by
 have h := Int.tmod_eq_emod_of_nonneg (a := p) (b := 4) (by omega)
 exact ⟨(p % 4).toNat, by omega, by omega, by omega⟩
theorem NumsIs.two {w : World} {T : Nat} {g : Nat → Int} (h : NumsIs 41 w T g) (s k i : Nat) (hs : s < 4) (hk : k < 2) (hi : i < 5) : w.cell? ⟨T, s * 10 + k * 5 + i, none⟩ = some (.int .i64 (g ((s * 2 + k) * 5 + i))) := by
 rw [show s * 10 + k * 5 + i = (s * 2 + k) * 5 + i by omega]
 exact h.1 _ (by omega)
set_option maxRecDepth 100000 in
set_option maxHeartbeats 1000000 in
theorem place_none (T : Nat) (g : Nat → Int) (e p : Int) (w : World) (ht : NumsIs 41 w T g) (hn : ∀ k, k < 8 → hitB g e p k = false) : Calls Tryz.prog 163 #[.pointer (some ⟨T, 0, none⟩), .int .i64 e, .int .i64 p] w fun e w' => e = .returned (.pointer none) ∧ w = w' := by
 by_cases hp : p < 0 ∨ 8 ≤ p
 ·exact place_out T e p w hp
 ·obtain ⟨s, hs, hps, _⟩ := set_of p hp
  have HT := Lib.hid ht
  have HN := Lib.hid hn
  clear ht hn
  go_enter Tryz.func163, Tryz.ntmps163
  go_wp2_with (refine (tlbelow_yes _ _ (by omega) (by omega) _).mono ?_; rintro e w1 ⟨rfl, rfl⟩)
  go_wp2_with (refine (set_any T s hs _).mono ?_; rintro e w1 ⟨rfl, rfl⟩)
  clear hps
  go_loop [23] (fun c => ∃ k : Nat, k ≤ 2 ∧ c = .int .i64 k) (fun c => (2 - intOf c).toNat)
  case atStart => exact ⟨0, by omega, rfl⟩
  case round =>
   obtain ⟨k, hk, rfl⟩ := hrel
   by_cases hlt : k < 2
   ·have hx : (0 : Int) ≤ (k : Int) := by omega
    have hy : (k : Int) < 2 := by omega
    have d0 := HT.out.two s k 0 hs hlt (by omega)
    have d1 := HT.out.two s k 1 hs hlt (by omega)
    have d4 := HT.out.two s k 4 hs hlt (by omega)
    rw [Nat.add_zero, Nat.add_zero] at d0
    have hh := Lib.hid (hitB_no (HN.out (s * 2 + k) (by omega)))
    by_cases h0 : g ((s * 2 + k) * 5 + 4) = 0
    ·rw [h0] at d4
     clear h0
     go_wp2_with (refine (full_no _ _ _ d4).mono ?_; rintro e w1 ⟨rfl, rfl⟩)
     go_round
     case rel => exact ⟨k + 1, by omega, by go_num⟩
     case measure => simp [intOf]; omega
    ·have hc := hh.out.resolve_left h0
     by_cases he : g ((s * 2 + k) * 5) = e
     ·have hq : (g ((s * 2 + k) * 5 + 1) == p) = false := by simpa using hc.resolve_left (fun h => h he)
      rw [he] at d0
      clear he hc
      go_wp2_with (refine (full_yes _ _ _ _ d4 h0).mono ?_; rintro e w1 ⟨rfl, rfl⟩)
      go_round
      case rel => exact ⟨k + 1, by omega, by go_num⟩
      case measure => simp [intOf]; omega
     ·have hq : (g ((s * 2 + k) * 5) == e) = false := by simpa using he
      clear he hc
      go_wp2_with (refine (full_yes _ _ _ _ d4 h0).mono ?_; rintro e w1 ⟨rfl, rfl⟩)
      go_round
      case rel => exact ⟨k + 1, by omega, by go_num⟩
      case measure => simp [intOf]; omega
   ·obtain rfl : k = 2 := by omega
    go_wp2_with fail
    go_ret
    exact ⟨rfl, rfl⟩
set_option maxRecDepth 100000 in
set_option maxHeartbeats 1000000 in
theorem place_hit (T : Nat) (g : Nat → Int) (e p : Int) (w : World) (ht : NumsIs 41 w T g) (n : Nat) (hn8 : n < 8) (hp : 0 ≤ p ∧ p < 8 ∧ p % 4 = ((n / 2 : Nat) : Int)) (hit : hitB g e p n = true) (hn : ∀ k, k < n → hitB g e p k = false) : Calls Tryz.prog 163 #[.pointer (some ⟨T, 0, none⟩), .int .i64 e, .int .i64 p] w fun e w' => e = .returned (.pointer (some ⟨T, n * 5, none⟩)) ∧ w = w' := by
 obtain ⟨hp0, hp1, hpn⟩ := hp
 obtain ⟨s, hs, hps, hpq⟩ := set_of p (by omega)
 have HT := Lib.hid ht
 have HN := Lib.hid hn
 obtain ⟨way, hway, rfl⟩ : ∃ way : Nat, way < 2 ∧ n = s * 2 + way := ⟨n % 2, by omega, by omega⟩
 have HH := Lib.hid (of_decide_eq_true hit)
 clear ht hn hpn hpq hit
 go_enter Tryz.func163, Tryz.ntmps163
 go_wp2_with (refine (tlbelow_yes _ _ (by omega) (by omega) _).mono ?_; rintro e w1 ⟨rfl, rfl⟩)
 go_wp2_with (refine (set_any T s hs _).mono ?_; rintro e w1 ⟨rfl, rfl⟩)
 clear hps
 go_loop [23] (fun c => ∃ k : Nat, k ≤ way ∧ c = .int .i64 k) (fun c => (2 - intOf c).toNat)
 case atStart => exact ⟨0, by omega, rfl⟩
 case round =>
  obtain ⟨k, hk, rfl⟩ := hrel
  have hlt : k < 2 := by omega
  have hx : (0 : Int) ≤ (k : Int) := by omega
  have hy : (k : Int) < 2 := by omega
  have d0 := HT.out.two s k 0 hs hlt (by omega)
  have d1 := HT.out.two s k 1 hs hlt (by omega)
  have d4 := HT.out.two s k 4 hs hlt (by omega)
  rw [Nat.add_zero, Nat.add_zero] at d0
  by_cases hw : k = way
  ·subst hw
   obtain ⟨h0, h1, h2⟩ := HH.out
   rw [h1] at d0
   rw [h2] at d1
   clear h1 h2
   go_wp2_with (refine (full_yes _ _ _ _ d4 h0).mono ?_; rintro e w1 ⟨rfl, rfl⟩)
   go_ret
   exact ⟨ret_ptr (by omega), rfl⟩
  ·have hh := Lib.hid (hitB_no (HN.out (s * 2 + k) (by omega)))
   by_cases h0 : g ((s * 2 + k) * 5 + 4) = 0
   ·rw [h0] at d4
    clear h0
    go_wp2_with (refine (full_no _ _ _ d4).mono ?_; rintro e w1 ⟨rfl, rfl⟩)
    go_round
    case rel => exact ⟨k + 1, by omega, by go_num⟩
    case measure => simp [intOf]; omega
   ·have hc := hh.out.resolve_left h0
    by_cases he : g ((s * 2 + k) * 5) = e
    ·have hq : (g ((s * 2 + k) * 5 + 1) == p) = false := by simpa using hc.resolve_left (fun h => h he)
     rw [he] at d0
     clear he hc
     go_wp2_with (refine (full_yes _ _ _ _ d4 h0).mono ?_; rintro e w1 ⟨rfl, rfl⟩)
     go_round
     case rel => exact ⟨k + 1, by omega, by go_num⟩
     case measure => simp [intOf]; omega
    ·have hq : (g ((s * 2 + k) * 5) == e) = false := by simpa using he
     clear he hc
     go_wp2_with (refine (full_yes _ _ _ _ d4 h0).mono ?_; rintro e w1 ⟨rfl, rfl⟩)
     go_round
     case rel => exact ⟨k + 1, by omega, by go_num⟩
     case measure => simp [intOf]; omega
end Go.Proofs.YtdfhfmdelinemaaGreatDoor
namespace Go.Proofs.YtdfhfmdelinemaaGreatDoor
open Go.RowKit Go.Extern.Stop Go.Stop Go.Extern
theorem zeros_at {n : Nat} {cs : Array Value} (h : cs.toList = List.replicate n (.int .i64 0)) (j : Nat) (hj : j < n) : cs[j]? = some (.int .i64 0) := by
 rw [← Array.getElem?_toList, h, List.getElem?_replicate, if_pos hj]
theorem NumsIs.zeros {n : Nat} (w : World) (t : TypeId) {cs : Array Value} (h : cs.toList = List.replicate n (.int .i64 0)) : NumsIs n (w.alloc (.cells cs t)) w.heap.size (fun _ => 0) := by
 have hh := heap_alloc_new w (.cells cs t)
 exact ⟨fun j hj => (bk_cell hh j).trans (zeros_at h j hj), fun j => bk_free hh j, bk_lt hh⟩
theorem tlb_new (w : World) : Calls Tryz.prog 27 #[] w fun e w' => e = .returned (.pointer (some ⟨w.heap.size, 0, none⟩)) ∧ Below w.heap.size w w' ∧ NumsIs 41 w' w.heap.size (fun _ => 0) := by
 go_enter Tryz.func27, Tryz.ntmps27
 go_wp2
 go_ret
 exact ⟨rfl, (Below.refl _ _).alloc (Nat.le_refl _) _, NumsIs.zeros w _ rfl⟩
theorem tlmay_yes (e p f r : Int) (h : lineB e p f r = true) (w : World) : Calls Tryz.prog 166 #[.agg #[.int .i64 e, .int .i64 p, .int .i64 f, .int .i64 r]] w fun e w' => e = .returned (.bool true) ∧ Below w.heap.size w w' := by
 obtain ⟨⟨e1, e2⟩, ⟨p1, p2⟩, ⟨f1, f2⟩, r1, r2⟩ := lineB_yes h
 clear h
 go_enter Tryz.func166, Tryz.ntmps166
 go_wp2_with (first | ((with_reducible refine (tlbelow_yes e 4 (by omega) (by omega) _).mono ?_); rintro e w1 ⟨rfl, rfl⟩) | ((with_reducible refine (tlbelow_yes p 8 (by omega) (by omega) _).mono ?_); rintro e w1 ⟨rfl, rfl⟩) | ((with_reducible refine (tlbelow_yes f 16 (by omega) (by omega) _).mono ?_); rintro e w1 ⟨rfl, rfl⟩) | ((with_reducible refine (may_yes r (by omega) (by omega) _).mono ?_); rintro e w1 ⟨rfl, rfl⟩))
 go_ret
 exact ⟨rfl, (Below.refl _ _).alloc (Nat.le_refl _) _⟩
theorem old_step (g : Nat → Int) (s : Nat) : (g ((s * 2 + 1) * 5 + 4) < g (s * 2 * 5 + 4) → old g s = s * 2 + 1) ∧ (¬ g ((s * 2 + 1) * 5 + 4) < g (s * 2 * 5 + 4) → old g s = s * 2) := by
 unfold old
 exact ⟨fun h => if_pos h, fun h => if_neg h⟩
def OldAt (g : Nat → Int) (T s : Nat) (v c : Value) : Prop :=
 (c = .int .i64 0 ∧ v = .pointer (some ⟨T, s * 10, none⟩)) ∨ (c = .int .i64 1 ∧ v = .pointer (some ⟨T, s * 10, none⟩)) ∨ (c = .int .i64 2 ∧ v = .pointer (some ⟨T, old g s * 5, none⟩))
theorem NumsIs.fst {w : World} {T : Nat} {g : Nat → Int} (h : NumsIs 41 w T g) (s : Nat) (hs : s < 4) : w.cell? ⟨T, s * 10 + 4, none⟩ = some (.int .i64 (g (s * 2 * 5 + 4))) := by
 rw [show s * 10 + 4 = s * 2 * 5 + 4 by omega]
 exact h.1 _ (by omega)
theorem NumsIs.snd {w : World} {T : Nat} {g : Nat → Int} (h : NumsIs 41 w T g) (s : Nat) (hs : s < 4) : w.cell? ⟨T, s * 10 + 5 + 4, none⟩ = some (.int .i64 (g ((s * 2 + 1) * 5 + 4))) := by
 rw [show s * 10 + 5 + 4 = (s * 2 + 1) * 5 + 4 by omega]
 exact h.1 _ (by omega)
set_option maxRecDepth 100000 in
set_option maxHeartbeats 1000000 in
theorem oldest_any (T s c : Nat) (g : Nat → Int) (w : World) (ht : NumsIs 41 w T g) (hs : s < 4) : Calls Tryz.prog 167 #[.slice (some ⟨T, s * 10, none⟩) 2 c] w fun e w' => e = .returned (.pointer (some ⟨T, old g s * 5, none⟩)) ∧ Below w.heap.size w w' := by
 have HT := Lib.hid ht
 clear ht
 go_enter Tryz.func167, Tryz.ntmps167
 go_wp2_with fail
 go_loopw [3, 10] (fun v c W => OldAt g T s v c ∧ Below w.heap.size w W) (fun _ c _ => (2 - intOf c).toNat)
 case atStart => exact ⟨.inl ⟨rfl, rfl⟩, Below.refl _ _⟩
 case round =>
  obtain ⟨ho, hb⟩ := hrel
  have HB := Lib.hid hb
  have hN := HT.out.later hb
  have d0 := hN.fst s hs
  have d1 := hN.snd s hs
  clear hb hN
  rcases ho with ⟨rfl, rfl⟩ | ⟨rfl, rfl⟩ | ⟨rfl, rfl⟩
  ·go_wp2_with fail
   go_quiet (fail)
   go_wp2_with fail
   go_roundw
   case rel => exact ⟨.inr (.inl ⟨by go_num, rfl⟩), dn HB.out _⟩
   case measure => simp [intOf]
  ·by_cases hlt : g ((s * 2 + 1) * 5 + 4) < g (s * 2 * 5 + 4)
   ·have HO := Lib.hid ((old_step g s).1 hlt)
    go_wp2_with fail
    go_quiet (fail)
    go_wp2_with fail
    go_roundw
    case rel => exact ⟨.inr (.inr ⟨by go_num, by rw [HO.out, show (s * 2 + 1) * 5 = s * 10 + 5 by omega]⟩), dn HB.out _⟩
    case measure => simp [intOf]
   ·have HO := Lib.hid ((old_step g s).2 hlt)
    have hle : g (s * 2 * 5 + 4) ≤ g ((s * 2 + 1) * 5 + 4) := by omega
    go_wp2_with fail
    go_quiet (fail)
    go_wp2_with fail
    go_roundw
    case rel => exact ⟨.inr (.inr ⟨by go_num, by rw [HO.out, show s * 2 * 5 = s * 10 by omega]⟩), dn HB.out _⟩
    case measure => simp [intOf]
  ·go_wp2_with fail
   go_ret
   exact ⟨rfl, HB.out⟩
theorem tfind_no (T : Nat) (g : Nat → Int) (e p : Int) (w : World) (ht : NumsIs 41 w T g) (hn : ∀ k, k < 8 → hitB g e p k = false) : Calls Tryz.prog 133 #[.pointer (some ⟨T, 0, none⟩), .int .i64 e, .int .i64 p] w fun e w' => e = .returned (.tuple #[.agg #[.int .i64 0, .int .i64 0, .int .i64 0, .int .i64 0], .bool false]) ∧ Below w.heap.size w w' := by
 have HT := Lib.hid ht
 have HN := Lib.hid hn
 clear ht hn
 go_enter Tryz.func133, Tryz.ntmps133
 go_wp2_with (refine (place_none T g e p _ (HT.out.alloc _) HN.out).mono ?_; rintro e w1 ⟨rfl, rfl⟩)
 refine bodyPost_ret (v := .tuple #[.agg #[.int .i64 0, .int .i64 0, .int .i64 0, .int .i64 0], .bool false]) (by simp [results, Tryz.results133, go_sem]) rfl ⟨rfl, ?_⟩
 exact (Below.refl _ _).alloc (Nat.le_refl _) _
theorem tfind_hit (T : Nat) (g : Nat → Int) (e p : Int) (w : World) (ht : NumsIs 41 w T g) (n : Nat) (hn8 : n < 8) (hp : 0 ≤ p ∧ p < 8 ∧ p % 4 = ((n / 2 : Nat) : Int)) (hit : hitB g e p n = true) (hn : ∀ k, k < n → hitB g e p k = false) : Calls Tryz.prog 133 #[.pointer (some ⟨T, 0, none⟩), .int .i64 e, .int .i64 p] w fun e w' => e = .returned (.tuple #[.agg #[.int .i64 (g (n * 5)), .int .i64 (g (n * 5 + 1)), .int .i64 (g (n * 5 + 2)), .int .i64 (g (n * 5 + 3))], .bool true]) ∧ Below w.heap.size w w' := by
 have HT := Lib.hid ht
 have HN := Lib.hid hn
 have HP := Lib.hid hp
 have HH := Lib.hid hit
 clear ht hn hp hit
 go_enter Tryz.func133, Tryz.ntmps133
 go_wp2_with (refine (place_hit T g e p _ (HT.out.alloc _) n hn8 HP.out HH.out HN.out).mono ?_; rintro e w1 ⟨rfl, rfl⟩; have d0 := HT.out.1 (n * 5) (by omega); have d1 := HT.out.1 (n * 5 + 1) (by omega); have d2 := HT.out.1 (n * 5 + 2) (by omega); have d3 := HT.out.1 (n * 5 + 3) (by omega); have tl := HT.out.2.2)
 refine bodyPost_ret (v := .tuple #[.agg #[.int .i64 (g (n * 5)), .int .i64 (g (n * 5 + 1)), .int .i64 (g (n * 5 + 2)), .int .i64 (g (n * 5 + 3))], .bool true]) (by simp [results, Tryz.results133, go_sem]) rfl ⟨rfl, ?_⟩
 exact (Below.refl _ _).alloc (Nat.le_refl _) _
theorem tflush_no (T : Nat) (g : Nat → Int) (e p : Int) (w : World) (ht : NumsIs 41 w T g) (hn : ∀ k, k < 8 → hitB g e p k = false) : Calls Tryz.prog 136 #[.pointer (some ⟨T, 0, none⟩), .int .i64 e, .int .i64 p] w fun e w' => e = .returned (.bool false) ∧ w = w' := by
 have HT := Lib.hid ht
 have HN := Lib.hid hn
 clear ht hn
 go_enter Tryz.func136, Tryz.ntmps136
 go_wp2_with (refine (place_none T g e p _ HT.out HN.out).mono ?_; rintro e w1 ⟨rfl, rfl⟩)
 go_ret
 exact ⟨rfl, rfl⟩
theorem tflush_hit (T : Nat) (g : Nat → Int) (e p : Int) (w : World) (ht : NumsIs 41 w T g) (n : Nat) (hn8 : n < 8) (hp : 0 ≤ p ∧ p < 8 ∧ p % 4 = ((n / 2 : Nat) : Int)) (hit : hitB g e p n = true) (hn : ∀ k, k < n → hitB g e p k = false) : Calls Tryz.prog 136 #[.pointer (some ⟨T, 0, none⟩), .int .i64 e, .int .i64 p] w fun e w' => e = .returned (.bool true) ∧ NumsIs 41 w' T (clearG g n) ∧ OnlyT T w w' := by
 have HT := Lib.hid ht
 have HN := Lib.hid hn
 have HP := Lib.hid hp
 have HH := Lib.hid hit
 have HZ : Hid (¬ g (n * 5 + 4) = 0) := (of_decide_eq_true hit).1
 clear ht hn hp hit
 go_enter Tryz.func136, Tryz.ntmps136
 go_wp2_with (first | ((with_reducible refine (place_hit T g e p _ HT.out n hn8 HP.out HH.out HN.out).mono ?_); rintro e w1 ⟨rfl, rfl⟩) | ((with_reducible refine (clear_yes T n g _ HT.out hn8 HZ.out).mono ?_); rintro e w1 ⟨rfl, hn, ho⟩; have HN := Lib.hid hn; have HO := Lib.hid ho; clear hn ho))
 go_ret
 exact ⟨rfl, HN.out, HO.out⟩
end Go.Proofs.YtdfhfmdelinemaaGreatDoor
namespace Go.Proofs.YtdfhfmdelinemaaGreatDoor
open Go.RowKit Go.Extern.Stop Go.Stop Go.Extern
theorem NumsIs.fill {w : World} {T k : Nat} {g : Nat → Int} (h : NumsIs 41 w T (fun j => if j = 40 then g 40 + 1 else g j)) (hk : k < 8) (e p f r : Int) :
  NumsIs 41 (((((w.setCell ⟨T, k * 5, none⟩ (.int .i64 e)).setCell ⟨T, k * 5 + 1, none⟩ (.int .i64 p)).setCell ⟨T, k * 5 + 2, none⟩ (.int .i64 f)).setCell ⟨T, k * 5 + 3, none⟩ (.int .i64 r)).setCell ⟨T, k * 5 + 4, none⟩ (.int .i64 (g 40 + 1))) T (fillG g k e p f r) :=
 ((((h.set (i := k * 5) (by omega) e).set (i := k * 5 + 1) (by omega) p).set (i := k * 5 + 2) (by omega) f).set (i := k * 5 + 3) (by omega) r).set (i := k * 5 + 4) (by omega) (g 40 + 1)
theorem NumsIs.drew {n : Nat} {w : World} {T : Nat} {g : Nat → Int} (h : NumsIs n w T g) : NumsIs n w.drew T g := h.drewN 1
theorem tp_drew {w w' : World} {T : Nat} (h : OnlyT T w w') : OnlyT T w w'.drew := ⟨h.os, h.tape, h.output, h.size, h.block⟩
set_option maxRecDepth 100000 in
set_option maxHeartbeats 2000000 in
theorem tfill_hit (T : Nat) (g : Nat → Int) (e p f r : Int) (w : World) (ht : NumsIs 41 w T g) (h40 : 0 ≤ g 40 ∧ g 40 ≤ 1000) (hl : lineB e p f r = true) (n : Nat) (hn8 : n < 8) (hp : p % 4 = ((n / 2 : Nat) : Int)) (hit : hitB g e p n = true) (hn : ∀ k, k < n → hitB g e p k = false) : Calls Tryz.prog 137 #[.pointer (some ⟨T, 0, none⟩), .agg #[.int .i64 e, .int .i64 p, .int .i64 f, .int .i64 r]] w fun e' w' => e' = .returned (.bool true) ∧ NumsIs 41 w' T (fillG g n e p f r) ∧ OnlyT T w w' := by
 have HP : Hid (0 ≤ p ∧ p < 8 ∧ p % 4 = ((n / 2 : Nat) : Int)) := ⟨(lineB_yes hl).2.1.1, (lineB_yes hl).2.1.2, hp⟩
 have HK := Lib.hid hn8
 have HN := Lib.hid hn
 have HH := Lib.hid hit
 have HT := Lib.hid ht
 have HL := Lib.hid (fun W => tlmay_yes e p f r hl W)
 obtain ⟨h401, h402⟩ := h40
 go_enter Tryz.func137, Tryz.ntmps137
 go_wp2_with fail
 refine (HL.out _).mono ?_
 rintro e w1 ⟨rfl, hb⟩
 have B1 := Lib.hid (bl_alloc (Below.refl w.heap.size w) hb)
 have K1 := Lib.hid (bk_one hb)
 have T1 := Lib.hid (HT.out.later B1.out)
 clear hb
 have c0 := bk_cell K1.out 0
 have c1 := bk_cell K1.out 1
 have c2 := bk_cell K1.out 2
 have c3 := bk_cell K1.out 3
 go_wp2_with fail
 refine (place_hit T g e p _ T1.out n hn8 HP.out HH.out HN.out).mono ?_
 rintro e w2 ⟨rfl, rfl⟩
 have l0 := T1.out.1 40 (by omega)
 have q0 := T1.out.2.1 40
 go_wp2_with fail
 obtain ⟨w4, hw4⟩ : ∃ w4, w4 = w1.setCell ⟨T, 40, none⟩ (.int .i64 (g 40 + 1)) := ⟨_, rfl⟩
 have T4 : Hid (NumsIs 41 w4 T (fun j => if j = 40 then g 40 + 1 else g j)) := by rw [hw4]; exact T1.out.set (i := 40) (by omega) _
 have O4 : Hid (OnlyT T w w4) := by rw [hw4]; exact tp_set (tp_below B1.out) _ _
 have K4 : Hid (w4.heap[w.heap.size]? = some (.cells #[.int .i64 e, .int .i64 p, .int .i64 f, .int .i64 r] 85 (0, 0))) := by
  rw [hw4, Below.heap_setCell _ _ _ _ (show w.heap.size ≠ T by have := HT.out.2.2; omega)]; exact K1.out
 rw [← hw4]
 clear hw4 T1 B1 K1 l0 q0 c0 c1 c2 c3
 have c0 := bk_cell K4.out 0
 have c1 := bk_cell K4.out 1
 have c2 := bk_cell K4.out 2
 have c3 := bk_cell K4.out 3
 have l0 : w4.cell? ⟨T, 40, none⟩ = some (.int .i64 (g 40 + 1)) := T4.out.1 40 (by omega)
 have d0 := T4.out.1 (n * 5) (by omega)
 have d1 := T4.out.1 (n * 5 + 1) (by omega)
 have d2 := T4.out.1 (n * 5 + 2) (by omega)
 have d3 := T4.out.1 (n * 5 + 3) (by omega)
 have d4 := T4.out.1 (n * 5 + 4) (by omega)
 have e0 := T4.out.2.1 (n * 5)
 have e1 := T4.out.2.1 (n * 5 + 1)
 have e2 := T4.out.2.1 (n * 5 + 2)
 have e3 := T4.out.2.1 (n * 5 + 3)
 have e4 := T4.out.2.1 (n * 5 + 4)
 go_still_tail 8, (by kernel_rfl)
 change wpList _ _ _ _ _ w4.drew
 obtain ⟨w5, hw5⟩ : ∃ w5, w5 = w4.drew := ⟨_, rfl⟩
 have T5 : Hid (NumsIs 41 w5 T (fun j => if j = 40 then g 40 + 1 else g j)) := by rw [hw5]; exact T4.out.drew
 have O5 : Hid (OnlyT T w w5) := by rw [hw5]; exact tp_drew O4.out
 rw [← hw5]
 clear hw5 c0 c1 c2 c3 l0 d0 d1 d2 d3 d4 e0 e1 e2 e3 e4 T4 O4 K4
 have d0 := T5.out.1 (n * 5) (by omega)
 have d1 := T5.out.1 (n * 5 + 1) (by omega)
 have d2 := T5.out.1 (n * 5 + 2) (by omega)
 have d3 := T5.out.1 (n * 5 + 3) (by omega)
 have d4 := T5.out.1 (n * 5 + 4) (by omega)
 have e0 := T5.out.2.1 (n * 5)
 have e1 := T5.out.2.1 (n * 5 + 1)
 have e2 := T5.out.2.1 (n * 5 + 2)
 have e3 := T5.out.2.1 (n * 5 + 3)
 have e4 := T5.out.2.1 (n * 5 + 4)
 go_wp2_with fail
 go_ret
 exact ⟨rfl, T5.out.fill HK.out e p f r, tp_five O5.out (n) _ _ _ _ _⟩
set_option maxRecDepth 100000 in
set_option maxHeartbeats 2000000 in
theorem tfill_new (T : Nat) (g : Nat → Int) (e p f r : Int) (w : World) (ht : NumsIs 41 w T g) (h40 : 0 ≤ g 40 ∧ g 40 ≤ 1000) (hl : lineB e p f r = true) (hn : ∀ k, k < 8 → hitB g e p k = false) (s : Nat) (hs : s < 4) (hps : p % 4 = (s : Int)) : Calls Tryz.prog 137 #[.pointer (some ⟨T, 0, none⟩), .agg #[.int .i64 e, .int .i64 p, .int .i64 f, .int .i64 r]] w fun e' w' => e' = .returned (.bool true) ∧ NumsIs 41 w' T (fillG g (old g s) e p f r) ∧ OnlyT T w w' := by
 have hpt : p.tmod 4 = (s : Int) := by rw [Int.tmod_eq_emod_of_nonneg (lineB_yes hl).2.1.1]; exact hps
 have HK := Lib.hid (old_in g s hs).1
 have hk8 := HK.out
 have HN := Lib.hid hn
 have HPT := Lib.hid hpt
 clear hn hps hpt
 have HT := Lib.hid ht
 have HL := Lib.hid (fun W => tlmay_yes e p f r hl W)
 obtain ⟨h401, h402⟩ := h40
 go_enter Tryz.func137, Tryz.ntmps137
 go_wp2_with fail
 refine (HL.out _).mono ?_
 rintro e w1 ⟨rfl, hb⟩
 have B1 := Lib.hid (bl_alloc (Below.refl w.heap.size w) hb)
 have K1 := Lib.hid (bk_one hb)
 have T1 := Lib.hid (HT.out.later B1.out)
 clear hb
 have c0 := bk_cell K1.out 0
 have c1 := bk_cell K1.out 1
 have c2 := bk_cell K1.out 2
 have c3 := bk_cell K1.out 3
 go_wp2_with fail
 refine (place_none T g e p _ T1.out HN.out).mono ?_
 rintro e w2 ⟨rfl, rfl⟩
 have hpt := HPT.out
 go_wp2_with fail
 refine (set_any T s hs _).mono ?_
 rintro e w2 ⟨rfl, rfl⟩
 go_wp2_with fail
 refine (oldest_any T s _ g _ T1.out hs).mono ?_
 rintro e w3 ⟨rfl, hb⟩
 have B3 := Lib.hid (bl_trans B1.out hb)
 have K3 := Lib.hid (bk_below K1.out hb)
 have T3 := Lib.hid (T1.out.later hb)
 clear hb hpt B1 K1 T1
 have l0 := T3.out.1 40 (by omega)
 have q0 := T3.out.2.1 40
 go_wp2_with fail
 obtain ⟨w4, hw4⟩ : ∃ w4, w4 = w3.setCell ⟨T, 40, none⟩ (.int .i64 (g 40 + 1)) := ⟨_, rfl⟩
 have T4 : Hid (NumsIs 41 w4 T (fun j => if j = 40 then g 40 + 1 else g j)) := by rw [hw4]; exact T3.out.set (i := 40) (by omega) _
 have O4 : Hid (OnlyT T w w4) := by rw [hw4]; exact tp_set (tp_below B3.out) _ _
 have K4 : Hid (w4.heap[w.heap.size]? = some (.cells #[.int .i64 e, .int .i64 p, .int .i64 f, .int .i64 r] 85 (0, 0))) := by
  rw [hw4, Below.heap_setCell _ _ _ _ (show w.heap.size ≠ T by have := HT.out.2.2; omega)]; exact K3.out
 rw [← hw4]
 clear hw4 T3 B3 K3 l0 q0 c0 c1 c2 c3
 have c0 := bk_cell K4.out 0
 have c1 := bk_cell K4.out 1
 have c2 := bk_cell K4.out 2
 have c3 := bk_cell K4.out 3
 have l0 : w4.cell? ⟨T, 40, none⟩ = some (.int .i64 (g 40 + 1)) := T4.out.1 40 (by omega)
 have d0 := T4.out.1 (old g s * 5) (by omega)
 have d1 := T4.out.1 (old g s * 5 + 1) (by omega)
 have d2 := T4.out.1 (old g s * 5 + 2) (by omega)
 have d3 := T4.out.1 (old g s * 5 + 3) (by omega)
 have d4 := T4.out.1 (old g s * 5 + 4) (by omega)
 have e0 := T4.out.2.1 (old g s * 5)
 have e1 := T4.out.2.1 (old g s * 5 + 1)
 have e2 := T4.out.2.1 (old g s * 5 + 2)
 have e3 := T4.out.2.1 (old g s * 5 + 3)
 have e4 := T4.out.2.1 (old g s * 5 + 4)
 go_still_tail 8, (by kernel_rfl)
 change wpList _ _ _ _ _ w4.drew
 obtain ⟨w5, hw5⟩ : ∃ w5, w5 = w4.drew := ⟨_, rfl⟩
 have T5 : Hid (NumsIs 41 w5 T (fun j => if j = 40 then g 40 + 1 else g j)) := by rw [hw5]; exact T4.out.drew
 have O5 : Hid (OnlyT T w w5) := by rw [hw5]; exact tp_drew O4.out
 rw [← hw5]
 clear hw5 c0 c1 c2 c3 l0 d0 d1 d2 d3 d4 e0 e1 e2 e3 e4 T4 O4 K4
 have d0 := T5.out.1 (old g s * 5) (by omega)
 have d1 := T5.out.1 (old g s * 5 + 1) (by omega)
 have d2 := T5.out.1 (old g s * 5 + 2) (by omega)
 have d3 := T5.out.1 (old g s * 5 + 3) (by omega)
 have d4 := T5.out.1 (old g s * 5 + 4) (by omega)
 have e0 := T5.out.2.1 (old g s * 5)
 have e1 := T5.out.2.1 (old g s * 5 + 1)
 have e2 := T5.out.2.1 (old g s * 5 + 2)
 have e3 := T5.out.2.1 (old g s * 5 + 3)
 have e4 := T5.out.2.1 (old g s * 5 + 4)
 go_wp2_with fail
 go_ret
 exact ⟨rfl, T5.out.fill HK.out e p f r, tp_five O5.out (old g s) _ _ _ _ _⟩
end Go.Proofs.YtdfhfmdelinemaaGreatDoor
namespace Go.Proofs.YtdfhfmdelinemaaGreatDoor
open Go.RowKit Go.Extern.Stop Go.Stop Go.Extern
structure Thing where
 S : Nat → Prop
 P : World → Prop
 foot : ∀ W W', P W → W.heap.size ≤ W'.heap.size → (∀ i, S i → i < W.heap.size → W'.heap[i]? = W.heap[i]?) → P W'
 lt : ∀ W, P W → ∀ i, S i → i < W.heap.size
def Side (w W : World) : List Thing → Prop
 | [] => Below w.heap.size w W
 | o :: l => o.P W ∧ (∀ i, o.S i → w.heap.size ≤ i) ∧ (∀ q, q ∈ l → ∀ i, o.S i → ¬ q.S i) ∧ Side w W l
theorem Side.below {w W : World} : ∀ {l : List Thing}, Side w W l → Below w.heap.size w W
 | [], h => h
 | _ :: _, h => Side.below h.2.2.2
theorem Side.lt {w W : World} : ∀ {l : List Thing}, Side w W l → ∀ q, q ∈ l → ∀ i, q.S i → i < W.heap.size
 | [], _, _, hq, _, _ => by cases hq
 | o :: l, h, q, hq, i, hi => by
  rcases List.mem_cons.1 hq with rfl | hq
  ·exact q.lt W h.1 i hi
  ·exact Side.lt h.2.2.2 q hq i hi
theorem Side.under {w W W' : World} (hb : Below W.heap.size W W') : ∀ {l : List Thing}, Side w W l → Side w W' l
 | [], h => bl_trans h hb
 | o :: _, h => ⟨o.foot W W' h.1 hb.size fun i _ hi => hb.block i hi, h.2.1, h.2.2.1, Side.under hb h.2.2.2⟩
theorem Side.make {w W W' : World} {l : List Thing} (h : Side w W l) (hb : Below W.heap.size W W') (o : Thing) (ho : o.P W') (hn : ∀ i, o.S i → W.heap.size ≤ i) : Side w W' (o :: l) :=
 ⟨ho, fun i hi => Nat.le_trans h.below.size (hn i hi), fun q hq i hi hqi => by have := h.lt q hq i hqi; have := hn i hi; omega, h.under hb⟩
theorem Side.only {w W W' : World} {S : Nat → Prop} (ho : Only S W W') (hS : ∀ i, S i → w.heap.size ≤ i) : ∀ {l : List Thing}, Side w W l → (∀ q, q ∈ l → ∀ i, S i → ¬ q.S i) → Side w W' l
 | [], h, _ => by
  obtain ⟨h1, h2, h3, h4, h5⟩ := ho
  have h : Below w.heap.size w W := h
  exact ⟨h1.trans h.os, h2.trans h.tape, h3.trans h.output, Nat.le_trans h.size h4, fun i hi => (h5 i (Nat.lt_of_lt_of_le hi h.size) (fun hs => by have := hS i hs; omega)).trans (h.block i hi)⟩
 | o :: l, h, hd => ⟨o.foot W W' h.1 ho.2.2.2.1 fun i hi hl => ho.2.2.2.2 i hl fun hs => hd o (List.mem_cons_self ..) i hs hi, h.2.1, h.2.2.1, Side.only ho hS h.2.2.2 fun q hq => hd q (List.mem_cons_of_mem _ hq)⟩
theorem Side.step {w W W' : World} {o : Thing} (o' : Thing) {l2 : List Thing} (hp : o'.P W') (hn : ∀ i, o'.S i → o.S i ∨ W.heap.size ≤ i) (ho : Only o.S W W') : ∀ (l1 : List Thing), Side w W (l1 ++ o :: l2) → Side w W' (l1 ++ o' :: l2)
 | [], h => by
  obtain ⟨h1, h2, h3, h4⟩ := h
  refine ⟨hp, fun i hi => ?_, fun q hq i hi hqi => ?_, h4.only ho h2 h3⟩
  ·rcases hn i hi with h | h
   ·exact h2 i h
   ·exact Nat.le_trans h4.below.size h
  ·rcases hn i hi with h | h
   ·exact h3 q hq i h hqi
   ·have := h4.lt q hq i hqi
    omega
 | q :: l1, h => by
  obtain ⟨h1, h2, h3, h4⟩ := h
  have hqo : ∀ i, q.S i → ¬ o.S i := h3 o (List.mem_append_right _ (List.mem_cons_self ..))
  refine ⟨q.foot W W' h1 ho.2.2.2.1 fun i hi hl => ho.2.2.2.2 i hl (hqo i hi), h2, fun r hr i hi hri => ?_, Side.step o' hp hn ho l1 h4⟩
  rcases List.mem_append.1 hr with hr | hr
  ·exact h3 r (List.mem_append_left _ hr) i hi hri
  ·rcases List.mem_cons.1 hr with rfl | hr
   ·rcases hn i hri with h | h
    ·exact hqo i hi h
    ·have := q.lt W h1 i hi
     omega
   ·exact h3 r (List.mem_append_right _ (List.mem_cons_of_mem _ hr)) i hi hri
theorem Side.at {w W : World} {o : Thing} {l2 : List Thing} : ∀ (l1 : List Thing), Side w W (l1 ++ o :: l2) → o.P W
 | [], h => h.1
 | _ :: l1, h => Side.at l1 h.2.2.2
theorem only_T {W W' : World} {T : Nat} (h : OnlyT T W W') : Only (fun i => i = T) W W' := ⟨h.os, h.tape, h.output, h.size, fun i hi hn => h.block i hi fun e => hn (by injection e with e)⟩
def fixT (B : Nat) (o : Obj) : Thing := ⟨fun i => i = B, fun W => W.heap[B]? = some o, fun _ _ h _ hb => (hb B rfl (bk_lt h)).trans h, fun _ h i hi => by subst hi; exact bk_lt h⟩
theorem Side.mem {w W : World} : ∀ {l : List Thing}, Side w W l → ∀ q, q ∈ l → q.P W
 | [], _, _, hq => by cases hq
 | o :: l, h, q, hq => by
  rcases List.mem_cons.1 hq with rfl | hq
  ·exact h.1
  ·exact Side.mem h.2.2.2 q hq
theorem Side.box {w W : World} {l : List Thing} (h : Side w W l) (o : Obj) : Side w (W.alloc o) (fixT W.heap.size o :: l) :=
 h.make ((Below.refl _ _).alloc (Nat.le_refl _) _) (fixT W.heap.size o) (heap_alloc_new W o) (fun i hi => by have hi : i = W.heap.size := hi; omega)
theorem Side.boxAt {w W : World} {l : List Thing} (h : Side w W l) (o : Obj) (n : Nat) (hn : W.heap.size = n) : Side w (W.alloc o) (fixT n o :: l) := hn ▸ h.box o
theorem Side.start (w : World) : Side w w [] := Below.refl _ _
theorem set_block {w : World} {b : Nat} {cs : Array Value} {t : TypeId} (h : w.heap[b]? = some (.cells cs t (0, 0))) (i : Nat) (u : Value) : (w.setCell ⟨b, i, none⟩ u).heap[b]? = some (.cells (cs.setIfInBounds i u) t (0, 0)) := by
 have hl := bk_lt h
 unfold World.setCell
 simp [Array.getElem?_modify, h]
theorem Side.store {w W : World} {B : Nat} {cs : Array Value} {t : TypeId} {l1 l2 : List Thing} (h : Side w W (l1 ++ fixT B (.cells cs t (0, 0)) :: l2)) (i : Nat) (u : Value) : Side w (W.setCell ⟨B, i, none⟩ u) (l1 ++ fixT B (.cells (cs.setIfInBounds i u) t (0, 0)) :: l2) :=
 Side.step (W := W) (W' := W.setCell ⟨B, i, none⟩ u) (o := fixT B (.cells cs t (0, 0))) (fixT B (.cells (cs.setIfInBounds i u) t (0, 0))) (set_block (Side.at l1 h) i u) (fun _ h => Or.inl h) ⟨rfl, rfl, rfl, by simp, fun j _ hn => Below.heap_setCell W ⟨B, i, none⟩ u j (fun e => hn e)⟩ l1 h
end Go.Proofs.YtdfhfmdelinemaaGreatDoor
