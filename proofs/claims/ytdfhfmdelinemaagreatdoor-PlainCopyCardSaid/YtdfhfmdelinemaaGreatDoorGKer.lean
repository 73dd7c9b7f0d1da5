/- What is proved here: the document's plain kernel: its state, its capabilities, its entries, its words. Conditions: those that each theorem names. -/
import Derived.Test.YtdfhfmdelinemaaGreatDoorGParts
import Derived.RegionTactic
import Derived.StillTailTactics
import Derived.Deep.RegionHeld3
import Derived.WalkArith
import Derived.BigQuiet
import Derived.Deep.QuietTactic
import Derived.BigRegion
import Derived.Deep.CutBlock
import Derived.Deep.DeepCutAuto
import Derived.Test.YtdfhfmdelinemaaGreatDoorGWord
namespace Go.Proofs.YtdfhfmdelinemaaGreatDoor
open Go.RowKit Go.Extern.Stop Go.Stop Go.Extern
structure SlotV where
 is : Bool
 frame : Int
 rights : Int
 env : Int
 slot : Int
structure PteV where
 frame : Int
 slot : Int
 rights : Int
structure KernS where
 cores : Int
 envs : Int
 frames : Int
 sl : Nat → Nat → SlotV
 pt : Nat → Nat → PteV
 mm : Nat → Nat → Int
def slotC (s : SlotV) : Nat → Value
 | 0 => .bool s.is
 | 1 => .int .i64 s.frame
 | 2 => .int .i64 s.rights
 | 3 => .int .i64 s.env
 | _ => .int .i64 s.slot
def pteC (p : PteV) : Nat → Value
 | 0 => .int .i64 p.frame
 | 1 => .int .i64 p.slot
 | _ => .int .i64 p.rights
def kv (k : KernS) (i : Nat) : Value :=
 if i < 3 then (if i = 0 then .int .i64 k.cores else if i = 1 then .int .i64 k.envs else .int .i64 k.frames)
 else if i < 163 then slotC (k.sl ((i - 3) / 40) ((i - 3) % 40 / 5)) ((i - 3) % 5)
 else if i < 259 then pteC (k.pt ((i - 163) / 24) ((i - 163) % 24 / 3)) ((i - 163) % 3)
 else .int .u64 (k.mm ((i - 259) / 16) ((i - 259) % 16))
theorem kv_slot (k : KernS) {e s c : Nat} (he : e < 4) (hs : s < 8) (hc : c < 5) : kv k (3 + e * 40 + s * 5 + c) = slotC (k.sl e s) c := by
 unfold kv
 rw [if_neg (by omega), if_pos (by omega), show (3 + e * 40 + s * 5 + c - 3) / 40 = e by omega, show (3 + e * 40 + s * 5 + c - 3) % 40 / 5 = s by omega, show (3 + e * 40 + s * 5 + c - 3) % 5 = c by omega]
theorem kv_pte (k : KernS) {e p c : Nat} (he : e < 4) (hp : p < 8) (hc : c < 3) : kv k (163 + e * 24 + p * 3 + c) = pteC (k.pt e p) c := by
 unfold kv
 rw [if_neg (by omega), if_neg (by omega), if_pos (by omega), show (163 + e * 24 + p * 3 + c - 163) / 24 = e by omega, show (163 + e * 24 + p * 3 + c - 163) % 24 / 3 = p by omega, show (163 + e * 24 + p * 3 + c - 163) % 3 = c by omega]
theorem kv_word (k : KernS) {f a : Nat} (ha : a < 16) : kv k (259 + f * 16 + a) = .int .u64 (k.mm f a) := by
 unfold kv
 rw [if_neg (by omega), if_neg (by omega), if_neg (by omega), show (259 + f * 16 + a - 259) / 16 = f by omega, show (259 + f * 16 + a - 259) % 16 = a by omega]
structure KernIs (w : World) (K : Nat) (k : KernS) : Prop where
 cells : ∀ i, i < 515 → w.cell? ⟨K, i, none⟩ = some (kv k i)
 free : ∀ i, w.frozen? ⟨K, i, none⟩ = false
 lt : K < w.heap.size
theorem KernIs.foot {w w' : World} {K : Nat} {k : KernS} (h : KernIs w K k) (hs : w.heap.size ≤ w'.heap.size) (hK : w'.heap[K]? = w.heap[K]?) : KernIs w' K k :=
 ⟨fun i hi => (World.cell?_of_block (a := ⟨K, i, none⟩) hK).trans (h.cells i hi), fun i => (World.frozen?_of_block (a := ⟨K, i, none⟩) hK).trans (h.free i), Nat.lt_of_lt_of_le h.lt hs⟩
theorem KernIs.later {w w' : World} {K : Nat} {k : KernS} (h : KernIs w K k) (hb : Below w.heap.size w w') : KernIs w' K k := h.foot hb.size (hb.block _ h.lt)
theorem KernIs.slot {w : World} {K : Nat} {k : KernS} (h : KernIs w K k) {e s : Nat} (he : e < 4) (hs : s < 8) :
  w.cell? ⟨K, 3 + e * 40 + s * 5, none⟩ = some (.bool (k.sl e s).is) ∧ w.cell? ⟨K, 3 + e * 40 + s * 5 + 1, none⟩ = some (.int .i64 (k.sl e s).frame) ∧ w.cell? ⟨K, 3 + e * 40 + s * 5 + 2, none⟩ = some (.int .i64 (k.sl e s).rights)
   ∧ w.cell? ⟨K, 3 + e * 40 + s * 5 + 3, none⟩ = some (.int .i64 (k.sl e s).env) ∧ w.cell? ⟨K, 3 + e * 40 + s * 5 + 4, none⟩ = some (.int .i64 (k.sl e s).slot) := by
 have c := fun c (hc : c < 5) => (h.cells (3 + e * 40 + s * 5 + c) (by omega)).trans (congrArg some (kv_slot k he hs hc))
 exact ⟨c 0 (by omega), c 1 (by omega), c 2 (by omega), c 3 (by omega), c 4 (by omega)⟩
theorem KernIs.pte {w : World} {K : Nat} {k : KernS} (h : KernIs w K k) {e p : Nat} (he : e < 4) (hp : p < 8) :
  w.cell? ⟨K, 163 + e * 24 + p * 3, none⟩ = some (.int .i64 (k.pt e p).frame) ∧ w.cell? ⟨K, 163 + e * 24 + p * 3 + 1, none⟩ = some (.int .i64 (k.pt e p).slot) ∧ w.cell? ⟨K, 163 + e * 24 + p * 3 + 2, none⟩ = some (.int .i64 (k.pt e p).rights) := by
 have c := fun c (hc : c < 3) => (h.cells (163 + e * 24 + p * 3 + c) (by omega)).trans (congrArg some (kv_pte k he hp hc))
 exact ⟨c 0 (by omega), c 1 (by omega), c 2 (by omega)⟩
theorem KernIs.word {w : World} {K : Nat} {k : KernS} (h : KernIs w K k) {f a : Nat} (hf : f < 16) (ha : a < 16) : w.cell? ⟨K, 259 + f * 16 + a, none⟩ = some (.int .u64 (k.mm f a)) :=
 (h.cells _ (by omega)).trans (congrArg some (kv_word k ha))
theorem KernIs.sizes {w : World} {K : Nat} {k : KernS} (h : KernIs w K k) : w.cell? ⟨K, 0, none⟩ = some (.int .i64 k.cores) ∧ w.cell? ⟨K, 1, none⟩ = some (.int .i64 k.envs) ∧ w.cell? ⟨K, 2, none⟩ = some (.int .i64 k.frames) :=
 ⟨h.cells 0 (by omega), h.cells 1 (by omega), h.cells 2 (by omega)⟩
def ofB (k : KernS) (f : Int) (i : Nat) : Bool := (k.sl (i / 8) (i % 8)).is && decide ((k.sl (i / 8) (i % 8)).frame = f)
def refsN (k : KernS) (f : Int) (n : Nat) : Nat := ((List.range n).filter (ofB k f)).length
theorem refsN_yes {k : KernS} {f : Int} {n : Nat} (h : ofB k f n = true) : refsN k f (n + 1) = refsN k f n + 1 := by
 unfold refsN
 rw [List.range_succ, List.filter_append]
 simp [h]
theorem refsN_no {k : KernS} {f : Int} {n : Nat} (h : ofB k f n = false) : refsN k f (n + 1) = refsN k f n := by
 unfold refsN
 rw [List.range_succ, List.filter_append]
 simp [h]
theorem refsN_le (k : KernS) (f : Int) (n : Nat) : refsN k f n ≤ n := by
 have h := List.length_filter_le (ofB k f) (List.range n)
 simpa [refsN] using h
theorem ofB_at (k : KernS) (f : Int) {e s : Nat} (hs : s < 8) : ofB k f (e * 8 + s) = ((k.sl e s).is && decide ((k.sl e s).frame = f)) := by
 unfold ofB
 rw [show (e * 8 + s) / 8 = e by omega, show (e * 8 + s) % 8 = s by omega]
set_option maxHeartbeats 1000000 in
theorem kref_refs (K : Nat) (k : KernS) (f : Int) (w : World) (h : KernIs w K k) : Calls Tryz.prog 61 #[.pointer (some ⟨K, 0, none⟩), .int .i64 f] w fun e w' => e = .returned (.int .i64 (refsN k f 32)) ∧ w = w' := by
 have H := Lib.hid h
 clear h
 go_enter Tryz.func61, Tryz.ntmps61
 go_wp2_with fail
 go_loop [5, 8] (fun nv ev => ∃ e : Nat, e ≤ 4 ∧ ev = .int .i64 e ∧ nv = .int .i64 (refsN k f (e * 8))) (fun _ ev => (4 - intOf ev).toNat)
 case atStart => exact ⟨0, by omega, rfl, rfl⟩
 case round =>
  obtain ⟨e, he, rfl, rfl⟩ := hrel
  by_cases h1 : e < 4
  ·have e1 : (e : Int) < 4 := by omega
   go_wp2_with fail
   go_loop [5, 11] (fun nv sv => ∃ s : Nat, s ≤ 8 ∧ sv = .int .i64 s ∧ nv = .int .i64 (refsN k f (e * 8 + s))) (fun _ sv => (8 - intOf sv).toNat)
   case atStart => exact ⟨0, by omega, rfl, rfl⟩
   case round =>
    obtain ⟨s, hs, rfl, rfl⟩ := hrel
    have hle := refsN_le k f (e * 8 + s)
    by_cases h2 : s < 8
    ·have s1 : (s : Int) < 8 := by omega
     obtain ⟨c0, c1, _⟩ := H.out.slot h1 h2
     have ho := ofB_at k f (e := e) h2
     rcases hi : (k.sl e s).is with _ | _
     ·rw [hi] at c0 ho
      have HN := Lib.hid (refsN_no (k := k) (f := f) (n := e * 8 + s) (by rw [ho]; rfl))
      clear ho
      go_wp2_with fail
      go_round
      case rel => exact ⟨s + 1, by omega, by go_num, by rw [show e * 8 + (s + 1) = e * 8 + s + 1 by omega, HN.out]⟩
      case measure => simp [intOf]; omega
     ·rw [hi] at c0 ho
      by_cases hf : (k.sl e s).frame = f
      ·have HN := Lib.hid (refsN_yes (k := k) (f := f) (n := e * 8 + s) (by rw [ho]; simp [hf]))
       rw [hf] at c1
       clear ho
       go_wp2_with fail
       go_round
       case rel => exact ⟨s + 1, by omega, by go_num, by rw [show e * 8 + (s + 1) = e * 8 + s + 1 by omega, HN.out]; rfl⟩
       case measure => simp [intOf]; omega
      ·have HN := Lib.hid (refsN_no (k := k) (f := f) (n := e * 8 + s) (by rw [ho]; simp [hf]))
       have hf2 : ((k.sl e s).frame == f) = false := beq_eq_false_iff_ne.2 hf
       clear ho
       go_wp2_with fail
       go_round
       case rel => exact ⟨s + 1, by omega, by go_num, by rw [show e * 8 + (s + 1) = e * 8 + s + 1 by omega, HN.out]⟩
       case measure => simp [intOf]; omega
    ·obtain rfl : s = 8 := by omega
     go_wp2_with fail
     go_round
     case rel => exact ⟨e + 1, by omega, by go_num, by rw [show (e + 1) * 8 = e * 8 + 8 by omega]⟩
     case measure => simp [intOf]; omega
  ·obtain rfl : e = 4 := by omega
   go_wp2_with fail
   go_ret
   exact ⟨rfl, rfl⟩
end Go.Proofs.YtdfhfmdelinemaaGreatDoor
namespace Go.Proofs.YtdfhfmdelinemaaGreatDoor
open Go.RowKit Go.Extern.Stop Go.Stop Go.Extern Go.WalkArith
def Sound (k : KernS) : Prop := ∀ e s, e < 4 → s < 8 → (k.sl e s).is = true → 0 ≤ (k.sl e s).env → (k.sl e s).env < 4 ∧ 0 ≤ (k.sl e s).slot ∧ (k.sl e s).slot < 8
def fromB (k : KernS) (q : Nat) : Nat → Nat → Bool
 | 0, _ => false
 | n + 1, p =>
  let c := k.sl (p / 8) (p % 8)
  if c.is = true ∧ 0 ≤ c.env then decide (c.env.toNat * 8 + c.slot.toNat = q) || fromB k q n (c.env.toNat * 8 + c.slot.toNat) else false
theorem fromB_succ (k : KernS) (q n p : Nat) : fromB k q (n + 1) p = if (k.sl (p / 8) (p % 8)).is = true ∧ 0 ≤ (k.sl (p / 8) (p % 8)).env then decide ((k.sl (p / 8) (p % 8)).env.toNat * 8 + (k.sl (p / 8) (p % 8)).slot.toNat = q) || fromB k q n ((k.sl (p / 8) (p % 8)).env.toNat * 8 + (k.sl (p / 8) (p % 8)).slot.toNat) else false := rfl
theorem fromB_none {k : KernS} {q n e s : Nat} (hs : s < 8) (h : ¬ ((k.sl e s).is = true ∧ 0 ≤ (k.sl e s).env)) : fromB k q (n + 1) (e * 8 + s) = false := by
 rw [fromB_succ, show (e * 8 + s) / 8 = e by omega, show (e * 8 + s) % 8 = s by omega, if_neg h]
theorem fromB_some {k : KernS} {q n e s e' s' : Nat} (hs : s < 8) (h : (k.sl e s).is = true) (he : (k.sl e s).env = (e' : Int)) (hs' : (k.sl e s).slot = (s' : Int)) : fromB k q (n + 1) (e * 8 + s) = (decide (e' * 8 + s' = q) || fromB k q n (e' * 8 + s')) := by
 have h2 : (k.sl e s).is = true ∧ 0 ≤ (k.sl e s).env := ⟨h, by omega⟩
 rw [fromB_succ, show (e * 8 + s) / 8 = e by omega, show (e * 8 + s) % 8 = s by omega, if_pos h2, he, hs', Int.toNat_natCast, Int.toNat_natCast]
set_option maxHeartbeats 2000000 in
theorem kref_from (K : Nat) (k : KernS) (hk : Sound k) (e0 s0 e1 s1 : Nat) (he0 : e0 < 4) (hs0 : s0 < 8) (he1 : e1 < 4) (hs1 : s1 < 8) (w : World) (h : KernIs w K k) :
  Calls Tryz.prog 110 #[.pointer (some ⟨K, 0, none⟩), .agg #[.int .i64 (e0 : Int), .int .i64 (s0 : Int)], .agg #[.int .i64 (e1 : Int), .int .i64 (s1 : Int)]] w fun e w' => e = .returned (.bool (fromB k (e1 * 8 + s1) 32 (e0 * 8 + s0))) ∧ Below w.heap.size w w' := by
 have HS := Lib.hid hk
 have H := Lib.hid h
 clear h hk
 go_enter Tryz.func110, Tryz.ntmps110
 go_wp2_with fail
 obtain ⟨A, hA⟩ : ∃ A, A = w.heap.size := ⟨_, rfl⟩
 obtain ⟨B, hB⟩ : ∃ B, B = w.heap.size + 1 := ⟨_, rfl⟩
 obtain ⟨w1, hw1⟩ : ∃ w1, w1 = (w.alloc (.cells #[.int .i64 (e0 : Int), .int .i64 (s0 : Int)] 118)).alloc (.cells #[.int .i64 (e1 : Int), .int .i64 (s1 : Int)] 118) := ⟨_, rfl⟩
 have HA : Hid (w1.heap[A]? = some (.cells #[.int .i64 (e0 : Int), .int .i64 (s0 : Int)] 118 (0, 0))) := by rw [hw1, hA]; exact bk_two (Below.refl _ _)
 have HB : Hid (w1.heap[B]? = some (.cells #[.int .i64 (e1 : Int), .int .i64 (s1 : Int)] 118 (0, 0))) := by
  rw [hw1, hB]
  have h := heap_alloc_new (w.alloc (.cells #[.int .i64 (e0 : Int), .int .i64 (s0 : Int)] 118)) (.cells #[.int .i64 (e1 : Int), .int .i64 (s1 : Int)] 118)
  rw [show (w.alloc (.cells #[.int .i64 (e0 : Int), .int .i64 (s0 : Int)] 118)).heap.size = w.heap.size + 1 by simp] at h
  exact h
 have B1 : Hid (Below w.heap.size w w1) := by rw [hw1]; exact ((Below.refl _ _).alloc (Nat.le_refl _) _).alloc (by simp) _
 have H1 := Lib.hid (H.out.later B1.out)
 have hAw : w.heap.size ≤ A := by omega
 have hAB : A ≠ B := by omega
 have hKA : K < w.heap.size := H.out.lt
 have hBw : w.heap.size ≤ B := by omega
 rw [← hw1, ← hB, ← hA]
 clear hw1 hA hB H
 go_loopw [7] (fun nv W => ∃ (n e s : Nat), nv = .int .i64 n ∧ n ≤ 32 ∧ e < 4 ∧ s < 8 ∧ fromB k (e1 * 8 + s1) 32 (e0 * 8 + s0) = fromB k (e1 * 8 + s1) (32 - n) (e * 8 + s) ∧ Below w.heap.size w W ∧ W.heap[A]? = some (.cells #[.int .i64 (e : Int), .int .i64 (s : Int)] 118 (0, 0)) ∧ W.heap[B]? = some (.cells #[.int .i64 (e1 : Int), .int .i64 (s1 : Int)] 118 (0, 0)) ∧ KernIs W K k) (fun nv _ => (32 - intOf nv).toNat)
 case atStart => exact ⟨0, e0, s0, rfl, by omega, he0, hs0, rfl, B1.out, HA.out, HB.out, H1.out⟩
 case round =>
  clear HA HB B1 H1
  obtain ⟨n, e, s, rfl, hn, he, hs, hfr, hb, ha, hbb, hk⟩ := hrel
  have HBl := Lib.hid hb
  have HA := Lib.hid ha
  have HB := Lib.hid hbb
  have HK := Lib.hid hk
  have HF := Lib.hid hfr
  clear hb ha hbb hk hfr
  by_cases hn2 : n < 32
  ·have n1 : (n : Int) < 32 := by omega
   have a0 := bk_cell HA.out 0
   have a1 := bk_cell HA.out 1
   obtain ⟨c0, c1, c2, c3, c4⟩ := HK.out.slot he hs
   have i0 : (0 : Int) ≤ (e : Int) := by omega
   have i1 : (e : Int) < 4 := by omega
   have i2 : (0 : Int) ≤ (s : Int) := by omega
   have i3 : (s : Int) < 8 := by omega
   have lA := bk_lt HA.out
   have lB := bk_lt HB.out
   have lK := HK.out.lt
   go_wp2_with fail
   go_region
   obtain ⟨C, hC⟩ : ∃ C, C = wr.heap.size := ⟨_, rfl⟩
   obtain ⟨w3, hw3⟩ : ∃ w3, w3 = (wr.alloc (.cells #[.bool (k.sl e s).is, .int .i64 (k.sl e s).frame, .int .i64 (k.sl e s).rights, .int .i64 (k.sl e s).env, .int .i64 (k.sl e s).slot] 98)).drew := ⟨_, rfl⟩
   have hbw : Below wr.heap.size wr w3 := by rw [hw3]; exact (Below.refl _ _).alloc (Nat.le_refl _) _ |>.drew
   have C3 : Hid (w3.heap[C]? = some (.cells #[.bool (k.sl e s).is, .int .i64 (k.sl e s).frame, .int .i64 (k.sl e s).rights, .int .i64 (k.sl e s).env, .int .i64 (k.sl e s).slot] 98 (0, 0))) := by rw [hw3, hC]; exact heap_alloc_new wr _
   have A3 := Lib.hid (bk_below HA.out hbw)
   have Q3 := Lib.hid (bk_below HB.out hbw)
   have K3 := Lib.hid (HK.out.later hbw)
   have B3 := Lib.hid (bl_trans HBl.out hbw)
   rw [← hw3, ← hC]
   clear hw3 hC hbw HA HB HK HBl a0 a1 c0 c1 c2 c3 c4 lA lB lK i0 i1 i2 i3
   have d0 := bk_cell C3.out 0
   have d3 := bk_cell C3.out 3
   rcases hi : (k.sl e s).is with _ | _
   ·have HN := Lib.hid (fromB_none (k := k) (q := e1 * 8 + s1) (n := 31 - n) (e := e) (s := s) hs (by rw [hi]; simp))
    rw [hi] at d0
    go_wp2_with fail
    go_ret
    exact ⟨by rw [HF.out, show 32 - n = 31 - n + 1 by omega, HN.out]; rfl, B3.out⟩
   ·by_cases he' : (k.sl e s).env < 0
    ·have HN := Lib.hid (fromB_none (k := k) (q := e1 * 8 + s1) (n := 31 - n) (e := e) (s := s) hs (by omega))
     rw [hi] at d0
     go_wp2_with fail
     go_ret
     exact ⟨by rw [HF.out, show 32 - n = 31 - n + 1 by omega, HN.out]; rfl, B3.out⟩
    ·obtain ⟨x, hx⟩ : ∃ x : Nat, (k.sl e s).env = (x : Int) := ⟨(k.sl e s).env.toNat, by omega⟩
     obtain ⟨h4, h5, h6⟩ := HS.out e s he hs hi (by omega)
     obtain ⟨y, hy⟩ : ∃ y : Nat, (k.sl e s).slot = (y : Int) := ⟨(k.sl e s).slot.toNat, by omega⟩
     have HN := Lib.hid (fromB_some (k := k) (q := e1 * 8 + s1) (n := 31 - n) hs hi hx hy)
     rw [hi] at d0
     rw [hx] at d3 h4 he'
     have d4 := bk_cell C3.out 4
     rw [hy] at d4 h5 h6
     have f0 := bk_free A3.out 0
     have f1 := bk_free A3.out 1
     have a0 := bk_cell A3.out 0
     have a1 := bk_cell A3.out 1
     have q0 := bk_cell Q3.out 0
     have q1 := bk_cell Q3.out 1
     have HX : Hid (((w3.setCell ⟨A, 0, none⟩ (.int .i64 (x : Int))).setCell ⟨A, 1, none⟩ (.int .i64 (y : Int))).heap[A]? = some (.cells #[.int .i64 (x : Int), .int .i64 (y : Int)] 118 (0, 0))) :=
      heap_setCell_same _ A 1 _ _ _ (heap_setCell_same w3 A 0 _ _ _ A3.out)
     have hfar : ∀ b, b ≠ A → ((w3.setCell ⟨A, 0, none⟩ (.int .i64 (x : Int))).setCell ⟨A, 1, none⟩ (.int .i64 (y : Int))).heap[b]? = w3.heap[b]? := fun b hb => (Below.heap_setCell _ _ _ b hb).trans (Below.heap_setCell _ _ _ b hb)
     have QX := Lib.hid ((hfar B (Ne.symm hAB)).trans Q3.out)
     have KX := Lib.hid (K3.out.foot (by simp) (hfar K (by omega)))
     have BX := Lib.hid ((B3.out.setCell (p := ⟨A, 0, none⟩) hAw (.int .i64 (x : Int))).setCell (p := ⟨A, 1, none⟩) hAw (.int .i64 (y : Int)))
     clear hfar
     rcases (show (x = e1 ∧ y = s1) ∨ ¬ (x = e1 ∧ y = s1) by omega) with ⟨rfl, rfl⟩ | hq
     ·have HT : Hid (fromB k (x * 8 + y) 32 (e0 * 8 + s0) = true) := by
       show fromB k (x * 8 + y) 32 (e0 * 8 + s0) = true
       rw [HF.out, show 32 - n = 31 - n + 1 by omega, HN.out, decide_eq_true rfl, Bool.true_or]
      go_wp2_with fail
      go_ret
      exact ⟨by rw [HT.out]; rfl, BX.out⟩
     ·have HQ := Lib.hid (show fromB k (e1 * 8 + s1) (31 - n + 1) (e * 8 + s) = fromB k (e1 * 8 + s1) (31 - n) (x * 8 + y) by rw [HN.out, decide_eq_false (by omega), Bool.false_or])
      rcases (show (x = e1 ∧ ¬ y = s1) ∨ ¬ x = e1 by omega) with ⟨rfl, hy1⟩ | hx1
      ·have hy2 : ¬ (y : Int) = (s1 : Int) := by omega
       go_wp2_with fail
       go_roundw
       case rel => exact ⟨n + 1, x, y, by go_num, by omega, by omega, by omega, by rw [HF.out, show 32 - n = 31 - n + 1 by omega, HQ.out, show 32 - (n + 1) = 31 - n by omega], BX.out, HX.out, QX.out, KX.out⟩
       case measure => simp [intOf]; omega
      ·have hx2 : ¬ (x : Int) = (e1 : Int) := by omega
       go_wp2_with fail
       go_roundw
       case rel => exact ⟨n + 1, x, y, by go_num, by omega, by omega, by omega, by rw [HF.out, show 32 - n = 31 - n + 1 by omega, HQ.out, show 32 - (n + 1) = 31 - n by omega], BX.out, HX.out, QX.out, KX.out⟩
       case measure => simp [intOf]; omega
  ·obtain rfl : n = 32 := by omega
   go_wp2_with fail
   go_ret
   exact ⟨by rw [HF.out]; rfl, HBl.out⟩
end Go.Proofs.YtdfhfmdelinemaaGreatDoor
namespace Go.Proofs.YtdfhfmdelinemaaGreatDoor
open Go.RowKit Go.Extern.Stop Go.Stop Go.Extern Go.WalkArith
theorem own_later {w w' : World} {base n size : Nat} {e : TypeId} {v : Value} {xs : List Value} (h : w.ownsRow base e size v n xs) (hb : Below w.heap.size w w') : w'.ownsRow base e size v n xs :=
 h.kept (row := none) ⟨hb.os, hb.tape, hb.output, hb.size, fun i hi _ => hb.block i hi⟩ (by cases v.ownBlock <;> simp)
theorem own_grow {w w2 w3 : World} {n size : Nat} {e : TypeId} {o : Obj} {v : Value} {xs : List Value} (h : Below w.heap.size w w2) (hg : (w2.alloc o).grownBy w3 v.ownBlock) (ho : w2.ownsRow w.heap.size e size v n xs) : Below w.heap.size w w3 :=
 (h.alloc h.size o).grown hg (by have := h.size; simp; omega) (fun g hg' => (ho.lt g hg').1)
theorem own_low {w : World} {base base' : Nat} {e : TypeId} {size : Nat} {v : Value} {n : Nat} {xs : List Value} (h : w.ownsRow base e size v n xs) (hb : base' ≤ base) : w.ownsRow base' e size v n xs :=
 ⟨h.1, h.2.imp id fun ⟨g, cap, cur, h1, h2, h3⟩ => ⟨g, cap, cur, h1, Nat.le_trans hb h2, h3⟩⟩
theorem pair_at (w : World) (u v : Value) (t : TypeId) (j : Nat) (x : Value) (h : [u, v][j]? = some x) : (w.alloc (.cells #[u, v] t)).cell? (Addr.add ⟨w.heap.size, 0, none⟩ j) = some x := by
 match j, h with
 | 0, h =>
  simp at h
  subst h
  exact bk_cell (heap_alloc_new w _) 0
 | 1, h =>
  simp at h
  subst h
  exact bk_cell (heap_alloc_new w _) 1
theorem two_cell (a b : Int) (u : Value) (hu : u ∈ [Value.int .i64 a, Value.int .i64 b]) : u.oneCell' = true := by
 simp at hu
 rcases hu with rfl | rfl <;> rfl
def belowL (k : KernS) (q n : Nat) : List Nat := (List.range n).filter (fromB k q 32)
theorem belowL_yes {k : KernS} {q n : Nat} (h : fromB k q 32 n = true) : belowL k q (n + 1) = belowL k q n ++ [n] := by
 unfold belowL
 rw [List.range_succ, List.filter_append]
 simp [h]
theorem belowL_no {k : KernS} {q n : Nat} (h : fromB k q 32 n = false) : belowL k q (n + 1) = belowL k q n := by
 unfold belowL
 rw [List.range_succ, List.filter_append]
 simp [h]
theorem belowL_le (k : KernS) (q n : Nat) : (belowL k q n).length ≤ n := by
 have h := List.length_filter_le (fromB k q 32) (List.range n)
 simpa [belowL] using h
def placesV (l : List Nat) : List Value := l.flatMap fun j => [Value.int .i64 ((j / 8 : Nat) : Int), Value.int .i64 ((j % 8 : Nat) : Int)]
theorem placesV_snoc (l : List Nat) {e s : Nat} (hs : s < 8) : placesV (l ++ [e * 8 + s]) = placesV l ++ [Value.int .i64 (e : Int), Value.int .i64 (s : Int)] := by
 unfold placesV
 rw [List.flatMap_append]
 simp only [List.flatMap_cons, List.flatMap_nil, List.append_nil]
 rw [show (e * 8 + s) / 8 = e by omega, show (e * 8 + s) % 8 = s by omega]
theorem Tryz.placeInfo : (Tryz.prog.info? 118).map (fun i => (i.zero, i.size, i.bytes)) = some (some (.agg #[.int .i64 0, .int .i64 0]), 2, 16) := by kernel_rfl
set_option maxRecDepth 100000 in
set_option maxHeartbeats 2000000 in
theorem kref_below (K : Nat) (k : KernS) (hk : Sound k) (e1 s1 : Nat) (he1 : e1 < 4) (hs1 : s1 < 8) (w : World) (h : KernIs w K k) :
  Calls Tryz.prog 54 #[.pointer (some ⟨K, 0, none⟩), .agg #[.int .i64 (e1 : Int), .int .i64 (s1 : Int)]] w fun e w' => ∃ v, e = .returned v ∧ w'.ownsRow w.heap.size 118 2 v (belowL k (e1 * 8 + s1) 32).length (placesV (belowL k (e1 * 8 + s1) 32)) ∧ Below w.heap.size w w' := by
 obtain ⟨i0, hi, hz0, hz1, hz2⟩ := info_parts Tryz.placeInfo
 have HS := Lib.hid hk
 have H := Lib.hid h
 clear h hk
 go_enter Tryz.func54, Tryz.ntmps54
 go_wp2_with fail
 obtain ⟨Q, hQ⟩ : ∃ Q, Q = w.heap.size := ⟨_, rfl⟩
 obtain ⟨w1, hw1⟩ : ∃ w1, w1 = w.alloc (.cells #[.int .i64 (e1 : Int), .int .i64 (s1 : Int)] 118) := ⟨_, rfl⟩
 have HQ : Hid (w1.heap[Q]? = some (.cells #[.int .i64 (e1 : Int), .int .i64 (s1 : Int)] 118 (0, 0))) := by rw [hw1, hQ]; exact heap_alloc_new w _
 have B1 : Hid (Below w.heap.size w w1) := by rw [hw1]; exact (Below.refl _ _).alloc (Nat.le_refl _) _
 have H1 := Lib.hid (H.out.later B1.out)
 have hQ1 : Q < w1.heap.size := bk_lt HQ.out
 have hK1 : K < w1.heap.size := H1.out.lt
 have hw1s : w.heap.size ≤ w1.heap.size := B1.out.size
 rw [← hw1, ← hQ]
 clear hw1 hQ H
 go_loopw [5, 9] (fun lv ev W => ∃ e : Nat, e ≤ 4 ∧ ev = .int .i64 e ∧ W.ownsRow w1.heap.size 118 2 lv (belowL k (e1 * 8 + s1) (e * 8)).length (placesV (belowL k (e1 * 8 + s1) (e * 8))) ∧ Below w.heap.size w W ∧ W.heap[Q]? = some (.cells #[.int .i64 (e1 : Int), .int .i64 (s1 : Int)] 118 (0, 0)) ∧ KernIs W K k ∧ w1.heap.size ≤ W.heap.size) (fun _ ev _ => (4 - intOf ev).toNat)
 case atStart => exact ⟨0, by omega, rfl, World.ownsRow_nil _ _ _ _, B1.out, HQ.out, H1.out, Nat.le_refl _⟩
 case round =>
  clear B1 HQ H1
  obtain ⟨e, he, rfl, hown, hb, hq, hkk, hsz⟩ := hrel
  have HO := Lib.hid hown
  have HB := Lib.hid hb
  have HQ := Lib.hid hq
  have HK := Lib.hid hkk
  clear hown hb hq hkk
  by_cases h1 : e < 4
  ·have e1' : (e : Int) < 4 := by omega
   go_wp2_with fail
   go_loopw [5, 12] (fun lv sv W => ∃ s : Nat, s ≤ 8 ∧ sv = .int .i64 s ∧ W.ownsRow w1.heap.size 118 2 lv (belowL k (e1 * 8 + s1) (e * 8 + s)).length (placesV (belowL k (e1 * 8 + s1) (e * 8 + s))) ∧ Below w.heap.size w W ∧ W.heap[Q]? = some (.cells #[.int .i64 (e1 : Int), .int .i64 (s1 : Int)] 118 (0, 0)) ∧ KernIs W K k ∧ w1.heap.size ≤ W.heap.size) (fun _ sv _ => (8 - intOf sv).toNat)
   case atStart => exact ⟨0, by omega, rfl, HO.out, HB.out, HQ.out, HK.out, hsz⟩
   case round =>
    clear HO HB HQ HK
    obtain ⟨s, hs, rfl, hown, hb, hq, hkk, hsz⟩ := hrel
    have HO := Lib.hid hown
    have HB := Lib.hid hb
    have HQ := Lib.hid hq
    have HK := Lib.hid hkk
    clear hown hb hq hkk
    by_cases h2 : s < 8
    ·have s1' : (s : Int) < 8 := by omega
     have q0 := bk_cell HQ.out 0
     have q1 := bk_cell HQ.out 1
     have lQ := bk_lt HQ.out
     go_wp2_with fail
     obtain ⟨P, hP⟩ : ∃ P, P = wr.heap.size := ⟨_, rfl⟩
     obtain ⟨w2, hw2⟩ : ∃ w2, w2 = wr.alloc (.cells #[.int .i64 (e : Int), .int .i64 (s : Int)] 118) := ⟨_, rfl⟩
     have hbw : Below wr.heap.size wr w2 := by rw [hw2]; exact (Below.refl _ _).alloc (Nat.le_refl _) _
     have P2 : Hid (w2.heap[P]? = some (.cells #[.int .i64 (e : Int), .int .i64 (s : Int)] 118 (0, 0))) := by rw [hw2, hP]; exact heap_alloc_new wr _
     have O2 := Lib.hid (own_later HO.out hbw)
     have Q2 := Lib.hid (bk_below HQ.out hbw)
     have K2 := Lib.hid (HK.out.later hbw)
     have B2 := Lib.hid (bl_trans HB.out hbw)
     have hsz2 : w1.heap.size ≤ w2.heap.size := Nat.le_trans hsz hbw.size
     rw [← hw2, ← hP]
     clear hw2 hP hbw HO HQ HK HB q0 q1 lQ hsz
     obtain ⟨b, hfb⟩ : ∃ b, fromB k (e1 * 8 + s1) 32 (e * 8 + s) = b := ⟨_, rfl⟩
     have HF := kref_from K k HS.out e s e1 s1 h1 h2 he1 hs1 w2 K2.out
     rw [hfb] at HF
     refine HF.mono ?_
     rintro e' w3 ⟨rfl, hb3⟩
     have P3 := Lib.hid (bk_below P2.out hb3)
     have O3 := Lib.hid (own_later O2.out hb3)
     have Q3 := Lib.hid (bk_below Q2.out hb3)
     have K3 := Lib.hid (K2.out.later hb3)
     have B3 := Lib.hid (bl_trans B2.out hb3)
     have hsz3 : w1.heap.size ≤ w3.heap.size := Nat.le_trans hsz2 hb3.size
     clear hb3 HF P2 O2 Q2 K2 B2 hsz2
     have p0 := bk_cell P3.out 0
     have p1 := bk_cell P3.out 1
     cases b
     ·have HN := Lib.hid (belowL_no hfb)
      clear hfb
      go_wp2_with fail
      go_roundw
      case rel => exact ⟨s + 1, by omega, by go_num, by rw [show e * 8 + (s + 1) = e * 8 + s + 1 by omega, HN.out]; exact O3.out, B3.out, Q3.out, K3.out, hsz3⟩
      case measure => simp [intOf]; omega
     ·have HN := Lib.hid (belowL_yes hfb)
      have hle := belowL_le k (e1 * 8 + s1) (e * 8 + s)
      clear hfb
      go_wp2_with (refine wpList_append_own (o := ⟨some 25, _, _, _, _, _⟩) _ rfl (.tmp 22) (.tmp 24) 119 rfl w1.heap.size 118 i0 (.agg #[.int .i64 0, .int .i64 0]) 2 16 Tryz.underlying119 hi hz0 hz1 hz2 rfl (by decide) _ _ _ rfl (O3.out.alloc _) ⟨w3.heap.size, 0, none⟩ 1 1 [.int .i64 (e : Int), .int .i64 (s : Int)] rfl rfl (pair_at _ _ _ _) (two_cell _ _) (by unfold maxLen; omega) (by omega) (by simp; omega) ?_)
      intro v' w4 hown hgrow _
      have B4 := Lib.hid (own_grow B3.out hgrow (own_low O3.out hw1s))
      have O4 := Lib.hid hown
      have hap : ∀ b, b < w1.heap.size → w4.heap[b]? = w3.heap[b]? := fun b hb =>
       (hgrow.block b (by simp; omega) (fun hbb => by have := (O3.out.lt b hbb.symm).1; omega)).trans (Below.heap_alloc w3 _ b (by omega))
      have Q4 := Lib.hid ((hap Q hQ1).trans Q3.out)
      have K4 := Lib.hid (K3.out.foot (by have := hgrow.size; simp at this; omega) (hap K hK1))
      have hsz4 : w1.heap.size ≤ w4.heap.size := by have := hgrow.size; simp at this; omega
      clear hown hgrow hap p0 p1
      go_wp2_with fail
      go_roundw
      case rel => exact ⟨s + 1, by omega, by go_num, by rw [show e * 8 + (s + 1) = e * 8 + s + 1 by omega, HN.out, List.length_append, placesV_snoc _ h2]; exact O4.out, B4.out, Q4.out, K4.out, hsz4⟩
      case measure => simp [intOf]; omega
    ·obtain rfl : s = 8 := by omega
     go_wp2_with fail
     go_roundw
     case rel => exact ⟨e + 1, by omega, by go_num, by rw [show (e + 1) * 8 = e * 8 + 8 by omega]; exact HO.out, HB.out, HQ.out, HK.out, hsz⟩
     case measure => simp [intOf]; omega
  ·obtain rfl : e = 4 := by omega
   go_wp2_with fail
   go_ret
   exact ⟨_, rfl, own_low HO.out hw1s, HB.out⟩
end Go.Proofs.YtdfhfmdelinemaaGreatDoor
namespace Go.Proofs.YtdfhfmdelinemaaGreatDoor
open Go.RowKit Go.Extern.Stop Go.Stop Go.Extern Go.WalkArith
def freeK (k : KernS) (n : Nat) : List Nat := (List.range n).filter fun f => decide (refsN k f 32 = 0)
theorem freeK_yes {k : KernS} {n : Nat} (h : refsN k n 32 = 0) : freeK k (n + 1) = freeK k n ++ [n] := by
 unfold freeK
 rw [List.range_succ, List.filter_append]
 simp [h]
theorem freeK_no {k : KernS} {n : Nat} (h : ¬ refsN k n 32 = 0) : freeK k (n + 1) = freeK k n := by
 unfold freeK
 rw [List.range_succ, List.filter_append]
 simp [h]
theorem freeK_le (k : KernS) (n : Nat) : (freeK k n).length ≤ n := by
 have h := List.length_filter_le (fun f : Nat => decide (refsN k f 32 = 0)) (List.range n)
 simpa [freeK] using h
set_option maxRecDepth 20000 in
set_option maxHeartbeats 1000000 in
theorem kref_free (K : Nat) (k : KernS) (n : Nat) (hn : k.frames = (n : Int)) (hn16 : n ≤ 16) (w : World) (h : KernIs w K k) :
  Calls Tryz.prog 52 #[.pointer (some ⟨K, 0, none⟩)] w fun e w' => ∃ v, e = .returned v ∧ w'.ownsRow w.heap.size 3 1 v (freeK k n).length (pagesV (freeK k n)) ∧ Below w.heap.size w w' := by
 obtain ⟨i0, hi, hz0, hz1, hz2⟩ := info_parts Tryz.intInfo
 have HN := Lib.hid hn
 have H := Lib.hid h
 clear h hn
 go_enter Tryz.func52, Tryz.ntmps52
 go_wp2_with fail
 go_loopw [3, 4] (fun v c W => ∃ j : Nat, j ≤ n ∧ c = .int .i64 j ∧ W.ownsRow w.heap.size 3 1 v (freeK k j).length (pagesV (freeK k j)) ∧ Below w.heap.size w W) (fun _ c _ => (n - intOf c).toNat)
 case atStart => exact ⟨0, by omega, rfl, World.ownsRow_nil _ _ _ _, Below.refl _ _⟩
 case round =>
  obtain ⟨j, hj, rfl, hown, hb⟩ := hrel
  have HO := Lib.hid hown
  have HB := Lib.hid hb
  have HK := Lib.hid (H.out.later hb)
  clear hown hb
  obtain ⟨_, _, c2⟩ := HK.out.sizes
  rw [HN.out] at c2
  by_cases hlt : j < n
  ·have hin : (j : Int) < (n : Int) := by omega
   go_wp2_with fail
   refine (kref_refs K k (j : Int) wr HK.out).mono ?_
   rintro e w2 ⟨rfl, rfl⟩
   have hle2 := refsN_le k j 32
   by_cases hr : refsN k j 32 = 0
   ·have hbl := freeK_yes hr
    have hle := freeK_le k j
    have HL := Lib.hid hbl
    have hr1 : (refsN k (j : Int) 32 : Int) = 0 := by omega
    clear hbl
    go_wp2_with (refine wpList_append_own (o := ⟨some 21, _, _, _, _, _⟩) _ rfl (.tmp 18) (.tmp 20) 61 rfl w.heap.size 3 i0 (.int .i64 0) 1 8 Tryz.underlying61 hi hz0 hz1 hz2 rfl (by decide) _ _ _ rfl (HO.out.alloc _) ⟨wr.heap.size, 0, none⟩ 1 1 [.int .i64 (j : Int)] rfl rfl (one_at _ _ _) (one_cell j) (by unfold maxLen; omega) (by omega) (by have := HB.out.size; simp; omega) ?_)
    intro v' w3 hown hgrow _
    have B3 := Lib.hid (own_grown HB.out hgrow HO.out)
    have O3 := Lib.hid hown
    clear hown hgrow c2
    go_wp2_with fail
    go_roundw
    case rel => exact ⟨j + 1, by omega, by go_num, by rw [HL.out, List.length_append]; unfold pagesV at O3 ⊢; rw [List.map_append]; exact O3.out, B3.out⟩
    case measure => simp [intOf]; omega
   ·have hbl := freeK_no hr
    have HL := Lib.hid hbl
    have hr2 : ((refsN k (j : Int) 32 : Int) == 0) = false := beq_eq_false_iff_ne.2 (by omega)
    clear hbl
    go_wp2_with fail
    go_roundw
    case rel => exact ⟨j + 1, by omega, by go_num, by rw [HL.out]; exact HO.out, HB.out⟩
    case measure => simp [intOf]; omega
  ·obtain rfl : n = j := by omega
   have hin : ¬ (n : Int) < (n : Int) := by omega
   go_wp2_with fail
   go_ret
   exact ⟨_, rfl, HO.out, HB.out⟩
end Go.Proofs.YtdfhfmdelinemaaGreatDoor
namespace Go.Proofs.YtdfhfmdelinemaaGreatDoor
open Go.RowKit Go.Extern.Stop Go.Stop Go.Extern Go.WalkArith
def KernS.setSlot (k : KernS) (e s : Nat) (v : SlotV) : KernS := { k with sl := fun e' s' => if e' = e ∧ s' = s then v else k.sl e' s' }
def KernS.setPte (k : KernS) (e p : Nat) (v : PteV) : KernS := { k with pt := fun e' p' => if e' = e ∧ p' = p then v else k.pt e' p' }
def KernS.setWord (k : KernS) (f a : Nat) (v : Int) : KernS := { k with mm := fun f' a' => if f' = f ∧ a' = a then v else k.mm f' a' }
theorem kv_setSlot (k : KernS) {e s : Nat} (he : e < 4) (hs : s < 8) (v : SlotV) (j : Nat) : kv (k.setSlot e s v) j = if 3 + e * 40 + s * 5 ≤ j ∧ j < 3 + e * 40 + s * 5 + 5 then slotC v (j - (3 + e * 40 + s * 5)) else kv k j := by
 unfold kv KernS.setSlot
 dsimp only
 by_cases h1 : j < 3
 ·rw [if_pos h1, if_pos h1, if_neg (show ¬ (3 + e * 40 + s * 5 ≤ j ∧ j < 3 + e * 40 + s * 5 + 5) by omega)]
 ·rw [if_neg h1, if_neg h1]
  by_cases h2 : j < 163
  ·rw [if_pos h2, if_pos h2]
   by_cases h3 : 3 + e * 40 + s * 5 ≤ j ∧ j < 3 + e * 40 + s * 5 + 5
   ·rw [if_pos h3, if_pos (by omega), show (j - 3) % 5 = j - (3 + e * 40 + s * 5) by omega]
   ·rw [if_neg h3, if_neg (by omega)]
  ·rw [if_neg h2, if_neg h2, if_neg (show ¬ (3 + e * 40 + s * 5 ≤ j ∧ j < 3 + e * 40 + s * 5 + 5) by omega)]
theorem kv_setPte (k : KernS) {e p : Nat} (he : e < 4) (hp : p < 8) (v : PteV) (j : Nat) : kv (k.setPte e p v) j = if 163 + e * 24 + p * 3 ≤ j ∧ j < 163 + e * 24 + p * 3 + 3 then pteC v (j - (163 + e * 24 + p * 3)) else kv k j := by
 unfold kv KernS.setPte
 dsimp only
 by_cases h1 : j < 3
 ·rw [if_pos h1, if_pos h1, if_neg (show ¬ (163 + e * 24 + p * 3 ≤ j ∧ j < 163 + e * 24 + p * 3 + 3) by omega)]
 ·rw [if_neg h1, if_neg h1]
  by_cases h2 : j < 163
  ·rw [if_pos h2, if_pos h2, if_neg (show ¬ (163 + e * 24 + p * 3 ≤ j ∧ j < 163 + e * 24 + p * 3 + 3) by omega)]
  ·rw [if_neg h2, if_neg h2]
   by_cases h4 : j < 259
   ·rw [if_pos h4, if_pos h4]
    by_cases h3 : 163 + e * 24 + p * 3 ≤ j ∧ j < 163 + e * 24 + p * 3 + 3
    ·rw [if_pos h3, if_pos (by omega), show (j - 163) % 3 = j - (163 + e * 24 + p * 3) by omega]
    ·rw [if_neg h3, if_neg (by omega)]
   ·rw [if_neg h4, if_neg h4, if_neg (show ¬ (163 + e * 24 + p * 3 ≤ j ∧ j < 163 + e * 24 + p * 3 + 3) by omega)]
theorem kv_setWord (k : KernS) {f a : Nat} (ha : a < 16) (v : Int) (j : Nat) : kv (k.setWord f a v) j = if j = 259 + f * 16 + a then .int .u64 v else kv k j := by
 unfold kv KernS.setWord
 dsimp only
 by_cases h1 : j < 3
 ·rw [if_pos h1, if_pos h1, if_neg (show ¬ j = 259 + f * 16 + a by omega)]
 ·rw [if_neg h1, if_neg h1]
  by_cases h2 : j < 163
  ·rw [if_pos h2, if_pos h2, if_neg (show ¬ j = 259 + f * 16 + a by omega)]
  ·rw [if_neg h2, if_neg h2]
   by_cases h4 : j < 259
   ·rw [if_pos h4, if_pos h4, if_neg (show ¬ j = 259 + f * 16 + a by omega)]
   ·rw [if_neg h4, if_neg h4]
    by_cases h3 : j = 259 + f * 16 + a
    ·rw [if_pos h3, if_pos (by omega)]
    ·rw [if_neg h3, if_neg (by omega)]
def CellsAre (w : World) (K : Nat) (g : Nat → Value) : Prop := (∀ i, i < 515 → w.cell? ⟨K, i, none⟩ = some (g i)) ∧ (∀ i, w.frozen? ⟨K, i, none⟩ = false) ∧ K < w.heap.size
theorem CellsAre.set {w : World} {K i : Nat} {g : Nat → Value} (h : CellsAre w K g) (hi : i < 515) (u : Value) : CellsAre (w.setCell ⟨K, i, none⟩ u) K (fun j => if j = i then u else g j) := by
 obtain ⟨h1, h2, h3⟩ := h
 refine ⟨fun j hj => ?_, fun j => ?_, by simpa using h3⟩
 ·by_cases he : j = i
  ·subst he
   rw [World.cell?_setCell_same _ _ _ (h1 j hj)]
   simp
  ·rw [World.cell?_setCell_other _ _ _ _ (fun e => he (congrArg Addr.off e).symm)]
   simp only [if_neg he]
   exact h1 j hj
 ·rw [World.frozen?_setCell]
  exact h2 j
theorem KernIs.all {w : World} {K : Nat} {k : KernS} (h : KernIs w K k) : CellsAre w K (kv k) := ⟨h.cells, h.free, h.lt⟩
theorem CellsAre.kern {w : World} {K : Nat} {g : Nat → Value} {k : KernS} (h : CellsAre w K g) (he : ∀ j, j < 515 → g j = kv k j) : KernIs w K k := ⟨fun i hi => by rw [← he i hi]; exact h.1 i hi, h.2.1, h.2.2⟩
theorem KernIs.putSlot {w : World} {K : Nat} {k : KernS} (h : KernIs w K k) {e s : Nat} (he : e < 4) (hs : s < 8) (b : Bool) (f r x y : Int) :
  KernIs (((((w.setCell ⟨K, 3 + e * 40 + s * 5, none⟩ (.bool b)).setCell ⟨K, 3 + e * 40 + s * 5 + 1, none⟩ (.int .i64 f)).setCell ⟨K, 3 + e * 40 + s * 5 + 2, none⟩ (.int .i64 r)).setCell ⟨K, 3 + e * 40 + s * 5 + 3, none⟩ (.int .i64 x)).setCell ⟨K, 3 + e * 40 + s * 5 + 4, none⟩ (.int .i64 y)) K (k.setSlot e s ⟨b, f, r, x, y⟩) := by
 refine (((((h.all.set (i := 3 + e * 40 + s * 5) (by omega) _).set (i := 3 + e * 40 + s * 5 + 1) (by omega) _).set (i := 3 + e * 40 + s * 5 + 2) (by omega) _).set (i := 3 + e * 40 + s * 5 + 3) (by omega) _).set (i := 3 + e * 40 + s * 5 + 4) (by omega) _).kern fun j _ => ?_
 rw [kv_setSlot k he hs]
 obtain ⟨o, ho⟩ : ∃ o, 3 + e * 40 + s * 5 = o := ⟨_, rfl⟩
 rw [ho]
 rcases (show j = o ∨ j = o + 1 ∨ j = o + 2 ∨ j = o + 3 ∨ j = o + 4 ∨ ¬ (o ≤ j ∧ j < o + 5) by omega) with rfl | rfl | rfl | rfl | rfl | hn
 ·simp [slotC]
 ·simp [slotC]
 ·simp [slotC]
 ·simp [slotC]
 ·simp [slotC]
 ·rw [if_neg hn, if_neg (by omega), if_neg (by omega), if_neg (by omega), if_neg (by omega), if_neg (by omega)]
theorem KernIs.putPte {w : World} {K : Nat} {k : KernS} (h : KernIs w K k) {e p : Nat} (he : e < 4) (hp : p < 8) (f s r : Int) :
  KernIs (((w.setCell ⟨K, 163 + e * 24 + p * 3, none⟩ (.int .i64 f)).setCell ⟨K, 163 + e * 24 + p * 3 + 1, none⟩ (.int .i64 s)).setCell ⟨K, 163 + e * 24 + p * 3 + 2, none⟩ (.int .i64 r)) K (k.setPte e p ⟨f, s, r⟩) := by
 refine (((h.all.set (i := 163 + e * 24 + p * 3) (by omega) _).set (i := 163 + e * 24 + p * 3 + 1) (by omega) _).set (i := 163 + e * 24 + p * 3 + 2) (by omega) _).kern fun j _ => ?_
 rw [kv_setPte k he hp]
 obtain ⟨o, ho⟩ : ∃ o, 163 + e * 24 + p * 3 = o := ⟨_, rfl⟩
 rw [ho]
 rcases (show j = o ∨ j = o + 1 ∨ j = o + 2 ∨ ¬ (o ≤ j ∧ j < o + 3) by omega) with rfl | rfl | rfl | hn
 ·simp [pteC]
 ·simp [pteC]
 ·simp [pteC]
 ·rw [if_neg hn, if_neg (by omega), if_neg (by omega), if_neg (by omega)]
theorem KernIs.putWord {w : World} {K : Nat} {k : KernS} (h : KernIs w K k) {f a : Nat} (hf : f < 16) (ha : a < 16) (u : Int) :
  KernIs (w.setCell ⟨K, 259 + f * 16 + a, none⟩ (.int .u64 u)) K (k.setWord f a u) := by
 refine (h.all.set (i := 259 + f * 16 + a) (by omega) _).kern fun j _ => ?_
 rw [kv_setWord k ha]
theorem tp_slot {w w' : World} {T : Nat} (h : OnlyT T w w') (o : Nat) (a b c d e : Value) : OnlyT T w (((((w'.setCell ⟨T, o, none⟩ a).setCell ⟨T, o + 1, none⟩ b).setCell ⟨T, o + 2, none⟩ c).setCell ⟨T, o + 3, none⟩ d).setCell ⟨T, o + 4, none⟩ e) :=
 tp_set (tp_set (tp_set (tp_set (tp_set h _ _) _ _) _ _) _ _) _ _
theorem tp_pte {w w' : World} {T : Nat} (h : OnlyT T w w') (o : Nat) (a b c : Value) : OnlyT T w (((w'.setCell ⟨T, o, none⟩ a).setCell ⟨T, o + 1, none⟩ b).setCell ⟨T, o + 2, none⟩ c) :=
 tp_set (tp_set (tp_set h _ _) _ _) _ _
end Go.Proofs.YtdfhfmdelinemaaGreatDoor
namespace Go.Proofs.YtdfhfmdelinemaaGreatDoor
open Go.RowKit Go.Extern.Stop Go.Stop Go.Extern Go.WalkArith
def noSlot : SlotV := ⟨false, 0, 0, 0, 0⟩
def noPte : PteV := ⟨0, 0, 0⟩
def clr (k : KernS) (e s n : Nat) : KernS :=
 { k with
  sl := fun e' s' => if e' = e ∧ s' = s then noSlot else k.sl e' s'
  pt := fun e' p' => if e' = e ∧ p' < n ∧ ¬ (k.pt e' p').rights = 0 ∧ (k.pt e' p').slot = (s : Int) then noPte else k.pt e' p' }
theorem clr_zero (k : KernS) (e s : Nat) : clr k e s 0 = k.setSlot e s ⟨false, 0, 0, 0, 0⟩ := by
 unfold clr KernS.setSlot
 congr 1
 funext e' p'
 rw [if_neg (by omega)]
theorem clr_pt (k : KernS) (e s p : Nat) : (clr k e s p).pt e p = k.pt e p := by
 show (if e = e ∧ p < p ∧ _ then noPte else k.pt e p) = k.pt e p
 rw [if_neg (by omega)]
theorem clr_yes {k : KernS} {e s p : Nat} (hr : ¬ (k.pt e p).rights = 0) (hs : (k.pt e p).slot = (s : Int)) : clr k e s (p + 1) = (clr k e s p).setPte e p ⟨0, 0, 0⟩ := by
 unfold clr KernS.setPte
 congr 1
 funext e' p'
 dsimp only
 by_cases h : e' = e ∧ p' = p
 ·obtain ⟨rfl, rfl⟩ := h
  rw [if_pos ⟨rfl, by omega, hr, hs⟩, if_pos ⟨rfl, rfl⟩]
  rfl
 ·rw [if_neg h]
  by_cases h2 : e' = e ∧ p' < p ∧ ¬ (k.pt e' p').rights = 0 ∧ (k.pt e' p').slot = (s : Int)
  ·rw [if_pos h2, if_pos ⟨h2.1, by omega, h2.2.2⟩]
  ·rw [if_neg h2, if_neg (fun h3 => h2 ⟨h3.1, by omega, h3.2.2⟩)]
theorem clr_no {k : KernS} {e s p : Nat} (h : ¬ (¬ (k.pt e p).rights = 0 ∧ (k.pt e p).slot = (s : Int))) : clr k e s (p + 1) = clr k e s p := by
 unfold clr
 congr 1
 funext e' p'
 by_cases h2 : e' = e ∧ p' < p ∧ ¬ (k.pt e' p').rights = 0 ∧ (k.pt e' p').slot = (s : Int)
 ·rw [if_pos h2, if_pos ⟨h2.1, by omega, h2.2.2⟩]
 ·rw [if_neg h2, if_neg]
  rintro ⟨rfl, h4, h5⟩
  rcases (show p' < p ∨ p' = p by omega) with h6 | rfl
  ·exact h2 ⟨rfl, h6, h5⟩
  ·exact h h5
def goneF (k : KernS) (l : List Nat) : KernS := l.foldl (fun k j => clr k (j / 8) (j % 8) 8) k
theorem goneF_snoc (k : KernS) (l : List Nat) (j : Nat) : goneF k (l ++ [j]) = clr (goneF k l) (j / 8) (j % 8) 8 := by
 unfold goneF
 rw [List.foldl_append]
 rfl
def PlacesAt (w : World) (G : Nat) (l : List Nat) : Prop := (∀ i (hi : i < l.length), w.cell? ⟨G, i * 2, none⟩ = some (.int .i64 ((l[i] / 8 : Nat) : Int)) ∧ w.cell? ⟨G, i * 2 + 1, none⟩ = some (.int .i64 ((l[i] % 8 : Nat) : Int))) ∧ G < w.heap.size
theorem PlacesAt.foot {w w' : World} {G : Nat} {l : List Nat} (h : PlacesAt w G l) (hs : w.heap.size ≤ w'.heap.size) (hG : w'.heap[G]? = w.heap[G]?) : PlacesAt w' G l :=
 ⟨fun i hi => ⟨(World.cell?_of_block (a := ⟨G, i * 2, none⟩) hG).trans (h.1 i hi).1, (World.cell?_of_block (a := ⟨G, i * 2 + 1, none⟩) hG).trans (h.1 i hi).2⟩, Nat.lt_of_lt_of_le h.2 hs⟩
theorem KernIs.drew {w : World} {K : Nat} {k : KernS} (h : KernIs w K k) : KernIs w.drew K k := ⟨h.cells, h.free, h.lt⟩
theorem tk_drew {w w' : World} {T : Nat} (h : OnlyT T w w') : OnlyT T w w'.drew := ⟨h.os, h.tape, h.output, h.size, h.block⟩
theorem KernIs.drewN {w : World} {K : Nat} {k : KernS} (h : KernIs w K k) (n : Nat) : KernIs (w.drewN n) K k := ⟨h.cells, h.free, h.lt⟩
theorem tk_drewN {w w' : World} {T : Nat} (h : OnlyT T w w') (n : Nat) : OnlyT T w (w'.drewN n) := ⟨h.os, h.tape, h.output, h.size, h.block⟩
theorem tp_step {w a b : World} {T : Nat} (h : OnlyT T w a) (hb : OnlyT T a b) : OnlyT T w b :=
 ⟨hb.os.trans h.os, hb.tape.trans h.tape, hb.output.trans h.output, Nat.le_trans h.size hb.size, fun i hi hne => (hb.block i (Nat.lt_of_lt_of_le hi h.size) hne).trans (h.block i hi hne)⟩
theorem PlacesAt.only {w w' : World} {G K : Nat} {l : List Nat} (h : PlacesAt w G l) (ho : OnlyT K w w') (hne : G ≠ K) : PlacesAt w' G l := h.foot ho.size (ho.block G h.2 (fun e => hne (by injection e)))
set_option maxRecDepth 100000 in
set_option maxHeartbeats 8000000 in
theorem kref_gone_some (K G cap : Nat) (k : KernS) (l : List Nat) (hl : ∀ j, j ∈ l → j < 32) (hlen : l.length ≤ 1000) (hKG : G ≠ K) (w : World) (h : KernIs w K k) (hr : PlacesAt w G l) :
  Calls Tryz.prog 55 #[.pointer (some ⟨K, 0, none⟩), .slice (some ⟨G, 0, none⟩) l.length cap] w fun e w' => e = .returned (.tuple #[]) ∧ KernIs w' K (goneF k l) ∧ OnlyT K w w' := by
 have H := Lib.hid h
 have HR := Lib.hid hr
 have HL := Lib.hid hl
 clear h hr hl
 go_enter Tryz.func55, Tryz.ntmps55
 go_wp2_with fail
 go_loopw [4] (fun iv W => ∃ i : Nat, i ≤ l.length ∧ iv = .int .i64 i ∧ KernIs W K (goneF k (l.take i)) ∧ PlacesAt W G l ∧ OnlyT K w W) (fun iv _ => (l.length - intOf iv).toNat)
 case atStart => exact ⟨0, by omega, rfl, by rw [List.take_zero]; exact H.out, HR.out, tp_below (Below.refl _ _)⟩
 case round =>
  clear H HR
  obtain ⟨i, hi, rfl, hk, hr, ho⟩ := hrel
  have HK := Lib.hid hk
  have HR := Lib.hid hr
  have HO := Lib.hid ho
  clear hk hr ho
  by_cases h1 : i < l.length
  ·have i1 : (i : Int) < (l.length : Int) := by omega
   have i0 : (0 : Int) ≤ (i : Int) := by omega
   obtain ⟨g0, g1⟩ := HR.out.1 i h1
   obtain ⟨e, he⟩ : ∃ e : Nat, l[i] / 8 = e := ⟨_, rfl⟩
   obtain ⟨s, hs⟩ : ∃ s : Nat, l[i] % 8 = s := ⟨_, rfl⟩
   have hj := HL.out l[i] (List.getElem_mem h1)
   rw [he] at g0
   rw [hs] at g1
   have he4 : e < 4 := by omega
   have hs8 : s < 8 := by omega
   obtain ⟨q, hq⟩ : ∃ q, goneF k (l.take i) = q := ⟨_, rfl⟩
   have HQ : Hid (goneF k (l.take (i + 1)) = clr q e s 8) := by
    show goneF k (l.take (i + 1)) = clr q e s 8
    rw [List.take_succ_eq_append_getElem h1, goneF_snoc, hq, he, hs]
   rw [hq] at HK
   have GE := Lib.hid (show ∀ W, PlacesAt W G l → W.cell? ⟨G, i * 2, none⟩ = some (.int .i64 (e : Int)) ∧ W.cell? ⟨G, i * 2 + 1, none⟩ = some (.int .i64 (s : Int)) from fun W hW => by have h := hW.1 i h1; rw [he, hs] at h; exact h)
   clear he hs hj hq
   have e0 : (0 : Int) ≤ (e : Int) := by omega
   have e1 : (e : Int) < 4 := by omega
   have s0 : (0 : Int) ≤ (s : Int) := by omega
   have s1 : (s : Int) < 8 := by omega
   have f0 := HK.out.free (3 + e * 40 + s * 5)
   have f1 := HK.out.free (3 + e * 40 + s * 5 + 1)
   have f2 := HK.out.free (3 + e * 40 + s * 5 + 2)
   have f3 := HK.out.free (3 + e * 40 + s * 5 + 3)
   have f4 := HK.out.free (3 + e * 40 + s * 5 + 4)
   obtain ⟨c0, c1, c2, c3, c4⟩ := HK.out.slot he4 hs8
   go_wp2_with fail
   go_region
   obtain ⟨w2, hw2⟩ : ∃ w2, w2 = (((((wr.setCell ⟨K, 3 + e * 40 + s * 5, none⟩ (.bool false)).setCell ⟨K, 3 + e * 40 + s * 5 + 1, none⟩ (.int .i64 0)).setCell ⟨K, 3 + e * 40 + s * 5 + 2, none⟩ (.int .i64 0)).setCell ⟨K, 3 + e * 40 + s * 5 + 3, none⟩ (.int .i64 0)).setCell ⟨K, 3 + e * 40 + s * 5 + 4, none⟩ (.int .i64 0)).drew := ⟨_, rfl⟩
   have ho2 : OnlyT K wr w2 := by rw [hw2]; exact tk_drew (tp_slot (tp_below (Below.refl _ _)) _ _ _ _ _ _)
   have K2 : Hid (KernIs w2 K (clr q e s 0)) := by rw [hw2, clr_zero]; exact (HK.out.putSlot he4 hs8 false 0 0 0 0).drew
   have R2 := Lib.hid (HR.out.only ho2 hKG)
   have O2 := Lib.hid (tp_step HO.out ho2)
   rw [← hw2]
   clear hw2 ho2 HK HR HO f0 f1 f2 f3 f4 c0 c1 c2 c3 c4 g0 g1
   go_wp2_with fail
   go_loopw [29] (fun pv W => ∃ p : Nat, p ≤ 8 ∧ pv = .int .i64 p ∧ KernIs W K (clr q e s p) ∧ PlacesAt W G l ∧ OnlyT K w W) (fun pv _ => (8 - intOf pv).toNat)
   case atStart => exact ⟨0, by omega, rfl, K2.out, R2.out, O2.out⟩
   case round =>
    clear K2 R2 O2
    obtain ⟨p, hp, rfl, hk, hr, ho⟩ := hrel
    have HK := Lib.hid hk
    have HR := Lib.hid hr
    have HO := Lib.hid ho
    clear hk hr ho
    by_cases h2 : p < 8
    ·have p0 : (0 : Int) ≤ (p : Int) := by omega
     have p1 : (p : Int) < 8 := by omega
     obtain ⟨g0, g1⟩ := GE.out wr HR.out
     obtain ⟨c0, c1, c2⟩ := HK.out.pte he4 h2
     rw [clr_pt] at c0 c1 c2
     have lG := HR.out.2
     have lK := HK.out.lt
     go_wp2_with fail
     go_region
     obtain ⟨X, hX⟩ : ∃ X, X = wr.heap.size := ⟨_, rfl⟩
     obtain ⟨w3, hw3⟩ : ∃ w3, w3 = (wr.alloc (.cells #[.int .i64 (q.pt e p).frame, .int .i64 (q.pt e p).slot, .int .i64 (q.pt e p).rights] 83)).drew := ⟨_, rfl⟩
     have hbw : Below wr.heap.size wr w3 := by rw [hw3]; exact (Below.refl _ _).alloc (Nat.le_refl _) _ |>.drew
     have X3 : Hid (w3.heap[X]? = some (.cells #[.int .i64 (q.pt e p).frame, .int .i64 (q.pt e p).slot, .int .i64 (q.pt e p).rights] 83 (0, 0))) := by rw [hw3, hX]; exact heap_alloc_new wr _
     have K3 := Lib.hid (HK.out.later hbw)
     have R3 := Lib.hid (HR.out.foot hbw.size (hbw.block G lG))
     have O3 := Lib.hid (tp_step HO.out (tp_below hbw))
     rw [← hw3, ← hX]
     clear hw3 hX hbw HK HR HO lG lK c0 c1 c2 g0 g1
     obtain ⟨g0, g1⟩ := GE.out w3 R3.out
     have x1 := bk_cell X3.out 1
     have x2 := bk_cell X3.out 2
     by_cases hr : (q.pt e p).rights = 0
     ·have HN := Lib.hid (clr_no (k := q) (e := e) (s := s) (p := p) (fun h => h.1 hr))
      rw [hr] at x2
      clear hr
      go_wp2_with fail
      go_quiet (fail)
      go_wp2_with fail
      go_roundw
      case rel => exact ⟨p + 1, by omega, by go_num, by rw [HN.out]; exact K3.out.drewN _, R3.out, tk_drewN O3.out _⟩
      case measure => simp [intOf]; omega
     ·have hr1 : ((q.pt e p).rights != 0) = true := by simpa using hr
      have hr2 : ((q.pt e p).rights == 0) = false := by simpa using hr
      by_cases hsl : (q.pt e p).slot = (s : Int)
      ·have HN := Lib.hid (clr_yes (k := q) (e := e) (s := s) (p := p) hr hsl)
       rw [hsl] at x1
       clear hr hsl
       go_wp2_with fail
       go_quiet (fail)
       obtain ⟨w4, hw4⟩ : ∃ w4, w4 = w3.drewN nq := ⟨_, rfl⟩
       have K4 : Hid (KernIs w4 K (clr q e s p)) := by rw [hw4]; exact K3.out.drewN _
       have R4 : Hid (PlacesAt w4 G l) := by rw [hw4]; exact R3.out
       have O4 : Hid (OnlyT K w w4) := by rw [hw4]; exact tk_drewN O3.out _
       rw [← hw4]
       clear hw4 K3 R3 O3 X3 x1 x2 g0 g1
       obtain ⟨g0, g1⟩ := GE.out w4 R4.out
       obtain ⟨c0, c1, c2⟩ := K4.out.pte he4 h2
       rw [clr_pt] at c0 c1 c2
       have f0 := K4.out.free (163 + e * 24 + p * 3)
       have f1 := K4.out.free (163 + e * 24 + p * 3 + 1)
       have f2 := K4.out.free (163 + e * 24 + p * 3 + 2)
       go_wp2_with fail
       go_region
       go_wp2_with fail
       go_roundw
       case rel => exact ⟨p + 1, by omega, by go_num, by rw [HN.out]; exact (K4.out.putPte he4 h2 0 0 0).drew, R4.out.only (tk_drew (tp_pte (tp_below (Below.refl _ _)) _ _ _ _)) hKG, tp_step O4.out (tk_drew (tp_pte (tp_below (Below.refl _ _)) _ _ _ _))⟩
       case measure => simp [intOf]; omega
      ·have HN := Lib.hid (clr_no (k := q) (e := e) (s := s) (p := p) (fun h => hsl h.2))
       have hs1 : ((q.pt e p).slot == (s : Int)) = false := by simpa using hsl
       clear hr hsl
       go_wp2_with fail
       go_quiet (fail)
       go_wp2_with fail
       go_roundw
       case rel => exact ⟨p + 1, by omega, by go_num, by rw [HN.out]; exact K3.out.drewN _, R3.out, tk_drewN O3.out _⟩
       case measure => simp [intOf]; omega
    ·obtain rfl : p = 8 := by omega
     go_wp2_with fail
     go_roundw
     case rel => exact ⟨i + 1, by omega, by go_num, by rw [HQ.out]; exact HK.out, HR.out, HO.out⟩
     case measure => simp [intOf]; omega
  ·obtain rfl : l.length = i := by omega
   have i1 : ¬ (l.length : Int) < (l.length : Int) := by omega
   go_wp2_with fail
   go_end0
   exact ⟨rfl, by have := HK.out; rw [List.take_length] at this; exact this, HO.out⟩
end Go.Proofs.YtdfhfmdelinemaaGreatDoor
namespace Go.Proofs.YtdfhfmdelinemaaGreatDoor
open Go.RowKit Go.Extern.Stop Go.Stop Go.Extern Go.WalkArith
def holdsB (op a b : Int) : Bool := if op = 1 then a == b else if op = 2 then !(a == b) else if op = 3 then decide (a < b) else if op = 4 then decide (b < a) else false
theorem kref_holds (op a b : Int) (w : World) : Calls Tryz.prog 57 #[.int .i64 op, .int .u64 a, .int .u64 b] w fun e w' => e = .returned (.bool (holdsB op a b)) ∧ w = w' := by
 go_enter Tryz.func57, Tryz.ntmps57
 by_cases h1 : op = 1
 ·subst h1
  go_wp2_with fail
  go_ret
  exact ⟨rfl, rfl⟩
 ·by_cases h2 : op = 2
  ·subst h2
   go_wp2_with fail
   go_ret
   exact ⟨rfl, rfl⟩
  ·by_cases h3 : op = 3
   ·subst h3
    go_wp2_with fail
    go_ret
    exact ⟨rfl, rfl⟩
   ·by_cases h4 : op = 4
    ·subst h4
     go_wp2_with fail
     go_ret
     exact ⟨rfl, rfl⟩
    ·have q1 : (op == 1) = false := by simpa using h1
     have q2 : (op == 2) = false := by simpa using h2
     have q3 : (op == 3) = false := by simpa using h3
     have q4 : (op == 4) = false := by simpa using h4
     have hh : holdsB op a b = false := by unfold holdsB; rw [if_neg h1, if_neg h2, if_neg h3, if_neg h4]
     rw [hh]
     clear h1 h2 h3 h4 hh
     go_wp2_with fail
     go_ret
     exact ⟨rfl, rfl⟩
def wordS (k : KernS) (f a : Nat) (kind x3 x4 : Int) : KernS :=
 if kind = 21 then k.setWord f a x3 else if kind = 22 then (if k.mm f a = x3 then k.setWord f a x4 else k) else if kind = 23 then k.setWord f a (IntKind.u64.wrap (k.mm f a + x3)) else k
def wordT (k : KernS) (f a : Nat) (kind : Int) : Int := if kind = 21 then 0 else k.mm f a
set_option maxHeartbeats 4000000 in
theorem kref_word (K : Nat) (k : KernS) (f a : Nat) (hf : f < 16) (ha : a < 16) (kind x0 x1 x3 x4 : Int) (w : World) (h : KernIs w K k) :
  Calls Tryz.prog 59 #[.pointer (some ⟨K, 0, none⟩), .int .i64 (f : Int), .int .i64 kind, .agg #[.int .u64 x0, .int .u64 x1, .int .u64 (a : Int), .int .u64 x3, .int .u64 x4]] w fun e w' => e = .returned (.int .u64 (wordT k f a kind)) ∧ KernIs w' K (wordS k f a kind x3 x4) ∧ OnlyT K w w' := by
 have H := Lib.hid h
 clear h
 go_enter Tryz.func59, Tryz.ntmps59
 go_wp2_with fail
 obtain ⟨C, hC⟩ : ∃ C, C = w.heap.size := ⟨_, rfl⟩
 obtain ⟨w1, hw1⟩ : ∃ w1, w1 = w.alloc (.cells #[.int .u64 x0, .int .u64 x1, .int .u64 (a : Int), .int .u64 x3, .int .u64 x4] 36) := ⟨_, rfl⟩
 have hb : Below w.heap.size w w1 := by rw [hw1]; exact (Below.refl _ _).alloc (Nat.le_refl _) _
 have C1 : Hid (w1.heap[C]? = some (.cells #[.int .u64 x0, .int .u64 x1, .int .u64 (a : Int), .int .u64 x3, .int .u64 x4] 36 (0, 0))) := by rw [hw1, hC]; exact heap_alloc_new w _
 have K1 := Lib.hid (H.out.later hb)
 have O1 := Lib.hid (tp_below (T := K) hb)
 have hCK : C ≠ K := by have := H.out.lt; omega
 rw [← hw1, ← hC]
 clear hw1 hC hb H
 have d2 := bk_cell C1.out 2
 have f0 : (0 : Int) ≤ (f : Int) := by omega
 have f1 : (f : Int) < 16 := by omega
 have a0 : (0 : Int) ≤ (a : Int) := by omega
 have a1 : (a : Int) < 16 := by omega
 go_wp2_with fail
 go_quiet (fail)
 obtain ⟨w2, hw2⟩ : ∃ w2, w2 = w1.drewN nq := ⟨_, rfl⟩
 have K2 : Hid (KernIs w2 K k) := by rw [hw2]; exact K1.out.drewN _
 have C2 : Hid (w2.heap[C]? = some (.cells #[.int .u64 x0, .int .u64 x1, .int .u64 (a : Int), .int .u64 x3, .int .u64 x4] 36 (0, 0))) := by rw [hw2]; exact C1.out
 have O2 : Hid (OnlyT K w w2) := by rw [hw2]; exact tk_drewN O1.out _
 rw [← hw2]
 clear hw2 K1 C1 O1 d2 f0 f1 a0 a1
 have c0 := K2.out.word hf ha
 have g0 := K2.out.free (259 + f * 16 + a)
 have d3 := bk_cell C2.out 3
 have d4 := bk_cell C2.out 4
 by_cases h1 : kind = 21
 ·subst h1
  go_wp2_with fail
  go_ret
  exact ⟨rfl, K2.out.putWord hf ha x3, tp_set O2.out _ _⟩
 ·have q1 : (kind == 21) = false := by simpa using h1
  by_cases h2 : kind = 22
  ·subst h2
   clear h1
   by_cases hm : k.mm f a = x3
   ·have E1 := Lib.hid (show wordS k f a 22 x3 x4 = k.setWord f a x4 by unfold wordS; rw [if_neg (by decide), if_pos rfl, if_pos hm])
    have E2 := Lib.hid (show wordT k f a 22 = x3 by unfold wordT; rw [if_neg (by decide), hm])
    rw [hm] at c0
    clear hm
    go_wp2_with fail
    go_ret
    exact ⟨by rw [E2.out]; rfl, by rw [E1.out]; exact K2.out.putWord hf ha x4, tp_set O2.out _ _⟩
   ·have E1 := Lib.hid (show wordS k f a 22 x3 x4 = k by unfold wordS; rw [if_neg (by decide), if_pos rfl, if_neg hm])
    have hm2 : (k.mm f a == x3) = false := by simpa using hm
    clear hm
    go_wp2_with fail
    go_ret
    exact ⟨rfl, by rw [E1.out]; exact K2.out, O2.out⟩
  ·have q2 : (kind == 22) = false := by simpa using h2
   have E2 := Lib.hid (show wordT k f a kind = k.mm f a by unfold wordT; rw [if_neg h1])
   by_cases h3 : kind = 23
   ·subst h3
    have E1 := Lib.hid (show wordS k f a 23 x3 x4 = k.setWord f a (IntKind.u64.wrap (k.mm f a + x3)) from rfl)
    clear h1 h2
    go_wp2_with fail
    go_ret
    exact ⟨by rw [E2.out]; rfl, by rw [E1.out]; exact K2.out.putWord hf ha _, tp_set O2.out _ _⟩
   ·have q3 : (kind == 23) = false := by simpa using h3
    have E1 := Lib.hid (show wordS k f a kind x3 x4 = k by unfold wordS; rw [if_neg h1, if_neg h2, if_neg h3])
    clear h1 h2 h3
    go_wp2_with fail
    go_ret
    exact ⟨by rw [E2.out]; rfl, by rw [E1.out]; exact K2.out, O2.out⟩
end Go.Proofs.YtdfhfmdelinemaaGreatDoor
namespace Go.Proofs.YtdfhfmdelinemaaGreatDoor
open Go.RowKit Go.Extern.Stop Go.Stop Go.Extern Go.WalkArith
def deriveE (k : KernS) (e s e' s' : Nat) (r : Int) : Int :=
 if (k.sl e s).is = false then 3 else if (k.sl e' s').is = true then 4 else if withinB r (k.sl e s).rights = false then 5 else if 7 ≤ refsN k (k.sl e s).frame 32 then 6 else 0
def deriveS (k : KernS) (e s e' s' : Nat) (r : Int) : KernS := if deriveE k e s e' s' r = 0 then k.setSlot e' s' ⟨true, (k.sl e s).frame, r, (e : Int), (s : Int)⟩ else k
def SlotAt (w : World) (A : Nat) (v : SlotV) : Prop := w.heap[A]? = some (.cells #[.bool v.is, .int .i64 v.frame, .int .i64 v.rights, .int .i64 v.env, .int .i64 v.slot] 98 (0, 0))
theorem two_new (w : World) (X Y : Obj) : ((w.alloc X).alloc Y).drew.heap[w.heap.size]? = some X ∧ ((w.alloc X).alloc Y).drew.heap[w.heap.size + 1]? = some Y ∧ Below w.heap.size w ((w.alloc X).alloc Y).drew := by
 refine ⟨bk_two (Below.refl _ ((w.alloc X).alloc Y)).drew, ?_, (((Below.refl _ _).alloc (Nat.le_refl _) _).alloc (by simp) _).drew⟩
 have h := heap_alloc_new (w.alloc X) Y
 rw [show (w.alloc X).heap.size = w.heap.size + 1 by simp] at h
 exact h
set_option maxRecDepth 100000 in
set_option maxHeartbeats 8000000 in
theorem kref_derive (K : Nat) (k : KernS) (e s e' s' : Nat) (he : e < 4) (hs : s < 8) (he' : e' < 4) (hs' : s' < 8) (r : Int) (w : World) (h : KernIs w K k) :
  Calls Tryz.prog 53 #[.pointer (some ⟨K, 0, none⟩), .int .i64 (e : Int), .int .i64 (s : Int), .int .i64 (e' : Int), .int .i64 (s' : Int), .int .i64 r] w fun x w' => x = .returned (.int .i64 (deriveE k e s e' s' r)) ∧ KernIs w' K (deriveS k e s e' s' r) ∧ OnlyT K w w' := by
 have H := Lib.hid h
 clear h
 go_enter Tryz.func53, Tryz.ntmps53
 obtain ⟨a0, a1, a2, a3, a4⟩ := H.out.slot he hs
 obtain ⟨b0, b1, b2, b3, b4⟩ := H.out.slot he' hs'
 have i0 : (0 : Int) ≤ (e : Int) := by omega
 have i1 : (e : Int) < 4 := by omega
 have i2 : (0 : Int) ≤ (s : Int) := by omega
 have i3 : (s : Int) < 8 := by omega
 have j0 : (0 : Int) ≤ (e' : Int) := by omega
 have j1 : (e' : Int) < 4 := by omega
 have j2 : (0 : Int) ≤ (s' : Int) := by omega
 have j3 : (s' : Int) < 8 := by omega
 have lK := H.out.lt
 go_wp2_with fail
 go_cut [13, 14] (fun av bv W => ∃ A B, av = .pointer (some ⟨A, 0, none⟩) ∧ bv = .pointer (some ⟨B, 0, none⟩) ∧ SlotAt W A (k.sl e s) ∧ SlotAt W B (k.sl e' s') ∧ Below w.heap.size w W)
 case first =>
  go_region
  all_goals
   go_wp2_with fail
   go_meet
   case rel =>
    first
     | exact ⟨w.heap.size, w.heap.size + 1, rfl, rfl, (two_new w _ _).1, (two_new w _ _).2.1, (two_new w _ _).2.2⟩
     | exact ⟨w.heap.size + 1, w.heap.size, rfl, rfl, (two_new w _ _).2.1, (two_new w _ _).1, (two_new w _ _).2.2⟩
 case rest =>
  obtain ⟨A, B, rfl, rfl, ha, hb, hw⟩ := hcut
  have HA := Lib.hid ha
  have HB := Lib.hid hb
  have HW := Lib.hid hw
  have HK := Lib.hid (H.out.later hw)
  clear ha hb hw a0 a1 a2 a3 a4 b0 b1 b2 b3 b4 lK H
  have a0 := bk_cell HA.out 0
  have a1 := bk_cell HA.out 1
  have a2 := bk_cell HA.out 2
  have b0 := bk_cell HB.out 0
  rcases hi : (k.sl e s).is with _ | _
  ·have E1 := Lib.hid (show deriveE k e s e' s' r = 3 by unfold deriveE; rw [if_pos hi])
   have E2 := Lib.hid (show deriveS k e s e' s' r = k by unfold deriveS; rw [E1.out, if_neg (by decide)])
   rw [hi] at a0
   clear hi
   go_wp2_with fail
   go_ret
   exact ⟨by rw [E1.out]; rfl, by rw [E2.out]; exact HK.out, tp_below HW.out⟩
  ·have n1 : ¬ (k.sl e s).is = false := by rw [hi]; simp
   rcases hj : (k.sl e' s').is with _ | _
   ·have n2 : ¬ (k.sl e' s').is = true := by rw [hj]; simp
    rcases hwi : withinB r (k.sl e s).rights with _ | _
    ·have E1 := Lib.hid (show deriveE k e s e' s' r = 5 by unfold deriveE; rw [if_neg n1, if_neg n2, if_pos hwi])
     have E2 := Lib.hid (show deriveS k e s e' s' r = k by unfold deriveS; rw [E1.out, if_neg (by decide)])
     rw [hi] at a0
     rw [hj] at b0
     clear hi hj n1 n2
     have HWI := ref_within_any r (k.sl e s).rights wc
     rw [hwi] at HWI
     clear hwi
     go_wp2_with fail
     refine HWI.mono ?_
     rintro x w2 ⟨rfl, rfl⟩
     clear HWI
     go_wp2_with fail
     go_ret
     exact ⟨by rw [E1.out]; rfl, by rw [E2.out]; exact HK.out, tp_below HW.out⟩
    ·have n3 : ¬ withinB r (k.sl e s).rights = false := by rw [hwi]; simp
     have hle := refsN_le k (k.sl e s).frame 32
     have HWI := ref_within_any r (k.sl e s).rights wc
     rw [hwi] at HWI
     rw [hi] at a0
     rw [hj] at b0
     go_wp2_with fail
     refine HWI.mono ?_
     rintro x w2 ⟨rfl, rfl⟩
     clear HWI
     go_wp2_with fail
     refine (kref_refs K k (k.sl e s).frame wc HK.out).mono ?_
     rintro x w2 ⟨rfl, rfl⟩
     by_cases h7 : 7 ≤ refsN k (k.sl e s).frame 32
     ·have E1 := Lib.hid (show deriveE k e s e' s' r = 6 by unfold deriveE; rw [if_neg n1, if_neg n2, if_neg n3, if_pos h7])
      have E2 := Lib.hid (show deriveS k e s e' s' r = k by unfold deriveS; rw [E1.out, if_neg (by decide)])
      have h71 : (7 : Int) ≤ (refsN k (k.sl e s).frame 32 : Int) := by omega
      clear hi hj hwi n1 n2 n3 h7
      go_wp2_with fail
      go_ret
      exact ⟨by rw [E1.out]; rfl, by rw [E2.out]; exact HK.out, tp_below HW.out⟩
     ·have E1 := Lib.hid (show deriveE k e s e' s' r = 0 by unfold deriveE; rw [if_neg n1, if_neg n2, if_neg n3, if_neg h7])
      have E2 := Lib.hid (show deriveS k e s e' s' r = k.setSlot e' s' ⟨true, (k.sl e s).frame, r, (e : Int), (s : Int)⟩ by unfold deriveS; rw [E1.out, if_pos rfl])
      have h71 : ¬ (7 : Int) ≤ (refsN k (k.sl e s).frame 32 : Int) := by omega
      clear hi hj hwi n1 n2 n3 h7
      obtain ⟨c0, c1, c2, c3, c4⟩ := HK.out.slot he' hs'
      have f0 := HK.out.free (3 + e' * 40 + s' * 5)
      have f1 := HK.out.free (3 + e' * 40 + s' * 5 + 1)
      have f2 := HK.out.free (3 + e' * 40 + s' * 5 + 2)
      have f3 := HK.out.free (3 + e' * 40 + s' * 5 + 3)
      have f4 := HK.out.free (3 + e' * 40 + s' * 5 + 4)
      go_wp2_with fail
      go_region
      go_wp2_with fail
      go_ret
      exact ⟨by rw [E1.out]; rfl, by rw [E2.out]; exact (HK.out.putSlot he' hs' true (k.sl e s).frame r (e : Int) (s : Int)).drew, tk_drew (tp_slot (tp_below HW.out) _ _ _ _ _ _)⟩
   ·have E1 := Lib.hid (show deriveE k e s e' s' r = 4 by unfold deriveE; rw [if_neg n1, if_pos hj])
    have E2 := Lib.hid (show deriveS k e s e' s' r = k by unfold deriveS; rw [E1.out, if_neg (by decide)])
    rw [hi] at a0
    rw [hj] at b0
    clear hi hj n1
    go_wp2_with fail
    go_ret
    exact ⟨by rw [E1.out]; rfl, by rw [E2.out]; exact HK.out, tp_below HW.out⟩
end Go.Proofs.YtdfhfmdelinemaaGreatDoor
namespace Go.Proofs.YtdfhfmdelinemaaGreatDoor
open Go.RowKit Go.Extern.Stop Go.Stop Go.Extern Go.WalkArith
def mapE (k : KernS) (e p s : Nat) (r : Int) : Int :=
 if (k.sl e s).is = false then 3 else if ¬ (k.pt e p).rights = 0 then 4 else if withinB r (k.sl e s).rights = false then 5 else 0
def mapS (k : KernS) (e p s : Nat) (r : Int) : KernS := if mapE k e p s r = 0 then k.setPte e p ⟨(k.sl e s).frame, (s : Int), r⟩ else k
def unmapE (k : KernS) (e p : Nat) : Int := if (k.pt e p).rights = 0 then 3 else 0
def unmapS (k : KernS) (e p : Nat) : KernS := if (k.pt e p).rights = 0 then k else k.setPte e p ⟨0, 0, 0⟩
def protE (k : KernS) (e p : Nat) (r : Int) : Int :=
 if (k.pt e p).rights = 0 then 3 else if withinB r (k.sl e (k.pt e p).slot.toNat).rights = false then 5 else 0
def protS (k : KernS) (e p : Nat) (r : Int) : KernS := if protE k e p r = 0 then k.setPte e p ⟨(k.pt e p).frame, (k.pt e p).slot, r⟩ else k
theorem num_back (r : Int) (h0 : 0 ≤ r) (h1 : r ≤ 3) : IntKind.i64.wrap r = r := by
 rw [Go.IntWalk.i64_in _ (by omega)]
set_option maxRecDepth 100000 in
set_option maxHeartbeats 8000000 in
theorem kref_unmap (K : Nat) (k : KernS) (e p : Nat) (he : e < 4) (hp : p < 8) (x0 x2 x3 x4 : Int) (w : World) (h : KernIs w K k) :
  Calls Tryz.prog 56 #[.pointer (some ⟨K, 0, none⟩), .int .i64 (e : Int), .int .i64 7, .agg #[.int .u64 x0, .int .u64 (p : Int), .int .u64 x2, .int .u64 x3, .int .u64 x4]] w fun x w' => x = .returned (.int .i64 (unmapE k e p)) ∧ KernIs w' K (unmapS k e p) ∧ OnlyT K w w' := by
 have H := Lib.hid h
 clear h
 go_enter Tryz.func56, Tryz.ntmps56
 go_wp2_with fail
 obtain ⟨C, hC⟩ : ∃ C, C = w.heap.size := ⟨_, rfl⟩
 obtain ⟨w1, hw1⟩ : ∃ w1, w1 = w.alloc (.cells #[.int .u64 x0, .int .u64 (p : Int), .int .u64 x2, .int .u64 x3, .int .u64 x4] 36) := ⟨_, rfl⟩
 have hb : Below w.heap.size w w1 := by rw [hw1]; exact (Below.refl _ _).alloc (Nat.le_refl _) _
 have C1 : Hid (w1.heap[C]? = some (.cells #[.int .u64 x0, .int .u64 (p : Int), .int .u64 x2, .int .u64 x3, .int .u64 x4] 36 (0, 0))) := by rw [hw1, hC]; exact heap_alloc_new w _
 have K1 := Lib.hid (H.out.later hb)
 have O1 := Lib.hid (tp_below (T := K) hb)
 rw [← hw1, ← hC]
 clear hw1 hC hb H
 have d1 := bk_cell C1.out 1
 have e0 : (0 : Int) ≤ (e : Int) := by omega
 have e1 : (e : Int) < 4 := by omega
 have p0 : (0 : Int) ≤ (p : Int) := by omega
 have p1 : (p : Int) < 8 := by omega
 go_wp2_with fail
 go_quiet (fail)
 obtain ⟨w2, hw2⟩ : ∃ w2, w2 = w1.drewN nq := ⟨_, rfl⟩
 have K2 : Hid (KernIs w2 K k) := by rw [hw2]; exact K1.out.drewN _
 have O2 : Hid (OnlyT K w w2) := by rw [hw2]; exact tk_drewN O1.out _
 rw [← hw2]
 clear hw2 K1 C1 O1 d1 e0 e1 p0 p1
 obtain ⟨c0, c1, c2⟩ := K2.out.pte he hp
 have f0 := K2.out.free (163 + e * 24 + p * 3)
 have f1 := K2.out.free (163 + e * 24 + p * 3 + 1)
 have f2 := K2.out.free (163 + e * 24 + p * 3 + 2)
 by_cases hr : (k.pt e p).rights = 0
 ·have E1 := Lib.hid (show unmapE k e p = 3 by unfold unmapE; rw [if_pos hr])
  have E2 := Lib.hid (show unmapS k e p = k by unfold unmapS; rw [if_pos hr])
  rw [hr] at c2
  clear hr
  go_wp2_with fail
  go_ret
  exact ⟨by rw [E1.out]; rfl, by rw [E2.out]; exact K2.out, O2.out⟩
 ·have E1 := Lib.hid (show unmapE k e p = 0 by unfold unmapE; rw [if_neg hr])
  have E2 := Lib.hid (show unmapS k e p = k.setPte e p ⟨0, 0, 0⟩ by unfold unmapS; rw [if_neg hr])
  have hr2 : ((k.pt e p).rights == 0) = false := by simpa using hr
  clear hr
  go_wp2_with fail
  go_ret
  exact ⟨by rw [E1.out]; rfl, by rw [E2.out]; exact K2.out.putPte he hp 0 0 0, tp_pte O2.out _ _ _ _⟩
theorem KernIs.putRights {w : World} {K : Nat} {k : KernS} (h : KernIs w K k) {e p : Nat} (he : e < 4) (hp : p < 8) (r : Int) :
  KernIs (w.setCell ⟨K, 163 + e * 24 + p * 3 + 2, none⟩ (.int .i64 r)) K (k.setPte e p ⟨(k.pt e p).frame, (k.pt e p).slot, r⟩) := by
 refine (h.all.set (i := 163 + e * 24 + p * 3 + 2) (by omega) _).kern fun j _ => ?_
 rw [kv_setPte k he hp]
 by_cases h2 : j = 163 + e * 24 + p * 3 + 2
 ·subst h2
  rw [if_pos rfl, if_pos (by omega), show 163 + e * 24 + p * 3 + 2 - (163 + e * 24 + p * 3) = 2 by omega]
  rfl
 ·rw [if_neg h2]
  by_cases h0 : j = 163 + e * 24 + p * 3 + 0
  ·subst h0
   rw [kv_pte k he hp (by omega), if_pos (by omega), show 163 + e * 24 + p * 3 + 0 - (163 + e * 24 + p * 3) = 0 by omega]
   rfl
  ·by_cases h1 : j = 163 + e * 24 + p * 3 + 1
   ·subst h1
    rw [kv_pte k he hp (by omega), if_pos (by omega), show 163 + e * 24 + p * 3 + 1 - (163 + e * 24 + p * 3) = 1 by omega]
    rfl
   ·rw [if_neg (by omega)]
set_option maxRecDepth 100000 in
set_option maxHeartbeats 8000000 in
theorem kref_map (K : Nat) (k : KernS) (e p s : Nat) (he : e < 4) (hp : p < 8) (hs : s < 8) (r x0 x4 : Int) (r0 : 0 ≤ r) (r3 : r ≤ 3) (w : World) (h : KernIs w K k) :
  Calls Tryz.prog 56 #[.pointer (some ⟨K, 0, none⟩), .int .i64 (e : Int), .int .i64 6, .agg #[.int .u64 x0, .int .u64 (p : Int), .int .u64 (s : Int), .int .u64 r, .int .u64 x4]] w fun x w' => x = .returned (.int .i64 (mapE k e p s r)) ∧ KernIs w' K (mapS k e p s r) ∧ OnlyT K w w' := by
 have H := Lib.hid h
 clear h
 go_enter Tryz.func56, Tryz.ntmps56
 go_wp2_with fail
 obtain ⟨C, hC⟩ : ∃ C, C = w.heap.size := ⟨_, rfl⟩
 obtain ⟨w1, hw1⟩ : ∃ w1, w1 = w.alloc (.cells #[.int .u64 x0, .int .u64 (p : Int), .int .u64 (s : Int), .int .u64 r, .int .u64 x4] 36) := ⟨_, rfl⟩
 have hb : Below w.heap.size w w1 := by rw [hw1]; exact (Below.refl _ _).alloc (Nat.le_refl _) _
 have C1 : Hid (w1.heap[C]? = some (.cells #[.int .u64 x0, .int .u64 (p : Int), .int .u64 (s : Int), .int .u64 r, .int .u64 x4] 36 (0, 0))) := by rw [hw1, hC]; exact heap_alloc_new w _
 have K1 := Lib.hid (H.out.later hb)
 have O1 := Lib.hid (tp_below (T := K) hb)
 have hCK : C ≠ K := by have := H.out.lt; omega
 rw [← hw1, ← hC]
 clear hw1 hC hb H
 have d1 := bk_cell C1.out 1
 have e0 : (0 : Int) ≤ (e : Int) := by omega
 have e1 : (e : Int) < 4 := by omega
 have p0 : (0 : Int) ≤ (p : Int) := by omega
 have p1 : (p : Int) < 8 := by omega
 go_wp2_with fail
 go_quiet (fail)
 obtain ⟨w2, hw2⟩ : ∃ w2, w2 = w1.drewN nq := ⟨_, rfl⟩
 have K2 : Hid (KernIs w2 K k) := by rw [hw2]; exact K1.out.drewN _
 have C2 : Hid (w2.heap[C]? = some (.cells #[.int .u64 x0, .int .u64 (p : Int), .int .u64 (s : Int), .int .u64 r, .int .u64 x4] 36 (0, 0))) := by rw [hw2]; exact C1.out
 have O2 : Hid (OnlyT K w w2) := by rw [hw2]; exact tk_drewN O1.out _
 rw [← hw2]
 clear hw2 K1 C1 O1 d1 p0 p1
 have d2 := bk_cell C2.out 2
 have s0 : (0 : Int) ≤ (s : Int) := by omega
 have s1 : (s : Int) < 8 := by omega
 obtain ⟨a0, a1, a2, a3, a4⟩ := K2.out.slot he hs
 have lK := K2.out.lt
 have lC := bk_lt C2.out
 go_wp2_with fail
 go_region
 obtain ⟨A, hA⟩ : ∃ A, A = w2.heap.size := ⟨_, rfl⟩
 obtain ⟨w3, hw3⟩ : ∃ w3, w3 = (w2.alloc (.cells #[.bool (k.sl e s).is, .int .i64 (k.sl e s).frame, .int .i64 (k.sl e s).rights, .int .i64 (k.sl e s).env, .int .i64 (k.sl e s).slot] 98)).drew := ⟨_, rfl⟩
 have hb : Below w2.heap.size w2 w3 := by rw [hw3]; exact (Below.refl _ _).alloc (Nat.le_refl _) _ |>.drew
 have A3 : Hid (w3.heap[A]? = some (.cells #[.bool (k.sl e s).is, .int .i64 (k.sl e s).frame, .int .i64 (k.sl e s).rights, .int .i64 (k.sl e s).env, .int .i64 (k.sl e s).slot] 98 (0, 0))) := by rw [hw3, hA]; exact heap_alloc_new w2 _
 have K3 := Lib.hid (K2.out.later hb)
 have C3 := Lib.hid (bk_below C2.out hb)
 have O3 := Lib.hid (tp_step O2.out (tp_below hb))
 rw [← hw3, ← hA]
 clear hw3 hA hb K2 C2 O2 lK lC d2 s0 s1 a0 a1 a2 a3 a4 e0 e1
 obtain ⟨c0, c1, c2⟩ := K3.out.pte he hp
 have a0 := bk_cell A3.out 0
 rcases hi : (k.sl e s).is with _ | _
 ·have E1 := Lib.hid (show mapE k e p s r = 3 by unfold mapE; rw [if_pos hi])
  have E2 := Lib.hid (show mapS k e p s r = k by unfold mapS; rw [E1.out, if_neg (by decide)])
  rw [hi] at a0
  clear hi
  go_wp2_with fail
  go_ret
  exact ⟨by rw [E1.out]; rfl, by rw [E2.out]; exact K3.out, O3.out⟩
 ·have n1 : ¬ (k.sl e s).is = false := by rw [hi]; simp
  rw [hi] at a0
  by_cases hr : (k.pt e p).rights = 0
  ·have n2 : ¬ ¬ (k.pt e p).rights = 0 := by simpa using hr
   have d2 := bk_cell C3.out 2
   have d3 := bk_cell C3.out 3
   have a1 := bk_cell A3.out 1
   have a2 := bk_cell A3.out 2
   have w3r := num_back r r0 r3
   rw [hr] at c2
   rcases hwi : withinB r (k.sl e s).rights with _ | _
   ·have E1 := Lib.hid (show mapE k e p s r = 5 by unfold mapE; rw [if_neg n1, if_neg n2, if_pos hwi])
    have E2 := Lib.hid (show mapS k e p s r = k by unfold mapS; rw [E1.out, if_neg (by decide)])
    have HWI := ref_within_any r (k.sl e s).rights w3
    rw [hwi] at HWI
    clear hi hr n1 n2 hwi
    go_wp2_with fail
    refine HWI.mono ?_
    rintro x w4 ⟨rfl, rfl⟩
    clear HWI
    go_wp2_with fail
    go_ret
    exact ⟨by rw [E1.out]; rfl, by rw [E2.out]; exact K3.out, O3.out⟩
   ·have n3 : ¬ withinB r (k.sl e s).rights = false := by rw [hwi]; simp
    have E1 := Lib.hid (show mapE k e p s r = 0 by unfold mapE; rw [if_neg n1, if_neg n2, if_neg n3])
    have E2 := Lib.hid (show mapS k e p s r = k.setPte e p ⟨(k.sl e s).frame, (s : Int), r⟩ by unfold mapS; rw [E1.out, if_pos rfl])
    have HWI := ref_within_any r (k.sl e s).rights w3
    rw [hwi] at HWI
    clear hi hr n1 n2 n3 hwi
    go_wp2_with fail
    refine HWI.mono ?_
    rintro x w4 ⟨rfl, rfl⟩
    clear HWI
    have f0 := K3.out.free (163 + e * 24 + p * 3)
    have f1 := K3.out.free (163 + e * 24 + p * 3 + 1)
    have f2 := K3.out.free (163 + e * 24 + p * 3 + 2)
    go_wp2_with fail
    go_ret
    exact ⟨by rw [E1.out]; rfl, by rw [E2.out]; exact K3.out.putPte he hp (k.sl e s).frame (s : Int) r, tp_pte O3.out _ _ _ _⟩
  ·have E1 := Lib.hid (show mapE k e p s r = 4 by unfold mapE; rw [if_neg n1, if_pos hr])
   have E2 := Lib.hid (show mapS k e p s r = k by unfold mapS; rw [E1.out, if_neg (by decide)])
   have hr2 : ((k.pt e p).rights == 0) = false := by simpa using hr
   have hr3 : ((k.pt e p).rights != 0) = true := by simpa using hr
   clear hi hr n1
   go_wp2_with fail
   go_ret
   exact ⟨by rw [E1.out]; rfl, by rw [E2.out]; exact K3.out, O3.out⟩
set_option maxRecDepth 100000 in
set_option maxHeartbeats 8000000 in
theorem kref_protect (K : Nat) (k : KernS) (e p : Nat) (he : e < 4) (hp : p < 8) (hy : ¬ (k.pt e p).rights = 0 → 0 ≤ (k.pt e p).slot ∧ (k.pt e p).slot < 8) (r x0 x3 x4 : Int) (r0 : 0 ≤ r) (r3 : r ≤ 3) (w : World) (h : KernIs w K k) :
  Calls Tryz.prog 56 #[.pointer (some ⟨K, 0, none⟩), .int .i64 (e : Int), .int .i64 8, .agg #[.int .u64 x0, .int .u64 (p : Int), .int .u64 r, .int .u64 x3, .int .u64 x4]] w fun x w' => x = .returned (.int .i64 (protE k e p r)) ∧ KernIs w' K (protS k e p r) ∧ OnlyT K w w' := by
 have H := Lib.hid h
 clear h
 go_enter Tryz.func56, Tryz.ntmps56
 go_wp2_with fail
 obtain ⟨C, hC⟩ : ∃ C, C = w.heap.size := ⟨_, rfl⟩
 obtain ⟨w1, hw1⟩ : ∃ w1, w1 = w.alloc (.cells #[.int .u64 x0, .int .u64 (p : Int), .int .u64 r, .int .u64 x3, .int .u64 x4] 36) := ⟨_, rfl⟩
 have hb : Below w.heap.size w w1 := by rw [hw1]; exact (Below.refl _ _).alloc (Nat.le_refl _) _
 have C1 : Hid (w1.heap[C]? = some (.cells #[.int .u64 x0, .int .u64 (p : Int), .int .u64 r, .int .u64 x3, .int .u64 x4] 36 (0, 0))) := by rw [hw1, hC]; exact heap_alloc_new w _
 have K1 := Lib.hid (H.out.later hb)
 have O1 := Lib.hid (tp_below (T := K) hb)
 have hCK : C ≠ K := by have := H.out.lt; omega
 rw [← hw1, ← hC]
 clear hw1 hC hb H
 have d1 := bk_cell C1.out 1
 have e0 : (0 : Int) ≤ (e : Int) := by omega
 have e1 : (e : Int) < 4 := by omega
 have p0 : (0 : Int) ≤ (p : Int) := by omega
 have p1 : (p : Int) < 8 := by omega
 go_wp2_with fail
 go_quiet (fail)
 obtain ⟨w2, hw2⟩ : ∃ w2, w2 = w1.drewN nq := ⟨_, rfl⟩
 have K2 : Hid (KernIs w2 K k) := by rw [hw2]; exact K1.out.drewN _
 have C2 : Hid (w2.heap[C]? = some (.cells #[.int .u64 x0, .int .u64 (p : Int), .int .u64 r, .int .u64 x3, .int .u64 x4] 36 (0, 0))) := by rw [hw2]; exact C1.out
 have O2 : Hid (OnlyT K w w2) := by rw [hw2]; exact tk_drewN O1.out _
 rw [← hw2]
 clear hw2 K1 C1 O1 d1 p0 p1
 obtain ⟨c0, c1, c2⟩ := K2.out.pte he hp
 have d2 := bk_cell C2.out 2
 have w3r := num_back r r0 r3
 by_cases hr : (k.pt e p).rights = 0
 ·have E1 := Lib.hid (show protE k e p r = 3 by unfold protE; rw [if_pos hr])
  have E2 := Lib.hid (show protS k e p r = k by unfold protS; rw [E1.out, if_neg (by decide)])
  rw [hr] at c2
  clear hr hy
  go_wp2_with fail
  go_ret
  exact ⟨by rw [E1.out]; rfl, by rw [E2.out]; exact K2.out, O2.out⟩
 ·obtain ⟨y0, y8⟩ := hy hr
  obtain ⟨y, hy2⟩ : ∃ y : Nat, (k.pt e p).slot = (y : Int) := ⟨(k.pt e p).slot.toNat, by omega⟩
  have hy3 : (k.pt e p).slot.toNat = y := by omega
  have hr2 : ((k.pt e p).rights == 0) = false := by simpa using hr
  have hr3 : ((k.pt e p).rights != 0) = true := by simpa using hr
  obtain ⟨a0, a1, a2, a3, a4⟩ := K2.out.slot he (s := y) (by omega)
  have HC1 := Lib.hid hy2
  rw [hy2] at c1 y0 y8
  obtain ⟨b, hwi⟩ : ∃ b, withinB r (k.sl e y).rights = b := ⟨_, rfl⟩
  have HWI : Hid (∀ W, Calls Tryz.prog 109 #[.int .i64 r, .int .i64 (k.sl e y).rights] W fun x w' => x = .returned (.bool b) ∧ w' = W) := fun W => by
   have h := ref_within_any r (k.sl e y).rights W
   rw [hwi] at h
   exact h.mono fun _ _ ⟨h1, h2⟩ => ⟨h1, h2.symm⟩
  cases b
  ·have E1 := Lib.hid (show protE k e p r = 5 by unfold protE; rw [if_neg hr, hy3, if_pos hwi])
   have E2 := Lib.hid (show protS k e p r = k by unfold protS; rw [E1.out, if_neg (by decide)])
   clear hr hy hy2 hy3 hwi
   go_wp2_with fail
   go_quiet ((go_at_call 109; exact Calls.quiet_of_same (HWI.out _)))
   go_wp2_with fail
   go_ret
   exact ⟨by rw [E1.out]; rfl, by rw [E2.out]; exact K2.out.drewN _, tk_drewN O2.out _⟩
  ·have n3 : ¬ withinB r (k.sl e y).rights = false := by rw [hwi]; simp
   have E1 := Lib.hid (show protE k e p r = 0 by unfold protE; rw [if_neg hr, hy3, if_neg n3])
   have E2 := Lib.hid (show protS k e p r = k.setPte e p ⟨(k.pt e p).frame, (k.pt e p).slot, r⟩ by unfold protS; rw [E1.out, if_pos rfl])
   clear hr hy hy2 hy3 hwi n3
   go_wp2_with fail
   go_quiet ((go_at_call 109; exact Calls.quiet_of_same (HWI.out _)))
   obtain ⟨w3, hw3⟩ : ∃ w3, w3 = w2.drewN nq := ⟨_, rfl⟩
   have K3 : Hid (KernIs w3 K k) := by rw [hw3]; exact K2.out.drewN _
   have C3 : Hid (w3.heap[C]? = some (.cells #[.int .u64 x0, .int .u64 (p : Int), .int .u64 r, .int .u64 x3, .int .u64 x4] 36 (0, 0))) := by rw [hw3]; exact C2.out
   have O3 : Hid (OnlyT K w w3) := by rw [hw3]; exact tk_drewN O2.out _
   rw [← hw3]
   clear hw3 K2 C2 O2 c0 c1 c2 d2 a0 a1 a2 a3 a4
   obtain ⟨c0, c1, c2⟩ := K3.out.pte he hp
   have d2 := bk_cell C3.out 2
   have f2 := K3.out.free (163 + e * 24 + p * 3 + 2)
   go_wp2_with fail
   go_ret
   exact ⟨by rw [E1.out]; rfl, by rw [E2.out]; exact K3.out.putRights he hp r, tp_set O3.out _ _⟩
end Go.Proofs.YtdfhfmdelinemaaGreatDoor
namespace Go.Proofs.YtdfhfmdelinemaaGreatDoor
open Go.RowKit Go.Extern.Stop Go.Stop Go.Extern Go.WalkArith
def ansV (e v : Int) (b : Bool) : Value := .tuple #[.agg #[.int .i64 e, .int .u64 v], .bool b]
theorem kref_err (e : Int) (w : World) : Calls Tryz.prog 49 #[.int .i64 e] w fun x w' => x = .returned (ansV e 0 true) ∧ Below w.heap.size w w' := by
 go_enter Tryz.func49, Tryz.ntmps49
 go_wp2_with fail
 refine bodyPost_ret (v := ansV e 0 true) (by simp [results, ansV, Tryz.results49, go_sem]) rfl ⟨rfl, ?_⟩
 first
  | exact (Below.refl _ _).alloc (Nat.le_refl _) _
  | exact (((Below.refl _ _).alloc (Nat.le_refl _) _).setCell (by simp) _).setCell (by simp) _
structure DoAt (w w1 : World) (K C R : Nat) (k : KernS) (x0 x1 x2 x3 x4 : Int) : Prop where
 ker : KernIs w1 K k
 call : w1.heap[C]? = some (.cells #[.int .u64 x0, .int .u64 x1, .int .u64 x2, .int .u64 x3, .int .u64 x4] 36 (0, 0))
 ans : w1.heap[R]? = some (.cells #[.int .i64 0, .int .u64 0] 41 (0, 0))
 only : OnlyT K w w1
 new : w.heap.size ≤ C ∧ w.heap.size ≤ R ∧ C ≠ R ∧ K < w.heap.size
theorem DoAt.start {w : World} {K : Nat} {k : KernS} (h : KernIs w K k) (x0 x1 x2 x3 x4 : Int) :
  DoAt w ((w.alloc (.cells #[.int .u64 x0, .int .u64 x1, .int .u64 x2, .int .u64 x3, .int .u64 x4] 36)).alloc (.cells #[.int .i64 0, .int .u64 0] 41)) K w.heap.size (w.heap.size + 1) k x0 x1 x2 x3 x4 := by
 have hb : Below w.heap.size w ((w.alloc (.cells #[.int .u64 x0, .int .u64 x1, .int .u64 x2, .int .u64 x3, .int .u64 x4] 36)).alloc (.cells #[.int .i64 0, .int .u64 0] 41)) := ((Below.refl _ _).alloc (Nat.le_refl _) _).alloc (by simp) _
 refine ⟨h.later hb, bk_two (Below.refl _ _), ?_, tp_below hb, by omega, by omega, by omega, h.lt⟩
 have h2 := heap_alloc_new (w.alloc (.cells #[.int .u64 x0, .int .u64 x1, .int .u64 x2, .int .u64 x3, .int .u64 x4] 36)) (.cells #[.int .i64 0, .int .u64 0] 41)
 rw [show (w.alloc (.cells #[.int .u64 x0, .int .u64 x1, .int .u64 x2, .int .u64 x3, .int .u64 x4] 36)).heap.size = w.heap.size + 1 by simp] at h2
 exact h2
theorem DoAt.later {w w1 w2 : World} {K C R : Nat} {k : KernS} {x0 x1 x2 x3 x4 : Int} (h : DoAt w w1 K C R k x0 x1 x2 x3 x4) (hb : Below w1.heap.size w1 w2) : DoAt w w2 K C R k x0 x1 x2 x3 x4 :=
 ⟨h.ker.later hb, bk_below h.call hb, bk_below h.ans hb, tp_step h.only (tp_below hb), h.new⟩
theorem DoAt.drewN {w w1 : World} {K C R : Nat} {k : KernS} {x0 x1 x2 x3 x4 : Int} (h : DoAt w w1 K C R k x0 x1 x2 x3 x4) (n : Nat) : DoAt w (w1.drewN n) K C R k x0 x1 x2 x3 x4 :=
 ⟨h.ker.drewN n, h.call, h.ans, tk_drewN h.only n, h.new⟩
theorem DoAt.turned {w w1 w2 : World} {K C R : Nat} {k k' : KernS} {x0 x1 x2 x3 x4 : Int} (h : DoAt w w1 K C R k x0 x1 x2 x3 x4) (hk : KernIs w2 K k') (ho : OnlyT K w1 w2) : DoAt w w2 K C R k' x0 x1 x2 x3 x4 :=
 ⟨hk, (ho.block C (bk_lt h.call) (fun e => by have := h.new; injection e with e; omega)).trans h.call, (ho.block R (bk_lt h.ans) (fun e => by have := h.new; injection e with e; omega)).trans h.ans, tp_step h.only ho, h.new⟩
theorem DoAt.told {w w1 : World} {K C R : Nat} {k : KernS} {x0 x1 x2 x3 x4 : Int} (h : DoAt w w1 K C R k x0 x1 x2 x3 x4) (e v : Value) :
  KernIs ((w1.setCell ⟨R, 0, none⟩ e).setCell ⟨R, 1, none⟩ v) K k ∧ OnlyT K w ((w1.setCell ⟨R, 0, none⟩ e).setCell ⟨R, 1, none⟩ v) := by
 have hn := h.new
 have hf : ∀ b, b ≠ R → ((w1.setCell ⟨R, 0, none⟩ e).setCell ⟨R, 1, none⟩ v).heap[b]? = w1.heap[b]? := fun b hb => (Below.heap_setCell _ _ _ b hb).trans (Below.heap_setCell _ _ _ b hb)
 refine ⟨h.ker.foot (by simp) (hf K (by omega)), h.only.os, h.only.tape, h.only.output, by simpa using h.only.size, fun i hi hne => (hf i (by omega)).trans (h.only.block i hi hne)⟩
set_option maxRecDepth 100000 in
set_option maxHeartbeats 4000000 in
theorem kref_do_off (K : Nat) (k : KernS) (env x0 x1 x2 x3 x4 : Int) (henv : env < 0 ∨ k.envs ≤ env) (w : World) (h : KernIs w K k) :
  Calls Tryz.prog 13 #[.pointer (some ⟨K, 0, none⟩), .int .i64 env, callV x0 x1 x2 x3 x4] w fun x w' => x = .returned (ansV 10 0 true) ∧ KernIs w' K k ∧ OnlyT K w w' := by
 have H := Lib.hid (DoAt.start h x0 x1 x2 x3 x4)
 obtain ⟨_, c1, _⟩ := h.sizes
 have lK := h.lt
 clear h
 go_enter Tryz.func13, Tryz.ntmps13
 by_cases h0 : env < 0
 all_goals
  first
   | have h1 : k.envs ≤ env := by omega
   | skip
  go_wp2_with fail
  refine (kref_err 10 _).mono ?_
  rintro x w2 ⟨rfl, hb⟩
  have H2 := Lib.hid (H.out.later hb)
  clear hb H
  obtain ⟨R, hR⟩ : ∃ R, R = w.heap.size + 1 := ⟨_, rfl⟩
  rw [← hR] at H2 ⊢
  clear hR
  have r0 := bk_cell H2.out.ans 0
  have r1 := bk_cell H2.out.ans 1
  have g0 := bk_free H2.out.ans 0
  have g1 := bk_free H2.out.ans 1
  unfold ansV
  go_wp2_with fail
  refine bodyPost_ret (v := .tuple #[.agg #[.int .i64 10, .int .u64 0], .bool true]) (by simp [results, Tryz.results13, go_sem, r0, r1]) rfl ⟨rfl, (H2.out.told _ _).1, (H2.out.told _ _).2⟩
end Go.Proofs.YtdfhfmdelinemaaGreatDoor
