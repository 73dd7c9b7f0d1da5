/- What is proved here: the document's plain kernel: its state, its capabilities, its entries, its words. Conditions: those that each theorem names. -/
import Derived.Test.YtbmekfjcpdbapaaGreatDoorGParts
import Derived.RegionTactic
import Derived.StillTailTactics
import Derived.Deep.RegionHeld3
import Derived.WalkArith
import Derived.BigQuiet
import Derived.Deep.QuietTactic
import Derived.BigRegion
import Derived.Deep.CutBlock
import Derived.Deep.DeepCutAuto
import Derived.Test.YtbmekfjcpdbapaaGreatDoorGWord
namespace Go.Proofs.YtbmekfjcpdbapaaGreatDoor
open Go.RowKit Go.Extern.Stop Go.Stop Go.Extern
structure SlotV where
  is : Bool
  frame : Int
  rights : Int
  env : Int
  slot : Int
structure PteV where
  frame : Int
  slot : Int
  rights : Int
structure KernS where
  cores : Int
  envs : Int
  frames : Int
  sl : Nat → Nat → SlotV
  pt : Nat → Nat → PteV
  mm : Nat → Nat → Int
def slotC (s : SlotV) : Nat → Value
  | 0 => .bool s.is
  | 1 => .int .i64 s.frame
  | 2 => .int .i64 s.rights
  | 3 => .int .i64 s.env
  | _ => .int .i64 s.slot
def pteC (p : PteV) : Nat → Value
  | 0 => .int .i64 p.frame
  | 1 => .int .i64 p.slot
  | _ => .int .i64 p.rights
def kv (k : KernS) (i : Nat) : Value :=
  if i < 3 then (if i = 0 then .int .i64 k.cores else if i = 1 then .int .i64 k.envs else .int .i64 k.frames)
  else if i < 163 then slotC (k.sl ((i - 3) / 40) ((i - 3) % 40 / 5)) ((i - 3) % 5)
  else if i < 259 then pteC (k.pt ((i - 163) / 24) ((i - 163) % 24 / 3)) ((i - 163) % 3)
  else .int .u64 (k.mm ((i - 259) / 16) ((i - 259) % 16))
theorem kv_slot (k : KernS) {e s c : Nat} (he : e < 4) (hs : s < 8) (hc : c < 5) : kv k (3 + e * 40 + s * 5 + c) = slotC (k.sl e s) c := by
  unfold kv
  rw [if_neg (by omega), if_pos (by omega), show (3 + e * 40 + s * 5 + c - 3) / 40 = e by omega, show (3 + e * 40 + s * 5 + c - 3) % 40 / 5 = s by omega, show (3 + e * 40 + s * 5 + c - 3) % 5 = c by omega]
theorem kv_pte (k : KernS) {e p c : Nat} (he : e < 4) (hp : p < 8) (hc : c < 3) : kv k (163 + e * 24 + p * 3 + c) = pteC (k.pt e p) c := by
  unfold kv
  rw [if_neg (by omega), if_neg (by omega), if_pos (by omega), show (163 + e * 24 + p * 3 + c - 163) / 24 = e by omega, show (163 + e * 24 + p * 3 + c - 163) % 24 / 3 = p by omega, show (163 + e * 24 + p * 3 + c - 163) % 3 = c by omega]
theorem kv_word (k : KernS) {f a : Nat} (ha : a < 16) : kv k (259 + f * 16 + a) = .int .u64 (k.mm f a) := by
  unfold kv
  rw [if_neg (by omega), if_neg (by omega), if_neg (by omega), show (259 + f * 16 + a - 259) / 16 = f by omega, show (259 + f * 16 + a - 259) % 16 = a by omega]
structure KernIs (w : World) (K : Nat) (k : KernS) : Prop where
  cells : ∀ i, i < 515 → w.cell? ⟨K, i, none⟩ = some (kv k i)
  free : ∀ i, w.frozen? ⟨K, i, none⟩ = false
  lt : K < w.heap.size
theorem KernIs.foot {w w' : World} {K : Nat} {k : KernS} (h : KernIs w K k) (hs : w.heap.size ≤ w'.heap.size) (hK : w'.heap[K]? = w.heap[K]?) : KernIs w' K k :=
  ⟨fun i hi => (World.cell?_of_block (a := ⟨K, i, none⟩) hK).trans (h.cells i hi), fun i => (World.frozen?_of_block (a := ⟨K, i, none⟩) hK).trans (h.free i), Nat.lt_of_lt_of_le h.lt hs⟩
theorem KernIs.later {w w' : World} {K : Nat} {k : KernS} (h : KernIs w K k) (hb : Below w.heap.size w w') : KernIs w' K k := h.foot hb.size (hb.block _ h.lt)
theorem KernIs.slot {w : World} {K : Nat} {k : KernS} (h : KernIs w K k) {e s : Nat} (he : e < 4) (hs : s < 8) :
    w.cell? ⟨K, 3 + e * 40 + s * 5, none⟩ = some (.bool (k.sl e s).is) ∧ w.cell? ⟨K, 3 + e * 40 + s * 5 + 1, none⟩ = some (.int .i64 (k.sl e s).frame) ∧ w.cell? ⟨K, 3 + e * 40 + s * 5 + 2, none⟩ = some (.int .i64 (k.sl e s).rights)
      ∧ w.cell? ⟨K, 3 + e * 40 + s * 5 + 3, none⟩ = some (.int .i64 (k.sl e s).env) ∧ w.cell? ⟨K, 3 + e * 40 + s * 5 + 4, none⟩ = some (.int .i64 (k.sl e s).slot) := by
  have c := fun c (hc : c < 5) => (h.cells (3 + e * 40 + s * 5 + c) (by omega)).trans (congrArg some (kv_slot k he hs hc))
  exact ⟨c 0 (by omega), c 1 (by omega), c 2 (by omega), c 3 (by omega), c 4 (by omega)⟩
theorem KernIs.pte {w : World} {K : Nat} {k : KernS} (h : KernIs w K k) {e p : Nat} (he : e < 4) (hp : p < 8) :
    w.cell? ⟨K, 163 + e * 24 + p * 3, none⟩ = some (.int .i64 (k.pt e p).frame) ∧ w.cell? ⟨K, 163 + e * 24 + p * 3 + 1, none⟩ = some (.int .i64 (k.pt e p).slot) ∧ w.cell? ⟨K, 163 + e * 24 + p * 3 + 2, none⟩ = some (.int .i64 (k.pt e p).rights) := by
  have c := fun c (hc : c < 3) => (h.cells (163 + e * 24 + p * 3 + c) (by omega)).trans (congrArg some (kv_pte k he hp hc))
  exact ⟨c 0 (by omega), c 1 (by omega), c 2 (by omega)⟩
theorem KernIs.word {w : World} {K : Nat} {k : KernS} (h : KernIs w K k) {f a : Nat} (hf : f < 16) (ha : a < 16) : w.cell? ⟨K, 259 + f * 16 + a, none⟩ = some (.int .u64 (k.mm f a)) :=
  (h.cells _ (by omega)).trans (congrArg some (kv_word k ha))
theorem KernIs.sizes {w : World} {K : Nat} {k : KernS} (h : KernIs w K k) : w.cell? ⟨K, 0, none⟩ = some (.int .i64 k.cores) ∧ w.cell? ⟨K, 1, none⟩ = some (.int .i64 k.envs) ∧ w.cell? ⟨K, 2, none⟩ = some (.int .i64 k.frames) :=
  ⟨h.cells 0 (by omega), h.cells 1 (by omega), h.cells 2 (by omega)⟩
def ofB (k : KernS) (f : Int) (i : Nat) : Bool := (k.sl (i / 8) (i % 8)).is && decide ((k.sl (i / 8) (i % 8)).frame = f)
def refsN (k : KernS) (f : Int) (n : Nat) : Nat := ((List.range n).filter (ofB k f)).length
theorem refsN_yes {k : KernS} {f : Int} {n : Nat} (h : ofB k f n = true) : refsN k f (n + 1) = refsN k f n + 1 := by
  unfold refsN
  rw [List.range_succ, List.filter_append]
  simp [h]
theorem refsN_no {k : KernS} {f : Int} {n : Nat} (h : ofB k f n = false) : refsN k f (n + 1) = refsN k f n := by
  unfold refsN
  rw [List.range_succ, List.filter_append]
  simp [h]
end Go.Proofs.YtbmekfjcpdbapaaGreatDoor
namespace Go.Proofs.YtbmekfjcpdbapaaGreatDoor
open Go.RowKit Go.Extern.Stop Go.Stop Go.Extern Go.WalkArith
def Sound (k : KernS) : Prop := ∀ e s, e < 4 → s < 8 → (k.sl e s).is = true → 0 ≤ (k.sl e s).env → (k.sl e s).env < 4 ∧ 0 ≤ (k.sl e s).slot ∧ (k.sl e s).slot < 8
def fromB (k : KernS) (q : Nat) : Nat → Nat → Bool
  | 0, _ => false
  | n + 1, p =>
    let c := k.sl (p / 8) (p % 8)
    if c.is = true ∧ 0 ≤ c.env then decide (c.env.toNat * 8 + c.slot.toNat = q) || fromB k q n (c.env.toNat * 8 + c.slot.toNat) else false
theorem fromB_succ (k : KernS) (q n p : Nat) : fromB k q (n + 1) p = if (k.sl (p / 8) (p % 8)).is = true ∧ 0 ≤ (k.sl (p / 8) (p % 8)).env then decide ((k.sl (p / 8) (p % 8)).env.toNat * 8 + (k.sl (p / 8) (p % 8)).slot.toNat = q) || fromB k q n ((k.sl (p / 8) (p % 8)).env.toNat * 8 + (k.sl (p / 8) (p % 8)).slot.toNat) else false := rfl
theorem fromB_none {k : KernS} {q n e s : Nat} (hs : s < 8) (h : ¬ ((k.sl e s).is = true ∧ 0 ≤ (k.sl e s).env)) : fromB k q (n + 1) (e * 8 + s) = false := by
  rw [fromB_succ, show (e * 8 + s) / 8 = e by omega, show (e * 8 + s) % 8 = s by omega, if_neg h]
theorem fromB_some {k : KernS} {q n e s e' s' : Nat} (hs : s < 8) (h : (k.sl e s).is = true) (he : (k.sl e s).env = (e' : Int)) (hs' : (k.sl e s).slot = (s' : Int)) : fromB k q (n + 1) (e * 8 + s) = (decide (e' * 8 + s' = q) || fromB k q n (e' * 8 + s')) := by
  have h2 : (k.sl e s).is = true ∧ 0 ≤ (k.sl e s).env := ⟨h, by omega⟩
  rw [fromB_succ, show (e * 8 + s) / 8 = e by omega, show (e * 8 + s) % 8 = s by omega, if_pos h2, he, hs', Int.toNat_natCast, Int.toNat_natCast]
end Go.Proofs.YtbmekfjcpdbapaaGreatDoor
namespace Go.Proofs.YtbmekfjcpdbapaaGreatDoor
open Go.RowKit Go.Extern.Stop Go.Stop Go.Extern Go.WalkArith
theorem own_later {w w' : World} {base n size : Nat} {e : TypeId} {v : Value} {xs : List Value} (h : w.ownsRow base e size v n xs) (hb : Below w.heap.size w w') : w'.ownsRow base e size v n xs :=
  h.kept (row := none) ⟨hb.os, hb.tape, hb.output, hb.size, fun i hi _ => hb.block i hi⟩ (by cases v.ownBlock <;> simp)
theorem own_grow {w w2 w3 : World} {n size : Nat} {e : TypeId} {o : Obj} {v : Value} {xs : List Value} (h : Below w.heap.size w w2) (hg : (w2.alloc o).grownBy w3 v.ownBlock) (ho : w2.ownsRow w.heap.size e size v n xs) : Below w.heap.size w w3 :=
  (h.alloc h.size o).grown hg (by have := h.size; simp; omega) (fun g hg' => (ho.lt g hg').1)
theorem pair_at (w : World) (u v : Value) (t : TypeId) (j : Nat) (x : Value) (h : [u, v][j]? = some x) : (w.alloc (.cells #[u, v] t)).cell? (Addr.add ⟨w.heap.size, 0, none⟩ j) = some x := by
  match j, h with
  | 0, h =>
    simp at h
    subst h
    exact bk_cell (heap_alloc_new w _) 0
  | 1, h =>
    simp at h
    subst h
    exact bk_cell (heap_alloc_new w _) 1
theorem two_cell (a b : Int) (u : Value) (hu : u ∈ [Value.int .i64 a, Value.int .i64 b]) : u.oneCell' = true := by
  simp at hu
  rcases hu with rfl | rfl <;> rfl
def belowL (k : KernS) (q n : Nat) : List Nat := (List.range n).filter (fromB k q 32)
def placesV (l : List Nat) : List Value := l.flatMap fun j => [Value.int .i64 ((j / 8 : Nat) : Int), Value.int .i64 ((j % 8 : Nat) : Int)]
theorem placesV_snoc (l : List Nat) {e s : Nat} (hs : s < 8) : placesV (l ++ [e * 8 + s]) = placesV l ++ [Value.int .i64 (e : Int), Value.int .i64 (s : Int)] := by
  unfold placesV
  rw [List.flatMap_append]
  simp only [List.flatMap_cons, List.flatMap_nil, List.append_nil]
  rw [show (e * 8 + s) / 8 = e by omega, show (e * 8 + s) % 8 = s by omega]
end Go.Proofs.YtbmekfjcpdbapaaGreatDoor
namespace Go.Proofs.YtbmekfjcpdbapaaGreatDoor
open Go.RowKit Go.Extern.Stop Go.Stop Go.Extern Go.WalkArith
def freeK (k : KernS) (n : Nat) : List Nat := (List.range n).filter fun f => decide (refsN k f 32 = 0)
end Go.Proofs.YtbmekfjcpdbapaaGreatDoor
namespace Go.Proofs.YtbmekfjcpdbapaaGreatDoor
open Go.RowKit Go.Extern.Stop Go.Stop Go.Extern Go.WalkArith
def KernS.setSlot (k : KernS) (e s : Nat) (v : SlotV) : KernS := { k with sl := fun e' s' => if e' = e ∧ s' = s then v else k.sl e' s' }
def KernS.setPte (k : KernS) (e p : Nat) (v : PteV) : KernS := { k with pt := fun e' p' => if e' = e ∧ p' = p then v else k.pt e' p' }
def KernS.setWord (k : KernS) (f a : Nat) (v : Int) : KernS := { k with mm := fun f' a' => if f' = f ∧ a' = a then v else k.mm f' a' }
def CellsAre (w : World) (K : Nat) (g : Nat → Value) : Prop := (∀ i, i < 515 → w.cell? ⟨K, i, none⟩ = some (g i)) ∧ (∀ i, w.frozen? ⟨K, i, none⟩ = false) ∧ K < w.heap.size
theorem CellsAre.set {w : World} {K i : Nat} {g : Nat → Value} (h : CellsAre w K g) (hi : i < 515) (u : Value) : CellsAre (w.setCell ⟨K, i, none⟩ u) K (fun j => if j = i then u else g j) := by
  obtain ⟨h1, h2, h3⟩ := h
  refine ⟨fun j hj => ?_, fun j => ?_, by simpa using h3⟩
  · by_cases he : j = i
    · subst he
      rw [World.cell?_setCell_same _ _ _ (h1 j hj)]
      simp
    · rw [World.cell?_setCell_other _ _ _ _ (fun e => he (congrArg Addr.off e).symm)]
      simp only [if_neg he]
      exact h1 j hj
  · rw [World.frozen?_setCell]
    exact h2 j
theorem KernIs.all {w : World} {K : Nat} {k : KernS} (h : KernIs w K k) : CellsAre w K (kv k) := ⟨h.cells, h.free, h.lt⟩
end Go.Proofs.YtbmekfjcpdbapaaGreatDoor
namespace Go.Proofs.YtbmekfjcpdbapaaGreatDoor
open Go.RowKit Go.Extern.Stop Go.Stop Go.Extern Go.WalkArith
def noSlot : SlotV := ⟨false, 0, 0, 0, 0⟩
def noPte : PteV := ⟨0, 0, 0⟩
def clr (k : KernS) (e s n : Nat) : KernS :=
  { k with
    sl := fun e' s' => if e' = e ∧ s' = s then noSlot else k.sl e' s'
    pt := fun e' p' => if e' = e ∧ p' < n ∧ ¬ (k.pt e' p').rights = 0 ∧ (k.pt e' p').slot = (s : Int) then noPte else k.pt e' p' }
def goneF (k : KernS) (l : List Nat) : KernS := l.foldl (fun k j => clr k (j / 8) (j % 8) 8) k
theorem goneF_snoc (k : KernS) (l : List Nat) (j : Nat) : goneF k (l ++ [j]) = clr (goneF k l) (j / 8) (j % 8) 8 := by
  unfold goneF
  rw [List.foldl_append]
  rfl
def PlacesAt (w : World) (G : Nat) (l : List Nat) : Prop := (∀ i (hi : i < l.length), w.cell? ⟨G, i * 2, none⟩ = some (.int .i64 ((l[i] / 8 : Nat) : Int)) ∧ w.cell? ⟨G, i * 2 + 1, none⟩ = some (.int .i64 ((l[i] % 8 : Nat) : Int))) ∧ G < w.heap.size
theorem PlacesAt.foot {w w' : World} {G : Nat} {l : List Nat} (h : PlacesAt w G l) (hs : w.heap.size ≤ w'.heap.size) (hG : w'.heap[G]? = w.heap[G]?) : PlacesAt w' G l :=
  ⟨fun i hi => ⟨(World.cell?_of_block (a := ⟨G, i * 2, none⟩) hG).trans (h.1 i hi).1, (World.cell?_of_block (a := ⟨G, i * 2 + 1, none⟩) hG).trans (h.1 i hi).2⟩, Nat.lt_of_lt_of_le h.2 hs⟩
theorem KernIs.drew {w : World} {K : Nat} {k : KernS} (h : KernIs w K k) : KernIs w.drew K k := ⟨h.cells, h.free, h.lt⟩
theorem tk_drew {w w' : World} {T : Nat} (h : OnlyT T w w') : OnlyT T w w'.drew := ⟨h.os, h.tape, h.output, h.size, h.block⟩
theorem KernIs.drewN {w : World} {K : Nat} {k : KernS} (h : KernIs w K k) (n : Nat) : KernIs (w.drewN n) K k := ⟨h.cells, h.free, h.lt⟩
theorem tk_drewN {w w' : World} {T : Nat} (h : OnlyT T w w') (n : Nat) : OnlyT T w (w'.drewN n) := ⟨h.os, h.tape, h.output, h.size, h.block⟩
theorem tp_step {w a b : World} {T : Nat} (h : OnlyT T w a) (hb : OnlyT T a b) : OnlyT T w b :=
  ⟨hb.os.trans h.os, hb.tape.trans h.tape, hb.output.trans h.output, Nat.le_trans h.size hb.size, fun i hi hne => (hb.block i (Nat.lt_of_lt_of_le hi h.size) hne).trans (h.block i hi hne)⟩
theorem PlacesAt.only {w w' : World} {G K : Nat} {l : List Nat} (h : PlacesAt w G l) (ho : OnlyT K w w') (hne : G ≠ K) : PlacesAt w' G l := h.foot ho.size (ho.block G h.2 (fun e => hne (by injection e)))
end Go.Proofs.YtbmekfjcpdbapaaGreatDoor
namespace Go.Proofs.YtbmekfjcpdbapaaGreatDoor
open Go.RowKit Go.Extern.Stop Go.Stop Go.Extern Go.WalkArith
def holdsB (op a b : Int) : Bool := if op = 1 then a == b else if op = 2 then !(a == b) else if op = 3 then decide (a < b) else if op = 4 then decide (b < a) else false
theorem kref_holds (op a b : Int) (w : World) : Calls Tryz.prog 40 #[.int .i64 op, .int .u64 a, .int .u64 b] w fun e w' => e = .returned (.bool (holdsB op a b)) ∧ w = w' := by
  go_enter Tryz.func40, Tryz.ntmps40
  by_cases h1 : op = 1
  · subst h1
    go_wp2_with fail
    go_ret
    exact ⟨rfl, rfl⟩
  · by_cases h2 : op = 2
    · subst h2
      go_wp2_with fail
      go_ret
      exact ⟨rfl, rfl⟩
    · by_cases h3 : op = 3
      · subst h3
        go_wp2_with fail
        go_ret
        exact ⟨rfl, rfl⟩
      · by_cases h4 : op = 4
        · subst h4
          go_wp2_with fail
          go_ret
          exact ⟨rfl, rfl⟩
        · have q1 : (op == 1) = false := by simpa using h1
          have q2 : (op == 2) = false := by simpa using h2
          have q3 : (op == 3) = false := by simpa using h3
          have q4 : (op == 4) = false := by simpa using h4
          have hh : holdsB op a b = false := by unfold holdsB; rw [if_neg h1, if_neg h2, if_neg h3, if_neg h4]
          rw [hh]
          clear h1 h2 h3 h4 hh
          go_wp2_with fail
          go_ret
          exact ⟨rfl, rfl⟩
def wordS (k : KernS) (f a : Nat) (kind x3 x4 : Int) : KernS :=
  if kind = 21 then k.setWord f a x3 else if kind = 22 then (if k.mm f a = x3 then k.setWord f a x4 else k) else if kind = 23 then k.setWord f a (IntKind.u64.wrap (k.mm f a + x3)) else k
def wordT (k : KernS) (f a : Nat) (kind : Int) : Int := if kind = 21 then 0 else k.mm f a
end Go.Proofs.YtbmekfjcpdbapaaGreatDoor
namespace Go.Proofs.YtbmekfjcpdbapaaGreatDoor
open Go.RowKit Go.Extern.Stop Go.Stop Go.Extern Go.WalkArith
def deriveE (k : KernS) (e s e' s' : Nat) (r : Int) : Int :=
  if (k.sl e s).is = false then 3 else if (k.sl e' s').is = true then 4 else if withinB r (k.sl e s).rights = false then 5 else if 7 ≤ refsN k (k.sl e s).frame 32 then 6 else 0
def deriveS (k : KernS) (e s e' s' : Nat) (r : Int) : KernS := if deriveE k e s e' s' r = 0 then k.setSlot e' s' ⟨true, (k.sl e s).frame, r, (e : Int), (s : Int)⟩ else k
end Go.Proofs.YtbmekfjcpdbapaaGreatDoor
namespace Go.Proofs.YtbmekfjcpdbapaaGreatDoor
open Go.RowKit Go.Extern.Stop Go.Stop Go.Extern Go.WalkArith
def mapE (k : KernS) (e p s : Nat) (r : Int) : Int :=
  if (k.sl e s).is = false then 3 else if ¬ (k.pt e p).rights = 0 then 4 else if withinB r (k.sl e s).rights = false then 5 else 0
def mapS (k : KernS) (e p s : Nat) (r : Int) : KernS := if mapE k e p s r = 0 then k.setPte e p ⟨(k.sl e s).frame, (s : Int), r⟩ else k
def unmapE (k : KernS) (e p : Nat) : Int := if (k.pt e p).rights = 0 then 3 else 0
def unmapS (k : KernS) (e p : Nat) : KernS := if (k.pt e p).rights = 0 then k else k.setPte e p ⟨0, 0, 0⟩
def protE (k : KernS) (e p : Nat) (r : Int) : Int :=
  if (k.pt e p).rights = 0 then 3 else if withinB r (k.sl e (k.pt e p).slot.toNat).rights = false then 5 else 0
def protS (k : KernS) (e p : Nat) (r : Int) : KernS := if protE k e p r = 0 then k.setPte e p ⟨(k.pt e p).frame, (k.pt e p).slot, r⟩ else k
end Go.Proofs.YtbmekfjcpdbapaaGreatDoor
namespace Go.Proofs.YtbmekfjcpdbapaaGreatDoor
open Go.RowKit Go.Extern.Stop Go.Stop Go.Extern Go.WalkArith
def ansV (e v : Int) (b : Bool) : Value := .tuple #[.agg #[.int .i64 e, .int .u64 v], .bool b]
structure DoAt (w w1 : World) (K C R : Nat) (k : KernS) (x0 x1 x2 x3 x4 : Int) : Prop where
  ker : KernIs w1 K k
  call : w1.heap[C]? = some (.cells #[.int .u64 x0, .int .u64 x1, .int .u64 x2, .int .u64 x3, .int .u64 x4] 36 (0, 0))
  ans : w1.heap[R]? = some (.cells #[.int .i64 0, .int .u64 0] 41 (0, 0))
  only : OnlyT K w w1
  new : w.heap.size ≤ C ∧ w.heap.size ≤ R ∧ C ≠ R ∧ K < w.heap.size
theorem DoAt.start {w : World} {K : Nat} {k : KernS} (h : KernIs w K k) (x0 x1 x2 x3 x4 : Int) :
    DoAt w ((w.alloc (.cells #[.int .u64 x0, .int .u64 x1, .int .u64 x2, .int .u64 x3, .int .u64 x4] 36)).alloc (.cells #[.int .i64 0, .int .u64 0] 41)) K w.heap.size (w.heap.size + 1) k x0 x1 x2 x3 x4 := by
  have hb : Below w.heap.size w ((w.alloc (.cells #[.int .u64 x0, .int .u64 x1, .int .u64 x2, .int .u64 x3, .int .u64 x4] 36)).alloc (.cells #[.int .i64 0, .int .u64 0] 41)) := ((Below.refl _ _).alloc (Nat.le_refl _) _).alloc (by simp) _
  refine ⟨h.later hb, bk_two (Below.refl _ _), ?_, tp_below hb, by omega, by omega, by omega, h.lt⟩
  have h2 := heap_alloc_new (w.alloc (.cells #[.int .u64 x0, .int .u64 x1, .int .u64 x2, .int .u64 x3, .int .u64 x4] 36)) (.cells #[.int .i64 0, .int .u64 0] 41)
  rw [show (w.alloc (.cells #[.int .u64 x0, .int .u64 x1, .int .u64 x2, .int .u64 x3, .int .u64 x4] 36)).heap.size = w.heap.size + 1 by simp] at h2
  exact h2
theorem DoAt.later {w w1 w2 : World} {K C R : Nat} {k : KernS} {x0 x1 x2 x3 x4 : Int} (h : DoAt w w1 K C R k x0 x1 x2 x3 x4) (hb : Below w1.heap.size w1 w2) : DoAt w w2 K C R k x0 x1 x2 x3 x4 :=
  ⟨h.ker.later hb, bk_below h.call hb, bk_below h.ans hb, tp_step h.only (tp_below hb), h.new⟩
theorem DoAt.drewN {w w1 : World} {K C R : Nat} {k : KernS} {x0 x1 x2 x3 x4 : Int} (h : DoAt w w1 K C R k x0 x1 x2 x3 x4) (n : Nat) : DoAt w (w1.drewN n) K C R k x0 x1 x2 x3 x4 :=
  ⟨h.ker.drewN n, h.call, h.ans, tk_drewN h.only n, h.new⟩
end Go.Proofs.YtbmekfjcpdbapaaGreatDoor
