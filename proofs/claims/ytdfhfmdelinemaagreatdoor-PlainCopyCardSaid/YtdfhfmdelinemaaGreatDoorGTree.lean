/- What is proved here: what the statements ask of packages plain and caps. Conditions: those that each theorem names. -/
import Derived.Test.YtdfhfmdelinemaaGreatDoorGParts
import Derived.Test.YtdfhfmdelinemaaGreatDoorGKer
import Derived.Test.YtdfhfmdelinemaaGreatDoorGKerE
import Derived.Test.YtdfhfmdelinemaaGreatDoorGStage
namespace Go.Proofs.YtdfhfmdelinemaaGreatDoor
open Go.RowKit Go.Extern.Stop Go.Stop Go.Extern
def BegunAt11 (w : World) : Prop := Calls Tryz.prog 7 #[] w fun e w' => e = .returned (.bool true) ∧ Below w.heap.size w w'
def SliceIs (W : World) (v : Value) (n : Nat) (cs : List Value) : Prop :=
 ∃ ao cap g, v = .slice ao n cap ∧ (0 < n → ao = some ⟨g, 0, none⟩ ∧ g < W.heap.size ∧ ∀ i x, cs[i]? = some x → W.cell? ⟨g, i, none⟩ = some x)
theorem SliceIs.later {W W' : World} {v : Value} {n : Nat} {cs : List Value} (h : SliceIs W v n cs) (hb : Below W.heap.size W W') : SliceIs W' v n cs := by
 obtain ⟨ao, cap, g, rfl, h2⟩ := h
 exact ⟨ao, cap, g, rfl, fun hn => ⟨(h2 hn).1, Nat.lt_of_lt_of_le (h2 hn).2.1 hb.size, fun i x hx => (hb.cell (p := ⟨g, i, none⟩) (h2 hn).2.1).trans ((h2 hn).2.2 i x hx)⟩⟩
theorem own_slice {w : World} {base n size : Nat} {e : TypeId} {v : Value} {xs : List Value} (h : w.ownsRow base e size v n xs) : SliceIs w v n xs := by
 obtain ⟨h1, ⟨rfl, h2⟩ | ⟨g, cap, cur, rfl, h3, h4, h5, h6, h7, h8⟩⟩ := h
 ·subst h2
  exact ⟨none, 0, 0, rfl, fun h => absurd h (Nat.lt_irrefl 0)⟩
 ·refine ⟨_, cap, g, rfl, fun _ => ⟨rfl, bk_lt h4, fun i x hx => ?_⟩⟩
  rw [← h8, List.getElem?_take] at hx
  split at hx
  ·rw [bk_cell h4]
   simpa using hx
  ·exact absurd hx (by simp)
theorem low_only11 {w W W' : World} {S : Nat → Prop} (hb : Below w.heap.size w W) (ho : Only S W W') (hS : ∀ i, S i → w.heap.size ≤ i) : Below w.heap.size w W' := by
 obtain ⟨h1, h2, h3, h4, h5⟩ := ho
 exact ⟨h1.trans hb.os, h2.trans hb.tape, h3.trans hb.output, Nat.le_trans hb.size h4, fun i hi => (h5 i (Nat.lt_of_lt_of_le hi hb.size) (fun hs => by have := hS i hs; omega)).trans (hb.block i hi)⟩
end Go.Proofs.YtdfhfmdelinemaaGreatDoor
namespace Go.Proofs.YtdfhfmdelinemaaGreatDoor
open Go.RowKit Go.Extern.Stop Go.Stop Go.Extern Go.WalkArith
def CapIs (s : SlotV) (v : Value) : Prop := ∃ e p : Int, v = .tuple #[.agg #[.int .i64 s.frame, .int .i64 s.rights, .int .i64 e, .int .i64 p], .bool true] ∧ (s.env < 0 → e < 0) ∧ (0 ≤ s.env → e = s.env ∧ p = s.slot)
abbrev noCapV : Value := .tuple #[.agg #[.int .i64 0, .int .i64 0, .int .i64 0, .int .i64 0], .bool false]
abbrev pteT (p : PteV) (b : Bool) : Value := .tuple #[.agg #[.int .i64 p.frame, .int .i64 p.slot, .int .i64 p.rights], .bool b]
abbrev sizeV (c e f : Int) : Value := .agg #[.int .i64 c, .int .i64 e, .int .i64 f]
def SizeOk (c e f : Int) : Prop := (1 ≤ c ∧ c ≤ 8) ∧ (1 ≤ e ∧ e ≤ 4) ∧ (1 ≤ f ∧ f ≤ 16)
def ErrIs (w W : World) (c env x0 x1 x2 x3 x4 : Int) (v : Value) : Prop :=
 (c = 0 ∧ v = .nilIface) ∨ (c ≠ 0 ∧ ∃ b t, v = ptrErr b ∧ w.heap.size ≤ t ∧ t < b ∧ TrapAt W b c env (.int .u64 x0) (.int .u64 x1) (.int .u64 x2) (.int .u64 x3) (.int .u64 x4) (ptrErr t) ∧ OfAt W t c)
structure PlainC (At : World → (Nat → Prop) → Nat → KernS → Prop) : Prop where
 low : ∀ W S P k, At W S P k → ∀ i, S i → i < W.heap.size
 foot : ∀ W W' S P k, At W S P k → W.heap.size ≤ W'.heap.size → (∀ i, S i → W'.heap[i]? = W.heap[i]?) → At W' S P k
 sane : ∀ W S P k, At W S P k → Sane k
 new_ : ∀ (c e f : Int) (w : World), SizeOk c e f → Calls Tryz.prog 8 #[sizeV c e f] w fun x w' => ∃ P S, x = .returned (.pointer (some ⟨P, 0, none⟩)) ∧ At w' S P (newK c e f) ∧ (∀ i, S i → w.heap.size ≤ i) ∧ Below w.heap.size w w'
 no_ : ∀ (c e f : Int) (w : World), ¬ SizeOk c e f → Calls Tryz.prog 8 #[sizeV c e f] w fun x w' => x = .returned (.pointer none) ∧ Below w.heap.size w w'
 do_ : ∀ (P : Nat) (S : Nat → Prop) (k : KernS) (env x0 x1 x2 x3 x4 : Int) (w : World), At w S P k → wordsIn x0 x1 x2 x3 x4 →
  Calls Tryz.prog 12 #[.pointer (some ⟨P, 0, none⟩), .int .i64 env, callV x0 x1 x2 x3 x4] w fun x w' => ∃ S', x = .returned (ansV (kdo k env x0 x1 x2 x3 x4).2.1 (kdo k env x0 x1 x2 x3 x4).2.2.1 (kdo k env x0 x1 x2 x3 x4).2.2.2) ∧ At w' S' P (kdo k env x0 x1 x2 x3 x4).1 ∧ (∀ i, S' i → S i ∨ w.heap.size ≤ i) ∧ Only S w w'
 err_ : ∀ (P : Nat) (S : Nat → Prop) (k : KernS) (env x0 x1 x2 x3 x4 : Int) (w : World), At w S P k → wordsIn x0 x1 x2 x3 x4 → Held w →
  Calls Tryz.prog 11 #[.pointer (some ⟨P, 0, none⟩), .int .i64 env, callV x0 x1 x2 x3 x4] w fun x w' => ∃ v, x = .returned v ∧ ErrIs w w' (kdo k env x0 x1 x2 x3 x4).2.1 env x0 x1 x2 x3 x4 v ∧ Below w.heap.size w w'
 cap_ : ∀ (P : Nat) (S : Nat → Prop) (k : KernS) (e s : Nat) (w : World), At w S P k → (e : Int) < k.envs → s < 8 →
  Calls Tryz.prog 22 #[.pointer (some ⟨P, 0, none⟩), .int .i64 (e : Int), .int .i64 (s : Int)] w fun x w' => ∃ v, x = .returned v ∧ (((k.sl e s).is = true ∧ CapIs (k.sl e s) v) ∨ ((k.sl e s).is = false ∧ v = noCapV)) ∧ Below w.heap.size w w'
 pte_ : ∀ (P : Nat) (S : Nat → Prop) (k : KernS) (e p : Nat) (w : World), At w S P k → (e : Int) < k.envs → p < 8 →
  Calls Tryz.prog 60 #[.pointer (some ⟨P, 0, none⟩), .int .i64 (e : Int), .int .i64 (p : Int)] w fun x w' => ∃ v, x = .returned v ∧ ((¬ (k.pt e p).rights = 0 ∧ v = pteT (k.pt e p) true) ∨ ((k.pt e p).rights = 0 ∧ v = pteT noPte false)) ∧ Below w.heap.size w w'
 frame_ : ∀ (P : Nat) (S : Nat → Prop) (k : KernS) (f : Nat) (w : World), At w S P k → (f : Int) < k.frames →
  Calls Tryz.prog 24 #[.pointer (some ⟨P, 0, none⟩), .int .i64 (f : Int)] w fun x w' => ∃ (g cap : Nat) (u : Nat → Int), x = .returned (.slice (some ⟨g, 0, none⟩) 16 cap) ∧ g < w'.heap.size ∧ (∀ i, i < 16 → w'.cell? ⟨g, i, none⟩ = some (.int .u64 (u i))) ∧ (0 < refsN k f 32 → ∀ i, i < 16 → u i = k.mm f i) ∧ Below w.heap.size w w'
 free_ : ∀ (P : Nat) (S : Nat → Prop) (k : KernS) (w : World), At w S P k →
  Calls Tryz.prog 23 #[.pointer (some ⟨P, 0, none⟩)] w fun x w' => ∃ v, x = .returned v ∧ SliceIs w' v (freeK k k.frames.toNat).length (pagesV (freeK k k.frames.toNat)) ∧ Below w.heap.size w w'
 copy_ : ∀ (P : Nat) (S : Nat → Prop) (k : KernS) (w : World), At w S P k →
  Calls Tryz.prog 19 #[.pointer (some ⟨P, 0, none⟩)] w fun x w' => ∃ P' S', x = .returned (.pointer (some ⟨P', 0, none⟩)) ∧ At w' S' P' k ∧ (∀ i, S' i → w.heap.size ≤ i) ∧ Below w.heap.size w w'
 touch_ : ∀ (P : Nat) (S : Nat → Prop) (k : KernS) (f a : Nat) (kind x1 x3 x4 : Int) (w : World), At w S P k → (f : Int) < k.frames → a < 16 → 20 ≤ kind ∧ kind ≤ 23 → wordsIn kind x1 a x3 x4 →
  Calls Tryz.prog 21 #[.pointer (some ⟨P, 0, none⟩), .int .i64 (f : Int), callV kind x1 a x3 x4] w fun x w' => ∃ S' v, x = .returned (ansV 0 v true) ∧ (0 < refsN k f 32 → v = wordT k f a kind) ∧ At w' S' P (wordS k f a kind x3 x4) ∧ (∀ i, S' i → S i ∨ w.heap.size ≤ i) ∧ Only S w w'
section
variable {At : World → (Nat → Prop) → Nat → KernS → Prop}
def plainT (H : PlainC At) (S : Nat → Prop) (P : Nat) (k : KernS) : Thing := ⟨S, fun W => At W S P k, fun W W' h hs hb => H.foot W W' S P k h hs fun i hi => hb i hi (H.low W S P k h i hi), fun W h => H.low W S P k h⟩
def KRun (H : PlainC At) (w : World) (P : Nat) (k : KernS) (L : List Thing) (W : World) : Prop := ∃ S, Side w W (L ++ [plainT H S P k])
variable {H : PlainC At} {w W W' : World} {P : Nat} {k k' : KernS} {L : List Thing}
theorem KRun.below (h : KRun H w P k L W) : Below w.heap.size w W := h.elim fun _ h => h.below
theorem KRun.at (h : KRun H w P k L W) : ∃ S, At W S P k := h.elim fun S h => ⟨S, Side.at L h⟩
theorem KRun.sane (h : KRun H w P k L W) : Sane k := h.at.elim fun _ h => H.sane _ _ _ _ h
theorem KRun.under (h : KRun H w P k L W) (hb : Below W.heap.size W W') : KRun H w P k L W' := h.elim fun S h => ⟨S, h.under hb⟩
theorem KRun.alloc (h : KRun H w P k L W) (o : Obj) : KRun H w P k L (W.alloc o) := h.under ((Below.refl _ _).alloc (Nat.le_refl _) _)
theorem KRun.box (h : KRun H w P k L W) (o : Obj) : KRun H w P k (fixT W.heap.size o :: L) (W.alloc o) := h.elim fun S h => ⟨S, Side.box h o⟩
theorem KRun.boxAt (h : KRun H w P k L W) (o : Obj) (n : Nat) (hn : W.heap.size = n) : KRun H w P k (fixT n o :: L) (W.alloc o) := hn ▸ h.box o
theorem KRun.mem (h : KRun H w P k L W) (q : Thing) (hq : q ∈ L) : q.P W := h.elim fun _ h => Side.mem h q (List.mem_append_left _ hq)
theorem KRun.read {B : Nat} {o : Obj} (h : KRun H w P k L W) (hq : fixT B o ∈ L) : W.heap[B]? = some o := h.mem _ hq
theorem KRun.store {B : Nat} {cs : Array Value} {t : TypeId} {l1 l2 : List Thing} (h : KRun H w P k (l1 ++ fixT B (.cells cs t (0, 0)) :: l2) W) (i : Nat) (u : Value) : KRun H w P k (l1 ++ fixT B (.cells (cs.setIfInBounds i u) t (0, 0)) :: l2) (W.setCell ⟨B, i, none⟩ u) := by
 obtain ⟨S, h⟩ := h
 rw [List.append_assoc] at h
 exact ⟨S, by rw [List.append_assoc]; exact Side.store (l1 := l1) (l2 := l2 ++ [plainT H S P k]) h i u⟩
theorem KRun.step {S S' : Nat → Prop} (h : Side w W (L ++ [plainT H S P k])) (hp : At W' S' P k') (hn : ∀ i, S' i → S i ∨ W.heap.size ≤ i) (ho : Only S W W') : KRun H w P k' L W' :=
 ⟨S', Side.step (o := plainT H S P k) (plainT H S' P k') hp hn ho L h⟩
theorem run_any (env x0 x1 x2 x3 x4 : Int) (h : KRun H w P k L W) (hx : wordsIn x0 x1 x2 x3 x4) :
  Calls Tryz.prog 12 #[.pointer (some ⟨P, 0, none⟩), .int .i64 env, callV x0 x1 x2 x3 x4] W fun x W' => x = .returned (ansV (kdo k env x0 x1 x2 x3 x4).2.1 (kdo k env x0 x1 x2 x3 x4).2.2.1 (kdo k env x0 x1 x2 x3 x4).2.2.2) ∧ KRun H w P (kdo k env x0 x1 x2 x3 x4).1 L W' := by
 obtain ⟨S, h⟩ := h
 refine (H.do_ P S k env x0 x1 x2 x3 x4 W (Side.at L h) hx).mono ?_
 rintro x W' ⟨S', rfl, h4, h5, h6⟩
 exact ⟨rfl, KRun.step h h4 h5 h6⟩
theorem run_do {env x0 x1 x2 x3 x4 e v : Int} {b : Bool} (h : KRun H w P k L W) (hx : wordsIn x0 x1 x2 x3 x4) (hk : kdo k env x0 x1 x2 x3 x4 = (k', e, v, b)) :
  Calls Tryz.prog 12 #[.pointer (some ⟨P, 0, none⟩), .int .i64 env, callV x0 x1 x2 x3 x4] W fun x W' => x = .returned (.tuple #[.agg #[.int .i64 e, .int .u64 v], .bool b]) ∧ KRun H w P k' L W' := by
 have h := run_any env x0 x1 x2 x3 x4 h hx
 rw [hk] at h
 exact h
theorem run_cap {e s : Nat} (h : KRun H w P k L W) (he : (e : Int) < k.envs) (hs : s < 8) (hi : (k.sl e s).is = true) :
  Calls Tryz.prog 22 #[.pointer (some ⟨P, 0, none⟩), .int .i64 (e : Int), .int .i64 (s : Int)] W fun x W' => (∃ a b : Int, x = .returned (.tuple #[.agg #[.int .i64 (k.sl e s).frame, .int .i64 (k.sl e s).rights, .int .i64 a, .int .i64 b], .bool true]) ∧ ((k.sl e s).env < 0 → a < 0)) ∧ KRun H w P k L W' := by
 obtain ⟨S, h1⟩ := h.at
 refine (H.cap_ P S k e s W h1 he hs).mono ?_
 rintro x W' ⟨v, rfl, h4 | h4, hb⟩
 ·obtain ⟨a, b, rfl, h5, _⟩ := h4.2
  exact ⟨⟨a, b, rfl, h5⟩, h.under hb⟩
 ·rw [h4.1] at hi
  exact absurd hi (by decide)
theorem run_nocap {e s : Nat} (h : KRun H w P k L W) (he : (e : Int) < k.envs) (hs : s < 8) (hi : (k.sl e s).is = false) :
  Calls Tryz.prog 22 #[.pointer (some ⟨P, 0, none⟩), .int .i64 (e : Int), .int .i64 (s : Int)] W fun x W' => x = .returned (.tuple #[.agg #[.int .i64 0, .int .i64 0, .int .i64 0, .int .i64 0], .bool false]) ∧ KRun H w P k L W' := by
 obtain ⟨S, h1⟩ := h.at
 refine (H.cap_ P S k e s W h1 he hs).mono ?_
 rintro x W' ⟨v, rfl, h4 | h4, hb⟩
 ·rw [h4.1] at hi
  exact absurd hi (by decide)
 ·obtain rfl := h4.2
  exact ⟨rfl, h.under hb⟩
theorem run_free (h : KRun H w P k L W) :
  Calls Tryz.prog 23 #[.pointer (some ⟨P, 0, none⟩)] W fun x W' => (∃ ao cap, x = .returned (.slice ao (freeK k k.frames.toNat).length cap)) ∧ KRun H w P k L W' := by
 obtain ⟨S, h1⟩ := h.at
 refine (H.free_ P S k W h1).mono ?_
 rintro x W' ⟨v, rfl, ⟨ao, cap, g, rfl, _⟩, hb⟩
 exact ⟨⟨ao, cap, rfl⟩, h.under hb⟩
end
end Go.Proofs.YtdfhfmdelinemaaGreatDoor
namespace Go.Proofs.YtdfhfmdelinemaaGreatDoor
open Go.RowKit Go.Extern.Stop Go.Stop Go.Extern Go.WalkArith
def inB (k : KernS) (e s : Int) : Bool := decide (0 ≤ e ∧ e < k.envs ∧ 0 ≤ s ∧ s < 8)
def rootE (k : KernS) (e s f : Int) : Int := if inB k e s = true ∧ 0 ≤ f ∧ f < 16 then (if (k.sl e.toNat s.toNat).is = true then 4 else 0) else 2
def rootS (k : KernS) (e s f : Int) : KernS := if rootE k e s f = 0 then k.setSlot e.toNat s.toNat ⟨true, f, 3, -1, 0⟩ else k
def tderE (k : KernS) (e s t d r : Int) : Int :=
 if inB k e s = true ∧ inB k t d = true ∧ mayB r = true then
  (if (k.sl e.toNat s.toNat).is = false then 3 else if (k.sl t.toNat d.toNat).is = true then 4 else if withinB r (k.sl e.toNat s.toNat).rights = false then 5 else 0)
 else 2
def tderS (k : KernS) (e s t d r : Int) : KernS := if tderE k e s t d r = 0 then k.setSlot t.toNat d.toNat ⟨true, (k.sl e.toNat s.toNat).frame, r, e, s⟩ else k
def goneL (k : KernS) (q : Nat) (it : Bool) : List Nat := (List.range 32).filter fun p => (it && decide (p = q)) || fromB k q 32 p
def tgoneE (k : KernS) (e s : Int) : Int := if inB k e s = true then (if (k.sl e.toNat s.toNat).is = true then 0 else 3) else 2
def tgoneL (k : KernS) (e s : Int) (it : Bool) : List Nat := if tgoneE k e s = 0 then goneL k (e.toNat * 8 + s.toNat) it else []
def tgoneS (k : KernS) (e s : Int) (it : Bool) : KernS := goneF k (tgoneL k e s it)
def tbelowL (k : KernS) (e s : Int) : List Nat := if tgoneE k e s = 0 then belowL k (e.toNat * 8 + s.toNat) 32 else []
structure TreeC (At : World → (Nat → Prop) → Nat → KernS → Prop) : Prop where
 low : ∀ W S P k, At W S P k → ∀ i, S i → i < W.heap.size
 foot : ∀ W W' S P k, At W S P k → W.heap.size ≤ W'.heap.size → (∀ i, S i → W'.heap[i]? = W.heap[i]?) → At W' S P k
 new_ : ∀ (n : Int) (w : World), 1 ≤ n ∧ n ≤ 4 → Calls Tryz.prog 25 #[.int .i64 n] w fun x w' => ∃ P S, x = .returned (.pointer (some ⟨P, 0, none⟩)) ∧ At w' S P (newK 1 n 16) ∧ (∀ i, S i → w.heap.size ≤ i) ∧ Below w.heap.size w w'
 no_ : ∀ (n : Int) (w : World), ¬ (1 ≤ n ∧ n ≤ 4) → Calls Tryz.prog 25 #[.int .i64 n] w fun x w' => x = .returned (.pointer none) ∧ Below w.heap.size w w'
 root_ : ∀ (P : Nat) (S : Nat → Prop) (k : KernS) (e s f : Int) (w : World), At w S P k →
  Calls Tryz.prog 30 #[.pointer (some ⟨P, 0, none⟩), .int .i64 e, .int .i64 s, .int .i64 f] w fun x w' => ∃ S', x = .returned (.int .i64 (rootE k e s f)) ∧ At w' S' P (rootS k e s f) ∧ (∀ i, S' i → S i ∨ w.heap.size ≤ i) ∧ Only S w w'
 derive_ : ∀ (P : Nat) (S : Nat → Prop) (k : KernS) (e s t d r : Int) (w : World), At w S P k →
  Calls Tryz.prog 31 #[.pointer (some ⟨P, 0, none⟩), .int .i64 e, .int .i64 s, .int .i64 t, .int .i64 d, .int .i64 r] w fun x w' => ∃ S', x = .returned (.int .i64 (tderE k e s t d r)) ∧ At w' S' P (tderS k e s t d r) ∧ (∀ i, S' i → S i ∨ w.heap.size ≤ i) ∧ Only S w w'
 at_ : ∀ (P : Nat) (S : Nat → Prop) (k : KernS) (e s : Nat) (w : World), At w S P k → (e : Int) < k.envs → s < 8 →
  Calls Tryz.prog 70 #[.pointer (some ⟨P, 0, none⟩), .int .i64 (e : Int), .int .i64 (s : Int)] w fun x w' => ∃ v, x = .returned v ∧ (((k.sl e s).is = true ∧ CapIs (k.sl e s) v) ∨ ((k.sl e s).is = false ∧ v = noCapV)) ∧ Below w.heap.size w w'
 below_ : ∀ (P : Nat) (S : Nat → Prop) (k : KernS) (e s : Int) (w : World), At w S P k →
  Calls Tryz.prog 37 #[.pointer (some ⟨P, 0, none⟩), .int .i64 e, .int .i64 s] w fun x w' => ∃ v, x = .returned v ∧ SliceIs w' v (tbelowL k e s).length (placesV (tbelowL k e s)) ∧ Below w.heap.size w w'
 revoke_ : ∀ (P : Nat) (S : Nat → Prop) (k : KernS) (e s : Int) (w : World), At w S P k →
  Calls Tryz.prog 98 #[.pointer (some ⟨P, 0, none⟩), .int .i64 e, .int .i64 s] w fun x w' => ∃ S' v, x = .returned (.tuple #[v, .int .i64 (tgoneE k e s)]) ∧ SliceIs w' v (tgoneL k e s false).length (placesV (tgoneL k e s false)) ∧ (∀ g c, v = .slice (some ⟨g, 0, none⟩) (tgoneL k e s false).length c → 0 < (tgoneL k e s false).length → w.heap.size ≤ g ∧ ¬ S' g) ∧ At w' S' P (tgoneS k e s false) ∧ (∀ i, S' i → S i ∨ w.heap.size ≤ i) ∧ Only S w w'
 drop_ : ∀ (P : Nat) (S : Nat → Prop) (k : KernS) (e s : Int) (w : World), At w S P k →
  Calls Tryz.prog 101 #[.pointer (some ⟨P, 0, none⟩), .int .i64 e, .int .i64 s] w fun x w' => ∃ S' v, x = .returned (.tuple #[v, .int .i64 (tgoneE k e s)]) ∧ SliceIs w' v (tgoneL k e s true).length (placesV (tgoneL k e s true)) ∧ (∀ g c, v = .slice (some ⟨g, 0, none⟩) (tgoneL k e s true).length c → 0 < (tgoneL k e s true).length → w.heap.size ≤ g ∧ ¬ S' g) ∧ At w' S' P (tgoneS k e s true) ∧ (∀ i, S' i → S i ∨ w.heap.size ≤ i) ∧ Only S w w'
section
variable {At : World → (Nat → Prop) → Nat → KernS → Prop}
def treeT (H : TreeC At) (S : Nat → Prop) (P : Nat) (k : KernS) : Thing := ⟨S, fun W => At W S P k, fun W W' h hs hb => H.foot W W' S P k h hs fun i hi => hb i hi (H.low W S P k h i hi), fun W h => H.low W S P k h⟩
def TRun (H : TreeC At) (w : World) (P : Nat) (k : KernS) (L : List Thing) (W : World) : Prop := ∃ S, Side w W (L ++ [treeT H S P k])
variable {H : TreeC At} {w W W' : World} {P : Nat} {k k' : KernS} {L : List Thing}
theorem TRun.below (h : TRun H w P k L W) : Below w.heap.size w W := h.elim fun _ h => h.below
theorem TRun.at (h : TRun H w P k L W) : ∃ S, At W S P k := h.elim fun S h => ⟨S, Side.at L h⟩
theorem TRun.under (h : TRun H w P k L W) (hb : Below W.heap.size W W') : TRun H w P k L W' := h.elim fun S h => ⟨S, h.under hb⟩
theorem TRun.alloc (h : TRun H w P k L W) (o : Obj) : TRun H w P k L (W.alloc o) := h.under ((Below.refl _ _).alloc (Nat.le_refl _) _)
theorem TRun.box (h : TRun H w P k L W) (o : Obj) : TRun H w P k (fixT W.heap.size o :: L) (W.alloc o) := h.elim fun S h => ⟨S, Side.box h o⟩
theorem TRun.mem (h : TRun H w P k L W) (q : Thing) (hq : q ∈ L) : q.P W := h.elim fun _ h => Side.mem h q (List.mem_append_left _ hq)
theorem TRun.step {S S' : Nat → Prop} (h : Side w W (L ++ [treeT H S P k])) (hp : At W' S' P k') (hn : ∀ i, S' i → S i ∨ W.heap.size ≤ i) (ho : Only S W W') : TRun H w P k' L W' :=
 ⟨S', Side.step (o := treeT H S P k) (treeT H S' P k') hp hn ho L h⟩
end
end Go.Proofs.YtdfhfmdelinemaaGreatDoor
