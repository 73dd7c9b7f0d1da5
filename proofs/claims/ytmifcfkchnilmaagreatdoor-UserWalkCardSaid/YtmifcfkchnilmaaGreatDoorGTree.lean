/- What is proved here: what the statements ask of packages plain and caps. Conditions: those that each theorem names. -/
import Derived.Test.YtmifcfkchnilmaaGreatDoorGParts
import Derived.Test.YtmifcfkchnilmaaGreatDoorGKer
import Derived.Test.YtmifcfkchnilmaaGreatDoorGKerE
import Derived.Test.YtmifcfkchnilmaaGreatDoorGStage
namespace Go.Proofs.YtmifcfkchnilmaaGreatDoor
open Go.RowKit Go.Extern.Stop Go.Stop Go.Extern
def BegunAt11 (w : World) : Prop := Calls Tryz.prog 16 #[] w fun e w' => e = .returned (.bool true) ∧ Below w.heap.size w w'
def SliceIs (W : World) (v : Value) (n : Nat) (cs : List Value) : Prop :=
  ∃ ao cap g, v = .slice ao n cap ∧ (0 < n → ao = some ⟨g, 0, none⟩ ∧ g < W.heap.size ∧ ∀ i x, cs[i]? = some x → W.cell? ⟨g, i, none⟩ = some x)
theorem SliceIs.later {W W' : World} {v : Value} {n : Nat} {cs : List Value} (h : SliceIs W v n cs) (hb : Below W.heap.size W W') : SliceIs W' v n cs := by
  obtain ⟨ao, cap, g, rfl, h2⟩ := h
  exact ⟨ao, cap, g, rfl, fun hn => ⟨(h2 hn).1, Nat.lt_of_lt_of_le (h2 hn).2.1 hb.size, fun i x hx => (hb.cell (p := ⟨g, i, none⟩) (h2 hn).2.1).trans ((h2 hn).2.2 i x hx)⟩⟩
theorem own_slice {w : World} {base n size : Nat} {e : TypeId} {v : Value} {xs : List Value} (h : w.ownsRow base e size v n xs) : SliceIs w v n xs := by
  obtain ⟨h1, ⟨rfl, h2⟩ | ⟨g, cap, cur, rfl, h3, h4, h5, h6, h7, h8⟩⟩ := h
  · subst h2
    exact ⟨none, 0, 0, rfl, fun h => absurd h (Nat.lt_irrefl 0)⟩
  · refine ⟨_, cap, g, rfl, fun _ => ⟨rfl, bk_lt h4, fun i x hx => ?_⟩⟩
    rw [← h8, List.getElem?_take] at hx
    split at hx
    · rw [bk_cell h4]
      simpa using hx
    · exact absurd hx (by simp)
theorem low_only11 {w W W' : World} {S : Nat → Prop} (hb : Below w.heap.size w W) (ho : Only S W W') (hS : ∀ i, S i → w.heap.size ≤ i) : Below w.heap.size w W' := by
  obtain ⟨h1, h2, h3, h4, h5⟩ := ho
  exact ⟨h1.trans hb.os, h2.trans hb.tape, h3.trans hb.output, Nat.le_trans hb.size h4, fun i hi => (h5 i (Nat.lt_of_lt_of_le hi hb.size) (fun hs => by have := hS i hs; omega)).trans (hb.block i hi)⟩
end Go.Proofs.YtmifcfkchnilmaaGreatDoor
namespace Go.Proofs.YtmifcfkchnilmaaGreatDoor
open Go.RowKit Go.Extern.Stop Go.Stop Go.Extern Go.WalkArith
def CapIs (s : SlotV) (v : Value) : Prop := ∃ e p : Int, v = .tuple #[.agg #[.int .i64 s.frame, .int .i64 s.rights, .int .i64 e, .int .i64 p], .bool true] ∧ (s.env < 0 → e < 0) ∧ (0 ≤ s.env → e = s.env ∧ p = s.slot)
abbrev noCapV : Value := .tuple #[.agg #[.int .i64 0, .int .i64 0, .int .i64 0, .int .i64 0], .bool false]
abbrev sizeV (c e f : Int) : Value := .agg #[.int .i64 c, .int .i64 e, .int .i64 f]
def SizeOk (c e f : Int) : Prop := (1 ≤ c ∧ c ≤ 8) ∧ (1 ≤ e ∧ e ≤ 4) ∧ (1 ≤ f ∧ f ≤ 16)
def ErrIs (w W : World) (c env x0 x1 x2 x3 x4 : Int) (v : Value) : Prop :=
  (c = 0 ∧ v = .nilIface) ∨ (c ≠ 0 ∧ ∃ b t, v = ptrErr b ∧ w.heap.size ≤ t ∧ t < b ∧ TrapAt W b c env (.int .u64 x0) (.int .u64 x1) (.int .u64 x2) (.int .u64 x3) (.int .u64 x4) (ptrErr t) ∧ OfAt W t c)
structure PlainC (At : World → (Nat → Prop) → Nat → KernS → Prop) : Prop where
  low : ∀ W S P k, At W S P k → ∀ i, S i → i < W.heap.size
  foot : ∀ W W' S P k, At W S P k → W.heap.size ≤ W'.heap.size → (∀ i, S i → W'.heap[i]? = W.heap[i]?) → At W' S P k
  sane : ∀ W S P k, At W S P k → Sane k
  new_ : ∀ (c e f : Int) (w : World), SizeOk c e f → Calls Tryz.prog 72 #[sizeV c e f] w fun x w' => ∃ P S, x = .returned (.pointer (some ⟨P, 0, none⟩)) ∧ At w' S P (newK c e f) ∧ (∀ i, S i → w.heap.size ≤ i) ∧ Below w.heap.size w w'
  no_ : ∀ (c e f : Int) (w : World), ¬ SizeOk c e f → Calls Tryz.prog 72 #[sizeV c e f] w fun x w' => x = .returned (.pointer none) ∧ Below w.heap.size w w'
  do_ : ∀ (P : Nat) (S : Nat → Prop) (k : KernS) (env x0 x1 x2 x3 x4 : Int) (w : World), At w S P k → wordsIn x0 x1 x2 x3 x4 →
    Calls Tryz.prog 52 #[.pointer (some ⟨P, 0, none⟩), .int .i64 env, callV x0 x1 x2 x3 x4] w fun x w' => ∃ S', x = .returned (ansV (kdo k env x0 x1 x2 x3 x4).2.1 (kdo k env x0 x1 x2 x3 x4).2.2.1 (kdo k env x0 x1 x2 x3 x4).2.2.2) ∧ At w' S' P (kdo k env x0 x1 x2 x3 x4).1 ∧ (∀ i, S' i → S i ∨ w.heap.size ≤ i) ∧ Only S w w'
  err_ : ∀ (P : Nat) (S : Nat → Prop) (k : KernS) (env x0 x1 x2 x3 x4 : Int) (w : World), At w S P k → wordsIn x0 x1 x2 x3 x4 → Held w →
    Calls Tryz.prog 57 #[.pointer (some ⟨P, 0, none⟩), .int .i64 env, callV x0 x1 x2 x3 x4] w fun x w' => ∃ v, x = .returned v ∧ ErrIs w w' (kdo k env x0 x1 x2 x3 x4).2.1 env x0 x1 x2 x3 x4 v ∧ Below w.heap.size w w'
  cap_ : ∀ (P : Nat) (S : Nat → Prop) (k : KernS) (e s : Nat) (w : World), At w S P k → (e : Int) < k.envs → s < 8 →
    Calls Tryz.prog 53 #[.pointer (some ⟨P, 0, none⟩), .int .i64 (e : Int), .int .i64 (s : Int)] w fun x w' => ∃ v, x = .returned v ∧ (((k.sl e s).is = true ∧ CapIs (k.sl e s) v) ∨ ((k.sl e s).is = false ∧ v = noCapV)) ∧ Below w.heap.size w w'
  frame_ : ∀ (P : Nat) (S : Nat → Prop) (k : KernS) (f : Nat) (w : World), At w S P k → (f : Int) < k.frames →
    Calls Tryz.prog 59 #[.pointer (some ⟨P, 0, none⟩), .int .i64 (f : Int)] w fun x w' => ∃ (g cap : Nat) (u : Nat → Int), x = .returned (.slice (some ⟨g, 0, none⟩) 16 cap) ∧ g < w'.heap.size ∧ (∀ i, i < 16 → w'.cell? ⟨g, i, none⟩ = some (.int .u64 (u i))) ∧ (0 < refsN k f 32 → ∀ i, i < 16 → u i = k.mm f i) ∧ Below w.heap.size w w'
  free_ : ∀ (P : Nat) (S : Nat → Prop) (k : KernS) (w : World), At w S P k →
    Calls Tryz.prog 58 #[.pointer (some ⟨P, 0, none⟩)] w fun x w' => ∃ v, x = .returned v ∧ SliceIs w' v (freeK k k.frames.toNat).length (pagesV (freeK k k.frames.toNat)) ∧ Below w.heap.size w w'
  copy_ : ∀ (P : Nat) (S : Nat → Prop) (k : KernS) (w : World), At w S P k →
    Calls Tryz.prog 60 #[.pointer (some ⟨P, 0, none⟩)] w fun x w' => ∃ P' S', x = .returned (.pointer (some ⟨P', 0, none⟩)) ∧ At w' S' P' k ∧ (∀ i, S' i → w.heap.size ≤ i) ∧ Below w.heap.size w w'
  touch_ : ∀ (P : Nat) (S : Nat → Prop) (k : KernS) (f a : Nat) (kind x1 x3 x4 : Int) (w : World), At w S P k → (f : Int) < k.frames → a < 16 → 20 ≤ kind ∧ kind ≤ 23 → wordsIn kind x1 a x3 x4 →
    Calls Tryz.prog 54 #[.pointer (some ⟨P, 0, none⟩), .int .i64 (f : Int), callV kind x1 a x3 x4] w fun x w' => ∃ S' v, x = .returned (ansV 0 v true) ∧ (0 < refsN k f 32 → v = wordT k f a kind) ∧ At w' S' P (wordS k f a kind x3 x4) ∧ (∀ i, S' i → S i ∨ w.heap.size ≤ i) ∧ Only S w w'
section
variable {At : World → (Nat → Prop) → Nat → KernS → Prop}
def plainT (H : PlainC At) (S : Nat → Prop) (P : Nat) (k : KernS) : Thing := ⟨S, fun W => At W S P k, fun W W' h hs hb => H.foot W W' S P k h hs fun i hi => hb i hi (H.low W S P k h i hi), fun W h => H.low W S P k h⟩
variable {H : PlainC At} {w W W' : World} {P : Nat} {k k' : KernS} {L : List Thing}
end
end Go.Proofs.YtmifcfkchnilmaaGreatDoor
namespace Go.Proofs.YtmifcfkchnilmaaGreatDoor
open Go.RowKit Go.Extern.Stop Go.Stop Go.Extern Go.WalkArith
def inB (k : KernS) (e s : Int) : Bool := decide (0 ≤ e ∧ e < k.envs ∧ 0 ≤ s ∧ s < 8)
def rootE (k : KernS) (e s f : Int) : Int := if inB k e s = true ∧ 0 ≤ f ∧ f < 16 then (if (k.sl e.toNat s.toNat).is = true then 4 else 0) else 2
def rootS (k : KernS) (e s f : Int) : KernS := if rootE k e s f = 0 then k.setSlot e.toNat s.toNat ⟨true, f, 3, -1, 0⟩ else k
def tderE (k : KernS) (e s t d r : Int) : Int :=
  if inB k e s = true ∧ inB k t d = true ∧ mayB r = true then
    (if (k.sl e.toNat s.toNat).is = false then 3 else if (k.sl t.toNat d.toNat).is = true then 4 else if withinB r (k.sl e.toNat s.toNat).rights = false then 5 else 0)
  else 2
def tderS (k : KernS) (e s t d r : Int) : KernS := if tderE k e s t d r = 0 then k.setSlot t.toNat d.toNat ⟨true, (k.sl e.toNat s.toNat).frame, r, e, s⟩ else k
def goneL (k : KernS) (q : Nat) (it : Bool) : List Nat := (List.range 32).filter fun p => (it && decide (p = q)) || fromB k q 32 p
def tgoneE (k : KernS) (e s : Int) : Int := if inB k e s = true then (if (k.sl e.toNat s.toNat).is = true then 0 else 3) else 2
def tgoneL (k : KernS) (e s : Int) (it : Bool) : List Nat := if tgoneE k e s = 0 then goneL k (e.toNat * 8 + s.toNat) it else []
def tgoneS (k : KernS) (e s : Int) (it : Bool) : KernS := goneF k (tgoneL k e s it)
def tbelowL (k : KernS) (e s : Int) : List Nat := if tgoneE k e s = 0 then belowL k (e.toNat * 8 + s.toNat) 32 else []
structure TreeC (At : World → (Nat → Prop) → Nat → KernS → Prop) : Prop where
  low : ∀ W S P k, At W S P k → ∀ i, S i → i < W.heap.size
  foot : ∀ W W' S P k, At W S P k → W.heap.size ≤ W'.heap.size → (∀ i, S i → W'.heap[i]? = W.heap[i]?) → At W' S P k
  new_ : ∀ (n : Int) (w : World), 1 ≤ n ∧ n ≤ 4 → Calls Tryz.prog 17 #[.int .i64 n] w fun x w' => ∃ P S, x = .returned (.pointer (some ⟨P, 0, none⟩)) ∧ At w' S P (newK 1 n 16) ∧ (∀ i, S i → w.heap.size ≤ i) ∧ Below w.heap.size w w'
  no_ : ∀ (n : Int) (w : World), ¬ (1 ≤ n ∧ n ≤ 4) → Calls Tryz.prog 17 #[.int .i64 n] w fun x w' => x = .returned (.pointer none) ∧ Below w.heap.size w w'
  root_ : ∀ (P : Nat) (S : Nat → Prop) (k : KernS) (e s f : Int) (w : World), At w S P k →
    Calls Tryz.prog 19 #[.pointer (some ⟨P, 0, none⟩), .int .i64 e, .int .i64 s, .int .i64 f] w fun x w' => ∃ S', x = .returned (.int .i64 (rootE k e s f)) ∧ At w' S' P (rootS k e s f) ∧ (∀ i, S' i → S i ∨ w.heap.size ≤ i) ∧ Only S w w'
  derive_ : ∀ (P : Nat) (S : Nat → Prop) (k : KernS) (e s t d r : Int) (w : World), At w S P k →
    Calls Tryz.prog 21 #[.pointer (some ⟨P, 0, none⟩), .int .i64 e, .int .i64 s, .int .i64 t, .int .i64 d, .int .i64 r] w fun x w' => ∃ S', x = .returned (.int .i64 (tderE k e s t d r)) ∧ At w' S' P (tderS k e s t d r) ∧ (∀ i, S' i → S i ∨ w.heap.size ≤ i) ∧ Only S w w'
  at_ : ∀ (P : Nat) (S : Nat → Prop) (k : KernS) (e s : Nat) (w : World), At w S P k → (e : Int) < k.envs → s < 8 →
    Calls Tryz.prog 65 #[.pointer (some ⟨P, 0, none⟩), .int .i64 (e : Int), .int .i64 (s : Int)] w fun x w' => ∃ v, x = .returned v ∧ (((k.sl e s).is = true ∧ CapIs (k.sl e s) v) ∨ ((k.sl e s).is = false ∧ v = noCapV)) ∧ Below w.heap.size w w'
  below_ : ∀ (P : Nat) (S : Nat → Prop) (k : KernS) (e s : Int) (w : World), At w S P k →
    Calls Tryz.prog 27 #[.pointer (some ⟨P, 0, none⟩), .int .i64 e, .int .i64 s] w fun x w' => ∃ v, x = .returned v ∧ SliceIs w' v (tbelowL k e s).length (placesV (tbelowL k e s)) ∧ Below w.heap.size w w'
  revoke_ : ∀ (P : Nat) (S : Nat → Prop) (k : KernS) (e s : Int) (w : World), At w S P k →
    Calls Tryz.prog 22 #[.pointer (some ⟨P, 0, none⟩), .int .i64 e, .int .i64 s] w fun x w' => ∃ S' v, x = .returned (.tuple #[v, .int .i64 (tgoneE k e s)]) ∧ SliceIs w' v (tgoneL k e s false).length (placesV (tgoneL k e s false)) ∧ (∀ g c, v = .slice (some ⟨g, 0, none⟩) (tgoneL k e s false).length c → 0 < (tgoneL k e s false).length → w.heap.size ≤ g ∧ ¬ S' g) ∧ At w' S' P (tgoneS k e s false) ∧ (∀ i, S' i → S i ∨ w.heap.size ≤ i) ∧ Only S w w'
  drop_ : ∀ (P : Nat) (S : Nat → Prop) (k : KernS) (e s : Int) (w : World), At w S P k →
    Calls Tryz.prog 23 #[.pointer (some ⟨P, 0, none⟩), .int .i64 e, .int .i64 s] w fun x w' => ∃ S' v, x = .returned (.tuple #[v, .int .i64 (tgoneE k e s)]) ∧ SliceIs w' v (tgoneL k e s true).length (placesV (tgoneL k e s true)) ∧ (∀ g c, v = .slice (some ⟨g, 0, none⟩) (tgoneL k e s true).length c → 0 < (tgoneL k e s true).length → w.heap.size ≤ g ∧ ¬ S' g) ∧ At w' S' P (tgoneS k e s true) ∧ (∀ i, S' i → S i ∨ w.heap.size ≤ i) ∧ Only S w w'
  of_ : ∀ (P : Nat) (S : Nat → Prop) (k : KernS) (f : Nat) (w : World), At w S P k → f < 16 →
    Calls Tryz.prog 64 #[.pointer (some ⟨P, 0, none⟩), .int .i64 (f : Int)] w fun x w' => (∃ ao cap, x = .returned (.slice ao (refsN k f 32) cap)) ∧ Below w.heap.size w w'
section
variable {At : World → (Nat → Prop) → Nat → KernS → Prop}
def treeT (H : TreeC At) (S : Nat → Prop) (P : Nat) (k : KernS) : Thing := ⟨S, fun W => At W S P k, fun W W' h hs hb => H.foot W W' S P k h hs fun i hi => hb i hi (H.low W S P k h i hi), fun W h => H.low W S P k h⟩
def TRun (H : TreeC At) (w : World) (P : Nat) (k : KernS) (L : List Thing) (W : World) : Prop := ∃ S, Side w W (L ++ [treeT H S P k])
variable {H : TreeC At} {w W W' : World} {P : Nat} {k k' : KernS} {L : List Thing}
theorem TRun.below (h : TRun H w P k L W) : Below w.heap.size w W := h.elim fun _ h => h.below
theorem TRun.at (h : TRun H w P k L W) : ∃ S, At W S P k := h.elim fun S h => ⟨S, Side.at L h⟩
theorem TRun.under (h : TRun H w P k L W) (hb : Below W.heap.size W W') : TRun H w P k L W' := h.elim fun S h => ⟨S, h.under hb⟩
theorem TRun.alloc (h : TRun H w P k L W) (o : Obj) : TRun H w P k L (W.alloc o) := h.under ((Below.refl _ _).alloc (Nat.le_refl _) _)
theorem TRun.step {S S' : Nat → Prop} (h : Side w W (L ++ [treeT H S P k])) (hp : At W' S' P k') (hn : ∀ i, S' i → S i ∨ W.heap.size ≤ i) (ho : Only S W W') : TRun H w P k' L W' :=
  ⟨S', Side.step (o := treeT H S P k) (treeT H S' P k') hp hn ho L h⟩
theorem tree_new {n : Int} {l : List Thing} (H : TreeC At) (h : Side w W l) (hn : 1 ≤ n ∧ n ≤ 4) :
    Calls Tryz.prog 17 #[.int .i64 n] W fun x W' => ∃ P S, x = .returned (.pointer (some ⟨P, 0, none⟩)) ∧ Side w W' (treeT H S P (newK 1 n 16) :: l) := by
  refine (H.new_ n W hn).mono ?_
  rintro x W' ⟨P, S, rfl, h1, hl, hb⟩
  exact ⟨P, S, rfl, h.make hb (treeT H S P (newK 1 n 16)) h1 hl⟩
theorem trun_new {n : Int} (H : TreeC At) (hb : Below w.heap.size w W) (hn : 1 ≤ n ∧ n ≤ 4) :
    Calls Tryz.prog 17 #[.int .i64 n] W fun x W' => ∃ P, x = .returned (.pointer (some ⟨P, 0, none⟩)) ∧ TRun H w P (newK 1 n 16) [] W' := by
  refine (tree_new H (show Side w W [] from hb) hn).mono ?_
  rintro x W' ⟨P, S, rfl, h⟩
  exact ⟨P, rfl, S, h⟩
theorem trun_root {e s f er : Int} (h : TRun H w P k L W) (h0 : rootE k e s f = er) (h1 : rootS k e s f = k') :
    Calls Tryz.prog 19 #[.pointer (some ⟨P, 0, none⟩), .int .i64 e, .int .i64 s, .int .i64 f] W fun x W' => x = .returned (.int .i64 er) ∧ TRun H w P k' L W' := by
  subst h0 h1
  obtain ⟨S, h⟩ := h
  refine (H.root_ P S k e s f W (Side.at L h)).mono ?_
  rintro x W' ⟨S', rfl, h4, h5, h6⟩
  exact ⟨rfl, TRun.step h h4 h5 h6⟩
theorem trun_derive {e s t d r er : Int} (h : TRun H w P k L W) (h0 : tderE k e s t d r = er) (h1 : tderS k e s t d r = k') :
    Calls Tryz.prog 21 #[.pointer (some ⟨P, 0, none⟩), .int .i64 e, .int .i64 s, .int .i64 t, .int .i64 d, .int .i64 r] W fun x W' => x = .returned (.int .i64 er) ∧ TRun H w P k' L W' := by
  subst h0 h1
  obtain ⟨S, h⟩ := h
  refine (H.derive_ P S k e s t d r W (Side.at L h)).mono ?_
  rintro x W' ⟨S', rfl, h4, h5, h6⟩
  exact ⟨rfl, TRun.step h h4 h5 h6⟩
theorem trun_cap {e s : Nat} (h : TRun H w P k L W) (he : (e : Int) < k.envs) (hs : s < 8) (hi : (k.sl e s).is = true) :
    Calls Tryz.prog 65 #[.pointer (some ⟨P, 0, none⟩), .int .i64 (e : Int), .int .i64 (s : Int)] W fun x W' => (∃ a b : Int, x = .returned (.tuple #[.agg #[.int .i64 (k.sl e s).frame, .int .i64 (k.sl e s).rights, .int .i64 a, .int .i64 b], .bool true])) ∧ TRun H w P k L W' := by
  obtain ⟨S, h1⟩ := h.at
  refine (H.at_ P S k e s W h1 he hs).mono ?_
  rintro x W' ⟨v, rfl, h4 | h4, hb⟩
  · obtain ⟨a, b, rfl, _⟩ := h4.2
    exact ⟨⟨a, b, rfl⟩, h.under hb⟩
  · rw [h4.1] at hi
    exact absurd hi (by decide)
theorem trun_has {e s : Nat} {b : Bool} (h : TRun H w P k L W) (he : (e : Int) < k.envs) (hs : s < 8) (hi : (k.sl e s).is = b) :
    Calls Tryz.prog 65 #[.pointer (some ⟨P, 0, none⟩), .int .i64 (e : Int), .int .i64 (s : Int)] W fun x W' => (∃ c1 c2 c3 c4 : Int, x = .returned (.tuple #[.agg #[.int .i64 c1, .int .i64 c2, .int .i64 c3, .int .i64 c4], .bool b])) ∧ TRun H w P k L W' := by
  obtain ⟨S, h1⟩ := h.at
  refine (H.at_ P S k e s W h1 he hs).mono ?_
  rintro x W' ⟨v, rfl, h4 | h4, hb⟩
  · obtain ⟨a, b', rfl, _⟩ := h4.2
    rw [h4.1] at hi
    subst hi
    exact ⟨⟨_, _, a, b', rfl⟩, h.under hb⟩
  · obtain rfl := h4.2
    rw [h4.1] at hi
    subst hi
    exact ⟨⟨_, _, _, _, rfl⟩, h.under hb⟩
theorem trun_below {e s : Int} {n : Nat} (h : TRun H w P k L W) (hn : (tbelowL k e s).length = n) :
    Calls Tryz.prog 27 #[.pointer (some ⟨P, 0, none⟩), .int .i64 e, .int .i64 s] W fun x W' => (∃ ao cap, x = .returned (.slice ao n cap)) ∧ TRun H w P k L W' := by
  subst hn
  obtain ⟨S, h1⟩ := h.at
  refine (H.below_ P S k e s W h1).mono ?_
  rintro x W' ⟨v, rfl, ⟨ao, cap, g, rfl, _⟩, hb⟩
  exact ⟨⟨ao, cap, rfl⟩, h.under hb⟩
theorem trun_of {f : Nat} {n : Nat} (h : TRun H w P k L W) (hf : f < 16) (hn : refsN k f 32 = n) :
    Calls Tryz.prog 64 #[.pointer (some ⟨P, 0, none⟩), .int .i64 (f : Int)] W fun x W' => (∃ ao cap, x = .returned (.slice ao n cap)) ∧ TRun H w P k L W' := by
  subst hn
  obtain ⟨S, h1⟩ := h.at
  refine (H.of_ P S k f W h1 hf).mono ?_
  rintro x W' ⟨⟨ao, cap, rfl⟩, hb⟩
  exact ⟨⟨ao, cap, rfl⟩, h.under hb⟩
theorem trun_revoke {e s er : Int} {n : Nat} (h : TRun H w P k L W) (h0 : tgoneE k e s = er) (hn : (tgoneL k e s false).length = n) :
    Calls Tryz.prog 22 #[.pointer (some ⟨P, 0, none⟩), .int .i64 e, .int .i64 s] W fun x W' => (∃ ao cap, x = .returned (.tuple #[.slice ao n cap, .int .i64 er])) ∧ TRun H w P (tgoneS k e s false) L W' := by
  subst h0 hn
  obtain ⟨S, h⟩ := h
  refine (H.revoke_ P S k e s W (Side.at L h)).mono ?_
  rintro x W' ⟨S', v, rfl, ⟨ao, cap, g, rfl, _⟩, _, h4, h5, h6⟩
  exact ⟨⟨ao, cap, rfl⟩, TRun.step h h4 h5 h6⟩
theorem trun_drop {e s er : Int} {n : Nat} (h : TRun H w P k L W) (h0 : tgoneE k e s = er) (hn : (tgoneL k e s true).length = n) :
    Calls Tryz.prog 23 #[.pointer (some ⟨P, 0, none⟩), .int .i64 e, .int .i64 s] W fun x W' => (∃ ao cap, x = .returned (.tuple #[.slice ao n cap, .int .i64 er])) ∧ TRun H w P (tgoneS k e s true) L W' := by
  subst h0 hn
  obtain ⟨S, h⟩ := h
  refine (H.drop_ P S k e s W (Side.at L h)).mono ?_
  rintro x W' ⟨S', v, rfl, ⟨ao, cap, g, rfl, _⟩, _, h4, h5, h6⟩
  exact ⟨⟨ao, cap, rfl⟩, TRun.step h h4 h5 h6⟩
end
def chK : Nat → KernS
  | 0 => rootS (newK 1 2 16) 0 0 3
  | i + 1 => tderS (chK i) ((i % 2 : Nat) : Int) (i : Nat) (((i + 1) % 2 : Nat) : Int) ((i + 1 : Nat) : Int) 3
theorem ch_up : ∀ i : Nat, i < 7 → tderE (chK i) ((i % 2 : Nat) : Int) (i : Nat) (((i + 1) % 2 : Nat) : Int) ((i + 1 : Nat) : Int) 3 = 0 := by decide +kernel
theorem ch_all : ∀ i : Nat, i < 7 → (tbelowL (chK i) 0 0).length = i ∧ refsN (chK i) 3 32 = i + 1 := by decide +kernel
theorem ch_rev : ∀ i : Nat, i < 7 → ∀ a : Nat, a < i + 1 → tgoneE (chK i) ((a % 2 : Nat) : Int) (a : Nat) = 0 ∧ (tgoneL (chK i) ((a % 2 : Nat) : Int) (a : Nat) false).length = i - a ∧ (tgoneL (chK i) ((a % 2 : Nat) : Int) (a : Nat) true).length = i - a + 1 := by decide +kernel
theorem ch_after : ∀ i : Nat, i < 7 → ∀ a : Nat, a < i + 1 → refsN (tgoneS (chK i) ((a % 2 : Nat) : Int) (a : Nat) false) 3 32 = a + 1 ∧ refsN (tgoneS (chK i) ((a % 2 : Nat) : Int) (a : Nat) true) 3 32 = a := by decide +kernel
theorem ch_has : ∀ i : Nat, i < 7 → ∀ a : Nat, a < i + 1 → ∀ j : Nat, j < i + 1 → ((tgoneS (chK i) ((a % 2 : Nat) : Int) (a : Nat) false).sl (j % 2) j).is = decide (j < a + 1) ∧ ((tgoneS (chK i) ((a % 2 : Nat) : Int) (a : Nat) true).sl (j % 2) j).is = decide (j < a) := by decide +kernel
theorem ch_envs : ∀ i : Nat, i < 7 → ∀ a : Nat, a < i + 1 → (tgoneS (chK i) ((a % 2 : Nat) : Int) (a : Nat) false).envs = 2 ∧ (tgoneS (chK i) ((a % 2 : Nat) : Int) (a : Nat) true).envs = 2 := by decide +kernel
end Go.Proofs.YtmifcfkchnilmaaGreatDoor
