/- What is proved here: kernels of package plain and the document's side by side. Conditions: those that each theorem names. -/
import Derived.Test.YtbmekfjcpdbapaaGreatDoorGTree
import Derived.Test.YtbmekfjcpdbapaaGreatDoorGTreeB
import Derived.RegionTactic
import Derived.WalkArith
import Derived.Deep.QuietTactic
import Derived.BigQuiet
import Derived.Test.YtbmekfjcpdbapaaGreatDoorGKerE
import Derived.StillTailTactics
namespace Go.Proofs.YtbmekfjcpdbapaaGreatDoor
open Go.RowKit Go.Extern.Stop Go.Stop Go.Extern Go.WalkArith
def PairAt (At : World → (Nat → Prop) → Nat → KernS → Prop) (w : World) (S : Nat → Prop) (P K : Nat) (k : KernS) (W : World) : Prop := At W S P k ∧ KernIs W K k ∧ Below w.heap.size w W
section
variable {At : World → (Nat → Prop) → Nat → KernS → Prop} {w W W' : World} {S : Nat → Prop} {P K : Nat} {k : KernS}
theorem PairAt.under (H : PlainC At) (h : PairAt At w S P K k W) (hb : Below W.heap.size W W') : PairAt At w S P K k W' :=
  ⟨H.foot _ _ _ _ _ h.1 hb.size fun i hi => hb.block i (H.low _ _ _ _ h.1 i hi), h.2.1.later hb, bl_trans h.2.2 hb⟩
end
end Go.Proofs.YtbmekfjcpdbapaaGreatDoor
namespace Go.Proofs.YtbmekfjcpdbapaaGreatDoor
open Go.RowKit Go.Extern.Stop Go.Stop Go.Extern Go.WalkArith
section
variable {At : World → (Nat → Prop) → Nat → KernS → Prop} {w W W' : World} {S : Nat → Prop} {P K : Nat} {k : KernS}
end
end Go.Proofs.YtbmekfjcpdbapaaGreatDoor
namespace Go.Proofs.YtbmekfjcpdbapaaGreatDoor
open Go.RowKit Go.Extern.Stop Go.Stop Go.Extern Go.WalkArith
def twoT (b t : Nat) (p q : Obj) : Thing := ⟨fun i => i = b ∨ i = t, fun W => W.heap[b]? = some p ∧ W.heap[t]? = some q, fun _ _ h _ hb => ⟨(hb b (Or.inl rfl) (bk_lt h.1)).trans h.1, (hb t (Or.inr rfl) (bk_lt h.2)).trans h.2⟩, fun _ h _ hi => hi.elim (fun e => e ▸ bk_lt h.1) (fun e => e ▸ bk_lt h.2)⟩
section
variable {At : World → (Nat → Prop) → Nat → KernS → Prop} {H : PlainC At} {w W W' : World} {S : Nat → Prop} {P K : Nat} {k k' : KernS} {l1 l2 : List Thing}
theorem Side.tail {o : Thing} {l : List Thing} (h : Side w W (o :: l)) : Side w W l := h.2.2.2
theorem side_new {c e f : Int} {l : List Thing} (H : PlainC At) (h : Side w W l) (hs : SizeOk c e f) :
    Calls Tryz.prog 18 #[sizeV c e f] W fun x W' => ∃ P S, x = .returned (.pointer (some ⟨P, 0, none⟩)) ∧ Side w W' (plainT H S P (newK c e f) :: l) := by
  refine (H.new_ c e f W hs).mono ?_
  rintro x W' ⟨P, S, rfl, h1, hl, hb⟩
  exact ⟨P, S, rfl, h.make hb (plainT H S P (newK c e f)) h1 hl⟩
theorem side_do (env x0 x1 x2 x3 x4 : Int) (h : Side w W (l1 ++ plainT H S P k :: l2)) (hx : wordsIn x0 x1 x2 x3 x4) :
    Calls Tryz.prog 22 #[.pointer (some ⟨P, 0, none⟩), .int .i64 env, callV x0 x1 x2 x3 x4] W fun x W' => ∃ S', x = .returned (ansV (kdo k env x0 x1 x2 x3 x4).2.1 (kdo k env x0 x1 x2 x3 x4).2.2.1 (kdo k env x0 x1 x2 x3 x4).2.2.2) ∧ Side w W' (l1 ++ plainT H S' P (kdo k env x0 x1 x2 x3 x4).1 :: l2) := by
  refine (H.do_ P S k env x0 x1 x2 x3 x4 W (Side.at l1 h) hx).mono ?_
  rintro x W' ⟨S', rfl, h4, h5, h6⟩
  exact ⟨S', rfl, Side.step (o := plainT H S P k) (plainT H S' P _) h4 h5 h6 l1 h⟩
def trapO (c env x0 x1 x2 x3 x4 : Int) (t : Nat) : Obj := .cells #[.int .i64 c, .int .i64 env, .int .u64 x0, .int .u64 x1, .int .u64 x2, .int .u64 x3, .int .u64 x4, ptrErr t] 50
def ofO (c : Int) : Obj := .cells #[.int .i64 c, .int .i64 (-1), .int .u64 0, .int .u64 0, .int .u64 0, .int .u64 0, .int .u64 0, .nilIface] 50
theorem side_err {env x0 x1 x2 x3 x4 : Int} (h : Side w W (l1 ++ plainT H S P k :: l2)) (hx : wordsIn x0 x1 x2 x3 x4) (hg : Held W) (he : (kdo k env x0 x1 x2 x3 x4).2.1 ≠ 0) :
    Calls Tryz.prog 21 #[.pointer (some ⟨P, 0, none⟩), .int .i64 env, callV x0 x1 x2 x3 x4] W fun x W' => ∃ b t, x = .returned (ptrErr b) ∧ t < b ∧ Side w W' (twoT b t (trapO (kdo k env x0 x1 x2 x3 x4).2.1 env x0 x1 x2 x3 x4 t) (ofO (kdo k env x0 x1 x2 x3 x4).2.1) :: (l1 ++ plainT H S P k :: l2)) := by
  refine (H.err_ P S k env x0 x1 x2 x3 x4 W (Side.at l1 h) hx hg).mono ?_
  rintro x W' ⟨v, rfl, h4 | h4, hb⟩
  · exact absurd h4.1 he
  · obtain ⟨b, t, rfl, h5, h6, h7, h8⟩ := h4.2
    refine ⟨b, t, rfl, h6, h.make hb (twoT b t _ _) ⟨h7, h8⟩ (fun i hi => ?_)⟩
    rcases hi with rfl | rfl
    · exact Nat.le_of_lt (Nat.lt_of_le_of_lt h5 h6)
    · exact h5
theorem err_chain {c env x0 x1 x2 x3 x4 : Int} {b t : Nat} (ht : t < b) (h : W.heap[b]? = some (trapO c env x0 x1 x2 x3 x4 t) ∧ W.heap[t]? = some (ofO c)) : Chain W c .nilIface 2 (b + 1) (ptrErr b) ∧ b + 1 ≤ W.heap.size :=
  ⟨⟨b, env, _, _, _, _, _, _, rfl, Nat.lt_succ_self _, h.1, t, -1, _, _, _, _, _, _, rfl, ht, h.2, rfl⟩, bk_lt h.1⟩
end
end Go.Proofs.YtbmekfjcpdbapaaGreatDoor
namespace Go.Proofs.YtbmekfjcpdbapaaGreatDoor
open Go.RowKit Go.Extern.Stop Go.Stop Go.Extern Go.WalkArith
structure AskAt (W : World) (b : Addr) (e x0 x1 x2 x3 x4 : Int) : Prop where
  env : W.cell? b = some (.int .i64 e)
  a0 : W.cell? ⟨b.block, b.off + 1, none⟩ = some (.int .u64 x0)
  a1 : W.cell? ⟨b.block, b.off + 2, none⟩ = some (.int .u64 x1)
  a2 : W.cell? ⟨b.block, b.off + 3, none⟩ = some (.int .u64 x2)
  a3 : W.cell? ⟨b.block, b.off + 4, none⟩ = some (.int .u64 x3)
  a4 : W.cell? ⟨b.block, b.off + 5, none⟩ = some (.int .u64 x4)
  words : wordsIn x0 x1 x2 x3 x4
theorem AskAt.later {W W' : World} {b : Addr} {e x0 x1 x2 x3 x4 : Int} (h : AskAt W b e x0 x1 x2 x3 x4) (hb : Below W.heap.size W W') : AskAt W' b e x0 x1 x2 x3 x4 := by
  have hl : b.block < W.heap.size := World.block_lt_of_cell? _ _ h.env
  exact ⟨(hb.cell (p := b) hl).trans h.env, (hb.cell (p := ⟨b.block, _, none⟩) hl).trans h.a0, (hb.cell (p := ⟨b.block, _, none⟩) hl).trans h.a1, (hb.cell (p := ⟨b.block, _, none⟩) hl).trans h.a2, (hb.cell (p := ⟨b.block, _, none⟩) hl).trans h.a3, (hb.cell (p := ⟨b.block, _, none⟩) hl).trans h.a4, h.words⟩
def AsksAt (W : World) (ao : Option Addr) (a : Addr) (len : Nat) : Prop := (0 < len → ao = some a) ∧ ∀ i, i < len → ∃ e x0 x1 x2 x3 x4, AskAt W (a.add (i * 6)) e x0 x1 x2 x3 x4
theorem AsksAt.later {W W' : World} {ao : Option Addr} {a : Addr} {len : Nat} (h : AsksAt W ao a len) (hb : Below W.heap.size W W') : AsksAt W' ao a len :=
  ⟨h.1, fun i hi => by obtain ⟨e, x0, x1, x2, x3, x4, ha⟩ := h.2 i hi; exact ⟨e, x0, x1, x2, x3, x4, ha.later hb⟩⟩
end Go.Proofs.YtbmekfjcpdbapaaGreatDoor
namespace Go.Proofs.YtbmekfjcpdbapaaGreatDoor
open Go.RowKit Go.Stop Go.Extern.Stop Go.Extern Go.WalkArith
theorem tnear (x : Int) (n : Int) (h : 0 < n) : -n < x.tmod n ∧ x.tmod n < n := by
  refine ⟨?_, Int.tmod_lt_of_pos x h⟩
  rcases Int.lt_or_le x 0 with hx | hx
  · have := Int.tmod_lt_of_pos (-x) h
    rw [Int.neg_tmod] at this
    omega
  · have := Int.tmod_nonneg n hx
    omega
theorem tupm (x : Int) (n : Int) (h : 0 < n) : 0 ≤ (x.tmod n + n).tmod n ∧ (x.tmod n + n).tmod n < n := by
  have h1 := tnear x n h
  exact ⟨Int.tmod_nonneg n (by omega), Int.tmod_lt_of_pos _ h⟩
theorem sixteen {o : Nat} (h : o < 16) : o = 0 ∨ o = 1 ∨ o = 2 ∨ o = 3 ∨ o = 4 ∨ o = 5 ∨ o = 6 ∨ o = 7 ∨ o = 8 ∨ o = 9 ∨ o = 10 ∨ o = 11 ∨ o = 12 ∨ o = 13 ∨ o = 14 ∨ o = 15 := by omega
def alN (F : Int) : Nat → KernS
  | 0 => newK 1 2 F
  | i + 1 => (kdo (alN F i) 0 1 i 0 0 0).1
set_option maxRecDepth 100000 in
theorem alloc_up : ∀ F : Nat, F < 9 → ∀ i : Nat, i < F → (kdo (alN F i) 0 1 i 0 0 0).2 = (0, 0, true) ∧ ((alN F (i + 1)).sl 0 i).is = true ∧ ((alN F (i + 1)).sl 0 i).frame = i := by decide +kernel
theorem alloc_one {F : Nat} (h : F < 9) (h0 : 0 < F) : kdo (alN F F) 1 1 0 0 0 0 = (alN F F, 6, 0, true) := by
  rcases (show F = 1 ∨ F = 2 ∨ F = 3 ∨ F = 4 ∨ F = 5 ∨ F = 6 ∨ F = 7 ∨ F = 8 by omega) with rfl | rfl | rfl | rfl | rfl | rfl | rfl | rfl <;> kernel_rfl
theorem alloc_two {F : Nat} (h : F < 9) (h0 : 0 < F) : kdo (alN F F) 0 1 0 0 0 0 = (alN F F, 4, 0, true) := by
  rcases (show F = 1 ∨ F = 2 ∨ F = 3 ∨ F = 4 ∨ F = 5 ∨ F = 6 ∨ F = 7 ∨ F = 8 by omega) with rfl | rfl | rfl | rfl | rfl | rfl | rfl | rfl <;> kernel_rfl
theorem alN_envs : ∀ F i : Nat, F < 9 → i ≤ F → (alN F i).envs = 2 := by
  have h : ∀ F : Nat, F < 9 → ∀ i : Nat, i < F + 1 → (alN F i).envs = 2 := by decide +kernel
  exact fun F i hF hi => h F hF i (by omega)
def alD (F d : Nat) : KernS := (kdo (alN F F) 0 5 d 0 0 0).1
def alE (F d : Nat) : KernS := (kdo (alD F d) 1 1 0 0 0 0).1
set_option maxRecDepth 100000 in
theorem alloc_full : ∀ F : Nat, F < 9 → 0 < F → (kdo (alN F F) 1 1 0 0 0 0).2 = (6, 0, true) ∧ (kdo (alN F F) 0 1 0 0 0 0).2 = (4, 0, true) := by decide +kernel
set_option maxRecDepth 100000 in
theorem alloc_drop {F : Nat} (h : F < 9) {D : Nat} (hd : D < F) : kdo (alN F F) 0 5 D 0 0 0 = (alD F D, 0, 1, true) := by
  have e : ∀ F : Nat, F < 9 → ∀ d : Nat, d < F → (kdo (alN F F) 0 5 d 0 0 0).2 = (0, 1, true) := by decide +kernel
  exact Prod.ext rfl (e F h D hd)
theorem alloc_again {F : Nat} (h : F < 9) {D : Nat} (hd : D < F) : kdo (alD F D) 1 1 0 0 0 0 = (alE F D, 0, 0, true) := by
  have e : ∀ F : Nat, F < 9 → ∀ d : Nat, d < F → (kdo (alD F d) 1 1 0 0 0 0).2 = (0, 0, true) := by decide +kernel
  exact Prod.ext rfl (e F h D hd)
theorem alloc_last : ∀ F : Nat, F < 9 → ∀ d : Nat, d < F → ((alE F d).sl 1 0).frame = d ∧ ((alE F d).sl 1 0).is = true ∧ (alE F d).envs = 2 := by decide +kernel
theorem u64_small (n : Nat) (h : n < 1000) : IntKind.u64.wrap (n : Int) = (n : Int) := by
  have : IntKind.u64.wrap (n : Int) = (n : Int) % 18446744073709551616 := by
    simp [IntKind.wrap, IntKind.signed, IntKind.bits]
  omega
def shA : KernS := (kdo (newK 1 2 2) 0 1 0 0 0 0).1
def shB : KernS := (kdo shA 0 6 1 0 3 0).1
def shC (r : Int) : KernS := (kdo shB 0 3 0 1 5 r).1
def shD (r : Int) : KernS := (kdo (shC r) 1 6 2 5 r 0).1
def shE (r : Int) (o : Nat) (v : Int) : KernS := (kdo (shD r) 0 21 1 o v 0).1
def shF (r : Int) (o : Nat) (v u : Int) : KernS := (kdo (shE r o v) 1 21 2 o u 0).1
def shG (r : Int) (o : Nat) (v u : Int) : KernS := (kdo (shF r o v u) 0 4 0 0 0 0).1
theorem share_up (r : Int) (hr : r = 1 ∨ r = 2 ∨ r = 3) : kdo (newK 1 2 2) 0 1 0 0 0 0 = (shA, 0, 0, true) ∧ kdo shA 0 6 1 0 3 0 = (shB, 0, 0, true) ∧ kdo shB 0 3 0 1 5 r = (shC r, 0, 0, true) ∧ kdo (shC r) 1 6 2 5 r 0 = (shD r, 0, 0, true) := by
  rcases hr with rfl | rfl | rfl <;> (refine ⟨?_, ?_, ?_, ?_⟩ <;> kernel_rfl)
theorem share_1 (o : Nat) (ho : o < 16) (v u : Int) : kdo (shD 1) 0 21 1 o v 0 = (shE 1 o v, 0, 0, true) ∧ kdo (shE 1 o v) 1 20 2 o 0 0 = (shE 1 o v, 0, v, true) ∧ kdo (shE 1 o v) 1 21 2 o u 0 = (shF 1 o v u, 7, 0, true) ∧ kdo (shF 1 o v u) 0 20 1 o 0 0 = (shF 1 o v u, 0, v, true) ∧ kdo (shF 1 o v u) 0 4 0 0 0 0 = (shG 1 o v u, 0, 1, true) ∧ kdo (shG 1 o v u) 1 20 2 o 0 0 = (shG 1 o v u, 7, 0, true) ∧ kdo (shG 1 o v u) 0 20 1 o 0 0 = (shG 1 o v u, 0, v, true) := by
  rcases sixteen ho with rfl | rfl | rfl | rfl | rfl | rfl | rfl | rfl | rfl | rfl | rfl | rfl | rfl | rfl | rfl | rfl <;> (refine ⟨?_, ?_, ?_, ?_, ?_, ?_, ?_⟩ <;> kernel_rfl)
theorem share_2 (o : Nat) (ho : o < 16) (v u : Int) : kdo (shD 2) 0 21 1 o v 0 = (shE 2 o v, 0, 0, true) ∧ kdo (shE 2 o v) 1 20 2 o 0 0 = (shE 2 o v, 7, 0, true) ∧ kdo (shE 2 o v) 1 21 2 o u 0 = (shF 2 o v u, 0, 0, true) ∧ kdo (shF 2 o v u) 0 20 1 o 0 0 = (shF 2 o v u, 0, u, true) ∧ kdo (shF 2 o v u) 0 4 0 0 0 0 = (shG 2 o v u, 0, 1, true) ∧ kdo (shG 2 o v u) 1 20 2 o 0 0 = (shG 2 o v u, 7, 0, true) ∧ kdo (shG 2 o v u) 0 20 1 o 0 0 = (shG 2 o v u, 0, u, true) := by
  rcases sixteen ho with rfl | rfl | rfl | rfl | rfl | rfl | rfl | rfl | rfl | rfl | rfl | rfl | rfl | rfl | rfl | rfl <;> (refine ⟨?_, ?_, ?_, ?_, ?_, ?_, ?_⟩ <;> kernel_rfl)
theorem share_3 (o : Nat) (ho : o < 16) (v u : Int) : kdo (shD 3) 0 21 1 o v 0 = (shE 3 o v, 0, 0, true) ∧ kdo (shE 3 o v) 1 20 2 o 0 0 = (shE 3 o v, 0, v, true) ∧ kdo (shE 3 o v) 1 21 2 o u 0 = (shF 3 o v u, 0, 0, true) ∧ kdo (shF 3 o v u) 0 20 1 o 0 0 = (shF 3 o v u, 0, u, true) ∧ kdo (shF 3 o v u) 0 4 0 0 0 0 = (shG 3 o v u, 0, 1, true) ∧ kdo (shG 3 o v u) 1 20 2 o 0 0 = (shG 3 o v u, 7, 0, true) ∧ kdo (shG 3 o v u) 0 20 1 o 0 0 = (shG 3 o v u, 0, u, true) := by
  rcases sixteen ho with rfl | rfl | rfl | rfl | rfl | rfl | rfl | rfl | rfl | rfl | rfl | rfl | rfl | rfl | rfl | rfl <;> (refine ⟨?_, ?_, ?_, ?_, ?_, ?_, ?_⟩ <;> kernel_rfl)
theorem share_gone (r : Int) (hr : r = 1 ∨ r = 2 ∨ r = 3) (o : Nat) (ho : o < 16) (v u : Int) : ((shG r o v u).sl 1 5).is = false ∧ ((shG r o v u).pt 1 2).rights = 0 ∧ (shG r o v u).envs = 2 := by
  rcases hr with rfl | rfl | rfl <;> rcases sixteen ho with rfl | rfl | rfl | rfl | rfl | rfl | rfl | rfl | rfl | rfl | rfl | rfl | rfl | rfl | rfl | rfl <;> (refine ⟨?_, ?_, ?_⟩ <;> kernel_rfl)
theorem setPte_twice (k : KernS) (e p : Nat) (v v' : PteV) : (k.setPte e p v).setPte e p v' = k.setPte e p v' := by
  unfold KernS.setPte
  congr 1
  funext e' p'
  dsimp only
  split <;> rfl
theorem setPte_same {k : KernS} {e p : Nat} {v : PteV} (h : k.pt e p = v) : k.setPte e p v = k := by
  subst h
  unfold KernS.setPte
  congr 1
  funext e' p'
  split
  · rename_i h
    rw [h.1, h.2]
  · rfl
theorem setWord_same {k : KernS} {f a : Nat} {v : Int} (h : k.mm f a = v) : k.setWord f a v = k := by
  subst h
  unfold KernS.setWord
  congr 1
  funext f' a'
  split
  · rename_i h
    rw [h.1, h.2]
  · rfl
def prA : KernS := (kdo (newK 1 2 1) 0 1 0 0 0 0).1
def prB (f : Int) : KernS := (kdo prA 0 2 0 1 f 0).1
def prN (f n : Int) : KernS := (prB f).setPte 0 3 ⟨0, 1, n⟩
theorem prot_up (f : Int) (hf : f = 1 ∨ f = 2 ∨ f = 3) : kdo (newK 1 2 1) 0 1 0 0 0 0 = (prA, 0, 0, true) ∧ kdo prA 0 2 0 1 f 0 = (prB f, 0, 0, true) ∧ kdo (prB f) 0 6 3 1 f 0 = (prN f f, 0, 0, true) := by
  rcases hf with rfl | rfl | rfl <;> (refine ⟨?_, ?_, ?_⟩ <;> kernel_rfl)
def prE (f r : Int) : Int := if r = 0 then 2 else if withinB r f = true then 0 else 5
theorem prot_yes (f n r : Int) (hf : f = 1 ∨ f = 2 ∨ f = 3) (hn : n = 1 ∨ n = 2 ∨ n = 3) (hr : r = 0 ∨ r = 1 ∨ r = 2 ∨ r = 3) (h : prE f r = 0) : kdo (prN f n) 0 8 3 r 0 0 = (prN f r, 0, 0, true) := by
  have e : (prN f n).setPte 0 3 ⟨0, 1, r⟩ = prN f r := setPte_twice _ _ _ _ _
  have g : kdo (prN f n) 0 8 3 r 0 0 = ((prN f n).setPte 0 3 ⟨0, 1, r⟩, 0, 0, true) := by
    clear e
    rcases hf with rfl | rfl | rfl <;> rcases hn with rfl | rfl | rfl <;> rcases hr with rfl | rfl | rfl | rfl
    all_goals
      first
        | exact absurd h (by decide)
        | kernel_rfl
  rw [g, e]
theorem prot_no (f n r : Int) (hf : f = 1 ∨ f = 2 ∨ f = 3) (hn : n = 1 ∨ n = 2 ∨ n = 3) (hr : r = 0 ∨ r = 1 ∨ r = 2 ∨ r = 3) (h : prE f r ≠ 0) : kdo (prN f n) 0 8 3 r 0 0 = (prN f n, prE f r, 0, true) := by
  rcases hf with rfl | rfl | rfl <;> rcases hn with rfl | rfl | rfl <;> rcases hr with rfl | rfl | rfl | rfl
  all_goals
    first
      | exact absurd (show prE _ _ = 0 by decide) h
      | kernel_rfl
theorem prot_load (f n : Int) (hf : f = 1 ∨ f = 2 ∨ f = 3) (hn : n = 1 ∨ n = 2 ∨ n = 3) (h : withinB 1 n = true) : kdo (prN f n) 0 20 3 0 0 0 = (prN f n, 0, 0, true) := by
  rcases hf with rfl | rfl | rfl <;> rcases hn with rfl | rfl | rfl
  all_goals
    first
      | exact absurd h (by decide)
      | kernel_rfl
theorem prot_store (f n : Int) (hf : f = 1 ∨ f = 2 ∨ f = 3) (hn : n = 1 ∨ n = 2 ∨ n = 3) (h : withinB 2 n = true) : kdo (prN f n) 0 21 3 0 0 0 = (prN f n, 0, 0, true) := by
  have e : (prN f n).setWord 0 0 0 = prN f n := setWord_same (by rcases hf with rfl | rfl | rfl <;> kernel_rfl)
  have g : kdo (prN f n) 0 21 3 0 0 0 = ((prN f n).setWord 0 0 0, 0, 0, true) := by
    clear e
    rcases hf with rfl | rfl | rfl <;> rcases hn with rfl | rfl | rfl
    all_goals
      first
        | exact absurd h (by decide)
        | kernel_rfl
  rw [g, e]
theorem prot_add (f n : Int) (hf : f = 1 ∨ f = 2 ∨ f = 3) (hn : n = 1 ∨ n = 2 ∨ n = 3) (h : withinB 3 n = true) : kdo (prN f n) 0 23 3 0 0 0 = (prN f n, 0, 0, true) := by
  have e : (prN f n).setWord 0 0 0 = prN f n := setWord_same (by rcases hf with rfl | rfl | rfl <;> kernel_rfl)
  have g : kdo (prN f n) 0 23 3 0 0 0 = ((prN f n).setWord 0 0 0, 0, 0, true) := by
    clear e
    rcases hf with rfl | rfl | rfl <;> rcases hn with rfl | rfl | rfl
    all_goals
      first
        | exact absurd h (by decide)
        | kernel_rfl
  rw [g, e]
theorem prot_fault (f n : Int) (hf : f = 1 ∨ f = 2 ∨ f = 3) (hn : n = 1 ∨ n = 2 ∨ n = 3) (u : Int) (hu : u = 20 ∨ u = 21 ∨ u = 23) (h : withinB (needN u) n = false) : kdo (prN f n) 0 u 3 0 0 0 = (prN f n, 7, 0, true) := by
  rcases hf with rfl | rfl | rfl <;> rcases hn with rfl | rfl | rfl <;> rcases hu with rfl | rfl | rfl
  all_goals
    first
      | exact absurd h (by decide)
      | kernel_rfl
theorem prot_pte (f n : Int) : (prN f n).pt 0 3 = ⟨0, 1, n⟩ := by kernel_rfl
theorem prot_envs (f n : Int) (hf : f = 1 ∨ f = 2 ∨ f = 3) : (prN f n).envs = 2 := by rcases hf with rfl | rfl | rfl <;> kernel_rfl
def slA : KernS := (kdo (newK 1 2 1) 0 1 4 0 0 0).1
def slB : KernS := (kdo slA 0 6 0 4 3 0).1
def slC (o : Nat) (v : Int) : KernS := (kdo slB 0 21 0 o v 0).1
def slD (o : Nat) (v : Int) : KernS := (kdo (slC o v) 0 2 4 5 2 0).1
theorem sleep_up : kdo (newK 1 2 1) 0 1 4 0 0 0 = (slA, 0, 0, true) ∧ kdo slA 0 6 0 4 3 0 = (slB, 0, 0, true) := by
  refine ⟨?_, ?_⟩ <;> kernel_rfl
theorem sleep_more (o : Nat) (ho : o < 16) (v : Int) : kdo slB 0 21 0 o v 0 = (slC o v, 0, 0, true) ∧ kdo (slC o v) 0 2 4 5 2 0 = (slD o v, 0, 0, true) := by
  rcases sixteen ho with rfl | rfl | rfl | rfl | rfl | rfl | rfl | rfl | rfl | rfl | rfl | rfl | rfl | rfl | rfl | rfl <;> (refine ⟨?_, ?_⟩ <;> kernel_rfl)
theorem sleep_any (o : Nat) (ho : o < 16) (op : Int) (hop : op = 1 ∨ op = 2 ∨ op = 3 ∨ op = 4) (v x : Int) : kdo (slC o v) 0 9 4 o op x = (if holdsB op v x = true then (slC o v, 0, v, true) else (slC o v, 0, 0, false)) ∧ kdo (slD o v) 0 9 5 o op x = (slD o v, 5, 0, true) ∧ kdo (slD o v) 0 9 6 o op x = (slD o v, 3, 0, true) := by
  rcases sixteen ho with rfl | rfl | rfl | rfl | rfl | rfl | rfl | rfl | rfl | rfl | rfl | rfl | rfl | rfl | rfl | rfl <;> rcases hop with rfl | rfl | rfl | rfl <;> (refine ⟨?_, ?_, ?_⟩ <;> kernel_rfl)
theorem sleep_yes (o : Nat) (ho : o < 16) (op : Int) (hop : op = 1 ∨ op = 2 ∨ op = 3 ∨ op = 4) (v x : Int) (h : holdsB op v x = true) : kdo (slC o v) 0 9 4 o op x = (slC o v, 0, v, true) := by
  rw [(sleep_any o ho op hop v x).1, if_pos h]
theorem sleep_wait (o : Nat) (ho : o < 16) (op : Int) (hop : op = 1 ∨ op = 2 ∨ op = 3 ∨ op = 4) (v x : Int) (h : holdsB op v x = false) : kdo (slC o v) 0 9 4 o op x = (slC o v, 0, 0, false) := by
  rw [(sleep_any o ho op hop v x).1, if_neg (by rw [h]; decide)]
end Go.Proofs.YtbmekfjcpdbapaaGreatDoor
