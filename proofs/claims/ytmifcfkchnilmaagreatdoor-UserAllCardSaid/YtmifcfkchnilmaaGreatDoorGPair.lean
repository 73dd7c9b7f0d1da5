/- What is proved here: kernels of package plain and the document's side by side. Conditions: those that each theorem names. -/
import Derived.Test.YtmifcfkchnilmaaGreatDoorGTree
import Derived.Test.YtmifcfkchnilmaaGreatDoorGTreeB
import Derived.RegionTactic
import Derived.WalkArith
import Derived.Deep.QuietTactic
import Derived.BigQuiet
import Derived.Test.YtmifcfkchnilmaaGreatDoorGKerE
import Derived.StillTailTactics
namespace Go.Proofs.YtmifcfkchnilmaaGreatDoor
open Go.RowKit Go.Extern.Stop Go.Stop Go.Extern Go.WalkArith
def PairAt (At : World → (Nat → Prop) → Nat → KernS → Prop) (w : World) (S : Nat → Prop) (P K : Nat) (k : KernS) (W : World) : Prop := At W S P k ∧ KernIs W K k ∧ Below w.heap.size w W
section
variable {At : World → (Nat → Prop) → Nat → KernS → Prop} {w W W' : World} {S : Nat → Prop} {P K : Nat} {k : KernS}
theorem PairAt.under (H : PlainC At) (h : PairAt At w S P K k W) (hb : Below W.heap.size W W') : PairAt At w S P K k W' :=
  ⟨H.foot _ _ _ _ _ h.1 hb.size fun i hi => hb.block i (H.low _ _ _ _ h.1 i hi), h.2.1.later hb, bl_trans h.2.2 hb⟩
end
end Go.Proofs.YtmifcfkchnilmaaGreatDoor
namespace Go.Proofs.YtmifcfkchnilmaaGreatDoor
open Go.RowKit Go.Extern.Stop Go.Stop Go.Extern Go.WalkArith
section
variable {At : World → (Nat → Prop) → Nat → KernS → Prop} {w W W' : World} {S : Nat → Prop} {P K : Nat} {k : KernS}
end
end Go.Proofs.YtmifcfkchnilmaaGreatDoor
namespace Go.Proofs.YtmifcfkchnilmaaGreatDoor
open Go.RowKit Go.Extern.Stop Go.Stop Go.Extern Go.WalkArith
section
variable {At : World → (Nat → Prop) → Nat → KernS → Prop} {H : PlainC At} {w W W' : World} {S : Nat → Prop} {P K : Nat} {k k' : KernS} {l1 l2 : List Thing}
theorem Side.tail {o : Thing} {l : List Thing} (h : Side w W (o :: l)) : Side w W l := h.2.2.2
end
end Go.Proofs.YtmifcfkchnilmaaGreatDoor
namespace Go.Proofs.YtmifcfkchnilmaaGreatDoor
open Go.RowKit Go.Extern.Stop Go.Stop Go.Extern Go.WalkArith
structure AskAt (W : World) (b : Addr) (e x0 x1 x2 x3 x4 : Int) : Prop where
  env : W.cell? b = some (.int .i64 e)
  a0 : W.cell? ⟨b.block, b.off + 1, none⟩ = some (.int .u64 x0)
  a1 : W.cell? ⟨b.block, b.off + 2, none⟩ = some (.int .u64 x1)
  a2 : W.cell? ⟨b.block, b.off + 3, none⟩ = some (.int .u64 x2)
  a3 : W.cell? ⟨b.block, b.off + 4, none⟩ = some (.int .u64 x3)
  a4 : W.cell? ⟨b.block, b.off + 5, none⟩ = some (.int .u64 x4)
  words : wordsIn x0 x1 x2 x3 x4
theorem AskAt.later {W W' : World} {b : Addr} {e x0 x1 x2 x3 x4 : Int} (h : AskAt W b e x0 x1 x2 x3 x4) (hb : Below W.heap.size W W') : AskAt W' b e x0 x1 x2 x3 x4 := by
  have hl : b.block < W.heap.size := World.block_lt_of_cell? _ _ h.env
  exact ⟨(hb.cell (p := b) hl).trans h.env, (hb.cell (p := ⟨b.block, _, none⟩) hl).trans h.a0, (hb.cell (p := ⟨b.block, _, none⟩) hl).trans h.a1, (hb.cell (p := ⟨b.block, _, none⟩) hl).trans h.a2, (hb.cell (p := ⟨b.block, _, none⟩) hl).trans h.a3, (hb.cell (p := ⟨b.block, _, none⟩) hl).trans h.a4, h.words⟩
def AsksAt (W : World) (ao : Option Addr) (a : Addr) (len : Nat) : Prop := (0 < len → ao = some a) ∧ ∀ i, i < len → ∃ e x0 x1 x2 x3 x4, AskAt W (a.add (i * 6)) e x0 x1 x2 x3 x4
theorem AsksAt.later {W W' : World} {ao : Option Addr} {a : Addr} {len : Nat} (h : AsksAt W ao a len) (hb : Below W.heap.size W W') : AsksAt W' ao a len :=
  ⟨h.1, fun i hi => by obtain ⟨e, x0, x1, x2, x3, x4, ha⟩ := h.2 i hi; exact ⟨e, x0, x1, x2, x3, x4, ha.later hb⟩⟩
end Go.Proofs.YtmifcfkchnilmaaGreatDoor
namespace Go.Proofs.YtmifcfkchnilmaaGreatDoor
open Go.RowKit Go.Stop Go.Extern.Stop Go.Extern Go.WalkArith
theorem tnear (x : Int) (n : Int) (h : 0 < n) : -n < x.tmod n ∧ x.tmod n < n := by
  refine ⟨?_, Int.tmod_lt_of_pos x h⟩
  rcases Int.lt_or_le x 0 with hx | hx
  · have := Int.tmod_lt_of_pos (-x) h
    rw [Int.neg_tmod] at this
    omega
  · have := Int.tmod_nonneg n hx
    omega
theorem tupm (x : Int) (n : Int) (h : 0 < n) : 0 ≤ (x.tmod n + n).tmod n ∧ (x.tmod n + n).tmod n < n := by
  have h1 := tnear x n h
  exact ⟨Int.tmod_nonneg n (by omega), Int.tmod_lt_of_pos _ h⟩
theorem u64_small (n : Nat) (h : n < 1000) : IntKind.u64.wrap (n : Int) = (n : Int) := by
  have : IntKind.u64.wrap (n : Int) = (n : Int) % 18446744073709551616 := by
    simp [IntKind.wrap, IntKind.signed, IntKind.bits]
  omega
end Go.Proofs.YtmifcfkchnilmaaGreatDoor
