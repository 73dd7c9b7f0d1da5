/- What is proved here: what it is that a line, an entry lies at an address, and that it lies there later, too. Conditions: none. -/
import Derived.Test.YtmifcfkchnilmaaGreatDoorGParts
namespace Go.Proofs.YtmifcfkchnilmaaGreatDoor
open Go.RowKit Go.Extern.Stop Go.Stop Go.Extern Go.WalkArith
structure LnAt (W : World) (b : Addr) (e p f r : Int) : Prop where
  c0 : W.cell? b = some (.int .i64 e)
  c1 : W.cell? ⟨b.block, b.off + 1, none⟩ = some (.int .i64 p)
  c2 : W.cell? ⟨b.block, b.off + 2, none⟩ = some (.int .i64 f)
  c3 : W.cell? ⟨b.block, b.off + 3, none⟩ = some (.int .i64 r)
structure PtAt (W : World) (b : Addr) (f s r : Int) : Prop where
  c0 : W.cell? b = some (.int .i64 f)
  c1 : W.cell? ⟨b.block, b.off + 1, none⟩ = some (.int .i64 s)
  c2 : W.cell? ⟨b.block, b.off + 2, none⟩ = some (.int .i64 r)
theorem LnAt.later {W W' : World} {b : Addr} {e p f r : Int} (h : LnAt W b e p f r) (hb : Below W.heap.size W W') : LnAt W' b e p f r := by
  have hl : b.block < W.heap.size := World.block_lt_of_cell? _ _ h.c0
  exact ⟨(hb.cell (p := b) hl).trans h.c0, (hb.cell (p := ⟨b.block, _, none⟩) hl).trans h.c1, (hb.cell (p := ⟨b.block, _, none⟩) hl).trans h.c2, (hb.cell (p := ⟨b.block, _, none⟩) hl).trans h.c3⟩
theorem PtAt.later {W W' : World} {b : Addr} {f s r : Int} (h : PtAt W b f s r) (hb : Below W.heap.size W W') : PtAt W' b f s r := by
  have hl : b.block < W.heap.size := World.block_lt_of_cell? _ _ h.c0
  exact ⟨(hb.cell (p := b) hl).trans h.c0, (hb.cell (p := ⟨b.block, _, none⟩) hl).trans h.c1, (hb.cell (p := ⟨b.block, _, none⟩) hl).trans h.c2⟩
def LnsAt (W : World) (ao : Option Addr) (a : Addr) (len : Nat) : Prop := (0 < len → ao = some a) ∧ ∀ i, i < len → ∃ e p f r, LnAt W (a.add (i * 4)) e p f r
def PtsAt (W : World) (ao : Option Addr) (a : Addr) (len : Nat) : Prop := (0 < len → ao = some a) ∧ ∀ i, i < len → ∃ f s r, PtAt W (a.add (i * 3)) f s r
end Go.Proofs.YtmifcfkchnilmaaGreatDoor

