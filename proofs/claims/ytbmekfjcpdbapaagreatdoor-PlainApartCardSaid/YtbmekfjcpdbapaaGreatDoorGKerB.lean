/- What is proved here: the document's plain kernel: calls that may not be, yields, derivations, maps, loads and stores. Conditions: those that each theorem names. -/
import Derived.Test.YtbmekfjcpdbapaaGreatDoorGKer
namespace Go.Proofs.YtbmekfjcpdbapaaGreatDoor
open Go.RowKit Go.Extern.Stop Go.Stop Go.Extern Go.WalkArith
def ReadAt (C K : Nat) (x0 x1 x2 x3 x4 envs : Int) (w : World) : Prop :=
  w.cell? ⟨C, 0, none⟩ = some (.int .u64 x0) ∧ w.cell? ⟨C, 1, none⟩ = some (.int .u64 x1) ∧ w.cell? ⟨C, 2, none⟩ = some (.int .u64 x2) ∧ w.cell? ⟨C, 3, none⟩ = some (.int .u64 x3) ∧ w.cell? ⟨C, 4, none⟩ = some (.int .u64 x4) ∧ w.cell? ⟨K, 1, none⟩ = some (.int .i64 envs)
theorem DoAt.read {w w1 : World} {K C R : Nat} {k : KernS} {x0 x1 x2 x3 x4 : Int} (h : DoAt w w1 K C R k x0 x1 x2 x3 x4) : ReadAt C K x0 x1 x2 x3 x4 k.envs w1 :=
  ⟨bk_cell h.call 0, bk_cell h.call 1, bk_cell h.call 2, bk_cell h.call 3, bk_cell h.call 4, h.ker.sizes.2.1⟩
end Go.Proofs.YtbmekfjcpdbapaaGreatDoor
namespace Go.Proofs.YtbmekfjcpdbapaaGreatDoor
open Go.RowKit Go.Extern.Stop Go.Stop Go.Extern Go.WalkArith
end Go.Proofs.YtbmekfjcpdbapaaGreatDoor
namespace Go.Proofs.YtbmekfjcpdbapaaGreatDoor
open Go.RowKit Go.Extern.Stop Go.Stop Go.Extern Go.WalkArith
end Go.Proofs.YtbmekfjcpdbapaaGreatDoor
