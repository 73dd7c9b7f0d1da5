/- What is proved here: a slice of ints that reads as data is the slice nil or lies at an address whose cells, below the length, hold ints. Conditions: those that the theorem names. -/
import Derived.Test.YtfpnpgpelncgeaaGreatDoorRow
import Derived.ChangeSlices
namespace Go.Proofs.YtfpnpgpelncgeaaGreatDoor
open Go.ChangeShapes Go.WideShapes Go.RowKit

def IntsAt (W : World) (v : Value) : Prop :=
  v = .slice none 0 0 ∨ ∃ (a : Addr) (len cap : Nat) (zs : List Int), v = .slice (some a) len cap ∧ len ≤ cap ∧ cap ≤ maxLen ∧ len ≤ zs.length ∧ ∀ i, i < len → W.cell? (a.add i) = some (.int .i64 (zs.getD i 0))

set_option maxRecDepth 100000 in
theorem ints_open {H : Type} {enc : TypeId × Value → H} {W : World} {base : Nat} {v : Value} {d : DataW H} {p : List MemPlace}
    (h : DataW.Trod enc Tryz.prog W 0 (fun _ => true) true 55 v d p) (hv : Value.okWide Tryz.prog W .any base 55 v) : IntsAt W v := by
  obtain ⟨a0, len0, cap0, rfl⟩ := okWide_slice Tryz.underlying55 hv
  obtain ⟨fuel, hf⟩ := h
  rcases open_ints Tryz.underlying55 Tryz.underlying3 (show Tryz.prog.cellsOf 3 = 1 by kernel_rfl) hf with ⟨hcs, _⟩ | ⟨a, len, cap, zs, hcs, _, hl, hm, hzl, _, hcell, _⟩
  · exact Or.inl (List.singleton_inj.1 hcs)
  · have hz : zs.length = cap := by simpa using hzl
    exact Or.inr ⟨a, len, cap, zs, List.singleton_inj.1 hcs, hl, hm, by omega, fun i hi => hcell i (by omega)⟩
end Go.Proofs.YtfpnpgpelncgeaaGreatDoor
