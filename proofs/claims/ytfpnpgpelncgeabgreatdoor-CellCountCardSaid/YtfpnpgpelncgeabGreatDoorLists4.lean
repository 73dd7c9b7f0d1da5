/- What is proved here: a slice of a cell's operations that reads as data is the slice nil or lies at an address whose cells, below the length, hold numbers of their kinds; a slice of bools likewise; and that they read behind a call as before where nothing below the old heap's end has turned. Conditions: those that each theorem names. -/
import Derived.Test.YtfpnpgpelncgeabGreatDoorSlices
import Derived.Deep.Slices
import Derived.Deep.Grids
import Derived.WalkArith
namespace Go.Proofs.YtfpnpgpelncgeabGreatDoor
open Go.ChangeShapes Go.WideShapes Go.RowKit Go.Joins Go.Deep

theorem u64_wf {n : Int} (h : 0 ≤ n ∧ n < 18446744073709551616) : (Lit.int .u64 n).wf = true := WalkArith.wf_u64 ⟨h.1, by omega⟩
/-- The slice nil, or one of a cell's operations that are there. -/
def CopsAt (W : World) (v : Value) : Prop :=
  v = .slice none 0 0 ∨ ∃ (a : Addr) (len cap : Nat) (z : Nat → Int × Int × Int), v = .slice (some a) len cap ∧ len ≤ cap ∧ cap ≤ maxLen ∧ ∀ i, i < len → (W.cell? (a.add (i * 3)) = some (.int .i64 (z i).1) ∧ W.cell? (a.add (i * 3 + 1)) = some (.int .u64 (z i).2.1) ∧ W.cell? (a.add (i * 3 + 2)) = some (.int .u64 (z i).2.2)) ∧ (Lit.int .u64 (z i).2.1).wf = true ∧ (Lit.int .u64 (z i).2.2).wf = true
/-- The slice nil, or one of bools that are there. -/
def BoolsAt (W : World) (v : Value) : Prop :=
  v = .slice none 0 0 ∨ ∃ (a : Addr) (len cap : Nat) (z : Nat → Bool), v = .slice (some a) len cap ∧ len ≤ cap ∧ cap ≤ maxLen ∧ ∀ i, i < len → W.cell? (a.add i) = some (.bool (z i))
set_option maxRecDepth 100000 in
theorem bools_open {H : Type} {enc : TypeId × Value → H} {W : World} {base : Nat} {v : Value} {d : DataW H} {p : List MemPlace}
    (h : DataW.Trod enc Tryz.prog W 0 (fun _ => true) true 62 v d p) (hv : Value.okWide Tryz.prog W .any base 62 v) : BoolsAt W v := by
  obtain ⟨a0, len0, cap0, rfl⟩ := okWide_slice Tryz.underlying62 hv
  obtain ⟨fuel, hf⟩ := h
  rcases open_bools Tryz.underlying62 Tryz.underlying4 (show Tryz.prog.cellsOf 4 = 1 by kernel_rfl) hf with ⟨hcs, _⟩ | ⟨a, len, cap, z, hcs, _, hl, hm, _, hcell⟩
  · exact Or.inl (List.singleton_inj.1 hcs)
  · exact Or.inr ⟨a, len, cap, z, List.singleton_inj.1 hcs, hl, hm, fun i hi => hcell i (by omega)⟩
theorem trod_bools {H : Type} {enc : TypeId × Value → H} {W W' : World} {v : Value} {d : DataW H} {p : List MemPlace} (h : DataW.Trod enc Tryz.prog W 0 (fun _ => true) true 62 v d p) (hb : Below W.heap.size W W') (hlt : ∀ x ∈ p, x.block < W.heap.size) :
    DataW.Trod enc Tryz.prog W' 0 (fun b => decide (b < W.heap.size)) true 62 v d p :=
  Below.trod Tryz.laidOut (by kernel_rfl) (of_decide_eq_true (by kernel_rfl)) h hb hlt
end Go.Proofs.YtfpnpgpelncgeabGreatDoor
