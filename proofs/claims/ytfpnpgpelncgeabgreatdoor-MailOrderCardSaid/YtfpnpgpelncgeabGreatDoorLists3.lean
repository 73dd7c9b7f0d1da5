/- What is proved here: a slice of a Mail's operations that reads as data is the slice nil or lies at an address whose cells, below the length, hold numbers of their kinds; and that it reads behind a call as before where nothing below the old heap's end has turned. Conditions: those that each theorem names. -/
import Derived.Test.YtfpnpgpelncgeabGreatDoorSlices
import Derived.Deep.Slices
namespace Go.Proofs.YtfpnpgpelncgeabGreatDoor
open Go.ChangeShapes Go.WideShapes Go.RowKit Go.Joins Go.Deep

/-- The slice nil, or one of a Mail's operations that are there. -/
def MopsAt (W : World) (v : Value) : Prop :=
  v = .slice none 0 0 ∨ ∃ (a : Addr) (len cap : Nat) (z : Nat → Nat → Int), v = .slice (some a) len cap ∧ len ≤ cap ∧ cap ≤ maxLen ∧ ∀ i, i < len → (Lit.int .u64 (z i 3)).wf = true ∧ W.cell? (a.add (i * 4 + 3)) = some (.int .u64 (z i 3)) ∧ ∀ j, j < 3 → W.cell? (a.add (i * 4 + j)) = some (.int .i64 (z i j))
/-- The slice nil, or one of words that are there and are words. -/
def WordsIn (W : World) (v : Value) : Prop :=
  v = .slice none 0 0 ∨ ∃ (a : Addr) (len cap : Nat) (z : Nat → Int), v = .slice (some a) len cap ∧ len ≤ cap ∧ cap ≤ maxLen ∧ ∀ i, i < len → W.cell? (a.add i) = some (.int .u64 (z i)) ∧ (Lit.int .u64 (z i)).wf = true
set_option maxRecDepth 100000 in
theorem wordsIn_open {H : Type} {enc : TypeId × Value → H} {W : World} {base : Nat} {v : Value} {d : DataW H} {p : List MemPlace}
    (h : DataW.Trod enc Tryz.prog W 0 (fun _ => true) true 55 v d p) (hv : Value.okWide Tryz.prog W .any base 55 v) : WordsIn W v := by
  obtain ⟨a0, len0, cap0, rfl⟩ := okWide_slice Tryz.underlying55 hv
  obtain ⟨fuel, hf⟩ := h
  rcases open_ints Tryz.underlying55 Tryz.underlying26 (show Tryz.prog.cellsOf 26 = 1 by kernel_rfl) hf with ⟨hcs, _⟩ | ⟨a, len, cap, zs, hcs, _, hl, hm, hzl, _, hcell, hwf⟩
  · exact Or.inl (List.singleton_inj.1 hcs)
  · have hz : zs.length = cap := by simpa using hzl
    refine Or.inr ⟨a, len, cap, fun i => zs.getD i 0, List.singleton_inj.1 hcs, hl, hm, fun i hi => ⟨hcell i (by omega), ?_⟩⟩
    have hg : zs.getD i 0 = zs[i]'(by omega) := by simp [List.getD, List.getElem?_eq_getElem (show i < zs.length by omega)]
    show (Lit.int .u64 (zs.getD i 0)).wf = true
    rw [hg]
    exact hwf _ (List.getElem_mem _)
theorem trod_wordsIn {H : Type} {enc : TypeId × Value → H} {W W' : World} {v : Value} {d : DataW H} {p : List MemPlace} (h : DataW.Trod enc Tryz.prog W 0 (fun _ => true) true 55 v d p) (hb : Below W.heap.size W W') (hlt : ∀ x ∈ p, x.block < W.heap.size) :
    DataW.Trod enc Tryz.prog W' 0 (fun b => decide (b < W.heap.size)) true 55 v d p :=
  Below.trod Tryz.laidOut (by kernel_rfl) (of_decide_eq_true (by kernel_rfl)) h hb hlt
end Go.Proofs.YtfpnpgpelncgeabGreatDoor
