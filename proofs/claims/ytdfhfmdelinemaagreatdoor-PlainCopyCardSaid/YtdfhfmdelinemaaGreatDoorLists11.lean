/- What is proved here: slices of lines, of entries, of asks, of a tree's operations that come in lie at addresses whose cells hold numbers, or are empty; a size, an ask that comes in is one of numbers; each reads behind a call as before where nothing below the old heap's end has turned. Conditions: those that each theorem names. -/
import Derived.Test.YtdfhfmdelinemaaGreatDoorGRow
import Derived.Test.YtdfhfmdelinemaaGreatDoorGWord
import Derived.Test.YtdfhfmdelinemaaGreatDoorGParts
import Derived.Deep.Slices
import Derived.ChangeSlices
namespace Go.Proofs.YtdfhfmdelinemaaGreatDoor
open Go.ChangeShapes Go.WideShapes Go.RowKit Go.Joins Go.Deep
section
variable {H : Type} {enc : TypeId × Value → H} {W W' : World} {base fuel : Nat} {spare : Nat → Bool} {held : Bool} {cs : List Value} {x : DataW H × List MemPlace} {v : Value} {d : DataW H} {p : List MemPlace}
set_option maxRecDepth 100000 in
theorem recs_open {TS TE : TypeId} {m : Nat} (hu : Tryz.prog.underlying TS = some (.slice TE)) (hC : Tryz.prog.cellsOf TE = m) (h : DataW.Trod enc Tryz.prog W 0 (fun _ => true) true TS v d p) (hv : Value.okWide Tryz.prog W .any base TS v) :
  ∃ (ao : Option Addr) (a : Addr) (len cap : Nat), v = .slice ao len cap ∧ (0 < len → ao = some a) ∧ ∀ i, i < len → ∃ fuel cs x, DataW.trod enc Tryz.prog W 0 (fun _ => true) true fuel TE cs = some x ∧ ∀ j, j < m → W.cell? (a.add (i * m + j)) = cs[j]? := by
 obtain ⟨a0, len0, cap0, rfl⟩ := okWide_slice hu hv
 obtain ⟨fuel, hf⟩ := h
 rcases open_slice hu hf with ⟨hcs, _⟩ | ⟨a, len, cap, k, n, D, Pl, hcs, _, hl, hm, hmm, _, hi⟩
 ·refine ⟨none, ⟨0, 0, none⟩, 0, 0, List.singleton_inj.1 hcs, fun h => absurd h (by omega), fun i h => absurd h (by omega)⟩
 ·rw [if_pos rfl] at hmm
  refine ⟨some a, a, len, cap, List.singleton_inj.1 hcs, fun _ => rfl, fun i hil => ?_⟩
  obtain ⟨cs', hc, ht⟩ := hi i (by omega)
  rw [hC] at hc
  obtain ⟨_, _, hat⟩ := World.cells?_some hc
  exact ⟨n, cs', _, ht, fun j hj => by rw [← Go.Deep.add_add, hat j hj]⟩
theorem rec_at {a : Addr} {i m j : Nat} (hj : 0 < j) {u : Option Value} (h : W.cell? (a.add (i * m + j)) = u) : W.cell? ⟨(a.add (i * m)).block, (a.add (i * m)).off + j, none⟩ = u := by
 rw [ln_off a (i * m) j hj]
 exact h
set_option maxRecDepth 100000 in
theorem word_of {x0 : Int} {n : Nat} {y : DataW H × List MemPlace} (h : DataW.trod enc Tryz.prog W base spare held n 34 [.int .u64 x0] = some y) : 0 ≤ x0 ∧ x0 < 18446744073709551616 := by
 obtain ⟨m, e, _, hw⟩ := DataW.trod_int Tryz.underlying34 h
 have e : [Value.int .u64 x0] = [Value.int .u64 m] := e
 injection e with e
 injection e with _ e
 subst e
 exact ⟨(bounds_u64 hw).1, Int.lt_of_le_of_lt (bounds_u64 hw).2 (by decide)⟩
end
end Go.Proofs.YtdfhfmdelinemaaGreatDoor

