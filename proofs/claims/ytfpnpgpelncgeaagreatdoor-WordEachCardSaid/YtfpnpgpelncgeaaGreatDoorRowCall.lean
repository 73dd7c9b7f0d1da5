/- What is proved here: the words of a call that comes in are words of 64 bits; a bool reads as before. Conditions: none. -/
import Derived.Test.YtfpnpgpelncgeaaGreatDoorRow
import Derived.Test.YtfpnpgpelncgeaaGreatDoorGParts
namespace Go.Proofs.YtfpnpgpelncgeaaGreatDoor
open Go.ChangeShapes Go.WideShapes Go.RowKit Go.Joins Go.Deep

section
variable {H : Type} {enc : TypeId × Value → H} {W W' : World} {v : Value} {d : DataW H} {p : List MemPlace}
theorem trod_bool (h : DataW.Trod enc Tryz.prog W 0 (fun _ => true) true 4 v d p) (hb : Below W.heap.size W W') (hlt : ∀ x ∈ p, x.block < W.heap.size) :
    DataW.Trod enc Tryz.prog W' 0 (fun b => decide (b < W.heap.size)) true 4 v d p :=
  Below.trod Tryz.laidOut (by kernel_rfl) (of_decide_eq_true (by kernel_rfl)) h hb hlt
set_option maxRecDepth 100000 in
theorem call_in {x0 x1 x2 x3 x4 : Int} (h : DataW.Trod enc Tryz.prog W 0 (fun _ => true) true 24 (callV x0 x1 x2 x3 x4) d p) : wordsIn x0 x1 x2 x3 x4 := by
  obtain ⟨fuel, hf⟩ := h
  obtain ⟨xs, m, _, _, _, _, hi⟩ := DataW.trod_array Tryz.underlying24 hf
  have hc : Tryz.prog.cellsOf 22 = 1 := by kernel_rfl
  have key : ∀ (i : Nat) (x : Int), i < 5 → (((callV x0 x1 x2 x3 x4).cells.toList.drop (i * 1)).take 1 = [.int .u64 x]) → xs[i]? ≠ none → 0 ≤ x ∧ x < 18446744073709551616 := by
    intro i x h5 hx hne
    have h1 := hi i h5
    rw [hc, hx] at h1
    cases hy : xs[i]? with
    | none => exact absurd hy hne
    | some y =>
      rw [hy] at h1
      obtain ⟨n, e, _, hw⟩ := DataW.trod_int Tryz.underlying22 h1
      injection e with e
      injection e with _ e
      subst e
      exact ⟨(bounds_u64 hw).1, Int.lt_of_le_of_lt (bounds_u64 hw).2 (by decide)⟩
  have hlen : xs.length = 5 := by assumption
  have hne : ∀ i, i < 5 → xs[i]? ≠ none := fun i h5 => by
    rw [List.getElem?_eq_getElem (by omega)]
    simp
  exact ⟨key 0 x0 (by omega) rfl (hne 0 (by omega)), key 1 x1 (by omega) rfl (hne 1 (by omega)), key 2 x2 (by omega) rfl (hne 2 (by omega)), key 3 x3 (by omega) rfl (hne 3 (by omega)), key 4 x4 (by omega) rfl (hne 4 (by omega))⟩
end
theorem each_in {x y x0 x1 x2 x3 : Int} (h : 0 ≤ x ∧ x < 18446744073709551616) (hw : wordsIn y x0 x1 x2 x3) : wordsIn x x0 x1 x2 x3 := ⟨h, hw.2⟩
end Go.Proofs.YtfpnpgpelncgeaaGreatDoor
