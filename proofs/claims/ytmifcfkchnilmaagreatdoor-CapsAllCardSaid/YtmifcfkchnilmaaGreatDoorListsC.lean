/- What is proved here: a slice of a tree's operations that comes in lies at an address whose cells hold numbers, or is empty; and reads behind a call as before. Conditions: those that each theorem names. -/
import Derived.Test.YtmifcfkchnilmaaGreatDoorLists11
import Derived.Test.YtmifcfkchnilmaaGreatDoorCapsAll
namespace Go.Proofs.YtmifcfkchnilmaaGreatDoor
open Go.ChangeShapes Go.WideShapes Go.RowKit Go.Joins Go.Deep
set_option maxRecDepth 100000 in
theorem kops_open {H : Type} {enc : TypeId × Value → H} {W : World} {base : Nat} {v : Value} {d : DataW H} {p : List MemPlace} (h : DataW.Trod enc Tryz.prog W 0 (fun _ => true) true 22 v d p) (hv : Value.okWide Tryz.prog W .any base 22 v) :
    ∃ (ao : Option Addr) (a : Addr) (len cap : Nat), v = .slice ao len cap ∧ KopsAt W ao a len := by
  obtain ⟨ao, a, len, cap, rfl, hao, hi⟩ := recs_open (m := 7) Tryz.underlying22 (by kernel_rfl) h hv
  refine ⟨ao, a, len, cap, rfl, hao, fun i hil => ?_⟩
  obtain ⟨fuel, cs, x, ht, hc⟩ := hi i hil
  have hk := ints_of_rec Tryz.underlying31 (k := 7) (by kernel_rfl) (by kernel_rfl) ht
  obtain ⟨n0, h0⟩ := hk 0 (by omega)
  obtain ⟨n1, h1⟩ := hk 1 (by omega)
  obtain ⟨n2, h2⟩ := hk 2 (by omega)
  obtain ⟨n3, h3⟩ := hk 3 (by omega)
  obtain ⟨n4, h4⟩ := hk 4 (by omega)
  obtain ⟨n5, h5⟩ := hk 5 (by omega)
  obtain ⟨n6, h6⟩ := hk 6 (by omega)
  exact ⟨n0, n1, n2, n3, n4, n5, n6, (hc 0 (by omega)).trans h0, rec_at (by omega) ((hc 1 (by omega)).trans h1), rec_at (by omega) ((hc 2 (by omega)).trans h2), rec_at (by omega) ((hc 3 (by omega)).trans h3), rec_at (by omega) ((hc 4 (by omega)).trans h4), rec_at (by omega) ((hc 5 (by omega)).trans h5), rec_at (by omega) ((hc 6 (by omega)).trans h6)⟩
theorem trod_kops {H : Type} {enc : TypeId × Value → H} {W W' : World} {v : Value} {d : DataW H} {p : List MemPlace} (h : DataW.Trod enc Tryz.prog W 0 (fun _ => true) true 22 v d p) (hb : Below W.heap.size W W') (hlt : ∀ x ∈ p, x.block < W.heap.size) :
    DataW.Trod enc Tryz.prog W' 0 (fun b => decide (b < W.heap.size)) true 22 v d p :=
  Below.trod Tryz.laidOut (by kernel_rfl) (of_decide_eq_true (by kernel_rfl)) h hb hlt
end Go.Proofs.YtmifcfkchnilmaaGreatDoor

