/- What is proved here: slices of lines and of entries that come in lie at addresses whose cells hold numbers, or are empty; and read behind a call as before. Conditions: those that each theorem names. -/
import Derived.Test.YtmifcfkchnilmaaGreatDoorLists11
import Derived.Test.YtmifcfkchnilmaaGreatDoorLnAt
namespace Go.Proofs.YtmifcfkchnilmaaGreatDoor
open Go.ChangeShapes Go.WideShapes Go.RowKit Go.Joins Go.Deep
set_option maxRecDepth 100000 in
theorem lns_open {H : Type} {enc : TypeId × Value → H} {W : World} {base : Nat} {v : Value} {d : DataW H} {p : List MemPlace} (h : DataW.Trod enc Tryz.prog W 0 (fun _ => true) true 65 v d p) (hv : Value.okWide Tryz.prog W .any base 65 v) :
    ∃ (ao : Option Addr) (a : Addr) (len cap : Nat), v = .slice ao len cap ∧ LnsAt W ao a len := by
  obtain ⟨ao, a, len, cap, rfl, hao, hi⟩ := recs_open (m := 4) Tryz.underlying65 (by kernel_rfl) h hv
  refine ⟨ao, a, len, cap, rfl, hao, fun i hil => ?_⟩
  obtain ⟨fuel, cs, x, ht, hc⟩ := hi i hil
  have hk := ints_of_rec Tryz.underlying78 (k := 4) (by kernel_rfl) (by kernel_rfl) ht
  obtain ⟨n0, h0⟩ := hk 0 (by omega)
  obtain ⟨n1, h1⟩ := hk 1 (by omega)
  obtain ⟨n2, h2⟩ := hk 2 (by omega)
  obtain ⟨n3, h3⟩ := hk 3 (by omega)
  exact ⟨n0, n1, n2, n3, (hc 0 (by omega)).trans h0, rec_at (by omega) ((hc 1 (by omega)).trans h1), rec_at (by omega) ((hc 2 (by omega)).trans h2), rec_at (by omega) ((hc 3 (by omega)).trans h3)⟩
set_option maxRecDepth 100000 in
theorem pts_open {H : Type} {enc : TypeId × Value → H} {W : World} {base : Nat} {v : Value} {d : DataW H} {p : List MemPlace} (h : DataW.Trod enc Tryz.prog W 0 (fun _ => true) true 66 v d p) (hv : Value.okWide Tryz.prog W .any base 66 v) :
    ∃ (ao : Option Addr) (a : Addr) (len cap : Nat), v = .slice ao len cap ∧ PtsAt W ao a len := by
  obtain ⟨ao, a, len, cap, rfl, hao, hi⟩ := recs_open (m := 3) Tryz.underlying66 (by kernel_rfl) h hv
  refine ⟨ao, a, len, cap, rfl, hao, fun i hil => ?_⟩
  obtain ⟨fuel, cs, x, ht, hc⟩ := hi i hil
  have hk := ints_of_rec Tryz.underlying39 (k := 3) (by kernel_rfl) (by kernel_rfl) ht
  obtain ⟨n0, h0⟩ := hk 0 (by omega)
  obtain ⟨n1, h1⟩ := hk 1 (by omega)
  obtain ⟨n2, h2⟩ := hk 2 (by omega)
  exact ⟨n0, n1, n2, (hc 0 (by omega)).trans h0, rec_at (by omega) ((hc 1 (by omega)).trans h1), rec_at (by omega) ((hc 2 (by omega)).trans h2)⟩
theorem trod_lines {H : Type} {enc : TypeId × Value → H} {W W' : World} {v : Value} {d : DataW H} {p : List MemPlace} (h : DataW.Trod enc Tryz.prog W 0 (fun _ => true) true 65 v d p) (hb : Below W.heap.size W W') (hlt : ∀ x ∈ p, x.block < W.heap.size) :
    DataW.Trod enc Tryz.prog W' 0 (fun b => decide (b < W.heap.size)) true 65 v d p :=
  Below.trod Tryz.laidOut (by kernel_rfl) (of_decide_eq_true (by kernel_rfl)) h hb hlt
theorem trod_ptes {H : Type} {enc : TypeId × Value → H} {W W' : World} {v : Value} {d : DataW H} {p : List MemPlace} (h : DataW.Trod enc Tryz.prog W 0 (fun _ => true) true 66 v d p) (hb : Below W.heap.size W W') (hlt : ∀ x ∈ p, x.block < W.heap.size) :
    DataW.Trod enc Tryz.prog W' 0 (fun b => decide (b < W.heap.size)) true 66 v d p :=
  Below.trod Tryz.laidOut (by kernel_rfl) (of_decide_eq_true (by kernel_rfl)) h hb hlt
end Go.Proofs.YtmifcfkchnilmaaGreatDoor

