/- What is proved here: a slice of a Mail's operations that reads as data is the slice nil or lies at an address whose cells, below the length, hold numbers of their kinds; and that it reads behind a call as before where nothing below the old heap's end has turned. Conditions: those that each theorem names. -/
import Derived.Test.YtfpnpgpelncgeaaGreatDoorSlices
import Derived.Deep.Slices
namespace Go.Proofs.YtfpnpgpelncgeaaGreatDoor
open Go.ChangeShapes Go.WideShapes Go.RowKit Go.Joins Go.Deep

set_option maxRecDepth 100000 in
theorem mop_cells {H : Type} {enc : TypeId × Value → H} {W : World} {base fuel : Nat} {spare : Nat → Bool} {held : Bool} {cs : List Value} {x : DataW H × List MemPlace}
    (h : DataW.trod enc Tryz.prog W base spare held fuel 84 cs = some x) : ∃ f : Nat → Int, (Lit.int .u64 (f 3)).wf = true ∧ cs[3]? = some (.int .u64 (f 3)) ∧ ∀ j, j < 3 → cs[j]? = some (.int .i64 (f j)) := by
  obtain ⟨xs, n, _, _, hlen, hxl, hf⟩ := DataW.trod_struct Tryz.underlying84 h
  have hl : cs.length = 4 := hlen.trans (show Tryz.prog.cellsOf 84 = 4 by kernel_rfl)
  have hx : xs.length = 4 := hxl
  match xs, hx with
  | [y0, y1, y2, y3], _ =>
    match cs, hl with
    | [c0, c1, c2, c3], _ =>
      have e1 : Tryz.prog.cellsOf 3 = 1 := by kernel_rfl
      have e2 : Tryz.prog.cellsOf 22 = 1 := by kernel_rfl
      have h0 : DataW.trod enc Tryz.prog W base spare held n 3 (List.take (Tryz.prog.cellsOf 3) (List.drop 0 [c0, c1, c2, c3])) = some y0 := hf 0 _ rfl
      rw [e1] at h0
      obtain ⟨k0, g0, _⟩ := DataW.trod_int Tryz.underlying3 h0
      have r0 : c0 = .int .i64 k0 := by simpa using g0
      have h1 : DataW.trod enc Tryz.prog W base spare held n 3 (List.take (Tryz.prog.cellsOf 3) (List.drop 1 [c0, c1, c2, c3])) = some y1 := hf 1 _ rfl
      rw [e1] at h1
      obtain ⟨k1, g1, _⟩ := DataW.trod_int Tryz.underlying3 h1
      have r1 : c1 = .int .i64 k1 := by simpa using g1
      have h2 : DataW.trod enc Tryz.prog W base spare held n 3 (List.take (Tryz.prog.cellsOf 3) (List.drop 2 [c0, c1, c2, c3])) = some y2 := hf 2 _ rfl
      rw [e1] at h2
      obtain ⟨k2, g2, _⟩ := DataW.trod_int Tryz.underlying3 h2
      have r2 : c2 = .int .i64 k2 := by simpa using g2
      have h3 : DataW.trod enc Tryz.prog W base spare held n 22 (List.take (Tryz.prog.cellsOf 22) (List.drop 3 [c0, c1, c2, c3])) = some y3 := hf 3 _ rfl
      rw [e2] at h3
      obtain ⟨k3, g3, _, hw⟩ := DataW.trod_int Tryz.underlying22 h3
      have r3 : c3 = .int .u64 k3 := by simpa using g3
      subst r0 r1 r2 r3
      refine ⟨fun j => [k0, k1, k2, k3].getD j 0, hw, rfl, fun j hj => ?_⟩
      have hc : j = 0 ∨ j = 1 ∨ j = 2 := by omega
      rcases hc with rfl | rfl | rfl <;> rfl
/-- The slice nil, or one of a Mail's operations that are there. -/
def MopsAt (W : World) (v : Value) : Prop :=
  v = .slice none 0 0 ∨ ∃ (a : Addr) (len cap : Nat) (z : Nat → Nat → Int), v = .slice (some a) len cap ∧ len ≤ cap ∧ cap ≤ maxLen ∧ ∀ i, i < len → (Lit.int .u64 (z i 3)).wf = true ∧ W.cell? (a.add (i * 4 + 3)) = some (.int .u64 (z i 3)) ∧ ∀ j, j < 3 → W.cell? (a.add (i * 4 + j)) = some (.int .i64 (z i j))
set_option maxRecDepth 100000 in
theorem mops_open {H : Type} {enc : TypeId × Value → H} {W : World} {base : Nat} {v : Value} {d : DataW H} {p : List MemPlace}
    (h : DataW.Trod enc Tryz.prog W 0 (fun _ => true) true 79 v d p) (hv : Value.okWide Tryz.prog W .any base 79 v) : MopsAt W v := by
  obtain ⟨a0, len0, cap0, rfl⟩ := okWide_slice Tryz.underlying79 hv
  obtain ⟨fuel, hf⟩ := h
  have e6 : Tryz.prog.cellsOf 84 = 4 := by kernel_rfl
  rcases open_slice Tryz.underlying79 hf with ⟨hcs, _⟩ | ⟨a, len, cap, m, n, D, Pl, hcs, _, hl, hm, hmm, _, hi⟩
  · exact Or.inl (List.singleton_inj.1 hcs)
  · rw [if_pos rfl] at hmm
    have key : ∀ i, ∃ f : Nat → Int, i < len → (Lit.int .u64 (f 3)).wf = true ∧ W.cell? (a.add (i * 4 + 3)) = some (.int .u64 (f 3)) ∧ ∀ j, j < 3 → W.cell? (a.add (i * 4 + j)) = some (.int .i64 (f j)) := by
      intro i
      by_cases hil : i < len
      · obtain ⟨cs', hc, ht⟩ := hi i (by omega)
        rw [e6] at hc
        obtain ⟨_, _, hat⟩ := World.cells?_some hc
        obtain ⟨f, hw, hf3, hf'⟩ := mop_cells ht
        refine ⟨f, fun _ => ⟨hw, ?_, fun j hj => ?_⟩⟩
        · rw [← Go.Deep.add_add, hat 3 (by omega)]
          exact hf3
        · rw [← Go.Deep.add_add, hat j (by omega)]
          exact hf' j hj
      · exact ⟨fun _ => 0, fun h => absurd h hil⟩
    exact Or.inr ⟨a, len, cap, fun i => Classical.choose (key i), List.singleton_inj.1 hcs, hl, hm, fun i hil => Classical.choose_spec (key i) hil⟩
theorem trod_mops {H : Type} {enc : TypeId × Value → H} {W W' : World} {v : Value} {d : DataW H} {p : List MemPlace} (h : DataW.Trod enc Tryz.prog W 0 (fun _ => true) true 79 v d p) (hb : Below W.heap.size W W') (hlt : ∀ x ∈ p, x.block < W.heap.size) :
    DataW.Trod enc Tryz.prog W' 0 (fun b => decide (b < W.heap.size)) true 79 v d p :=
  Below.trod Tryz.laidOut (by kernel_rfl) (of_decide_eq_true (by kernel_rfl)) h hb hlt
/-- The slice nil, or one of words that are there and are words. -/
def WordsIn (W : World) (v : Value) : Prop :=
  v = .slice none 0 0 ∨ ∃ (a : Addr) (len cap : Nat) (z : Nat → Int), v = .slice (some a) len cap ∧ len ≤ cap ∧ cap ≤ maxLen ∧ ∀ i, i < len → W.cell? (a.add i) = some (.int .u64 (z i)) ∧ (Lit.int .u64 (z i)).wf = true
set_option maxRecDepth 100000 in
theorem wordsIn_open {H : Type} {enc : TypeId × Value → H} {W : World} {base : Nat} {v : Value} {d : DataW H} {p : List MemPlace}
    (h : DataW.Trod enc Tryz.prog W 0 (fun _ => true) true 53 v d p) (hv : Value.okWide Tryz.prog W .any base 53 v) : WordsIn W v := by
  obtain ⟨a0, len0, cap0, rfl⟩ := okWide_slice Tryz.underlying53 hv
  obtain ⟨fuel, hf⟩ := h
  rcases open_ints Tryz.underlying53 Tryz.underlying22 (show Tryz.prog.cellsOf 22 = 1 by kernel_rfl) hf with ⟨hcs, _⟩ | ⟨a, len, cap, zs, hcs, _, hl, hm, hzl, _, hcell, hwf⟩
  · exact Or.inl (List.singleton_inj.1 hcs)
  · have hz : zs.length = cap := by simpa using hzl
    refine Or.inr ⟨a, len, cap, fun i => zs.getD i 0, List.singleton_inj.1 hcs, hl, hm, fun i hi => ⟨hcell i (by omega), ?_⟩⟩
    have hg : zs.getD i 0 = zs[i]'(by omega) := by simp [List.getD, List.getElem?_eq_getElem (show i < zs.length by omega)]
    show (Lit.int .u64 (zs.getD i 0)).wf = true
    rw [hg]
    exact hwf _ (List.getElem_mem _)
theorem trod_wordsIn {H : Type} {enc : TypeId × Value → H} {W W' : World} {v : Value} {d : DataW H} {p : List MemPlace} (h : DataW.Trod enc Tryz.prog W 0 (fun _ => true) true 53 v d p) (hb : Below W.heap.size W W') (hlt : ∀ x ∈ p, x.block < W.heap.size) :
    DataW.Trod enc Tryz.prog W' 0 (fun b => decide (b < W.heap.size)) true 53 v d p :=
  Below.trod Tryz.laidOut (by kernel_rfl) (of_decide_eq_true (by kernel_rfl)) h hb hlt
end Go.Proofs.YtfpnpgpelncgeaaGreatDoor
