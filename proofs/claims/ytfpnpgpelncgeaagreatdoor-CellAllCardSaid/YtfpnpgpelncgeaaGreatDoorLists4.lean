/- What is proved here: a slice of a cell's operations that reads as data is the slice nil or lies at an address whose cells, below the length, hold numbers of their kinds; a slice of bools likewise; and that they read behind a call as before where nothing below the old heap's end has turned. Conditions: those that each theorem names. -/
import Derived.Test.YtfpnpgpelncgeaaGreatDoorSlices
import Derived.Deep.Slices
import Derived.Deep.Grids
import Derived.WalkArith
namespace Go.Proofs.YtfpnpgpelncgeaaGreatDoor
open Go.ChangeShapes Go.WideShapes Go.RowKit Go.Joins Go.Deep

theorem u64_wf {n : Int} (h : 0 ≤ n ∧ n < 18446744073709551616) : (Lit.int .u64 n).wf = true := WalkArith.wf_u64 ⟨h.1, by omega⟩
set_option maxRecDepth 100000 in
theorem cop_cells {H : Type} {enc : TypeId × Value → H} {W : World} {base fuel : Nat} {spare : Nat → Bool} {held : Bool} {cs : List Value} {x : DataW H × List MemPlace}
    (h : DataW.trod enc Tryz.prog W base spare held fuel 94 cs = some x) : ∃ k p q : Int, cs = [.int .i64 k, .int .u64 p, .int .u64 q] ∧ (Lit.int .u64 p).wf = true ∧ (Lit.int .u64 q).wf = true := by
  obtain ⟨xs, n, _, _, hlen, hxl, hf⟩ := DataW.trod_struct Tryz.underlying94 h
  have hl : cs.length = 3 := hlen.trans (show Tryz.prog.cellsOf 94 = 3 by kernel_rfl)
  have hx : xs.length = 3 := hxl
  match xs, hx with
  | [y0, y1, y2], _ =>
    match cs, hl with
    | [c0, c1, c2], _ =>
      have e1 : Tryz.prog.cellsOf 3 = 1 := by kernel_rfl
      have e2 : Tryz.prog.cellsOf 22 = 1 := by kernel_rfl
      have h0 : DataW.trod enc Tryz.prog W base spare held n 3 (List.take (Tryz.prog.cellsOf 3) (List.drop 0 [c0, c1, c2])) = some y0 := hf 0 _ rfl
      rw [e1] at h0
      obtain ⟨k0, g0, _⟩ := DataW.trod_int Tryz.underlying3 h0
      have r0 : c0 = .int .i64 k0 := by simpa using g0
      have h1 : DataW.trod enc Tryz.prog W base spare held n 22 (List.take (Tryz.prog.cellsOf 22) (List.drop 1 [c0, c1, c2])) = some y1 := hf 1 _ rfl
      rw [e2] at h1
      obtain ⟨k1, g1, _, w1⟩ := DataW.trod_int Tryz.underlying22 h1
      have r1 : c1 = .int .u64 k1 := by simpa using g1
      have h2 : DataW.trod enc Tryz.prog W base spare held n 22 (List.take (Tryz.prog.cellsOf 22) (List.drop 2 [c0, c1, c2])) = some y2 := hf 2 _ rfl
      rw [e2] at h2
      obtain ⟨k2, g2, _, w2⟩ := DataW.trod_int Tryz.underlying22 h2
      have r2 : c2 = .int .u64 k2 := by simpa using g2
      exact ⟨k0, k1, k2, by rw [r0, r1, r2], w1, w2⟩
/-- The slice nil, or one of a cell's operations that are there. -/
def CopsAt (W : World) (v : Value) : Prop :=
  v = .slice none 0 0 ∨ ∃ (a : Addr) (len cap : Nat) (z : Nat → Int × Int × Int), v = .slice (some a) len cap ∧ len ≤ cap ∧ cap ≤ maxLen ∧ ∀ i, i < len → (W.cell? (a.add (i * 3)) = some (.int .i64 (z i).1) ∧ W.cell? (a.add (i * 3 + 1)) = some (.int .u64 (z i).2.1) ∧ W.cell? (a.add (i * 3 + 2)) = some (.int .u64 (z i).2.2)) ∧ (Lit.int .u64 (z i).2.1).wf = true ∧ (Lit.int .u64 (z i).2.2).wf = true
set_option maxRecDepth 100000 in
theorem cops_open {H : Type} {enc : TypeId × Value → H} {W : World} {base : Nat} {v : Value} {d : DataW H} {p : List MemPlace}
    (h : DataW.Trod enc Tryz.prog W 0 (fun _ => true) true 90 v d p) (hv : Value.okWide Tryz.prog W .any base 90 v) : CopsAt W v := by
  obtain ⟨a0, len0, cap0, rfl⟩ := okWide_slice Tryz.underlying90 hv
  obtain ⟨fuel, hf⟩ := h
  have e6 : Tryz.prog.cellsOf 94 = 3 := by kernel_rfl
  rcases open_slice Tryz.underlying90 hf with ⟨hcs, _⟩ | ⟨a, len, cap, m, n, D, Pl, hcs, _, hl, hm, hmm, _, hi⟩
  · exact Or.inl (List.singleton_inj.1 hcs)
  · rw [if_pos rfl] at hmm
    have key : ∀ i, ∃ f : Int × Int × Int, i < len → (W.cell? (a.add (i * 3)) = some (.int .i64 f.1) ∧ W.cell? (a.add (i * 3 + 1)) = some (.int .u64 f.2.1) ∧ W.cell? (a.add (i * 3 + 2)) = some (.int .u64 f.2.2)) ∧ (Lit.int .u64 f.2.1).wf = true ∧ (Lit.int .u64 f.2.2).wf = true := by
      intro i
      by_cases hil : i < len
      · obtain ⟨cs', hc, ht⟩ := hi i (by omega)
        rw [e6] at hc
        obtain ⟨_, _, hat⟩ := World.cells?_some hc
        obtain ⟨k, p, q, rfl, w1, w2⟩ := cop_cells ht
        have a0 := hat 0 (by omega)
        have a1 := hat 1 (by omega)
        have a2 := hat 2 (by omega)
        rw [Go.Deep.add_add] at a0 a1 a2
        exact ⟨(k, p, q), fun _ => ⟨⟨a0, a1, a2⟩, w1, w2⟩⟩
      · exact ⟨(0, 0, 0), fun h => absurd h hil⟩
    exact Or.inr ⟨a, len, cap, fun i => Classical.choose (key i), List.singleton_inj.1 hcs, hl, hm, fun i hil => Classical.choose_spec (key i) hil⟩
theorem trod_cops {H : Type} {enc : TypeId × Value → H} {W W' : World} {v : Value} {d : DataW H} {p : List MemPlace} (h : DataW.Trod enc Tryz.prog W 0 (fun _ => true) true 90 v d p) (hb : Below W.heap.size W W') (hlt : ∀ x ∈ p, x.block < W.heap.size) :
    DataW.Trod enc Tryz.prog W' 0 (fun b => decide (b < W.heap.size)) true 90 v d p :=
  Below.trod Tryz.laidOut (by kernel_rfl) (of_decide_eq_true (by kernel_rfl)) h hb hlt
/-- The slice nil, or one of bools that are there. -/
def BoolsAt (W : World) (v : Value) : Prop :=
  v = .slice none 0 0 ∨ ∃ (a : Addr) (len cap : Nat) (z : Nat → Bool), v = .slice (some a) len cap ∧ len ≤ cap ∧ cap ≤ maxLen ∧ ∀ i, i < len → W.cell? (a.add i) = some (.bool (z i))
end Go.Proofs.YtfpnpgpelncgeaaGreatDoor
