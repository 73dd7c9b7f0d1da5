/- What is proved here: a slice of a buffer's operations, or of lines, that reads as data is the slice nil or lies at an address whose cells, below the length, hold numbers; and that it reads behind a call as before where nothing below the old heap's end has turned. Conditions: those that each theorem names. -/
import Derived.Test.YtfpnpgpelncgeaaGreatDoorSlices
import Derived.Deep.Slices
namespace Go.Proofs.YtfpnpgpelncgeaaGreatDoor
open Go.ChangeShapes Go.WideShapes Go.RowKit Go.Joins Go.Deep

set_option maxRecDepth 100000 in
theorem line_four {H : Type} {enc : TypeId × Value → H} {W : World} {base fuel : Nat} {spare : Nat → Bool} {held : Bool} {cs : List Value} {x : DataW H × List MemPlace}
    (h : DataW.trod enc Tryz.prog W base spare held fuel 65 cs = some x) : ∃ k0 k1 k2 k3 : Int, cs = [.int .i64 k0, .int .i64 k1, .int .i64 k2, .int .i64 k3] := by
  obtain ⟨xs, n, _, _, hlen, hxl, hf⟩ := DataW.trod_struct Tryz.underlying65 h
  have hl : cs.length = 4 := hlen.trans (show Tryz.prog.cellsOf 65 = 4 by kernel_rfl)
  have hx : xs.length = 4 := hxl
  match xs, hx with
  | [y0, y1, y2, y3], _ =>
    match cs, hl with
    | [c0, c1, c2, c3], _ =>
      have e1 : Tryz.prog.cellsOf 3 = 1 := by kernel_rfl
      have h0 : DataW.trod enc Tryz.prog W base spare held n 3 (List.take (Tryz.prog.cellsOf 3) (List.drop 0 [c0, c1, c2, c3])) = some y0 := hf 0 _ rfl
      rw [e1] at h0
      obtain ⟨k0, g0, _⟩ := DataW.trod_int Tryz.underlying3 h0
      have r0 : c0 = .int .i64 k0 := by simpa using g0
      have h1 : DataW.trod enc Tryz.prog W base spare held n 3 (List.take (Tryz.prog.cellsOf 3) (List.drop 1 [c0, c1, c2, c3])) = some y1 := hf 1 _ rfl
      rw [e1] at h1
      obtain ⟨k1, g1, _⟩ := DataW.trod_int Tryz.underlying3 h1
      have r1 : c1 = .int .i64 k1 := by simpa using g1
      have h2 : DataW.trod enc Tryz.prog W base spare held n 3 (List.take (Tryz.prog.cellsOf 3) (List.drop 2 [c0, c1, c2, c3])) = some y2 := hf 2 _ rfl
      rw [e1] at h2
      obtain ⟨k2, g2, _⟩ := DataW.trod_int Tryz.underlying3 h2
      have r2 : c2 = .int .i64 k2 := by simpa using g2
      have h3 : DataW.trod enc Tryz.prog W base spare held n 3 (List.take (Tryz.prog.cellsOf 3) (List.drop 3 [c0, c1, c2, c3])) = some y3 := hf 3 _ rfl
      rw [e1] at h3
      obtain ⟨k3, g3, _⟩ := DataW.trod_int Tryz.underlying3 h3
      have r3 : c3 = .int .i64 k3 := by simpa using g3
      subst r0 r1 r2 r3
      exact ⟨k0, k1, k2, k3, rfl⟩
set_option maxRecDepth 100000 in
theorem line_cells {H : Type} {enc : TypeId × Value → H} {W : World} {base fuel : Nat} {spare : Nat → Bool} {held : Bool} {cs : List Value} {x : DataW H × List MemPlace}
    (h : DataW.trod enc Tryz.prog W base spare held fuel 65 cs = some x) : ∃ f : Nat → Int, ∀ j, j < 4 → cs[j]? = some (.int .i64 (f j)) := by
  obtain ⟨k0, k1, k2, k3, rfl⟩ := line_four h
  refine ⟨fun j => [k0, k1, k2, k3].getD j 0, fun j hj => ?_⟩
  have hc : j = 0 ∨ j = 1 ∨ j = 2 ∨ j = 3 := by omega
  rcases hc with rfl | rfl | rfl | rfl <;> rfl
set_option maxRecDepth 100000 in
theorem buf_cells {H : Type} {enc : TypeId × Value → H} {W : World} {base fuel : Nat} {spare : Nat → Bool} {held : Bool} {cs : List Value} {x : DataW H × List MemPlace}
    (h : DataW.trod enc Tryz.prog W base spare held fuel 67 cs = some x) : ∃ f : Nat → Int, ∀ j, j < 7 → cs[j]? = some (.int .i64 (f j)) := by
  obtain ⟨xs, n, _, _, hlen, hxl, hf⟩ := DataW.trod_struct Tryz.underlying67 h
  have hl : cs.length = 7 := hlen.trans (show Tryz.prog.cellsOf 67 = 7 by kernel_rfl)
  have hx : xs.length = 4 := hxl
  match xs, hx with
  | [y0, y1, y2, y3], _ =>
    match cs, hl with
    | [c0, c1, c2, c3, c4, c5, c6], _ =>
      have e1 : Tryz.prog.cellsOf 3 = 1 := by kernel_rfl
      have e4 : Tryz.prog.cellsOf 65 = 4 := by kernel_rfl
      have h0 : DataW.trod enc Tryz.prog W base spare held n 3 (List.take (Tryz.prog.cellsOf 3) (List.drop 0 [c0, c1, c2, c3, c4, c5, c6])) = some y0 := hf 0 _ rfl
      rw [e1] at h0
      obtain ⟨k0, g0, _⟩ := DataW.trod_int Tryz.underlying3 h0
      have r0 : c0 = .int .i64 k0 := by simpa using g0
      have h2 : DataW.trod enc Tryz.prog W base spare held n 3 (List.take (Tryz.prog.cellsOf 3) (List.drop 5 [c0, c1, c2, c3, c4, c5, c6])) = some y2 := hf 2 _ rfl
      rw [e1] at h2
      obtain ⟨k5, g2, _⟩ := DataW.trod_int Tryz.underlying3 h2
      have r5 : c5 = .int .i64 k5 := by simpa using g2
      have h3 : DataW.trod enc Tryz.prog W base spare held n 3 (List.take (Tryz.prog.cellsOf 3) (List.drop 6 [c0, c1, c2, c3, c4, c5, c6])) = some y3 := hf 3 _ rfl
      rw [e1] at h3
      obtain ⟨k6, g3, _⟩ := DataW.trod_int Tryz.underlying3 h3
      have r6 : c6 = .int .i64 k6 := by simpa using g3
      have h1 : DataW.trod enc Tryz.prog W base spare held n 65 (List.take (Tryz.prog.cellsOf 65) (List.drop 1 [c0, c1, c2, c3, c4, c5, c6])) = some y1 := hf 1 _ rfl
      rw [e4] at h1
      obtain ⟨k1, k2, k3, k4, g1⟩ := line_four h1
      have g2 : [c1, c2, c3, c4] = [.int .i64 k1, .int .i64 k2, .int .i64 k3, .int .i64 k4] := g1
      simp only [List.cons.injEq, and_true] at g2
      obtain ⟨r1, r2, r3, r4⟩ := g2
      subst r0 r1 r2 r3 r4 r5 r6
      refine ⟨fun j => [k0, k1, k2, k3, k4, k5, k6].getD j 0, fun j hj => ?_⟩
      have hc : j = 0 ∨ j = 1 ∨ j = 2 ∨ j = 3 ∨ j = 4 ∨ j = 5 ∨ j = 6 := by omega
      rcases hc with rfl | rfl | rfl | rfl | rfl | rfl | rfl <;> rfl
/-- The slice nil, or one of a buffer's operations that are there. -/
def BufsAt (W : World) (v : Value) : Prop :=
  v = .slice none 0 0 ∨ ∃ (a : Addr) (len cap : Nat) (z : Nat → Nat → Int), v = .slice (some a) len cap ∧ len ≤ cap ∧ cap ≤ maxLen ∧ ∀ i, i < len → ∀ j, j < 7 → W.cell? (a.add (i * 7 + j)) = some (.int .i64 (z i j))
set_option maxRecDepth 100000 in
theorem bufs_open {H : Type} {enc : TypeId × Value → H} {W : World} {base : Nat} {v : Value} {d : DataW H} {p : List MemPlace}
    (h : DataW.Trod enc Tryz.prog W 0 (fun _ => true) true 59 v d p) (hv : Value.okWide Tryz.prog W .any base 59 v) : BufsAt W v := by
  obtain ⟨a0, len0, cap0, rfl⟩ := okWide_slice Tryz.underlying59 hv
  obtain ⟨fuel, hf⟩ := h
  have e6 : Tryz.prog.cellsOf 67 = 7 := by kernel_rfl
  rcases open_slice Tryz.underlying59 hf with ⟨hcs, _⟩ | ⟨a, len, cap, m, n, D, Pl, hcs, _, hl, hm, hmm, _, hi⟩
  · exact Or.inl (List.singleton_inj.1 hcs)
  · rw [if_pos rfl] at hmm
    have key : ∀ i, ∃ f : Nat → Int, i < len → ∀ j, j < 7 → W.cell? (a.add (i * 7 + j)) = some (.int .i64 (f j)) := by
      intro i
      by_cases hil : i < len
      · obtain ⟨cs', hc, ht⟩ := hi i (by omega)
        rw [e6] at hc
        obtain ⟨_, _, hat⟩ := World.cells?_some hc
        obtain ⟨f, hf'⟩ := buf_cells ht
        refine ⟨f, fun _ j hj => ?_⟩
        rw [← Go.Deep.add_add, hat j hj]
        exact hf' j hj
      · exact ⟨fun _ => 0, fun h => absurd h hil⟩
    exact Or.inr ⟨a, len, cap, fun i => Classical.choose (key i), List.singleton_inj.1 hcs, hl, hm, fun i hil => Classical.choose_spec (key i) hil⟩
theorem trod_bufs {H : Type} {enc : TypeId × Value → H} {W W' : World} {v : Value} {d : DataW H} {p : List MemPlace} (h : DataW.Trod enc Tryz.prog W 0 (fun _ => true) true 59 v d p) (hb : Below W.heap.size W W') (hlt : ∀ x ∈ p, x.block < W.heap.size) :
    DataW.Trod enc Tryz.prog W' 0 (fun b => decide (b < W.heap.size)) true 59 v d p :=
  Below.trod Tryz.laidOut (by kernel_rfl) (of_decide_eq_true (by kernel_rfl)) h hb hlt
/-- The slice nil, or one of lines that are there. -/
def LinesAt (W : World) (v : Value) : Prop :=
  v = .slice none 0 0 ∨ ∃ (a : Addr) (len cap : Nat) (z : Nat → Nat → Int), v = .slice (some a) len cap ∧ len ≤ cap ∧ cap ≤ maxLen ∧ ∀ i, i < len → ∀ j, j < 4 → W.cell? (a.add (i * 4 + j)) = some (.int .i64 (z i j))
set_option maxRecDepth 100000 in
theorem lines_open {H : Type} {enc : TypeId × Value → H} {W : World} {base : Nat} {v : Value} {d : DataW H} {p : List MemPlace}
    (h : DataW.Trod enc Tryz.prog W 0 (fun _ => true) true 76 v d p) (hv : Value.okWide Tryz.prog W .any base 76 v) : LinesAt W v := by
  obtain ⟨a0, len0, cap0, rfl⟩ := okWide_slice Tryz.underlying76 hv
  obtain ⟨fuel, hf⟩ := h
  have e6 : Tryz.prog.cellsOf 65 = 4 := by kernel_rfl
  rcases open_slice Tryz.underlying76 hf with ⟨hcs, _⟩ | ⟨a, len, cap, m, n, D, Pl, hcs, _, hl, hm, hmm, _, hi⟩
  · exact Or.inl (List.singleton_inj.1 hcs)
  · rw [if_pos rfl] at hmm
    have key : ∀ i, ∃ f : Nat → Int, i < len → ∀ j, j < 4 → W.cell? (a.add (i * 4 + j)) = some (.int .i64 (f j)) := by
      intro i
      by_cases hil : i < len
      · obtain ⟨cs', hc, ht⟩ := hi i (by omega)
        rw [e6] at hc
        obtain ⟨_, _, hat⟩ := World.cells?_some hc
        obtain ⟨f, hf'⟩ := line_cells ht
        refine ⟨f, fun _ j hj => ?_⟩
        rw [← Go.Deep.add_add, hat j hj]
        exact hf' j hj
      · exact ⟨fun _ => 0, fun h => absurd h hil⟩
    exact Or.inr ⟨a, len, cap, fun i => Classical.choose (key i), List.singleton_inj.1 hcs, hl, hm, fun i hil => Classical.choose_spec (key i) hil⟩
theorem trod_lines {H : Type} {enc : TypeId × Value → H} {W W' : World} {v : Value} {d : DataW H} {p : List MemPlace} (h : DataW.Trod enc Tryz.prog W 0 (fun _ => true) true 76 v d p) (hb : Below W.heap.size W W') (hlt : ∀ x ∈ p, x.block < W.heap.size) :
    DataW.Trod enc Tryz.prog W' 0 (fun b => decide (b < W.heap.size)) true 76 v d p :=
  Below.trod Tryz.laidOut (by kernel_rfl) (of_decide_eq_true (by kernel_rfl)) h hb hlt
end Go.Proofs.YtfpnpgpelncgeaaGreatDoor
