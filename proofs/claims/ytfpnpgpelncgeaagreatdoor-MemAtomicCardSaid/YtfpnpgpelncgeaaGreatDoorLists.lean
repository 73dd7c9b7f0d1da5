/- What is proved here: a slice of words of 64 bits, of a table's operations, of ints, that reads as data is the slice nil or lies at an address whose cells, below the length, hold numbers; and that it reads behind a call as before where nothing below the old heap's end has turned. Conditions: those that each theorem names. -/
import Derived.Test.YtfpnpgpelncgeaaGreatDoorSlices
import Derived.Deep.Slices
namespace Go.Proofs.YtfpnpgpelncgeaaGreatDoor
open Go.ChangeShapes Go.WideShapes Go.RowKit Go.Joins Go.Deep

/-- The slice nil, or one of words that are there. -/
def WordsAt (W : World) (v : Value) : Prop :=
  v = .slice none 0 0 ∨ ∃ (a : Addr) (len cap : Nat) (zs : List Int), v = .slice (some a) len cap ∧ len ≤ cap ∧ cap ≤ maxLen ∧ ∀ i, i < len → W.cell? (a.add i) = some (.int .u64 (zs.getD i 0))
set_option maxRecDepth 100000 in
theorem words_open {H : Type} {enc : TypeId × Value → H} {W : World} {base : Nat} {v : Value} {d : DataW H} {p : List MemPlace}
    (h : DataW.Trod enc Tryz.prog W 0 (fun _ => true) true 53 v d p) (hv : Value.okWide Tryz.prog W .any base 53 v) : WordsAt W v := by
  obtain ⟨a0, len0, cap0, rfl⟩ := okWide_slice Tryz.underlying53 hv
  obtain ⟨fuel, hf⟩ := h
  rcases open_ints Tryz.underlying53 Tryz.underlying22 (show Tryz.prog.cellsOf 22 = 1 by kernel_rfl) hf with ⟨hcs, _⟩ | ⟨a, len, cap, zs, hcs, _, hl, hm, hzl, _, hcell, _⟩
  · exact Or.inl (List.singleton_inj.1 hcs)
  · have hz : zs.length = cap := by simpa using hzl
    exact Or.inr ⟨a, len, cap, zs, List.singleton_inj.1 hcs, hl, hm, fun i hi => hcell i (by omega)⟩
theorem trod_words {H : Type} {enc : TypeId × Value → H} {W W' : World} {v : Value} {d : DataW H} {p : List MemPlace} (h : DataW.Trod enc Tryz.prog W 0 (fun _ => true) true 53 v d p) (hb : Below W.heap.size W W') (hlt : ∀ x ∈ p, x.block < W.heap.size) :
    DataW.Trod enc Tryz.prog W' 0 (fun b => decide (b < W.heap.size)) true 53 v d p :=
  Below.trod Tryz.laidOut (by kernel_rfl) (of_decide_eq_true (by kernel_rfl)) h hb hlt

/-- The slice nil, or one of operations of six numbers each that are there. -/
def OpsAt (W : World) (v : Value) : Prop :=
  v = .slice none 0 0 ∨ ∃ (a : Addr) (len cap : Nat) (z : Nat → Nat → Int), v = .slice (some a) len cap ∧ len ≤ cap ∧ cap ≤ maxLen ∧ ∀ i, i < len → ∀ j, j < 6 → W.cell? (a.add (i * 6 + j)) = some (.int .i64 (z i j))
set_option maxRecDepth 100000 in
/-- An operation's six cells are numbers. -/
theorem op_cells {H : Type} {enc : TypeId × Value → H} {W : World} {base fuel : Nat} {spare : Nat → Bool} {held : Bool} {cs : List Value} {x : DataW H × List MemPlace}
    (h : DataW.trod enc Tryz.prog W base spare held fuel 48 cs = some x) : ∃ f : Nat → Int, ∀ j, j < 6 → cs[j]? = some (.int .i64 (f j)) := by
  obtain ⟨xs, n, _, _, hlen, hxl, hf⟩ := DataW.trod_struct Tryz.underlying48 h
  have hl : cs.length = 6 := hlen.trans (show Tryz.prog.cellsOf 48 = 6 by kernel_rfl)
  have hx : xs.length = 4 := hxl
  match xs, hx with
  | [y0, y1, y2, y3], _ =>
    match cs, hl with
    | [c0, c1, c2, c3, c4, c5], _ =>
      have e1 : Tryz.prog.cellsOf 3 = 1 := by kernel_rfl
      have e3 : Tryz.prog.cellsOf 36 = 3 := by kernel_rfl
      have h0 : DataW.trod enc Tryz.prog W base spare held n 3 (List.take (Tryz.prog.cellsOf 3) (List.drop 0 [c0, c1, c2, c3, c4, c5])) = some y0 := hf 0 _ rfl
      rw [e1] at h0
      have h1 : DataW.trod enc Tryz.prog W base spare held n 3 (List.take (Tryz.prog.cellsOf 3) (List.drop 1 [c0, c1, c2, c3, c4, c5])) = some y1 := hf 1 _ rfl
      rw [e1] at h1
      have h2 : DataW.trod enc Tryz.prog W base spare held n 3 (List.take (Tryz.prog.cellsOf 3) (List.drop 2 [c0, c1, c2, c3, c4, c5])) = some y2 := hf 2 _ rfl
      rw [e1] at h2
      have h3 : DataW.trod enc Tryz.prog W base spare held n 36 (List.take (Tryz.prog.cellsOf 36) (List.drop 3 [c0, c1, c2, c3, c4, c5])) = some y3 := hf 3 _ rfl
      rw [e3] at h3
      obtain ⟨k0, g0, _⟩ := DataW.trod_int Tryz.underlying3 h0
      obtain ⟨k1, g1, _⟩ := DataW.trod_int Tryz.underlying3 h1
      obtain ⟨k2, g2, _⟩ := DataW.trod_int Tryz.underlying3 h2
      obtain ⟨ys, m, _, _, _, hyl, hg⟩ := DataW.trod_struct Tryz.underlying36 h3
      have hy : ys.length = 3 := hyl
      match ys, hy with
      | [w0, w1, w2], _ =>
        have q0 : DataW.trod enc Tryz.prog W base spare held m 3 (List.take (Tryz.prog.cellsOf 3) (List.drop 0 (List.take 3 (List.drop 3 [c0, c1, c2, c3, c4, c5])))) = some w0 := hg 0 _ rfl
        rw [e1] at q0
        have q1 : DataW.trod enc Tryz.prog W base spare held m 3 (List.take (Tryz.prog.cellsOf 3) (List.drop 1 (List.take 3 (List.drop 3 [c0, c1, c2, c3, c4, c5])))) = some w1 := hg 1 _ rfl
        rw [e1] at q1
        have q2 : DataW.trod enc Tryz.prog W base spare held m 3 (List.take (Tryz.prog.cellsOf 3) (List.drop 2 (List.take 3 (List.drop 3 [c0, c1, c2, c3, c4, c5])))) = some w2 := hg 2 _ rfl
        rw [e1] at q2
        obtain ⟨k3, g3, _⟩ := DataW.trod_int Tryz.underlying3 q0
        obtain ⟨k4, g4, _⟩ := DataW.trod_int Tryz.underlying3 q1
        obtain ⟨k5, g5, _⟩ := DataW.trod_int Tryz.underlying3 q2
        have r0 : c0 = .int .i64 k0 := by simpa using g0
        have r1 : c1 = .int .i64 k1 := by simpa using g1
        have r2 : c2 = .int .i64 k2 := by simpa using g2
        have r3 : c3 = .int .i64 k3 := by simpa using g3
        have r4 : c4 = .int .i64 k4 := by simpa using g4
        have r5 : c5 = .int .i64 k5 := by simpa using g5
        subst r0 r1 r2 r3 r4 r5
        refine ⟨fun j => [k0, k1, k2, k3, k4, k5].getD j 0, fun j hj => ?_⟩
        have hc : j = 0 ∨ j = 1 ∨ j = 2 ∨ j = 3 ∨ j = 4 ∨ j = 5 := by omega
        rcases hc with rfl | rfl | rfl | rfl | rfl | rfl <;> rfl
set_option maxRecDepth 100000 in
theorem ops_open {H : Type} {enc : TypeId × Value → H} {W : World} {base : Nat} {v : Value} {d : DataW H} {p : List MemPlace}
    (h : DataW.Trod enc Tryz.prog W 0 (fun _ => true) true 43 v d p) (hv : Value.okWide Tryz.prog W .any base 43 v) : OpsAt W v := by
  obtain ⟨a0, len0, cap0, rfl⟩ := okWide_slice Tryz.underlying43 hv
  obtain ⟨fuel, hf⟩ := h
  have e6 : Tryz.prog.cellsOf 48 = 6 := by kernel_rfl
  rcases open_slice Tryz.underlying43 hf with ⟨hcs, _⟩ | ⟨a, len, cap, m, n, D, Pl, hcs, _, hl, hm, hmm, _, hi⟩
  · exact Or.inl (List.singleton_inj.1 hcs)
  · rw [if_pos rfl] at hmm
    have key : ∀ i, ∃ f : Nat → Int, i < len → ∀ j, j < 6 → W.cell? (a.add (i * 6 + j)) = some (.int .i64 (f j)) := by
      intro i
      by_cases hil : i < len
      · obtain ⟨cs', hc, ht⟩ := hi i (by omega)
        rw [e6] at hc
        obtain ⟨_, _, hat⟩ := World.cells?_some hc
        obtain ⟨f, hf'⟩ := op_cells ht
        refine ⟨f, fun _ j hj => ?_⟩
        rw [← Go.Deep.add_add, hat j hj]
        exact hf' j hj
      · exact ⟨fun _ => 0, fun h => absurd h hil⟩
    exact Or.inr ⟨a, len, cap, fun i => Classical.choose (key i), List.singleton_inj.1 hcs, hl, hm, fun i hil => Classical.choose_spec (key i) hil⟩
theorem trod_ops {H : Type} {enc : TypeId × Value → H} {W W' : World} {v : Value} {d : DataW H} {p : List MemPlace} (h : DataW.Trod enc Tryz.prog W 0 (fun _ => true) true 43 v d p) (hb : Below W.heap.size W W') (hlt : ∀ x ∈ p, x.block < W.heap.size) :
    DataW.Trod enc Tryz.prog W' 0 (fun b => decide (b < W.heap.size)) true 43 v d p :=
  Below.trod Tryz.laidOut (by kernel_rfl) (of_decide_eq_true (by kernel_rfl)) h hb hlt
end Go.Proofs.YtfpnpgpelncgeaaGreatDoor
