/- What is proved here: what the given cards of these statements share: what the condition on the library's variable errors.errorType gives a walk, a world that meets it, the shapes of the arguments, and that arguments read behind a call as before where nothing below the old heap's end has turned. Conditions: those that each theorem names. -/
import Derived.Test.YtnmlmhhohemffaaDoorCommon
import Derived.Test.YtnmlmhhohemffaaDoorRows
import Derived.Test.YtnmlmhhohemffaaDoorTie
import Derived.Test.YtnmlmhhohemffaaDoorCards
import Derived.ChangeSame
import Derived.ChangeVars
import Derived.JoinedOf
import Derived.RowKit
import Derived.RowKitTokens
import Derived.LaidLaws
import Derived.LaidHandle
import Derived.Stop.Joined
import Derived.SevenTiedAt
import Derived.Carry
namespace Go.Proofs.YtnmlmhhohemffaaDoor
open Go.ChangeShapes Go.WideShapes Go.RowKit

theorem Tryd.own : ownKnob Tryd.prog.godebug = none := by kernel_rfl
theorem Tryd.et : Tryd.prog.globalNamed "errors.errorType" = some 0 := by kernel_rfl
theorem Tryd.rt : (Tryd.prog.cutTypes.find? (·.1 == "internal/reflectlite.rtype")).map (·.2) = some 90 := by kernel_rfl
theorem Tryd.oneRow : ((List.range 147).filter fun t => Tryd.prog.rowNamed t [101, 114, 114, 111, 114]) = [30] := by kernel_rfl
theorem Tryd.size : Tryd.prog.types.size = 147 := by kernel_rfl

abbrev laid1 : List (String × DataW Unit) := [("errors.errorType", Rows.laid_errors_errorType)]

/-- What the condition gives a walk: the variable's one cell. -/
theorem held_of_laid {W : World} (h : laidMetH Tryd.prog laid1 W) : Held W := by
  have h' : laidMet Tryd.prog [] W ∧ handlesMet Tryd.prog laid1 W := h
  obtain ⟨name, u, ty, e1, e2, e3, e4, e5⟩ := h'.2 _ (List.mem_singleton.2 rfl)
  have en : name = [101, 114, 114, 111, 114] := (Option.some.inj e1).symm
  subst en
  obtain rfl := Option.some.inj (Tryd.rt.symm.trans e2)
  have hm : ty ∈ (List.range 147).filter fun t => Tryd.prog.rowNamed t [101, 114, 114, 111, 114] := List.mem_filter.2 ⟨List.mem_range.2 (by rw [← Tryd.size]; exact e3), e4⟩
  rw [Tryd.oneRow] at hm
  obtain rfl := List.mem_singleton.1 hm
  have hh : typeHandle Tryd.prog 30 = .pointer (some ⟨4, 30, none⟩) := by kernel_rfl
  rw [hh] at e5
  exact World.var?_cell Tryd.et e5 0

/-- A world that meets the condition: the settled one, the variable's cell laid. -/
noncomputable def laidWorld (os : Os) : World :=
  let w0 := World.holding Tryd.prog os ⟨#[], #[], []⟩
  { w0 with heap := w0.heap.modify 0 fun
      | .cells _ t frozen => .cells #[.iface 90 (.agg #[.pointer (some ⟨4, 30, none⟩)])] t frozen
      | o => o }
theorem laidWorld_met (os : Os) (args : Array Value) : laidMetH Tryd.prog laid1 ((laidWorld os).forCall (fun _ _ => 0) ⟨#[], args, []⟩).memory :=
  laidMetH_of_parts (laidMet_nil _ _) (by kernel_rfl)

theorem Tryd.laidOut : laidOutB Tryd.prog = true := by kernel_rfl

theorem five_cells {cs : Array Value} {a0 a1 a2 a3 a4 : Value} (hs : cs.size = 5) (h0 : cs[0]? = some a0) (h1 : cs[1]? = some a1) (h2 : cs[2]? = some a2) (h3 : cs[3]? = some a3) (h4 : cs[4]? = some a4) : cs = #[a0, a1, a2, a3, a4] := by
  apply Array.ext_getElem?
  intro i
  match i with
  | 0 => exact h0
  | 1 => exact h1
  | 2 => exact h2
  | 3 => exact h3
  | 4 => exact h4
  | k + 5 => rw [Array.getElem?_eq_none (by omega), Array.getElem?_eq_none (by simp)]

set_option maxRecDepth 100000 in
/-- A call's value: five words. -/
theorem call_shape {W : World} {base : Nat} {v : Value} (h : Value.okWide Tryd.prog W .any base 25 v) :
    ∃ x0 x1 x2 x3 x4 : Int, v = .agg #[.int .u64 x0, .int .u64 x1, .int .u64 x2, .int .u64 x3, .int .u64 x4] := by
  simp only [Value.okWide, Tryd.underlying25] at h
  obtain ⟨cs, rfl, hsz, ts, hts, _, hc⟩ := h
  have ets : ts = [23, 23, 23, 23, 23] := Option.some.inj (hts.symm.trans (show Tryd.prog.cellTypes Tryd.prog.depth 25 = some [23, 23, 23, 23, 23] by kernel_rfl))
  subst ets
  have hs5 : cs.size = 5 := hsz.trans (show Tryd.prog.cellsOf 25 = 5 by kernel_rfl)
  have key : ∀ i, i < 5 → ∃ n : Int, cs[i]? = some (.int .u64 n) := by
    intro i hi
    obtain ⟨u, hu, hk⟩ := hc i (cs[i]'(by omega)) (Array.getElem?_eq_getElem (by omega))
    have hu23 : u = 23 := by
      have hm := List.mem_of_getElem? hu
      simp at hm
      exact hm
    subst hu23
    have hk' : Value.okWide Tryd.prog W .any base 23 (cs[i]'(by omega)) := by
      unfold Value.okWide
      rw [Tryd.underlying23]
      exact hk
    obtain ⟨n, hn⟩ := okWide_int Tryd.underlying23 hk'
    exact ⟨n, by rw [Array.getElem?_eq_getElem (by omega), hn]⟩
  obtain ⟨x0, h0⟩ := key 0 (by omega)
  obtain ⟨x1, h1⟩ := key 1 (by omega)
  obtain ⟨x2, h2⟩ := key 2 (by omega)
  obtain ⟨x3, h3⟩ := key 3 (by omega)
  obtain ⟨x4, h4⟩ := key 4 (by omega)
  exact ⟨x0, x1, x2, x3, x4, congrArg Value.agg (five_cells hs5 h0 h1 h2 h3 h4)⟩

section
variable {H : Type} {enc : TypeId × Value → H} {W W' : World} {v : Value} {d : DataW H} {p : List MemPlace}
theorem trod_int (h : DataW.Trod enc Tryd.prog W 0 (fun _ => true) true 3 v d p) (hb : Below W.heap.size W W') (hlt : ∀ x ∈ p, x.block < W.heap.size) :
    DataW.Trod enc Tryd.prog W' 0 (fun b => decide (b < W.heap.size)) true 3 v d p :=
  Below.trod Tryd.laidOut (by kernel_rfl) (of_decide_eq_true (by kernel_rfl)) h hb hlt
theorem trod_call (h : DataW.Trod enc Tryd.prog W 0 (fun _ => true) true 25 v d p) (hb : Below W.heap.size W W') (hlt : ∀ x ∈ p, x.block < W.heap.size) :
    DataW.Trod enc Tryd.prog W' 0 (fun b => decide (b < W.heap.size)) true 25 v d p :=
  Below.trod Tryd.laidOut (by kernel_rfl) (of_decide_eq_true (by kernel_rfl)) h hb hlt
theorem trod_ints (h : DataW.Trod enc Tryd.prog W 0 (fun _ => true) true 22 v d p) (hb : Below W.heap.size W W') (hlt : ∀ x ∈ p, x.block < W.heap.size) :
    DataW.Trod enc Tryd.prog W' 0 (fun b => decide (b < W.heap.size)) true 22 v d p :=
  Below.trod Tryd.laidOut (by kernel_rfl) (of_decide_eq_true (by kernel_rfl)) h hb hlt
end
end Go.Proofs.YtnmlmhhohemffaaDoor
