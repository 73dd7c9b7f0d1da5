/- What is proved here: what the rows of this seat share. Conditions: those that each theorem names. -/
import Derived.Test.YtbmekfjcpdbapaaGreatDoorGStage
import Derived.Test.YtbmekfjcpdbapaaGreatDoorGParts
import Derived.Lib.SmallJoins
import Derived.OpenShut
import Derived.Test.YtbmekfjcpdbapaaGreatDoorRows
import Derived.Test.YtbmekfjcpdbapaaGreatDoorTie
import Derived.Test.YtbmekfjcpdbapaaGreatDoorCards
import Derived.ChangeSame
import Derived.ChangeVars
import Derived.JoinedOf
import Derived.RowKit
import Derived.RowKitTokens
import Derived.LaidLaws
import Derived.LaidHandle
import Derived.Stop.Joined
import Derived.SevenTiedAt
import Derived.Carry
import Derived.ChangeSlices
namespace Go.Proofs.YtbmekfjcpdbapaaGreatDoor
open Go.ChangeShapes Go.WideShapes Go.RowKit Go.Joins Go.Deep
theorem Tryz.own : ownKnob Tryz.prog.godebug = none := by kernel_rfl
theorem Tryz.et : Tryz.prog.globalNamed "errors.errorType" = some 0 := by kernel_rfl
theorem Tryz.rt : (Tryz.prog.cutTypes.find? (·.1 == "internal/reflectlite.rtype")).map (·.2) = some 252 := by kernel_rfl
theorem Tryz.oneRow : ((List.range 372).filter fun t => Tryz.prog.rowNamed t [101, 114, 114, 111, 114]) = [32] := by kernel_rfl
theorem Tryz.size : Tryz.prog.types.size = 372 := by kernel_rfl
abbrev laid1 : List (String × DataW Unit) := [("errors.errorType", Rows.laid_errors_errorType)]
theorem held_of_laid {W : World} (h : laidMetH Tryz.prog laid1 W) : Held W := by
  have h' : laidMet Tryz.prog [] W ∧ handlesMet Tryz.prog laid1 W := h
  obtain ⟨name, u, ty, e1, e2, e3, e4, e5⟩ := h'.2 _ (List.mem_singleton.2 rfl)
  have en : name = [101, 114, 114, 111, 114] := (Option.some.inj e1).symm
  subst en
  obtain rfl := Option.some.inj (Tryz.rt.symm.trans e2)
  have hm : ty ∈ (List.range 372).filter fun t => Tryz.prog.rowNamed t [101, 114, 114, 111, 114] := List.mem_filter.2 ⟨List.mem_range.2 (by rw [← Tryz.size]; exact e3), e4⟩
  rw [Tryz.oneRow] at hm
  obtain rfl := List.mem_singleton.1 hm
  have hh : typeHandle Tryz.prog 32 = .pointer (some ⟨4, 32, none⟩) := by kernel_rfl
  rw [hh] at e5
  exact World.var?_cell Tryz.et e5 0
noncomputable def laidWorld (os : Os) : World :=
  let w0 := World.holding Tryz.prog os ⟨#[], #[], []⟩
  { w0 with heap := w0.heap.modify 0 fun
      | .cells _ t frozen => .cells #[.iface 252 (.agg #[.pointer (some ⟨4, 32, none⟩)])] t frozen
      | o => o }
theorem laidWorld_met (os : Os) (args : Array Value) : laidMetH Tryz.prog laid1 ((laidWorld os).forCall (fun _ _ => 0) ⟨#[], args, []⟩).memory :=
  laidMetH_of_parts (laidMet_nil _ _) (by kernel_rfl)
theorem Tryz.laidOut : laidOutB Tryz.prog = true := by kernel_rfl
section
variable {H : Type} {enc : TypeId × Value → H} {W W' : World} {v : Value} {d : DataW H} {p : List MemPlace}
theorem trod_int (h : DataW.Trod enc Tryz.prog W 0 (fun _ => true) true 3 v d p) (hb : Below W.heap.size W W') (hlt : ∀ x ∈ p, x.block < W.heap.size) :
    DataW.Trod enc Tryz.prog W' 0 (fun b => decide (b < W.heap.size)) true 3 v d p :=
  Below.trod Tryz.laidOut (by kernel_rfl) (of_decide_eq_true (by kernel_rfl)) h hb hlt
theorem trod_ints (h : DataW.Trod enc Tryz.prog W 0 (fun _ => true) true 61 v d p) (hb : Below W.heap.size W W') (hlt : ∀ x ∈ p, x.block < W.heap.size) :
    DataW.Trod enc Tryz.prog W' 0 (fun b => decide (b < W.heap.size)) true 61 v d p :=
  Below.trod Tryz.laidOut (by kernel_rfl) (of_decide_eq_true (by kernel_rfl)) h hb hlt
end
section
variable {H : Type} {enc : TypeId × Value → H} {W W' : World} {v : Value} {d : DataW H} {p : List MemPlace}
theorem trod_word (h : DataW.Trod enc Tryz.prog W 0 (fun _ => true) true 34 v d p) (hb : Below W.heap.size W W') (hlt : ∀ x ∈ p, x.block < W.heap.size) :
    DataW.Trod enc Tryz.prog W' 0 (fun b => decide (b < W.heap.size)) true 34 v d p :=
  Below.trod Tryz.laidOut (by kernel_rfl) (of_decide_eq_true (by kernel_rfl)) h hb hlt
set_option maxRecDepth 100000 in
theorem word_in {n : Int} (h : DataW.Trod enc Tryz.prog W 0 (fun _ => true) true 34 (.int .u64 n) d p) : 0 ≤ n ∧ n < 18446744073709551616 := by
  obtain ⟨fuel, hf⟩ := h
  obtain ⟨m, hm, _, hw⟩ := DataW.trod_int Tryz.underlying34 hf
  have e : [Value.int .u64 n] = [Value.int .u64 m] := hm
  injection e with e
  injection e with _ e
  subst e
  exact ⟨(bounds_u64 hw).1, Int.lt_of_le_of_lt (bounds_u64 hw).2 (by decide)⟩
end
section
variable {H : Type} {enc : TypeId × Value → H} {P : Program} {w : World} {base : Nat} {spare : Nat → Bool} {held : Bool}
end
end Go.Proofs.YtbmekfjcpdbapaaGreatDoor
namespace Go.Proofs.YtbmekfjcpdbapaaGreatDoor
open Go.ChangeShapes Go.WideShapes Go.RowKit
theorem rf_out : (laidOutB Tryz.prog && mapsRowed Tryz.prog) = true := by kernel_rfl
theorem rf_enter : (Tryz.prog.stopsHeard && Tryz.prog.mayEnter) = true := by kernel_rfl
theorem rf_lift : (false == Tryz.prog.liftsFinal) = true := by kernel_rfl
theorem rf_make : (Tryz.prog.make == some .cut) = true := by kernel_rfl
theorem rf_keys : (true == Tryz.prog.plainKeys) = true := by kernel_rfl
theorem rf_stops : ((Tryz.prog.stops == []) && (Tryz.prog.stopKnobs == [])) = true := by kernel_rfl
end Go.Proofs.YtbmekfjcpdbapaaGreatDoor
namespace Go.Proofs.YtbmekfjcpdbapaaGreatDoor
open Go.ChangeShapes Go.WideShapes Go.RowKit
theorem rf_all {f : FuncId} {fn : Func} {s : ChangeSpec} {c : OpenClaim} (h1 : c.wf (OpenSpec.ofChange s) = true) (hl : c.lifted = false) (hm : c.make = .cut) (hk : c.plainKeys = true) (hst : c.stops = []) (hkn : c.knobs = []) (hsh : c.shortTexts = none) (hki : c.kinds = []) (hdo : c.domain.isEmpty = true)
    (h2 : (c.inPlace == Tryz.prog.inPlace f) = true) (h3 : (c.unfollowed == Tryz.prog.unfollowed f) = true) (h4 : (c.recurses == Tryz.prog.recurses f) = true) (h5 : (c.named == Tryz.prog.varsNamed f) = true)
    (h6 : (fn.params.all (Tryz.prog.readableRec ·) && namedTie Tryz.prog c.named s.vars &&
  (c.maps == (fn.params.toList ++ s.plain.varTypes Tryz.prog).any (Tryz.prog.mapsRec ·)) && (c.ifaces == (fn.params.toList ++ s.plain.varTypes Tryz.prog).any (Tryz.prog.ifacesRec ·)) && (c.mapsOut == Tryz.prog.mapsAmong fn.resultTypes.toList) &&
  (c.loops == (fn.params.toList ++ s.plain.varTypes Tryz.prog).any (Tryz.prog.loopsFrom ·)) && (c.wideKeys == (fn.params.toList ++ s.plain.varTypes Tryz.prog ++ fn.resultTypes.toList).any (Tryz.prog.wideKeysFrom ·)) &&
  s.vars.all (Tryz.prog.varReadable ·) && fn.resultTypes.all (fun t => Tryz.prog.readableRec t && decide (t < Tryz.prog.types.size)) && (c.ifacesOut == fn.resultTypes.toList.any (Tryz.prog.ifacesRec ·)) && (c.loopsOut == fn.resultTypes.toList.any (Tryz.prog.loopsFrom ·)) &&
  (c.pinned == c.pinnedBy) &&
  (c.veiled == (fn.params.toList ++ s.plain.varTypes Tryz.prog ++ fn.resultTypes.toList).any (Tryz.prog.veiledRec ·)) && c.veiledFits Tryz.prog fn.params.toList (fn.params.toList ++ s.plain.varTypes Tryz.prog ++ fn.resultTypes.toList)) = true) :
    joinedFacts Tryz.prog f fn s c = true := by
  have g1 := rf_out
  have g2 := rf_enter
  have g3 : (c.lifted == Tryz.prog.liftsFinal) = true := by rw [hl]; exact rf_lift
  have g4 : (Tryz.prog.make == some c.make) = true := by rw [hm]; exact rf_make
  have g5 : (c.plainKeys == Tryz.prog.plainKeys) = true := by rw [hk]; exact rf_keys
  have g6 := rf_stops
  have e0 : (c.stops == []) = true := by rw [hst]; rfl
  have e1 : (c.knobs == []) = true := by rw [hkn]; rfl
  have e2 : c.shortTexts.isNone = true := by rw [hsh]; rfl
  unfold joinedFacts
  simp only [Bool.and_eq_true] at g1 g2 g6 h6 ⊢
  obtain ⟨⟨⟨⟨⟨⟨⟨⟨⟨⟨⟨⟨⟨a1, a2⟩, a3⟩, a4⟩, a5⟩, a6⟩, a7⟩, a8⟩, a9⟩, a10⟩, a11⟩, a13⟩, a14⟩, a15⟩ := h6
  refine ⟨⟨⟨⟨⟨⟨⟨⟨⟨⟨⟨⟨⟨⟨⟨⟨⟨⟨⟨⟨⟨⟨⟨⟨⟨⟨⟨⟨⟨⟨⟨h1, g1.1⟩, g1.2⟩, a1⟩, a2⟩, e0⟩, g6.1⟩, e1⟩, g6.2⟩, h2⟩, h3⟩, h4⟩, h5⟩, a3⟩, a4⟩, a5⟩, a6⟩, a7⟩, a8⟩, a9⟩, a10⟩, a11⟩, g5⟩, e2⟩, g2.1⟩, g2.2⟩, g3⟩, g4⟩, ?_⟩, a13⟩, a14⟩, a15⟩
  rw [hki, if_pos hdo]
  rfl
end Go.Proofs.YtbmekfjcpdbapaaGreatDoor
namespace Go.Proofs.YtbmekfjcpdbapaaGreatDoor
open Go.ChangeShapes Go.WideShapes Go.RowKit Go.Joins Go.Deep
section
variable {H : Type} {enc : TypeId × Value → H} {W W' : World} {v : Value} {d : DataW H} {p : List MemPlace}
theorem trod_bool (h : DataW.Trod enc Tryz.prog W 0 (fun _ => true) true 4 v d p) (hb : Below W.heap.size W W') (hlt : ∀ x ∈ p, x.block < W.heap.size) :
    DataW.Trod enc Tryz.prog W' 0 (fun b => decide (b < W.heap.size)) true 4 v d p :=
  Below.trod Tryz.laidOut (by kernel_rfl) (of_decide_eq_true (by kernel_rfl)) h hb hlt
end
end Go.Proofs.YtbmekfjcpdbapaaGreatDoor
namespace Go.Proofs.YtbmekfjcpdbapaaGreatDoor
open Go.ChangeShapes Go.WideShapes Go.RowKit
def IntsAt (W : World) (v : Value) : Prop :=
  v = .slice none 0 0 ∨ ∃ (a : Addr) (len cap : Nat) (zs : List Int), v = .slice (some a) len cap ∧ len ≤ cap ∧ cap ≤ maxLen ∧ len ≤ zs.length ∧ ∀ i, i < len → W.cell? (a.add i) = some (.int .i64 (zs.getD i 0))
set_option maxRecDepth 100000 in
theorem ints_open {H : Type} {enc : TypeId × Value → H} {W : World} {base : Nat} {v : Value} {d : DataW H} {p : List MemPlace}
    (h : DataW.Trod enc Tryz.prog W 0 (fun _ => true) true 61 v d p) (hv : Value.okWide Tryz.prog W .any base 61 v) : IntsAt W v := by
  obtain ⟨a0, len0, cap0, rfl⟩ := okWide_slice Tryz.underlying61 hv
  obtain ⟨fuel, hf⟩ := h
  rcases open_ints Tryz.underlying61 Tryz.underlying3 (show Tryz.prog.cellsOf 3 = 1 by kernel_rfl) hf with ⟨hcs, _⟩ | ⟨a, len, cap, zs, hcs, _, hl, hm, hzl, _, hcell, _⟩
  · exact Or.inl (List.singleton_inj.1 hcs)
  · have hz : zs.length = cap := by simpa using hzl
    exact Or.inr ⟨a, len, cap, zs, List.singleton_inj.1 hcs, hl, hm, by omega, fun i hi => hcell i (by omega)⟩
end Go.Proofs.YtbmekfjcpdbapaaGreatDoor
namespace Go.Proofs.YtbmekfjcpdbapaaGreatDoor
open Go.RowKit
theorem ints_any {W : World} {v : Value} (h : IntsAt W v) : ∃ (ao : Option Addr) (a : Addr) (len cap : Nat) (z : Nat → Int), v = .slice ao len cap ∧ (0 < len → ao = some a) ∧ ∀ i, i < len → W.cell? (a.add i) = some (.int .i64 (z i)) := by
  rcases h with rfl | ⟨a, len, cap, zs, rfl, _, _, _, hz⟩
  · exact ⟨none, ⟨0, 0, none⟩, 0, 0, fun _ => 0, rfl, fun h => absurd h (by omega), fun i h => absurd h (by omega)⟩
  · exact ⟨some a, a, len, cap, fun i => zs.getD i 0, rfl, fun _ => rfl, hz⟩
end Go.Proofs.YtbmekfjcpdbapaaGreatDoor
