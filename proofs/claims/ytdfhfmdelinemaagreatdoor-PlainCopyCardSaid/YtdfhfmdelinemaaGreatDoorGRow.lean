/- What is proved here: what the rows of this seat share. Conditions: those that each theorem names. -/
import Derived.Test.YtdfhfmdelinemaaGreatDoorGStage
import Derived.Test.YtdfhfmdelinemaaGreatDoorGParts
import Derived.Lib.SmallJoins
import Derived.OpenShut
import Derived.Test.YtdfhfmdelinemaaGreatDoorRows
import Derived.Test.YtdfhfmdelinemaaGreatDoorTie
import Derived.Test.YtdfhfmdelinemaaGreatDoorCards
import Derived.ChangeSame
import Derived.ChangeVars
import Derived.JoinedOf
import Derived.RowKit
import Derived.RowKitTokens
import Derived.LaidLaws
import Derived.LaidHandle
import Derived.Stop.Joined
import Derived.SevenTiedAt
import Derived.Carry
import Derived.ChangeSlices
namespace Go.Proofs.YtdfhfmdelinemaaGreatDoor
open Go.ChangeShapes Go.WideShapes Go.RowKit Go.Joins Go.Deep
theorem Tryz.own : ownKnob Tryz.prog.godebug = none := by kernel_rfl
theorem Tryz.et : Tryz.prog.globalNamed "errors.errorType" = some 0 := by kernel_rfl
theorem Tryz.rt : (Tryz.prog.cutTypes.find? (·.1 == "internal/reflectlite.rtype")).map (·.2) = some 238 := by kernel_rfl
theorem Tryz.oneRow : ((List.range 358).filter fun t => Tryz.prog.rowNamed t [101, 114, 114, 111, 114]) = [32] := by kernel_rfl
theorem Tryz.size : Tryz.prog.types.size = 358 := by kernel_rfl
abbrev laid1 : List (String × DataW Unit) := [("errors.errorType", Rows.laid_errors_errorType)]
theorem held_of_laid {W : World} (h : laidMetH Tryz.prog laid1 W) : Held W := by
 have h' : laidMet Tryz.prog [] W ∧ handlesMet Tryz.prog laid1 W := h
 obtain ⟨name, u, ty, e1, e2, e3, e4, e5⟩ := h'.2 _ (List.mem_singleton.2 rfl)
 have en : name = [101, 114, 114, 111, 114] := (Option.some.inj e1).symm
 subst en
 obtain rfl := Option.some.inj (Tryz.rt.symm.trans e2)
 have hm : ty ∈ (List.range 358).filter fun t => Tryz.prog.rowNamed t [101, 114, 114, 111, 114] := List.mem_filter.2 ⟨List.mem_range.2 (by rw [← Tryz.size]; exact e3), e4⟩
 rw [Tryz.oneRow] at hm
 obtain rfl := List.mem_singleton.1 hm
 have hh : typeHandle Tryz.prog 32 = .pointer (some ⟨4, 32, none⟩) := by kernel_rfl
 rw [hh] at e5
 exact World.var?_cell Tryz.et e5 0
noncomputable def laidWorld (os : Os) : World :=
 let w0 := World.holding Tryz.prog os ⟨#[], #[], []⟩
 { w0 with heap := w0.heap.modify 0 fun
   | .cells _ t frozen => .cells #[.iface 238 (.agg #[.pointer (some ⟨4, 32, none⟩)])] t frozen
   | o => o }
theorem laidWorld_met (os : Os) (args : Array Value) : laidMetH Tryz.prog laid1 ((laidWorld os).forCall (fun _ _ => 0) ⟨#[], args, []⟩).memory :=
 laidMetH_of_parts (laidMet_nil _ _) (by kernel_rfl)
theorem Tryz.laidOut : laidOutB Tryz.prog = true := by kernel_rfl
section
variable {H : Type} {enc : TypeId × Value → H} {W W' : World} {v : Value} {d : DataW H} {p : List MemPlace}
theorem trod_int (h : DataW.Trod enc Tryz.prog W 0 (fun _ => true) true 3 v d p) (hb : Below W.heap.size W W') (hlt : ∀ x ∈ p, x.block < W.heap.size) :
  DataW.Trod enc Tryz.prog W' 0 (fun b => decide (b < W.heap.size)) true 3 v d p :=
 Below.trod Tryz.laidOut (by kernel_rfl) (of_decide_eq_true (by kernel_rfl)) h hb hlt
end
section
variable {H : Type} {enc : TypeId × Value → H} {W W' : World} {v : Value} {d : DataW H} {p : List MemPlace}
theorem trod_word (h : DataW.Trod enc Tryz.prog W 0 (fun _ => true) true 34 v d p) (hb : Below W.heap.size W W') (hlt : ∀ x ∈ p, x.block < W.heap.size) :
  DataW.Trod enc Tryz.prog W' 0 (fun b => decide (b < W.heap.size)) true 34 v d p :=
 Below.trod Tryz.laidOut (by kernel_rfl) (of_decide_eq_true (by kernel_rfl)) h hb hlt
set_option maxRecDepth 100000 in
theorem word_in {n : Int} (h : DataW.Trod enc Tryz.prog W 0 (fun _ => true) true 34 (.int .u64 n) d p) : 0 ≤ n ∧ n < 18446744073709551616 := by
 obtain ⟨fuel, hf⟩ := h
 obtain ⟨m, hm, _, hw⟩ := DataW.trod_int Tryz.underlying34 hf
 have e : [Value.int .u64 n] = [Value.int .u64 m] := hm
 injection e with e
 injection e with _ e
 subst e
 exact ⟨(bounds_u64 hw).1, Int.lt_of_le_of_lt (bounds_u64 hw).2 (by decide)⟩
end
section
variable {H : Type} {enc : TypeId × Value → H} {P : Program} {w : World} {base : Nat} {spare : Nat → Bool} {held : Bool}
set_option maxRecDepth 100000 in
theorem trodAll_five {t t1 t2 t3 t4 : TypeId} {args : Array Value} {ds : List (DataW H)} {ps : List MemPlace} (h : DataW.TrodAll enc P w base spare held [t, t1, t2, t3, t4] args.toList ds ps) :
  ∃ v v1 v2 v3 v4 d d1 d2 d3 d4 p p1 p2 p3 p4, args = #[v, v1, v2, v3, v4] ∧ ds = [d, d1, d2, d3, d4] ∧ ps = p ++ (p1 ++ (p2 ++ (p3 ++ p4))) ∧ DataW.Trod enc P w base spare held t v d p ∧ DataW.Trod enc P w base spare held t1 v1 d1 p1 ∧ DataW.Trod enc P w base spare held t2 v2 d2 p2 ∧ DataW.Trod enc P w base spare held t3 v3 d3 p3 ∧ DataW.Trod enc P w base spare held t4 v4 d4 p4 := by
 obtain ⟨v, vs, d, ds', p, q, hargs, rfl, rfl, hd, hrest⟩ := trodAll_cons h
 obtain ⟨v1, vs1, d1, ds1, p1, q1, rfl, rfl, rfl, hd1, hrest1⟩ := trodAll_cons hrest
 obtain ⟨v2, vs2, d2, ds2, p2, q2, rfl, rfl, rfl, hd2, hrest2⟩ := trodAll_cons hrest1
 obtain ⟨v3, vs3, d3, ds3, p3, q3, rfl, rfl, rfl, hd3, hrest3⟩ := trodAll_cons hrest2
 obtain ⟨v4, vs4, d4, ds4, p4, q4, rfl, rfl, rfl, hd4, hrest4⟩ := trodAll_cons hrest3
 obtain ⟨rfl, rfl, rfl⟩ := trodAll_nil hrest4
 exact ⟨v, v1, v2, v3, v4, d, d1, d2, d3, d4, p, p1, p2, p3, p4, by cases args; simp_all, rfl, by simp, hd, hd1, hd2, hd3, hd4⟩
set_option maxRecDepth 100000 in
theorem trodAll_mk5 {t t1 t2 t3 t4 : TypeId} {v v1 v2 v3 v4 : Value} {d d1 d2 d3 d4 : DataW H} {p p1 p2 p3 p4 : List MemPlace} (h : DataW.Trod enc P w base spare held t v d p) (h1 : DataW.Trod enc P w base spare held t1 v1 d1 p1)
  (h2 : DataW.Trod enc P w base spare held t2 v2 d2 p2) (h3 : DataW.Trod enc P w base spare held t3 v3 d3 p3) (h4 : DataW.Trod enc P w base spare held t4 v4 d4 p4) : DataW.TrodAll enc P w base spare held [t, t1, t2, t3, t4] [v, v1, v2, v3, v4] [d, d1, d2, d3, d4] (p ++ (p1 ++ (p2 ++ (p3 ++ p4)))) := ⟨p, p1 ++ (p2 ++ (p3 ++ p4)), h, trodAll_mk4 h1 h2 h3 h4, rfl⟩
end
end Go.Proofs.YtdfhfmdelinemaaGreatDoor
namespace Go.Proofs.YtdfhfmdelinemaaGreatDoor
open Go.ChangeShapes Go.WideShapes Go.RowKit
theorem rf_out : (laidOutB Tryz.prog && mapsRowed Tryz.prog) = true := by kernel_rfl
theorem rf_enter : (Tryz.prog.stopsHeard && Tryz.prog.mayEnter) = true := by kernel_rfl
theorem rf_lift : (false == Tryz.prog.liftsFinal) = true := by kernel_rfl
theorem rf_make : (Tryz.prog.make == some .cut) = true := by kernel_rfl
theorem rf_keys : (true == Tryz.prog.plainKeys) = true := by kernel_rfl
theorem rf_stops : ((Tryz.prog.stops == []) && (Tryz.prog.stopKnobs == [])) = true := by kernel_rfl
end Go.Proofs.YtdfhfmdelinemaaGreatDoor
namespace Go.Proofs.YtdfhfmdelinemaaGreatDoor
open Go.ChangeShapes Go.WideShapes Go.RowKit
theorem rf_all {f : FuncId} {fn : Func} {s : ChangeSpec} {c : OpenClaim} (h1 : c.wf (OpenSpec.ofChange s) = true) (hl : c.lifted = false) (hm : c.make = .cut) (hk : c.plainKeys = true) (hst : c.stops = []) (hkn : c.knobs = []) (hsh : c.shortTexts = none) (hki : c.kinds = []) (hdo : c.domain.isEmpty = true)
  (h2 : (c.inPlace == Tryz.prog.inPlace f) = true) (h3 : (c.unfollowed == Tryz.prog.unfollowed f) = true) (h4 : (c.recurses == Tryz.prog.recurses f) = true) (h5 : (c.named == Tryz.prog.varsNamed f) = true)
  (h6 : (fn.params.all (Tryz.prog.readableRec ·) && namedTie Tryz.prog c.named s.vars &&
 (c.maps == (fn.params.toList ++ s.plain.varTypes Tryz.prog).any (Tryz.prog.mapsRec ·)) && (c.ifaces == (fn.params.toList ++ s.plain.varTypes Tryz.prog).any (Tryz.prog.ifacesRec ·)) && (c.mapsOut == Tryz.prog.mapsAmong fn.resultTypes.toList) &&
 (c.loops == (fn.params.toList ++ s.plain.varTypes Tryz.prog).any (Tryz.prog.loopsFrom ·)) && (c.wideKeys == (fn.params.toList ++ s.plain.varTypes Tryz.prog ++ fn.resultTypes.toList).any (Tryz.prog.wideKeysFrom ·)) &&
 s.vars.all (Tryz.prog.varReadable ·) && fn.resultTypes.all (fun t => Tryz.prog.readableRec t && decide (t < Tryz.prog.types.size)) && (c.ifacesOut == fn.resultTypes.toList.any (Tryz.prog.ifacesRec ·)) && (c.loopsOut == fn.resultTypes.toList.any (Tryz.prog.loopsFrom ·)) &&
 (c.pinned == c.pinnedBy) &&
 (c.veiled == (fn.params.toList ++ s.plain.varTypes Tryz.prog ++ fn.resultTypes.toList).any (Tryz.prog.veiledRec ·)) && c.veiledFits Tryz.prog fn.params.toList (fn.params.toList ++ s.plain.varTypes Tryz.prog ++ fn.resultTypes.toList)) = true) :
  joinedFacts Tryz.prog f fn s c = true := by
 have g1 := rf_out
 have g2 := rf_enter
 have g3 : (c.lifted == Tryz.prog.liftsFinal) = true := by rw [hl]; exact rf_lift
 have g4 : (Tryz.prog.make == some c.make) = true := by rw [hm]; exact rf_make
 have g5 : (c.plainKeys == Tryz.prog.plainKeys) = true := by rw [hk]; exact rf_keys
 have g6 := rf_stops
 have e0 : (c.stops == []) = true := by rw [hst]; rfl
 have e1 : (c.knobs == []) = true := by rw [hkn]; rfl
 have e2 : c.shortTexts.isNone = true := by rw [hsh]; rfl
 unfold joinedFacts
 simp only [Bool.and_eq_true] at g1 g2 g6 h6 ⊢
 obtain ⟨⟨⟨⟨⟨⟨⟨⟨⟨⟨⟨⟨⟨a1, a2⟩, a3⟩, a4⟩, a5⟩, a6⟩, a7⟩, a8⟩, a9⟩, a10⟩, a11⟩, a13⟩, a14⟩, a15⟩ := h6
 refine ⟨⟨⟨⟨⟨⟨⟨⟨⟨⟨⟨⟨⟨⟨⟨⟨⟨⟨⟨⟨⟨⟨⟨⟨⟨⟨⟨⟨⟨⟨⟨h1, g1.1⟩, g1.2⟩, a1⟩, a2⟩, e0⟩, g6.1⟩, e1⟩, g6.2⟩, h2⟩, h3⟩, h4⟩, h5⟩, a3⟩, a4⟩, a5⟩, a6⟩, a7⟩, a8⟩, a9⟩, a10⟩, a11⟩, g5⟩, e2⟩, g2.1⟩, g2.2⟩, g3⟩, g4⟩, ?_⟩, a13⟩, a14⟩, a15⟩
 rw [hki, if_pos hdo]
 rfl
end Go.Proofs.YtdfhfmdelinemaaGreatDoor
namespace Go.Proofs.YtdfhfmdelinemaaGreatDoor
open Go.ChangeShapes Go.WideShapes Go.RowKit Go.Joins Go.Deep
section
variable {H : Type} {enc : TypeId × Value → H} {W W' : World} {v : Value} {d : DataW H} {p : List MemPlace}
end
end Go.Proofs.YtdfhfmdelinemaaGreatDoor
namespace Go.Proofs.YtdfhfmdelinemaaGreatDoor
open Go.ChangeShapes Go.WideShapes Go.RowKit
end Go.Proofs.YtdfhfmdelinemaaGreatDoor
namespace Go.Proofs.YtdfhfmdelinemaaGreatDoor
open Go.RowKit
end Go.Proofs.YtdfhfmdelinemaaGreatDoor
