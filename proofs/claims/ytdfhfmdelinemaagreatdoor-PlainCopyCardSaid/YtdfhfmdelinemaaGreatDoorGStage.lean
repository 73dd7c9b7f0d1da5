/- What is proved here: the errors of package trap, of the library's errors.Is and errors.As over them, and the beginning of the statements of messuagelaw1. Conditions: those that each theorem names. -/
import Derived.Test.YtdfhfmdelinemaaGreatDoorProg
import Derived.WalkKit
import Derived.LaidEql
import Derived.LaidEqlPtr
import Derived.Stop.Asserts
import Derived.RowKitTokens
import Derived.Defers
import Derived.Recover
import Derived.Lib.Hide
import Derived.Deep.QuietTactic
import Derived.BigQuiet
import Derived.Deep.RegionWith
import Derived.LoopTactic
import Derived.Maps.OwnSet
import Derived.Test.YtdfhfmdelinemaaGreatDoorShelf
import Derived.Lib.FrozenHead2
import Derived.Lib.OthersKept
import Derived.IntWalk
namespace Go.Proofs.YtdfhfmdelinemaaGreatDoor
open Go.RowKit Go.Extern.Stop Go.Stop Go.Extern
theorem Tryz.valueOfPP (t : Addr) (w : World) : (ReflectliteValue.unpack (.iface 128 (.pointer (some t)))).run Tryz.prog w
    = .ok (.agg #[.pointer (some ⟨4, 128, none⟩), .pointer (some ⟨w.heap.size, 0, none⟩), .int .u64 150]) (w.alloc (.cells #[.pointer (some t)] 128)) := by kernel_rfl
theorem Tryz.typePP (a : Addr) (w : World) : (ReflectliteValue.methodAny (ReflectliteValue.valueError "reflectlite.Value.Type" 0) (fun t _ _ _ => ReflectliteType.toType t) #[.agg #[.pointer (some ⟨4, 128, none⟩), .pointer (some a), .int .u64 150]]).run Tryz.prog w
    = .ok (.iface 238 (.agg #[.pointer (some ⟨4, 128, none⟩)])) w := by kernel_rfl
theorem Tryz.methodKind (h : Value) (w : World) : (Go.method 458 238 (.agg #[h]) "Kind").run Tryz.prog w = .ok (220, h) w := by kernel_rfl
theorem Tryz.kindPP (w : World) : ((ReflectliteType.abiMethod fun t => (fun a : Nat => Value.int IntKind.u8 (a : Int)) <$> Rtype.kind t) #[.pointer (some ⟨4, 128, none⟩)]).run Tryz.prog w = .ok (.int .u8 22) w := by kernel_rfl
theorem Tryz.kindP (w : World) : ((ReflectliteType.abiMethod fun t => (fun a : Nat => Value.int IntKind.u8 (a : Int)) <$> Rtype.kind t) #[.pointer (some ⟨4, 46, none⟩)]).run Tryz.prog w = .ok (.int .u8 22) w := by kernel_rfl
theorem rlm (z : Sem Value) (f : TypeId → Addr → Nat → Nat → Sem Value) (v : Value) :
    ReflectliteValue.method z f #[v] = (do match ← ReflectliteValue.parts v with | none => z | some (t, a, fl) => f t a fl (fl % 32)) := rfl
theorem Tryz.partsPP (a : Addr) (w : World) : (ReflectliteValue.parts (.agg #[.pointer (some ⟨4, 128, none⟩), .pointer (some a), .int .u64 150])).run Tryz.prog w = .ok (some (128, a, 150)) w := by kernel_rfl
theorem Tryz.isNilPP (a p : Addr) (W : World) (ha : W.cell? a = some (.pointer (some p))) :
    (ReflectliteValue.method (ReflectliteValue.valueError "reflectlite.Value.IsNil" 0) ReflectliteValue.isNil #[.agg #[.pointer (some ⟨4, 128, none⟩), .pointer (some a), .int .u64 150]]).run Tryz.prog W = .ok (.bool false) W := by
  rw [rlm]
  simp only [Sem.run_bind, Tryz.partsPP, Result.andThen]
  simp [ReflectliteValue.isNil, loadVar, isAgg, underlying, Tryz.underlying128, ha, Result.andThen]
theorem Tryz.methodElem (h : Value) (w : World) : (Go.method 458 238 (.agg #[h]) "Elem").run Tryz.prog w = .ok (259, .agg #[h]) w := by kernel_rfl
theorem Tryz.methodImplements (h : Value) (w : World) : (Go.method 458 238 (.agg #[h]) "Implements").run Tryz.prog w = .ok (260, .agg #[h]) w := by kernel_rfl
theorem Tryz.methodAssignableTo (h : Value) (w : World) : (Go.method 458 238 (.agg #[h]) "AssignableTo").run Tryz.prog w = .ok (257, .agg #[h]) w := by kernel_rfl
theorem Tryz.methodComparable (h : Value) (w : World) : (Go.method 458 238 (.agg #[h]) "Comparable").run Tryz.prog w = .ok (258, .agg #[h]) w := by kernel_rfl
theorem Tryz.elemPP (w : World) : (ReflectliteType.method ReflectliteType.elem #[.agg #[.pointer (some ⟨4, 128, none⟩)]]).run Tryz.prog w = .ok (.iface 238 (.agg #[.pointer (some ⟨4, 46, none⟩)])) w := by kernel_rfl
theorem Tryz.implementsP (w : World) : (ReflectliteType.relation "Implements" ReflectliteType.implements_ #[.agg #[.pointer (some ⟨4, 46, none⟩)], .iface 238 (.agg #[.pointer (some ⟨4, 32, none⟩)])]).run Tryz.prog w = .ok (.bool true) w := by kernel_rfl
theorem Tryz.typeOfP (v : Value) (w : World) : (ReflectliteType.typeOf #[.iface 46 v]).run Tryz.prog w = .ok (.iface 238 (.agg #[.pointer (some ⟨4, 46, none⟩)])) w := by kernel_rfl
theorem Tryz.assignableP (w : World) : (ReflectliteType.relation "AssignableTo" ReflectliteType.assignableTo #[.agg #[.pointer (some ⟨4, 46, none⟩)], .iface 238 (.agg #[.pointer (some ⟨4, 46, none⟩)])]).run Tryz.prog w = .ok (.bool true) w := by kernel_rfl
theorem Tryz.valueOfP (e : Addr) (w : World) : (ReflectliteValue.unpack (.iface 46 (.pointer (some e)))).run Tryz.prog w
    = .ok (.agg #[.pointer (some ⟨4, 46, none⟩), .pointer (some ⟨w.heap.size, 0, none⟩), .int .u64 150]) (w.alloc (.cells #[.pointer (some e)] 46)) := by kernel_rfl
theorem Tryz.elemOfPP (w : World) : (Rtype.elem? 128).run Tryz.prog w = .ok (some 46) w := by kernel_rfl
theorem Tryz.mkP (p : Addr) (w : World) : (ReflectliteValue.mk 46 p ReflectliteValue.flagAddr).run Tryz.prog w = .ok (.agg #[.pointer (some ⟨4, 46, none⟩), .pointer (some p), .int .u64 406]) w := by kernel_rfl
theorem Tryz.elemVPP (a p : Addr) (W : World) (ha : W.cell? a = some (.pointer (some p))) :
    (ReflectliteValue.method (ReflectliteValue.valueError "reflectlite.Value.Elem" 0) ReflectliteValue.elem #[.agg #[.pointer (some ⟨4, 128, none⟩), .pointer (some a), .int .u64 150]]).run Tryz.prog W
      = .ok (.agg #[.pointer (some ⟨4, 46, none⟩), .pointer (some p), .int .u64 406]) W := by
  rw [rlm]
  simp only [Sem.run_bind, Tryz.partsPP, Result.andThen]
  simp [ReflectliteValue.elem, loadVar, isAgg, underlying, Tryz.underlying128, ha, Result.andThen, Tryz.elemOfPP, Tryz.mkP]
theorem rls (v x : Value) : ReflectliteValue.set #[v, x] = (do
    let (some (dst, a, fl), some (src, b, _)) := (← ReflectliteValue.parts v, ← ReflectliteValue.parts x)
      | unsupported (.noEntry "extern/(internal/reflectlite.Value).Set.zeroValue")
    if fl / ReflectliteValue.flagAddr % 2 == 0 then unsupported (.noEntry "extern/(internal/reflectlite.Value).Set.unaddressable")
    let val ← loadVar src b
    if ← Rtype.directlyAssignable dst src then storeVar dst a val
    else if ← Rtype.implements dst src then
      if (← Rtype.kind src) == 20 then
        match val with
        | .nilIface => unsupported (.noEntry "extern/reflectlite: a nil value of one interface type handed on as a value of another")
        | _ => storeVar dst a val
      else storeVar dst a (.iface src val)
    else panicString ("reflectlite.Set: value of type " ++ (← Rtype.spelt src) ++ " is not assignable to type " ++ (← Rtype.spelt dst))
    pure (.tuple #[])) := rfl
theorem Tryz.partsPa (a : Addr) (w : World) : (ReflectliteValue.parts (.agg #[.pointer (some ⟨4, 46, none⟩), .pointer (some a), .int .u64 406])).run Tryz.prog w = .ok (some (46, a, 406)) w := by kernel_rfl
theorem Tryz.partsP (a : Addr) (w : World) : (ReflectliteValue.parts (.agg #[.pointer (some ⟨4, 46, none⟩), .pointer (some a), .int .u64 150])).run Tryz.prog w = .ok (some (46, a, 150)) w := by kernel_rfl
theorem Tryz.directP (w : World) : (Rtype.directlyAssignable 46 46).run Tryz.prog w = .ok true w := by kernel_rfl
theorem Tryz.setP (ta b e : Addr) (old : Value) (W : World) (hb : W.cell? b = some (.pointer (some e))) (ht : W.cell? ta = some old) (hf : W.frozen? ta = false) :
    (ReflectliteValue.set #[.agg #[.pointer (some ⟨4, 46, none⟩), .pointer (some ta), .int .u64 406], .agg #[.pointer (some ⟨4, 46, none⟩), .pointer (some b), .int .u64 150]]).run Tryz.prog W
      = .ok (.tuple #[]) (W.setCell ta (.pointer (some e))) := by
  rw [rls]
  simp only [Sem.run_bind, Tryz.partsPa, Tryz.partsP, Result.andThen]
  simp [ReflectliteValue.flagAddr, loadVar, isAgg, underlying, Tryz.underlying46, hb, Result.andThen, Tryz.directP, storeVar, Value.cells, storeCells, Addr.add]
  rw [run_store Tryz.prog W ta _ _ (by rfl)]
  simp [ht, hf]
theorem Tryz.hasIsP (v : Value) (xT : TypeId) (w : World) : (Instr.typeAssert (.iface 46 v) xT 240 true).run Tryz.prog w = .ok (.tuple #[.iface 46 v, .bool true]) w := run_typeAssert_hasB Tryz.underlying240 (by kernel_rfl) v xT w
theorem Tryz.hasUnwrapP (v : Value) (xT : TypeId) (w : World) : (Instr.typeAssert (.iface 46 v) xT 243 true).run Tryz.prog w = .ok (.tuple #[.iface 46 v, .bool true]) w := run_typeAssert_hasB Tryz.underlying243 (by kernel_rfl) v xT w
theorem Tryz.methodErrorP (v : Value) (w : World) : (Go.method 458 46 v "Error").run Tryz.prog w = .ok (224, v) w := by kernel_rfl
theorem Tryz.methodUnwrapP (v : Value) (w : World) : (Go.method 458 46 v "Unwrap").run Tryz.prog w = .ok (226, v) w := by kernel_rfl
theorem Tryz.methodIsP (v : Value) (w : World) : (Go.method 458 46 v "Is").run Tryz.prog w = .ok (225, v) w := by kernel_rfl
end Go.Proofs.YtdfhfmdelinemaaGreatDoor
namespace Go.Proofs.YtdfhfmdelinemaaGreatDoor
open Go.RowKit Go.Extern.Stop Go.Stop Go.Extern
def Held (w : World) : Prop := w.cell? ⟨0, 0, none⟩ = some (.iface 238 (.agg #[.pointer (some ⟨4, 32, none⟩)]))
theorem Held.pos {w : World} (h : Held w) : 0 < w.heap.size := by
  rcases Nat.eq_zero_or_pos w.heap.size with h0 | h1
  · unfold Held at h
    simp [World.cell?, h0] at h
  · exact h1
theorem Held.below {w w' : World} {B : Nat} (h : Held w) (hb : Below B w w') (hB : 0 < B) : Held w' := by
  unfold Held at *
  rw [hb.cell (p := ⟨0, 0, none⟩) hB]; exact h
theorem lt_of_cell {w : World} {a : Addr} {v : Value} (h : w.cell? a = some v) : a.block < w.heap.size := by
  rcases Nat.lt_or_ge a.block w.heap.size with h1 | h1
  · exact h1
  · simp [World.cell?, Array.getElem?_eq_none h1] at h
def HitAt (w : World) (t e : Addr) (ev : Ending) (w' : World) : Prop :=
  ev = .returned (.bool true) ∧ ∃ w1, Below w.heap.size w w1 ∧ w' = w1.setCell t (.pointer (some e))
def MissAt (w : World) (ev : Ending) (w' : World) : Prop := ev = .returned (.bool false) ∧ Below w.heap.size w w'
theorem call_valueOf (args : Array Value) (w : World) : (callFunc 113 args).run Tryz.prog w = ((((fun args => ReflectliteValue.unpack (args.getD 0 (.tuple #[])))) args).run Tryz.prog w).andThen fun v w1 => .ok (.value v) w1 :=
  run_callFunc_extern (e := ((fun args => ReflectliteValue.unpack (args.getD 0 (.tuple #[]))))) Tryz.func113 (by kernel_rfl) (by kernel_rfl) (by kernel_rfl) (by kernel_rfl) args w
theorem call_type (args : Array Value) (w : World) : (callFunc 114 args).run Tryz.prog w = ((((ReflectliteValue.methodAny (ReflectliteValue.valueError "reflectlite.Value.Type" 0) (fun t _ _ _ => ReflectliteType.toType t))) args).run Tryz.prog w).andThen fun v w1 => .ok (.value v) w1 :=
  run_callFunc_extern (e := ((ReflectliteValue.methodAny (ReflectliteValue.valueError "reflectlite.Value.Type" 0) (fun t _ _ _ => ReflectliteType.toType t)))) Tryz.func114 (by kernel_rfl) (by kernel_rfl) (by kernel_rfl) (by kernel_rfl) args w
theorem call_isNil (args : Array Value) (w : World) : (callFunc 115 args).run Tryz.prog w = ((((ReflectliteValue.method (ReflectliteValue.valueError "reflectlite.Value.IsNil" 0) ReflectliteValue.isNil)) args).run Tryz.prog w).andThen fun v w1 => .ok (.value v) w1 :=
  run_callFunc_extern (e := ((ReflectliteValue.method (ReflectliteValue.valueError "reflectlite.Value.IsNil" 0) ReflectliteValue.isNil))) Tryz.func115 (by kernel_rfl) (by kernel_rfl) (by kernel_rfl) (by kernel_rfl) args w
theorem call_kind (args : Array Value) (w : World) : (callFunc 220 args).run Tryz.prog w = ((((ReflectliteType.abiMethod fun t => do pure (.int .u8 (← Rtype.kind t)))) args).run Tryz.prog w).andThen fun v w1 => .ok (.value v) w1 :=
  run_callFunc_extern (e := ((ReflectliteType.abiMethod fun t => do pure (.int .u8 (← Rtype.kind t))))) Tryz.func220 (by kernel_rfl) (by kernel_rfl) (by kernel_rfl) (by kernel_rfl) args w
theorem call_elemT (args : Array Value) (w : World) : (callFunc 259 args).run Tryz.prog w = ((((ReflectliteType.method ReflectliteType.elem)) args).run Tryz.prog w).andThen fun v w1 => .ok (.value v) w1 :=
  run_callFunc_extern (e := ((ReflectliteType.method ReflectliteType.elem))) Tryz.func259 (by kernel_rfl) (by kernel_rfl) (by kernel_rfl) (by kernel_rfl) args w
theorem call_implements (args : Array Value) (w : World) : (callFunc 260 args).run Tryz.prog w = ((((ReflectliteType.relation "Implements" ReflectliteType.implements_)) args).run Tryz.prog w).andThen fun v w1 => .ok (.value v) w1 :=
  run_callFunc_extern (e := ((ReflectliteType.relation "Implements" ReflectliteType.implements_))) Tryz.func260 (by kernel_rfl) (by kernel_rfl) (by kernel_rfl) (by kernel_rfl) args w
theorem call_typeOf (args : Array Value) (w : World) : (callFunc 93 args).run Tryz.prog w = (((ReflectliteType.typeOf) args).run Tryz.prog w).andThen fun v w1 => .ok (.value v) w1 :=
  run_callFunc_extern (e := ReflectliteType.typeOf) Tryz.func93 (by kernel_rfl) (by kernel_rfl) (by kernel_rfl) (by kernel_rfl) args w
theorem call_assignable (args : Array Value) (w : World) : (callFunc 257 args).run Tryz.prog w = ((((ReflectliteType.relation "AssignableTo" ReflectliteType.assignableTo)) args).run Tryz.prog w).andThen fun v w1 => .ok (.value v) w1 :=
  run_callFunc_extern (e := ((ReflectliteType.relation "AssignableTo" ReflectliteType.assignableTo))) Tryz.func257 (by kernel_rfl) (by kernel_rfl) (by kernel_rfl) (by kernel_rfl) args w
theorem call_elemV (args : Array Value) (w : World) : (callFunc 157 args).run Tryz.prog w = ((((ReflectliteValue.method (ReflectliteValue.valueError "reflectlite.Value.Elem" 0) ReflectliteValue.elem)) args).run Tryz.prog w).andThen fun v w1 => .ok (.value v) w1 :=
  run_callFunc_extern (e := ((ReflectliteValue.method (ReflectliteValue.valueError "reflectlite.Value.Elem" 0) ReflectliteValue.elem))) Tryz.func157 (by kernel_rfl) (by kernel_rfl) (by kernel_rfl) (by kernel_rfl) args w
theorem call_set (args : Array Value) (w : World) : (callFunc 158 args).run Tryz.prog w = (((ReflectliteValue.set) args).run Tryz.prog w).andThen fun v w1 => .ok (.value v) w1 :=
  run_callFunc_extern (e := ReflectliteValue.set) Tryz.func158 (by kernel_rfl) (by kernel_rfl) (by kernel_rfl) (by kernel_rfl) args w
theorem call_comparableP (w : World) : (callFunc 258 #[.agg #[.pointer (some ⟨4, 46, none⟩)]]).run Tryz.prog w = .ok (.value (.bool true)) w := by kernel_rfl
theorem as_hit (e t tv : Addr) (old : Value) (w : World) (htv : w.cell? tv = some (.pointer (some t))) (ht0 : w.cell? t = some old) (hf0 : w.frozen? t = false) :
    Calls Tryz.prog 116 #[.iface 46 (.pointer (some e)), .iface 128 (.pointer (some t)), .agg #[.pointer (some ⟨4, 128, none⟩), .pointer (some tv), .int .u64 150], .iface 238 (.agg #[.pointer (some ⟨4, 46, none⟩)])] w (HitAt w t e) := by
  have htl := lt_of_cell ht0
  have htvl := lt_of_cell htv
  have h10 := call_typeOf
  have h35 := call_assignable
  have h6 := call_valueOf
  have h11 := call_elemV
  have h12 := call_set
  have tO := Tryz.typeOfP
  have mA := Tryz.methodAssignableTo
  have a25 := Tryz.assignableP
  have v25 := Tryz.valueOfP
  have el := Tryz.elemVPP tv t (w.alloc (.cells #[.pointer (some ⟨4, 128, none⟩), .pointer (some tv), .int .u64 150] 199)) (by rw [World.cell?_alloc_lt _ _ tv htvl]; exact htv)
  have st := Tryz.setP t ⟨w.heap.size + 1, 0, none⟩ e old ((w.alloc (.cells #[.pointer (some ⟨4, 128, none⟩), .pointer (some tv), .int .u64 150] 199)).alloc (.cells #[.pointer (some e)] 46))
    (by rw [World.cell?_alloc_at _ _ _ _ (by simp)]; rfl)
    (by rw [World.cell?_alloc_lt _ _ t (by simp; omega), World.cell?_alloc_lt _ _ t htl]; exact ht0)
    (by rw [World.frozen?_alloc_old _ _ t (by simp; omega), World.frozen?_alloc_old _ _ t (Nat.ne_of_lt htl)]; exact hf0)
  go_enter Tryz.func116, Tryz.ntmps116
  go_wp2
  refine wp_loop_rounds 1 ?_
  rw [rounds_succ]
  go_wp2
  go_ret
  exact ⟨rfl, _, ((Below.refl _ _).alloc (Nat.le_refl _) _).alloc (by simp) _, rfl⟩
theorem As_nil (t : Value) (w : World) :
    Calls Tryz.prog 63 #[.nilIface, t] w (MissAt w) := by
  go_enter Tryz.func63, Tryz.ntmps63
  go_wp2
  go_ret
  exact ⟨rfl, Below.refl _ _⟩
theorem As_some (u : TypeId) (x : Value) (t : Addr) (w : World) (hg : Held w) {R : Ending → World → Prop}
    (H : ∀ (tv : Addr) (W : World), Below w.heap.size w W → W.cell? tv = some (.pointer (some t)) →
      Calls Tryz.prog 116 #[.iface u x, .iface 128 (.pointer (some t)), .agg #[.pointer (some ⟨4, 128, none⟩), .pointer (some tv), .int .u64 150], .iface 238 (.agg #[.pointer (some ⟨4, 46, none⟩)])] W (fun e w' => ∃ b : Bool, e = .returned (.bool b) ∧ R e w')) :
    Calls Tryz.prog 63 #[.iface u x, .iface 128 (.pointer (some t))] w R := by
  have h6 := call_valueOf
  have h7 := call_type
  have h8 := call_isNil
  have h27 := call_kind
  have h37 := call_elemT
  have h38 := call_implements
  have f6 := Tryz.valueOfPP
  have f7 := Tryz.typePP
  have mK := Tryz.methodKind
  have mE := Tryz.methodElem
  have mI := Tryz.methodImplements
  have k27 := Tryz.kindPP
  have k25 := Tryz.kindP
  have e27 := Tryz.elemPP
  have i25 := Tryz.implementsP
  have n8 := Tryz.isNilPP ⟨w.heap.size, 0, none⟩ t ((w.alloc (.cells #[.pointer (some t)] 128)).alloc (.cells #[.pointer (some ⟨4, 128, none⟩), .pointer (some ⟨w.heap.size, 0, none⟩), .int .u64 150] 199)) (by simp)
  have hlt := hg.pos
  have hg2 : ((w.alloc (.cells #[.pointer (some t)] 128)).alloc (.cells #[.pointer (some ⟨4, 128, none⟩), .pointer (some ⟨w.heap.size, 0, none⟩), .int .u64 150] 199)).cell? ⟨0, 0, none⟩ = some (.iface 238 (.agg #[.pointer (some ⟨4, 32, none⟩)])) := by
    rw [World.cell?_alloc_lt _ _ ⟨0, 0, none⟩ (by simp), World.cell?_alloc_lt _ _ ⟨0, 0, none⟩ hlt]; exact hg
  have hne := run_eql_held_nil (P := Tryz.prog) w 32 u x (by kernel_rfl)
  go_enter Tryz.func63, Tryz.ntmps63
  go_wp2_with (go_at_call 116; refine (H _ _ (((Below.refl _ _).alloc (Nat.le_refl _) _).alloc (by simp) _) (by simp)).mono ?_; rintro e w' ⟨b, rfl, hR⟩)
  exact hR
end Go.Proofs.YtdfhfmdelinemaaGreatDoor
namespace Go.Proofs.YtdfhfmdelinemaaGreatDoor
open Go.RowKit Go.Extern.Stop Go.Stop Go.Extern
theorem bcell {W W1 : World} {B : Nat} (hb : Below B W W1) : (∀ b o, b < B → W1.cell? ⟨b, o, none⟩ = W.cell? ⟨b, o, none⟩) ∧ (∀ b o, b < B → W1.frozen? ⟨b, o, none⟩ = W.frozen? ⟨b, o, none⟩) :=
  ⟨fun b o h => hb.cell (p := ⟨b, o, none⟩) h, fun b o h => hb.frozen (p := ⟨b, o, none⟩) h⟩
def AsHit (w : World) (err : Value) (b : Addr) : Prop := ∀ (W : World) (t : Addr), Below w.heap.size w W → W.cell? t = some (.pointer none) → W.frozen? t = false →
  Calls Tryz.prog 63 #[err, .iface 128 (.pointer (some t))] W (HitAt W t b)
def AsMiss (w : World) (err : Value) : Prop := ∀ (W : World) (t : Addr), Below w.heap.size w W → W.cell? t = some (.pointer none) →
  Calls Tryz.prog 63 #[err, .iface 128 (.pointer (some t))] W (MissAt W)
theorem AsHit.later {w w' : World} {err : Value} {b : Addr} (h : AsHit w err b) (hb : Below w.heap.size w w') : AsHit w' err b :=
  fun W t hW hc hf => h W t (hb.trans (hW.mono hb.size)) hc hf
theorem AsMiss.later {w w' : World} {err : Value} (h : AsMiss w err) (hb : Below w.heap.size w w') : AsMiss w' err :=
  fun W t hW hc => h W t (hb.trans (hW.mono hb.size)) hc
theorem asMiss_nil (w : World) : AsMiss w .nilIface := fun W _ _ _ => As_nil _ W
theorem asHit_trap (w : World) (hg : Held w) (e : Addr) : AsHit w (.iface 46 (.pointer (some e))) e := fun W t hW hc hf => by
  have htl := lt_of_cell hc
  refine As_some _ _ t W (hg.below hW hg.pos) (fun tv W2 hb htv => (as_hit e t tv (.pointer none) W2 htv ?_ ?_).mono ?_)
  · rw [hb.cell htl]; exact hc
  · rw [hb.frozen htl]; exact hf
  · rintro ev w' ⟨rfl, w1, h1, rfl⟩
    exact ⟨true, rfl, rfl, w1, hb.trans (h1.mono hb.size), rfl⟩
theorem catch_idle (p q : Addr) (w : World) :
    CallsD Tryz.prog 62 #[.pointer (some p), .pointer (some q)] .returning w fun e u' w' => e = .returned (.tuple #[]) ∧ u' = .returning ∧ w' = w := by
  refine callsD_of_wpS Tryz.func62 rfl fun c₀ cs hu => ?_
  apply wpS_seq
  apply wpS_region
  simp [wpOpsS, go_sem, recoverD, hu, Tryz.ntmps62, Exit.thenS]
  refine wpS_cond (t := false) (by simp [Act.eval, Array.replicate]) ?_
  simp only [Bool.false_eq_true, if_false]
  refine wpS_of_wp (wp_skip ?_)
  cases c₀
  simp_all [bodyPostS, results, Tryz.results62]
theorem first_hit (err : Value) (b : Addr) (w : World) (H : AsHit w err b) :
    Calls Tryz.prog 17 #[err] w fun e w' => e = .returned (.tuple #[.pointer (some b), .bool true]) ∧ Below w.heap.size w w' := by
  have hmf : ∀ (fn : Fn) (first cap : Array Value) (w : World), (Instr.makeFunc fn first cap).run Tryz.prog w = .ok (.func fn first cap) w := fun _ _ _ _ => rfl
  have hc : (((w.alloc (.cells #[.pointer none] 46)).alloc (.cells #[.bool false] 4)).alloc (.cells #[.pointer none] 46)).cell? ⟨w.heap.size + 1 + 1, 0, none⟩ = some (.pointer none) := by rw [World.cell?_alloc_at _ _ _ _ (by simp)]; rfl
  have hf : (((w.alloc (.cells #[.pointer none] 46)).alloc (.cells #[.bool false] 4)).alloc (.cells #[.pointer none] 46)).frozen? ⟨w.heap.size + 1 + 1, 0, none⟩ = false := by rw [World.frozen?_alloc_at _ _ _ _ (by simp)]
  have H1 := H _ ⟨w.heap.size + 1 + 1, 0, none⟩ ((((Below.refl _ _).alloc (Nat.le_refl _) _).alloc (by simp) _).alloc (by simp; omega) _) hc hf
  have HH := Lib.hid H1
  clear H1 H hc hf
  go_enter_defers Tryz.func17, Tryz.ntmps17
  go_wp2_with fail
  refine HH.out.mono ?_
  rintro e w' ⟨rfl, w1, hb, rfl⟩
  have hb0 : Hid (Below w.heap.size w w1) := ((((Below.refl _ _).alloc (Nat.le_refl _) _).alloc (by simp) _).alloc (by simp; omega) _).trans (hb.mono (by simp; omega))
  have c0 : w1.cell? ⟨w.heap.size, 0, none⟩ = some (.pointer none) := by
    rw [hb.cell (p := ⟨w.heap.size, 0, none⟩) (by simp; omega), World.cell?_alloc_lt _ _ ⟨w.heap.size, 0, none⟩ (by simp; omega), World.cell?_alloc_lt _ _ ⟨w.heap.size, 0, none⟩ (by simp), World.cell?_alloc_at _ _ _ _ rfl]; rfl
  have c1 : w1.cell? ⟨w.heap.size + 1, 0, none⟩ = some (.bool false) := by
    rw [hb.cell (p := ⟨w.heap.size + 1, 0, none⟩) (by simp), World.cell?_alloc_lt _ _ ⟨w.heap.size + 1, 0, none⟩ (by simp), World.cell?_alloc_at _ _ _ _ (by simp)]; rfl
  have c2 : w1.cell? ⟨w.heap.size + 1 + 1, 0, none⟩ = some (.pointer none) := by
    rw [hb.cell (p := ⟨w.heap.size + 1 + 1, 0, none⟩) (by simp), World.cell?_alloc_at _ _ _ _ (by simp)]; rfl
  have f0 : w1.frozen? ⟨w.heap.size, 0, none⟩ = false := by
    rw [hb.frozen (p := ⟨w.heap.size, 0, none⟩) (by simp; omega), World.frozen?_alloc_past _ _ _ (by simp; omega), World.frozen?_alloc_past _ _ _ (by simp), World.frozen?_alloc_at _ _ _ _ rfl]
  have f1 : w1.frozen? ⟨w.heap.size + 1, 0, none⟩ = false := by
    rw [hb.frozen (p := ⟨w.heap.size + 1, 0, none⟩) (by simp), World.frozen?_alloc_past _ _ _ (by simp), World.frozen?_alloc_at _ _ _ _ (by simp)]
  clear hb
  go_wp2
  refine leaves_cons (f := 62) (args := #[.pointer (some ⟨w.heap.size, 0, none⟩), .pointer (some ⟨w.heap.size + 1, 0, none⟩)]) (by simp) (by simp [go_sem]) ?_
  refine (catch_idle _ _ _).mono ?_
  rintro e u' w'' ⟨rfl, rfl, rfl⟩
  simp [Leaves, settle, results, Tryz.results17, go_sem, c0, c1]
  exact ((hb0.out.setCell (by simp; omega) _).setCell (by simp) _).setCell (by simp) _
theorem first_miss (err : Value) (w : World) (H : AsMiss w err) :
    Calls Tryz.prog 17 #[err] w fun e w' => e = .returned (.tuple #[.pointer none, .bool false]) ∧ Below w.heap.size w w' := by
  have hmf : ∀ (fn : Fn) (first cap : Array Value) (w : World), (Instr.makeFunc fn first cap).run Tryz.prog w = .ok (.func fn first cap) w := fun _ _ _ _ => rfl
  have hc : (((w.alloc (.cells #[.pointer none] 46)).alloc (.cells #[.bool false] 4)).alloc (.cells #[.pointer none] 46)).cell? ⟨w.heap.size + 1 + 1, 0, none⟩ = some (.pointer none) := by rw [World.cell?_alloc_at _ _ _ _ (by simp)]; rfl
  have H1 := H _ ⟨w.heap.size + 1 + 1, 0, none⟩ ((((Below.refl _ _).alloc (Nat.le_refl _) _).alloc (by simp) _).alloc (by simp; omega) _) hc
  have HH := Lib.hid H1
  clear H1 H hc
  go_enter_defers Tryz.func17, Tryz.ntmps17
  go_wp2_with fail
  refine HH.out.mono ?_
  rintro e w1 ⟨rfl, hb⟩
  have hb0 : Hid (Below w.heap.size w w1) := ((((Below.refl _ _).alloc (Nat.le_refl _) _).alloc (by simp) _).alloc (by simp; omega) _).trans (hb.mono (by simp; omega))
  have c0 : w1.cell? ⟨w.heap.size, 0, none⟩ = some (.pointer none) := by
    rw [hb.cell (p := ⟨w.heap.size, 0, none⟩) (by simp; omega), World.cell?_alloc_lt _ _ ⟨w.heap.size, 0, none⟩ (by simp; omega), World.cell?_alloc_lt _ _ ⟨w.heap.size, 0, none⟩ (by simp), World.cell?_alloc_at _ _ _ _ rfl]; rfl
  have c1 : w1.cell? ⟨w.heap.size + 1, 0, none⟩ = some (.bool false) := by
    rw [hb.cell (p := ⟨w.heap.size + 1, 0, none⟩) (by simp), World.cell?_alloc_lt _ _ ⟨w.heap.size + 1, 0, none⟩ (by simp), World.cell?_alloc_at _ _ _ _ (by simp)]; rfl
  have f0 : w1.frozen? ⟨w.heap.size, 0, none⟩ = false := by
    rw [hb.frozen (p := ⟨w.heap.size, 0, none⟩) (by simp; omega), World.frozen?_alloc_past _ _ _ (by simp; omega), World.frozen?_alloc_past _ _ _ (by simp), World.frozen?_alloc_at _ _ _ _ rfl]
  have f1 : w1.frozen? ⟨w.heap.size + 1, 0, none⟩ = false := by
    rw [hb.frozen (p := ⟨w.heap.size + 1, 0, none⟩) (by simp), World.frozen?_alloc_past _ _ _ (by simp), World.frozen?_alloc_at _ _ _ _ (by simp)]
  clear hb
  go_wp2
  refine leaves_cons (f := 62) (args := #[.pointer (some ⟨w.heap.size, 0, none⟩), .pointer (some ⟨w.heap.size + 1, 0, none⟩)]) (by simp) (by simp [go_sem]) ?_
  refine (catch_idle _ _ _).mono ?_
  rintro e u' w'' ⟨rfl, rfl, rfl⟩
  simp [Leaves, settle, results, Tryz.results17, go_sem, c0, c1]
  exact (hb0.out.setCell (by simp) _).setCell (by simp) _
end Go.Proofs.YtdfhfmdelinemaaGreatDoor
namespace Go.Proofs.YtdfhfmdelinemaaGreatDoor
open Go.RowKit Go.Extern.Stop Go.Stop Go.Extern
section
variable {P : Program} (w : World)
theorem run_neq_iface_ptr_same {ti tp te : TypeId} {ms : Array (String × TypeId)} {i j : TypeInfo} (a : Addr)
    (hi : P.underlying ti = some (.interface ms)) (hp : P.underlying tp = some (.pointer te)) (hinfo : P.info? tp = some i) (hcomp : i.comparable = true) (hte : P.info? te = some j) :
    (Go.binOp .neq ti (.iface tp (.pointer (some a))) (.iface tp (.pointer (some a)))).run P w = .ok (.bool false) w := by
  simp only [Go.binOp]
  simp [Op.equal, Op.maxDepth, run_equalIn_iface_ptr_same w 9998 a hi hp hinfo hcomp hte]
end
def TrapAt (w : World) (b : Nat) (c env : Int) (k0 k1 k2 k3 k4 v : Value) : Prop :=
  w.heap[b]? = some (.cells #[.int .i64 c, .int .i64 env, k0, k1, k2, k3, k4, v] 50 (0, 0))
theorem cell_of_block {w : World} {b : Nat} {cs : Array Value} {t : TypeId} (h : w.heap[b]? = some (.cells cs t (0, 0))) (i : Nat) : w.cell? ⟨b, i, none⟩ = cs[i]? := by
  simp [World.cell?, h]
theorem lt_of_block {w : World} {b : Nat} {o : Obj} (h : w.heap[b]? = some o) : b < w.heap.size := by
  rcases Nat.lt_or_ge b w.heap.size with h1 | h1
  · exact h1
  · simp [Array.getElem?_eq_none h1] at h
theorem TrapAt.later {w w' : World} {b B : Nat} {c env : Int} {k0 k1 k2 k3 k4 v : Value} (h : TrapAt w b c env k0 k1 k2 k3 k4 v) (hb : Below B w w') (hB : b < B) : TrapAt w' b c env k0 k1 k2 k3 k4 v := by
  unfold TrapAt at *
  rw [hb.block b hB]; exact h
theorem below_drewN (B : Nat) (w : World) (n : Nat) : Below B w (w.drewN n) := ⟨rfl, rfl, rfl, Nat.le_refl _, fun _ _ => rfl⟩
theorem of_zero (w : World) : Calls Tryz.prog 42 #[.int .i64 0] w fun e w' => e = .returned .nilIface ∧ w' = w := by
  go_enter Tryz.func42, Tryz.ntmps42
  go_wp2
  go_ret
  exact ⟨rfl, rfl⟩
theorem of_some (c : Int) (hc : (c == 0) = false) (w : World) :
    Calls Tryz.prog 42 #[.int .i64 c] w fun e w' => e = .returned (.iface 46 (.pointer (some ⟨w.heap.size, 0, none⟩))) ∧ w' = w.alloc (.cells #[.int .i64 c, .int .i64 (-1), .int .u64 0, .int .u64 0, .int .u64 0, .int .u64 0, .int .u64 0, .nilIface] 50) := by
  go_enter Tryz.func42, Tryz.ntmps42
  go_wp2
  go_ret
  exact ⟨rfl, rfl⟩
theorem code_nil (w : World) : Calls Tryz.prog 14 #[.nilIface] w fun e w' => e = .returned (.int .i64 0) ∧ w' = w := by
  go_enter Tryz.func14, Tryz.ntmps14
  go_wp2
  go_ret
  exact ⟨rfl, rfl⟩
theorem code_hit (u : TypeId) (x : Value) (b : Nat) (c : Value) (w : World) (H : AsHit w (.iface u x) ⟨b, 0, none⟩) (hc : w.cell? ⟨b, 0, none⟩ = some c) :
    Calls Tryz.prog 14 #[.iface u x] w fun e w' => e = .returned c ∧ Below w.heap.size w w' := by
  have hl := lt_of_cell hc
  have hne := fun w => run_eql_held_nil (P := Tryz.prog) w 32 u x (by kernel_rfl)
  go_enter Tryz.func14, Tryz.ntmps14
  go_wp2_with (go_at_call 17; refine (first_hit _ _ _ H).mono ?_; rintro e w1 ⟨rfl, hb⟩; have hc1 := (hb.cell (p := ⟨b, 0, none⟩) hl).trans hc)
  go_ret
  exact ⟨rfl, hb⟩
theorem unwrap_some (b : Nat) (v : Value) (w : World) (hc : w.cell? ⟨b, 7, none⟩ = some v) :
    Calls Tryz.prog 226 #[.pointer (some ⟨b, 0, none⟩)] w fun e w' => e = .returned v ∧ w' = w := by
  go_enter Tryz.func226, Tryz.ntmps226
  go_wp2
  go_ret
  exact ⟨rfl, rfl⟩
theorem Tryz.isCompP : (Tryz.prog.info? 46).map (·.comparable) = some true := by kernel_rfl
theorem Tryz.isSizeP : (Tryz.prog.info? 50).map (·.size) = some 8 := by kernel_rfl
theorem itself_trap (b : Nat) (w : World) (H : AsHit w (.iface 46 (.pointer (some ⟨b, 0, none⟩))) ⟨b, 0, none⟩) :
    Calls Tryz.prog 230 #[.iface 46 (.pointer (some ⟨b, 0, none⟩))] w fun e w' => e = .returned (.tuple #[.pointer (some ⟨b, 0, none⟩), .bool true]) ∧ Below w.heap.size w w' := by
  obtain ⟨i, hi, hcmp⟩ := Option.map_eq_some_iff.1 Tryz.isCompP
  obtain ⟨j, hj, _⟩ := Option.map_eq_some_iff.1 Tryz.isSizeP
  have hne := fun w => run_neq_iface_ptr_same (P := Tryz.prog) w ⟨b, 0, none⟩ Tryz.underlying32 Tryz.underlying46 hi hcmp hj
  go_enter Tryz.func230, Tryz.ntmps230
  go_wp2_with (go_at_call 17; refine (first_hit _ _ _ H).mono ?_; rintro e w1 ⟨rfl, hb⟩)
  go_ret2
  exact ⟨rfl, hb⟩
theorem is_trap (a b : Nat) (c d : Int) (w : World) (H : AsHit w (.iface 46 (.pointer (some ⟨b, 0, none⟩))) ⟨b, 0, none⟩)
    (hc : w.cell? ⟨a, 0, none⟩ = some (.int .i64 c)) (hd : w.cell? ⟨b, 0, none⟩ = some (.int .i64 d)) :
    Calls Tryz.prog 225 #[.pointer (some ⟨a, 0, none⟩), .iface 46 (.pointer (some ⟨b, 0, none⟩))] w fun e w' => e = .returned (.bool (d == c)) ∧ Below w.heap.size w w' := by
  have hal := lt_of_cell hc
  have hbl := lt_of_cell hd
  go_enter Tryz.func225, Tryz.ntmps225
  go_wp2_with (go_at_call 230; refine (itself_trap _ _ H).mono ?_; rintro e w1 ⟨rfl, hb⟩; have hc1 := (hb.cell (p := ⟨a, 0, none⟩) hal).trans hc; have hd1 := (hb.cell (p := ⟨b, 0, none⟩) hbl).trans hd)
  have hb0 := Lib.hid hb
  clear hb
  go_quiet (fail)
  go_wp2
  go_ret
  exact ⟨rfl, hb0.out.trans (below_drewN _ _ _)⟩
end Go.Proofs.YtdfhfmdelinemaaGreatDoor
namespace Go.Proofs.YtdfhfmdelinemaaGreatDoor
open Go.RowKit Go.Extern.Stop Go.Stop Go.Extern
def InPost (w : World) (c env : Int) (k0 k1 k2 k3 k4 err : Value) (e : Ending) (w' : World) : Prop :=
  ∃ b, e = .returned (.iface 46 (.pointer (some ⟨b, 0, none⟩))) ∧ w.heap.size ≤ b ∧ TrapAt w' b c env k0 k1 k2 k3 k4 err ∧ Below w.heap.size w w'
theorem trap_new (W : World) (cs : Array Value) : (W.alloc (.cells cs 50)).heap[W.heap.size]? = some (.cells cs 50 (0, 0)) := (MapKept.heap_alloc W _).1
theorem in_nil (env : Value) (k0 k1 k2 k3 k4 : Value) (w : World) :
    Calls Tryz.prog 45 #[env, .agg #[k0, k1, k2, k3, k4], .nilIface] w fun e w' => e = .returned .nilIface ∧ Below w.heap.size w w' := by
  go_enter Tryz.func45, Tryz.ntmps45
  go_wp2
  go_ret
  exact ⟨rfl, (Below.refl _ _).alloc (Nat.le_refl _) _⟩
theorem in_some (u : TypeId) (x : Value) (c env : Int) (x0 x1 x2 x3 x4 : Int) (w : World)
    (HC0 : ∀ W, Below w.heap.size w W → Calls Tryz.prog 14 #[.iface u x] W (fun e w' => e = .returned (.int .i64 c) ∧ Below W.heap.size W w')) :
    Calls Tryz.prog 45 #[.int .i64 env, .agg #[.int .u64 x0, .int .u64 x1, .int .u64 x2, .int .u64 x3, .int .u64 x4], .iface u x] w
      (InPost w c env (.int .u64 x0) (.int .u64 x1) (.int .u64 x2) (.int .u64 x3) (.int .u64 x4) (.iface u x)) := by
  have HC := Lib.hid HC0
  clear HC0
  have hne := fun w => run_eql_held_nil (P := Tryz.prog) w 32 u x (by kernel_rfl)
  go_enter Tryz.func45, Tryz.ntmps45
  go_wp2_with fail
  go_region_with (go_at_call 14; refine (HC.out _ ?_).mono ?_; exact ((Below.refl _ _).alloc (Nat.le_refl _) _).drew; rintro e w1 ⟨rfl, hb⟩; obtain ⟨hcc, hff⟩ := bcell hb; have hb0 := Lib.hid hb; clear hb)
  all_goals
    go_wp2
    go_ret
    have hb1 := ((((Below.refl w.heap.size w).alloc (Nat.le_refl _) (.cells #[.int .u64 x0, .int .u64 x1, .int .u64 x2, .int .u64 x3, .int .u64 x4] 36)).drew).trans (hb0.out.mono (by simp)))
    exact ⟨_, rfl, hb1.size, trap_new _ _, hb1.alloc hb1.size _⟩
end Go.Proofs.YtdfhfmdelinemaaGreatDoor
namespace Go.Proofs.YtdfhfmdelinemaaGreatDoor
open Go.RowKit Go.Extern.Stop Go.Stop Go.Extern
def Chain (w : World) (c : Int) (z : Value) : Nat → Nat → Value → Prop
  | 0, _, v => v = z
  | n + 1, B, v => ∃ b env k0 k1 k2 k3 k4 v1, v = .iface 46 (.pointer (some ⟨b, 0, none⟩)) ∧ b < B ∧ TrapAt w b c env k0 k1 k2 k3 k4 v1 ∧ Chain w c z n b v1
theorem Chain.later {w w' : World} {c : Int} {z : Value} {D : Nat} (hb : Below D w w') : ∀ {n B : Nat} {v : Value}, B ≤ D → Chain w c z n B v → Chain w' c z n B v
  | 0, _, _, _, h => h
  | _ + 1, _, _, hB, ⟨b, env, k0, k1, k2, k3, k4, v1, e, hlt, ht, hr⟩ =>
    ⟨b, env, k0, k1, k2, k3, k4, v1, e, hlt, ht.later hb (Nat.lt_of_lt_of_le hlt hB), Chain.later hb (Nat.le_of_lt (Nat.lt_of_lt_of_le hlt hB)) hr⟩
theorem Chain.mono {w : World} {c : Int} {z : Value} : ∀ {n B B' : Nat} {v : Value}, B ≤ B' → Chain w c z n B v → Chain w c z n B' v
  | 0, _, _, _, _, h => h
  | _ + 1, _, _, _, hB, ⟨b, env, k0, k1, k2, k3, k4, v1, e, hlt, ht, hr⟩ => ⟨b, env, k0, k1, k2, k3, k4, v1, e, Nat.lt_of_lt_of_le hlt hB, ht, hr⟩
def OfAt (w : World) (t : Nat) (d : Int) : Prop := w.heap[t]? = some (.cells #[.int .i64 d, .int .i64 (-1), .int .u64 0, .int .u64 0, .int .u64 0, .int .u64 0, .int .u64 0, .nilIface] 50 (0, 0))
theorem OfAt.later {w w' : World} {t B : Nat} {d : Int} (h : OfAt w t d) (hb : Below B w w') (hB : t < B) : OfAt w' t d := by
  unfold OfAt at *
  rw [hb.block t hB]; exact h
theorem is_trap_no (a b : Nat) (c d : Int) (hne : (d == c) = false) (w : World) (hg : Held w) (hc : w.cell? ⟨a, 0, none⟩ = some (.int .i64 c)) (hd : w.cell? ⟨b, 0, none⟩ = some (.int .i64 d)) :
    Calls Tryz.prog 225 #[.pointer (some ⟨a, 0, none⟩), .iface 46 (.pointer (some ⟨b, 0, none⟩))] w fun e w' => e = .returned (.bool false) ∧ Below w.heap.size w w' := by
  have h := is_trap a b c d w (asHit_trap w hg _) hc hd
  rw [hne] at h; exact h
theorem is_trap_yes (a b : Nat) (c : Int) (w : World) (hg : Held w) (hc : w.cell? ⟨a, 0, none⟩ = some (.int .i64 c)) (hd : w.cell? ⟨b, 0, none⟩ = some (.int .i64 c)) :
    Calls Tryz.prog 225 #[.pointer (some ⟨a, 0, none⟩), .iface 46 (.pointer (some ⟨b, 0, none⟩))] w fun e w' => e = .returned (.bool true) ∧ Below w.heap.size w w' := by
  have h := is_trap a b c c w (asHit_trap w hg _) hc hd
  rw [beq_self_eq_true] at h; exact h
def blockOf : Value → Nat | .iface _ (.pointer (some a)) => a.block | _ => 0
theorem is_same_code (c : Int) (b t : Nat) (env : Int) (k0 k1 k2 k3 k4 v1 : Value) (w : World) (hg : Held w) (hb : TrapAt w b c env k0 k1 k2 k3 k4 v1) (ht : OfAt w t c) (hne : b ≠ t) :
    Calls Tryz.prog 94 #[.iface 46 (.pointer (some ⟨b, 0, none⟩)), .iface 46 (.pointer (some ⟨t, 0, none⟩)), .bool true] w fun e w' => e = .returned (.bool true) ∧ Below w.heap.size w w' := by
  obtain ⟨i, hi, hcmp⟩ := Option.map_eq_some_iff.1 Tryz.isCompP
  obtain ⟨j, hj, hjs⟩ := Option.map_eq_some_iff.1 Tryz.isSizeP
  have heq := run_eql_iface_ptr_other (P := Tryz.prog) (a := ⟨b, 0, none⟩) (b := ⟨t, 0, none⟩) w Tryz.underlying32 Tryz.underlying46 hi hcmp hj (by rw [hjs]; decide) (fun h => hne (congrArg Addr.block h)) hb ht
  have hIs := Tryz.hasIsP
  have mI := Tryz.methodIsP
  have HI := Lib.hid (is_trap_yes b t c w hg (cell_of_block hb 0) (cell_of_block ht 0))
  clear hg hb ht hi hcmp hj hjs hne
  go_enter Tryz.func94, Tryz.ntmps94
  go_wp2_with fail
  refine wp_loop_rounds 1 ?_
  rw [rounds_succ]
  go_wp2_with (go_at_call 225; refine HI.out.mono ?_; rintro e w1 ⟨rfl, hb⟩)
  go_ret
  exact ⟨rfl, hb⟩
theorem is_chain_no (c d : Int) (hne : (d == c) = false) (n B t : Nat) (v : Value) (w : World) (hg : Held w) (ht : OfAt w t d) (hBt : ∀ b, b < B → b ≠ t) (h : Chain w c .nilIface (n + 1) B v) :
    Calls Tryz.prog 94 #[v, .iface 46 (.pointer (some ⟨t, 0, none⟩)), .bool true] w fun e w' => e = .returned (.bool false) ∧ Below w.heap.size w w' := by
  obtain ⟨i, hi, hcmp⟩ := Option.map_eq_some_iff.1 Tryz.isCompP
  obtain ⟨j, hj, hjs⟩ := Option.map_eq_some_iff.1 Tryz.isSizeP
  have hIs := Tryz.hasIsP
  have hUn := Tryz.hasUnwrapP
  have mI := Tryz.methodIsP
  have mU := Tryz.methodUnwrapP
  have Hne := Lib.hid hne
  clear hne
  have htl := lt_of_block ht
  go_enter Tryz.func94, Tryz.ntmps94
  go_wp2_with fail
  go_loopw [0] (fun v wr => ∃ m C, C ≤ B ∧ Chain wr c .nilIface (m + 1) C v ∧ Below w.heap.size w wr) (fun v _ => blockOf v)
  case atStart => exact ⟨n, B, Nat.le_refl _, h, Below.refl _ _⟩
  case round =>
    obtain ⟨m, C, hC, ⟨b, env, k0, k1, k2, k3, k4, v1, rfl, hlt, htr, hr⟩, hbl⟩ := hrel
    have ht1 := ht.later hbl htl
    have hg1 := hg.below hbl hg.pos
    have heq := run_eql_iface_ptr_other (P := Tryz.prog) (a := ⟨b, 0, none⟩) (b := ⟨t, 0, none⟩) wr Tryz.underlying32 Tryz.underlying46 hi hcmp hj (by rw [hjs]; decide) (fun h => hBt b (by omega) (congrArg Addr.block h)) htr ht1
    have HI := Lib.hid (is_trap_no b t c d Hne.out wr hg1 (cell_of_block htr 0) (cell_of_block ht1 0))
    have hbl1 : b < wr.heap.size := lt_of_block htr
    have HU : Hid (∀ W, Below wr.heap.size wr W → W.cell? ⟨b, 7, none⟩ = some v1) := fun W hW => (hW.cell (p := ⟨b, 7, none⟩) hbl1).trans (cell_of_block htr 7)
    have Hr := Lib.hid hr
    have Hb := Lib.hid hbl
    clear hr hbl htr ht1 hg1
    rcases m with _ | m
    · obtain rfl : v1 = .nilIface := Hr.out
      go_wp2_with (first
        | (go_at_call 225; refine HI.out.mono ?_; rintro e w1 ⟨rfl, hb⟩; have hu := HU.out w1 hb; have Hb1 := Lib.hid hb; clear hb)
        | (go_at_call 226; refine (unwrap_some b _ _ hu).mono ?_; rintro e w2 ⟨rfl, rfl⟩))
      go_ret
      exact ⟨rfl, Hb.out.trans (Hb1.out.mono Hb.out.size)⟩
    · obtain ⟨b2, env2, q0, q1, q2, q3, q4, v2, rfl, hlt2, htr2, hr2⟩ := Hr.out
      have Htr2 := Lib.hid htr2
      have Hr2 := Lib.hid hr2
      clear htr2 hr2 Hr
      go_wp2_with (first
        | (go_at_call 225; refine HI.out.mono ?_; rintro e w1 ⟨rfl, hb⟩; have hu := HU.out w1 hb; have Hb1 := Lib.hid hb; clear hb)
        | (go_at_call 226; refine (unwrap_some b _ _ hu).mono ?_; rintro e w2 ⟨rfl, rfl⟩))
      go_roundw
      case rel =>
        refine ⟨m, b, by omega, ⟨b2, env2, q0, q1, q2, q3, q4, v2, rfl, hlt2, Htr2.out.later Hb1.out (by omega), Hr2.out.later Hb1.out (by omega)⟩, Hb.out.trans (Hb1.out.mono Hb.out.size)⟩
      case measure => simp [blockOf]; omega
theorem Is_trap (u : TypeId) (x : Value) (t : Addr) (w : World) {R : Ending → World → Prop}
    (H : Calls Tryz.prog 94 #[.iface u x, .iface 46 (.pointer (some t)), .bool true] w fun e w' => ∃ b : Bool, e = .returned (.bool b) ∧ R e w') :
    Calls Tryz.prog 41 #[.iface u x, .iface 46 (.pointer (some t))] w R := by
  have h10 := call_typeOf
  have tO := Tryz.typeOfP
  have mC := Tryz.methodComparable
  have cC := call_comparableP
  have h1 := fun w => run_eql_held_nil (P := Tryz.prog) w 32 u x (by kernel_rfl)
  have h2 := fun w => run_eql_held_nil (P := Tryz.prog) w 32 46 (.pointer (some t)) (by kernel_rfl)
  have HH := Lib.hid H
  clear H
  go_enter Tryz.func41, Tryz.ntmps41
  go_wp2_with (go_at_call 94; refine HH.out.mono ?_; rintro e w' ⟨b, rfl, hR⟩)
  exact hR
end Go.Proofs.YtdfhfmdelinemaaGreatDoor
namespace Go.Proofs.YtdfhfmdelinemaaGreatDoor
open Go.RowKit Go.Extern.Stop Go.Stop Go.Extern Go.ChangeMaps Go.MapKept
section
variable {P : Program} (w : World)
theorem run_equal_ptr_other {tp te : TypeId} {j : TypeInfo} {a b : Addr} {ca cb : Array Value} {ta tb : TypeId} (hp : P.underlying tp = some (.pointer te)) (hte : P.info? te = some j) (hsz : j.size ≠ 0)
    (hne : a ≠ b) (ha : w.heap[a.block]? = some (.cells ca ta (0, 0))) (hb : w.heap[b.block]? = some (.cells cb tb (0, 0))) :
    (Op.equal tp (.pointer (some a)) (.pointer (some b))).run P w = .ok false w := by
  have h : ∀ d : Nat, (Op.equalIn (d + 1) tp (.pointer (some a)) (.pointer (some b))).run P w = .ok false w := fun d => by
    simp [Op.equalIn, run_underlying hp, sizeOf, typeInfo, hte, hsz, run_sameAddr_other w hne ha hb]
  simp [Op.equal, Op.maxDepth, h 9999]
theorem findAsking_none {k : TypeId} {x : Value} : ∀ (es : List MapEntry) (i : Nat), (∀ e ∈ es, (Op.equal k x e.key).run P w = .ok false w) → (Instr.findAsking k x es i).run P w = .ok none w
  | [], _, _ => by simp [Instr.findAsking]
  | e :: es, i, h => by
    have h1 := h e (by simp)
    have h2 := findAsking_none es (i + 1) (fun y hy => h y (by simp [hy]))
    simp [Instr.findAsking, h1, h2, Result.andThen]
theorem findKey_none {k te : TypeId} {a : Addr} (hk : P.underlying k = some (.pointer te)) (es : List MapEntry) (h : ∀ e ∈ es, (Op.equal k (.pointer (some a)) e.key).run P w = .ok false w) :
    (Instr.findKey k (.pointer (some a)) es).run P w = .ok none w := by
  cases es with
  | nil => simp [Instr.findKey, run_underlying hk, Instr.findNow, Result.andThen]
  | cons e es =>
    have h1 := findAsking_none w (e :: es) 0 h
    simp [Instr.findKey, run_underlying hk, Instr.findNow, Instr.sameNow, Result.andThen, h1]
theorem checkKey_ptr {k te : TypeId} {a : Addr} (hk : P.underlying k = some (.pointer te)) (em : Bool) : (Instr.checkKey em 10000 k (.pointer (some a))).run P w = .ok () w := by
  have h : ∀ d : Nat, (Instr.checkKey em (d + 1) k (.pointer (some a))).run P w = .ok () w := fun d => by
    simp [Instr.checkKey, run_underlying hk, Result.andThen]
  exact h 9999
end
def PMap (w : World) (M : Nat) (ps : List Nat) : Prop :=
  ∃ es clock, w.heap[M]? = some (.map es clock) ∧ es.toList.map (·.key) = ps.map (fun b => Value.pointer (some ⟨b, 0, none⟩))
def IsRow (w : World) (b : Nat) : Prop := ∃ cs t, w.heap[b]? = some (.cells cs t (0, 0))
theorem PMap.later {w w' : World} {M B : Nat} {ps : List Nat} (h : PMap w M ps) (hb : Below B w w') (hB : M < B) : PMap w' M ps := by
  obtain ⟨es, clock, h1, h2⟩ := h
  exact ⟨es, clock, by rw [hb.block M hB]; exact h1, h2⟩
theorem IsRow.later {w w' : World} {b B : Nat} (h : IsRow w b) (hb : Below B w w') (hB : b < B) : IsRow w' b := by
  obtain ⟨cs, t, h⟩ := h
  exact ⟨cs, t, by rw [hb.block b hB]; exact h⟩
theorem TrapAt.row {w : World} {b : Nat} {c env : Int} {k0 k1 k2 k3 k4 v : Value} (h : TrapAt w b c env k0 k1 k2 k3 k4 v) : IsRow w b := ⟨_, _, h⟩
theorem PMap.new (w : World) : PMap (w.alloc (.map #[] 0)) w.heap.size [] := ⟨#[], 0, (MapKept.heap_alloc w _).1, rfl⟩
theorem pmap_keys {w : World} {M b : Nat} {ps : List Nat} {es : Array MapEntry} {clock : Nat} (_hM : w.heap[M]? = some (.map es clock)) (hk : es.toList.map (·.key) = ps.map (fun b => Value.pointer (some ⟨b, 0, none⟩)))
    (hb : IsRow w b) (hps : ∀ p ∈ ps, p ≠ b ∧ IsRow w p) : ∀ e ∈ es.toList, (Op.equal 46 (.pointer (some ⟨b, 0, none⟩)) e.key).run Tryz.prog w = .ok false w := by
  intro e he
  have hm : e.key ∈ ps.map (fun b => Value.pointer (some ⟨b, 0, none⟩)) := by rw [← hk]; exact List.mem_map_of_mem he
  obtain ⟨p, hp, hpe⟩ := List.mem_map.1 hm
  rw [← hpe]
  obtain ⟨hne, cs, t, hrow⟩ := hps p hp
  obtain ⟨cb, tb, hrb⟩ := hb
  obtain ⟨j, hj, hjs⟩ := Option.map_eq_some_iff.1 Tryz.isSizeP
  exact run_equal_ptr_other w Tryz.underlying46 hj (by rw [hjs]; decide) (fun h => hne (congrArg Addr.block h).symm) hrb hrow
theorem wpList_lookup_ptr (w : World) {ops : Array Oper} {rest : List Oper} {o : Oper} {a : Act} {Q : Exit → Act → World → Prop}
    (hg : o.guard = none) (m x : Operand) (hop : o.op = Op.lookup 129 m x true)
    (M b : Nat) (ps : List Nat) (hm : a.eval m = .map (some M)) (hown : PMap w M ps) (hx : a.eval x = .pointer (some ⟨b, 0, none⟩)) (hb : IsRow w b) (hps : ∀ p ∈ ps, p ≠ b ∧ IsRow w p)
    (hK : wpList Tryz.prog ops Q rest (a.put o.dst (.tuple #[.agg #[], .bool false])) w) :
    wpList Tryz.prog ops Q (o :: rest) a w := by
  refine wpList_plain hg fun K' hK' => ?_
  obtain ⟨es, clock, h1, h2⟩ := hown
  have hrun : (Instr.lookup 129 (.map (some M)) (.pointer (some ⟨b, 0, none⟩)) true).run Tryz.prog w = .ok (.tuple #[.agg #[], .bool false]) w := by
    simp [Instr.lookup, run_underlying Tryz.underlying129, MapKept.run_getObj_map h1, checkKey_ptr w Tryz.underlying46, findKey_none w Tryz.underlying46 es.toList (pmap_keys h1 h2 hb hps), Result.andThen]
  unfold Oper.wp
  simp [execOp, hop, hm, hx, hrun, Result.andThen]
  exact hK' _ _ hK
theorem wpList_mapUpdate_ptr (w : World) {ops : Array Oper} {rest : List Oper} {o : Oper} {a : Act} {Q : Exit → Act → World → Prop}
    (hg : o.guard = none) (m x v : Operand) (hop : o.op = Op.mapUpdate 129 m x v)
    (M b : Nat) (ps : List Nat) (hm : a.eval m = .map (some M)) (hown : PMap w M ps) (hx : a.eval x = .pointer (some ⟨b, 0, none⟩)) (hv : a.eval v = .agg #[]) (hb : IsRow w b) (hps : ∀ p ∈ ps, p ≠ b ∧ IsRow w p)
    (hK : ∀ w', PMap w' M (ps ++ [b]) → Below M w w' → w'.heap.size = w.heap.size → (∀ i, i ≠ M → w'.heap[i]? = w.heap[i]?) → wpList Tryz.prog ops Q rest (a.put o.dst undef) w') :
    wpList Tryz.prog ops Q (o :: rest) a w := by
  refine wpList_plain hg fun K' hK' => ?_
  obtain ⟨es, clock, h1, h2⟩ := hown
  have hrun : (Instr.mapUpdate 129 (.map (some M)) (.pointer (some ⟨b, 0, none⟩)) (.agg #[])).run Tryz.prog w = .ok () (setBlock w M (.map (es.push { key := .pointer (some ⟨b, 0, none⟩), val := .agg #[], born := clock }) (clock + 1))) := by
    simp [Instr.mapUpdate, run_underlying Tryz.underlying129, MapKept.run_getObj_map h1, checkKey_ptr w Tryz.underlying46, findKey_none w Tryz.underlying46 es.toList (pmap_keys h1 h2 hb hps), MapKept.run_setObj_map _ h1, Result.andThen, setBlock]
  unfold Oper.wp
  simp [execOp, hop, hm, hx, hv, hrun, Result.andThen]
  refine hK' _ _ (hK _ ⟨_, _, heap_setBlock_same h1 _, ?_⟩ ⟨rfl, rfl, rfl, by simp [setBlock], fun i hi => heap_setBlock_other h1 _ (by omega)⟩ (by simp [setBlock]) (fun i hi => heap_setBlock_other h1 _ hi))
  simp [h2]
theorem wpList_len_ptr (w : World) {ops : Array Oper} {rest : List Oper} {o : Oper} {a : Act} {Q : Exit → Act → World → Prop}
    (hg : o.guard = none) (m : Operand) (hop : o.op = Op.call { callee := Callee.builtin Builtin.len, args := #[m], argTypes := #[129] })
    (M : Nat) (ps : List Nat) (hm : a.eval m = .map (some M)) (hown : PMap w M ps)
    (hK : wpList Tryz.prog ops Q rest (a.put o.dst (.int .i64 ps.length)) w) :
    wpList Tryz.prog ops Q (o :: rest) a w := by
  refine wpList_plain hg fun K' hK' => ?_
  obtain ⟨es, clock, h1, h2⟩ := hown
  have hl : es.size = ps.length := by
    have h := congrArg List.length h2
    simpa using h
  have hrun := run_len_map (P := Tryz.prog) (w := w) 129 o.type M es clock (by kernel_rfl) h1
  rw [hl] at hrun
  unfold Oper.wp
  simp [execOp, hop, resolve, invoke, builtin, hm, hrun, Result.andThen, goInt]
  exact hK' _ _ hK
end Go.Proofs.YtdfhfmdelinemaaGreatDoor
namespace Go.Proofs.YtdfhfmdelinemaaGreatDoor
open Go.RowKit Go.Extern.Stop Go.Stop Go.Extern
def ptrBlock : Value → Nat | .pointer (some a) => a.block + 1 | _ => 0
def DepthRel (w : World) (M n : Nat) (c : Int) (z t ok : Value) (wr : World) : Prop :=
  ∃ m C ps, ps.length + m = n ∧ PMap wr M ps ∧ (∀ p ∈ ps, C ≤ p ∧ p < w.heap.size ∧ IsRow w p) ∧ Below w.heap.size w wr ∧ M < wr.heap.size ∧
    ((m = 0 ∧ t = .pointer none ∧ ok = .bool false) ∨
      ∃ m1 b env k0 k1 k2 k3 k4 v1, m = m1 + 1 ∧ t = .pointer (some ⟨b, 0, none⟩) ∧ ok = .bool true ∧ b < C ∧ b < w.heap.size ∧ TrapAt w b c env k0 k1 k2 k3 k4 v1 ∧ Chain w c z m1 b v1)
theorem depth_hit (err : Value) (n : Nat) (c : Int) (z : Value) (B b0 : Nat) (w : World) (hg : Held w) (H : AsHit w err ⟨b0, 0, none⟩) (hz : ∀ W, Below w.heap.size w W → AsMiss W z)
    (hch : Chain w c z (n + 1) B (.iface 46 (.pointer (some ⟨b0, 0, none⟩)))) (hB : B ≤ w.heap.size) :
    Calls Tryz.prog 18 #[err] w fun e w' => e = .returned (.int .i64 ((n + 1 : Nat) : Int)) ∧ Below w.heap.size w w' := by
  have hmm := @run_makeMap Tryz.prog
  have H1 := Lib.hid (first_hit err _ (w.alloc (.map #[] 0)) (H.later ((Below.refl _ _).alloc (Nat.le_refl _) _)))
  clear H
  have hb0 := Lib.hid ((Below.refl w.heap.size w).alloc (Nat.le_refl _) (.map #[] 0))
  have hM := Lib.hid (PMap.new w)
  go_enter Tryz.func18, Tryz.ntmps18
  go_wp2_with fail
  refine H1.out.mono ?_; rintro e w1 ⟨rfl, hb⟩
  have hM1 := Lib.hid (hM.out.later hb (by simp))
  have hb1 := Lib.hid hb
  clear hb hM
  have Hz := Lib.hid hz
  clear hz
  go_wp2_with fail
  go_loopw [4, 5] (fun t ok wr => DepthRel w w.heap.size (n + 1) c z t ok wr) (fun t _ _ => ptrBlock t)
  case atStart =>
    obtain ⟨b, env, k0, k1, k2, k3, k4, v1, e, hlt, ht, hr⟩ := hch
    obtain rfl : b0 = b := by injection e with _ e; injection e with e; injection e with e; injection e with e
    refine ⟨n + 1, w.heap.size, [], by simp, hM1.out, by simp, hb0.out.trans (hb1.out.mono (by simp)), ?_, Or.inr ⟨n, b0, env, k0, k1, k2, k3, k4, v1, rfl, rfl, rfl, by omega, by omega, ht, hr⟩⟩
    have := hb1.out.size; simp at this; omega
  case round =>
    obtain ⟨m, C, ps, hlen, hP, hps, hbl, hML, hcase⟩ := hrel
    have HP := Lib.hid hP
    have Hbl := Lib.hid hbl
    have Hlen := Lib.hid hlen
    have Hps := Lib.hid hps
    clear hP hbl hlen hps hch
    rcases hcase with ⟨rfl, rfl, rfl⟩ | ⟨m1, b, env, k0, k1, k2, k3, k4, v1, rfl, rfl, rfl, hbC, hbw, htr, hr⟩
    · go_wp2_with (at_len; refine wpList_len_ptr _ rfl _ rfl _ _ rfl HP.out ?_)
      go_ret
      have hl : ps.length = n + 1 := by have := Hlen.out; omega
      rw [hl]
      exact ⟨rfl, Hbl.out⟩
    · have HR : Hid (IsRow wr b) := htr.row.later Hbl.out hbw
      have HPS : Hid (∀ p ∈ ps, p ≠ b ∧ IsRow wr p) := fun p hp => ⟨by have := (Hps.out p hp).1; omega, (Hps.out p hp).2.2.later Hbl.out (Hps.out p hp).2.1⟩
      have HA := Lib.hid ((Below.refl wr.heap.size wr).alloc (Nat.le_refl _) (.cells #[] 130))
      have HP2 := Lib.hid (HP.out.later HA.out hML)
      have HR2 : Hid (IsRow (wr.alloc (.cells #[] 130)) b) := HR.out.later HA.out (by have := Hbl.out.size; omega)
      have HPS2 : Hid (∀ p ∈ ps, p ≠ b ∧ IsRow (wr.alloc (.cells #[] 130)) p) := fun p hp => ⟨(HPS.out p hp).1, (HPS.out p hp).2.later HA.out (by have := Hbl.out.size; have := (Hps.out p hp).2.1; omega)⟩
      have HT := Lib.hid htr
      have Hr := Lib.hid hr
      have HG := Lib.hid hg
      have HW : Hid (∀ w2, (∀ i, i ≠ w.heap.size → w2.heap[i]? = (wr.alloc (.cells #[] 130)).heap[i]?) → Below w.heap.size (wr.alloc (.cells #[] 130)) w2 → Below w.heap.size w w2) := fun w2 _ h2 => (Hbl.out.alloc Hbl.out.size _).trans h2
      clear htr hr hg
      rcases m1 with _ | m2
      · obtain rfl : v1 = z := Hr.out
        have HF : Hid (∀ W, Below w.heap.size w W → Calls Tryz.prog 17 #[v1] W (fun e w' => e = .returned (.tuple #[.pointer none, .bool false]) ∧ Below W.heap.size W w')) := fun W hW => first_miss v1 W (Hz.out W hW)
        go_wp2_with (first
          | (at_lookup; refine wpList_lookup_ptr _ rfl _ _ rfl _ b ps rfl HP.out rfl HR.out HPS.out ?_)
          | (at_mapUpdate; refine wpList_mapUpdate_ptr _ rfl _ _ _ rfl _ b ps rfl HP2.out rfl rfl HR2.out HPS2.out ?_; intro w2 hP2 hb2 hsz2 hot2; have Hw2 := Lib.hid (HW.out w2 hot2 hb2); have HP3 := Lib.hid hP2; have Hsz2 := Lib.hid hsz2; have hc7 := cell_of_block (HT.out.later Hw2.out hbw) 7; clear hP2 hb2 hsz2 hot2)
          | (go_at_call 17; refine (HF.out _ Hw2.out).mono ?_; rintro e w3 ⟨rfl, hb3⟩; have Hb3 := Lib.hid hb3; clear hb3))
        go_roundw
        case rel =>
          have h0 := Hbl.out.size
          have h1 := Hsz2.out
          rw [World.size_alloc] at h1
          exact ⟨0, b, ps ++ [b], by have := Hlen.out; simp; omega, HP3.out.later Hb3.out (by omega), by
            intro p hp
            rcases List.mem_append.1 hp with hp | hp
            · exact ⟨by have := (Hps.out p hp).1; omega, (Hps.out p hp).2⟩
            · obtain rfl := List.mem_singleton.1 hp
              exact ⟨Nat.le_refl _, hbw, HT.out.row⟩, Hw2.out.trans (Hb3.out.mono (by omega)), by have := Hb3.out.size; omega, Or.inl ⟨rfl, rfl, rfl⟩⟩
        case measure => simp [ptrBlock]
      · obtain ⟨b2, env2, q0, q1, q2, q3, q4, v2, rfl, hlt2, htr2, hr2⟩ := Hr.out
        have HT2 := Lib.hid htr2
        have Hr2 := Lib.hid hr2
        clear htr2 hr2 Hr
        have HF : Hid (∀ W, Below w.heap.size w W → Calls Tryz.prog 17 #[.iface 46 (.pointer (some ⟨b2, 0, none⟩))] W (fun e w' => e = .returned (.tuple #[.pointer (some ⟨b2, 0, none⟩), .bool true]) ∧ Below W.heap.size W w')) :=
          fun W hW => first_hit _ _ W (asHit_trap W (HG.out.below hW HG.out.pos) _)
        go_wp2_with (first
          | (at_lookup; refine wpList_lookup_ptr _ rfl _ _ rfl _ b ps rfl HP.out rfl HR.out HPS.out ?_)
          | (at_mapUpdate; refine wpList_mapUpdate_ptr _ rfl _ _ _ rfl _ b ps rfl HP2.out rfl rfl HR2.out HPS2.out ?_; intro w2 hP2 hb2 hsz2 hot2; have Hw2 := Lib.hid (HW.out w2 hot2 hb2); have HP3 := Lib.hid hP2; have Hsz2 := Lib.hid hsz2; have hc7 := cell_of_block (HT.out.later Hw2.out hbw) 7; clear hP2 hb2 hsz2 hot2)
          | (go_at_call 17; refine (HF.out _ Hw2.out).mono ?_; rintro e w3 ⟨rfl, hb3⟩; have Hb3 := Lib.hid hb3; clear hb3))
        go_roundw
        case rel =>
          have h0 := Hbl.out.size
          have h1 := Hsz2.out
          rw [World.size_alloc] at h1
          exact ⟨m2 + 1, b, ps ++ [b], by have := Hlen.out; simp; omega, HP3.out.later Hb3.out (by omega), by
            intro p hp
            rcases List.mem_append.1 hp with hp | hp
            · exact ⟨by have := (Hps.out p hp).1; omega, (Hps.out p hp).2⟩
            · obtain rfl := List.mem_singleton.1 hp
              exact ⟨Nat.le_refl _, hbw, HT.out.row⟩, Hw2.out.trans (Hb3.out.mono (by omega)), by have := Hb3.out.size; omega, Or.inr ⟨m2, b2, env2, q0, q1, q2, q3, q4, v2, rfl, rfl, rfl, hlt2, by omega, HT2.out, Hr2.out⟩⟩
        case measure => simp [ptrBlock]; omega
end Go.Proofs.YtdfhfmdelinemaaGreatDoor
namespace Go.Proofs.YtdfhfmdelinemaaGreatDoor
open Go.RowKit Go.Extern.Stop Go.Stop Go.Extern
theorem Tryz.sizeBuilder : (Tryz.prog.info? 324).map (·.size) = some 2 := by kernel_rfl
theorem Tryz.liesBuilder : liesAt Tryz.prog Tryz.prog.depth 324 (2 / Tryz.prog.cellsOf 324) 0 324 1 = true := by kernel_rfl
theorem Tryz.infoByte : (Tryz.prog.info? 5).map (fun i => (i.zero, i.size, i.bytes)) = some (some (.int .u8 0), 1, 1) := by kernel_rfl
theorem copyCheck_used (b : Nat) (w : World) (h0 : w.cell? ⟨b, 0, none⟩ = some (.pointer (some ⟨b, 0, none⟩))) :
    Calls Tryz.prog 232 #[.pointer (some ⟨b, 0, none⟩)] w fun e w' => e = .returned (.tuple #[]) ∧ w' = w := by
  obtain ⟨j, hj, _⟩ := Option.map_eq_some_iff.1 Tryz.sizeBuilder
  have hne := Lib.run_neq_ptr_same (P := Tryz.prog) w ⟨b, 0, none⟩ Tryz.underlying321 hj
  go_enter Tryz.func232, Tryz.ntmps232
  go_wp2
  go_end0
  exact ⟨rfl, rfl⟩
theorem copyCheck_fresh (b : Nat) (w : World) (h0 : w.cell? ⟨b, 0, none⟩ = some (.pointer none)) (hsh : w.shape? b = some (324, 2)) (hfz : w.frozen? ⟨b, 0, none⟩ = false) :
    Calls Tryz.prog 232 #[.pointer (some ⟨b, 0, none⟩)] w fun e w' => e = .returned (.tuple #[]) ∧ w' = w.setCell ⟨b, 0, none⟩ (.pointer (some ⟨b, 0, none⟩)) := by
  obtain ⟨j, hj, hjs⟩ := Option.map_eq_some_iff.1 Tryz.sizeBuilder
  have hne := fun W => Lib.run_neq_ptr_same (P := Tryz.prog) W ⟨b, 0, none⟩ Tryz.underlying321 hj
  have h1 := Lib.run_to_unsafe (P := Tryz.prog) w ⟨b, 0, none⟩ Tryz.underlying321 Tryz.underlying196 hj (by rw [hjs]; decide) hsh (Nat.zero_lt_succ 1)
  have h2 := run_callFunc_extern (e := Extern.AbiNoEscape.same) Tryz.func235 (by kernel_rfl) (by kernel_rfl) (by kernel_rfl) (by kernel_rfl)
  have h3 := Lib.run_from_unsafe (P := Tryz.prog) w ⟨b, 0, none⟩ Tryz.underlying196 Tryz.underlying321 hj hsh Tryz.liesBuilder
  go_enter Tryz.func232, Tryz.ntmps232
  go_wp2
  rw [Lib.run_noEscape]
  simp only [Result.andThen]
  rw [Oper.upon_value]
  go_wp2
  go_end0
  exact ⟨rfl, rfl⟩
abbrev IsB (B b : Nat) (bs : List Value) (w : World) : Prop := Lib.IsBuilderF 324 5 B b bs w
abbrev Keeps (b : Nat) (w w' : World) : Prop := Lib.OthersKept 5 (some b) w w'
theorem copyCheck_k (B b : Nat) (bs : List Value) (w : World) (h : IsB B b bs w) :
    Calls Tryz.prog 232 #[.pointer (some ⟨b, 0, none⟩)] w fun e w' => e = .returned (.tuple #[]) ∧ (Lib.BuilderAtF 324 5 B b (.pointer (some ⟨b, 0, none⟩)) bs w' ∧ Below B w w' ∧ Keeps b w w') := by
  rcases h with h | h
  · refine (copyCheck_fresh b w h.cell0 h.shape h.frozen0).mono ?_
    rintro e w' ⟨rfl, rfl⟩
    exact ⟨rfl, h.used _, (Below.refl B w).setCell (p := ⟨b, 0, none⟩) h.1 _, (Lib.OthersKept.refl _ _ w).setCell ⟨b, 0, none⟩ rfl _⟩
  · refine (copyCheck_used b w h.cell0).mono ?_
    rintro e w' ⟨rfl, rfl⟩
    exact ⟨rfl, h, Below.refl B _, Lib.OthersKept.refl _ _ _⟩
set_option maxHeartbeats 2000000 in
theorem writeString_k (B b : Nat) (bs : List Value) (s : ByteArray) (w : World) (h : IsB B b bs w) (hlen : bs.length + s.size ≤ 140737488355328) (hBw : B ≤ w.heap.size) :
    Calls Tryz.prog 227 #[.pointer (some ⟨b, 0, none⟩), .string s] w fun e w' => e = .returned (.tuple #[.int .i64 s.size, .nilIface]) ∧ (IsB B b (bs ++ Lib.strCells s) w' ∧ Below B w w' ∧ Keeps b w w') := by
  obtain ⟨i0, hi, hz0, hz1, hz2⟩ := info_parts Tryz.infoByte
  go_enter Tryz.func227, Tryz.ntmps227
  go_wp2_with (go_at_call 232; refine (copyCheck_k B b bs _ h).mono ?_)
  rintro e w1 ⟨rfl, h1, hb1, hk1⟩
  obtain ⟨hB, v, hbk, hown, hne⟩ := h1
  have c0 : w1.cell? ⟨b, 0, none⟩ = some (.pointer (some ⟨b, 0, none⟩)) := by rw [Lib.cell_of_heap hbk]; rfl
  have c1 : w1.cell? ⟨b, 1, none⟩ = some v := by rw [Lib.cell_of_heap hbk]; rfl
  go_wp2_with (at_builtin; refine Lib.wpList_append_own_stringF _ rfl _ _ 322 9 rfl B 5 i0 Tryz.underlying322 Tryz.underlying9 hi hz0 hz1 hz2 _ _ _ rfl hown s rfl ?c3 ?c4 ?c5 ?_)
  case c3 => unfold maxLen; omega
  case c4 => omega
  case c5 => have := hb1.size; omega
  intro v' w2 hown' hgrow _
  have hlt : b < w1.heap.size := by
    rcases Nat.lt_or_ge b w1.heap.size with h' | h'
    · exact h'
    · simp [Array.getElem?_eq_none h'] at hbk
  have hb2 : w2.heap[b]? = some (.cells #[.pointer (some ⟨b, 0, none⟩), v] 324 (0, 0)) := by
    rw [hgrow.block b hlt (fun e => hne e.symm)]
    exact hbk
  have d0 : w2.cell? ⟨b, 0, none⟩ = some (.pointer (some ⟨b, 0, none⟩)) := by rw [Lib.cell_of_heap hb2]; rfl
  have d1 : w2.cell? ⟨b, 1, none⟩ = some v := by rw [Lib.cell_of_heap hb2]; rfl
  have f1 : w2.frozen? ⟨b, 1, none⟩ = false := Lib.frozen_of_heap hb2 1
  obtain ⟨ao, n', cap, rfl⟩ : ∃ ao n' cap, v' = .slice ao n' cap := by
    rcases hown'.2 with ⟨hv, _⟩ | ⟨g, cap, cur, fz, hv, _⟩
    · exact ⟨_, _, _, hv⟩
    · exact ⟨_, _, _, hv⟩
  have Hown' := Lib.hid hown'
  have Hgrow := Lib.hid hgrow
  clear hown' hgrow
  go_wp2
  go_ret2
  refine ⟨rfl, Or.inr ?_, ?_, (hk1.grown Hgrow.out (Lib.ownsRowF_kind hown)).setCell ⟨b, 1, none⟩ rfl _⟩
  · exact Lib.BuilderAtF.put (T := 324) (e := 5) hB hb2 (bs' := bs ++ Lib.strCells s) (by simpa [Lib.strCells_length] using Hown'.out) (by decide)
  · exact (hb1.grown Hgrow.out (by have := hb1.size; omega) (fun k hk => (hown.lt k hk).1)).setCell (p := ⟨b, 1, none⟩) hB _
end Go.Proofs.YtdfhfmdelinemaaGreatDoor
namespace Go.Proofs.YtdfhfmdelinemaaGreatDoor
open Go.RowKit Go.Extern.Stop Go.Stop Go.Extern
def trapText (c : Nat) : List UInt8 := [116, 114, 97, 112, 32] ++ Lib.decDigits c
def repText (c : Nat) : Nat → List UInt8
  | 0 => []
  | k + 1 => repText c k ++ (trapText c ++ [58, 32])
theorem decDigits_length (c : Nat) (hc : c < 100) : (Lib.decDigits c).length ≤ 2 := by
  rw [Lib.decDigits]
  split
  · simp
  · rw [Lib.decDigits, dif_pos (by omega)]
    simp
theorem repText_length (c : Nat) (hc : c < 100) : ∀ k, (repText c k).length ≤ 9 * k
  | 0 => by simp [repText]
  | k + 1 => by
    have h1 := repText_length c hc k
    have h2 := decDigits_length c hc
    simp [repText, trapText]
    omega
theorem trapText_length (c : Nat) : (trapText c).length = 5 + (Lib.decDigits c).length := by simp [trapText]; omega
theorem isB_cells {B b : Nat} {bs : List Value} {w w' : World} (h : IsB B b bs w) (hs : ∀ (i : Nat) (c : Array Value) (t : TypeId) (f : Nat × Nat), w.heap[i]? = some (.cells c t f) → w'.heap[i]? = some (.cells c t f)) : IsB B b bs w' := by
  have key : ∀ p, Lib.BuilderAtF 324 5 B b p bs w → Lib.BuilderAtF 324 5 B b p bs w' := by
    rintro p ⟨hB, v, hb, ⟨hl, hr⟩, hne⟩
    refine ⟨hB, v, hs _ _ _ _ hb, ⟨hl, ?_⟩, hne⟩
    rcases hr with hr | ⟨g, cap, cur, fz, h1, h2, h3, h4⟩
    · exact Or.inl hr
    · exact Or.inr ⟨g, cap, cur, fz, h1, h2, hs _ _ _ _ h3, h4⟩
  exact h.elim (fun x => .inl (key _ x)) (fun x => .inr (key _ x))
theorem isB_below {B b : Nat} {bs : List Value} {w w' : World} (h : IsB B b bs w) (hb : Below w.heap.size w w') : IsB B b bs w' :=
  isB_cells h fun i c t f hi => by rw [hb.block i (lt_of_block hi)]; exact hi
theorem isB_beside {B b M : Nat} {bs : List Value} {ps : List Nat} {w w' : World} (h : IsB B b bs w) (hM : PMap w M ps) (hs : ∀ i, i ≠ M → w'.heap[i]? = w.heap[i]?) : IsB B b bs w' :=
  isB_cells h fun i c t f hi => by
    obtain ⟨es, clock, h1, _⟩ := hM
    by_cases he : i = M
    · subst he; rw [h1] at hi; cases hi
    · rw [hs i he]; exact hi
theorem PMap.kept {w w' : World} {M b : Nat} {ps : List Nat} (h : PMap w M ps) (hk : Keeps b w w') (hM : M ≠ b) : PMap w' M ps := by
  obtain ⟨es, clock, h1, h2⟩ := h
  exact ⟨es, clock, hk M _ h1 (fun e => hM (Option.some.inj e)) (fun _ _ e => by cases e), h2⟩
def Wrote (B : Nat) (l : List UInt8) (w w' : World) : Prop := IsB B B (Lib.byteCells l) w' ∧ Below B w w' ∧ Keeps B w w'
theorem write_k (B : Nat) (l : List UInt8) (s : ByteArray) (w : World) (h : IsB B B (Lib.byteCells l) w) (hl : l.length + s.size ≤ 100000) (hBw : B ≤ w.heap.size) :
    Calls Tryz.prog 227 #[.pointer (some ⟨B, 0, none⟩), .string s] w fun e w' => e = .returned (.tuple #[.int .i64 s.size, .nilIface]) ∧ Wrote B (l ++ s.data.toList) w w' := by
  refine (writeString_k B B _ s w h (by rw [Lib.byteCells_length]; omega) hBw).mono ?_
  rintro e w' ⟨rfl, h1, h2, h3⟩
  refine ⟨rfl, ?_, h2, h3⟩
  rw [Lib.byteCells_append]
  exact h1
theorem string_k (B : Nat) (l : List UInt8) (w : World) (h : IsB B B (Lib.byteCells l) w) (hBw : B ≤ w.heap.size) :
    Calls Tryz.prog 229 #[.pointer (some ⟨B, 0, none⟩)] w fun e w' => e = .returned (.string ⟨l.toArray⟩) ∧ Below B w w' := by
  refine (Tryz.Builder_String_any_k B B l w h hBw).mono ?_
  rintro e w' ⟨rfl, _, h2, _⟩
  exact ⟨rfl, h2⟩
theorem upd_pack {w w4 w5 : World} {b : Nat} {c env : Int} {k0 k1 k2 k3 k4 v1 : Value} {bs : List Value} {ps ps' : List Nat} (hbw : b < w.heap.size) (HT : TrapAt w b c env k0 k1 k2 k3 k4 v1)
    (Hb4 : Below w.heap.size w w4) (HI4 : IsB w.heap.size w.heap.size bs w4) (HP4 : PMap w4 (w.heap.size + 1) ps)
    (hP5 : PMap w5 (w.heap.size + 1) ps') (hb5 : Below (w.heap.size + 1) w4 w5) (hsz5 : w5.heap.size = w4.heap.size) (hot5 : ∀ i, i ≠ w.heap.size + 1 → w5.heap[i]? = w4.heap[i]?) :
    Hid (Below w.heap.size w w5) ∧ Hid (IsB w.heap.size w.heap.size bs w5) ∧ Hid (PMap w5 (w.heap.size + 1) ps') ∧ w4.heap.size ≤ w5.heap.size ∧ w5.cell? ⟨b, 7, none⟩ = some v1 := by
  have Hb5 : Below w.heap.size w w5 := Hb4.trans (hb5.mono (by omega))
  exact ⟨Hb5, isB_beside HI4 HP4 hot5, hP5, by omega, cell_of_block (HT.later Hb5 hbw) 7⟩
def ErrorRel (w : World) (n : Nat) (c : Nat) (z t : Value) (wr : World) : Prop :=
  ∃ k m C ps b env k0 k1 k2 k3 k4 v1, k + m = n ∧ IsB w.heap.size w.heap.size (Lib.byteCells (repText c k)) wr ∧ PMap wr (w.heap.size + 1) ps ∧ (∀ p ∈ ps, C ≤ p ∧ p < w.heap.size ∧ IsRow w p) ∧
    Below w.heap.size w wr ∧ w.heap.size + 1 < wr.heap.size ∧ t = .pointer (some ⟨b, 0, none⟩) ∧ b < C ∧ b < w.heap.size ∧ TrapAt w b c env k0 k1 k2 k3 k4 v1 ∧ Chain w c z m b v1
set_option maxHeartbeats 4000000 in
theorem error_any (c n B b0 : Nat) (hc : c < 100) (hn : n ≤ 1000) (w : World) (hg : Held w) (hB : B ≤ w.heap.size) (z : Value) (T : List UInt8)
    (hz : z = .nilIface ∧ T = repText c n ++ trapText c)
    (hch : Chain w c z (n + 1) B (.iface 46 (.pointer (some ⟨b0, 0, none⟩)))) :
    Calls Tryz.prog 224 #[.pointer (some ⟨b0, 0, none⟩)] w fun e w' => e = .returned (.string ⟨T.toArray⟩) ∧ Below w.heap.size w w' := by
  have hmm := @run_makeMap Tryz.prog
  have hI0 := Lib.hid ((Lib.IsBuilderF.of (Lib.fresh_isBuilder 324 5 w)).alloc (.map #[] 0))
  have hb0 := Lib.hid (((Below.refl w.heap.size w).alloc (Nat.le_refl _) (.cells #[.pointer none, .slice none 0 0] 324)).alloc (by simp) (.map #[] 0))
  have hM0 : Hid (PMap ((w.alloc (.cells #[.pointer none, .slice none 0 0] 324)).alloc (.map #[] 0)) (w.heap.size + 1) []) := by
    have h := PMap.new (w.alloc (.cells #[.pointer none, .slice none 0 0] 324))
    rw [World.size_alloc] at h
    exact h
  have Hz := Lib.hid hz
  clear hz
  go_enter Tryz.func224, Tryz.ntmps224
  go_wp2_with fail
  go_loopw [0] (fun t wr => ErrorRel w n c z t wr) (fun t _ => ptrBlock t)
  case atStart =>
    obtain ⟨b, env, k0, k1, k2, k3, k4, v1, e, hlt, ht, hr⟩ := hch
    obtain rfl : b0 = b := by injection e with _ e; injection e with e; injection e with e; injection e with e
    exact ⟨0, n, w.heap.size, [], b0, env, k0, k1, k2, k3, k4, v1, by omega, hI0.out, hM0.out, by simp, hb0.out, by simp, rfl, by omega, by omega, ht, hr⟩
  case round =>
    obtain ⟨k, m, C, ps, b, env, k0, k1, k2, k3, k4, v1, hkm, hI, hP, hps, hbl, hML, rfl, hbC, hbw, htr, hr⟩ := hrel
    have HI := Lib.hid hI
    have HP := Lib.hid hP
    have Hps := Lib.hid hps
    have Hbl := Lib.hid hbl
    have HT := Lib.hid htr
    have Hr := Lib.hid hr
    have HG := Lib.hid hg
    have hk := repText_length c hc k
    have hd := decDigits_length c hc
    have ht5 := trapText_length c
    have Hkm := Lib.hid hkm
    have hkn : k ≤ 1000 := by omega
    have hmn : m + 1 ≤ 1001 := by omega
    clear hI hP hps hbl htr hr hg hch hkm hI0 hb0 hM0
    rcases m with _ | m
    · obtain rfl : v1 = z := Hr.out
      obtain rfl : k = n := Hkm.out
      obtain ⟨rfl, rfl⟩ := Hz.out
      clear Hr
      go_wp2_with fail
      refine (write_k _ _ _ _ HI.out (by simp [ByteArray.size]; omega) Hbl.out.size).mono ?_
      rintro e w1 ⟨rfl, hW1⟩
      have HI1 : Hid (IsB w.heap.size w.heap.size (Lib.byteCells (repText c k ++ [116, 114, 97, 112, 32])) w1) := hW1.1
      have Hb1 : Hid (Below w.heap.size w w1) := Hbl.out.trans hW1.2.1
      have HP1 : Hid (PMap w1 (w.heap.size + 1) ps) := HP.out.kept hW1.2.2 (by omega)
      have hs1 : wr.heap.size ≤ w1.heap.size := hW1.2.1.size
      have hc1 : w1.cell? ⟨b, 0, none⟩ = some (.int .i64 c) := cell_of_block (HT.out.later Hb1.out hbw) 0
      clear hW1
      go_wp2_with fail
      refine (Tryz.strconv_Itoa_small c hc _).mono ?_
      rintro e w2 ⟨rfl, rfl⟩
      go_wp2_with fail
      refine (write_k _ _ _ _ HI1.out (by simp [ByteArray.size]; omega) Hb1.out.size).mono ?_
      rintro e w3 ⟨rfl, hW3⟩
      have HI3 : Hid (IsB w.heap.size w.heap.size (Lib.byteCells (repText c k ++ trapText c)) w3) := by have h := hW3.1; rw [List.append_assoc] at h; exact h
      have Hb3 : Hid (Below w.heap.size w w3) := Hb1.out.trans hW3.2.1
      have HP3 : Hid (PMap w3 (w.heap.size + 1) ps) := HP1.out.kept hW3.2.2 (by omega)
      have hs3 : w2.heap.size ≤ w3.heap.size := hW3.2.1.size
      have hc3 : w3.cell? ⟨b, 7, none⟩ = some .nilIface := cell_of_block (HT.out.later Hb3.out hbw) 7
      clear hW3 hc1
      go_wp2_with fail
      refine (string_k _ _ _ HI3.out Hb3.out.size).mono ?_
      rintro e w4 ⟨rfl, hb4⟩
      have Hb4 := Lib.hid hb4
      clear hb4
      go_wp2_with fail
      go_ret
      exact ⟨rfl, Hb3.out.trans Hb4.out⟩
    · obtain ⟨b2, env2, q0, q1, q2, q3, q4, v2, rfl, hlt2, htr2, hr2⟩ := Hr.out
      have HT2 := Lib.hid htr2
      have Hr2 := Lib.hid hr2
      have hne := fun W => run_eql_held_nil (P := Tryz.prog) W 32 46 (.pointer (some ⟨b2, 0, none⟩)) (by kernel_rfl)
      clear htr2 hr2 Hr
      go_wp2_with fail
      refine (write_k _ _ _ _ HI.out (by simp [ByteArray.size]; omega) Hbl.out.size).mono ?_
      rintro e w1 ⟨rfl, hW1⟩
      have HI1 : Hid (IsB w.heap.size w.heap.size (Lib.byteCells (repText c k ++ [116, 114, 97, 112, 32])) w1) := hW1.1
      have Hb1 : Hid (Below w.heap.size w w1) := Hbl.out.trans hW1.2.1
      have HP1 : Hid (PMap w1 (w.heap.size + 1) ps) := HP.out.kept hW1.2.2 (by omega)
      have hs1 : wr.heap.size ≤ w1.heap.size := hW1.2.1.size
      have hc1 : w1.cell? ⟨b, 0, none⟩ = some (.int .i64 c) := cell_of_block (HT.out.later Hb1.out hbw) 0
      clear hW1
      go_wp2_with fail
      refine (Tryz.strconv_Itoa_small c hc _).mono ?_
      rintro e w2 ⟨rfl, rfl⟩
      go_wp2_with fail
      refine (write_k _ _ _ _ HI1.out (by simp [ByteArray.size]; omega) Hb1.out.size).mono ?_
      rintro e w3 ⟨rfl, hW3⟩
      have HI3 : Hid (IsB w.heap.size w.heap.size (Lib.byteCells (repText c k ++ trapText c)) w3) := by have h := hW3.1; rw [List.append_assoc] at h; exact h
      have Hb3 : Hid (Below w.heap.size w w3) := Hb1.out.trans hW3.2.1
      have HP3 : Hid (PMap w3 (w.heap.size + 1) ps) := HP1.out.kept hW3.2.2 (by omega)
      have hs3 : w2.heap.size ≤ w3.heap.size := hW3.2.1.size
      have hc3 : w3.cell? ⟨b, 7, none⟩ = some (.iface 46 (.pointer (some ⟨b2, 0, none⟩))) := cell_of_block (HT.out.later Hb3.out hbw) 7
      clear hW3 hc1
      go_wp2_with fail
      refine (write_k _ _ _ _ HI3.out (by rw [List.length_append]; show _ + 2 ≤ 100000; omega) Hb3.out.size).mono ?_
      rintro e w4 ⟨rfl, hW4⟩
      have HI4 : Hid (IsB w.heap.size w.heap.size (Lib.byteCells (repText c (k + 1))) w4) := by have h := hW4.1; rw [List.append_assoc] at h; exact h
      have Hb4 : Hid (Below w.heap.size w w4) := Hb3.out.trans hW4.2.1
      have HP4 : Hid (PMap w4 (w.heap.size + 1) ps) := HP3.out.kept hW4.2.2 (by omega)
      have hs4 : w3.heap.size ≤ w4.heap.size := hW4.2.1.size
      have HR4 : Hid (IsRow w4 b) := HT.out.row.later Hb4.out hbw
      have HPS4 : Hid (∀ p ∈ ps, p ≠ b ∧ IsRow w4 p) := fun p hp => ⟨by have := (Hps.out p hp).1; omega, (Hps.out p hp).2.2.later Hb4.out (Hps.out p hp).2.1⟩
      clear hW4 hc3
      go_wp2_with (at_mapUpdate; refine wpList_mapUpdate_ptr _ rfl _ _ _ rfl _ b ps rfl HP4.out rfl rfl HR4.out HPS4.out ?_; intro w5 hP5 hb5 hsz5 hot5; obtain ⟨Hb5, HI5, HP5, hs5, hc5⟩ := upd_pack hbw HT.out Hb4.out HI4.out HP4.out hP5 hb5 hsz5 hot5; clear hP5 hb5 hsz5 hot5)
      refine (itself_trap b2 _ (asHit_trap _ (HG.out.below Hb5.out HG.out.pos) _)).mono ?_
      rintro e w6 ⟨rfl, hb6⟩
      have Hb6 : Hid (Below w.heap.size w w6) := Hb5.out.trans (hb6.mono (by omega))
      have HI6 : Hid (IsB w.heap.size w.heap.size (Lib.byteCells (repText c (k + 1))) w6) := isB_below HI5.out hb6
      have HP6 : Hid (PMap w6 (w.heap.size + 1) (ps ++ [b])) := HP5.out.later hb6 (by omega)
      have hs6 : w5.heap.size ≤ w6.heap.size := hb6.size
      have HR6 : Hid (IsRow w6 b2) := HT2.out.row.later Hb6.out (by omega)
      have HPS6 : Hid (∀ p ∈ ps ++ [b], p ≠ b2 ∧ IsRow w6 p) := by
        intro p hp
        rcases List.mem_append.1 hp with hp | hp
        · exact ⟨by have := (Hps.out p hp).1; omega, (Hps.out p hp).2.2.later Hb6.out (Hps.out p hp).2.1⟩
        · obtain rfl := List.mem_singleton.1 hp
          exact ⟨by omega, HT.out.row.later Hb6.out hbw⟩
      clear hb6 hc5
      go_wp2_with (at_lookup; refine wpList_lookup_ptr _ rfl _ _ rfl _ b2 (ps ++ [b]) rfl HP6.out rfl HR6.out HPS6.out ?_)
      go_roundw
      case rel =>
        exact ⟨k + 1, m, b, ps ++ [b], b2, env2, q0, q1, q2, q3, q4, v2, by have := Hkm.out; omega, HI6.out.alloc _, HP6.out.later ((Below.refl _ _).alloc (Nat.le_refl _) _) (by omega), by
          intro p hp
          rcases List.mem_append.1 hp with hp | hp
          · exact ⟨by have := (Hps.out p hp).1; omega, (Hps.out p hp).2⟩
          · obtain rfl := List.mem_singleton.1 hp
            exact ⟨Nat.le_refl _, hbw, HT.out.row⟩, Hb6.out.alloc Hb6.out.size _, by simp; omega, rfl, hlt2, by omega, HT2.out, Hr2.out⟩
      case measure => simp [ptrBlock]; omega
end Go.Proofs.YtdfhfmdelinemaaGreatDoor
namespace Go.Proofs.YtdfhfmdelinemaaGreatDoor
open Go.RowKit Go.Extern.Stop Go.Stop Go.Extern
theorem decDigits_small (c : Nat) (h : c < 10) : Lib.decDigits c = [UInt8.ofNat (48 + c)] := by
  rw [Lib.decDigits, dif_pos h]
end Go.Proofs.YtdfhfmdelinemaaGreatDoor
namespace Go.Proofs.YtdfhfmdelinemaaGreatDoor
open Go.RowKit Go.Extern.Stop Go.Stop Go.Extern
abbrev ptrErr (b : Nat) : Value := .iface 46 (.pointer (some ⟨b, 0, none⟩))
theorem chain_trap {w : World} {c : Int} {z : Value} {n B b : Nat} (h : Chain w c z (n + 1) B (ptrErr b)) :
    ∃ env k0 k1 k2 k3 k4 v1, b < B ∧ TrapAt w b c env k0 k1 k2 k3 k4 v1 ∧ Chain w c z n b v1 := by
  obtain ⟨b1, env, k0, k1, k2, k3, k4, v1, e, hlt, ht, hr⟩ := h
  obtain rfl : b = b1 := by injection e with _ e; injection e with e; injection e with e; injection e with e
  exact ⟨env, k0, k1, k2, k3, k4, v1, hlt, ht, hr⟩
theorem chain_first {w : World} (hg : Held w) (b : Nat) :
    Calls Tryz.prog 17 #[ptrErr b] w fun e w' => e = .returned (.tuple #[.pointer (some ⟨b, 0, none⟩), .bool true]) ∧ Below w.heap.size w w' :=
  first_hit _ _ w (asHit_trap w hg _)
theorem chain_code {w : World} {c : Int} {z : Value} {n B b : Nat} (hg : Held w) (h : Chain w c z (n + 1) B (ptrErr b)) :
    Calls Tryz.prog 14 #[ptrErr b] w fun e w' => e = .returned (.int .i64 c) ∧ Below w.heap.size w w' := by
  obtain ⟨env, k0, k1, k2, k3, k4, v1, _, ht, _⟩ := chain_trap h
  exact code_hit _ _ b _ w (asHit_trap w hg _) (cell_of_block ht 0)
theorem chain_depth {w : World} {c : Int} {z : Value} {n B b : Nat} (hg : Held w) (h : Chain w c z (n + 1) B (ptrErr b)) (hB : B ≤ w.heap.size) (hz : ∀ W, Below w.heap.size w W → AsMiss W z) :
    Calls Tryz.prog 18 #[ptrErr b] w fun e w' => e = .returned (.int .i64 ((n + 1 : Nat) : Int)) ∧ Below w.heap.size w w' :=
  depth_hit _ n c z B b w hg (asHit_trap w hg _) hz h hB
theorem chain_is_yes {w : World} {c : Int} {z : Value} {n B b t : Nat} (hg : Held w) (h : Chain w c z (n + 1) B (ptrErr b)) (ht : OfAt w t c) (hne : b ≠ t) :
    Calls Tryz.prog 41 #[ptrErr b, ptrErr t] w fun e w' => e = .returned (.bool true) ∧ Below w.heap.size w w' := by
  obtain ⟨env, k0, k1, k2, k3, k4, v1, _, hb, _⟩ := chain_trap h
  refine Is_trap _ _ _ w ((is_same_code c b t env k0 k1 k2 k3 k4 v1 w hg hb ht hne).mono ?_)
  rintro e w' ⟨rfl, hb⟩
  exact ⟨true, rfl, rfl, hb⟩
theorem chain_is_no {w : World} {c d : Int} {n B b t : Nat} (hg : Held w) (h : Chain w c .nilIface (n + 1) B (ptrErr b)) (ht : OfAt w t d) (hd : (d == c) = false) (hBt : B ≤ t) :
    Calls Tryz.prog 41 #[ptrErr b, ptrErr t] w fun e w' => e = .returned (.bool false) ∧ Below w.heap.size w w' := by
  refine Is_trap _ _ _ w ((is_chain_no c d hd n B t _ w hg ht (fun i hi => by omega) h).mono ?_)
  rintro e w' ⟨rfl, hb⟩
  exact ⟨false, rfl, rfl, hb⟩
theorem chain_is {w : World} {c d : Int} {n B b t : Nat} (hg : Held w) (h : Chain w c .nilIface (n + 1) B (ptrErr b)) (ht : OfAt w t d) (hBt : B ≤ t) :
    Calls Tryz.prog 41 #[ptrErr b, ptrErr t] w fun e w' => e = .returned (.bool (d == c)) ∧ Below w.heap.size w w' := by
  obtain ⟨env, k0, k1, k2, k3, k4, v1, hlt, _, _⟩ := chain_trap h
  by_cases hd : d = c
  · subst hd
    rw [beq_self_eq_true]
    exact chain_is_yes hg h ht (by omega)
  · have hd' : (d == c) = false := beq_eq_false_iff_ne.2 hd
    rw [hd']
    exact chain_is_no hg h ht hd' hBt
theorem chain_error {w : World} {c n B b : Nat} (hg : Held w) (h : Chain w c .nilIface (n + 1) B (ptrErr b)) (hB : B ≤ w.heap.size) (hc : c < 100) (hn : n ≤ 1000) :
    Calls Tryz.prog 224 #[.pointer (some ⟨b, 0, none⟩)] w fun e w' => e = .returned (.string ⟨(repText c n ++ trapText c).toArray⟩) ∧ Below w.heap.size w w' :=
  error_any c n B b hc hn w hg hB .nilIface _ ⟨rfl, rfl⟩ h
theorem chain_in {w w' : World} {c : Int} {z v : Value} {n B : Nat} {env : Int} {k0 k1 k2 k3 k4 : Value} {e : Ending} (h : Chain w c z n B v) (hB : B ≤ w.heap.size) (hi : InPost w c env k0 k1 k2 k3 k4 v e w') :
    ∃ b, e = .returned (ptrErr b) ∧ w.heap.size ≤ b ∧ TrapAt w' b c env k0 k1 k2 k3 k4 v ∧ Below w.heap.size w w' ∧ Chain w' c z (n + 1) w'.heap.size (ptrErr b) := by
  obtain ⟨b, he, hb, ht, hbl⟩ := hi
  exact ⟨b, he, hb, ht, hbl, b, env, k0, k1, k2, k3, k4, v, rfl, lt_of_block ht, ht, (h.later hbl hB).mono (by omega)⟩
theorem in_chain {w : World} {c : Int} {z : Value} {n B b : Nat} (hg : Held w) (h : Chain w c z (n + 1) B (ptrErr b)) (hB : B ≤ w.heap.size) (env x0 x1 x2 x3 x4 : Int) :
    Calls Tryz.prog 45 #[.int .i64 env, .agg #[.int .u64 x0, .int .u64 x1, .int .u64 x2, .int .u64 x3, .int .u64 x4], ptrErr b] w
      (InPost w c env (.int .u64 x0) (.int .u64 x1) (.int .u64 x2) (.int .u64 x3) (.int .u64 x4) (ptrErr b)) :=
  in_some _ _ c env x0 x1 x2 x3 x4 w fun _ hW => chain_code (hg.below hW hg.pos) (h.later hW hB)
theorem of_at (w : World) (c : Int) : OfAt (w.alloc (.cells #[.int .i64 c, .int .i64 (-1), .int .u64 0, .int .u64 0, .int .u64 0, .int .u64 0, .int .u64 0, .nilIface] 50)) w.heap.size c := trap_new w _
def OfPost (w : World) (c : Int) (e : Ending) (w' : World) : Prop :=
  ∃ t, e = .returned (ptrErr t) ∧ t = w.heap.size ∧ OfAt w' t c ∧ w'.heap.size = t + 1 ∧ Below w.heap.size w w'
theorem of_post (c : Int) (hc : (c == 0) = false) (w : World) : Calls Tryz.prog 42 #[.int .i64 c] w (OfPost w c) := by
  refine (of_some c hc w).mono ?_
  rintro e w' ⟨rfl, rfl⟩
  exact ⟨_, rfl, rfl, of_at w c, by simp, (Below.refl _ _).alloc (Nat.le_refl _) _⟩
theorem OfAt.chain {w : World} {t : Nat} {c : Int} (h : OfAt w t c) : Chain w c .nilIface 1 (t + 1) (ptrErr t) :=
  ⟨t, -1, _, _, _, _, _, _, rfl, Nat.lt_succ_self _, h, rfl⟩
end Go.Proofs.YtdfhfmdelinemaaGreatDoor
namespace Go.Proofs.YtdfhfmdelinemaaGreatDoor
open Go.RowKit Go.Extern.Stop Go.Stop Go.Extern
theorem part_call (w : World) (cs : Array Value) (i : Nat) (v : Value) (h : cs[i]? = some v) : (part 34 cs i).run Tryz.prog w = .ok v w := by
  simp [part, h]
theorem eq_word (d : Nat) (x : Int) (w : World) : (Op.equalIn (d + 1) 34 (.int .u64 x) (.int .u64 x)).run Tryz.prog w = .ok true w := by
  rw [run_equalIn_int w d 34 .u64 .u64 x x Tryz.underlying34, beq_self_eq_true]
theorem eq_call (x0 x1 x2 x3 x4 : Int) (d : Nat) (w : World) :
    (Op.equalIn (d + 2) 36 (.agg #[.int .u64 x0, .int .u64 x1, .int .u64 x2, .int .u64 x3, .int .u64 x4]) (.agg #[.int .u64 x0, .int .u64 x1, .int .u64 x2, .int .u64 x3, .int .u64 x4])).run Tryz.prog w = .ok true w := by
  have hr : List.range 5 = [0, 1, 2, 3, 4] := rfl
  have p := part_call w #[.int .u64 x0, .int .u64 x1, .int .u64 x2, .int .u64 x3, .int .u64 x4]
  rw [Op.equalIn]
  simp [run_underlying Tryz.underlying36, List.range'_eq_map_range, hr, p 0 _ rfl, p 1 _ rfl, p 2 _ rfl, p 3 _ rfl, p 4 _ rfl, eq_word, Result.andThen]
theorem eql_call (x0 x1 x2 x3 x4 : Int) (w : World) :
    (Go.binOp .eql 36 (.agg #[.int .u64 x0, .int .u64 x1, .int .u64 x2, .int .u64 x3, .int .u64 x4]) (.agg #[.int .u64 x0, .int .u64 x1, .int .u64 x2, .int .u64 x3, .int .u64 x4])).run Tryz.prog w = .ok (.bool true) w := by
  simp only [Go.binOp]
  simp [Op.equal, Op.maxDepth, eq_call x0 x1 x2 x3 x4 9998]
theorem neq_call (x0 x1 x2 x3 x4 : Int) (w : World) :
    (Go.binOp .neq 36 (.agg #[.int .u64 x0, .int .u64 x1, .int .u64 x2, .int .u64 x3, .int .u64 x4]) (.agg #[.int .u64 x0, .int .u64 x1, .int .u64 x2, .int .u64 x3, .int .u64 x4])).run Tryz.prog w = .ok (.bool false) w := by
  simp only [Go.binOp]
  simp [Op.equal, Op.maxDepth, eq_call x0 x1 x2 x3 x4 9998]
end Go.Proofs.YtdfhfmdelinemaaGreatDoor
namespace Go.Proofs.YtdfhfmdelinemaaGreatDoor
open Go.RowKit Go.Extern.Stop Go.Stop Go.Extern
theorem text_33 : (repText 3 1 ++ trapText 3).toArray = #[116, 114, 97, 112, 32, 51, 58, 32, 116, 114, 97, 112, 32, 51] := by
  simp [repText, trapText, decDigits_small]
set_option maxRecDepth 100000 in
set_option maxHeartbeats 1000000 in
theorem begun_any (w : World) (hg : Held w) :
    Calls Tryz.prog 176 #[] w fun e w' => e = .returned (.bool true) ∧ Below w.heap.size w w' := by
  have hne := fun W b => run_eql_held_nil (P := Tryz.prog) W 32 46 (.pointer (some ⟨b, 0, none⟩)) (by kernel_rfl)
  have mE := Tryz.methodErrorP
  have hcall := eql_call 1 2 0 0 0
  have HG : Hid (∀ W, Below w.heap.size w W → Held W) := fun W hW => hg.below hW hg.pos
  clear hg
  go_enter Tryz.func176, Tryz.ntmps176
  go_wp2_with fail
  refine (of_post 3 rfl w).mono ?_
  rintro e w1 ⟨o, rfl, ho, hat, hs1, hb1⟩
  have Hb1 := Lib.hid hb1
  have HO := Lib.hid hat
  have Hs1 := Lib.hid hs1
  clear ho hat hs1 hb1
  go_wp2_with fail
  refine (in_chain (HG.out _ Hb1.out) HO.out.chain (by rw [Hs1.out]; omega) 2 1 2 0 0 0).mono ?_
  intro e w2 hi
  obtain ⟨b, rfl, _, ht, hb2, hc⟩ := chain_in HO.out.chain (by rw [Hs1.out]; omega) hi
  have Hb2 : Hid (Below w.heap.size w w2) := Hb1.out.trans (hb2.mono Hb1.out.size)
  have HT := Lib.hid ht
  have HC : Hid (∀ W, Below w2.heap.size w2 W → Chain W 3 .nilIface 2 w2.heap.size (ptrErr b)) := fun W hW => hc.later hW (Nat.le_refl _)
  have hbl : b < w2.heap.size := lt_of_block ht
  clear hi ht hb2 hc HO
  go_wp2_with fail
  refine (chain_first (HG.out _ Hb2.out) b).mono ?_
  rintro e w3 ⟨rfl, hb3⟩
  have HB3 := Lib.hid hb3
  have HT3 := Lib.hid (HT.out.later hb3 hbl)
  have l0 := cell_of_block HT3.out 0
  have l1 := cell_of_block HT3.out 1
  have l2 := cell_of_block HT3.out 2
  have l3 := cell_of_block HT3.out 3
  have l4 := cell_of_block HT3.out 4
  have l5 := cell_of_block HT3.out 5
  have l6 := cell_of_block HT3.out 6
  clear hb3
  go_wp2_with fail
  refine (chain_code (HG.out _ (Hb2.out.trans (HB3.out.mono Hb2.out.size))) (HC.out _ HB3.out)).mono ?_
  rintro e w4 ⟨rfl, hb4⟩
  have HB4 : Hid (Below w2.heap.size w2 w4) := HB3.out.trans (hb4.mono HB3.out.size)
  clear hb4 l0 l1 l2 l3 l4 l5 l6 HT3
  go_wp2_with fail
  refine (chain_depth (HG.out _ (Hb2.out.trans (HB4.out.mono Hb2.out.size))) (HC.out _ HB4.out) HB4.out.size (fun W _ => asMiss_nil W)).mono ?_
  rintro e w5 ⟨rfl, hb5⟩
  have HB5 : Hid (Below w2.heap.size w2 w5) := HB4.out.trans (hb5.mono HB4.out.size)
  clear hb5
  go_wp2_with fail
  refine (of_post 3 rfl w5).mono ?_
  rintro e w6 ⟨t, rfl, ht, hat, _, hb6⟩
  have HA6 := Lib.hid hat
  have HB6 : Hid (Below w2.heap.size w2 w6) := HB5.out.trans (hb6.mono HB5.out.size)
  have ht6 : w2.heap.size ≤ t := by rw [ht]; exact HB5.out.size
  clear ht hat hb6
  go_wp2_with fail
  refine (chain_is_yes (HG.out _ (Hb2.out.trans (HB6.out.mono Hb2.out.size))) (HC.out _ HB6.out) HA6.out (by omega)).mono ?_
  rintro e w7 ⟨rfl, hb7⟩
  have HB7 : Hid (Below w2.heap.size w2 w7) := HB6.out.trans (hb7.mono HB6.out.size)
  clear hb7
  go_wp2_with fail
  refine (of_post 4 rfl w7).mono ?_
  rintro e w8 ⟨t2, rfl, ht, hat, _, hb8⟩
  have HA8 := Lib.hid hat
  have HB8 : Hid (Below w2.heap.size w2 w8) := HB7.out.trans (hb8.mono HB7.out.size)
  have ht8 : w2.heap.size ≤ t2 := by rw [ht]; exact HB7.out.size
  clear ht hat hb8
  go_wp2_with fail
  refine (chain_is_no (HG.out _ (Hb2.out.trans (HB8.out.mono Hb2.out.size))) (HC.out _ HB8.out) HA8.out (by decide) ht8).mono ?_
  rintro e w9 ⟨rfl, hb9⟩
  have HB9 : Hid (Below w2.heap.size w2 w9) := HB8.out.trans (hb9.mono HB8.out.size)
  clear hb9
  go_wp2_with fail
  have he := chain_error (c := 3) (HG.out _ (Hb2.out.trans (HB9.out.mono Hb2.out.size))) (HC.out _ HB9.out) HB9.out.size (by omega) (by omega)
  rw [text_33] at he
  refine he.mono ?_
  clear he
  rintro e wa ⟨rfl, hba⟩
  have HBa : Hid (Below w2.heap.size w2 wa) := HB9.out.trans (hba.mono HB9.out.size)
  clear hba
  go_wp2_with fail
  refine (of_zero wa).mono ?_
  rintro e wb ⟨rfl, rfl⟩
  go_wp2_with fail
  go_ret
  exact ⟨rfl, Hb2.out.trans (HBa.out.mono Hb2.out.size)⟩
end Go.Proofs.YtdfhfmdelinemaaGreatDoor
