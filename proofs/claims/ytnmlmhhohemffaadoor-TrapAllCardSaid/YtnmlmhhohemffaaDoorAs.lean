/- What is proved here: errors.as and errors.As at a target of type **trap.Trap: a *trap.Trap is found at once and the target is set to it; an error made by errors.New is not found; nil is not found. Conditions: the library's variable errors.errorType holds the type error; the target's cell is there and not frozen. -/
import Derived.Test.YtnmlmhhohemffaaDoorBase
namespace Go.Proofs.YtnmlmhhohemffaaDoor
open Go.RowKit Go.Extern.Stop Go.Stop Go.Extern

/-- The library's variable holds the type error. -/
def Held (w : World) : Prop := w.cell? ⟨0, 0, none⟩ = some (.iface 90 (.agg #[.pointer (some ⟨4, 30, none⟩)]))

theorem Held.pos {w : World} (h : Held w) : 0 < w.heap.size := by
  rcases Nat.eq_zero_or_pos w.heap.size with h0 | h1
  · unfold Held at h
    simp [World.cell?, h0] at h
  · exact h1

theorem Held.below {w w' : World} {B : Nat} (h : Held w) (hb : Below B w w') (hB : 0 < B) : Held w' := by
  unfold Held at *
  rw [hb.cell (p := ⟨0, 0, none⟩) hB]; exact h

theorem lt_of_cell {w : World} {a : Addr} {v : Value} (h : w.cell? a = some v) : a.block < w.heap.size := by
  rcases Nat.lt_or_ge a.block w.heap.size with h1 | h1
  · exact h1
  · simp [World.cell?, Array.getElem?_eq_none h1] at h

/-- True, and the variable at t holds e; memory that was there is else as it was. -/
def HitAt (w : World) (t e : Addr) (ev : Ending) (w' : World) : Prop :=
  ev = .returned (.bool true) ∧ ∃ w1, Below w.heap.size w w1 ∧ w' = w1.setCell t (.pointer (some e))
def MissAt (w : World) (ev : Ending) (w' : World) : Prop := ev = .returned (.bool false) ∧ Below w.heap.size w w'

theorem call_valueOf (args : Array Value) (w : World) : (callFunc 30 args).run Tryd.prog w = ((((fun args => ReflectliteValue.unpack (args.getD 0 (.tuple #[])))) args).run Tryd.prog w).andThen fun v w1 => .ok (.value v) w1 :=
  run_callFunc_extern (e := ((fun args => ReflectliteValue.unpack (args.getD 0 (.tuple #[]))))) Tryd.func30 (by kernel_rfl) (by kernel_rfl) (by kernel_rfl) (by kernel_rfl) args w
theorem call_type (args : Array Value) (w : World) : (callFunc 31 args).run Tryd.prog w = ((((ReflectliteValue.methodAny (ReflectliteValue.valueError "reflectlite.Value.Type" 0) (fun t _ _ _ => ReflectliteType.toType t))) args).run Tryd.prog w).andThen fun v w1 => .ok (.value v) w1 :=
  run_callFunc_extern (e := ((ReflectliteValue.methodAny (ReflectliteValue.valueError "reflectlite.Value.Type" 0) (fun t _ _ _ => ReflectliteType.toType t)))) Tryd.func31 (by kernel_rfl) (by kernel_rfl) (by kernel_rfl) (by kernel_rfl) args w
theorem call_isNil (args : Array Value) (w : World) : (callFunc 32 args).run Tryd.prog w = ((((ReflectliteValue.method (ReflectliteValue.valueError "reflectlite.Value.IsNil" 0) ReflectliteValue.isNil)) args).run Tryd.prog w).andThen fun v w1 => .ok (.value v) w1 :=
  run_callFunc_extern (e := ((ReflectliteValue.method (ReflectliteValue.valueError "reflectlite.Value.IsNil" 0) ReflectliteValue.isNil))) Tryd.func32 (by kernel_rfl) (by kernel_rfl) (by kernel_rfl) (by kernel_rfl) args w
theorem call_kind (args : Array Value) (w : World) : (callFunc 71 args).run Tryd.prog w = ((((ReflectliteType.abiMethod fun t => do pure (.int .u8 (← Rtype.kind t)))) args).run Tryd.prog w).andThen fun v w1 => .ok (.value v) w1 :=
  run_callFunc_extern (e := ((ReflectliteType.abiMethod fun t => do pure (.int .u8 (← Rtype.kind t))))) Tryd.func71 (by kernel_rfl) (by kernel_rfl) (by kernel_rfl) (by kernel_rfl) args w
theorem call_elemT (args : Array Value) (w : World) : (callFunc 84 args).run Tryd.prog w = ((((ReflectliteType.method ReflectliteType.elem)) args).run Tryd.prog w).andThen fun v w1 => .ok (.value v) w1 :=
  run_callFunc_extern (e := ((ReflectliteType.method ReflectliteType.elem))) Tryd.func84 (by kernel_rfl) (by kernel_rfl) (by kernel_rfl) (by kernel_rfl) args w
theorem call_implements (args : Array Value) (w : World) : (callFunc 85 args).run Tryd.prog w = ((((ReflectliteType.relation "Implements" ReflectliteType.implements_)) args).run Tryd.prog w).andThen fun v w1 => .ok (.value v) w1 :=
  run_callFunc_extern (e := ((ReflectliteType.relation "Implements" ReflectliteType.implements_))) Tryd.func85 (by kernel_rfl) (by kernel_rfl) (by kernel_rfl) (by kernel_rfl) args w
theorem call_typeOf (args : Array Value) (w : World) : (callFunc 28 args).run Tryd.prog w = (((ReflectliteType.typeOf) args).run Tryd.prog w).andThen fun v w1 => .ok (.value v) w1 :=
  run_callFunc_extern (e := ReflectliteType.typeOf) Tryd.func28 (by kernel_rfl) (by kernel_rfl) (by kernel_rfl) (by kernel_rfl) args w
theorem call_assignable (args : Array Value) (w : World) : (callFunc 82 args).run Tryd.prog w = ((((ReflectliteType.relation "AssignableTo" ReflectliteType.assignableTo)) args).run Tryd.prog w).andThen fun v w1 => .ok (.value v) w1 :=
  run_callFunc_extern (e := ((ReflectliteType.relation "AssignableTo" ReflectliteType.assignableTo))) Tryd.func82 (by kernel_rfl) (by kernel_rfl) (by kernel_rfl) (by kernel_rfl) args w
theorem call_elemV (args : Array Value) (w : World) : (callFunc 39 args).run Tryd.prog w = ((((ReflectliteValue.method (ReflectliteValue.valueError "reflectlite.Value.Elem" 0) ReflectliteValue.elem)) args).run Tryd.prog w).andThen fun v w1 => .ok (.value v) w1 :=
  run_callFunc_extern (e := ((ReflectliteValue.method (ReflectliteValue.valueError "reflectlite.Value.Elem" 0) ReflectliteValue.elem))) Tryd.func39 (by kernel_rfl) (by kernel_rfl) (by kernel_rfl) (by kernel_rfl) args w
theorem call_set (args : Array Value) (w : World) : (callFunc 40 args).run Tryd.prog w = (((ReflectliteValue.set) args).run Tryd.prog w).andThen fun v w1 => .ok (.value v) w1 :=
  run_callFunc_extern (e := ReflectliteValue.set) Tryd.func40 (by kernel_rfl) (by kernel_rfl) (by kernel_rfl) (by kernel_rfl) args w
theorem call_comparableP (w : World) : (callFunc 83 #[.agg #[.pointer (some ⟨4, 34, none⟩)]]).run Tryd.prog w = .ok (.value (.bool true)) w := by kernel_rfl
theorem call_comparableS (w : World) : (callFunc 83 #[.agg #[.pointer (some ⟨4, 63, none⟩)]]).run Tryd.prog w = .ok (.value (.bool true)) w := by kernel_rfl

/-- errors.as at a *trap.Trap: found at once. -/
theorem as_hit (e t tv : Addr) (old : Value) (w : World) (htv : w.cell? tv = some (.pointer (some t))) (ht0 : w.cell? t = some old) (hf0 : w.frozen? t = false) :
    Calls Tryd.prog 33 #[.iface 34 (.pointer (some e)), .iface 49 (.pointer (some t)), .agg #[.pointer (some ⟨4, 49, none⟩), .pointer (some tv), .int .u64 150], .iface 90 (.agg #[.pointer (some ⟨4, 34, none⟩)])] w (HitAt w t e) := by
  have htl := lt_of_cell ht0
  have htvl := lt_of_cell htv
  have h10 := call_typeOf
  have h35 := call_assignable
  have h6 := call_valueOf
  have h11 := call_elemV
  have h12 := call_set
  have tO := Tryd.typeOfP
  have mA := Tryd.methodAssignableTo
  have a25 := Tryd.assignableP
  have v25 := Tryd.valueOfP
  have el := Tryd.elemVPP tv t (w.alloc (.cells #[.pointer (some ⟨4, 49, none⟩), .pointer (some tv), .int .u64 150] 75)) (by rw [World.cell?_alloc_lt _ _ tv htvl]; exact htv)
  have st := Tryd.setP t ⟨w.heap.size + 1, 0, none⟩ e old ((w.alloc (.cells #[.pointer (some ⟨4, 49, none⟩), .pointer (some tv), .int .u64 150] 75)).alloc (.cells #[.pointer (some e)] 34))
    (by rw [World.cell?_alloc_at _ _ _ _ (by simp)]; rfl)
    (by rw [World.cell?_alloc_lt _ _ t (by simp; omega), World.cell?_alloc_lt _ _ t htl]; exact ht0)
    (by rw [World.frozen?_alloc_old _ _ t (by simp; omega), World.frozen?_alloc_old _ _ t (Nat.ne_of_lt htl)]; exact hf0)
  go_enter Tryd.func33, Tryd.ntmps33
  go_wp2
  refine wp_loop_rounds 1 ?_
  rw [rounds_succ]
  go_wp2
  go_ret
  exact ⟨rfl, _, ((Below.refl _ _).alloc (Nat.le_refl _) _).alloc (by simp) _, rfl⟩

/-- errors.as at an error of errors.New: not found. -/
theorem as_miss (e : Addr) (t tv : Addr) (w : World) :
    Calls Tryd.prog 33 #[.iface 63 (.pointer (some e)), .iface 49 (.pointer (some t)), .agg #[.pointer (some ⟨4, 49, none⟩), .pointer (some tv), .int .u64 150], .iface 90 (.agg #[.pointer (some ⟨4, 34, none⟩)])] w (MissAt w) := by
  have h10 := call_typeOf
  have h35 := call_assignable
  have tO := Tryd.typeOfS
  have mA := Tryd.methodAssignableTo
  have a25 := Tryd.assignableS
  have nA := Tryd.noAsS
  have nU := Tryd.noUnwrapS
  have nV := Tryd.noUnwrapsS
  go_enter Tryd.func33, Tryd.ntmps33
  go_wp2
  refine wp_loop_rounds 1 ?_
  rw [rounds_succ]
  go_wp2
  go_ret
  exact ⟨rfl, (Below.refl _ _).alloc (Nat.le_refl _) _⟩

/-- errors.As(nil, target). -/
theorem As_nil (t : Value) (w : World) :
    Calls Tryd.prog 23 #[.nilIface, t] w (MissAt w) := by
  go_enter Tryd.func23, Tryd.ntmps23
  go_wp2
  go_ret
  exact ⟨rfl, Below.refl _ _⟩

/-- errors.As of what is not nil: as errors.as has it. -/
theorem As_some (u : TypeId) (x : Value) (t : Addr) (w : World) (hg : Held w) {R : Ending → World → Prop}
    (H : ∀ (tv : Addr) (W : World), Below w.heap.size w W → W.cell? tv = some (.pointer (some t)) →
      Calls Tryd.prog 33 #[.iface u x, .iface 49 (.pointer (some t)), .agg #[.pointer (some ⟨4, 49, none⟩), .pointer (some tv), .int .u64 150], .iface 90 (.agg #[.pointer (some ⟨4, 34, none⟩)])] W (fun e w' => ∃ b : Bool, e = .returned (.bool b) ∧ R e w')) :
    Calls Tryd.prog 23 #[.iface u x, .iface 49 (.pointer (some t))] w R := by
  have h6 := call_valueOf
  have h7 := call_type
  have h8 := call_isNil
  have h27 := call_kind
  have h37 := call_elemT
  have h38 := call_implements
  have f6 := Tryd.valueOfPP
  have f7 := Tryd.typePP
  have mK := Tryd.methodKind
  have mE := Tryd.methodElem
  have mI := Tryd.methodImplements
  have k27 := Tryd.kindPP
  have k25 := Tryd.kindP
  have e27 := Tryd.elemPP
  have i25 := Tryd.implementsP
  have n8 := Tryd.isNilPP ⟨w.heap.size, 0, none⟩ t ((w.alloc (.cells #[.pointer (some t)] 49)).alloc (.cells #[.pointer (some ⟨4, 49, none⟩), .pointer (some ⟨w.heap.size, 0, none⟩), .int .u64 150] 75)) (by simp)
  have hlt := hg.pos
  have hg2 : ((w.alloc (.cells #[.pointer (some t)] 49)).alloc (.cells #[.pointer (some ⟨4, 49, none⟩), .pointer (some ⟨w.heap.size, 0, none⟩), .int .u64 150] 75)).cell? ⟨0, 0, none⟩ = some (.iface 90 (.agg #[.pointer (some ⟨4, 30, none⟩)])) := by
    rw [World.cell?_alloc_lt _ _ ⟨0, 0, none⟩ (by simp), World.cell?_alloc_lt _ _ ⟨0, 0, none⟩ hlt]; exact hg
  have hne := run_eql_held_nil (P := Tryd.prog) w 30 u x (by kernel_rfl)
  go_enter Tryd.func23, Tryd.ntmps23
  go_wp2_with (go_at_call 33; refine (H _ _ (((Below.refl _ _).alloc (Nat.le_refl _) _).alloc (by simp) _) (by simp)).mono ?_; rintro e w' ⟨b, rfl, hR⟩)
  exact hR
end Go.Proofs.YtnmlmhhohemffaaDoor
