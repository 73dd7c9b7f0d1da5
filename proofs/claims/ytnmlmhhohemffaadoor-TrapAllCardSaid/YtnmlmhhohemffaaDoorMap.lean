/- What is proved here: laws on a map that is keyed by pointers to blocks that are there (a set of blocks): a look-up of a block that is not in it finds none; a store of such a block adds it; its length is how many are in it. Conditions: the blocks are blocks of cells, none frozen; the key's pointee has at least one cell. -/
import Derived.Test.YtnmlmhhohemffaaDoorIs
import Derived.Maps.OwnSet
namespace Go.Proofs.YtnmlmhhohemffaaDoor
open Go.RowKit Go.Extern.Stop Go.Stop Go.Extern Go.ChangeMaps Go.MapKept

section
variable {P : Program} (w : World)
theorem run_equal_ptr_other {tp te : TypeId} {j : TypeInfo} {a b : Addr} {ca cb : Array Value} {ta tb : TypeId} (hp : P.underlying tp = some (.pointer te)) (hte : P.info? te = some j) (hsz : j.size ≠ 0)
    (hne : a ≠ b) (ha : w.heap[a.block]? = some (.cells ca ta (0, 0))) (hb : w.heap[b.block]? = some (.cells cb tb (0, 0))) :
    (Op.equal tp (.pointer (some a)) (.pointer (some b))).run P w = .ok false w := by
  have h : ∀ d : Nat, (Op.equalIn (d + 1) tp (.pointer (some a)) (.pointer (some b))).run P w = .ok false w := fun d => by
    simp [Op.equalIn, run_underlying hp, sizeOf, typeInfo, hte, hsz, run_sameAddr_other w hne ha hb]
  simp [Op.equal, Op.maxDepth, h 9999]

theorem findAsking_none {k : TypeId} {x : Value} : ∀ (es : List MapEntry) (i : Nat), (∀ e ∈ es, (Op.equal k x e.key).run P w = .ok false w) → (Instr.findAsking k x es i).run P w = .ok none w
  | [], _, _ => by simp [Instr.findAsking]
  | e :: es, i, h => by
    have h1 := h e (by simp)
    have h2 := findAsking_none es (i + 1) (fun y hy => h y (by simp [hy]))
    simp [Instr.findAsking, h1, h2, Result.andThen]

theorem findKey_none {k te : TypeId} {a : Addr} (hk : P.underlying k = some (.pointer te)) (es : List MapEntry) (h : ∀ e ∈ es, (Op.equal k (.pointer (some a)) e.key).run P w = .ok false w) :
    (Instr.findKey k (.pointer (some a)) es).run P w = .ok none w := by
  cases es with
  | nil => simp [Instr.findKey, run_underlying hk, Instr.findNow, Result.andThen]
  | cons e es =>
    have h1 := findAsking_none w (e :: es) 0 h
    simp [Instr.findKey, run_underlying hk, Instr.findNow, Instr.sameNow, Result.andThen, h1]

theorem checkKey_ptr {k te : TypeId} {a : Addr} (hk : P.underlying k = some (.pointer te)) (em : Bool) : (Instr.checkKey em 10000 k (.pointer (some a))).run P w = .ok () w := by
  have h : ∀ d : Nat, (Instr.checkKey em (d + 1) k (.pointer (some a))).run P w = .ok () w := fun d => by
    simp [Instr.checkKey, run_underlying hk, Result.andThen]
  exact h 9999
end

/-- The map in block M holds just the blocks ps as keys. -/
def PMap (w : World) (M : Nat) (ps : List Nat) : Prop :=
  ∃ es clock, w.heap[M]? = some (.map es clock) ∧ es.toList.map (·.key) = ps.map (fun b => Value.pointer (some ⟨b, 0, none⟩))
/-- Block b is one of cells. -/
def IsRow (w : World) (b : Nat) : Prop := ∃ cs t, w.heap[b]? = some (.cells cs t (0, 0))

theorem PMap.later {w w' : World} {M B : Nat} {ps : List Nat} (h : PMap w M ps) (hb : Below B w w') (hB : M < B) : PMap w' M ps := by
  obtain ⟨es, clock, h1, h2⟩ := h
  exact ⟨es, clock, by rw [hb.block M hB]; exact h1, h2⟩
theorem IsRow.later {w w' : World} {b B : Nat} (h : IsRow w b) (hb : Below B w w') (hB : b < B) : IsRow w' b := by
  obtain ⟨cs, t, h⟩ := h
  exact ⟨cs, t, by rw [hb.block b hB]; exact h⟩
theorem TrapAt.row {w : World} {b : Nat} {c env : Int} {k0 k1 k2 k3 k4 v : Value} (h : TrapAt w b c env k0 k1 k2 k3 k4 v) : IsRow w b := ⟨_, _, h⟩
theorem PMap.new (w : World) : PMap (w.alloc (.map #[] 0)) w.heap.size [] := ⟨#[], 0, (MapKept.heap_alloc w _).1, rfl⟩

theorem pmap_keys {w : World} {M b : Nat} {ps : List Nat} {es : Array MapEntry} {clock : Nat} (_hM : w.heap[M]? = some (.map es clock)) (hk : es.toList.map (·.key) = ps.map (fun b => Value.pointer (some ⟨b, 0, none⟩)))
    (hb : IsRow w b) (hps : ∀ p ∈ ps, p ≠ b ∧ IsRow w p) : ∀ e ∈ es.toList, (Op.equal 34 (.pointer (some ⟨b, 0, none⟩)) e.key).run Tryd.prog w = .ok false w := by
  intro e he
  have hm : e.key ∈ ps.map (fun b => Value.pointer (some ⟨b, 0, none⟩)) := by rw [← hk]; exact List.mem_map_of_mem he
  obtain ⟨p, hp, hpe⟩ := List.mem_map.1 hm
  rw [← hpe]
  obtain ⟨hne, cs, t, hrow⟩ := hps p hp
  obtain ⟨cb, tb, hrb⟩ := hb
  obtain ⟨j, hj, hjs⟩ := Option.map_eq_some_iff.1 Tryd.isSizeP
  exact run_equal_ptr_other w Tryd.underlying34 hj (by rw [hjs]; decide) (fun h => hne (congrArg Addr.block h).symm) hrb hrow

/-- '_, ok := m[k]' of a block that is not in the set. -/
theorem wpList_lookup_ptr (w : World) {ops : Array Oper} {rest : List Oper} {o : Oper} {a : Act} {Q : Exit → Act → World → Prop}
    (hg : o.guard = none) (m x : Operand) (hop : o.op = Op.lookup 56 m x true)
    (M b : Nat) (ps : List Nat) (hm : a.eval m = .map (some M)) (hown : PMap w M ps) (hx : a.eval x = .pointer (some ⟨b, 0, none⟩)) (hb : IsRow w b) (hps : ∀ p ∈ ps, p ≠ b ∧ IsRow w p)
    (hK : wpList Tryd.prog ops Q rest (a.put o.dst (.tuple #[.agg #[], .bool false])) w) :
    wpList Tryd.prog ops Q (o :: rest) a w := by
  refine wpList_plain hg fun K' hK' => ?_
  obtain ⟨es, clock, h1, h2⟩ := hown
  have hrun : (Instr.lookup 56 (.map (some M)) (.pointer (some ⟨b, 0, none⟩)) true).run Tryd.prog w = .ok (.tuple #[.agg #[], .bool false]) w := by
    simp [Instr.lookup, run_underlying Tryd.underlying56, MapKept.run_getObj_map h1, checkKey_ptr w Tryd.underlying34, findKey_none w Tryd.underlying34 es.toList (pmap_keys h1 h2 hb hps), Result.andThen]
  unfold Oper.wp
  simp [execOp, hop, hm, hx, hrun, Result.andThen]
  exact hK' _ _ hK

/-- 'm[k] = struct{}{}' of a block that is not in the set. -/
theorem wpList_mapUpdate_ptr (w : World) {ops : Array Oper} {rest : List Oper} {o : Oper} {a : Act} {Q : Exit → Act → World → Prop}
    (hg : o.guard = none) (m x v : Operand) (hop : o.op = Op.mapUpdate 56 m x v)
    (M b : Nat) (ps : List Nat) (hm : a.eval m = .map (some M)) (hown : PMap w M ps) (hx : a.eval x = .pointer (some ⟨b, 0, none⟩)) (hv : a.eval v = .agg #[]) (hb : IsRow w b) (hps : ∀ p ∈ ps, p ≠ b ∧ IsRow w p)
    (hK : ∀ w', PMap w' M (ps ++ [b]) → Below M w w' → w'.heap.size = w.heap.size → (∀ i, i ≠ M → w'.heap[i]? = w.heap[i]?) → wpList Tryd.prog ops Q rest (a.put o.dst undef) w') :
    wpList Tryd.prog ops Q (o :: rest) a w := by
  refine wpList_plain hg fun K' hK' => ?_
  obtain ⟨es, clock, h1, h2⟩ := hown
  have hrun : (Instr.mapUpdate 56 (.map (some M)) (.pointer (some ⟨b, 0, none⟩)) (.agg #[])).run Tryd.prog w = .ok () (setBlock w M (.map (es.push { key := .pointer (some ⟨b, 0, none⟩), val := .agg #[], born := clock }) (clock + 1))) := by
    simp [Instr.mapUpdate, run_underlying Tryd.underlying56, MapKept.run_getObj_map h1, checkKey_ptr w Tryd.underlying34, findKey_none w Tryd.underlying34 es.toList (pmap_keys h1 h2 hb hps), MapKept.run_setObj_map _ h1, Result.andThen, setBlock]
  unfold Oper.wp
  simp [execOp, hop, hm, hx, hv, hrun, Result.andThen]
  refine hK' _ _ (hK _ ⟨_, _, heap_setBlock_same h1 _, ?_⟩ ⟨rfl, rfl, rfl, by simp [setBlock], fun i hi => heap_setBlock_other h1 _ (by omega)⟩ (by simp [setBlock]) (fun i hi => heap_setBlock_other h1 _ hi))
  simp [h2]

/-- 'len(m)'. -/
theorem wpList_len_ptr (w : World) {ops : Array Oper} {rest : List Oper} {o : Oper} {a : Act} {Q : Exit → Act → World → Prop}
    (hg : o.guard = none) (m : Operand) (hop : o.op = Op.call { callee := Callee.builtin Builtin.len, args := #[m], argTypes := #[56] })
    (M : Nat) (ps : List Nat) (hm : a.eval m = .map (some M)) (hown : PMap w M ps)
    (hK : wpList Tryd.prog ops Q rest (a.put o.dst (.int .i64 ps.length)) w) :
    wpList Tryd.prog ops Q (o :: rest) a w := by
  refine wpList_plain hg fun K' hK' => ?_
  obtain ⟨es, clock, h1, h2⟩ := hown
  have hl : es.size = ps.length := by
    have h := congrArg List.length h2
    simpa using h
  have hrun := run_len_map (P := Tryd.prog) (w := w) 56 o.type M es clock (by kernel_rfl) h1
  rw [hl] at hrun
  unfold Oper.wp
  simp [execOp, hop, resolve, invoke, builtin, hm, hrun, Result.andThen, goInt]
  exact hK' _ _ hK
end Go.Proofs.YtnmlmhhohemffaaDoor
