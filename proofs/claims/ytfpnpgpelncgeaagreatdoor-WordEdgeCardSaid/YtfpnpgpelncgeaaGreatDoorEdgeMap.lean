/- What is proved here: the map of calls that the statement WordEdge writes, built key by key, and what is looked up in it. Conditions: none. -/
import Derived.Test.YtfpnpgpelncgeaaGreatDoorWordRef
import Derived.MapKept
import Derived.ChangeMaps5
namespace Go.Proofs.YtfpnpgpelncgeaaGreatDoor
open Go.RowKit Go.Extern.Stop Go.Stop Go.Extern Go.ChangeMaps Go.MapKept

theorem checkKey_int (w : World) (em : Bool) (n : Int) : (Instr.checkKey em 10000 3 (.int .i64 n)).run Tryz.prog w = .ok () w := by
  have h : ∀ d : Nat, (Instr.checkKey em (d + 1) 3 (.int .i64 n)).run Tryz.prog w = .ok () w := fun d => by
    simp [Instr.checkKey, run_underlying Tryz.underlying3]
  exact h 9999
def edgeMap0 : Array MapEntry := #[]
def edgeMap1 : Array MapEntry := #[⟨.int .i64 1, .agg #[.int .u64 1, .int .u64 7, .int .u64 0, .int .u64 0, .int .u64 0], 0⟩]
def edgeMap2 : Array MapEntry := #[⟨.int .i64 1, .agg #[.int .u64 1, .int .u64 7, .int .u64 0, .int .u64 0, .int .u64 0], 0⟩, ⟨.int .i64 2, .agg #[.int .u64 2, .int .u64 7, .int .u64 7, .int .u64 3, .int .u64 0], 1⟩]
def edgeMap3 : Array MapEntry := #[⟨.int .i64 1, .agg #[.int .u64 1, .int .u64 7, .int .u64 0, .int .u64 0, .int .u64 0], 0⟩, ⟨.int .i64 2, .agg #[.int .u64 2, .int .u64 7, .int .u64 7, .int .u64 3, .int .u64 0], 1⟩, ⟨.int .i64 3, .agg #[.int .u64 3, .int .u64 7, .int .u64 3, .int .u64 7, .int .u64 3], 2⟩]
def edgeMap4 : Array MapEntry := #[⟨.int .i64 1, .agg #[.int .u64 1, .int .u64 7, .int .u64 0, .int .u64 0, .int .u64 0], 0⟩, ⟨.int .i64 2, .agg #[.int .u64 2, .int .u64 7, .int .u64 7, .int .u64 3, .int .u64 0], 1⟩, ⟨.int .i64 3, .agg #[.int .u64 3, .int .u64 7, .int .u64 3, .int .u64 7, .int .u64 3], 2⟩, ⟨.int .i64 4, .agg #[.int .u64 4, .int .u64 7, .int .u64 0, .int .u64 0, .int .u64 0], 3⟩]
def edgeMap5 : Array MapEntry := #[⟨.int .i64 1, .agg #[.int .u64 1, .int .u64 7, .int .u64 0, .int .u64 0, .int .u64 0], 0⟩, ⟨.int .i64 2, .agg #[.int .u64 2, .int .u64 7, .int .u64 7, .int .u64 3, .int .u64 0], 1⟩, ⟨.int .i64 3, .agg #[.int .u64 3, .int .u64 7, .int .u64 3, .int .u64 7, .int .u64 3], 2⟩, ⟨.int .i64 4, .agg #[.int .u64 4, .int .u64 7, .int .u64 0, .int .u64 0, .int .u64 0], 3⟩, ⟨.int .i64 5, .agg #[.int .u64 5, .int .u64 7, .int .u64 0, .int .u64 0, .int .u64 0], 4⟩]
def edgeMap6 : Array MapEntry := #[⟨.int .i64 1, .agg #[.int .u64 1, .int .u64 7, .int .u64 0, .int .u64 0, .int .u64 0], 0⟩, ⟨.int .i64 2, .agg #[.int .u64 2, .int .u64 7, .int .u64 7, .int .u64 3, .int .u64 0], 1⟩, ⟨.int .i64 3, .agg #[.int .u64 3, .int .u64 7, .int .u64 3, .int .u64 7, .int .u64 3], 2⟩, ⟨.int .i64 4, .agg #[.int .u64 4, .int .u64 7, .int .u64 0, .int .u64 0, .int .u64 0], 3⟩, ⟨.int .i64 5, .agg #[.int .u64 5, .int .u64 7, .int .u64 0, .int .u64 0, .int .u64 0], 4⟩, ⟨.int .i64 6, .agg #[.int .u64 6, .int .u64 7, .int .u64 7, .int .u64 3, .int .u64 0], 5⟩]
def edgeMap7 : Array MapEntry := #[⟨.int .i64 1, .agg #[.int .u64 1, .int .u64 7, .int .u64 0, .int .u64 0, .int .u64 0], 0⟩, ⟨.int .i64 2, .agg #[.int .u64 2, .int .u64 7, .int .u64 7, .int .u64 3, .int .u64 0], 1⟩, ⟨.int .i64 3, .agg #[.int .u64 3, .int .u64 7, .int .u64 3, .int .u64 7, .int .u64 3], 2⟩, ⟨.int .i64 4, .agg #[.int .u64 4, .int .u64 7, .int .u64 0, .int .u64 0, .int .u64 0], 3⟩, ⟨.int .i64 5, .agg #[.int .u64 5, .int .u64 7, .int .u64 0, .int .u64 0, .int .u64 0], 4⟩, ⟨.int .i64 6, .agg #[.int .u64 6, .int .u64 7, .int .u64 7, .int .u64 3, .int .u64 0], 5⟩, ⟨.int .i64 7, .agg #[.int .u64 7, .int .u64 7, .int .u64 0, .int .u64 0, .int .u64 0], 6⟩]
def edgeMap8 : Array MapEntry := #[⟨.int .i64 1, .agg #[.int .u64 1, .int .u64 7, .int .u64 0, .int .u64 0, .int .u64 0], 0⟩, ⟨.int .i64 2, .agg #[.int .u64 2, .int .u64 7, .int .u64 7, .int .u64 3, .int .u64 0], 1⟩, ⟨.int .i64 3, .agg #[.int .u64 3, .int .u64 7, .int .u64 3, .int .u64 7, .int .u64 3], 2⟩, ⟨.int .i64 4, .agg #[.int .u64 4, .int .u64 7, .int .u64 0, .int .u64 0, .int .u64 0], 3⟩, ⟨.int .i64 5, .agg #[.int .u64 5, .int .u64 7, .int .u64 0, .int .u64 0, .int .u64 0], 4⟩, ⟨.int .i64 6, .agg #[.int .u64 6, .int .u64 7, .int .u64 7, .int .u64 3, .int .u64 0], 5⟩, ⟨.int .i64 7, .agg #[.int .u64 7, .int .u64 7, .int .u64 0, .int .u64 0, .int .u64 0], 6⟩, ⟨.int .i64 8, .agg #[.int .u64 8, .int .u64 7, .int .u64 3, .int .u64 0, .int .u64 0], 7⟩]
def edgeMap9 : Array MapEntry := #[⟨.int .i64 1, .agg #[.int .u64 1, .int .u64 7, .int .u64 0, .int .u64 0, .int .u64 0], 0⟩, ⟨.int .i64 2, .agg #[.int .u64 2, .int .u64 7, .int .u64 7, .int .u64 3, .int .u64 0], 1⟩, ⟨.int .i64 3, .agg #[.int .u64 3, .int .u64 7, .int .u64 3, .int .u64 7, .int .u64 3], 2⟩, ⟨.int .i64 4, .agg #[.int .u64 4, .int .u64 7, .int .u64 0, .int .u64 0, .int .u64 0], 3⟩, ⟨.int .i64 5, .agg #[.int .u64 5, .int .u64 7, .int .u64 0, .int .u64 0, .int .u64 0], 4⟩, ⟨.int .i64 6, .agg #[.int .u64 6, .int .u64 7, .int .u64 7, .int .u64 3, .int .u64 0], 5⟩, ⟨.int .i64 7, .agg #[.int .u64 7, .int .u64 7, .int .u64 0, .int .u64 0, .int .u64 0], 6⟩, ⟨.int .i64 8, .agg #[.int .u64 8, .int .u64 7, .int .u64 3, .int .u64 0, .int .u64 0], 7⟩, ⟨.int .i64 9, .agg #[.int .u64 9, .int .u64 7, .int .u64 15, .int .u64 4, .int .u64 9], 8⟩]
def edgeMap10 : Array MapEntry := #[⟨.int .i64 1, .agg #[.int .u64 1, .int .u64 7, .int .u64 0, .int .u64 0, .int .u64 0], 0⟩, ⟨.int .i64 2, .agg #[.int .u64 2, .int .u64 7, .int .u64 7, .int .u64 3, .int .u64 0], 1⟩, ⟨.int .i64 3, .agg #[.int .u64 3, .int .u64 7, .int .u64 3, .int .u64 7, .int .u64 3], 2⟩, ⟨.int .i64 4, .agg #[.int .u64 4, .int .u64 7, .int .u64 0, .int .u64 0, .int .u64 0], 3⟩, ⟨.int .i64 5, .agg #[.int .u64 5, .int .u64 7, .int .u64 0, .int .u64 0, .int .u64 0], 4⟩, ⟨.int .i64 6, .agg #[.int .u64 6, .int .u64 7, .int .u64 7, .int .u64 3, .int .u64 0], 5⟩, ⟨.int .i64 7, .agg #[.int .u64 7, .int .u64 7, .int .u64 0, .int .u64 0, .int .u64 0], 6⟩, ⟨.int .i64 8, .agg #[.int .u64 8, .int .u64 7, .int .u64 3, .int .u64 0, .int .u64 0], 7⟩, ⟨.int .i64 9, .agg #[.int .u64 9, .int .u64 7, .int .u64 15, .int .u64 4, .int .u64 9], 8⟩, ⟨.int .i64 20, .agg #[.int .u64 20, .int .u64 7, .int .u64 15, .int .u64 0, .int .u64 0], 9⟩]
def edgeMap11 : Array MapEntry := #[⟨.int .i64 1, .agg #[.int .u64 1, .int .u64 7, .int .u64 0, .int .u64 0, .int .u64 0], 0⟩, ⟨.int .i64 2, .agg #[.int .u64 2, .int .u64 7, .int .u64 7, .int .u64 3, .int .u64 0], 1⟩, ⟨.int .i64 3, .agg #[.int .u64 3, .int .u64 7, .int .u64 3, .int .u64 7, .int .u64 3], 2⟩, ⟨.int .i64 4, .agg #[.int .u64 4, .int .u64 7, .int .u64 0, .int .u64 0, .int .u64 0], 3⟩, ⟨.int .i64 5, .agg #[.int .u64 5, .int .u64 7, .int .u64 0, .int .u64 0, .int .u64 0], 4⟩, ⟨.int .i64 6, .agg #[.int .u64 6, .int .u64 7, .int .u64 7, .int .u64 3, .int .u64 0], 5⟩, ⟨.int .i64 7, .agg #[.int .u64 7, .int .u64 7, .int .u64 0, .int .u64 0, .int .u64 0], 6⟩, ⟨.int .i64 8, .agg #[.int .u64 8, .int .u64 7, .int .u64 3, .int .u64 0, .int .u64 0], 7⟩, ⟨.int .i64 9, .agg #[.int .u64 9, .int .u64 7, .int .u64 15, .int .u64 4, .int .u64 9], 8⟩, ⟨.int .i64 20, .agg #[.int .u64 20, .int .u64 7, .int .u64 15, .int .u64 0, .int .u64 0], 9⟩, ⟨.int .i64 21, .agg #[.int .u64 21, .int .u64 7, .int .u64 15, .int .u64 9, .int .u64 0], 10⟩]
def edgeMap12 : Array MapEntry := #[⟨.int .i64 1, .agg #[.int .u64 1, .int .u64 7, .int .u64 0, .int .u64 0, .int .u64 0], 0⟩, ⟨.int .i64 2, .agg #[.int .u64 2, .int .u64 7, .int .u64 7, .int .u64 3, .int .u64 0], 1⟩, ⟨.int .i64 3, .agg #[.int .u64 3, .int .u64 7, .int .u64 3, .int .u64 7, .int .u64 3], 2⟩, ⟨.int .i64 4, .agg #[.int .u64 4, .int .u64 7, .int .u64 0, .int .u64 0, .int .u64 0], 3⟩, ⟨.int .i64 5, .agg #[.int .u64 5, .int .u64 7, .int .u64 0, .int .u64 0, .int .u64 0], 4⟩, ⟨.int .i64 6, .agg #[.int .u64 6, .int .u64 7, .int .u64 7, .int .u64 3, .int .u64 0], 5⟩, ⟨.int .i64 7, .agg #[.int .u64 7, .int .u64 7, .int .u64 0, .int .u64 0, .int .u64 0], 6⟩, ⟨.int .i64 8, .agg #[.int .u64 8, .int .u64 7, .int .u64 3, .int .u64 0, .int .u64 0], 7⟩, ⟨.int .i64 9, .agg #[.int .u64 9, .int .u64 7, .int .u64 15, .int .u64 4, .int .u64 9], 8⟩, ⟨.int .i64 20, .agg #[.int .u64 20, .int .u64 7, .int .u64 15, .int .u64 0, .int .u64 0], 9⟩, ⟨.int .i64 21, .agg #[.int .u64 21, .int .u64 7, .int .u64 15, .int .u64 9, .int .u64 0], 10⟩, ⟨.int .i64 22, .agg #[.int .u64 22, .int .u64 7, .int .u64 15, .int .u64 9, .int .u64 9], 11⟩]
def edgeMap13 : Array MapEntry := #[⟨.int .i64 1, .agg #[.int .u64 1, .int .u64 7, .int .u64 0, .int .u64 0, .int .u64 0], 0⟩, ⟨.int .i64 2, .agg #[.int .u64 2, .int .u64 7, .int .u64 7, .int .u64 3, .int .u64 0], 1⟩, ⟨.int .i64 3, .agg #[.int .u64 3, .int .u64 7, .int .u64 3, .int .u64 7, .int .u64 3], 2⟩, ⟨.int .i64 4, .agg #[.int .u64 4, .int .u64 7, .int .u64 0, .int .u64 0, .int .u64 0], 3⟩, ⟨.int .i64 5, .agg #[.int .u64 5, .int .u64 7, .int .u64 0, .int .u64 0, .int .u64 0], 4⟩, ⟨.int .i64 6, .agg #[.int .u64 6, .int .u64 7, .int .u64 7, .int .u64 3, .int .u64 0], 5⟩, ⟨.int .i64 7, .agg #[.int .u64 7, .int .u64 7, .int .u64 0, .int .u64 0, .int .u64 0], 6⟩, ⟨.int .i64 8, .agg #[.int .u64 8, .int .u64 7, .int .u64 3, .int .u64 0, .int .u64 0], 7⟩, ⟨.int .i64 9, .agg #[.int .u64 9, .int .u64 7, .int .u64 15, .int .u64 4, .int .u64 9], 8⟩, ⟨.int .i64 20, .agg #[.int .u64 20, .int .u64 7, .int .u64 15, .int .u64 0, .int .u64 0], 9⟩, ⟨.int .i64 21, .agg #[.int .u64 21, .int .u64 7, .int .u64 15, .int .u64 9, .int .u64 0], 10⟩, ⟨.int .i64 22, .agg #[.int .u64 22, .int .u64 7, .int .u64 15, .int .u64 9, .int .u64 9], 11⟩, ⟨.int .i64 23, .agg #[.int .u64 23, .int .u64 7, .int .u64 15, .int .u64 9, .int .u64 0], 12⟩]
theorem edgeFind0 (w : World) : (Instr.findKey 3 (.int .i64 1) edgeMap0.toList).run Tryz.prog w = .ok none w := by
  have e : Instr.findNow (.int .i64) (.int .i64 1) edgeMap0.toList 0 = some none := rfl
  simp [Instr.findKey, run_underlying Tryz.underlying3, e]
theorem edgeIns0 (M : Nat) (w : World) (h : w.heap[M]? = some (.map edgeMap0 0)) :
    (Instr.mapUpdate 107 (.map (some M)) (.int .i64 1) (.agg #[.int .u64 1, .int .u64 7, .int .u64 0, .int .u64 0, .int .u64 0])).run Tryz.prog w = .ok () (setBlock w M (.map edgeMap1 1)) := by
  have hk : ∀ em, (Instr.checkKey em 10000 3 (.int .i64 1)).run Tryz.prog w = .ok () w := fun em => checkKey_int w em 1
  have he : edgeMap0.push ⟨.int .i64 1, .agg #[.int .u64 1, .int .u64 7, .int .u64 0, .int .u64 0, .int .u64 0], 0⟩ = edgeMap1 := rfl
  simp [Instr.mapUpdate, run_underlying Tryz.underlying107, MapKept.run_getObj_map h, hk, edgeFind0, MapKept.run_setObj_map _ h, Result.andThen, setBlock, he]
theorem edgeFind1 (w : World) : (Instr.findKey 3 (.int .i64 2) edgeMap1.toList).run Tryz.prog w = .ok none w := by
  have e : Instr.findNow (.int .i64) (.int .i64 2) edgeMap1.toList 0 = some none := rfl
  simp [Instr.findKey, run_underlying Tryz.underlying3, e]
theorem edgeIns1 (M : Nat) (w : World) (h : w.heap[M]? = some (.map edgeMap1 1)) :
    (Instr.mapUpdate 107 (.map (some M)) (.int .i64 2) (.agg #[.int .u64 2, .int .u64 7, .int .u64 7, .int .u64 3, .int .u64 0])).run Tryz.prog w = .ok () (setBlock w M (.map edgeMap2 2)) := by
  have hk : ∀ em, (Instr.checkKey em 10000 3 (.int .i64 2)).run Tryz.prog w = .ok () w := fun em => checkKey_int w em 2
  have he : edgeMap1.push ⟨.int .i64 2, .agg #[.int .u64 2, .int .u64 7, .int .u64 7, .int .u64 3, .int .u64 0], 1⟩ = edgeMap2 := rfl
  simp [Instr.mapUpdate, run_underlying Tryz.underlying107, MapKept.run_getObj_map h, hk, edgeFind1, MapKept.run_setObj_map _ h, Result.andThen, setBlock, he]
theorem edgeFind2 (w : World) : (Instr.findKey 3 (.int .i64 3) edgeMap2.toList).run Tryz.prog w = .ok none w := by
  have e : Instr.findNow (.int .i64) (.int .i64 3) edgeMap2.toList 0 = some none := rfl
  simp [Instr.findKey, run_underlying Tryz.underlying3, e]
theorem edgeIns2 (M : Nat) (w : World) (h : w.heap[M]? = some (.map edgeMap2 2)) :
    (Instr.mapUpdate 107 (.map (some M)) (.int .i64 3) (.agg #[.int .u64 3, .int .u64 7, .int .u64 3, .int .u64 7, .int .u64 3])).run Tryz.prog w = .ok () (setBlock w M (.map edgeMap3 3)) := by
  have hk : ∀ em, (Instr.checkKey em 10000 3 (.int .i64 3)).run Tryz.prog w = .ok () w := fun em => checkKey_int w em 3
  have he : edgeMap2.push ⟨.int .i64 3, .agg #[.int .u64 3, .int .u64 7, .int .u64 3, .int .u64 7, .int .u64 3], 2⟩ = edgeMap3 := rfl
  simp [Instr.mapUpdate, run_underlying Tryz.underlying107, MapKept.run_getObj_map h, hk, edgeFind2, MapKept.run_setObj_map _ h, Result.andThen, setBlock, he]
theorem edgeFind3 (w : World) : (Instr.findKey 3 (.int .i64 4) edgeMap3.toList).run Tryz.prog w = .ok none w := by
  have e : Instr.findNow (.int .i64) (.int .i64 4) edgeMap3.toList 0 = some none := rfl
  simp [Instr.findKey, run_underlying Tryz.underlying3, e]
theorem edgeIns3 (M : Nat) (w : World) (h : w.heap[M]? = some (.map edgeMap3 3)) :
    (Instr.mapUpdate 107 (.map (some M)) (.int .i64 4) (.agg #[.int .u64 4, .int .u64 7, .int .u64 0, .int .u64 0, .int .u64 0])).run Tryz.prog w = .ok () (setBlock w M (.map edgeMap4 4)) := by
  have hk : ∀ em, (Instr.checkKey em 10000 3 (.int .i64 4)).run Tryz.prog w = .ok () w := fun em => checkKey_int w em 4
  have he : edgeMap3.push ⟨.int .i64 4, .agg #[.int .u64 4, .int .u64 7, .int .u64 0, .int .u64 0, .int .u64 0], 3⟩ = edgeMap4 := rfl
  simp [Instr.mapUpdate, run_underlying Tryz.underlying107, MapKept.run_getObj_map h, hk, edgeFind3, MapKept.run_setObj_map _ h, Result.andThen, setBlock, he]
theorem edgeFind4 (w : World) : (Instr.findKey 3 (.int .i64 5) edgeMap4.toList).run Tryz.prog w = .ok none w := by
  have e : Instr.findNow (.int .i64) (.int .i64 5) edgeMap4.toList 0 = some none := rfl
  simp [Instr.findKey, run_underlying Tryz.underlying3, e]
theorem edgeIns4 (M : Nat) (w : World) (h : w.heap[M]? = some (.map edgeMap4 4)) :
    (Instr.mapUpdate 107 (.map (some M)) (.int .i64 5) (.agg #[.int .u64 5, .int .u64 7, .int .u64 0, .int .u64 0, .int .u64 0])).run Tryz.prog w = .ok () (setBlock w M (.map edgeMap5 5)) := by
  have hk : ∀ em, (Instr.checkKey em 10000 3 (.int .i64 5)).run Tryz.prog w = .ok () w := fun em => checkKey_int w em 5
  have he : edgeMap4.push ⟨.int .i64 5, .agg #[.int .u64 5, .int .u64 7, .int .u64 0, .int .u64 0, .int .u64 0], 4⟩ = edgeMap5 := rfl
  simp [Instr.mapUpdate, run_underlying Tryz.underlying107, MapKept.run_getObj_map h, hk, edgeFind4, MapKept.run_setObj_map _ h, Result.andThen, setBlock, he]
theorem edgeFind5 (w : World) : (Instr.findKey 3 (.int .i64 6) edgeMap5.toList).run Tryz.prog w = .ok none w := by
  have e : Instr.findNow (.int .i64) (.int .i64 6) edgeMap5.toList 0 = some none := rfl
  simp [Instr.findKey, run_underlying Tryz.underlying3, e]
theorem edgeIns5 (M : Nat) (w : World) (h : w.heap[M]? = some (.map edgeMap5 5)) :
    (Instr.mapUpdate 107 (.map (some M)) (.int .i64 6) (.agg #[.int .u64 6, .int .u64 7, .int .u64 7, .int .u64 3, .int .u64 0])).run Tryz.prog w = .ok () (setBlock w M (.map edgeMap6 6)) := by
  have hk : ∀ em, (Instr.checkKey em 10000 3 (.int .i64 6)).run Tryz.prog w = .ok () w := fun em => checkKey_int w em 6
  have he : edgeMap5.push ⟨.int .i64 6, .agg #[.int .u64 6, .int .u64 7, .int .u64 7, .int .u64 3, .int .u64 0], 5⟩ = edgeMap6 := rfl
  simp [Instr.mapUpdate, run_underlying Tryz.underlying107, MapKept.run_getObj_map h, hk, edgeFind5, MapKept.run_setObj_map _ h, Result.andThen, setBlock, he]
theorem edgeFind6 (w : World) : (Instr.findKey 3 (.int .i64 7) edgeMap6.toList).run Tryz.prog w = .ok none w := by
  have e : Instr.findNow (.int .i64) (.int .i64 7) edgeMap6.toList 0 = some none := rfl
  simp [Instr.findKey, run_underlying Tryz.underlying3, e]
theorem edgeIns6 (M : Nat) (w : World) (h : w.heap[M]? = some (.map edgeMap6 6)) :
    (Instr.mapUpdate 107 (.map (some M)) (.int .i64 7) (.agg #[.int .u64 7, .int .u64 7, .int .u64 0, .int .u64 0, .int .u64 0])).run Tryz.prog w = .ok () (setBlock w M (.map edgeMap7 7)) := by
  have hk : ∀ em, (Instr.checkKey em 10000 3 (.int .i64 7)).run Tryz.prog w = .ok () w := fun em => checkKey_int w em 7
  have he : edgeMap6.push ⟨.int .i64 7, .agg #[.int .u64 7, .int .u64 7, .int .u64 0, .int .u64 0, .int .u64 0], 6⟩ = edgeMap7 := rfl
  simp [Instr.mapUpdate, run_underlying Tryz.underlying107, MapKept.run_getObj_map h, hk, edgeFind6, MapKept.run_setObj_map _ h, Result.andThen, setBlock, he]
theorem edgeFind7 (w : World) : (Instr.findKey 3 (.int .i64 8) edgeMap7.toList).run Tryz.prog w = .ok none w := by
  have e : Instr.findNow (.int .i64) (.int .i64 8) edgeMap7.toList 0 = some none := rfl
  simp [Instr.findKey, run_underlying Tryz.underlying3, e]
theorem edgeIns7 (M : Nat) (w : World) (h : w.heap[M]? = some (.map edgeMap7 7)) :
    (Instr.mapUpdate 107 (.map (some M)) (.int .i64 8) (.agg #[.int .u64 8, .int .u64 7, .int .u64 3, .int .u64 0, .int .u64 0])).run Tryz.prog w = .ok () (setBlock w M (.map edgeMap8 8)) := by
  have hk : ∀ em, (Instr.checkKey em 10000 3 (.int .i64 8)).run Tryz.prog w = .ok () w := fun em => checkKey_int w em 8
  have he : edgeMap7.push ⟨.int .i64 8, .agg #[.int .u64 8, .int .u64 7, .int .u64 3, .int .u64 0, .int .u64 0], 7⟩ = edgeMap8 := rfl
  simp [Instr.mapUpdate, run_underlying Tryz.underlying107, MapKept.run_getObj_map h, hk, edgeFind7, MapKept.run_setObj_map _ h, Result.andThen, setBlock, he]
theorem edgeFind8 (w : World) : (Instr.findKey 3 (.int .i64 9) edgeMap8.toList).run Tryz.prog w = .ok none w := by
  have e : Instr.findNow (.int .i64) (.int .i64 9) edgeMap8.toList 0 = some none := rfl
  simp [Instr.findKey, run_underlying Tryz.underlying3, e]
theorem edgeIns8 (M : Nat) (w : World) (h : w.heap[M]? = some (.map edgeMap8 8)) :
    (Instr.mapUpdate 107 (.map (some M)) (.int .i64 9) (.agg #[.int .u64 9, .int .u64 7, .int .u64 15, .int .u64 4, .int .u64 9])).run Tryz.prog w = .ok () (setBlock w M (.map edgeMap9 9)) := by
  have hk : ∀ em, (Instr.checkKey em 10000 3 (.int .i64 9)).run Tryz.prog w = .ok () w := fun em => checkKey_int w em 9
  have he : edgeMap8.push ⟨.int .i64 9, .agg #[.int .u64 9, .int .u64 7, .int .u64 15, .int .u64 4, .int .u64 9], 8⟩ = edgeMap9 := rfl
  simp [Instr.mapUpdate, run_underlying Tryz.underlying107, MapKept.run_getObj_map h, hk, edgeFind8, MapKept.run_setObj_map _ h, Result.andThen, setBlock, he]
theorem edgeFind9 (w : World) : (Instr.findKey 3 (.int .i64 20) edgeMap9.toList).run Tryz.prog w = .ok none w := by
  have e : Instr.findNow (.int .i64) (.int .i64 20) edgeMap9.toList 0 = some none := rfl
  simp [Instr.findKey, run_underlying Tryz.underlying3, e]
theorem edgeIns9 (M : Nat) (w : World) (h : w.heap[M]? = some (.map edgeMap9 9)) :
    (Instr.mapUpdate 107 (.map (some M)) (.int .i64 20) (.agg #[.int .u64 20, .int .u64 7, .int .u64 15, .int .u64 0, .int .u64 0])).run Tryz.prog w = .ok () (setBlock w M (.map edgeMap10 10)) := by
  have hk : ∀ em, (Instr.checkKey em 10000 3 (.int .i64 20)).run Tryz.prog w = .ok () w := fun em => checkKey_int w em 20
  have he : edgeMap9.push ⟨.int .i64 20, .agg #[.int .u64 20, .int .u64 7, .int .u64 15, .int .u64 0, .int .u64 0], 9⟩ = edgeMap10 := rfl
  simp [Instr.mapUpdate, run_underlying Tryz.underlying107, MapKept.run_getObj_map h, hk, edgeFind9, MapKept.run_setObj_map _ h, Result.andThen, setBlock, he]
theorem edgeFind10 (w : World) : (Instr.findKey 3 (.int .i64 21) edgeMap10.toList).run Tryz.prog w = .ok none w := by
  have e : Instr.findNow (.int .i64) (.int .i64 21) edgeMap10.toList 0 = some none := rfl
  simp [Instr.findKey, run_underlying Tryz.underlying3, e]
theorem edgeIns10 (M : Nat) (w : World) (h : w.heap[M]? = some (.map edgeMap10 10)) :
    (Instr.mapUpdate 107 (.map (some M)) (.int .i64 21) (.agg #[.int .u64 21, .int .u64 7, .int .u64 15, .int .u64 9, .int .u64 0])).run Tryz.prog w = .ok () (setBlock w M (.map edgeMap11 11)) := by
  have hk : ∀ em, (Instr.checkKey em 10000 3 (.int .i64 21)).run Tryz.prog w = .ok () w := fun em => checkKey_int w em 21
  have he : edgeMap10.push ⟨.int .i64 21, .agg #[.int .u64 21, .int .u64 7, .int .u64 15, .int .u64 9, .int .u64 0], 10⟩ = edgeMap11 := rfl
  simp [Instr.mapUpdate, run_underlying Tryz.underlying107, MapKept.run_getObj_map h, hk, edgeFind10, MapKept.run_setObj_map _ h, Result.andThen, setBlock, he]
theorem edgeFind11 (w : World) : (Instr.findKey 3 (.int .i64 22) edgeMap11.toList).run Tryz.prog w = .ok none w := by
  have e : Instr.findNow (.int .i64) (.int .i64 22) edgeMap11.toList 0 = some none := rfl
  simp [Instr.findKey, run_underlying Tryz.underlying3, e]
theorem edgeIns11 (M : Nat) (w : World) (h : w.heap[M]? = some (.map edgeMap11 11)) :
    (Instr.mapUpdate 107 (.map (some M)) (.int .i64 22) (.agg #[.int .u64 22, .int .u64 7, .int .u64 15, .int .u64 9, .int .u64 9])).run Tryz.prog w = .ok () (setBlock w M (.map edgeMap12 12)) := by
  have hk : ∀ em, (Instr.checkKey em 10000 3 (.int .i64 22)).run Tryz.prog w = .ok () w := fun em => checkKey_int w em 22
  have he : edgeMap11.push ⟨.int .i64 22, .agg #[.int .u64 22, .int .u64 7, .int .u64 15, .int .u64 9, .int .u64 9], 11⟩ = edgeMap12 := rfl
  simp [Instr.mapUpdate, run_underlying Tryz.underlying107, MapKept.run_getObj_map h, hk, edgeFind11, MapKept.run_setObj_map _ h, Result.andThen, setBlock, he]
theorem edgeFind12 (w : World) : (Instr.findKey 3 (.int .i64 23) edgeMap12.toList).run Tryz.prog w = .ok none w := by
  have e : Instr.findNow (.int .i64) (.int .i64 23) edgeMap12.toList 0 = some none := rfl
  simp [Instr.findKey, run_underlying Tryz.underlying3, e]
theorem edgeIns12 (M : Nat) (w : World) (h : w.heap[M]? = some (.map edgeMap12 12)) :
    (Instr.mapUpdate 107 (.map (some M)) (.int .i64 23) (.agg #[.int .u64 23, .int .u64 7, .int .u64 15, .int .u64 9, .int .u64 0])).run Tryz.prog w = .ok () (setBlock w M (.map edgeMap13 13)) := by
  have hk : ∀ em, (Instr.checkKey em 10000 3 (.int .i64 23)).run Tryz.prog w = .ok () w := fun em => checkKey_int w em 23
  have he : edgeMap12.push ⟨.int .i64 23, .agg #[.int .u64 23, .int .u64 7, .int .u64 15, .int .u64 9, .int .u64 0], 12⟩ = edgeMap13 := rfl
  simp [Instr.mapUpdate, run_underlying Tryz.underlying107, MapKept.run_getObj_map h, hk, edgeFind12, MapKept.run_setObj_map _ h, Result.andThen, setBlock, he]
/-- The call at the edge of each number. -/
def edgeW (k : Int) : List Int :=
  if k = 1 then [1, 7, 0, 0, 0] else if k = 2 then [2, 7, 7, 3, 0] else if k = 3 then [3, 7, 3, 7, 3] else if k = 4 then [4, 7, 0, 0, 0] else if k = 5 then [5, 7, 0, 0, 0] else if k = 6 then [6, 7, 7, 3, 0] else if k = 7 then [7, 7, 0, 0, 0] else if k = 8 then [8, 7, 3, 0, 0] else if k = 9 then [9, 7, 15, 4, 9] else if k = 20 then [20, 7, 15, 0, 0] else if k = 21 then [21, 7, 15, 9, 0] else if k = 22 then [22, 7, 15, 9, 9] else if k = 23 then [23, 7, 15, 9, 0] else []
def edgeV (k : Int) : Value := .agg #[.int .u64 ((edgeW k).getD 0 0), .int .u64 ((edgeW k).getD 1 0), .int .u64 ((edgeW k).getD 2 0), .int .u64 ((edgeW k).getD 3 0), .int .u64 ((edgeW k).getD 4 0)]
def EdgeKinds : List Int := [1, 2, 3, 4, 5, 6, 7, 8, 9, 20, 21, 22, 23]
theorem edge_cases {k : Int} (h : k ∈ EdgeKinds) : k = 1 ∨ k = 2 ∨ k = 3 ∨ k = 4 ∨ k = 5 ∨ k = 6 ∨ k = 7 ∨ k = 8 ∨ k = 9 ∨ k = 20 ∨ k = 21 ∨ k = 22 ∨ k = 23 := by
  simpa [EdgeKinds] using h
theorem edgeLook (k : Int) (hk : k ∈ EdgeKinds) (M : Nat) (w : World) (h : w.heap[M]? = some (.map edgeMap13 13)) :
    (Instr.lookup 107 (.map (some M)) (.int .i64 k) false).run Tryz.prog w = .ok (edgeV k) w := by
  have hc : ∀ em n, (Instr.checkKey em 10000 3 (.int .i64 n)).run Tryz.prog w = .ok () w := fun em n => checkKey_int w em n
  rcases edge_cases hk with rfl | rfl | rfl | rfl | rfl | rfl | rfl | rfl | rfl | rfl | rfl | rfl | rfl
  · have e : (Instr.findKey 3 (.int .i64 1) edgeMap13.toList).run Tryz.prog w = .ok (some (0, edgeV 1)) w := by
      have e1 : Instr.findNow (.int .i64) (.int .i64 1) edgeMap13.toList 0 = some (some (0, edgeV 1)) := rfl
      simp [Instr.findKey, run_underlying Tryz.underlying3, e1]
    simp [Instr.lookup, run_underlying Tryz.underlying107, MapKept.run_getObj_map h, hc, e, Result.andThen]
  · have e : (Instr.findKey 3 (.int .i64 2) edgeMap13.toList).run Tryz.prog w = .ok (some (1, edgeV 2)) w := by
      have e1 : Instr.findNow (.int .i64) (.int .i64 2) edgeMap13.toList 0 = some (some (1, edgeV 2)) := rfl
      simp [Instr.findKey, run_underlying Tryz.underlying3, e1]
    simp [Instr.lookup, run_underlying Tryz.underlying107, MapKept.run_getObj_map h, hc, e, Result.andThen]
  · have e : (Instr.findKey 3 (.int .i64 3) edgeMap13.toList).run Tryz.prog w = .ok (some (2, edgeV 3)) w := by
      have e1 : Instr.findNow (.int .i64) (.int .i64 3) edgeMap13.toList 0 = some (some (2, edgeV 3)) := rfl
      simp [Instr.findKey, run_underlying Tryz.underlying3, e1]
    simp [Instr.lookup, run_underlying Tryz.underlying107, MapKept.run_getObj_map h, hc, e, Result.andThen]
  · have e : (Instr.findKey 3 (.int .i64 4) edgeMap13.toList).run Tryz.prog w = .ok (some (3, edgeV 4)) w := by
      have e1 : Instr.findNow (.int .i64) (.int .i64 4) edgeMap13.toList 0 = some (some (3, edgeV 4)) := rfl
      simp [Instr.findKey, run_underlying Tryz.underlying3, e1]
    simp [Instr.lookup, run_underlying Tryz.underlying107, MapKept.run_getObj_map h, hc, e, Result.andThen]
  · have e : (Instr.findKey 3 (.int .i64 5) edgeMap13.toList).run Tryz.prog w = .ok (some (4, edgeV 5)) w := by
      have e1 : Instr.findNow (.int .i64) (.int .i64 5) edgeMap13.toList 0 = some (some (4, edgeV 5)) := rfl
      simp [Instr.findKey, run_underlying Tryz.underlying3, e1]
    simp [Instr.lookup, run_underlying Tryz.underlying107, MapKept.run_getObj_map h, hc, e, Result.andThen]
  · have e : (Instr.findKey 3 (.int .i64 6) edgeMap13.toList).run Tryz.prog w = .ok (some (5, edgeV 6)) w := by
      have e1 : Instr.findNow (.int .i64) (.int .i64 6) edgeMap13.toList 0 = some (some (5, edgeV 6)) := rfl
      simp [Instr.findKey, run_underlying Tryz.underlying3, e1]
    simp [Instr.lookup, run_underlying Tryz.underlying107, MapKept.run_getObj_map h, hc, e, Result.andThen]
  · have e : (Instr.findKey 3 (.int .i64 7) edgeMap13.toList).run Tryz.prog w = .ok (some (6, edgeV 7)) w := by
      have e1 : Instr.findNow (.int .i64) (.int .i64 7) edgeMap13.toList 0 = some (some (6, edgeV 7)) := rfl
      simp [Instr.findKey, run_underlying Tryz.underlying3, e1]
    simp [Instr.lookup, run_underlying Tryz.underlying107, MapKept.run_getObj_map h, hc, e, Result.andThen]
  · have e : (Instr.findKey 3 (.int .i64 8) edgeMap13.toList).run Tryz.prog w = .ok (some (7, edgeV 8)) w := by
      have e1 : Instr.findNow (.int .i64) (.int .i64 8) edgeMap13.toList 0 = some (some (7, edgeV 8)) := rfl
      simp [Instr.findKey, run_underlying Tryz.underlying3, e1]
    simp [Instr.lookup, run_underlying Tryz.underlying107, MapKept.run_getObj_map h, hc, e, Result.andThen]
  · have e : (Instr.findKey 3 (.int .i64 9) edgeMap13.toList).run Tryz.prog w = .ok (some (8, edgeV 9)) w := by
      have e1 : Instr.findNow (.int .i64) (.int .i64 9) edgeMap13.toList 0 = some (some (8, edgeV 9)) := rfl
      simp [Instr.findKey, run_underlying Tryz.underlying3, e1]
    simp [Instr.lookup, run_underlying Tryz.underlying107, MapKept.run_getObj_map h, hc, e, Result.andThen]
  · have e : (Instr.findKey 3 (.int .i64 20) edgeMap13.toList).run Tryz.prog w = .ok (some (9, edgeV 20)) w := by
      have e1 : Instr.findNow (.int .i64) (.int .i64 20) edgeMap13.toList 0 = some (some (9, edgeV 20)) := rfl
      simp [Instr.findKey, run_underlying Tryz.underlying3, e1]
    simp [Instr.lookup, run_underlying Tryz.underlying107, MapKept.run_getObj_map h, hc, e, Result.andThen]
  · have e : (Instr.findKey 3 (.int .i64 21) edgeMap13.toList).run Tryz.prog w = .ok (some (10, edgeV 21)) w := by
      have e1 : Instr.findNow (.int .i64) (.int .i64 21) edgeMap13.toList 0 = some (some (10, edgeV 21)) := rfl
      simp [Instr.findKey, run_underlying Tryz.underlying3, e1]
    simp [Instr.lookup, run_underlying Tryz.underlying107, MapKept.run_getObj_map h, hc, e, Result.andThen]
  · have e : (Instr.findKey 3 (.int .i64 22) edgeMap13.toList).run Tryz.prog w = .ok (some (11, edgeV 22)) w := by
      have e1 : Instr.findNow (.int .i64) (.int .i64 22) edgeMap13.toList 0 = some (some (11, edgeV 22)) := rfl
      simp [Instr.findKey, run_underlying Tryz.underlying3, e1]
    simp [Instr.lookup, run_underlying Tryz.underlying107, MapKept.run_getObj_map h, hc, e, Result.andThen]
  · have e : (Instr.findKey 3 (.int .i64 23) edgeMap13.toList).run Tryz.prog w = .ok (some (12, edgeV 23)) w := by
      have e1 : Instr.findNow (.int .i64) (.int .i64 23) edgeMap13.toList 0 = some (some (12, edgeV 23)) := rfl
      simp [Instr.findKey, run_underlying Tryz.underlying3, e1]
    simp [Instr.lookup, run_underlying Tryz.underlying107, MapKept.run_getObj_map h, hc, e, Result.andThen]

theorem edge_ok (k : Int) (hk : k ∈ EdgeKinds) : (edgeW k).getD 0 0 = k ∧ chkN k ((edgeW k).getD 1 0) ((edgeW k).getD 2 0) ((edgeW k).getD 3 0) ((edgeW k).getD 4 0) 4 = 0 ∧ (1 ≤ k ∧ k ≤ 23) ∧ (0 ≤ (edgeW k).getD 1 0 ∧ (edgeW k).getD 1 0 ≤ 15) ∧ (0 ≤ (edgeW k).getD 2 0 ∧ (edgeW k).getD 2 0 ≤ 15) ∧ (0 ≤ (edgeW k).getD 3 0 ∧ (edgeW k).getD 3 0 ≤ 15) ∧ (0 ≤ (edgeW k).getD 4 0 ∧ (edgeW k).getD 4 0 ≤ 15) := by
  rcases edge_cases hk with rfl | rfl | rfl | rfl | rfl | rfl | rfl | rfl | rfl | rfl | rfl | rfl | rfl
  all_goals decide +kernel

/-- An insertion into a map literal, at the operation. -/
theorem wpList_ins (w : World) {ops : Array Oper} {rest : List Oper} {o : Oper} {a : Act} {Q : Exit → Act → World → Prop}
    (hg : o.guard = none) (t : TypeId) (m x v : Operand) (hop : o.op = Op.insert t m x v)
    (M : Nat) (es es' : Array MapEntry) (c c' : Nat) (key val : Value) (hm : a.eval m = .map (some M)) (hx : a.eval x = key) (hv : a.eval v = val) (h : w.heap[M]? = some (.map es c))
    (hrun : (Instr.mapUpdate t (.map (some M)) key val).run Tryz.prog w = .ok () (setBlock w M (.map es' c')))
    (hK : ∀ w', w'.heap[M]? = some (.map es' c') → Below M w w' → wpList Tryz.prog ops Q rest (a.put o.dst undef) w') :
    wpList Tryz.prog ops Q (o :: rest) a w := by
  refine wpList_plain hg fun K' hK' => ?_
  unfold Oper.wp
  simp [execOp, hop, hm, hx, hv, hrun, Result.andThen]
  exact hK' _ _ (hK _ (heap_setBlock_same h _) ⟨rfl, rfl, rfl, by simp [setBlock], fun i hi => heap_setBlock_other h _ (by omega)⟩)
end Go.Proofs.YtfpnpgpelncgeaaGreatDoor
