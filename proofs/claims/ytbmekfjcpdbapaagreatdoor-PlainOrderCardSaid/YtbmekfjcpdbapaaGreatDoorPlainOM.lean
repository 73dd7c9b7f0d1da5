/- What is proved here: what the plain kernel tells of the statement PlainOrder's calls: plain mathematics. Conditions: those that each theorem names. -/
import Derived.Test.YtbmekfjcpdbapaaGreatDoorGKerE
namespace Go.Proofs.YtbmekfjcpdbapaaGreatDoor
open Go.RowKit Go.Stop Go.Extern.Stop Go.Extern
def poC (m j : Nat) : Int := (([[1, 0, 0, 0, 0, 4], [1, 2, 0, 0, 0, 6], [2, 5, 0, 3, 0, 3], [2, 1, 0, 3, 0, 4], [2, 1, 2, 3, 0, 5], [6, 0, 5, 3, 0, 3], [6, 0, 1, 3, 0, 4], [6, 1, 1, 3, 0, 5], [8, 4, 3, 0, 0, 3], [8, 0, 3, 0, 0, 5], [6, 0, 5, 0, 0, 2], [99, 0, 0, 0, 0, 1], [2, 0, 0, 3, 0, 4], [7, 7, 0, 0, 0, 3]] : List (List Int)).getD m []).getD j 0
def poV : Array Value := #[.int .u64 1, .int .u64 0, .int .u64 0, .int .u64 0, .int .u64 0, .int .i64 4, .int .u64 1, .int .u64 2, .int .u64 0, .int .u64 0, .int .u64 0, .int .i64 6, .int .u64 2, .int .u64 5, .int .u64 0, .int .u64 3, .int .u64 0, .int .i64 3, .int .u64 2, .int .u64 1, .int .u64 0, .int .u64 3, .int .u64 0, .int .i64 4, .int .u64 2, .int .u64 1, .int .u64 2, .int .u64 3, .int .u64 0, .int .i64 5, .int .u64 6, .int .u64 0, .int .u64 5, .int .u64 3, .int .u64 0, .int .i64 3, .int .u64 6, .int .u64 0, .int .u64 1, .int .u64 3, .int .u64 0, .int .i64 4, .int .u64 6, .int .u64 1, .int .u64 1, .int .u64 3, .int .u64 0, .int .i64 5, .int .u64 8, .int .u64 4, .int .u64 3, .int .u64 0, .int .u64 0, .int .i64 3, .int .u64 8, .int .u64 0, .int .u64 3, .int .u64 0, .int .u64 0, .int .i64 5, .int .u64 6, .int .u64 0, .int .u64 5, .int .u64 0, .int .u64 0, .int .i64 2, .int .u64 99, .int .u64 0, .int .u64 0, .int .u64 0, .int .u64 0, .int .i64 1, .int .u64 2, .int .u64 0, .int .u64 0, .int .u64 3, .int .u64 0, .int .i64 4, .int .u64 7, .int .u64 7, .int .u64 0, .int .u64 0, .int .u64 0, .int .i64 3]
def po1 : KernS := (kdo (newK 1 2 1) 0 1 0 0 0 0).1
def po2 : KernS := (kdo po1 0 2 0 1 1 0).1
def poM : KernS := (kdo po2 0 6 0 1 1 0).1
theorem po_up : kdo (newK 1 2 1) 0 1 0 0 0 0 = (po1, 0, 0, true) ∧ kdo po1 0 2 0 1 1 0 = (po2, 0, 0, true) ∧ kdo po2 0 6 0 1 1 0 = (poM, 0, 0, true) := by
  refine ⟨?_, ?_, ?_⟩ <;> kernel_rfl
theorem fourteen {m : Nat} (h : m < 14) : m = 0 ∨ m = 1 ∨ m = 2 ∨ m = 3 ∨ m = 4 ∨ m = 5 ∨ m = 6 ∨ m = 7 ∨ m = 8 ∨ m = 9 ∨ m = 10 ∨ m = 11 ∨ m = 12 ∨ m = 13 := by omega
theorem po_do (m : Nat) (h : m < 14) : kdo poM 0 (poC m 0) (poC m 1) (poC m 2) (poC m 3) (poC m 4) = (poM, poC m 5, 0, true) ∧ kdo poM 2 (poC m 0) (poC m 1) (poC m 2) (poC m 3) (poC m 4) = (poM, 10, 0, true) ∧ poC m 5 ≠ 0 := by
  rcases fourteen h with rfl | rfl | rfl | rfl | rfl | rfl | rfl | rfl | rfl | rfl | rfl | rfl | rfl | rfl <;> (refine ⟨?_, ?_, ?_⟩ <;> first | decide | kernel_rfl)
theorem po_words (m : Nat) (h : m < 14) : wordsIn (poC m 0) (poC m 1) (poC m 2) (poC m 3) (poC m 4) := by
  rcases fourteen h with rfl | rfl | rfl | rfl | rfl | rfl | rfl | rfl | rfl | rfl | rfl | rfl | rfl | rfl <;> (unfold wordsIn poC; simp)
theorem po_cells (m : Nat) (h : m < 14) : poV[m * 6]? = some (.int .u64 (poC m 0)) ∧ poV[m * 6 + 1]? = some (.int .u64 (poC m 1)) ∧ poV[m * 6 + 2]? = some (.int .u64 (poC m 2)) ∧ poV[m * 6 + 3]? = some (.int .u64 (poC m 3)) ∧ poV[m * 6 + 4]? = some (.int .u64 (poC m 4)) ∧ poV[m * 6 + 5]? = some (.int .i64 (poC m 5)) := by
  rcases fourteen h with rfl | rfl | rfl | rfl | rfl | rfl | rfl | rfl | rfl | rfl | rfl | rfl | rfl | rfl <;> exact ⟨rfl, rfl, rfl, rfl, rfl, rfl⟩
end Go.Proofs.YtbmekfjcpdbapaaGreatDoor

