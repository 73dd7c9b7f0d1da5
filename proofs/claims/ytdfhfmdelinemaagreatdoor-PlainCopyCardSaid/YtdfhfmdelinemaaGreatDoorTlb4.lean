/- What is proved here: contracts of package tlb: FlushFrame, Clear, Lines. Conditions: a buffer lies in the block that is named. -/
import Derived.Test.YtdfhfmdelinemaaGreatDoorGParts
namespace Go.Proofs.YtdfhfmdelinemaaGreatDoor
open Go.RowKit Go.Extern.Stop Go.Stop Go.Extern
theorem NumsIs.there {n : Nat} {w : World} {T : Nat} {g : Nat → Int} (h : NumsIs n w T g) : w.there T 0 n := fun j hj => by
 rw [Nat.zero_add]
 exact ⟨by rw [h.1 j hj]; rfl, h.2.1 j⟩
def tlbV (g : Nat → Int) : Array Value := #[.int .i64 (g 0), .int .i64 (g 1), .int .i64 (g 2), .int .i64 (g 3), .int .i64 (g 4), .int .i64 (g 5), .int .i64 (g 6), .int .i64 (g 7), .int .i64 (g 8), .int .i64 (g 9), .int .i64 (g 10), .int .i64 (g 11), .int .i64 (g 12), .int .i64 (g 13), .int .i64 (g 14), .int .i64 (g 15), .int .i64 (g 16), .int .i64 (g 17), .int .i64 (g 18), .int .i64 (g 19), .int .i64 (g 20), .int .i64 (g 21), .int .i64 (g 22), .int .i64 (g 23), .int .i64 (g 24), .int .i64 (g 25), .int .i64 (g 26), .int .i64 (g 27), .int .i64 (g 28), .int .i64 (g 29), .int .i64 (g 30), .int .i64 (g 31), .int .i64 (g 32), .int .i64 (g 33), .int .i64 (g 34), .int .i64 (g 35), .int .i64 (g 36), .int .i64 (g 37), .int .i64 (g 38), .int .i64 (g 39)]
theorem tlbV_list (g : Nat → Int) : (tlbV g).toList = (List.range 40).map fun j => Value.int .i64 (g j) := rfl
theorem NumsIs.range {w : World} {T : Nat} {g : Nat → Int} (h : NumsIs 41 w T g) : w.rangeAt T 0 (tlbV g).toList := fun j v hj => by
 rw [tlbV_list, List.getElem?_map] at hj
 rcases Nat.lt_or_ge j 40 with hl | hl
 ·rw [List.getElem?_range hl] at hj
  simp only [Option.map_some, Option.some.injEq] at hj
  rw [Nat.zero_add, ← hj]
  exact h.1 j (by omega)
 ·rw [List.getElem?_eq_none (by simpa using hl)] at hj
  cases hj
end Go.Proofs.YtdfhfmdelinemaaGreatDoor

