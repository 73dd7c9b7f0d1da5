/- What is proved here: the statements' own checks same and places: of a tree and the document's kernel that hold the same capabilities same answers true; places, of two slices of the same places. Conditions: package caps keeps its contracts; the tree and the kernel lie in their blocks. -/
import Derived.Test.YtdfhfmdelinemaaGreatDoorGTree
import Derived.RegionTactic
import Derived.WalkArith
import Derived.Deep.QuietTactic
import Derived.BigQuiet
namespace Go.Proofs.YtdfhfmdelinemaaGreatDoor
open Go.RowKit Go.Extern.Stop Go.Stop Go.Extern Go.WalkArith
theorem places_at : ∀ (l : List Nat) (j : Nat), j < l.length → (placesV l)[j * 2]? = some (.int .i64 ((l.getD j 0 / 8 : Nat) : Int)) ∧ (placesV l)[j * 2 + 1]? = some (.int .i64 ((l.getD j 0 % 8 : Nat) : Int))
 | [], _, h => absurd h (Nat.not_lt_zero _)
 | _ :: _, 0, _ => ⟨rfl, rfl⟩
 | x :: l, j + 1, h => by
  have h2 := places_at l j (by simpa using h)
  have e : placesV (x :: l) = [Value.int .i64 ((x / 8 : Nat) : Int), Value.int .i64 ((x % 8 : Nat) : Int)] ++ placesV l := rfl
  rw [e, show (j + 1) * 2 = j * 2 + 2 by omega, show j * 2 + 2 + 1 = (j * 2 + 1) + 2 by omega]
  exact h2
def TwinAt (At : World → (Nat → Prop) → Nat → KernS → Prop) (w : World) (S : Nat → Prop) (P K : Nat) (k : KernS) (W : World) : Prop := At W S P k ∧ KernIs W K k ∧ Below w.heap.size w W
section
variable {At : World → (Nat → Prop) → Nat → KernS → Prop} {w W W' : World} {S : Nat → Prop} {P K : Nat} {k : KernS}
theorem TwinAt.under (H : TreeC At) (h : TwinAt At w S P K k W) (hb : Below W.heap.size W W') : TwinAt At w S P K k W' :=
 ⟨H.foot _ _ _ _ _ h.1 hb.size fun i hi => hb.block i (H.low _ _ _ _ h.1 i hi), h.2.1.later hb, bl_trans h.2.2 hb⟩
end
end Go.Proofs.YtdfhfmdelinemaaGreatDoor

