/- What is proved here: the program's buffer and the reference's, side by side: what each call of one answers the other answers, too, and they stay side by side. Conditions: each lies in the block that is named. -/
import Derived.Test.YtmifcfkchnilmaaGreatDoorGWord
import Derived.Test.YtmifcfkchnilmaaGreatDoorBref3
namespace Go.Proofs.YtmifcfkchnilmaaGreatDoor
open Go.RowKit Go.Extern.Stop Go.Stop Go.Extern
def Ret (T : Nat) (v : Value) (g' : Nat → Int) (W : World) (e : Ending) (w' : World) : Prop := e = .returned v ∧ NumsIs 41 w' T g' ∧ OnlyT T W w'
theorem sim_first {g h : Nat → Int} {d : Int} (H : Sim g h d) (e p : Int) :
    (∃ k, k < 8 ∧ (0 ≤ p ∧ p < 8 ∧ p % 4 = ((k / 2 : Nat) : Int)) ∧ hitB g e p k = true ∧ (∀ j, j < k → hitB g e p j = false) ∧ rhitB h e p k = true ∧ ∀ j, j < k → rhitB h e p j = false) ∨
    ((∀ j, j < 8 → hitB g e p j = false) ∧ ∀ j, j < 8 → rhitB h e p j = false) := by
  rcases first_or (hitB g e p) 8 with ⟨k, hk, hit, hno⟩ | hno
  · exact .inl ⟨k, hk, H.page hk hit, hit, hno, by rw [← H.hit e p hk]; exact hit, fun j hj => by rw [← H.hit e p (by omega)]; exact hno j hj⟩
  · exact .inr ⟨hno, fun j hj => by rw [← H.hit e p hj]; exact hno j hj⟩
end Go.Proofs.YtmifcfkchnilmaaGreatDoor

