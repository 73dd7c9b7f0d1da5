/- What is proved here: calls of kernels side by side of which it is known what they tell. Conditions: package plain keeps its contracts. -/
import Derived.Test.YtbmekfjcpdbapaaGreatDoorGPair
import Derived.Test.YtbmekfjcpdbapaaGreatDoorGStage
import Derived.RegionTactic
import Derived.Deep.RegionHeld3
import Derived.Deep.QuietTactic
import Derived.BigQuiet
namespace Go.Proofs.YtbmekfjcpdbapaaGreatDoor
open Go.RowKit Go.Extern.Stop Go.Stop Go.Extern Go.WalkArith
section
variable {At : World → (Nat → Prop) → Nat → KernS → Prop} {H : PlainC At} {w W W' : World} {S : Nat → Prop} {P K : Nat} {k k' : KernS} {l1 l2 : List Thing} {env x0 x1 x2 x3 x4 e v : Int} {b : Bool}
theorem side_errE (h : Side w W (l1 ++ plainT H S P k :: l2)) (hx : wordsIn x0 x1 x2 x3 x4) (hg : Held W) (hk : kdo k env x0 x1 x2 x3 x4 = (k', e, v, b)) (he : e ≠ 0) :
    Calls Tryz.prog 21 #[.pointer (some ⟨P, 0, none⟩), .int .i64 env, callV x0 x1 x2 x3 x4] W fun x W' => ∃ c t, x = .returned (ptrErr c) ∧ t < c ∧ Side w W' (twoT c t (trapO e env x0 x1 x2 x3 x4 t) (ofO e) :: (l1 ++ plainT H S P k :: l2)) := by
  have h := side_err (env := env) h hx hg (by rw [hk]; exact he)
  rw [hk] at h
  exact h
end
end Go.Proofs.YtbmekfjcpdbapaaGreatDoor

