/- What is proved here: calls of kernels side by side of which it is known what they tell. Conditions: package plain keeps its contracts. -/
import Derived.Test.YtdfhfmdelinemaaGreatDoorGPair
import Derived.Test.YtdfhfmdelinemaaGreatDoorGStage
import Derived.RegionTactic
import Derived.Deep.RegionHeld3
import Derived.Deep.QuietTactic
import Derived.BigQuiet
namespace Go.Proofs.YtdfhfmdelinemaaGreatDoor
open Go.RowKit Go.Extern.Stop Go.Stop Go.Extern Go.WalkArith
section
variable {At : World → (Nat → Prop) → Nat → KernS → Prop} {H : PlainC At} {w W W' : World} {S : Nat → Prop} {P K : Nat} {k k' : KernS} {l1 l2 : List Thing} {env x0 x1 x2 x3 x4 e v : Int} {b : Bool}
abbrev toldV (e v : Int) (b : Bool) : Value := .tuple #[.agg #[.int .i64 e, .int .u64 v], .bool b]
theorem side_doE (h : Side w W (l1 ++ plainT H S P k :: l2)) (hx : wordsIn x0 x1 x2 x3 x4) (hk : kdo k env x0 x1 x2 x3 x4 = (k', e, v, b)) :
  Calls Tryz.prog 12 #[.pointer (some ⟨P, 0, none⟩), .int .i64 env, callV x0 x1 x2 x3 x4] W fun x W' => ∃ S', x = .returned (toldV e v b) ∧ Side w W' (l1 ++ plainT H S' P k' :: l2) := by
 have h := side_do env x0 x1 x2 x3 x4 h hx
 rw [hk] at h
 exact h
theorem side_rdoE (hs : Sane k) (h : Side w W (l1 ++ kernT K k :: l2)) (hx : wordsIn x0 x1 x2 x3 x4) (hk : kdo k env x0 x1 x2 x3 x4 = (k', e, v, b)) :
  Calls Tryz.prog 13 #[.pointer (some ⟨K, 0, none⟩), .int .i64 env, callV x0 x1 x2 x3 x4] W fun x W' => x = .returned (toldV e v b) ∧ Side w W' (l1 ++ kernT K k' :: l2) := by
 have h := side_rdo env x0 x1 x2 x3 x4 hs h hx
 rw [hk] at h
 exact h
theorem side_err0E (h : Side w W (l1 ++ plainT H S P k :: l2)) (hx : wordsIn x0 x1 x2 x3 x4) (hg : Held W) (hk : kdo k env x0 x1 x2 x3 x4 = (k', 0, v, b)) :
  Calls Tryz.prog 11 #[.pointer (some ⟨P, 0, none⟩), .int .i64 env, callV x0 x1 x2 x3 x4] W fun x W' => x = .returned .nilIface ∧ Side w W' (l1 ++ plainT H S P k :: l2) :=
 side_err0 h hx hg (by rw [hk])
theorem side_errE (h : Side w W (l1 ++ plainT H S P k :: l2)) (hx : wordsIn x0 x1 x2 x3 x4) (hg : Held W) (hk : kdo k env x0 x1 x2 x3 x4 = (k', e, v, b)) (he : e ≠ 0) :
  Calls Tryz.prog 11 #[.pointer (some ⟨P, 0, none⟩), .int .i64 env, callV x0 x1 x2 x3 x4] W fun x W' => ∃ c t, x = .returned (ptrErr c) ∧ t < c ∧ Side w W' (twoT c t (trapO e env x0 x1 x2 x3 x4 t) (ofO e) :: (l1 ++ plainT H S P k :: l2)) := by
 have h := side_err (env := env) h hx hg (by rw [hk]; exact he)
 rw [hk] at h
 exact h
def nilT : Thing := ⟨fun _ => False, fun _ => True, fun _ _ h _ _ => h, fun _ _ _ h => h.elim⟩
def ErrV (er env x0 x1 x2 x3 x4 : Int) (v : Value) (E : Thing) : Prop := (er = 0 ∧ v = .nilIface ∧ E = nilT) ∨ (er ≠ 0 ∧ ∃ c t, v = ptrErr c ∧ t < c ∧ E = twoT c t (trapO er env x0 x1 x2 x3 x4 t) (ofO er))
theorem side_errV (h : Side w W (l1 ++ plainT H S P k :: l2)) (hx : wordsIn x0 x1 x2 x3 x4) (hg : Held W) (hk : kdo k env x0 x1 x2 x3 x4 = (k', e, v, b)) :
  Calls Tryz.prog 11 #[.pointer (some ⟨P, 0, none⟩), .int .i64 env, callV x0 x1 x2 x3 x4] W fun x W' => ∃ u E, x = .returned u ∧ ErrV e env x0 x1 x2 x3 x4 u E ∧ Side w W' (E :: (l1 ++ plainT H S P k :: l2)) := by
 by_cases he : e = 0
 ·subst he
  refine (side_err0E h hx hg hk).mono ?_
  rintro x W' ⟨rfl, h2⟩
  exact ⟨_, nilT, rfl, Or.inl ⟨rfl, rfl, rfl⟩, trivial, fun _ hi => hi.elim, fun _ _ _ hi => hi.elim, h2⟩
 ·refine (side_errE h hx hg hk he).mono ?_
  rintro x W' ⟨c, t, rfl, ht, h2⟩
  exact ⟨_, _, rfl, Or.inr ⟨he, c, t, rfl, ht, rfl⟩, h2⟩
end
end Go.Proofs.YtdfhfmdelinemaaGreatDoor

