/- What is proved here: the given card of the statement CapsRights: whatever its arguments, in whatever memory in which the library's variable errors.errorType reads as the program's text lays it, the statement returns true, its arguments read as before and nothing else has turned; that variable's content is tied to the program's text. Conditions: none beside the card's own. -/
import Derived.Test.YtmifcfkchnilmaaGreatDoorGRow
import Derived.Test.YtmifcfkchnilmaaGreatDoorGBegunB
import Derived.Test.YtmifcfkchnilmaaGreatDoorCapsRights
import Derived.Test.YtmifcfkchnilmaaGreatDoorCapsRightsY
namespace Go.Proofs.YtmifcfkchnilmaaGreatDoor
open Go.ChangeShapes Go.WideShapes Go.RowKit
set_option maxRecDepth 100000 in
theorem capsRights_lifted (os : Os) (started : os.Started) (H : Type) (enc : TypeId × Value → H) :
    ReturnsInHanded {} Tryz.checked os 9 .any (fun w args => (Rows.capsRightsSpec.pre enc Tryz.prog Tryz.f9 [] false w args ∧ laidMetH Tryz.prog laid1 w) ∧ sizedMet enc Tryz.prog Tryz.f9 (OpenSpec.ofChange Rows.capsRightsSpec) false w args)
      (Rows.capsRightsSpec.post enc Tryz.prog Tryz.f9 false true false false) := by
  refine returnsInHanded_of_change_and (C := Tryz.checked) (X := fun w _ => laidMetH Tryz.prog laid1 w) (fun _ _ _ hh h => h.of_heap hh) Tryz.own started (by kernel_rfl) Tryz.func9
    (ChangeSpec.witness_at (enc := enc) (C := Tryz.checked) (os := os) (X := fun w _ => laidMetH Tryz.prog laid1 w) false (laidWorld os) #[.slice none 0 0] 8 rfl (by kernel_rfl) (by kernel_rfl) (by kernel_rfl) (by kernel_rfl) (by kernel_rfl) (laidWorld_met os _)) ?_
  intro W base args ds gs before hval0 hW _ _ hL _
  have hval : ∀ (j : Nat) t v, Tryz.f9.params[j]? = some t → args[j]? = some v → Value.okWide Tryz.prog W .any base t v := hval0
  have hW' := hW
  have hlt := hW.lt
  obtain ⟨p, q, hA0, hV0, rfl, hfz, hnd⟩ := hW
  have hA : DataW.TrodAll enc Tryz.prog W 0 (fun _ => true) true Tryz.f9.params.toList args.toList ds p := hA0
  have hV : DataW.TrodVars enc Tryz.prog W (fun _ => true) [] gs q := hV0
  rw [Tryz.params9] at hA hval
  obtain ⟨v0, d0, rfl, rfl, h0⟩ := trodAll_one hA
  obtain ⟨ao0, a0, len0, cap0, z0, rfl, hao0, hz0⟩ := ints_any (ints_open h0 (hval 0 118 v0 rfl rfl))
  have hg := held_of_laid hL
  obtain ⟨rfl, rfl⟩ : gs = [] ∧ q = [] := by
    cases gs with
    | nil => exact ⟨rfl, hV⟩
    | cons g r => exact absurd hV (by intro h; cases h)
  have lt0 : ∀ x ∈ p, x.block < W.heap.size := fun x hx => hlt x (by simp [hx])
  have e1 : Rows.capsRightsSpec.fn H ([d0] ++ []) = { results := [.lit (.bool true)], args := [d0] } := by simp [Rows.capsRightsSpec]
  refine (crights_any tree_keeps ao0 a0 len0 cap0 hao0 z0 W hz0 (begun_at11 W hg)).mono fun e W' ⟨he, hw⟩ => ?_
  subst he
  refine ⟨_, rfl, _, _, _, [], p, [], hW', ?_, ?_, ?_, hw.frame _, fun h => by cases h⟩
  · rw [e1]; exact trodAll_mk1 (shut_bool Tryz.underlying4 true)
  · rw [e1]; exact trodAll_mk1 (trod_ints h0 hw lt0)
  · rw [e1]; rfl
theorem capsRights_f1 : Rows.capsRightsRow.wf (OpenSpec.ofChange Rows.capsRightsSpec) = true := by kernel_rfl
theorem capsRights_f2 : (Rows.capsRightsRow.inPlace == Tryz.prog.inPlace 9) = true := by kernel_rfl
theorem capsRights_f3 : (Rows.capsRightsRow.unfollowed == Tryz.prog.unfollowed 9) = true := by kernel_rfl
theorem capsRights_f4 : (Rows.capsRightsRow.recurses == Tryz.prog.recurses 9) = true := by kernel_rfl
theorem capsRights_f5 : (Rows.capsRightsRow.named == Tryz.prog.varsNamed 9) = true := by kernel_rfl
theorem capsRights_f6 : joinedFacts Tryz.prog 9 Tryz.f9 Rows.capsRightsSpec Rows.capsRightsRow = true :=
  rf_all capsRights_f1 rfl rfl rfl rfl rfl rfl rfl rfl capsRights_f2 capsRights_f3 capsRights_f4 capsRights_f5 (by kernel_rfl)
theorem capsRights_f7 : Tryz.prog.funcNamed "messuage/messuagelaw11.CapsRights" = some 9 := by kernel_rfl
theorem capsRights_f8 : Tryz.f9.isInstance Tryz.prog Rows.capsRightsRow.origin Rows.capsRightsRow.targs := of_decide_eq_true (by kernel_rfl)
theorem capsRights_f9 : Tryz.f9.isWrapper Tryz.prog Rows.capsRightsRow.wrapper Rows.capsRightsRow.mainSum := by unfold Func.isWrapper; rw [if_neg (of_decide_eq_false (by kernel_rfl))]; exact ⟨rfl, rfl⟩
theorem capsRights_row : Rows.CapsRightsSaid :=
  OpenClaim.holds_of_wide 9 Tryz.f9 rfl rfl rfl rfl rfl rfl rfl ⟨rfl, rfl, rfl, rfl, rfl⟩ rfl rfl rfl rfl rfl capsRights_f7 Tryz.func9 capsRights_f6 capsRights_f8 capsRights_f9
    (fun os started H enc _ => capsRights_lifted os started H enc)
theorem capsRights_card : Rows.CapsRightsCardSaid :=
  Claim7.holds_tied_plain_at .later [] [.handle] true _ true
    capsRights_row (fun _ h => by cases h) (by kernel_rfl) (fun _ h => by cases h) capsRights_row_tie rfl ⟨rfl, rfl⟩ (by kernel_rfl) rfl
    (fun f fn hf hfn => by
      obtain rfl : f = 9 := Option.some.inj ((show Tryz.prog.funcNamed "messuage/messuagelaw11.CapsRights" = some 9 by kernel_rfl).symm.trans hf) |>.symm
      obtain rfl : fn = Tryz.f9 := (Option.some.inj (Tryz.func9.symm.trans hfn)).symm
      refine ⟨by kernel_rfl, fun j t ht => ?_⟩
      rw [Tryz.params9] at ht
      have h3 : t = 118 := by
        rcases j with _ | j
        · exact by simpa using ht.symm
        · simp at ht
      subst h3
      exact (show Tryz.prog.wantsStandIn 118 = false by kernel_rfl))
    (by kernel_rfl)
#print axioms capsRights_card
end Go.Proofs.YtmifcfkchnilmaaGreatDoor

