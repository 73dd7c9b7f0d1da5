/- What is proved here: the given card of the statement KernelNone: whatever its arguments, in whatever memory in which the library's variable errors.errorType reads as the program's text lays it, the statement returns true, its arguments read as before and nothing else has turned; that variable's content is tied to the program's text. Conditions: none beside the card's own. -/
import Derived.Test.YtmifcfkchnilmaaGreatDoorGRow
import Derived.Test.YtmifcfkchnilmaaGreatDoorGBegunB
import Derived.Test.YtmifcfkchnilmaaGreatDoorNoneO
namespace Go.Proofs.YtmifcfkchnilmaaGreatDoor
open Go.ChangeShapes Go.WideShapes Go.RowKit
set_option maxRecDepth 100000 in
theorem kernelNone_lifted (os : Os) (started : os.Started) (H : Type) (enc : TypeId × Value → H) :
    ReturnsInHanded {} Tryz.checked os 7 .any (fun w args => (Rows.kernelNoneSpec.pre enc Tryz.prog Tryz.f7 [] false w args ∧ laidMetH Tryz.prog laid1 w) ∧ sizedMet enc Tryz.prog Tryz.f7 (OpenSpec.ofChange Rows.kernelNoneSpec) false w args)
      (Rows.kernelNoneSpec.post enc Tryz.prog Tryz.f7 false true false false) := by
  refine returnsInHanded_of_change_and (C := Tryz.checked) (X := fun w _ => laidMetH Tryz.prog laid1 w) (fun _ _ _ hh h => h.of_heap hh) Tryz.own started (by kernel_rfl) Tryz.func7
    (ChangeSpec.witness_at (enc := enc) (C := Tryz.checked) (os := os) (X := fun w _ => laidMetH Tryz.prog laid1 w) false (laidWorld os) #[] 8 rfl (by kernel_rfl) (by kernel_rfl) (by kernel_rfl) (by kernel_rfl) (by kernel_rfl) (laidWorld_met os _)) ?_
  intro W base args ds gs before hval0 hW _ _ hL _
  have hval : ∀ (j : Nat) t v, Tryz.f7.params[j]? = some t → args[j]? = some v → Value.okWide Tryz.prog W .any base t v := hval0
  have hW' := hW
  have hlt := hW.lt
  obtain ⟨p, q, hA0, hV0, rfl, hfz, hnd⟩ := hW
  have hA : DataW.TrodAll enc Tryz.prog W 0 (fun _ => true) true Tryz.f7.params.toList args.toList ds p := hA0
  have hV : DataW.TrodVars enc Tryz.prog W (fun _ => true) [] gs q := hV0
  rw [Tryz.params7] at hA hval
  obtain ⟨rfl, rfl, rfl⟩ : args = #[] ∧ ds = [] ∧ p = [] := by
    obtain ⟨l⟩ := args
    cases l with
    | nil => cases ds with
      | nil => exact ⟨rfl, rfl, hA⟩
      | cons d r => exact absurd hA (by intro h; cases h)
    | cons v r => exact absurd hA (by intro h; cases h)
  have hg := held_of_laid hL
  obtain ⟨rfl, rfl⟩ : gs = [] ∧ q = [] := by
    cases gs with
    | nil => exact ⟨rfl, hV⟩
    | cons g r => exact absurd hV (by intro h; cases h)
  have e1 : Rows.kernelNoneSpec.fn H ([] ++ []) = { results := [.lit (.bool true)], args := [] } := by simp [Rows.kernelNoneSpec]
  refine (knone_any none_keeps W hg (begun_all11 W hg)).mono fun e W' ⟨he, hw⟩ => ?_
  subst he
  refine ⟨_, rfl, _, _, _, [], [], [], hW', ?_, ?_, ?_, hw.frame _, fun h => by cases h⟩
  · rw [e1]; exact trodAll_mk1 (shut_bool Tryz.underlying4 true)
  · rw [e1]; exact trodAll_mk0
  · rw [e1]; rfl
theorem kernelNone_f1 : Rows.kernelNoneRow.wf (OpenSpec.ofChange Rows.kernelNoneSpec) = true := by kernel_rfl
theorem kernelNone_f2 : (Rows.kernelNoneRow.inPlace == Tryz.prog.inPlace 7) = true := by kernel_rfl
theorem kernelNone_f3 : (Rows.kernelNoneRow.unfollowed == Tryz.prog.unfollowed 7) = true := by kernel_rfl
theorem kernelNone_f4 : (Rows.kernelNoneRow.recurses == Tryz.prog.recurses 7) = true := by kernel_rfl
theorem kernelNone_f5 : (Rows.kernelNoneRow.named == Tryz.prog.varsNamed 7) = true := by kernel_rfl
theorem kernelNone_f6 : joinedFacts Tryz.prog 7 Tryz.f7 Rows.kernelNoneSpec Rows.kernelNoneRow = true :=
  rf_all kernelNone_f1 rfl rfl rfl rfl rfl rfl rfl rfl kernelNone_f2 kernelNone_f3 kernelNone_f4 kernelNone_f5 (by kernel_rfl)
theorem kernelNone_f7 : Tryz.prog.funcNamed "messuage/messuagelaw11.KernelNone" = some 7 := by kernel_rfl
theorem kernelNone_f8 : Tryz.f7.isInstance Tryz.prog Rows.kernelNoneRow.origin Rows.kernelNoneRow.targs := of_decide_eq_true (by kernel_rfl)
theorem kernelNone_f9 : Tryz.f7.isWrapper Tryz.prog Rows.kernelNoneRow.wrapper Rows.kernelNoneRow.mainSum := by unfold Func.isWrapper; rw [if_neg (of_decide_eq_false (by kernel_rfl))]; exact ⟨rfl, rfl⟩
theorem kernelNone_row : Rows.KernelNoneSaid :=
  OpenClaim.holds_of_wide 7 Tryz.f7 rfl rfl rfl rfl rfl rfl rfl ⟨rfl, rfl, rfl, rfl, rfl⟩ rfl rfl rfl rfl rfl kernelNone_f7 Tryz.func7 kernelNone_f6 kernelNone_f8 kernelNone_f9
    (fun os started H enc _ => kernelNone_lifted os started H enc)
theorem kernelNone_card : Rows.KernelNoneCardSaid :=
  Claim7.holds_tied_plain_at .later [] [.handle] true _ true
    kernelNone_row (fun _ h => by cases h) (by kernel_rfl) (fun _ h => by cases h) kernelNone_row_tie rfl ⟨rfl, rfl⟩ (by kernel_rfl) rfl
    (fun f fn hf hfn => by
      obtain rfl : f = 7 := Option.some.inj ((show Tryz.prog.funcNamed "messuage/messuagelaw11.KernelNone" = some 7 by kernel_rfl).symm.trans hf) |>.symm
      obtain rfl : fn = Tryz.f7 := (Option.some.inj (Tryz.func7.symm.trans hfn)).symm
      refine ⟨by kernel_rfl, fun j t ht => ?_⟩
      rw [Tryz.params7] at ht
      simp at ht)
    (by kernel_rfl)
#print axioms kernelNone_card
end Go.Proofs.YtmifcfkchnilmaaGreatDoor

