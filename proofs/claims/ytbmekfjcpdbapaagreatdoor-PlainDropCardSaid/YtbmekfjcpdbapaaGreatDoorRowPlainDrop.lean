/- What is proved here: the given card of the statement PlainDrop: whatever its arguments, in whatever memory in which the library's variable errors.errorType reads as the program's text lays it, the statement returns true, its arguments read as before and nothing else has turned; that variable's content is tied to the program's text. Conditions: none beside the card's own. -/
import Derived.Test.YtbmekfjcpdbapaaGreatDoorGRow
import Derived.Test.YtbmekfjcpdbapaaGreatDoorGBegunB
import Derived.Test.YtbmekfjcpdbapaaGreatDoorPlainDrop
namespace Go.Proofs.YtbmekfjcpdbapaaGreatDoor
open Go.ChangeShapes Go.WideShapes Go.RowKit
set_option maxRecDepth 100000 in
theorem plainDrop_lifted (os : Os) (started : os.Started) (H : Type) (enc : TypeId × Value → H) :
    ReturnsInHanded {} Tryz.checked os 13 .any (fun w args => (Rows.plainDropSpec.pre enc Tryz.prog Tryz.f13 [] false w args ∧ laidMetH Tryz.prog laid1 w) ∧ sizedMet enc Tryz.prog Tryz.f13 (OpenSpec.ofChange Rows.plainDropSpec) false w args)
      (Rows.plainDropSpec.post enc Tryz.prog Tryz.f13 false true false false) := by
  refine returnsInHanded_of_change_and (C := Tryz.checked) (X := fun w _ => laidMetH Tryz.prog laid1 w) (fun _ _ _ hh h => h.of_heap hh) Tryz.own started (by kernel_rfl) Tryz.func13
    (ChangeSpec.witness_at (enc := enc) (C := Tryz.checked) (os := os) (X := fun w _ => laidMetH Tryz.prog laid1 w) false (laidWorld os) #[.int .i64 0] 8 rfl (by kernel_rfl) (by kernel_rfl) (by kernel_rfl) (by kernel_rfl) (by kernel_rfl) (laidWorld_met os _)) ?_
  intro W base args ds gs before hval0 hW _ _ hL _
  have hval : ∀ (j : Nat) t v, Tryz.f13.params[j]? = some t → args[j]? = some v → Value.okWide Tryz.prog W .any base t v := hval0
  have hW' := hW
  have hlt := hW.lt
  obtain ⟨p, q, hA0, hV0, rfl, hfz, hnd⟩ := hW
  have hA : DataW.TrodAll enc Tryz.prog W 0 (fun _ => true) true Tryz.f13.params.toList args.toList ds p := hA0
  have hV : DataW.TrodVars enc Tryz.prog W (fun _ => true) [] gs q := hV0
  rw [Tryz.params13] at hA hval
  obtain ⟨v0, d0, rfl, rfl, h0⟩ := trodAll_one hA
  obtain ⟨n0, rfl⟩ := okWide_int Tryz.underlying3 (hval 0 3 v0 rfl rfl)
  have hg := held_of_laid hL
  obtain ⟨rfl, rfl⟩ : gs = [] ∧ q = [] := by
    cases gs with
    | nil => exact ⟨rfl, hV⟩
    | cons g r => exact absurd hV (by intro h; cases h)
  have lt0 : ∀ x ∈ p, x.block < W.heap.size := fun x hx => hlt x (by simp [hx])
  have e1 : Rows.plainDropSpec.fn H ([d0] ++ []) = { results := [.lit (.bool true)], args := [d0] } := by simp [Rows.plainDropSpec]
  refine (pdrop_any plain_keeps n0 W (begun_at11 W hg)).mono fun e W' ⟨he, hw⟩ => ?_
  subst he
  refine ⟨_, rfl, _, _, _, [], p, [], hW', ?_, ?_, ?_, hw.frame _, fun h => by cases h⟩
  · rw [e1]; exact trodAll_mk1 (shut_bool Tryz.underlying4 true)
  · rw [e1]; exact trodAll_mk1 (trod_int h0 hw lt0)
  · rw [e1]; rfl
theorem plainDrop_f1 : Rows.plainDropRow.wf (OpenSpec.ofChange Rows.plainDropSpec) = true := by kernel_rfl
theorem plainDrop_f2 : (Rows.plainDropRow.inPlace == Tryz.prog.inPlace 13) = true := by kernel_rfl
theorem plainDrop_f3 : (Rows.plainDropRow.unfollowed == Tryz.prog.unfollowed 13) = true := by kernel_rfl
theorem plainDrop_f4 : (Rows.plainDropRow.recurses == Tryz.prog.recurses 13) = true := by kernel_rfl
theorem plainDrop_f5 : (Rows.plainDropRow.named == Tryz.prog.varsNamed 13) = true := by kernel_rfl
theorem plainDrop_f6 : joinedFacts Tryz.prog 13 Tryz.f13 Rows.plainDropSpec Rows.plainDropRow = true :=
  rf_all plainDrop_f1 rfl rfl rfl rfl rfl rfl rfl rfl plainDrop_f2 plainDrop_f3 plainDrop_f4 plainDrop_f5 (by kernel_rfl)
theorem plainDrop_f7 : Tryz.prog.funcNamed "messuage/messuagelaw11.PlainDrop" = some 13 := by kernel_rfl
theorem plainDrop_f8 : Tryz.f13.isInstance Tryz.prog Rows.plainDropRow.origin Rows.plainDropRow.targs := of_decide_eq_true (by kernel_rfl)
theorem plainDrop_f9 : Tryz.f13.isWrapper Tryz.prog Rows.plainDropRow.wrapper Rows.plainDropRow.mainSum := by unfold Func.isWrapper; rw [if_neg (of_decide_eq_false (by kernel_rfl))]; exact ⟨rfl, rfl⟩
theorem plainDrop_row : Rows.PlainDropSaid :=
  OpenClaim.holds_of_wide 13 Tryz.f13 rfl rfl rfl rfl rfl rfl rfl ⟨rfl, rfl, rfl, rfl, rfl⟩ rfl rfl rfl rfl rfl plainDrop_f7 Tryz.func13 plainDrop_f6 plainDrop_f8 plainDrop_f9
    (fun os started H enc _ => plainDrop_lifted os started H enc)
theorem plainDrop_c1 : Rows.plainDropRow.wfByText (OpenSpec.ofChange Rows.plainDropSpec) = true := by kernel_rfl
theorem plainDrop_c2 : Tryz.prog.mainIs = some (Rows.plainDropCard.stood.harness.1, Rows.plainDropCard.stood.harness.2.toList) := by kernel_rfl
theorem plainDrop_c3 : true = Tryz.prog.looks [] := by kernel_rfl
theorem plainDrop_c4 : false = Rows.plainDropRow.goesBy Tryz.prog := by kernel_rfl
theorem plainDrop_s0 : Tryz.prog.wantsStandIn 3 = false := by kernel_rfl
theorem plainDrop_c5 : ∀ f fn, Tryz.prog.funcNamed "messuage/messuagelaw11.PlainDrop" = some f → Tryz.prog.funcs[f]? = some fn → true = Tryz.prog.looks [] ∧ ∀ (j : Nat) t, fn.params[j]? = some t → Tryz.prog.wantsStandIn t = false := by
  intro f fn hf hfn
  obtain rfl : f = 13 := Option.some.inj (plainDrop_f7.symm.trans hf) |>.symm
  obtain rfl : fn = Tryz.f13 := (Option.some.inj (Tryz.func13.symm.trans hfn)).symm
  refine ⟨plainDrop_c3, fun j t ht => ?_⟩
  rw [Tryz.params13] at ht
  have h3 : t = 3 := by
    rcases j with _ | j
    · exact by simpa using ht.symm
    · simp at ht
  subst h3
  exact plainDrop_s0
theorem plainDrop_card : Rows.PlainDropCardSaid :=
  Claim7.holds_tied_plain_at .later [] [.handle] true _ true
    plainDrop_row (fun _ h => by cases h) plainDrop_c1 (fun _ h => by cases h) plainDrop_row_tie rfl ⟨rfl, rfl⟩ plainDrop_c2 rfl plainDrop_c5 plainDrop_c4
#print axioms plainDrop_card
end Go.Proofs.YtbmekfjcpdbapaaGreatDoor

