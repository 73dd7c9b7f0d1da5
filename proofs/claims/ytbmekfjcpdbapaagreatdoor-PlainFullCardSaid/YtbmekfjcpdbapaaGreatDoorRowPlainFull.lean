/- What is proved here: the given card of the statement PlainFull: whatever its arguments, in whatever memory in which the library's variable errors.errorType reads as the program's text lays it, the statement returns true, its arguments read as before and nothing else has turned; that variable's content is tied to the program's text. Conditions: none beside the card's own. -/
import Derived.Test.YtbmekfjcpdbapaaGreatDoorGRow
import Derived.Test.YtbmekfjcpdbapaaGreatDoorGBegunB
import Derived.Test.YtbmekfjcpdbapaaGreatDoorPlainFull
namespace Go.Proofs.YtbmekfjcpdbapaaGreatDoor
open Go.ChangeShapes Go.WideShapes Go.RowKit
set_option maxRecDepth 100000 in
theorem plainFull_lifted (os : Os) (started : os.Started) (H : Type) (enc : TypeId × Value → H) :
    ReturnsInHanded {} Tryz.checked os 10 .any (fun w args => (Rows.plainFullSpec.pre enc Tryz.prog Tryz.f10 [] false w args ∧ laidMetH Tryz.prog laid1 w) ∧ sizedMet enc Tryz.prog Tryz.f10 (OpenSpec.ofChange Rows.plainFullSpec) false w args)
      (Rows.plainFullSpec.post enc Tryz.prog Tryz.f10 false true false false) := by
  refine returnsInHanded_of_change_and (C := Tryz.checked) (X := fun w _ => laidMetH Tryz.prog laid1 w) (fun _ _ _ hh h => h.of_heap hh) Tryz.own started (by kernel_rfl) Tryz.func10
    (ChangeSpec.witness_at (enc := enc) (C := Tryz.checked) (os := os) (X := fun w _ => laidMetH Tryz.prog laid1 w) false (laidWorld os) #[.slice none 0 0] 8 rfl (by kernel_rfl) (by kernel_rfl) (by kernel_rfl) (by kernel_rfl) (by kernel_rfl) (laidWorld_met os _)) ?_
  intro W base args ds gs before hval0 hW _ _ hL _
  have hval : ∀ (j : Nat) t v, Tryz.f10.params[j]? = some t → args[j]? = some v → Value.okWide Tryz.prog W .any base t v := hval0
  have hW' := hW
  have hlt := hW.lt
  obtain ⟨p, q, hA0, hV0, rfl, hfz, hnd⟩ := hW
  have hA : DataW.TrodAll enc Tryz.prog W 0 (fun _ => true) true Tryz.f10.params.toList args.toList ds p := hA0
  have hV : DataW.TrodVars enc Tryz.prog W (fun _ => true) [] gs q := hV0
  rw [Tryz.params10] at hA hval
  obtain ⟨v0, d0, rfl, rfl, h0⟩ := trodAll_one hA
  obtain ⟨ao0, a0, len0, cap0, z0, rfl, hao0, hz0⟩ := ints_any (ints_open h0 (hval 0 61 v0 rfl rfl))
  have hg := held_of_laid hL
  obtain ⟨rfl, rfl⟩ : gs = [] ∧ q = [] := by
    cases gs with
    | nil => exact ⟨rfl, hV⟩
    | cons g r => exact absurd hV (by intro h; cases h)
  have lt0 : ∀ x ∈ p, x.block < W.heap.size := fun x hx => hlt x (by simp [hx])
  have e1 : Rows.plainFullSpec.fn H ([d0] ++ []) = { results := [.lit (.bool true)], args := [d0] } := by simp [Rows.plainFullSpec]
  refine (pfull_any plain_keeps ao0 a0 len0 cap0 hao0 z0 W hz0 (begun_at11 W hg)).mono fun e W' ⟨he, hw⟩ => ?_
  subst he
  refine ⟨_, rfl, _, _, _, [], p, [], hW', ?_, ?_, ?_, hw.frame _, fun h => by cases h⟩
  · rw [e1]; exact trodAll_mk1 (shut_bool Tryz.underlying4 true)
  · rw [e1]; exact trodAll_mk1 (trod_ints h0 hw lt0)
  · rw [e1]; rfl
theorem plainFull_f1 : Rows.plainFullRow.wf (OpenSpec.ofChange Rows.plainFullSpec) = true := by kernel_rfl
theorem plainFull_f2 : (Rows.plainFullRow.inPlace == Tryz.prog.inPlace 10) = true := by kernel_rfl
theorem plainFull_f3 : (Rows.plainFullRow.unfollowed == Tryz.prog.unfollowed 10) = true := by kernel_rfl
theorem plainFull_f4 : (Rows.plainFullRow.recurses == Tryz.prog.recurses 10) = true := by kernel_rfl
theorem plainFull_f5 : (Rows.plainFullRow.named == Tryz.prog.varsNamed 10) = true := by kernel_rfl
theorem plainFull_f6 : joinedFacts Tryz.prog 10 Tryz.f10 Rows.plainFullSpec Rows.plainFullRow = true :=
  rf_all plainFull_f1 rfl rfl rfl rfl rfl rfl rfl rfl plainFull_f2 plainFull_f3 plainFull_f4 plainFull_f5 (by kernel_rfl)
theorem plainFull_f7 : Tryz.prog.funcNamed "messuage/messuagelaw11.PlainFull" = some 10 := by kernel_rfl
theorem plainFull_f8 : Tryz.f10.isInstance Tryz.prog Rows.plainFullRow.origin Rows.plainFullRow.targs := of_decide_eq_true (by kernel_rfl)
theorem plainFull_f9 : Tryz.f10.isWrapper Tryz.prog Rows.plainFullRow.wrapper Rows.plainFullRow.mainSum := by unfold Func.isWrapper; rw [if_neg (of_decide_eq_false (by kernel_rfl))]; exact ⟨rfl, rfl⟩
theorem plainFull_row : Rows.PlainFullSaid :=
  OpenClaim.holds_of_wide 10 Tryz.f10 rfl rfl rfl rfl rfl rfl rfl ⟨rfl, rfl, rfl, rfl, rfl⟩ rfl rfl rfl rfl rfl plainFull_f7 Tryz.func10 plainFull_f6 plainFull_f8 plainFull_f9
    (fun os started H enc _ => plainFull_lifted os started H enc)
theorem plainFull_c1 : Rows.plainFullRow.wfByText (OpenSpec.ofChange Rows.plainFullSpec) = true := by kernel_rfl
theorem plainFull_c2 : Tryz.prog.mainIs = some (Rows.plainFullCard.stood.harness.1, Rows.plainFullCard.stood.harness.2.toList) := by kernel_rfl
theorem plainFull_c3 : true = Tryz.prog.looks [] := by kernel_rfl
theorem plainFull_c4 : false = Rows.plainFullRow.goesBy Tryz.prog := by kernel_rfl
theorem plainFull_s0 : Tryz.prog.wantsStandIn 61 = false := by kernel_rfl
theorem plainFull_c5 : ∀ f fn, Tryz.prog.funcNamed "messuage/messuagelaw11.PlainFull" = some f → Tryz.prog.funcs[f]? = some fn → true = Tryz.prog.looks [] ∧ ∀ (j : Nat) t, fn.params[j]? = some t → Tryz.prog.wantsStandIn t = false := by
  intro f fn hf hfn
  obtain rfl : f = 10 := Option.some.inj (plainFull_f7.symm.trans hf) |>.symm
  obtain rfl : fn = Tryz.f10 := (Option.some.inj (Tryz.func10.symm.trans hfn)).symm
  refine ⟨plainFull_c3, fun j t ht => ?_⟩
  rw [Tryz.params10] at ht
  have h3 : t = 61 := by
    rcases j with _ | j
    · exact by simpa using ht.symm
    · simp at ht
  subst h3
  exact plainFull_s0
theorem plainFull_card : Rows.PlainFullCardSaid :=
  Claim7.holds_tied_plain_at .later [] [.handle] true _ true
    plainFull_row (fun _ h => by cases h) plainFull_c1 (fun _ h => by cases h) plainFull_row_tie rfl ⟨rfl, rfl⟩ plainFull_c2 rfl plainFull_c5 plainFull_c4
#print axioms plainFull_card
end Go.Proofs.YtbmekfjcpdbapaaGreatDoor

