/- What is proved here: the given card of the statement PlainOrder: whatever its arguments, in whatever memory in which the library's variable errors.errorType reads as the program's text lays it, the statement returns true, its arguments read as before and nothing else has turned; that variable's content is tied to the program's text. Conditions: none beside the card's own. -/
import Derived.Test.YtbmekfjcpdbapaaGreatDoorGRow
import Derived.Test.YtbmekfjcpdbapaaGreatDoorGBegunB
import Derived.Test.YtbmekfjcpdbapaaGreatDoorPlainOrder
namespace Go.Proofs.YtbmekfjcpdbapaaGreatDoor
open Go.ChangeShapes Go.WideShapes Go.RowKit
set_option maxRecDepth 100000 in
theorem plainOrder_lifted (os : Os) (started : os.Started) (H : Type) (enc : TypeId × Value → H) :
    ReturnsInHanded {} Tryz.checked os 12 .any (fun w args => (Rows.plainOrderSpec.pre enc Tryz.prog Tryz.f12 [] false w args ∧ laidMetH Tryz.prog laid1 w) ∧ sizedMet enc Tryz.prog Tryz.f12 (OpenSpec.ofChange Rows.plainOrderSpec) false w args)
      (Rows.plainOrderSpec.post enc Tryz.prog Tryz.f12 false true false false) := by
  refine returnsInHanded_of_change_and (C := Tryz.checked) (X := fun w _ => laidMetH Tryz.prog laid1 w) (fun _ _ _ hh h => h.of_heap hh) Tryz.own started (by kernel_rfl) Tryz.func12
    (ChangeSpec.witness_at (enc := enc) (C := Tryz.checked) (os := os) (X := fun w _ => laidMetH Tryz.prog laid1 w) false (laidWorld os) #[.int .i64 0] 8 rfl (by kernel_rfl) (by kernel_rfl) (by kernel_rfl) (by kernel_rfl) (by kernel_rfl) (laidWorld_met os _)) ?_
  intro W base args ds gs before hval0 hW _ _ hL _
  have hval : ∀ (j : Nat) t v, Tryz.f12.params[j]? = some t → args[j]? = some v → Value.okWide Tryz.prog W .any base t v := hval0
  have hW' := hW
  have hlt := hW.lt
  obtain ⟨p, q, hA0, hV0, rfl, hfz, hnd⟩ := hW
  have hA : DataW.TrodAll enc Tryz.prog W 0 (fun _ => true) true Tryz.f12.params.toList args.toList ds p := hA0
  have hV : DataW.TrodVars enc Tryz.prog W (fun _ => true) [] gs q := hV0
  rw [Tryz.params12] at hA hval
  obtain ⟨v0, d0, rfl, rfl, h0⟩ := trodAll_one hA
  obtain ⟨n0, rfl⟩ := okWide_int Tryz.underlying3 (hval 0 3 v0 rfl rfl)
  have hg := held_of_laid hL
  obtain ⟨rfl, rfl⟩ : gs = [] ∧ q = [] := by
    cases gs with
    | nil => exact ⟨rfl, hV⟩
    | cons g r => exact absurd hV (by intro h; cases h)
  have lt0 : ∀ x ∈ p, x.block < W.heap.size := fun x hx => hlt x (by simp [hx])
  have e1 : Rows.plainOrderSpec.fn H ([d0] ++ []) = { results := [.lit (.bool true)], args := [d0] } := by simp [Rows.plainOrderSpec]
  refine (porder_any plain_keeps n0 W hg (begun_at11 W hg)).mono fun e W' ⟨he, hw⟩ => ?_
  subst he
  refine ⟨_, rfl, _, _, _, [], p, [], hW', ?_, ?_, ?_, hw.frame _, fun h => by cases h⟩
  · rw [e1]; exact trodAll_mk1 (shut_bool Tryz.underlying4 true)
  · rw [e1]; exact trodAll_mk1 (trod_int h0 hw lt0)
  · rw [e1]; rfl
theorem plainOrder_f1 : Rows.plainOrderRow.wf (OpenSpec.ofChange Rows.plainOrderSpec) = true := by kernel_rfl
theorem plainOrder_f2 : (Rows.plainOrderRow.inPlace == Tryz.prog.inPlace 12) = true := by kernel_rfl
theorem plainOrder_f3 : (Rows.plainOrderRow.unfollowed == Tryz.prog.unfollowed 12) = true := by kernel_rfl
theorem plainOrder_f4 : (Rows.plainOrderRow.recurses == Tryz.prog.recurses 12) = true := by kernel_rfl
theorem plainOrder_f5 : (Rows.plainOrderRow.named == Tryz.prog.varsNamed 12) = true := by kernel_rfl
theorem plainOrder_f6 : joinedFacts Tryz.prog 12 Tryz.f12 Rows.plainOrderSpec Rows.plainOrderRow = true :=
  rf_all plainOrder_f1 rfl rfl rfl rfl rfl rfl rfl rfl plainOrder_f2 plainOrder_f3 plainOrder_f4 plainOrder_f5 (by kernel_rfl)
theorem plainOrder_f7 : Tryz.prog.funcNamed "messuage/messuagelaw11.PlainOrder" = some 12 := by kernel_rfl
theorem plainOrder_f8 : Tryz.f12.isInstance Tryz.prog Rows.plainOrderRow.origin Rows.plainOrderRow.targs := of_decide_eq_true (by kernel_rfl)
theorem plainOrder_f9 : Tryz.f12.isWrapper Tryz.prog Rows.plainOrderRow.wrapper Rows.plainOrderRow.mainSum := by unfold Func.isWrapper; rw [if_neg (of_decide_eq_false (by kernel_rfl))]; exact ⟨rfl, rfl⟩
theorem plainOrder_row : Rows.PlainOrderSaid :=
  OpenClaim.holds_of_wide 12 Tryz.f12 rfl rfl rfl rfl rfl rfl rfl ⟨rfl, rfl, rfl, rfl, rfl⟩ rfl rfl rfl rfl rfl plainOrder_f7 Tryz.func12 plainOrder_f6 plainOrder_f8 plainOrder_f9
    (fun os started H enc _ => plainOrder_lifted os started H enc)
theorem plainOrder_c1 : Rows.plainOrderRow.wfByText (OpenSpec.ofChange Rows.plainOrderSpec) = true := by kernel_rfl
theorem plainOrder_c2 : Tryz.prog.mainIs = some (Rows.plainOrderCard.stood.harness.1, Rows.plainOrderCard.stood.harness.2.toList) := by kernel_rfl
theorem plainOrder_c3 : true = Tryz.prog.looks [] := by kernel_rfl
theorem plainOrder_c4 : false = Rows.plainOrderRow.goesBy Tryz.prog := by kernel_rfl
theorem plainOrder_s0 : Tryz.prog.wantsStandIn 3 = false := by kernel_rfl
theorem plainOrder_c5 : ∀ f fn, Tryz.prog.funcNamed "messuage/messuagelaw11.PlainOrder" = some f → Tryz.prog.funcs[f]? = some fn → true = Tryz.prog.looks [] ∧ ∀ (j : Nat) t, fn.params[j]? = some t → Tryz.prog.wantsStandIn t = false := by
  intro f fn hf hfn
  obtain rfl : f = 12 := Option.some.inj (plainOrder_f7.symm.trans hf) |>.symm
  obtain rfl : fn = Tryz.f12 := (Option.some.inj (Tryz.func12.symm.trans hfn)).symm
  refine ⟨plainOrder_c3, fun j t ht => ?_⟩
  rw [Tryz.params12] at ht
  have h3 : t = 3 := by
    rcases j with _ | j
    · exact by simpa using ht.symm
    · simp at ht
  subst h3
  exact plainOrder_s0
theorem plainOrder_card : Rows.PlainOrderCardSaid :=
  Claim7.holds_tied_plain_at .later [] [.handle] true _ true
    plainOrder_row (fun _ h => by cases h) plainOrder_c1 (fun _ h => by cases h) plainOrder_row_tie rfl ⟨rfl, rfl⟩ plainOrder_c2 rfl plainOrder_c5 plainOrder_c4
#print axioms plainOrder_card
end Go.Proofs.YtbmekfjcpdbapaaGreatDoor

