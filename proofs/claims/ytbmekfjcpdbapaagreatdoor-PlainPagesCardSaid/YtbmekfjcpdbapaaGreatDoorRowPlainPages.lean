/- What is proved here: the given card of the statement PlainPages: whatever its arguments, in whatever memory in which the library's variable errors.errorType reads as the program's text lays it, the statement returns true, its arguments read as before and nothing else has turned; that variable's content is tied to the program's text. Conditions: none beside the card's own. -/
import Derived.Test.YtbmekfjcpdbapaaGreatDoorGRow
import Derived.Test.YtbmekfjcpdbapaaGreatDoorGBegunB
import Derived.Test.YtbmekfjcpdbapaaGreatDoorPlainPages
namespace Go.Proofs.YtbmekfjcpdbapaaGreatDoor
open Go.ChangeShapes Go.WideShapes Go.RowKit
set_option maxRecDepth 100000 in
theorem plainPages_lifted (os : Os) (started : os.Started) (H : Type) (enc : TypeId × Value → H) :
    ReturnsInHanded {} Tryz.checked os 16 .any (fun w args => (Rows.plainPagesSpec.pre enc Tryz.prog Tryz.f16 [] false w args ∧ laidMetH Tryz.prog laid1 w) ∧ sizedMet enc Tryz.prog Tryz.f16 (OpenSpec.ofChange Rows.plainPagesSpec) false w args)
      (Rows.plainPagesSpec.post enc Tryz.prog Tryz.f16 false true false false) := by
  refine returnsInHanded_of_change_and (C := Tryz.checked) (X := fun w _ => laidMetH Tryz.prog laid1 w) (fun _ _ _ hh h => h.of_heap hh) Tryz.own started (by kernel_rfl) Tryz.func16
    (ChangeSpec.witness_at (enc := enc) (C := Tryz.checked) (os := os) (X := fun w _ => laidMetH Tryz.prog laid1 w) false (laidWorld os) #[.slice none 0 0, .bool false] 8 rfl (by kernel_rfl) (by kernel_rfl) (by kernel_rfl) (by kernel_rfl) (by kernel_rfl) (laidWorld_met os _)) ?_
  intro W base args ds gs before hval0 hW _ _ hL _
  have hval : ∀ (j : Nat) t v, Tryz.f16.params[j]? = some t → args[j]? = some v → Value.okWide Tryz.prog W .any base t v := hval0
  have hW' := hW
  have hlt := hW.lt
  obtain ⟨p, q, hA0, hV0, rfl, hfz, hnd⟩ := hW
  have hA : DataW.TrodAll enc Tryz.prog W 0 (fun _ => true) true Tryz.f16.params.toList args.toList ds p := hA0
  have hV : DataW.TrodVars enc Tryz.prog W (fun _ => true) [] gs q := hV0
  rw [Tryz.params16] at hA hval
  obtain ⟨v0, v1, d0, d1, p0, p1, rfl, rfl, rfl, h0, h1⟩ := trodAll_two hA
  obtain ⟨ao0, a0, len0, cap0, z0, rfl, hao0, hz0⟩ := ints_any (ints_open h0 (hval 0 61 v0 rfl rfl))
  obtain ⟨n1, rfl⟩ := okWide_bool Tryz.underlying4 (hval 1 4 v1 rfl rfl)
  have hg := held_of_laid hL
  obtain ⟨rfl, rfl⟩ : gs = [] ∧ q = [] := by
    cases gs with
    | nil => exact ⟨rfl, hV⟩
    | cons g r => exact absurd hV (by intro h; cases h)
  have lt0 : ∀ x ∈ p0, x.block < W.heap.size := fun x hx => hlt x (by simp [hx])
  have lt1 : ∀ x ∈ p1, x.block < W.heap.size := fun x hx => hlt x (by simp [hx])
  have e1 : Rows.plainPagesSpec.fn H ([d0, d1] ++ []) = { results := [.lit (.bool true)], args := [d0, d1] } := by simp [Rows.plainPagesSpec]
  refine (ppages_any plain_keeps ao0 a0 len0 cap0 n1 hao0 z0 W hz0 (begun_at11 W hg)).mono fun e W' ⟨he, hw⟩ => ?_
  subst he
  refine ⟨_, rfl, _, _, _, [], p0 ++ (p1), [], hW', ?_, ?_, ?_, hw.frame _, fun h => by cases h⟩
  · rw [e1]; exact trodAll_mk1 (shut_bool Tryz.underlying4 true)
  · rw [e1]; exact trodAll_mk2 (trod_ints h0 hw lt0) (trod_bool h1 hw lt1)
  · rw [e1]; rfl
theorem plainPages_f1 : Rows.plainPagesRow.wf (OpenSpec.ofChange Rows.plainPagesSpec) = true := by kernel_rfl
theorem plainPages_f2 : (Rows.plainPagesRow.inPlace == Tryz.prog.inPlace 16) = true := by kernel_rfl
theorem plainPages_f3 : (Rows.plainPagesRow.unfollowed == Tryz.prog.unfollowed 16) = true := by kernel_rfl
theorem plainPages_f4 : (Rows.plainPagesRow.recurses == Tryz.prog.recurses 16) = true := by kernel_rfl
theorem plainPages_f5 : (Rows.plainPagesRow.named == Tryz.prog.varsNamed 16) = true := by kernel_rfl
theorem plainPages_f6 : joinedFacts Tryz.prog 16 Tryz.f16 Rows.plainPagesSpec Rows.plainPagesRow = true :=
  rf_all plainPages_f1 rfl rfl rfl rfl rfl rfl rfl rfl plainPages_f2 plainPages_f3 plainPages_f4 plainPages_f5 (by kernel_rfl)
theorem plainPages_f7 : Tryz.prog.funcNamed "messuage/messuagelaw11.PlainPages" = some 16 := by kernel_rfl
theorem plainPages_f8 : Tryz.f16.isInstance Tryz.prog Rows.plainPagesRow.origin Rows.plainPagesRow.targs := of_decide_eq_true (by kernel_rfl)
theorem plainPages_f9 : Tryz.f16.isWrapper Tryz.prog Rows.plainPagesRow.wrapper Rows.plainPagesRow.mainSum := by unfold Func.isWrapper; rw [if_neg (of_decide_eq_false (by kernel_rfl))]; exact ⟨rfl, rfl⟩
theorem plainPages_row : Rows.PlainPagesSaid :=
  OpenClaim.holds_of_wide 16 Tryz.f16 rfl rfl rfl rfl rfl rfl rfl ⟨rfl, rfl, rfl, rfl, rfl⟩ rfl rfl rfl rfl rfl plainPages_f7 Tryz.func16 plainPages_f6 plainPages_f8 plainPages_f9
    (fun os started H enc _ => plainPages_lifted os started H enc)
theorem plainPages_c1 : Rows.plainPagesRow.wfByText (OpenSpec.ofChange Rows.plainPagesSpec) = true := by kernel_rfl
theorem plainPages_c2 : Tryz.prog.mainIs = some (Rows.plainPagesCard.stood.harness.1, Rows.plainPagesCard.stood.harness.2.toList) := by kernel_rfl
theorem plainPages_c3 : true = Tryz.prog.looks [] := by kernel_rfl
theorem plainPages_c4 : false = Rows.plainPagesRow.goesBy Tryz.prog := by kernel_rfl
theorem plainPages_s0 : Tryz.prog.wantsStandIn 61 = false := by kernel_rfl
theorem plainPages_s1 : Tryz.prog.wantsStandIn 4 = false := by kernel_rfl
theorem plainPages_c5 : ∀ f fn, Tryz.prog.funcNamed "messuage/messuagelaw11.PlainPages" = some f → Tryz.prog.funcs[f]? = some fn → true = Tryz.prog.looks [] ∧ ∀ (j : Nat) t, fn.params[j]? = some t → Tryz.prog.wantsStandIn t = false := by
  intro f fn hf hfn
  obtain rfl : f = 16 := Option.some.inj (plainPages_f7.symm.trans hf) |>.symm
  obtain rfl : fn = Tryz.f16 := (Option.some.inj (Tryz.func16.symm.trans hfn)).symm
  refine ⟨plainPages_c3, fun j t ht => ?_⟩
  rw [Tryz.params16] at ht
  have h3 : t = 61 ∨ t = 4 := by
    rcases j with _ | _ | j
    · exact Or.inl (by simpa using ht.symm)
    · exact Or.inr (by simpa using ht.symm)
    · simp at ht
  rcases h3 with rfl | rfl
  · exact plainPages_s0
  · exact plainPages_s1
theorem plainPages_card : Rows.PlainPagesCardSaid :=
  Claim7.holds_tied_plain_at .later [] [.handle] true _ true
    plainPages_row (fun _ h => by cases h) plainPages_c1 (fun _ h => by cases h) plainPages_row_tie rfl ⟨rfl, rfl⟩ plainPages_c2 rfl plainPages_c5 plainPages_c4
#print axioms plainPages_card
end Go.Proofs.YtbmekfjcpdbapaaGreatDoor

