/- What is proved here: the given card of the statement PlainAlloc: whatever its arguments, in whatever memory in which the library's variable errors.errorType reads as the program's text lays it, the statement returns true, its arguments read as before and nothing else has turned; that variable's content is tied to the program's text. Conditions: none beside the card's own. -/
import Derived.Test.YtbmekfjcpdbapaaGreatDoorGRow
import Derived.Test.YtbmekfjcpdbapaaGreatDoorGBegunB
import Derived.Test.YtbmekfjcpdbapaaGreatDoorPlainAlloc
namespace Go.Proofs.YtbmekfjcpdbapaaGreatDoor
open Go.ChangeShapes Go.WideShapes Go.RowKit
set_option maxRecDepth 100000 in
theorem plainAlloc_lifted (os : Os) (started : os.Started) (H : Type) (enc : TypeId × Value → H) :
    ReturnsInHanded {} Tryz.checked os 7 .any (fun w args => (Rows.plainAllocSpec.pre enc Tryz.prog Tryz.f7 [] false w args ∧ laidMetH Tryz.prog laid1 w) ∧ sizedMet enc Tryz.prog Tryz.f7 (OpenSpec.ofChange Rows.plainAllocSpec) false w args)
      (Rows.plainAllocSpec.post enc Tryz.prog Tryz.f7 false true false false) := by
  refine returnsInHanded_of_change_and (C := Tryz.checked) (X := fun w _ => laidMetH Tryz.prog laid1 w) (fun _ _ _ hh h => h.of_heap hh) Tryz.own started (by kernel_rfl) Tryz.func7
    (ChangeSpec.witness_at (enc := enc) (C := Tryz.checked) (os := os) (X := fun w _ => laidMetH Tryz.prog laid1 w) false (laidWorld os) #[.int .i64 0, .int .i64 0] 8 rfl (by kernel_rfl) (by kernel_rfl) (by kernel_rfl) (by kernel_rfl) (by kernel_rfl) (laidWorld_met os _)) ?_
  intro W base args ds gs before hval0 hW _ _ hL _
  have hval : ∀ (j : Nat) t v, Tryz.f7.params[j]? = some t → args[j]? = some v → Value.okWide Tryz.prog W .any base t v := hval0
  have hW' := hW
  have hlt := hW.lt
  obtain ⟨p, q, hA0, hV0, rfl, hfz, hnd⟩ := hW
  have hA : DataW.TrodAll enc Tryz.prog W 0 (fun _ => true) true Tryz.f7.params.toList args.toList ds p := hA0
  have hV : DataW.TrodVars enc Tryz.prog W (fun _ => true) [] gs q := hV0
  rw [Tryz.params7] at hA hval
  obtain ⟨v0, v1, d0, d1, p0, p1, rfl, rfl, rfl, h0, h1⟩ := trodAll_two hA
  obtain ⟨n0, rfl⟩ := okWide_int Tryz.underlying3 (hval 0 3 v0 rfl rfl)
  obtain ⟨n1, rfl⟩ := okWide_int Tryz.underlying3 (hval 1 3 v1 rfl rfl)
  have hg := held_of_laid hL
  obtain ⟨rfl, rfl⟩ : gs = [] ∧ q = [] := by
    cases gs with
    | nil => exact ⟨rfl, hV⟩
    | cons g r => exact absurd hV (by intro h; cases h)
  have lt0 : ∀ x ∈ p0, x.block < W.heap.size := fun x hx => hlt x (by simp [hx])
  have lt1 : ∀ x ∈ p1, x.block < W.heap.size := fun x hx => hlt x (by simp [hx])
  have e1 : Rows.plainAllocSpec.fn H ([d0, d1] ++ []) = { results := [.lit (.bool true)], args := [d0, d1] } := by simp [Rows.plainAllocSpec]
  refine (palloc_any plain_keeps n0 n1 W (begun_at11 W hg)).mono fun e W' ⟨he, hw⟩ => ?_
  subst he
  refine ⟨_, rfl, _, _, _, [], p0 ++ (p1), [], hW', ?_, ?_, ?_, hw.frame _, fun h => by cases h⟩
  · rw [e1]; exact trodAll_mk1 (shut_bool Tryz.underlying4 true)
  · rw [e1]; exact trodAll_mk2 (trod_int h0 hw lt0) (trod_int h1 hw lt1)
  · rw [e1]; rfl
theorem plainAlloc_f1 : Rows.plainAllocRow.wf (OpenSpec.ofChange Rows.plainAllocSpec) = true := by kernel_rfl
theorem plainAlloc_f2 : (Rows.plainAllocRow.inPlace == Tryz.prog.inPlace 7) = true := by kernel_rfl
theorem plainAlloc_f3 : (Rows.plainAllocRow.unfollowed == Tryz.prog.unfollowed 7) = true := by kernel_rfl
theorem plainAlloc_f4 : (Rows.plainAllocRow.recurses == Tryz.prog.recurses 7) = true := by kernel_rfl
theorem plainAlloc_f5 : (Rows.plainAllocRow.named == Tryz.prog.varsNamed 7) = true := by kernel_rfl
theorem plainAlloc_f6 : joinedFacts Tryz.prog 7 Tryz.f7 Rows.plainAllocSpec Rows.plainAllocRow = true :=
  rf_all plainAlloc_f1 rfl rfl rfl rfl rfl rfl rfl rfl plainAlloc_f2 plainAlloc_f3 plainAlloc_f4 plainAlloc_f5 (by kernel_rfl)
theorem plainAlloc_f7 : Tryz.prog.funcNamed "messuage/messuagelaw11.PlainAlloc" = some 7 := by kernel_rfl
theorem plainAlloc_f8 : Tryz.f7.isInstance Tryz.prog Rows.plainAllocRow.origin Rows.plainAllocRow.targs := of_decide_eq_true (by kernel_rfl)
theorem plainAlloc_f9 : Tryz.f7.isWrapper Tryz.prog Rows.plainAllocRow.wrapper Rows.plainAllocRow.mainSum := by unfold Func.isWrapper; rw [if_neg (of_decide_eq_false (by kernel_rfl))]; exact ⟨rfl, rfl⟩
theorem plainAlloc_row : Rows.PlainAllocSaid :=
  OpenClaim.holds_of_wide 7 Tryz.f7 rfl rfl rfl rfl rfl rfl rfl ⟨rfl, rfl, rfl, rfl, rfl⟩ rfl rfl rfl rfl rfl plainAlloc_f7 Tryz.func7 plainAlloc_f6 plainAlloc_f8 plainAlloc_f9
    (fun os started H enc _ => plainAlloc_lifted os started H enc)
theorem plainAlloc_c1 : Rows.plainAllocRow.wfByText (OpenSpec.ofChange Rows.plainAllocSpec) = true := by kernel_rfl
theorem plainAlloc_c2 : Tryz.prog.mainIs = some (Rows.plainAllocCard.stood.harness.1, Rows.plainAllocCard.stood.harness.2.toList) := by kernel_rfl
theorem plainAlloc_c3 : true = Tryz.prog.looks [] := by kernel_rfl
theorem plainAlloc_c4 : false = Rows.plainAllocRow.goesBy Tryz.prog := by kernel_rfl
theorem plainAlloc_s0 : Tryz.prog.wantsStandIn 3 = false := by kernel_rfl
theorem plainAlloc_c5 : ∀ f fn, Tryz.prog.funcNamed "messuage/messuagelaw11.PlainAlloc" = some f → Tryz.prog.funcs[f]? = some fn → true = Tryz.prog.looks [] ∧ ∀ (j : Nat) t, fn.params[j]? = some t → Tryz.prog.wantsStandIn t = false := by
  intro f fn hf hfn
  obtain rfl : f = 7 := Option.some.inj (plainAlloc_f7.symm.trans hf) |>.symm
  obtain rfl : fn = Tryz.f7 := (Option.some.inj (Tryz.func7.symm.trans hfn)).symm
  refine ⟨plainAlloc_c3, fun j t ht => ?_⟩
  rw [Tryz.params7] at ht
  have h3 : t = 3 := by
    rcases j with _ | _ | j
    · exact by simpa using ht.symm
    · exact by simpa using ht.symm
    · simp at ht
  subst h3
  exact plainAlloc_s0
theorem plainAlloc_card : Rows.PlainAllocCardSaid :=
  Claim7.holds_tied_plain_at .later [] [.handle] true _ true
    plainAlloc_row (fun _ h => by cases h) plainAlloc_c1 (fun _ h => by cases h) plainAlloc_row_tie rfl ⟨rfl, rfl⟩ plainAlloc_c2 rfl plainAlloc_c5 plainAlloc_c4
#print axioms plainAlloc_card
end Go.Proofs.YtbmekfjcpdbapaaGreatDoor

