/- What is proved here: the given card of the statement CapsFan: whatever its arguments, in whatever memory in which the library's variable errors.errorType reads as the program's text lays it, the statement returns true, its arguments read as before and nothing else has turned; that variable's content is tied to the program's text. Conditions: none beside the card's own. -/
import Derived.Test.YtmifcfkchnilmaaGreatDoorGRow
import Derived.Test.YtmifcfkchnilmaaGreatDoorGBegunB
import Derived.Test.YtmifcfkchnilmaaGreatDoorCapsFan
namespace Go.Proofs.YtmifcfkchnilmaaGreatDoor
open Go.ChangeShapes Go.WideShapes Go.RowKit
set_option maxRecDepth 100000 in
theorem capsFan_lifted (os : Os) (started : os.Started) (H : Type) (enc : TypeId × Value → H) :
    ReturnsInHanded {} Tryz.checked os 10 .any (fun w args => (Rows.capsFanSpec.pre enc Tryz.prog Tryz.f10 [] false w args ∧ laidMetH Tryz.prog laid1 w) ∧ sizedMet enc Tryz.prog Tryz.f10 (OpenSpec.ofChange Rows.capsFanSpec) false w args)
      (Rows.capsFanSpec.post enc Tryz.prog Tryz.f10 false true false false) := by
  refine returnsInHanded_of_change_and (C := Tryz.checked) (X := fun w _ => laidMetH Tryz.prog laid1 w) (fun _ _ _ hh h => h.of_heap hh) Tryz.own started (by kernel_rfl) Tryz.func10
    (ChangeSpec.witness_at (enc := enc) (C := Tryz.checked) (os := os) (X := fun w _ => laidMetH Tryz.prog laid1 w) false (laidWorld os) #[.int .i64 0, .int .i64 0] 8 rfl (by kernel_rfl) (by kernel_rfl) (by kernel_rfl) (by kernel_rfl) (by kernel_rfl) (laidWorld_met os _)) ?_
  intro W base args ds gs before hval0 hW _ _ hL _
  have hval : ∀ (j : Nat) t v, Tryz.f10.params[j]? = some t → args[j]? = some v → Value.okWide Tryz.prog W .any base t v := hval0
  have hW' := hW
  have hlt := hW.lt
  obtain ⟨p, q, hA0, hV0, rfl, hfz, hnd⟩ := hW
  have hA : DataW.TrodAll enc Tryz.prog W 0 (fun _ => true) true Tryz.f10.params.toList args.toList ds p := hA0
  have hV : DataW.TrodVars enc Tryz.prog W (fun _ => true) [] gs q := hV0
  rw [Tryz.params10] at hA hval
  obtain ⟨v0, v1, d0, d1, p0, p1, rfl, rfl, rfl, h0, h1⟩ := trodAll_two hA
  obtain ⟨n0, rfl⟩ := okWide_int Tryz.underlying3 (hval 0 3 v0 rfl rfl)
  obtain ⟨n1, rfl⟩ := okWide_int Tryz.underlying3 (hval 1 3 v1 rfl rfl)
  have hg := held_of_laid hL
  obtain ⟨rfl, rfl⟩ : gs = [] ∧ q = [] := by
    cases gs with
    | nil => exact ⟨rfl, hV⟩
    | cons g r => exact absurd hV (by intro h; cases h)
  have lt0 : ∀ x ∈ p0, x.block < W.heap.size := fun x hx => hlt x (by simp [hx])
  have lt1 : ∀ x ∈ p1, x.block < W.heap.size := fun x hx => hlt x (by simp [hx])
  have e1 : Rows.capsFanSpec.fn H ([d0, d1] ++ []) = { results := [.lit (.bool true)], args := [d0, d1] } := by simp [Rows.capsFanSpec]
  refine (cfan_any tree_keeps n0 n1 W (begun_at11 W hg)).mono fun e W' ⟨he, hw⟩ => ?_
  subst he
  refine ⟨_, rfl, _, _, _, [], p0 ++ (p1), [], hW', ?_, ?_, ?_, hw.frame _, fun h => by cases h⟩
  · rw [e1]; exact trodAll_mk1 (shut_bool Tryz.underlying4 true)
  · rw [e1]; exact trodAll_mk2 (trod_int h0 hw lt0) (trod_int h1 hw lt1)
  · rw [e1]; rfl
theorem capsFan_f1 : Rows.capsFanRow.wf (OpenSpec.ofChange Rows.capsFanSpec) = true := by kernel_rfl
theorem capsFan_f2 : (Rows.capsFanRow.inPlace == Tryz.prog.inPlace 10) = true := by kernel_rfl
theorem capsFan_f3 : (Rows.capsFanRow.unfollowed == Tryz.prog.unfollowed 10) = true := by kernel_rfl
theorem capsFan_f4 : (Rows.capsFanRow.recurses == Tryz.prog.recurses 10) = true := by kernel_rfl
theorem capsFan_f5 : (Rows.capsFanRow.named == Tryz.prog.varsNamed 10) = true := by kernel_rfl
theorem capsFan_f6 : joinedFacts Tryz.prog 10 Tryz.f10 Rows.capsFanSpec Rows.capsFanRow = true :=
  rf_all capsFan_f1 rfl rfl rfl rfl rfl rfl rfl rfl capsFan_f2 capsFan_f3 capsFan_f4 capsFan_f5 (by kernel_rfl)
theorem capsFan_f7 : Tryz.prog.funcNamed "messuage/messuagelaw11.CapsFan" = some 10 := by kernel_rfl
theorem capsFan_f8 : Tryz.f10.isInstance Tryz.prog Rows.capsFanRow.origin Rows.capsFanRow.targs := of_decide_eq_true (by kernel_rfl)
theorem capsFan_f9 : Tryz.f10.isWrapper Tryz.prog Rows.capsFanRow.wrapper Rows.capsFanRow.mainSum := by unfold Func.isWrapper; rw [if_neg (of_decide_eq_false (by kernel_rfl))]; exact ⟨rfl, rfl⟩
theorem capsFan_row : Rows.CapsFanSaid :=
  OpenClaim.holds_of_wide 10 Tryz.f10 rfl rfl rfl rfl rfl rfl rfl ⟨rfl, rfl, rfl, rfl, rfl⟩ rfl rfl rfl rfl rfl capsFan_f7 Tryz.func10 capsFan_f6 capsFan_f8 capsFan_f9
    (fun os started H enc _ => capsFan_lifted os started H enc)
theorem capsFan_card : Rows.CapsFanCardSaid :=
  Claim7.holds_tied_plain_at .later [] [.handle] true _ true
    capsFan_row (fun _ h => by cases h) (by kernel_rfl) (fun _ h => by cases h) capsFan_row_tie rfl ⟨rfl, rfl⟩ (by kernel_rfl) rfl
    (fun f fn hf hfn => by
      obtain rfl : f = 10 := Option.some.inj ((show Tryz.prog.funcNamed "messuage/messuagelaw11.CapsFan" = some 10 by kernel_rfl).symm.trans hf) |>.symm
      obtain rfl : fn = Tryz.f10 := (Option.some.inj (Tryz.func10.symm.trans hfn)).symm
      refine ⟨by kernel_rfl, fun j t ht => ?_⟩
      rw [Tryz.params10] at ht
      have h3 : t = 3 := by
        rcases j with _ | _ | j
        · exact by simpa using ht.symm
        · exact by simpa using ht.symm
        · simp at ht
      subst h3
      exact (show Tryz.prog.wantsStandIn 3 = false by kernel_rfl))
    (by kernel_rfl)
#print axioms capsFan_card
end Go.Proofs.YtmifcfkchnilmaaGreatDoor

