/- What is proved here: the given card of the statement CapsAll: whatever its arguments, in whatever memory in which the library's variable errors.errorType reads as the program's text lays it, the statement returns true, its arguments read as before and nothing else has turned; that variable's content is tied to the program's text. Conditions: none beside the card's own. -/
import Derived.Test.YtmifcfkchnilmaaGreatDoorGRow
import Derived.Test.YtmifcfkchnilmaaGreatDoorGBegunB
import Derived.Test.YtmifcfkchnilmaaGreatDoorCapsAll
import Derived.Test.YtmifcfkchnilmaaGreatDoorListsC
namespace Go.Proofs.YtmifcfkchnilmaaGreatDoor
open Go.ChangeShapes Go.WideShapes Go.RowKit
set_option maxRecDepth 100000 in
theorem capsAll_lifted (os : Os) (started : os.Started) (H : Type) (enc : TypeId × Value → H) :
    ReturnsInHanded {} Tryz.checked os 3 .any (fun w args => (Rows.capsAllSpec.pre enc Tryz.prog Tryz.f3 [] false w args ∧ laidMetH Tryz.prog laid1 w) ∧ sizedMet enc Tryz.prog Tryz.f3 (OpenSpec.ofChange Rows.capsAllSpec) false w args)
      (Rows.capsAllSpec.post enc Tryz.prog Tryz.f3 false true false false) := by
  refine returnsInHanded_of_change_and (C := Tryz.checked) (X := fun w _ => laidMetH Tryz.prog laid1 w) (fun _ _ _ hh h => h.of_heap hh) Tryz.own started (by kernel_rfl) Tryz.func3
    (ChangeSpec.witness_at (enc := enc) (C := Tryz.checked) (os := os) (X := fun w _ => laidMetH Tryz.prog laid1 w) false (laidWorld os) #[.int .i64 0, .slice none 0 0] 8 rfl (by kernel_rfl) (by kernel_rfl) (by kernel_rfl) (by kernel_rfl) (by kernel_rfl) (laidWorld_met os _)) ?_
  intro W base args ds gs before hval0 hW _ _ hL _
  have hval : ∀ (j : Nat) t v, Tryz.f3.params[j]? = some t → args[j]? = some v → Value.okWide Tryz.prog W .any base t v := hval0
  have hW' := hW
  have hlt := hW.lt
  obtain ⟨p, q, hA0, hV0, rfl, hfz, hnd⟩ := hW
  have hA : DataW.TrodAll enc Tryz.prog W 0 (fun _ => true) true Tryz.f3.params.toList args.toList ds p := hA0
  have hV : DataW.TrodVars enc Tryz.prog W (fun _ => true) [] gs q := hV0
  rw [Tryz.params3] at hA hval
  obtain ⟨v0, v1, d0, d1, p0, p1, rfl, rfl, rfl, h0, h1⟩ := trodAll_two hA
  obtain ⟨n0, rfl⟩ := okWide_int Tryz.underlying3 (hval 0 3 v0 rfl rfl)
  obtain ⟨ao1, a1, len1, cap1, rfl, ha1⟩ := kops_open h1 (hval 1 22 v1 rfl rfl)
  have hg := held_of_laid hL
  obtain ⟨rfl, rfl⟩ : gs = [] ∧ q = [] := by
    cases gs with
    | nil => exact ⟨rfl, hV⟩
    | cons g r => exact absurd hV (by intro h; cases h)
  have lt0 : ∀ x ∈ p0, x.block < W.heap.size := fun x hx => hlt x (by simp [hx])
  have lt1 : ∀ x ∈ p1, x.block < W.heap.size := fun x hx => hlt x (by simp [hx])
  have e1 : Rows.capsAllSpec.fn H ([d0, d1] ++ []) = { results := [.lit (.bool true)], args := [d0, d1] } := by simp [Rows.capsAllSpec]
  refine (call_caps tree_keeps n0 ao1 a1 len1 cap1 W ha1 (begun_all11 W hg)).mono fun e W' ⟨he, hw⟩ => ?_
  subst he
  refine ⟨_, rfl, _, _, _, [], p0 ++ (p1), [], hW', ?_, ?_, ?_, hw.frame _, fun h => by cases h⟩
  · rw [e1]; exact trodAll_mk1 (shut_bool Tryz.underlying4 true)
  · rw [e1]; exact trodAll_mk2 (trod_int h0 hw lt0) (trod_kops h1 hw lt1)
  · rw [e1]; rfl
theorem capsAll_f1 : Rows.capsAllRow.wf (OpenSpec.ofChange Rows.capsAllSpec) = true := by kernel_rfl
theorem capsAll_f2 : (Rows.capsAllRow.inPlace == Tryz.prog.inPlace 3) = true := by kernel_rfl
theorem capsAll_f3 : (Rows.capsAllRow.unfollowed == Tryz.prog.unfollowed 3) = true := by kernel_rfl
theorem capsAll_f4 : (Rows.capsAllRow.recurses == Tryz.prog.recurses 3) = true := by kernel_rfl
theorem capsAll_f5 : (Rows.capsAllRow.named == Tryz.prog.varsNamed 3) = true := by kernel_rfl
theorem capsAll_f6 : joinedFacts Tryz.prog 3 Tryz.f3 Rows.capsAllSpec Rows.capsAllRow = true :=
  rf_all capsAll_f1 rfl rfl rfl rfl rfl rfl rfl rfl capsAll_f2 capsAll_f3 capsAll_f4 capsAll_f5 (by kernel_rfl)
theorem capsAll_f7 : Tryz.prog.funcNamed "messuage/messuagelaw11.CapsAll" = some 3 := by kernel_rfl
theorem capsAll_f8 : Tryz.f3.isInstance Tryz.prog Rows.capsAllRow.origin Rows.capsAllRow.targs := of_decide_eq_true (by kernel_rfl)
theorem capsAll_f9 : Tryz.f3.isWrapper Tryz.prog Rows.capsAllRow.wrapper Rows.capsAllRow.mainSum := by unfold Func.isWrapper; rw [if_neg (of_decide_eq_false (by kernel_rfl))]; exact ⟨rfl, rfl⟩
theorem capsAll_row : Rows.CapsAllSaid :=
  OpenClaim.holds_of_wide 3 Tryz.f3 rfl rfl rfl rfl rfl rfl rfl ⟨rfl, rfl, rfl, rfl, rfl⟩ rfl rfl rfl rfl rfl capsAll_f7 Tryz.func3 capsAll_f6 capsAll_f8 capsAll_f9
    (fun os started H enc _ => capsAll_lifted os started H enc)
theorem capsAll_card : Rows.CapsAllCardSaid :=
  Claim7.holds_tied_plain_at .later [] [.handle] true _ true
    capsAll_row (fun _ h => by cases h) (by kernel_rfl) (fun _ h => by cases h) capsAll_row_tie rfl ⟨rfl, rfl⟩ (by kernel_rfl) rfl
    (fun f fn hf hfn => by
      obtain rfl : f = 3 := Option.some.inj ((show Tryz.prog.funcNamed "messuage/messuagelaw11.CapsAll" = some 3 by kernel_rfl).symm.trans hf) |>.symm
      obtain rfl : fn = Tryz.f3 := (Option.some.inj (Tryz.func3.symm.trans hfn)).symm
      refine ⟨by kernel_rfl, fun j t ht => ?_⟩
      rw [Tryz.params3] at ht
      have h3 : t = 3 ∨ t = 22 := by
        rcases j with _ | _ | j
        · exact Or.inl (by simpa using ht.symm)
        · exact Or.inr (by simpa using ht.symm)
        · simp at ht
      rcases h3 with rfl | rfl
      · exact (show Tryz.prog.wantsStandIn 3 = false by kernel_rfl)
      · exact (show Tryz.prog.wantsStandIn 22 = false by kernel_rfl))
    (by kernel_rfl)
#print axioms capsAll_card
end Go.Proofs.YtmifcfkchnilmaaGreatDoor

