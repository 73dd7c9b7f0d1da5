/- What is proved here: the given card of the statement CapsChain: whatever its arguments, in whatever memory in which the library's variable errors.errorType reads as the program's text lays it, the statement returns true, its arguments read as before and nothing else has turned; that variable's content is tied to the program's text. Conditions: none beside the card's own. -/
import Derived.Test.YtmifcfkchnilmaaGreatDoorGRow
import Derived.Test.YtmifcfkchnilmaaGreatDoorGBegunB
import Derived.Test.YtmifcfkchnilmaaGreatDoorCapsChain
import Derived.Test.YtmifcfkchnilmaaGreatDoorGRowY
namespace Go.Proofs.YtmifcfkchnilmaaGreatDoor
open Go.ChangeShapes Go.WideShapes Go.RowKit
set_option maxRecDepth 100000 in
theorem capsChain_lifted (os : Os) (started : os.Started) (H : Type) (enc : TypeId × Value → H) :
    ReturnsInHanded {} Tryz.checked os 8 .any (fun w args => (Rows.capsChainSpec.pre enc Tryz.prog Tryz.f8 [] false w args ∧ laidMetH Tryz.prog laid1 w) ∧ sizedMet enc Tryz.prog Tryz.f8 (OpenSpec.ofChange Rows.capsChainSpec) false w args)
      (Rows.capsChainSpec.post enc Tryz.prog Tryz.f8 false true false false) := by
  refine returnsInHanded_of_change_and (C := Tryz.checked) (X := fun w _ => laidMetH Tryz.prog laid1 w) (fun _ _ _ hh h => h.of_heap hh) Tryz.own started (by kernel_rfl) Tryz.func8
    (ChangeSpec.witness_at (enc := enc) (C := Tryz.checked) (os := os) (X := fun w _ => laidMetH Tryz.prog laid1 w) false (laidWorld os) #[.int .i64 0, .int .i64 0, .bool false] 8 rfl (by kernel_rfl) (by kernel_rfl) (by kernel_rfl) (by kernel_rfl) (by kernel_rfl) (laidWorld_met os _)) ?_
  intro W base args ds gs before hval0 hW _ _ hL _
  have hval : ∀ (j : Nat) t v, Tryz.f8.params[j]? = some t → args[j]? = some v → Value.okWide Tryz.prog W .any base t v := hval0
  have hW' := hW
  have hlt := hW.lt
  obtain ⟨p, q, hA0, hV0, rfl, hfz, hnd⟩ := hW
  have hA : DataW.TrodAll enc Tryz.prog W 0 (fun _ => true) true Tryz.f8.params.toList args.toList ds p := hA0
  have hV : DataW.TrodVars enc Tryz.prog W (fun _ => true) [] gs q := hV0
  rw [Tryz.params8] at hA hval
  obtain ⟨v0, v1, v2, d0, d1, d2, p0, p1, p2, rfl, rfl, rfl, h0, h1, h2⟩ := trodAll_three hA
  obtain ⟨n0, rfl⟩ := okWide_int Tryz.underlying3 (hval 0 3 v0 rfl rfl)
  obtain ⟨n1, rfl⟩ := okWide_int Tryz.underlying3 (hval 1 3 v1 rfl rfl)
  obtain ⟨n2, rfl⟩ := okWide_bool Tryz.underlying4 (hval 2 4 v2 rfl rfl)
  have hg := held_of_laid hL
  obtain ⟨rfl, rfl⟩ : gs = [] ∧ q = [] := by
    cases gs with
    | nil => exact ⟨rfl, hV⟩
    | cons g r => exact absurd hV (by intro h; cases h)
  have lt0 : ∀ x ∈ p0, x.block < W.heap.size := fun x hx => hlt x (by simp [hx])
  have lt1 : ∀ x ∈ p1, x.block < W.heap.size := fun x hx => hlt x (by simp [hx])
  have lt2 : ∀ x ∈ p2, x.block < W.heap.size := fun x hx => hlt x (by simp [hx])
  have e1 : Rows.capsChainSpec.fn H ([d0, d1, d2] ++ []) = { results := [.lit (.bool true)], args := [d0, d1, d2] } := by simp [Rows.capsChainSpec]
  refine (cchain_any tree_keeps n0 n1 n2 W (begun_at11 W hg)).mono fun e W' ⟨he, hw⟩ => ?_
  subst he
  refine ⟨_, rfl, _, _, _, [], p0 ++ (p1 ++ (p2)), [], hW', ?_, ?_, ?_, hw.frame _, fun h => by cases h⟩
  · rw [e1]; exact trodAll_mk1 (shut_bool Tryz.underlying4 true)
  · rw [e1]; exact trodAll_mk3 (trod_int h0 hw lt0) (trod_int h1 hw lt1) (trod_bool h2 hw lt2)
  · rw [e1]; rfl
theorem capsChain_f1 : Rows.capsChainRow.wf (OpenSpec.ofChange Rows.capsChainSpec) = true := by kernel_rfl
theorem capsChain_f2 : (Rows.capsChainRow.inPlace == Tryz.prog.inPlace 8) = true := by kernel_rfl
theorem capsChain_f3 : (Rows.capsChainRow.unfollowed == Tryz.prog.unfollowed 8) = true := by kernel_rfl
theorem capsChain_f4 : (Rows.capsChainRow.recurses == Tryz.prog.recurses 8) = true := by kernel_rfl
theorem capsChain_f5 : (Rows.capsChainRow.named == Tryz.prog.varsNamed 8) = true := by kernel_rfl
theorem capsChain_f6 : joinedFacts Tryz.prog 8 Tryz.f8 Rows.capsChainSpec Rows.capsChainRow = true :=
  rf_all capsChain_f1 rfl rfl rfl rfl rfl rfl rfl rfl capsChain_f2 capsChain_f3 capsChain_f4 capsChain_f5 (by kernel_rfl)
theorem capsChain_f7 : Tryz.prog.funcNamed "messuage/messuagelaw11.CapsChain" = some 8 := by kernel_rfl
theorem capsChain_f8 : Tryz.f8.isInstance Tryz.prog Rows.capsChainRow.origin Rows.capsChainRow.targs := of_decide_eq_true (by kernel_rfl)
theorem capsChain_f9 : Tryz.f8.isWrapper Tryz.prog Rows.capsChainRow.wrapper Rows.capsChainRow.mainSum := by unfold Func.isWrapper; rw [if_neg (of_decide_eq_false (by kernel_rfl))]; exact ⟨rfl, rfl⟩
theorem capsChain_row : Rows.CapsChainSaid :=
  OpenClaim.holds_of_wide 8 Tryz.f8 rfl rfl rfl rfl rfl rfl rfl ⟨rfl, rfl, rfl, rfl, rfl⟩ rfl rfl rfl rfl rfl capsChain_f7 Tryz.func8 capsChain_f6 capsChain_f8 capsChain_f9
    (fun os started H enc _ => capsChain_lifted os started H enc)
theorem capsChain_card : Rows.CapsChainCardSaid :=
  Claim7.holds_tied_plain_at .later [] [.handle] true _ true
    capsChain_row (fun _ h => by cases h) (by kernel_rfl) (fun _ h => by cases h) capsChain_row_tie rfl ⟨rfl, rfl⟩ (by kernel_rfl) rfl
    (fun f fn hf hfn => by
      obtain rfl : f = 8 := Option.some.inj ((show Tryz.prog.funcNamed "messuage/messuagelaw11.CapsChain" = some 8 by kernel_rfl).symm.trans hf) |>.symm
      obtain rfl : fn = Tryz.f8 := (Option.some.inj (Tryz.func8.symm.trans hfn)).symm
      refine ⟨by kernel_rfl, fun j t ht => ?_⟩
      rw [Tryz.params8] at ht
      have h3 : t = 3 ∨ t = 4 := by
        rcases j with _ | _ | _ | j
        · exact Or.inl (by simpa using ht.symm)
        · exact Or.inl (by simpa using ht.symm)
        · exact Or.inr (by simpa using ht.symm)
        · simp at ht
      rcases h3 with rfl | rfl
      · exact (show Tryz.prog.wantsStandIn 3 = false by kernel_rfl)
      · exact (show Tryz.prog.wantsStandIn 4 = false by kernel_rfl))
    (by kernel_rfl)
#print axioms capsChain_card
end Go.Proofs.YtmifcfkchnilmaaGreatDoor

