/- What is proved here: the given card of the statement UserKinds: whatever its arguments, in whatever memory in which the library's variable errors.errorType reads as the program's text lays it, the statement returns true, its arguments read as before and nothing else has turned; that variable's content is tied to the program's text. Conditions: none beside the card's own. -/
import Derived.Test.YtmifcfkchnilmaaGreatDoorGRow
import Derived.Test.YtmifcfkchnilmaaGreatDoorGBegunB
import Derived.Test.YtmifcfkchnilmaaGreatDoorUserKinds
namespace Go.Proofs.YtmifcfkchnilmaaGreatDoor
open Go.ChangeShapes Go.WideShapes Go.RowKit
set_option maxRecDepth 100000 in
theorem userKinds_lifted (os : Os) (started : os.Started) (H : Type) (enc : TypeId × Value → H) :
    ReturnsInHanded {} Tryz.checked os 14 .any (fun w args => (Rows.userKindsSpec.pre enc Tryz.prog Tryz.f14 [] false w args ∧ laidMetH Tryz.prog laid1 w) ∧ sizedMet enc Tryz.prog Tryz.f14 (OpenSpec.ofChange Rows.userKindsSpec) false w args)
      (Rows.userKindsSpec.post enc Tryz.prog Tryz.f14 false true false false) := by
  refine returnsInHanded_of_change_and (C := Tryz.checked) (X := fun w _ => laidMetH Tryz.prog laid1 w) (fun _ _ _ hh h => h.of_heap hh) Tryz.own started (by kernel_rfl) Tryz.func14
    (ChangeSpec.witness_at (enc := enc) (C := Tryz.checked) (os := os) (X := fun w _ => laidMetH Tryz.prog laid1 w) false (laidWorld os) #[.int .u64 0, .int .u64 0, .int .u64 0] 8 rfl (by kernel_rfl) (by kernel_rfl) (by kernel_rfl) (by kernel_rfl) (by kernel_rfl) (laidWorld_met os _)) ?_
  intro W base args ds gs before hval0 hW _ _ hL _
  have hval : ∀ (j : Nat) t v, Tryz.f14.params[j]? = some t → args[j]? = some v → Value.okWide Tryz.prog W .any base t v := hval0
  have hW' := hW
  have hlt := hW.lt
  obtain ⟨p, q, hA0, hV0, rfl, hfz, hnd⟩ := hW
  have hA : DataW.TrodAll enc Tryz.prog W 0 (fun _ => true) true Tryz.f14.params.toList args.toList ds p := hA0
  have hV : DataW.TrodVars enc Tryz.prog W (fun _ => true) [] gs q := hV0
  rw [Tryz.params14] at hA hval
  obtain ⟨v0, v1, v2, d0, d1, d2, p0, p1, p2, rfl, rfl, rfl, h0, h1, h2⟩ := trodAll_three hA
  obtain ⟨n0, rfl⟩ := okWide_int Tryz.underlying42 (hval 0 42 v0 rfl rfl)
  obtain ⟨n1, rfl⟩ := okWide_int Tryz.underlying42 (hval 1 42 v1 rfl rfl)
  obtain ⟨n2, rfl⟩ := okWide_int Tryz.underlying42 (hval 2 42 v2 rfl rfl)
  have hg := held_of_laid hL
  obtain ⟨rfl, rfl⟩ : gs = [] ∧ q = [] := by
    cases gs with
    | nil => exact ⟨rfl, hV⟩
    | cons g r => exact absurd hV (by intro h; cases h)
  have lt0 : ∀ x ∈ p0, x.block < W.heap.size := fun x hx => hlt x (by simp [hx])
  have lt1 : ∀ x ∈ p1, x.block < W.heap.size := fun x hx => hlt x (by simp [hx])
  have lt2 : ∀ x ∈ p2, x.block < W.heap.size := fun x hx => hlt x (by simp [hx])
  have e1 : Rows.userKindsSpec.fn H ([d0, d1, d2] ++ []) = { results := [.lit (.bool true)], args := [d0, d1, d2] } := by simp [Rows.userKindsSpec]
  refine (ukinds_any user_keeps n0 n1 n2 (word_in h0) (word_in h1) (word_in h2) W (begun_at11 W hg)).mono fun e W' ⟨he, hw⟩ => ?_
  subst he
  refine ⟨_, rfl, _, _, _, [], p0 ++ (p1 ++ (p2)), [], hW', ?_, ?_, ?_, hw.frame _, fun h => by cases h⟩
  · rw [e1]; exact trodAll_mk1 (shut_bool Tryz.underlying4 true)
  · rw [e1]; exact trodAll_mk3 (trod_word h0 hw lt0) (trod_word h1 hw lt1) (trod_word h2 hw lt2)
  · rw [e1]; rfl
theorem userKinds_f1 : Rows.userKindsRow.wf (OpenSpec.ofChange Rows.userKindsSpec) = true := by kernel_rfl
theorem userKinds_f2 : (Rows.userKindsRow.inPlace == Tryz.prog.inPlace 14) = true := by kernel_rfl
theorem userKinds_f3 : (Rows.userKindsRow.unfollowed == Tryz.prog.unfollowed 14) = true := by kernel_rfl
theorem userKinds_f4 : (Rows.userKindsRow.recurses == Tryz.prog.recurses 14) = true := by kernel_rfl
theorem userKinds_f5 : (Rows.userKindsRow.named == Tryz.prog.varsNamed 14) = true := by kernel_rfl
theorem userKinds_f6 : joinedFacts Tryz.prog 14 Tryz.f14 Rows.userKindsSpec Rows.userKindsRow = true :=
  rf_all userKinds_f1 rfl rfl rfl rfl rfl rfl rfl rfl userKinds_f2 userKinds_f3 userKinds_f4 userKinds_f5 (by kernel_rfl)
theorem userKinds_f7 : Tryz.prog.funcNamed "messuage/messuagelaw11.UserKinds" = some 14 := by kernel_rfl
theorem userKinds_f8 : Tryz.f14.isInstance Tryz.prog Rows.userKindsRow.origin Rows.userKindsRow.targs := of_decide_eq_true (by kernel_rfl)
theorem userKinds_f9 : Tryz.f14.isWrapper Tryz.prog Rows.userKindsRow.wrapper Rows.userKindsRow.mainSum := by unfold Func.isWrapper; rw [if_neg (of_decide_eq_false (by kernel_rfl))]; exact ⟨rfl, rfl⟩
theorem userKinds_row : Rows.UserKindsSaid :=
  OpenClaim.holds_of_wide 14 Tryz.f14 rfl rfl rfl rfl rfl rfl rfl ⟨rfl, rfl, rfl, rfl, rfl⟩ rfl rfl rfl rfl rfl userKinds_f7 Tryz.func14 userKinds_f6 userKinds_f8 userKinds_f9
    (fun os started H enc _ => userKinds_lifted os started H enc)
theorem userKinds_card : Rows.UserKindsCardSaid :=
  Claim7.holds_tied_plain_at .later [] [.handle] true _ true
    userKinds_row (fun _ h => by cases h) (by kernel_rfl) (fun _ h => by cases h) userKinds_row_tie rfl ⟨rfl, rfl⟩ (by kernel_rfl) rfl
    (fun f fn hf hfn => by
      obtain rfl : f = 14 := Option.some.inj ((show Tryz.prog.funcNamed "messuage/messuagelaw11.UserKinds" = some 14 by kernel_rfl).symm.trans hf) |>.symm
      obtain rfl : fn = Tryz.f14 := (Option.some.inj (Tryz.func14.symm.trans hfn)).symm
      refine ⟨by kernel_rfl, fun j t ht => ?_⟩
      rw [Tryz.params14] at ht
      have h3 : t = 42 := by
        rcases j with _ | _ | _ | j
        · exact by simpa using ht.symm
        · exact by simpa using ht.symm
        · exact by simpa using ht.symm
        · simp at ht
      subst h3
      exact (show Tryz.prog.wantsStandIn 42 = false by kernel_rfl))
    (by kernel_rfl)
#print axioms userKinds_card
end Go.Proofs.YtmifcfkchnilmaaGreatDoor

