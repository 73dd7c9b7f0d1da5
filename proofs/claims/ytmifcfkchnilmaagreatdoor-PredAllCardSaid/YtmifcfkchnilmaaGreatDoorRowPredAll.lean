/- What is proved here: the given card of the statement PredAll: whatever its arguments, in whatever memory in which the library's variable errors.errorType reads as the program's text lays it, the statement returns true, its arguments read as before and nothing else has turned; that variable's content is tied to the program's text. Conditions: none beside the card's own. -/
import Derived.Test.YtmifcfkchnilmaaGreatDoorGRow
import Derived.Test.YtmifcfkchnilmaaGreatDoorGBegunB
namespace Go.Proofs.YtmifcfkchnilmaaGreatDoor
open Go.ChangeShapes Go.WideShapes Go.RowKit
set_option maxRecDepth 100000 in
theorem predAll_lifted (os : Os) (started : os.Started) (H : Type) (enc : TypeId × Value → H) :
    ReturnsInHanded {} Tryz.checked os 4 .any (fun w args => (Rows.predAllSpec.pre enc Tryz.prog Tryz.f4 [] false w args ∧ laidMetH Tryz.prog laid1 w) ∧ sizedMet enc Tryz.prog Tryz.f4 (OpenSpec.ofChange Rows.predAllSpec) false w args)
      (Rows.predAllSpec.post enc Tryz.prog Tryz.f4 false true false false) := by
  refine returnsInHanded_of_change_and (C := Tryz.checked) (X := fun w _ => laidMetH Tryz.prog laid1 w) (fun _ _ _ hh h => h.of_heap hh) Tryz.own started (by kernel_rfl) Tryz.func4
    (ChangeSpec.witness_at (enc := enc) (C := Tryz.checked) (os := os) (X := fun w _ => laidMetH Tryz.prog laid1 w) false (laidWorld os) #[.int .i64 0, .int .u64 0, .int .u64 0] 8 rfl (by kernel_rfl) (by kernel_rfl) (by kernel_rfl) (by kernel_rfl) (by kernel_rfl) (laidWorld_met os _)) ?_
  intro W base args ds gs before hval0 hW _ _ hL _
  have hval : ∀ (j : Nat) t v, Tryz.f4.params[j]? = some t → args[j]? = some v → Value.okWide Tryz.prog W .any base t v := hval0
  have hW' := hW
  have hlt := hW.lt
  obtain ⟨p, q, hA0, hV0, rfl, hfz, hnd⟩ := hW
  have hA : DataW.TrodAll enc Tryz.prog W 0 (fun _ => true) true Tryz.f4.params.toList args.toList ds p := hA0
  have hV : DataW.TrodVars enc Tryz.prog W (fun _ => true) [] gs q := hV0
  rw [Tryz.params4] at hA hval
  obtain ⟨v0, v1, v2, d0, d1, d2, p0, p1, p2, rfl, rfl, rfl, h0, h1, h2⟩ := trodAll_three hA
  obtain ⟨n0, rfl⟩ := okWide_int Tryz.underlying3 (hval 0 3 v0 rfl rfl)
  obtain ⟨n1, rfl⟩ := okWide_int Tryz.underlying42 (hval 1 42 v1 rfl rfl)
  obtain ⟨n2, rfl⟩ := okWide_int Tryz.underlying42 (hval 2 42 v2 rfl rfl)
  have hg := held_of_laid hL
  obtain ⟨rfl, rfl⟩ : gs = [] ∧ q = [] := by
    cases gs with
    | nil => exact ⟨rfl, hV⟩
    | cons g r => exact absurd hV (by intro h; cases h)
  have lt0 : ∀ x ∈ p0, x.block < W.heap.size := fun x hx => hlt x (by simp [hx])
  have lt1 : ∀ x ∈ p1, x.block < W.heap.size := fun x hx => hlt x (by simp [hx])
  have lt2 : ∀ x ∈ p2, x.block < W.heap.size := fun x hx => hlt x (by simp [hx])
  have e1 : Rows.predAllSpec.fn H ([d0, d1, d2] ++ []) = { results := [.lit (.bool true)], args := [d0, d1, d2] } := by simp [Rows.predAllSpec]
  refine (predall_any pred_keeps n0 n1 n2 W (begun_at11 W hg)).mono fun e W' ⟨he, hw⟩ => ?_
  subst he
  refine ⟨_, rfl, _, _, _, [], p0 ++ (p1 ++ (p2)), [], hW', ?_, ?_, ?_, hw.frame _, fun h => by cases h⟩
  · rw [e1]; exact trodAll_mk1 (shut_bool Tryz.underlying4 true)
  · rw [e1]; exact trodAll_mk3 (trod_int h0 hw lt0) (trod_word h1 hw lt1) (trod_word h2 hw lt2)
  · rw [e1]; rfl
theorem predAll_f1 : Rows.predAllRow.wf (OpenSpec.ofChange Rows.predAllSpec) = true := by kernel_rfl
theorem predAll_f2 : (Rows.predAllRow.inPlace == Tryz.prog.inPlace 4) = true := by kernel_rfl
theorem predAll_f3 : (Rows.predAllRow.unfollowed == Tryz.prog.unfollowed 4) = true := by kernel_rfl
theorem predAll_f4 : (Rows.predAllRow.recurses == Tryz.prog.recurses 4) = true := by kernel_rfl
theorem predAll_f5 : (Rows.predAllRow.named == Tryz.prog.varsNamed 4) = true := by kernel_rfl
theorem predAll_f6 : joinedFacts Tryz.prog 4 Tryz.f4 Rows.predAllSpec Rows.predAllRow = true :=
  rf_all predAll_f1 rfl rfl rfl rfl rfl rfl rfl rfl predAll_f2 predAll_f3 predAll_f4 predAll_f5 (by kernel_rfl)
theorem predAll_f7 : Tryz.prog.funcNamed "messuage/messuagelaw11.PredAll" = some 4 := by kernel_rfl
theorem predAll_f8 : Tryz.f4.isInstance Tryz.prog Rows.predAllRow.origin Rows.predAllRow.targs := of_decide_eq_true (by kernel_rfl)
theorem predAll_f9 : Tryz.f4.isWrapper Tryz.prog Rows.predAllRow.wrapper Rows.predAllRow.mainSum := by unfold Func.isWrapper; rw [if_neg (of_decide_eq_false (by kernel_rfl))]; exact ⟨rfl, rfl⟩
theorem predAll_row : Rows.PredAllSaid :=
  OpenClaim.holds_of_wide 4 Tryz.f4 rfl rfl rfl rfl rfl rfl rfl ⟨rfl, rfl, rfl, rfl, rfl⟩ rfl rfl rfl rfl rfl predAll_f7 Tryz.func4 predAll_f6 predAll_f8 predAll_f9
    (fun os started H enc _ => predAll_lifted os started H enc)
theorem predAll_card : Rows.PredAllCardSaid :=
  Claim7.holds_tied_plain_at .later [] [.handle] true _ true
    predAll_row (fun _ h => by cases h) (by kernel_rfl) (fun _ h => by cases h) predAll_row_tie rfl ⟨rfl, rfl⟩ (by kernel_rfl) rfl
    (fun f fn hf hfn => by
      obtain rfl : f = 4 := Option.some.inj ((show Tryz.prog.funcNamed "messuage/messuagelaw11.PredAll" = some 4 by kernel_rfl).symm.trans hf) |>.symm
      obtain rfl : fn = Tryz.f4 := (Option.some.inj (Tryz.func4.symm.trans hfn)).symm
      refine ⟨by kernel_rfl, fun j t ht => ?_⟩
      rw [Tryz.params4] at ht
      have h3 : t = 3 ∨ t = 42 := by
        rcases j with _ | _ | _ | j
        · exact Or.inl (by simpa using ht.symm)
        · exact Or.inr (by simpa using ht.symm)
        · exact Or.inr (by simpa using ht.symm)
        · simp at ht
      rcases h3 with rfl | rfl
      · exact (show Tryz.prog.wantsStandIn 3 = false by kernel_rfl)
      · exact (show Tryz.prog.wantsStandIn 42 = false by kernel_rfl))
    (by kernel_rfl)
#print axioms predAll_card
end Go.Proofs.YtmifcfkchnilmaaGreatDoor

