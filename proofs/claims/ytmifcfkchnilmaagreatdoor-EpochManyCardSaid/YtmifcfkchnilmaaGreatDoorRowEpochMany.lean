/- What is proved here: the given card of the statement EpochMany: whatever its arguments, in whatever memory in which the library's variable errors.errorType reads as the program's text lays it, the statement returns true, its arguments read as before and nothing else has turned; that variable's content is tied to the program's text. Conditions: none beside the card's own. -/
import Derived.Test.YtmifcfkchnilmaaGreatDoorGRow
import Derived.Test.YtmifcfkchnilmaaGreatDoorGBegunB
import Derived.Test.YtmifcfkchnilmaaGreatDoorEpochMany
namespace Go.Proofs.YtmifcfkchnilmaaGreatDoor
open Go.ChangeShapes Go.WideShapes Go.RowKit
set_option maxRecDepth 100000 in
theorem epochMany_lifted (os : Os) (started : os.Started) (H : Type) (enc : TypeId × Value → H) :
    ReturnsInHanded {} Tryz.checked os 15 .any (fun w args => (Rows.epochManySpec.pre enc Tryz.prog Tryz.f15 [] false w args ∧ laidMetH Tryz.prog laid1 w) ∧ sizedMet enc Tryz.prog Tryz.f15 (OpenSpec.ofChange Rows.epochManySpec) false w args)
      (Rows.epochManySpec.post enc Tryz.prog Tryz.f15 false true false false) := by
  refine returnsInHanded_of_change_and (C := Tryz.checked) (X := fun w _ => laidMetH Tryz.prog laid1 w) (fun _ _ _ hh h => h.of_heap hh) Tryz.own started (by kernel_rfl) Tryz.func15
    (ChangeSpec.witness_at (enc := enc) (C := Tryz.checked) (os := os) (X := fun w _ => laidMetH Tryz.prog laid1 w) false (laidWorld os) #[.int .i64 0, .slice none 0 0] 8 rfl (by kernel_rfl) (by kernel_rfl) (by kernel_rfl) (by kernel_rfl) (by kernel_rfl) (laidWorld_met os _)) ?_
  intro W base args ds gs before hval0 hW _ _ hL _
  have hval : ∀ (j : Nat) t v, Tryz.f15.params[j]? = some t → args[j]? = some v → Value.okWide Tryz.prog W .any base t v := hval0
  have hW' := hW
  have hlt := hW.lt
  obtain ⟨p, q, hA0, hV0, rfl, hfz, hnd⟩ := hW
  have hA : DataW.TrodAll enc Tryz.prog W 0 (fun _ => true) true Tryz.f15.params.toList args.toList ds p := hA0
  have hV : DataW.TrodVars enc Tryz.prog W (fun _ => true) [] gs q := hV0
  rw [Tryz.params15] at hA hval
  obtain ⟨v0, v1, d0, d1, p0, p1, rfl, rfl, rfl, h0, h1⟩ := trodAll_two hA
  obtain ⟨n0, rfl⟩ := okWide_int Tryz.underlying3 (hval 0 3 v0 rfl rfl)
  obtain ⟨ao1, a1, len1, cap1, z1, rfl, hao1, hz1⟩ := ints_any (ints_open h1 (hval 1 118 v1 rfl rfl))
  have hg := held_of_laid hL
  obtain ⟨rfl, rfl⟩ : gs = [] ∧ q = [] := by
    cases gs with
    | nil => exact ⟨rfl, hV⟩
    | cons g r => exact absurd hV (by intro h; cases h)
  have lt0 : ∀ x ∈ p0, x.block < W.heap.size := fun x hx => hlt x (by simp [hx])
  have lt1 : ∀ x ∈ p1, x.block < W.heap.size := fun x hx => hlt x (by simp [hx])
  have e1 : Rows.epochManySpec.fn H ([d0, d1] ++ []) = { results := [.lit (.bool true)], args := [d0, d1] } := by simp [Rows.epochManySpec]
  refine (emany_any epoch_keeps n0 ao1 a1 len1 cap1 hao1 z1 W hz1 (begun_at11 W hg)).mono fun e W' ⟨he, hw⟩ => ?_
  subst he
  refine ⟨_, rfl, _, _, _, [], p0 ++ (p1), [], hW', ?_, ?_, ?_, hw.frame _, fun h => by cases h⟩
  · rw [e1]; exact trodAll_mk1 (shut_bool Tryz.underlying4 true)
  · rw [e1]; exact trodAll_mk2 (trod_int h0 hw lt0) (trod_ints h1 hw lt1)
  · rw [e1]; rfl
theorem epochMany_f1 : Rows.epochManyRow.wf (OpenSpec.ofChange Rows.epochManySpec) = true := by kernel_rfl
theorem epochMany_f2 : (Rows.epochManyRow.inPlace == Tryz.prog.inPlace 15) = true := by kernel_rfl
theorem epochMany_f3 : (Rows.epochManyRow.unfollowed == Tryz.prog.unfollowed 15) = true := by kernel_rfl
theorem epochMany_f4 : (Rows.epochManyRow.recurses == Tryz.prog.recurses 15) = true := by kernel_rfl
theorem epochMany_f5 : (Rows.epochManyRow.named == Tryz.prog.varsNamed 15) = true := by kernel_rfl
theorem epochMany_f6 : joinedFacts Tryz.prog 15 Tryz.f15 Rows.epochManySpec Rows.epochManyRow = true :=
  rf_all epochMany_f1 rfl rfl rfl rfl rfl rfl rfl rfl epochMany_f2 epochMany_f3 epochMany_f4 epochMany_f5 (by kernel_rfl)
theorem epochMany_f7 : Tryz.prog.funcNamed "messuage/messuagelaw11.EpochMany" = some 15 := by kernel_rfl
theorem epochMany_f8 : Tryz.f15.isInstance Tryz.prog Rows.epochManyRow.origin Rows.epochManyRow.targs := of_decide_eq_true (by kernel_rfl)
theorem epochMany_f9 : Tryz.f15.isWrapper Tryz.prog Rows.epochManyRow.wrapper Rows.epochManyRow.mainSum := by unfold Func.isWrapper; rw [if_neg (of_decide_eq_false (by kernel_rfl))]; exact ⟨rfl, rfl⟩
theorem epochMany_row : Rows.EpochManySaid :=
  OpenClaim.holds_of_wide 15 Tryz.f15 rfl rfl rfl rfl rfl rfl rfl ⟨rfl, rfl, rfl, rfl, rfl⟩ rfl rfl rfl rfl rfl epochMany_f7 Tryz.func15 epochMany_f6 epochMany_f8 epochMany_f9
    (fun os started H enc _ => epochMany_lifted os started H enc)
theorem epochMany_card : Rows.EpochManyCardSaid :=
  Claim7.holds_tied_plain_at .later [] [.handle] true _ true
    epochMany_row (fun _ h => by cases h) (by kernel_rfl) (fun _ h => by cases h) epochMany_row_tie rfl ⟨rfl, rfl⟩ (by kernel_rfl) rfl
    (fun f fn hf hfn => by
      obtain rfl : f = 15 := Option.some.inj ((show Tryz.prog.funcNamed "messuage/messuagelaw11.EpochMany" = some 15 by kernel_rfl).symm.trans hf) |>.symm
      obtain rfl : fn = Tryz.f15 := (Option.some.inj (Tryz.func15.symm.trans hfn)).symm
      refine ⟨by kernel_rfl, fun j t ht => ?_⟩
      rw [Tryz.params15] at ht
      have h3 : t = 3 ∨ t = 118 := by
        rcases j with _ | _ | j
        · exact Or.inl (by simpa using ht.symm)
        · exact Or.inr (by simpa using ht.symm)
        · simp at ht
      rcases h3 with rfl | rfl
      · exact (show Tryz.prog.wantsStandIn 3 = false by kernel_rfl)
      · exact (show Tryz.prog.wantsStandIn 118 = false by kernel_rfl))
    (by kernel_rfl)
#print axioms epochMany_card
end Go.Proofs.YtmifcfkchnilmaaGreatDoor

