/- What is proved here: the given card of the statement UserAll: whatever its arguments, in whatever memory in which the library's variable errors.errorType reads as the program's text lays it, the statement returns true, its arguments read as before and nothing else has turned; that variable's content is tied to the program's text. Conditions: none beside the card's own. -/
import Derived.Test.YtmifcfkchnilmaaGreatDoorGRow
import Derived.Test.YtmifcfkchnilmaaGreatDoorGBegunB
import Derived.Test.YtmifcfkchnilmaaGreatDoorUserAll
import Derived.Test.YtmifcfkchnilmaaGreatDoorListsU
import Derived.Test.YtmifcfkchnilmaaGreatDoorListsA
namespace Go.Proofs.YtmifcfkchnilmaaGreatDoor
open Go.ChangeShapes Go.WideShapes Go.RowKit
set_option maxRecDepth 100000 in
theorem userAll_lifted (os : Os) (started : os.Started) (H : Type) (enc : TypeId × Value → H) :
    ReturnsInHanded {} Tryz.checked os 5 .any (fun w args => (Rows.userAllSpec.pre enc Tryz.prog Tryz.f5 [] false w args ∧ laidMetH Tryz.prog laid1 w) ∧ sizedMet enc Tryz.prog Tryz.f5 (OpenSpec.ofChange Rows.userAllSpec) false w args)
      (Rows.userAllSpec.post enc Tryz.prog Tryz.f5 false true false false) := by
  refine returnsInHanded_of_change_and (C := Tryz.checked) (X := fun w _ => laidMetH Tryz.prog laid1 w) (fun _ _ _ hh h => h.of_heap hh) Tryz.own started (by kernel_rfl) Tryz.func5
    (ChangeSpec.witness_at (enc := enc) (C := Tryz.checked) (os := os) (X := fun w _ => laidMetH Tryz.prog laid1 w) false (laidWorld os) #[.slice none 0 0, .slice none 0 0, .slice none 0 0] 8 rfl (by kernel_rfl) (by kernel_rfl) (by kernel_rfl) (by kernel_rfl) (by kernel_rfl) (laidWorld_met os _)) ?_
  intro W base args ds gs before hval0 hW _ _ hL _
  have hval : ∀ (j : Nat) t v, Tryz.f5.params[j]? = some t → args[j]? = some v → Value.okWide Tryz.prog W .any base t v := hval0
  have hW' := hW
  have hlt := hW.lt
  obtain ⟨p, q, hA0, hV0, rfl, hfz, hnd⟩ := hW
  have hA : DataW.TrodAll enc Tryz.prog W 0 (fun _ => true) true Tryz.f5.params.toList args.toList ds p := hA0
  have hV : DataW.TrodVars enc Tryz.prog W (fun _ => true) [] gs q := hV0
  rw [Tryz.params5] at hA hval
  obtain ⟨v0, v1, v2, d0, d1, d2, p0, p1, p2, rfl, rfl, rfl, h0, h1, h2⟩ := trodAll_three hA
  obtain ⟨ao0, a0, len0, cap0, rfl, ha0⟩ := lns_open h0 (hval 0 65 v0 rfl rfl)
  obtain ⟨ao1, a1, len1, cap1, rfl, ha1⟩ := pts_open h1 (hval 1 66 v1 rfl rfl)
  obtain ⟨ao2, a2, len2, cap2, rfl, ha2⟩ := asks_open h2 (hval 2 67 v2 rfl rfl)
  have hg := held_of_laid hL
  obtain ⟨rfl, rfl⟩ : gs = [] ∧ q = [] := by
    cases gs with
    | nil => exact ⟨rfl, hV⟩
    | cons g r => exact absurd hV (by intro h; cases h)
  have lt0 : ∀ x ∈ p0, x.block < W.heap.size := fun x hx => hlt x (by simp [hx])
  have lt1 : ∀ x ∈ p1, x.block < W.heap.size := fun x hx => hlt x (by simp [hx])
  have lt2 : ∀ x ∈ p2, x.block < W.heap.size := fun x hx => hlt x (by simp [hx])
  have e1 : Rows.userAllSpec.fn H ([d0, d1, d2] ++ []) = { results := [.lit (.bool true)], args := [d0, d1, d2] } := by simp [Rows.userAllSpec]
  refine (uall_any user_keeps ao0 a0 len0 cap0 ao1 a1 len1 cap1 ao2 a2 len2 cap2 W ha0 ha1 ha2 (begun_at11 W hg)).mono fun e W' ⟨he, hw⟩ => ?_
  subst he
  refine ⟨_, rfl, _, _, _, [], p0 ++ (p1 ++ (p2)), [], hW', ?_, ?_, ?_, hw.frame _, fun h => by cases h⟩
  · rw [e1]; exact trodAll_mk1 (shut_bool Tryz.underlying4 true)
  · rw [e1]; exact trodAll_mk3 (trod_lines h0 hw lt0) (trod_ptes h1 hw lt1) (trod_asks h2 hw lt2)
  · rw [e1]; rfl
theorem userAll_f1 : Rows.userAllRow.wf (OpenSpec.ofChange Rows.userAllSpec) = true := by kernel_rfl
theorem userAll_f2 : (Rows.userAllRow.inPlace == Tryz.prog.inPlace 5) = true := by kernel_rfl
theorem userAll_f3 : (Rows.userAllRow.unfollowed == Tryz.prog.unfollowed 5) = true := by kernel_rfl
theorem userAll_f4 : (Rows.userAllRow.recurses == Tryz.prog.recurses 5) = true := by kernel_rfl
theorem userAll_f5 : (Rows.userAllRow.named == Tryz.prog.varsNamed 5) = true := by kernel_rfl
theorem userAll_f6 : joinedFacts Tryz.prog 5 Tryz.f5 Rows.userAllSpec Rows.userAllRow = true :=
  rf_all userAll_f1 rfl rfl rfl rfl rfl rfl rfl rfl userAll_f2 userAll_f3 userAll_f4 userAll_f5 (by kernel_rfl)
theorem userAll_f7 : Tryz.prog.funcNamed "messuage/messuagelaw11.UserAll" = some 5 := by kernel_rfl
theorem userAll_f8 : Tryz.f5.isInstance Tryz.prog Rows.userAllRow.origin Rows.userAllRow.targs := of_decide_eq_true (by kernel_rfl)
theorem userAll_f9 : Tryz.f5.isWrapper Tryz.prog Rows.userAllRow.wrapper Rows.userAllRow.mainSum := by unfold Func.isWrapper; rw [if_neg (of_decide_eq_false (by kernel_rfl))]; exact ⟨rfl, rfl⟩
theorem userAll_row : Rows.UserAllSaid :=
  OpenClaim.holds_of_wide 5 Tryz.f5 rfl rfl rfl rfl rfl rfl rfl ⟨rfl, rfl, rfl, rfl, rfl⟩ rfl rfl rfl rfl rfl userAll_f7 Tryz.func5 userAll_f6 userAll_f8 userAll_f9
    (fun os started H enc _ => userAll_lifted os started H enc)
theorem userAll_card : Rows.UserAllCardSaid :=
  Claim7.holds_tied_plain_at .later [] [.handle] true _ true
    userAll_row (fun _ h => by cases h) (by kernel_rfl) (fun _ h => by cases h) userAll_row_tie rfl ⟨rfl, rfl⟩ (by kernel_rfl) rfl
    (fun f fn hf hfn => by
      obtain rfl : f = 5 := Option.some.inj ((show Tryz.prog.funcNamed "messuage/messuagelaw11.UserAll" = some 5 by kernel_rfl).symm.trans hf) |>.symm
      obtain rfl : fn = Tryz.f5 := (Option.some.inj (Tryz.func5.symm.trans hfn)).symm
      refine ⟨by kernel_rfl, fun j t ht => ?_⟩
      rw [Tryz.params5] at ht
      have h3 : t = 65 ∨ t = 66 ∨ t = 67 := by
        rcases j with _ | _ | _ | j
        · exact Or.inl (by simpa using ht.symm)
        · exact Or.inr (Or.inl (by simpa using ht.symm))
        · exact Or.inr (Or.inr (by simpa using ht.symm))
        · simp at ht
      rcases h3 with rfl | rfl | rfl
      · exact (show Tryz.prog.wantsStandIn 65 = false by kernel_rfl)
      · exact (show Tryz.prog.wantsStandIn 66 = false by kernel_rfl)
      · exact (show Tryz.prog.wantsStandIn 67 = false by kernel_rfl))
    (by kernel_rfl)
#print axioms userAll_card
end Go.Proofs.YtmifcfkchnilmaaGreatDoor

