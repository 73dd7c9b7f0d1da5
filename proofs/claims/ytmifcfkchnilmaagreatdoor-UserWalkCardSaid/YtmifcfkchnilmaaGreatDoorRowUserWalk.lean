/- What is proved here: the given card of the statement UserWalk: whatever its arguments, in whatever memory in which the library's variable errors.errorType reads as the program's text lays it, the statement returns true, its arguments read as before and nothing else has turned; that variable's content is tied to the program's text. Conditions: none beside the card's own. -/
import Derived.Test.YtmifcfkchnilmaaGreatDoorGRow
import Derived.Test.YtmifcfkchnilmaaGreatDoorGBegunB
import Derived.Test.YtmifcfkchnilmaaGreatDoorUserWalk
import Derived.Test.YtmifcfkchnilmaaGreatDoorListsU
namespace Go.Proofs.YtmifcfkchnilmaaGreatDoor
open Go.ChangeShapes Go.WideShapes Go.RowKit
set_option maxRecDepth 100000 in
theorem userWalk_lifted (os : Os) (started : os.Started) (H : Type) (enc : TypeId × Value → H) :
    ReturnsInHanded {} Tryz.checked os 6 .any (fun w args => (Rows.userWalkSpec.pre enc Tryz.prog Tryz.f6 [] false w args ∧ laidMetH Tryz.prog laid1 w) ∧ sizedMet enc Tryz.prog Tryz.f6 (OpenSpec.ofChange Rows.userWalkSpec) false w args)
      (Rows.userWalkSpec.post enc Tryz.prog Tryz.f6 false true false false) := by
  refine returnsInHanded_of_change_and (C := Tryz.checked) (X := fun w _ => laidMetH Tryz.prog laid1 w) (fun _ _ _ hh h => h.of_heap hh) Tryz.own started (by kernel_rfl) Tryz.func6
    (ChangeSpec.witness_at (enc := enc) (C := Tryz.checked) (os := os) (X := fun w _ => laidMetH Tryz.prog laid1 w) false (laidWorld os) #[.slice none 0 0, .slice none 0 0, .int .i64 0, .int .i64 0, .int .i64 0] 8 rfl (by kernel_rfl) (by kernel_rfl) (by kernel_rfl) (by kernel_rfl) (by kernel_rfl) (laidWorld_met os _)) ?_
  intro W base args ds gs before hval0 hW _ _ hL _
  have hval : ∀ (j : Nat) t v, Tryz.f6.params[j]? = some t → args[j]? = some v → Value.okWide Tryz.prog W .any base t v := hval0
  have hW' := hW
  have hlt := hW.lt
  obtain ⟨p, q, hA0, hV0, rfl, hfz, hnd⟩ := hW
  have hA : DataW.TrodAll enc Tryz.prog W 0 (fun _ => true) true Tryz.f6.params.toList args.toList ds p := hA0
  have hV : DataW.TrodVars enc Tryz.prog W (fun _ => true) [] gs q := hV0
  rw [Tryz.params6] at hA hval
  obtain ⟨v0, v1, v2, v3, v4, d0, d1, d2, d3, d4, p0, p1, p2, p3, p4, rfl, rfl, rfl, h0, h1, h2, h3, h4⟩ := trodAll_five hA
  obtain ⟨ao0, a0, len0, cap0, rfl, ha0⟩ := lns_open h0 (hval 0 65 v0 rfl rfl)
  obtain ⟨ao1, a1, len1, cap1, rfl, ha1⟩ := pts_open h1 (hval 1 66 v1 rfl rfl)
  obtain ⟨n2, rfl⟩ := okWide_int Tryz.underlying3 (hval 2 3 v2 rfl rfl)
  obtain ⟨n3, rfl⟩ := okWide_int Tryz.underlying3 (hval 3 3 v3 rfl rfl)
  obtain ⟨n4, rfl⟩ := okWide_int Tryz.underlying3 (hval 4 3 v4 rfl rfl)
  have hg := held_of_laid hL
  obtain ⟨rfl, rfl⟩ : gs = [] ∧ q = [] := by
    cases gs with
    | nil => exact ⟨rfl, hV⟩
    | cons g r => exact absurd hV (by intro h; cases h)
  have lt0 : ∀ x ∈ p0, x.block < W.heap.size := fun x hx => hlt x (by simp [hx])
  have lt1 : ∀ x ∈ p1, x.block < W.heap.size := fun x hx => hlt x (by simp [hx])
  have lt2 : ∀ x ∈ p2, x.block < W.heap.size := fun x hx => hlt x (by simp [hx])
  have lt3 : ∀ x ∈ p3, x.block < W.heap.size := fun x hx => hlt x (by simp [hx])
  have lt4 : ∀ x ∈ p4, x.block < W.heap.size := fun x hx => hlt x (by simp [hx])
  have e1 : Rows.userWalkSpec.fn H ([d0, d1, d2, d3, d4] ++ []) = { results := [.lit (.bool true)], args := [d0, d1, d2, d3, d4] } := by simp [Rows.userWalkSpec]
  refine (uwalk_any user_keeps ao0 a0 len0 cap0 ao1 a1 len1 cap1 n2 n3 n4 W ha0 ha1 (begun_at11 W hg)).mono fun e W' ⟨he, hw⟩ => ?_
  subst he
  refine ⟨_, rfl, _, _, _, [], p0 ++ (p1 ++ (p2 ++ (p3 ++ (p4)))), [], hW', ?_, ?_, ?_, hw.frame _, fun h => by cases h⟩
  · rw [e1]; exact trodAll_mk1 (shut_bool Tryz.underlying4 true)
  · rw [e1]; exact trodAll_mk5 (trod_lines h0 hw lt0) (trod_ptes h1 hw lt1) (trod_int h2 hw lt2) (trod_int h3 hw lt3) (trod_int h4 hw lt4)
  · rw [e1]; rfl
theorem userWalk_f1 : Rows.userWalkRow.wf (OpenSpec.ofChange Rows.userWalkSpec) = true := by kernel_rfl
theorem userWalk_f2 : (Rows.userWalkRow.inPlace == Tryz.prog.inPlace 6) = true := by kernel_rfl
theorem userWalk_f3 : (Rows.userWalkRow.unfollowed == Tryz.prog.unfollowed 6) = true := by kernel_rfl
theorem userWalk_f4 : (Rows.userWalkRow.recurses == Tryz.prog.recurses 6) = true := by kernel_rfl
theorem userWalk_f5 : (Rows.userWalkRow.named == Tryz.prog.varsNamed 6) = true := by kernel_rfl
theorem userWalk_f6 : joinedFacts Tryz.prog 6 Tryz.f6 Rows.userWalkSpec Rows.userWalkRow = true :=
  rf_all userWalk_f1 rfl rfl rfl rfl rfl rfl rfl rfl userWalk_f2 userWalk_f3 userWalk_f4 userWalk_f5 (by kernel_rfl)
theorem userWalk_f7 : Tryz.prog.funcNamed "messuage/messuagelaw11.UserWalk" = some 6 := by kernel_rfl
theorem userWalk_f8 : Tryz.f6.isInstance Tryz.prog Rows.userWalkRow.origin Rows.userWalkRow.targs := of_decide_eq_true (by kernel_rfl)
theorem userWalk_f9 : Tryz.f6.isWrapper Tryz.prog Rows.userWalkRow.wrapper Rows.userWalkRow.mainSum := by unfold Func.isWrapper; rw [if_neg (of_decide_eq_false (by kernel_rfl))]; exact ⟨rfl, rfl⟩
theorem userWalk_row : Rows.UserWalkSaid :=
  OpenClaim.holds_of_wide 6 Tryz.f6 rfl rfl rfl rfl rfl rfl rfl ⟨rfl, rfl, rfl, rfl, rfl⟩ rfl rfl rfl rfl rfl userWalk_f7 Tryz.func6 userWalk_f6 userWalk_f8 userWalk_f9
    (fun os started H enc _ => userWalk_lifted os started H enc)
theorem userWalk_card : Rows.UserWalkCardSaid :=
  Claim7.holds_tied_plain_at .later [] [.handle] true _ true
    userWalk_row (fun _ h => by cases h) (by kernel_rfl) (fun _ h => by cases h) userWalk_row_tie rfl ⟨rfl, rfl⟩ (by kernel_rfl) rfl
    (fun f fn hf hfn => by
      obtain rfl : f = 6 := Option.some.inj ((show Tryz.prog.funcNamed "messuage/messuagelaw11.UserWalk" = some 6 by kernel_rfl).symm.trans hf) |>.symm
      obtain rfl : fn = Tryz.f6 := (Option.some.inj (Tryz.func6.symm.trans hfn)).symm
      refine ⟨by kernel_rfl, fun j t ht => ?_⟩
      rw [Tryz.params6] at ht
      have h3 : t = 65 ∨ t = 66 ∨ t = 3 := by
        rcases j with _ | _ | _ | _ | _ | j
        · exact Or.inl (by simpa using ht.symm)
        · exact Or.inr (Or.inl (by simpa using ht.symm))
        · exact Or.inr (Or.inr (by simpa using ht.symm))
        · exact Or.inr (Or.inr (by simpa using ht.symm))
        · exact Or.inr (Or.inr (by simpa using ht.symm))
        · simp at ht
      rcases h3 with rfl | rfl | rfl
      · exact (show Tryz.prog.wantsStandIn 65 = false by kernel_rfl)
      · exact (show Tryz.prog.wantsStandIn 66 = false by kernel_rfl)
      · exact (show Tryz.prog.wantsStandIn 3 = false by kernel_rfl))
    (by kernel_rfl)
#print axioms userWalk_card
end Go.Proofs.YtmifcfkchnilmaaGreatDoor

