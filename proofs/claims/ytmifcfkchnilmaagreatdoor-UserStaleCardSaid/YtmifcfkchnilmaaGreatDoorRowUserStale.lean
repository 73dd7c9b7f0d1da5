/- What is proved here: the given card of the statement UserStale: whatever its arguments, in whatever memory in which the library's variable errors.errorType reads as the program's text lays it, the statement returns true, its arguments read as before and nothing else has turned; that variable's content is tied to the program's text. Conditions: none beside the card's own. -/
import Derived.Test.YtmifcfkchnilmaaGreatDoorGRow
import Derived.Test.YtmifcfkchnilmaaGreatDoorGBegunB
import Derived.Test.YtmifcfkchnilmaaGreatDoorUserStale
namespace Go.Proofs.YtmifcfkchnilmaaGreatDoor
open Go.ChangeShapes Go.WideShapes Go.RowKit
set_option maxRecDepth 100000 in
theorem userStale_lifted (os : Os) (started : os.Started) (H : Type) (enc : TypeId × Value → H) :
    ReturnsInHanded {} Tryz.checked os 12 .any (fun w args => (Rows.userStaleSpec.pre enc Tryz.prog Tryz.f12 [] false w args ∧ laidMetH Tryz.prog laid1 w) ∧ sizedMet enc Tryz.prog Tryz.f12 (OpenSpec.ofChange Rows.userStaleSpec) false w args)
      (Rows.userStaleSpec.post enc Tryz.prog Tryz.f12 false true false false) := by
  refine returnsInHanded_of_change_and (C := Tryz.checked) (X := fun w _ => laidMetH Tryz.prog laid1 w) (fun _ _ _ hh h => h.of_heap hh) Tryz.own started (by kernel_rfl) Tryz.func12
    (ChangeSpec.witness_at (enc := enc) (C := Tryz.checked) (os := os) (X := fun w _ => laidMetH Tryz.prog laid1 w) false (laidWorld os) #[.int .i64 0, .int .i64 0, .int .i64 0, .int .u64 0] 8 rfl (by kernel_rfl) (by kernel_rfl) (by kernel_rfl) (by kernel_rfl) (by kernel_rfl) (laidWorld_met os _)) ?_
  intro W base args ds gs before hval0 hW _ _ hL _
  have hval : ∀ (j : Nat) t v, Tryz.f12.params[j]? = some t → args[j]? = some v → Value.okWide Tryz.prog W .any base t v := hval0
  have hW' := hW
  have hlt := hW.lt
  obtain ⟨p, q, hA0, hV0, rfl, hfz, hnd⟩ := hW
  have hA : DataW.TrodAll enc Tryz.prog W 0 (fun _ => true) true Tryz.f12.params.toList args.toList ds p := hA0
  have hV : DataW.TrodVars enc Tryz.prog W (fun _ => true) [] gs q := hV0
  rw [Tryz.params12] at hA hval
  obtain ⟨v0, v1, v2, v3, d0, d1, d2, d3, p0, p1, p2, p3, rfl, rfl, rfl, h0, h1, h2, h3⟩ := trodAll_four hA
  obtain ⟨n0, rfl⟩ := okWide_int Tryz.underlying3 (hval 0 3 v0 rfl rfl)
  obtain ⟨n1, rfl⟩ := okWide_int Tryz.underlying3 (hval 1 3 v1 rfl rfl)
  obtain ⟨n2, rfl⟩ := okWide_int Tryz.underlying3 (hval 2 3 v2 rfl rfl)
  obtain ⟨n3, rfl⟩ := okWide_int Tryz.underlying42 (hval 3 42 v3 rfl rfl)
  have hg := held_of_laid hL
  obtain ⟨rfl, rfl⟩ : gs = [] ∧ q = [] := by
    cases gs with
    | nil => exact ⟨rfl, hV⟩
    | cons g r => exact absurd hV (by intro h; cases h)
  have lt0 : ∀ x ∈ p0, x.block < W.heap.size := fun x hx => hlt x (by simp [hx])
  have lt1 : ∀ x ∈ p1, x.block < W.heap.size := fun x hx => hlt x (by simp [hx])
  have lt2 : ∀ x ∈ p2, x.block < W.heap.size := fun x hx => hlt x (by simp [hx])
  have lt3 : ∀ x ∈ p3, x.block < W.heap.size := fun x hx => hlt x (by simp [hx])
  have e1 : Rows.userStaleSpec.fn H ([d0, d1, d2, d3] ++ []) = { results := [.lit (.bool true)], args := [d0, d1, d2, d3] } := by simp [Rows.userStaleSpec]
  refine (ustale_any user_keeps n0 n1 n2 n3 (word_in h3) W (begun_at11 W hg)).mono fun e W' ⟨he, hw⟩ => ?_
  subst he
  refine ⟨_, rfl, _, _, _, [], p0 ++ (p1 ++ (p2 ++ (p3))), [], hW', ?_, ?_, ?_, hw.frame _, fun h => by cases h⟩
  · rw [e1]; exact trodAll_mk1 (shut_bool Tryz.underlying4 true)
  · rw [e1]; exact trodAll_mk4 (trod_int h0 hw lt0) (trod_int h1 hw lt1) (trod_int h2 hw lt2) (trod_word h3 hw lt3)
  · rw [e1]; rfl
theorem userStale_f1 : Rows.userStaleRow.wf (OpenSpec.ofChange Rows.userStaleSpec) = true := by kernel_rfl
theorem userStale_f2 : (Rows.userStaleRow.inPlace == Tryz.prog.inPlace 12) = true := by kernel_rfl
theorem userStale_f3 : (Rows.userStaleRow.unfollowed == Tryz.prog.unfollowed 12) = true := by kernel_rfl
theorem userStale_f4 : (Rows.userStaleRow.recurses == Tryz.prog.recurses 12) = true := by kernel_rfl
theorem userStale_f5 : (Rows.userStaleRow.named == Tryz.prog.varsNamed 12) = true := by kernel_rfl
theorem userStale_f6 : joinedFacts Tryz.prog 12 Tryz.f12 Rows.userStaleSpec Rows.userStaleRow = true :=
  rf_all userStale_f1 rfl rfl rfl rfl rfl rfl rfl rfl userStale_f2 userStale_f3 userStale_f4 userStale_f5 (by kernel_rfl)
theorem userStale_f7 : Tryz.prog.funcNamed "messuage/messuagelaw11.UserStale" = some 12 := by kernel_rfl
theorem userStale_f8 : Tryz.f12.isInstance Tryz.prog Rows.userStaleRow.origin Rows.userStaleRow.targs := of_decide_eq_true (by kernel_rfl)
theorem userStale_f9 : Tryz.f12.isWrapper Tryz.prog Rows.userStaleRow.wrapper Rows.userStaleRow.mainSum := by unfold Func.isWrapper; rw [if_neg (of_decide_eq_false (by kernel_rfl))]; exact ⟨rfl, rfl⟩
theorem userStale_row : Rows.UserStaleSaid :=
  OpenClaim.holds_of_wide 12 Tryz.f12 rfl rfl rfl rfl rfl rfl rfl ⟨rfl, rfl, rfl, rfl, rfl⟩ rfl rfl rfl rfl rfl userStale_f7 Tryz.func12 userStale_f6 userStale_f8 userStale_f9
    (fun os started H enc _ => userStale_lifted os started H enc)
theorem userStale_card : Rows.UserStaleCardSaid :=
  Claim7.holds_tied_plain_at .later [] [.handle] true _ true
    userStale_row (fun _ h => by cases h) (by kernel_rfl) (fun _ h => by cases h) userStale_row_tie rfl ⟨rfl, rfl⟩ (by kernel_rfl) rfl
    (fun f fn hf hfn => by
      obtain rfl : f = 12 := Option.some.inj ((show Tryz.prog.funcNamed "messuage/messuagelaw11.UserStale" = some 12 by kernel_rfl).symm.trans hf) |>.symm
      obtain rfl : fn = Tryz.f12 := (Option.some.inj (Tryz.func12.symm.trans hfn)).symm
      refine ⟨by kernel_rfl, fun j t ht => ?_⟩
      rw [Tryz.params12] at ht
      have h3 : t = 3 ∨ t = 42 := by
        rcases j with _ | _ | _ | _ | j
        · exact Or.inl (by simpa using ht.symm)
        · exact Or.inl (by simpa using ht.symm)
        · exact Or.inl (by simpa using ht.symm)
        · exact Or.inr (by simpa using ht.symm)
        · simp at ht
      rcases h3 with rfl | rfl
      · exact (show Tryz.prog.wantsStandIn 3 = false by kernel_rfl)
      · exact (show Tryz.prog.wantsStandIn 42 = false by kernel_rfl))
    (by kernel_rfl)
#print axioms userStale_card
end Go.Proofs.YtmifcfkchnilmaaGreatDoor

