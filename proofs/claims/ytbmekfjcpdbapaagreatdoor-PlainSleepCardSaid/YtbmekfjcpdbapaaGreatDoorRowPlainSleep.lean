/- What is proved here: the given card of the statement PlainSleep: whatever its arguments, in whatever memory in which the library's variable errors.errorType reads as the program's text lays it, the statement returns true, its arguments read as before and nothing else has turned; that variable's content is tied to the program's text. Conditions: none beside the card's own. -/
import Derived.Test.YtbmekfjcpdbapaaGreatDoorGRow
import Derived.Test.YtbmekfjcpdbapaaGreatDoorGBegunB
import Derived.Test.YtbmekfjcpdbapaaGreatDoorPlainSleep
namespace Go.Proofs.YtbmekfjcpdbapaaGreatDoor
open Go.ChangeShapes Go.WideShapes Go.RowKit
set_option maxRecDepth 100000 in
theorem plainSleep_lifted (os : Os) (started : os.Started) (H : Type) (enc : TypeId × Value → H) :
    ReturnsInHanded {} Tryz.checked os 11 .any (fun w args => (Rows.plainSleepSpec.pre enc Tryz.prog Tryz.f11 [] false w args ∧ laidMetH Tryz.prog laid1 w) ∧ sizedMet enc Tryz.prog Tryz.f11 (OpenSpec.ofChange Rows.plainSleepSpec) false w args)
      (Rows.plainSleepSpec.post enc Tryz.prog Tryz.f11 false true false false) := by
  refine returnsInHanded_of_change_and (C := Tryz.checked) (X := fun w _ => laidMetH Tryz.prog laid1 w) (fun _ _ _ hh h => h.of_heap hh) Tryz.own started (by kernel_rfl) Tryz.func11
    (ChangeSpec.witness_at (enc := enc) (C := Tryz.checked) (os := os) (X := fun w _ => laidMetH Tryz.prog laid1 w) false (laidWorld os) #[.int .i64 0, .int .u64 0, .int .u64 0, .int .i64 0] 8 rfl (by kernel_rfl) (by kernel_rfl) (by kernel_rfl) (by kernel_rfl) (by kernel_rfl) (laidWorld_met os _)) ?_
  intro W base args ds gs before hval0 hW _ _ hL _
  have hval : ∀ (j : Nat) t v, Tryz.f11.params[j]? = some t → args[j]? = some v → Value.okWide Tryz.prog W .any base t v := hval0
  have hW' := hW
  have hlt := hW.lt
  obtain ⟨p, q, hA0, hV0, rfl, hfz, hnd⟩ := hW
  have hA : DataW.TrodAll enc Tryz.prog W 0 (fun _ => true) true Tryz.f11.params.toList args.toList ds p := hA0
  have hV : DataW.TrodVars enc Tryz.prog W (fun _ => true) [] gs q := hV0
  rw [Tryz.params11] at hA hval
  obtain ⟨v0, v1, v2, v3, d0, d1, d2, d3, p0, p1, p2, p3, rfl, rfl, rfl, h0, h1, h2, h3⟩ := trodAll_four hA
  obtain ⟨n0, rfl⟩ := okWide_int Tryz.underlying3 (hval 0 3 v0 rfl rfl)
  obtain ⟨n1, rfl⟩ := okWide_int Tryz.underlying34 (hval 1 34 v1 rfl rfl)
  obtain ⟨n2, rfl⟩ := okWide_int Tryz.underlying34 (hval 2 34 v2 rfl rfl)
  obtain ⟨n3, rfl⟩ := okWide_int Tryz.underlying3 (hval 3 3 v3 rfl rfl)
  have hg := held_of_laid hL
  obtain ⟨rfl, rfl⟩ : gs = [] ∧ q = [] := by
    cases gs with
    | nil => exact ⟨rfl, hV⟩
    | cons g r => exact absurd hV (by intro h; cases h)
  have lt0 : ∀ x ∈ p0, x.block < W.heap.size := fun x hx => hlt x (by simp [hx])
  have lt1 : ∀ x ∈ p1, x.block < W.heap.size := fun x hx => hlt x (by simp [hx])
  have lt2 : ∀ x ∈ p2, x.block < W.heap.size := fun x hx => hlt x (by simp [hx])
  have lt3 : ∀ x ∈ p3, x.block < W.heap.size := fun x hx => hlt x (by simp [hx])
  have e1 : Rows.plainSleepSpec.fn H ([d0, d1, d2, d3] ++ []) = { results := [.lit (.bool true)], args := [d0, d1, d2, d3] } := by simp [Rows.plainSleepSpec]
  refine (psleep_any plain_keeps n0 n1 n2 n3 (word_in h1) (word_in h2) W hg (begun_at11 W hg)).mono fun e W' ⟨he, hw⟩ => ?_
  subst he
  refine ⟨_, rfl, _, _, _, [], p0 ++ (p1 ++ (p2 ++ (p3))), [], hW', ?_, ?_, ?_, hw.frame _, fun h => by cases h⟩
  · rw [e1]; exact trodAll_mk1 (shut_bool Tryz.underlying4 true)
  · rw [e1]; exact trodAll_mk4 (trod_int h0 hw lt0) (trod_word h1 hw lt1) (trod_word h2 hw lt2) (trod_int h3 hw lt3)
  · rw [e1]; rfl
theorem plainSleep_f1 : Rows.plainSleepRow.wf (OpenSpec.ofChange Rows.plainSleepSpec) = true := by kernel_rfl
theorem plainSleep_f2 : (Rows.plainSleepRow.inPlace == Tryz.prog.inPlace 11) = true := by kernel_rfl
theorem plainSleep_f3 : (Rows.plainSleepRow.unfollowed == Tryz.prog.unfollowed 11) = true := by kernel_rfl
theorem plainSleep_f4 : (Rows.plainSleepRow.recurses == Tryz.prog.recurses 11) = true := by kernel_rfl
theorem plainSleep_f5 : (Rows.plainSleepRow.named == Tryz.prog.varsNamed 11) = true := by kernel_rfl
theorem plainSleep_f6 : joinedFacts Tryz.prog 11 Tryz.f11 Rows.plainSleepSpec Rows.plainSleepRow = true :=
  rf_all plainSleep_f1 rfl rfl rfl rfl rfl rfl rfl rfl plainSleep_f2 plainSleep_f3 plainSleep_f4 plainSleep_f5 (by kernel_rfl)
theorem plainSleep_f7 : Tryz.prog.funcNamed "messuage/messuagelaw11.PlainSleep" = some 11 := by kernel_rfl
theorem plainSleep_f8 : Tryz.f11.isInstance Tryz.prog Rows.plainSleepRow.origin Rows.plainSleepRow.targs := of_decide_eq_true (by kernel_rfl)
theorem plainSleep_f9 : Tryz.f11.isWrapper Tryz.prog Rows.plainSleepRow.wrapper Rows.plainSleepRow.mainSum := by unfold Func.isWrapper; rw [if_neg (of_decide_eq_false (by kernel_rfl))]; exact ⟨rfl, rfl⟩
theorem plainSleep_row : Rows.PlainSleepSaid :=
  OpenClaim.holds_of_wide 11 Tryz.f11 rfl rfl rfl rfl rfl rfl rfl ⟨rfl, rfl, rfl, rfl, rfl⟩ rfl rfl rfl rfl rfl plainSleep_f7 Tryz.func11 plainSleep_f6 plainSleep_f8 plainSleep_f9
    (fun os started H enc _ => plainSleep_lifted os started H enc)
theorem plainSleep_c1 : Rows.plainSleepRow.wfByText (OpenSpec.ofChange Rows.plainSleepSpec) = true := by kernel_rfl
theorem plainSleep_c2 : Tryz.prog.mainIs = some (Rows.plainSleepCard.stood.harness.1, Rows.plainSleepCard.stood.harness.2.toList) := by kernel_rfl
theorem plainSleep_c3 : true = Tryz.prog.looks [] := by kernel_rfl
theorem plainSleep_c4 : false = Rows.plainSleepRow.goesBy Tryz.prog := by kernel_rfl
theorem plainSleep_s0 : Tryz.prog.wantsStandIn 3 = false := by kernel_rfl
theorem plainSleep_s1 : Tryz.prog.wantsStandIn 34 = false := by kernel_rfl
theorem plainSleep_c5 : ∀ f fn, Tryz.prog.funcNamed "messuage/messuagelaw11.PlainSleep" = some f → Tryz.prog.funcs[f]? = some fn → true = Tryz.prog.looks [] ∧ ∀ (j : Nat) t, fn.params[j]? = some t → Tryz.prog.wantsStandIn t = false := by
  intro f fn hf hfn
  obtain rfl : f = 11 := Option.some.inj (plainSleep_f7.symm.trans hf) |>.symm
  obtain rfl : fn = Tryz.f11 := (Option.some.inj (Tryz.func11.symm.trans hfn)).symm
  refine ⟨plainSleep_c3, fun j t ht => ?_⟩
  rw [Tryz.params11] at ht
  have h3 : t = 3 ∨ t = 34 := by
    rcases j with _ | _ | _ | _ | j
    · exact Or.inl (by simpa using ht.symm)
    · exact Or.inr (by simpa using ht.symm)
    · exact Or.inr (by simpa using ht.symm)
    · exact Or.inl (by simpa using ht.symm)
    · simp at ht
  rcases h3 with rfl | rfl
  · exact plainSleep_s0
  · exact plainSleep_s1
theorem plainSleep_card : Rows.PlainSleepCardSaid :=
  Claim7.holds_tied_plain_at .later [] [.handle] true _ true
    plainSleep_row (fun _ h => by cases h) plainSleep_c1 (fun _ h => by cases h) plainSleep_row_tie rfl ⟨rfl, rfl⟩ plainSleep_c2 rfl plainSleep_c5 plainSleep_c4
#print axioms plainSleep_card
end Go.Proofs.YtbmekfjcpdbapaaGreatDoor

