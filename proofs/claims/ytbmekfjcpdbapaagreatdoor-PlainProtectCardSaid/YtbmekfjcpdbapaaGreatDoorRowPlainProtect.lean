/- What is proved here: the given card of the statement PlainProtect: whatever its arguments, in whatever memory in which the library's variable errors.errorType reads as the program's text lays it, the statement returns true, its arguments read as before and nothing else has turned; that variable's content is tied to the program's text. Conditions: none beside the card's own. -/
import Derived.Test.YtbmekfjcpdbapaaGreatDoorGRow
import Derived.Test.YtbmekfjcpdbapaaGreatDoorGBegunB
import Derived.Test.YtbmekfjcpdbapaaGreatDoorPlainProtect
namespace Go.Proofs.YtbmekfjcpdbapaaGreatDoor
open Go.ChangeShapes Go.WideShapes Go.RowKit
set_option maxRecDepth 100000 in
theorem plainProtect_lifted (os : Os) (started : os.Started) (H : Type) (enc : TypeId × Value → H) :
    ReturnsInHanded {} Tryz.checked os 9 .any (fun w args => (Rows.plainProtectSpec.pre enc Tryz.prog Tryz.f9 [] false w args ∧ laidMetH Tryz.prog laid1 w) ∧ sizedMet enc Tryz.prog Tryz.f9 (OpenSpec.ofChange Rows.plainProtectSpec) false w args)
      (Rows.plainProtectSpec.post enc Tryz.prog Tryz.f9 false true false false) := by
  refine returnsInHanded_of_change_and (C := Tryz.checked) (X := fun w _ => laidMetH Tryz.prog laid1 w) (fun _ _ _ hh h => h.of_heap hh) Tryz.own started (by kernel_rfl) Tryz.func9
    (ChangeSpec.witness_at (enc := enc) (C := Tryz.checked) (os := os) (X := fun w _ => laidMetH Tryz.prog laid1 w) false (laidWorld os) #[.slice none 0 0, .int .i64 0] 8 rfl (by kernel_rfl) (by kernel_rfl) (by kernel_rfl) (by kernel_rfl) (by kernel_rfl) (laidWorld_met os _)) ?_
  intro W base args ds gs before hval0 hW _ _ hL _
  have hval : ∀ (j : Nat) t v, Tryz.f9.params[j]? = some t → args[j]? = some v → Value.okWide Tryz.prog W .any base t v := hval0
  have hW' := hW
  have hlt := hW.lt
  obtain ⟨p, q, hA0, hV0, rfl, hfz, hnd⟩ := hW
  have hA : DataW.TrodAll enc Tryz.prog W 0 (fun _ => true) true Tryz.f9.params.toList args.toList ds p := hA0
  have hV : DataW.TrodVars enc Tryz.prog W (fun _ => true) [] gs q := hV0
  rw [Tryz.params9] at hA hval
  obtain ⟨v0, v1, d0, d1, p0, p1, rfl, rfl, rfl, h0, h1⟩ := trodAll_two hA
  obtain ⟨ao0, a0, len0, cap0, z0, rfl, hao0, hz0⟩ := ints_any (ints_open h0 (hval 0 61 v0 rfl rfl))
  obtain ⟨n1, rfl⟩ := okWide_int Tryz.underlying3 (hval 1 3 v1 rfl rfl)
  have hg := held_of_laid hL
  obtain ⟨rfl, rfl⟩ : gs = [] ∧ q = [] := by
    cases gs with
    | nil => exact ⟨rfl, hV⟩
    | cons g r => exact absurd hV (by intro h; cases h)
  have lt0 : ∀ x ∈ p0, x.block < W.heap.size := fun x hx => hlt x (by simp [hx])
  have lt1 : ∀ x ∈ p1, x.block < W.heap.size := fun x hx => hlt x (by simp [hx])
  have e1 : Rows.plainProtectSpec.fn H ([d0, d1] ++ []) = { results := [.lit (.bool true)], args := [d0, d1] } := by simp [Rows.plainProtectSpec]
  refine (pprot_any plain_keeps ao0 a0 len0 cap0 hao0 z0 n1 W hz0 (begun_at11 W hg)).mono fun e W' ⟨he, hw⟩ => ?_
  subst he
  refine ⟨_, rfl, _, _, _, [], p0 ++ (p1), [], hW', ?_, ?_, ?_, hw.frame _, fun h => by cases h⟩
  · rw [e1]; exact trodAll_mk1 (shut_bool Tryz.underlying4 true)
  · rw [e1]; exact trodAll_mk2 (trod_ints h0 hw lt0) (trod_int h1 hw lt1)
  · rw [e1]; rfl
theorem plainProtect_f1 : Rows.plainProtectRow.wf (OpenSpec.ofChange Rows.plainProtectSpec) = true := by kernel_rfl
theorem plainProtect_f2 : (Rows.plainProtectRow.inPlace == Tryz.prog.inPlace 9) = true := by kernel_rfl
theorem plainProtect_f3 : (Rows.plainProtectRow.unfollowed == Tryz.prog.unfollowed 9) = true := by kernel_rfl
theorem plainProtect_f4 : (Rows.plainProtectRow.recurses == Tryz.prog.recurses 9) = true := by kernel_rfl
theorem plainProtect_f5 : (Rows.plainProtectRow.named == Tryz.prog.varsNamed 9) = true := by kernel_rfl
theorem plainProtect_f6 : joinedFacts Tryz.prog 9 Tryz.f9 Rows.plainProtectSpec Rows.plainProtectRow = true :=
  rf_all plainProtect_f1 rfl rfl rfl rfl rfl rfl rfl rfl plainProtect_f2 plainProtect_f3 plainProtect_f4 plainProtect_f5 (by kernel_rfl)
theorem plainProtect_f7 : Tryz.prog.funcNamed "messuage/messuagelaw11.PlainProtect" = some 9 := by kernel_rfl
theorem plainProtect_f8 : Tryz.f9.isInstance Tryz.prog Rows.plainProtectRow.origin Rows.plainProtectRow.targs := of_decide_eq_true (by kernel_rfl)
theorem plainProtect_f9 : Tryz.f9.isWrapper Tryz.prog Rows.plainProtectRow.wrapper Rows.plainProtectRow.mainSum := by unfold Func.isWrapper; rw [if_neg (of_decide_eq_false (by kernel_rfl))]; exact ⟨rfl, rfl⟩
theorem plainProtect_row : Rows.PlainProtectSaid :=
  OpenClaim.holds_of_wide 9 Tryz.f9 rfl rfl rfl rfl rfl rfl rfl ⟨rfl, rfl, rfl, rfl, rfl⟩ rfl rfl rfl rfl rfl plainProtect_f7 Tryz.func9 plainProtect_f6 plainProtect_f8 plainProtect_f9
    (fun os started H enc _ => plainProtect_lifted os started H enc)
theorem plainProtect_c1 : Rows.plainProtectRow.wfByText (OpenSpec.ofChange Rows.plainProtectSpec) = true := by kernel_rfl
theorem plainProtect_c2 : Tryz.prog.mainIs = some (Rows.plainProtectCard.stood.harness.1, Rows.plainProtectCard.stood.harness.2.toList) := by kernel_rfl
theorem plainProtect_c3 : true = Tryz.prog.looks [] := by kernel_rfl
theorem plainProtect_c4 : false = Rows.plainProtectRow.goesBy Tryz.prog := by kernel_rfl
theorem plainProtect_s0 : Tryz.prog.wantsStandIn 61 = false := by kernel_rfl
theorem plainProtect_s1 : Tryz.prog.wantsStandIn 3 = false := by kernel_rfl
theorem plainProtect_c5 : ∀ f fn, Tryz.prog.funcNamed "messuage/messuagelaw11.PlainProtect" = some f → Tryz.prog.funcs[f]? = some fn → true = Tryz.prog.looks [] ∧ ∀ (j : Nat) t, fn.params[j]? = some t → Tryz.prog.wantsStandIn t = false := by
  intro f fn hf hfn
  obtain rfl : f = 9 := Option.some.inj (plainProtect_f7.symm.trans hf) |>.symm
  obtain rfl : fn = Tryz.f9 := (Option.some.inj (Tryz.func9.symm.trans hfn)).symm
  refine ⟨plainProtect_c3, fun j t ht => ?_⟩
  rw [Tryz.params9] at ht
  have h3 : t = 61 ∨ t = 3 := by
    rcases j with _ | _ | j
    · exact Or.inl (by simpa using ht.symm)
    · exact Or.inr (by simpa using ht.symm)
    · simp at ht
  rcases h3 with rfl | rfl
  · exact plainProtect_s0
  · exact plainProtect_s1
theorem plainProtect_card : Rows.PlainProtectCardSaid :=
  Claim7.holds_tied_plain_at .later [] [.handle] true _ true
    plainProtect_row (fun _ h => by cases h) plainProtect_c1 (fun _ h => by cases h) plainProtect_row_tie rfl ⟨rfl, rfl⟩ plainProtect_c2 rfl plainProtect_c5 plainProtect_c4
#print axioms plainProtect_card
end Go.Proofs.YtbmekfjcpdbapaaGreatDoor

