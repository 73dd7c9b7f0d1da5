/- What is proved here: the given card of the statement PlainAll: whatever its arguments, in whatever memory in which the library's variable errors.errorType reads as the program's text lays it, the statement returns true, its arguments read as before and nothing else has turned; that variable's content is tied to the program's text. Conditions: none beside the card's own. -/
import Derived.Test.YtdfhfmdelinemaaGreatDoorGRow
import Derived.Test.YtdfhfmdelinemaaGreatDoorGBegunB
import Derived.Test.YtdfhfmdelinemaaGreatDoorPlainAll
import Derived.Test.YtdfhfmdelinemaaGreatDoorListsS
namespace Go.Proofs.YtdfhfmdelinemaaGreatDoor
open Go.ChangeShapes Go.WideShapes Go.RowKit
set_option maxRecDepth 100000 in
theorem plainAll_lifted (os : Os) (started : os.Started) (H : Type) (enc : TypeId × Value → H) :
  ReturnsInHanded {} Tryz.checked os 3 .any (fun w args => (Rows.plainAllSpec.pre enc Tryz.prog Tryz.f3 [] false w args ∧ laidMetH Tryz.prog laid1 w) ∧ sizedMet enc Tryz.prog Tryz.f3 (OpenSpec.ofChange Rows.plainAllSpec) false w args)
   (Rows.plainAllSpec.post enc Tryz.prog Tryz.f3 false true false false) := by
 refine returnsInHanded_of_change_and (C := Tryz.checked) (X := fun w _ => laidMetH Tryz.prog laid1 w) (fun _ _ _ hh h => h.of_heap hh) Tryz.own started (by kernel_rfl) Tryz.func3
  (ChangeSpec.witness_at (enc := enc) (C := Tryz.checked) (os := os) (X := fun w _ => laidMetH Tryz.prog laid1 w) false (laidWorld os) #[.agg #[.int .i64 0, .int .i64 0, .int .i64 0], .slice none 0 0] 8 rfl (by kernel_rfl) (by kernel_rfl) (by kernel_rfl) (by kernel_rfl) (by kernel_rfl) (laidWorld_met os _)) ?_
 intro W base args ds gs before hval0 hW _ _ hL _
 have hval : ∀ (j : Nat) t v, Tryz.f3.params[j]? = some t → args[j]? = some v → Value.okWide Tryz.prog W .any base t v := hval0
 have hW' := hW
 have hlt := hW.lt
 obtain ⟨p, q, hA0, hV0, rfl, hfz, hnd⟩ := hW
 have hA : DataW.TrodAll enc Tryz.prog W 0 (fun _ => true) true Tryz.f3.params.toList args.toList ds p := hA0
 have hV : DataW.TrodVars enc Tryz.prog W (fun _ => true) [] gs q := hV0
 rw [Tryz.params3] at hA hval
 obtain ⟨v0, v1, d0, d1, p0, p1, rfl, rfl, rfl, h0, h1⟩ := trodAll_two hA
 obtain ⟨f0, s0, r0, rfl⟩ := size_shape (hval 0 23 v0 rfl rfl) h0
 obtain ⟨ao1, a1, len1, cap1, rfl, ha1⟩ := asks_open h1 (hval 1 24 v1 rfl rfl)
 have hg := held_of_laid hL
 obtain ⟨rfl, rfl⟩ : gs = [] ∧ q = [] := by
  cases gs with
  | nil => exact ⟨rfl, hV⟩
  | cons g r => exact absurd hV (by intro h; cases h)
 have lt0 : ∀ x ∈ p0, x.block < W.heap.size := fun x hx => hlt x (by simp [hx])
 have lt1 : ∀ x ∈ p1, x.block < W.heap.size := fun x hx => hlt x (by simp [hx])
 have e1 : Rows.plainAllSpec.fn H ([d0, d1] ++ []) = { results := [.lit (.bool true)], args := [d0, d1] } := by simp [Rows.plainAllSpec]
 refine (pall_any plain_keeps f0 s0 r0 ao1 a1 len1 cap1 W ha1 hg (begun_all11 W hg)).mono fun e W' ⟨he, hw⟩ => ?_
 subst he
 refine ⟨_, rfl, _, _, _, [], p0 ++ (p1), [], hW', ?_, ?_, ?_, hw.frame _, fun h => by cases h⟩
 ·rw [e1]; exact trodAll_mk1 (shut_bool Tryz.underlying4 true)
 ·rw [e1]; exact trodAll_mk2 (trod_size h0 hw lt0) (trod_asks h1 hw lt1)
 ·rw [e1]; rfl
theorem plainAll_f1 : Rows.plainAllRow.wf (OpenSpec.ofChange Rows.plainAllSpec) = true := by kernel_rfl
theorem plainAll_f2 : (Rows.plainAllRow.inPlace == Tryz.prog.inPlace 3) = true := by kernel_rfl
theorem plainAll_f3 : (Rows.plainAllRow.unfollowed == Tryz.prog.unfollowed 3) = true := by kernel_rfl
theorem plainAll_f4 : (Rows.plainAllRow.recurses == Tryz.prog.recurses 3) = true := by kernel_rfl
theorem plainAll_f5 : (Rows.plainAllRow.named == Tryz.prog.varsNamed 3) = true := by kernel_rfl
theorem plainAll_f6 : joinedFacts Tryz.prog 3 Tryz.f3 Rows.plainAllSpec Rows.plainAllRow = true :=
 rf_all plainAll_f1 rfl rfl rfl rfl rfl rfl rfl rfl plainAll_f2 plainAll_f3 plainAll_f4 plainAll_f5 (by kernel_rfl)
theorem plainAll_f7 : Tryz.prog.funcNamed "messuage/messuagelaw11.PlainAll" = some 3 := by kernel_rfl
theorem plainAll_f8 : Tryz.f3.isInstance Tryz.prog Rows.plainAllRow.origin Rows.plainAllRow.targs := of_decide_eq_true (by kernel_rfl)
theorem plainAll_f9 : Tryz.f3.isWrapper Tryz.prog Rows.plainAllRow.wrapper Rows.plainAllRow.mainSum := by unfold Func.isWrapper; rw [if_neg (of_decide_eq_false (by kernel_rfl))]; exact ⟨rfl, rfl⟩
theorem plainAll_row : Rows.PlainAllSaid :=
 OpenClaim.holds_of_wide 3 Tryz.f3 rfl rfl rfl rfl rfl rfl rfl ⟨rfl, rfl, rfl, rfl, rfl⟩ rfl rfl rfl rfl rfl plainAll_f7 Tryz.func3 plainAll_f6 plainAll_f8 plainAll_f9
  (fun os started H enc _ => plainAll_lifted os started H enc)
theorem plainAll_c1 : Rows.plainAllRow.wfByText (OpenSpec.ofChange Rows.plainAllSpec) = true := by kernel_rfl
theorem plainAll_c2 : Tryz.prog.mainIs = some (Rows.plainAllCard.stood.harness.1, Rows.plainAllCard.stood.harness.2.toList) := by kernel_rfl
theorem plainAll_c3 : true = Tryz.prog.looks [] := by kernel_rfl
theorem plainAll_c4 : false = Rows.plainAllRow.goesBy Tryz.prog := by kernel_rfl
theorem plainAll_s0 : Tryz.prog.wantsStandIn 23 = false := by kernel_rfl
theorem plainAll_s1 : Tryz.prog.wantsStandIn 24 = false := by kernel_rfl
theorem plainAll_c5 : ∀ f fn, Tryz.prog.funcNamed "messuage/messuagelaw11.PlainAll" = some f → Tryz.prog.funcs[f]? = some fn → true = Tryz.prog.looks [] ∧ ∀ (j : Nat) t, fn.params[j]? = some t → Tryz.prog.wantsStandIn t = false := by
 intro f fn hf hfn
 obtain rfl : f = 3 := Option.some.inj (plainAll_f7.symm.trans hf) |>.symm
 obtain rfl : fn = Tryz.f3 := (Option.some.inj (Tryz.func3.symm.trans hfn)).symm
 refine ⟨plainAll_c3, fun j t ht => ?_⟩
 rw [Tryz.params3] at ht
 have h3 : t = 23 ∨ t = 24 := by
  rcases j with _ | _ | j
  ·exact Or.inl (by simpa using ht.symm)
  ·exact Or.inr (by simpa using ht.symm)
  ·simp at ht
 rcases h3 with rfl | rfl
 ·exact plainAll_s0
 ·exact plainAll_s1
theorem plainAll_card : Rows.PlainAllCardSaid :=
 Claim7.holds_tied_plain_at .later [] [.handle] true _ true
  plainAll_row (fun _ h => by cases h) plainAll_c1 (fun _ h => by cases h) plainAll_row_tie rfl ⟨rfl, rfl⟩ plainAll_c2 rfl plainAll_c5 plainAll_c4
#print axioms plainAll_card
end Go.Proofs.YtdfhfmdelinemaaGreatDoor

