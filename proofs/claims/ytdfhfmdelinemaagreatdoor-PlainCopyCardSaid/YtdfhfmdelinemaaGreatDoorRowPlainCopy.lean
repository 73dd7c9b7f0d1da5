/- What is proved here: the given card of the statement PlainCopy: whatever its arguments, in whatever memory in which the library's variable errors.errorType reads as the program's text lays it, the statement returns true, its arguments read as before and nothing else has turned; that variable's content is tied to the program's text. Conditions: none beside the card's own. -/
import Derived.Test.YtdfhfmdelinemaaGreatDoorGRow
import Derived.Test.YtdfhfmdelinemaaGreatDoorGBegunB
import Derived.Test.YtdfhfmdelinemaaGreatDoorPlainCopy
import Derived.Test.YtdfhfmdelinemaaGreatDoorListsS
namespace Go.Proofs.YtdfhfmdelinemaaGreatDoor
open Go.ChangeShapes Go.WideShapes Go.RowKit
set_option maxRecDepth 100000 in
theorem plainCopy_lifted (os : Os) (started : os.Started) (H : Type) (enc : TypeId × Value → H) :
  ReturnsInHanded {} Tryz.checked os 5 .any (fun w args => (Rows.plainCopySpec.pre enc Tryz.prog Tryz.f5 [] false w args ∧ laidMetH Tryz.prog laid1 w) ∧ sizedMet enc Tryz.prog Tryz.f5 (OpenSpec.ofChange Rows.plainCopySpec) false w args)
   (Rows.plainCopySpec.post enc Tryz.prog Tryz.f5 false true false false) := by
 refine returnsInHanded_of_change_and (C := Tryz.checked) (X := fun w _ => laidMetH Tryz.prog laid1 w) (fun _ _ _ hh h => h.of_heap hh) Tryz.own started (by kernel_rfl) Tryz.func5
  (ChangeSpec.witness_at (enc := enc) (C := Tryz.checked) (os := os) (X := fun w _ => laidMetH Tryz.prog laid1 w) false (laidWorld os) #[.agg #[.int .i64 0, .int .i64 0, .int .i64 0], .slice none 0 0, .slice none 0 0] 8 rfl (by kernel_rfl) (by kernel_rfl) (by kernel_rfl) (by kernel_rfl) (by kernel_rfl) (laidWorld_met os _)) ?_
 intro W base args ds gs before hval0 hW _ _ hL _
 have hval : ∀ (j : Nat) t v, Tryz.f5.params[j]? = some t → args[j]? = some v → Value.okWide Tryz.prog W .any base t v := hval0
 have hW' := hW
 have hlt := hW.lt
 obtain ⟨p, q, hA0, hV0, rfl, hfz, hnd⟩ := hW
 have hA : DataW.TrodAll enc Tryz.prog W 0 (fun _ => true) true Tryz.f5.params.toList args.toList ds p := hA0
 have hV : DataW.TrodVars enc Tryz.prog W (fun _ => true) [] gs q := hV0
 rw [Tryz.params5] at hA hval
 obtain ⟨v0, v1, v2, d0, d1, d2, p0, p1, p2, rfl, rfl, rfl, h0, h1, h2⟩ := trodAll_three hA
 obtain ⟨f0, s0, r0, rfl⟩ := size_shape (hval 0 23 v0 rfl rfl) h0
 obtain ⟨ao1, a1, len1, cap1, rfl, ha1⟩ := asks_open h1 (hval 1 24 v1 rfl rfl)
 obtain ⟨ao2, a2, len2, cap2, rfl, ha2⟩ := asks_open h2 (hval 2 24 v2 rfl rfl)
 have hg := held_of_laid hL
 obtain ⟨rfl, rfl⟩ : gs = [] ∧ q = [] := by
  cases gs with
  | nil => exact ⟨rfl, hV⟩
  | cons g r => exact absurd hV (by intro h; cases h)
 have lt0 : ∀ x ∈ p0, x.block < W.heap.size := fun x hx => hlt x (by simp [hx])
 have lt1 : ∀ x ∈ p1, x.block < W.heap.size := fun x hx => hlt x (by simp [hx])
 have lt2 : ∀ x ∈ p2, x.block < W.heap.size := fun x hx => hlt x (by simp [hx])
 have e1 : Rows.plainCopySpec.fn H ([d0, d1, d2] ++ []) = { results := [.lit (.bool true)], args := [d0, d1, d2] } := by simp [Rows.plainCopySpec]
 refine (pcopy_any plain_keeps f0 s0 r0 ao1 a1 len1 cap1 ao2 a2 len2 cap2 W ha1 ha2 (begun_all11 W hg)).mono fun e W' ⟨he, hw⟩ => ?_
 subst he
 refine ⟨_, rfl, _, _, _, [], p0 ++ (p1 ++ (p2)), [], hW', ?_, ?_, ?_, hw.frame _, fun h => by cases h⟩
 ·rw [e1]; exact trodAll_mk1 (shut_bool Tryz.underlying4 true)
 ·rw [e1]; exact trodAll_mk3 (trod_size h0 hw lt0) (trod_asks h1 hw lt1) (trod_asks h2 hw lt2)
 ·rw [e1]; rfl
theorem plainCopy_f1 : Rows.plainCopyRow.wf (OpenSpec.ofChange Rows.plainCopySpec) = true := by kernel_rfl
theorem plainCopy_f2 : (Rows.plainCopyRow.inPlace == Tryz.prog.inPlace 5) = true := by kernel_rfl
theorem plainCopy_f3 : (Rows.plainCopyRow.unfollowed == Tryz.prog.unfollowed 5) = true := by kernel_rfl
theorem plainCopy_f4 : (Rows.plainCopyRow.recurses == Tryz.prog.recurses 5) = true := by kernel_rfl
theorem plainCopy_f5 : (Rows.plainCopyRow.named == Tryz.prog.varsNamed 5) = true := by kernel_rfl
theorem plainCopy_f6 : joinedFacts Tryz.prog 5 Tryz.f5 Rows.plainCopySpec Rows.plainCopyRow = true :=
 rf_all plainCopy_f1 rfl rfl rfl rfl rfl rfl rfl rfl plainCopy_f2 plainCopy_f3 plainCopy_f4 plainCopy_f5 (by kernel_rfl)
theorem plainCopy_f7 : Tryz.prog.funcNamed "messuage/messuagelaw11.PlainCopy" = some 5 := by kernel_rfl
theorem plainCopy_f8 : Tryz.f5.isInstance Tryz.prog Rows.plainCopyRow.origin Rows.plainCopyRow.targs := of_decide_eq_true (by kernel_rfl)
theorem plainCopy_f9 : Tryz.f5.isWrapper Tryz.prog Rows.plainCopyRow.wrapper Rows.plainCopyRow.mainSum := by unfold Func.isWrapper; rw [if_neg (of_decide_eq_false (by kernel_rfl))]; exact ⟨rfl, rfl⟩
theorem plainCopy_row : Rows.PlainCopySaid :=
 OpenClaim.holds_of_wide 5 Tryz.f5 rfl rfl rfl rfl rfl rfl rfl ⟨rfl, rfl, rfl, rfl, rfl⟩ rfl rfl rfl rfl rfl plainCopy_f7 Tryz.func5 plainCopy_f6 plainCopy_f8 plainCopy_f9
  (fun os started H enc _ => plainCopy_lifted os started H enc)
theorem plainCopy_c1 : Rows.plainCopyRow.wfByText (OpenSpec.ofChange Rows.plainCopySpec) = true := by kernel_rfl
theorem plainCopy_c2 : Tryz.prog.mainIs = some (Rows.plainCopyCard.stood.harness.1, Rows.plainCopyCard.stood.harness.2.toList) := by kernel_rfl
theorem plainCopy_c3 : true = Tryz.prog.looks [] := by kernel_rfl
theorem plainCopy_c4 : false = Rows.plainCopyRow.goesBy Tryz.prog := by kernel_rfl
theorem plainCopy_s0 : Tryz.prog.wantsStandIn 23 = false := by kernel_rfl
theorem plainCopy_s1 : Tryz.prog.wantsStandIn 24 = false := by kernel_rfl
theorem plainCopy_c5 : ∀ f fn, Tryz.prog.funcNamed "messuage/messuagelaw11.PlainCopy" = some f → Tryz.prog.funcs[f]? = some fn → true = Tryz.prog.looks [] ∧ ∀ (j : Nat) t, fn.params[j]? = some t → Tryz.prog.wantsStandIn t = false := by
 intro f fn hf hfn
 obtain rfl : f = 5 := Option.some.inj (plainCopy_f7.symm.trans hf) |>.symm
 obtain rfl : fn = Tryz.f5 := (Option.some.inj (Tryz.func5.symm.trans hfn)).symm
 refine ⟨plainCopy_c3, fun j t ht => ?_⟩
 rw [Tryz.params5] at ht
 have h3 : t = 23 ∨ t = 24 := by
  rcases j with _ | _ | _ | j
  ·exact Or.inl (by simpa using ht.symm)
  ·exact Or.inr (by simpa using ht.symm)
  ·exact Or.inr (by simpa using ht.symm)
  ·simp at ht
 rcases h3 with rfl | rfl
 ·exact plainCopy_s0
 ·exact plainCopy_s1
theorem plainCopy_card : Rows.PlainCopyCardSaid :=
 Claim7.holds_tied_plain_at .later [] [.handle] true _ true
  plainCopy_row (fun _ h => by cases h) plainCopy_c1 (fun _ h => by cases h) plainCopy_row_tie rfl ⟨rfl, rfl⟩ plainCopy_c2 rfl plainCopy_c5 plainCopy_c4
#print axioms plainCopy_card
end Go.Proofs.YtdfhfmdelinemaaGreatDoor

