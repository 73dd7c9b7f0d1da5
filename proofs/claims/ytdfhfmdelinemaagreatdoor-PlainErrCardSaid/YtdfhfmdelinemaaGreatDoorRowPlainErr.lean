/- What is proved here: the given card of the statement PlainErr: whatever its arguments, in whatever memory in which the library's variable errors.errorType reads as the program's text lays it, the statement returns true, its arguments read as before and nothing else has turned; that variable's content is tied to the program's text. Conditions: none beside the card's own. -/
import Derived.Test.YtdfhfmdelinemaaGreatDoorGRow
import Derived.Test.YtdfhfmdelinemaaGreatDoorGBegunB
import Derived.Test.YtdfhfmdelinemaaGreatDoorPlainErr
import Derived.Test.YtdfhfmdelinemaaGreatDoorListsS
namespace Go.Proofs.YtdfhfmdelinemaaGreatDoor
open Go.ChangeShapes Go.WideShapes Go.RowKit
set_option maxRecDepth 100000 in
theorem plainErr_lifted (os : Os) (started : os.Started) (H : Type) (enc : TypeId × Value → H) :
  ReturnsInHanded {} Tryz.checked os 4 .any (fun w args => (Rows.plainErrSpec.pre enc Tryz.prog Tryz.f4 [] false w args ∧ laidMetH Tryz.prog laid1 w) ∧ sizedMet enc Tryz.prog Tryz.f4 (OpenSpec.ofChange Rows.plainErrSpec) false w args)
   (Rows.plainErrSpec.post enc Tryz.prog Tryz.f4 false true false false) := by
 refine returnsInHanded_of_change_and (C := Tryz.checked) (X := fun w _ => laidMetH Tryz.prog laid1 w) (fun _ _ _ hh h => h.of_heap hh) Tryz.own started (by kernel_rfl) Tryz.func4
  (ChangeSpec.witness_at (enc := enc) (C := Tryz.checked) (os := os) (X := fun w _ => laidMetH Tryz.prog laid1 w) false (laidWorld os) #[.agg #[.int .i64 0, .int .i64 0, .int .i64 0], .slice none 0 0, .agg #[.int .i64 0, .int .u64 0, .int .u64 0, .int .u64 0, .int .u64 0, .int .u64 0]] 8 rfl (by kernel_rfl) (by kernel_rfl) (by kernel_rfl) (by kernel_rfl) (by kernel_rfl) (laidWorld_met os _)) ?_
 intro W base args ds gs before hval0 hW _ _ hL _
 have hval : ∀ (j : Nat) t v, Tryz.f4.params[j]? = some t → args[j]? = some v → Value.okWide Tryz.prog W .any base t v := hval0
 have hW' := hW
 have hlt := hW.lt
 obtain ⟨p, q, hA0, hV0, rfl, hfz, hnd⟩ := hW
 have hA : DataW.TrodAll enc Tryz.prog W 0 (fun _ => true) true Tryz.f4.params.toList args.toList ds p := hA0
 have hV : DataW.TrodVars enc Tryz.prog W (fun _ => true) [] gs q := hV0
 rw [Tryz.params4] at hA hval
 obtain ⟨v0, v1, v2, d0, d1, d2, p0, p1, p2, rfl, rfl, rfl, h0, h1, h2⟩ := trodAll_three hA
 obtain ⟨f0, s0, r0, rfl⟩ := size_shape (hval 0 23 v0 rfl rfl) h0
 obtain ⟨ao1, a1, len1, cap1, rfl, ha1⟩ := asks_open h1 (hval 1 24 v1 rfl rfl)
 obtain ⟨e2, y0, y1, y2, y3, y4, rfl, hy2⟩ := ask_shape (hval 2 38 v2 rfl rfl) h2
 have hg := held_of_laid hL
 obtain ⟨rfl, rfl⟩ : gs = [] ∧ q = [] := by
  cases gs with
  | nil => exact ⟨rfl, hV⟩
  | cons g r => exact absurd hV (by intro h; cases h)
 have lt0 : ∀ x ∈ p0, x.block < W.heap.size := fun x hx => hlt x (by simp [hx])
 have lt1 : ∀ x ∈ p1, x.block < W.heap.size := fun x hx => hlt x (by simp [hx])
 have lt2 : ∀ x ∈ p2, x.block < W.heap.size := fun x hx => hlt x (by simp [hx])
 have e1 : Rows.plainErrSpec.fn H ([d0, d1, d2] ++ []) = { results := [.lit (.bool true)], args := [d0, d1, d2] } := by simp [Rows.plainErrSpec]
 refine (perr_any plain_keeps f0 s0 r0 ao1 a1 len1 cap1 e2 y0 y1 y2 y3 y4 hy2 W ha1 hg (begun_all11 W hg)).mono fun e W' ⟨he, hw⟩ => ?_
 subst he
 refine ⟨_, rfl, _, _, _, [], p0 ++ (p1 ++ (p2)), [], hW', ?_, ?_, ?_, hw.frame _, fun h => by cases h⟩
 ·rw [e1]; exact trodAll_mk1 (shut_bool Tryz.underlying4 true)
 ·rw [e1]; exact trodAll_mk3 (trod_size h0 hw lt0) (trod_asks h1 hw lt1) (trod_ask h2 hw lt2)
 ·rw [e1]; rfl
theorem plainErr_f1 : Rows.plainErrRow.wf (OpenSpec.ofChange Rows.plainErrSpec) = true := by kernel_rfl
theorem plainErr_f2 : (Rows.plainErrRow.inPlace == Tryz.prog.inPlace 4) = true := by kernel_rfl
theorem plainErr_f3 : (Rows.plainErrRow.unfollowed == Tryz.prog.unfollowed 4) = true := by kernel_rfl
theorem plainErr_f4 : (Rows.plainErrRow.recurses == Tryz.prog.recurses 4) = true := by kernel_rfl
theorem plainErr_f5 : (Rows.plainErrRow.named == Tryz.prog.varsNamed 4) = true := by kernel_rfl
theorem plainErr_f6 : joinedFacts Tryz.prog 4 Tryz.f4 Rows.plainErrSpec Rows.plainErrRow = true :=
 rf_all plainErr_f1 rfl rfl rfl rfl rfl rfl rfl rfl plainErr_f2 plainErr_f3 plainErr_f4 plainErr_f5 (by kernel_rfl)
theorem plainErr_f7 : Tryz.prog.funcNamed "messuage/messuagelaw11.PlainErr" = some 4 := by kernel_rfl
theorem plainErr_f8 : Tryz.f4.isInstance Tryz.prog Rows.plainErrRow.origin Rows.plainErrRow.targs := of_decide_eq_true (by kernel_rfl)
theorem plainErr_f9 : Tryz.f4.isWrapper Tryz.prog Rows.plainErrRow.wrapper Rows.plainErrRow.mainSum := by unfold Func.isWrapper; rw [if_neg (of_decide_eq_false (by kernel_rfl))]; exact ⟨rfl, rfl⟩
theorem plainErr_row : Rows.PlainErrSaid :=
 OpenClaim.holds_of_wide 4 Tryz.f4 rfl rfl rfl rfl rfl rfl rfl ⟨rfl, rfl, rfl, rfl, rfl⟩ rfl rfl rfl rfl rfl plainErr_f7 Tryz.func4 plainErr_f6 plainErr_f8 plainErr_f9
  (fun os started H enc _ => plainErr_lifted os started H enc)
theorem plainErr_c1 : Rows.plainErrRow.wfByText (OpenSpec.ofChange Rows.plainErrSpec) = true := by kernel_rfl
theorem plainErr_c2 : Tryz.prog.mainIs = some (Rows.plainErrCard.stood.harness.1, Rows.plainErrCard.stood.harness.2.toList) := by kernel_rfl
theorem plainErr_c3 : true = Tryz.prog.looks [] := by kernel_rfl
theorem plainErr_c4 : false = Rows.plainErrRow.goesBy Tryz.prog := by kernel_rfl
theorem plainErr_s0 : Tryz.prog.wantsStandIn 23 = false := by kernel_rfl
theorem plainErr_s1 : Tryz.prog.wantsStandIn 24 = false := by kernel_rfl
theorem plainErr_s2 : Tryz.prog.wantsStandIn 38 = false := by kernel_rfl
theorem plainErr_c5 : ∀ f fn, Tryz.prog.funcNamed "messuage/messuagelaw11.PlainErr" = some f → Tryz.prog.funcs[f]? = some fn → true = Tryz.prog.looks [] ∧ ∀ (j : Nat) t, fn.params[j]? = some t → Tryz.prog.wantsStandIn t = false := by
 intro f fn hf hfn
 obtain rfl : f = 4 := Option.some.inj (plainErr_f7.symm.trans hf) |>.symm
 obtain rfl : fn = Tryz.f4 := (Option.some.inj (Tryz.func4.symm.trans hfn)).symm
 refine ⟨plainErr_c3, fun j t ht => ?_⟩
 rw [Tryz.params4] at ht
 have h3 : t = 23 ∨ t = 24 ∨ t = 38 := by
  rcases j with _ | _ | _ | j
  ·exact Or.inl (by simpa using ht.symm)
  ·exact Or.inr (Or.inl (by simpa using ht.symm))
  ·exact Or.inr (Or.inr (by simpa using ht.symm))
  ·simp at ht
 rcases h3 with rfl | rfl | rfl
 ·exact plainErr_s0
 ·exact plainErr_s1
 ·exact plainErr_s2
theorem plainErr_card : Rows.PlainErrCardSaid :=
 Claim7.holds_tied_plain_at .later [] [.handle] true _ true
  plainErr_row (fun _ h => by cases h) plainErr_c1 (fun _ h => by cases h) plainErr_row_tie rfl ⟨rfl, rfl⟩ plainErr_c2 rfl plainErr_c5 plainErr_c4
#print axioms plainErr_card
end Go.Proofs.YtdfhfmdelinemaaGreatDoor

