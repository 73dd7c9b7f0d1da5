/- What is proved here: the given card of the statement PlainFresh: whatever its arguments, in whatever memory in which the library's variable errors.errorType reads as the program's text lays it, the statement returns true, its arguments read as before and nothing else has turned; that variable's content is tied to the program's text. Conditions: none beside the card's own. -/
import Derived.Test.YtdfhfmdelinemaaGreatDoorGRow
import Derived.Test.YtdfhfmdelinemaaGreatDoorGBegunB
import Derived.Test.YtdfhfmdelinemaaGreatDoorPlainFresh
import Derived.Test.YtdfhfmdelinemaaGreatDoorListsS
namespace Go.Proofs.YtdfhfmdelinemaaGreatDoor
open Go.ChangeShapes Go.WideShapes Go.RowKit
set_option maxRecDepth 100000 in
theorem plainFresh_lifted (os : Os) (started : os.Started) (H : Type) (enc : TypeId × Value → H) :
  ReturnsInHanded {} Tryz.checked os 6 .any (fun w args => (Rows.plainFreshSpec.pre enc Tryz.prog Tryz.f6 [] false w args ∧ laidMetH Tryz.prog laid1 w) ∧ sizedMet enc Tryz.prog Tryz.f6 (OpenSpec.ofChange Rows.plainFreshSpec) false w args)
   (Rows.plainFreshSpec.post enc Tryz.prog Tryz.f6 false true false false) := by
 refine returnsInHanded_of_change_and (C := Tryz.checked) (X := fun w _ => laidMetH Tryz.prog laid1 w) (fun _ _ _ hh h => h.of_heap hh) Tryz.own started (by kernel_rfl) Tryz.func6
  (ChangeSpec.witness_at (enc := enc) (C := Tryz.checked) (os := os) (X := fun w _ => laidMetH Tryz.prog laid1 w) false (laidWorld os) #[.agg #[.int .i64 0, .int .i64 0, .int .i64 0], .slice none 0 0, .int .u64 0, .int .i64 0, .int .i64 0] 8 rfl (by kernel_rfl) (by kernel_rfl) (by kernel_rfl) (by kernel_rfl) (by kernel_rfl) (laidWorld_met os _)) ?_
 intro W base args ds gs before hval0 hW _ _ hL _
 have hval : ∀ (j : Nat) t v, Tryz.f6.params[j]? = some t → args[j]? = some v → Value.okWide Tryz.prog W .any base t v := hval0
 have hW' := hW
 have hlt := hW.lt
 obtain ⟨p, q, hA0, hV0, rfl, hfz, hnd⟩ := hW
 have hA : DataW.TrodAll enc Tryz.prog W 0 (fun _ => true) true Tryz.f6.params.toList args.toList ds p := hA0
 have hV : DataW.TrodVars enc Tryz.prog W (fun _ => true) [] gs q := hV0
 rw [Tryz.params6] at hA hval
 obtain ⟨v0, v1, v2, v3, v4, d0, d1, d2, d3, d4, p0, p1, p2, p3, p4, rfl, rfl, rfl, h0, h1, h2, h3, h4⟩ := trodAll_five hA
 obtain ⟨f0, s0, r0, rfl⟩ := size_shape (hval 0 23 v0 rfl rfl) h0
 obtain ⟨ao1, a1, len1, cap1, rfl, ha1⟩ := asks_open h1 (hval 1 24 v1 rfl rfl)
 obtain ⟨n2, rfl⟩ := okWide_int Tryz.underlying34 (hval 2 34 v2 rfl rfl)
 obtain ⟨n3, rfl⟩ := okWide_int Tryz.underlying3 (hval 3 3 v3 rfl rfl)
 obtain ⟨n4, rfl⟩ := okWide_int Tryz.underlying3 (hval 4 3 v4 rfl rfl)
 have hg := held_of_laid hL
 obtain ⟨rfl, rfl⟩ : gs = [] ∧ q = [] := by
  cases gs with
  | nil => exact ⟨rfl, hV⟩
  | cons g r => exact absurd hV (by intro h; cases h)
 have lt0 : ∀ x ∈ p0, x.block < W.heap.size := fun x hx => hlt x (by simp [hx])
 have lt1 : ∀ x ∈ p1, x.block < W.heap.size := fun x hx => hlt x (by simp [hx])
 have lt2 : ∀ x ∈ p2, x.block < W.heap.size := fun x hx => hlt x (by simp [hx])
 have lt3 : ∀ x ∈ p3, x.block < W.heap.size := fun x hx => hlt x (by simp [hx])
 have lt4 : ∀ x ∈ p4, x.block < W.heap.size := fun x hx => hlt x (by simp [hx])
 have e1 : Rows.plainFreshSpec.fn H ([d0, d1, d2, d3, d4] ++ []) = { results := [.lit (.bool true)], args := [d0, d1, d2, d3, d4] } := by simp [Rows.plainFreshSpec]
 refine (pfresh_any plain_keeps f0 s0 r0 ao1 a1 len1 cap1 n2 n3 n4 (word_in h2) W ha1 (begun_all11 W hg)).mono fun e W' ⟨he, hw⟩ => ?_
 subst he
 refine ⟨_, rfl, _, _, _, [], p0 ++ (p1 ++ (p2 ++ (p3 ++ (p4)))), [], hW', ?_, ?_, ?_, hw.frame _, fun h => by cases h⟩
 ·rw [e1]; exact trodAll_mk1 (shut_bool Tryz.underlying4 true)
 ·rw [e1]; exact trodAll_mk5 (trod_size h0 hw lt0) (trod_asks h1 hw lt1) (trod_word h2 hw lt2) (trod_int h3 hw lt3) (trod_int h4 hw lt4)
 ·rw [e1]; rfl
theorem plainFresh_f1 : Rows.plainFreshRow.wf (OpenSpec.ofChange Rows.plainFreshSpec) = true := by kernel_rfl
theorem plainFresh_f2 : (Rows.plainFreshRow.inPlace == Tryz.prog.inPlace 6) = true := by kernel_rfl
theorem plainFresh_f3 : (Rows.plainFreshRow.unfollowed == Tryz.prog.unfollowed 6) = true := by kernel_rfl
theorem plainFresh_f4 : (Rows.plainFreshRow.recurses == Tryz.prog.recurses 6) = true := by kernel_rfl
theorem plainFresh_f5 : (Rows.plainFreshRow.named == Tryz.prog.varsNamed 6) = true := by kernel_rfl
theorem plainFresh_f6 : joinedFacts Tryz.prog 6 Tryz.f6 Rows.plainFreshSpec Rows.plainFreshRow = true :=
 rf_all plainFresh_f1 rfl rfl rfl rfl rfl rfl rfl rfl plainFresh_f2 plainFresh_f3 plainFresh_f4 plainFresh_f5 (by kernel_rfl)
theorem plainFresh_f7 : Tryz.prog.funcNamed "messuage/messuagelaw11.PlainFresh" = some 6 := by kernel_rfl
theorem plainFresh_f8 : Tryz.f6.isInstance Tryz.prog Rows.plainFreshRow.origin Rows.plainFreshRow.targs := of_decide_eq_true (by kernel_rfl)
theorem plainFresh_f9 : Tryz.f6.isWrapper Tryz.prog Rows.plainFreshRow.wrapper Rows.plainFreshRow.mainSum := by unfold Func.isWrapper; rw [if_neg (of_decide_eq_false (by kernel_rfl))]; exact ⟨rfl, rfl⟩
theorem plainFresh_row : Rows.PlainFreshSaid :=
 OpenClaim.holds_of_wide 6 Tryz.f6 rfl rfl rfl rfl rfl rfl rfl ⟨rfl, rfl, rfl, rfl, rfl⟩ rfl rfl rfl rfl rfl plainFresh_f7 Tryz.func6 plainFresh_f6 plainFresh_f8 plainFresh_f9
  (fun os started H enc _ => plainFresh_lifted os started H enc)
theorem plainFresh_c1 : Rows.plainFreshRow.wfByText (OpenSpec.ofChange Rows.plainFreshSpec) = true := by kernel_rfl
theorem plainFresh_c2 : Tryz.prog.mainIs = some (Rows.plainFreshCard.stood.harness.1, Rows.plainFreshCard.stood.harness.2.toList) := by kernel_rfl
theorem plainFresh_c3 : true = Tryz.prog.looks [] := by kernel_rfl
theorem plainFresh_c4 : false = Rows.plainFreshRow.goesBy Tryz.prog := by kernel_rfl
theorem plainFresh_s0 : Tryz.prog.wantsStandIn 23 = false := by kernel_rfl
theorem plainFresh_s1 : Tryz.prog.wantsStandIn 24 = false := by kernel_rfl
theorem plainFresh_s2 : Tryz.prog.wantsStandIn 34 = false := by kernel_rfl
theorem plainFresh_s3 : Tryz.prog.wantsStandIn 3 = false := by kernel_rfl
theorem plainFresh_c5 : ∀ f fn, Tryz.prog.funcNamed "messuage/messuagelaw11.PlainFresh" = some f → Tryz.prog.funcs[f]? = some fn → true = Tryz.prog.looks [] ∧ ∀ (j : Nat) t, fn.params[j]? = some t → Tryz.prog.wantsStandIn t = false := by
 intro f fn hf hfn
 obtain rfl : f = 6 := Option.some.inj (plainFresh_f7.symm.trans hf) |>.symm
 obtain rfl : fn = Tryz.f6 := (Option.some.inj (Tryz.func6.symm.trans hfn)).symm
 refine ⟨plainFresh_c3, fun j t ht => ?_⟩
 rw [Tryz.params6] at ht
 have h3 : t = 23 ∨ t = 24 ∨ t = 34 ∨ t = 3 := by
  rcases j with _ | _ | _ | _ | _ | j
  ·exact Or.inl (by simpa using ht.symm)
  ·exact Or.inr (Or.inl (by simpa using ht.symm))
  ·exact Or.inr (Or.inr (Or.inl (by simpa using ht.symm)))
  ·exact Or.inr (Or.inr (Or.inr (by simpa using ht.symm)))
  ·exact Or.inr (Or.inr (Or.inr (by simpa using ht.symm)))
  ·simp at ht
 rcases h3 with rfl | rfl | rfl | rfl
 ·exact plainFresh_s0
 ·exact plainFresh_s1
 ·exact plainFresh_s2
 ·exact plainFresh_s3
theorem plainFresh_card : Rows.PlainFreshCardSaid :=
 Claim7.holds_tied_plain_at .later [] [.handle] true _ true
  plainFresh_row (fun _ h => by cases h) plainFresh_c1 (fun _ h => by cases h) plainFresh_row_tie rfl ⟨rfl, rfl⟩ plainFresh_c2 rfl plainFresh_c5 plainFresh_c4
#print axioms plainFresh_card
end Go.Proofs.YtdfhfmdelinemaaGreatDoor

