/- What is proved here: the given card of the statement PlainApart: whatever its arguments, in whatever memory in which the library's variable errors.errorType reads as the program's text lays it, the statement returns true, its arguments read as before and nothing else has turned; that variable's content is tied to the program's text. Conditions: none beside the card's own. -/
import Derived.Test.YtbmekfjcpdbapaaGreatDoorGRow
import Derived.Test.YtbmekfjcpdbapaaGreatDoorGBegunB
import Derived.Test.YtbmekfjcpdbapaaGreatDoorPlainApart
import Derived.Test.YtbmekfjcpdbapaaGreatDoorListsS
namespace Go.Proofs.YtbmekfjcpdbapaaGreatDoor
open Go.ChangeShapes Go.WideShapes Go.RowKit
set_option maxRecDepth 100000 in
theorem plainApart_lifted (os : Os) (started : os.Started) (H : Type) (enc : TypeId × Value → H) :
    ReturnsInHanded {} Tryz.checked os 14 .any (fun w args => (Rows.plainApartSpec.pre enc Tryz.prog Tryz.f14 [] false w args ∧ laidMetH Tryz.prog laid1 w) ∧ sizedMet enc Tryz.prog Tryz.f14 (OpenSpec.ofChange Rows.plainApartSpec) false w args)
      (Rows.plainApartSpec.post enc Tryz.prog Tryz.f14 false true false false) := by
  refine returnsInHanded_of_change_and (C := Tryz.checked) (X := fun w _ => laidMetH Tryz.prog laid1 w) (fun _ _ _ hh h => h.of_heap hh) Tryz.own started (by kernel_rfl) Tryz.func14
    (ChangeSpec.witness_at (enc := enc) (C := Tryz.checked) (os := os) (X := fun w _ => laidMetH Tryz.prog laid1 w) false (laidWorld os) #[.agg #[.int .i64 0, .int .i64 0, .int .i64 0], .slice none 0 0, .int .i64 0] 8 rfl (by kernel_rfl) (by kernel_rfl) (by kernel_rfl) (by kernel_rfl) (by kernel_rfl) (laidWorld_met os _)) ?_
  intro W base args ds gs before hval0 hW _ _ hL _
  have hval : ∀ (j : Nat) t v, Tryz.f14.params[j]? = some t → args[j]? = some v → Value.okWide Tryz.prog W .any base t v := hval0
  have hW' := hW
  have hlt := hW.lt
  obtain ⟨p, q, hA0, hV0, rfl, hfz, hnd⟩ := hW
  have hA : DataW.TrodAll enc Tryz.prog W 0 (fun _ => true) true Tryz.f14.params.toList args.toList ds p := hA0
  have hV : DataW.TrodVars enc Tryz.prog W (fun _ => true) [] gs q := hV0
  rw [Tryz.params14] at hA hval
  obtain ⟨v0, v1, v2, d0, d1, d2, p0, p1, p2, rfl, rfl, rfl, h0, h1, h2⟩ := trodAll_three hA
  obtain ⟨f0, s0, r0, rfl⟩ := size_shape (hval 0 23 v0 rfl rfl) h0
  obtain ⟨ao1, a1, len1, cap1, rfl, ha1⟩ := asks_open h1 (hval 1 24 v1 rfl rfl)
  obtain ⟨n2, rfl⟩ := okWide_int Tryz.underlying3 (hval 2 3 v2 rfl rfl)
  have hg := held_of_laid hL
  obtain ⟨rfl, rfl⟩ : gs = [] ∧ q = [] := by
    cases gs with
    | nil => exact ⟨rfl, hV⟩
    | cons g r => exact absurd hV (by intro h; cases h)
  have lt0 : ∀ x ∈ p0, x.block < W.heap.size := fun x hx => hlt x (by simp [hx])
  have lt1 : ∀ x ∈ p1, x.block < W.heap.size := fun x hx => hlt x (by simp [hx])
  have lt2 : ∀ x ∈ p2, x.block < W.heap.size := fun x hx => hlt x (by simp [hx])
  have e1 : Rows.plainApartSpec.fn H ([d0, d1, d2] ++ []) = { results := [.lit (.bool true)], args := [d0, d1, d2] } := by simp [Rows.plainApartSpec]
  refine (papart_any plain_keeps f0 s0 r0 ao1 a1 len1 cap1 n2 W ha1 (begun_all11 W hg)).mono fun e W' ⟨he, hw⟩ => ?_
  subst he
  refine ⟨_, rfl, _, _, _, [], p0 ++ (p1 ++ (p2)), [], hW', ?_, ?_, ?_, hw.frame _, fun h => by cases h⟩
  · rw [e1]; exact trodAll_mk1 (shut_bool Tryz.underlying4 true)
  · rw [e1]; exact trodAll_mk3 (trod_size h0 hw lt0) (trod_asks h1 hw lt1) (trod_int h2 hw lt2)
  · rw [e1]; rfl
theorem plainApart_f1 : Rows.plainApartRow.wf (OpenSpec.ofChange Rows.plainApartSpec) = true := by kernel_rfl
theorem plainApart_f2 : (Rows.plainApartRow.inPlace == Tryz.prog.inPlace 14) = true := by kernel_rfl
theorem plainApart_f3 : (Rows.plainApartRow.unfollowed == Tryz.prog.unfollowed 14) = true := by kernel_rfl
theorem plainApart_f4 : (Rows.plainApartRow.recurses == Tryz.prog.recurses 14) = true := by kernel_rfl
theorem plainApart_f5 : (Rows.plainApartRow.named == Tryz.prog.varsNamed 14) = true := by kernel_rfl
theorem plainApart_f6 : joinedFacts Tryz.prog 14 Tryz.f14 Rows.plainApartSpec Rows.plainApartRow = true :=
  rf_all plainApart_f1 rfl rfl rfl rfl rfl rfl rfl rfl plainApart_f2 plainApart_f3 plainApart_f4 plainApart_f5 (by kernel_rfl)
theorem plainApart_f7 : Tryz.prog.funcNamed "messuage/messuagelaw11.PlainApart" = some 14 := by kernel_rfl
theorem plainApart_f8 : Tryz.f14.isInstance Tryz.prog Rows.plainApartRow.origin Rows.plainApartRow.targs := of_decide_eq_true (by kernel_rfl)
theorem plainApart_f9 : Tryz.f14.isWrapper Tryz.prog Rows.plainApartRow.wrapper Rows.plainApartRow.mainSum := by unfold Func.isWrapper; rw [if_neg (of_decide_eq_false (by kernel_rfl))]; exact ⟨rfl, rfl⟩
theorem plainApart_row : Rows.PlainApartSaid :=
  OpenClaim.holds_of_wide 14 Tryz.f14 rfl rfl rfl rfl rfl rfl rfl ⟨rfl, rfl, rfl, rfl, rfl⟩ rfl rfl rfl rfl rfl plainApart_f7 Tryz.func14 plainApart_f6 plainApart_f8 plainApart_f9
    (fun os started H enc _ => plainApart_lifted os started H enc)
theorem plainApart_c1 : Rows.plainApartRow.wfByText (OpenSpec.ofChange Rows.plainApartSpec) = true := by kernel_rfl
theorem plainApart_c2 : Tryz.prog.mainIs = some (Rows.plainApartCard.stood.harness.1, Rows.plainApartCard.stood.harness.2.toList) := by kernel_rfl
theorem plainApart_c3 : true = Tryz.prog.looks [] := by kernel_rfl
theorem plainApart_c4 : false = Rows.plainApartRow.goesBy Tryz.prog := by kernel_rfl
theorem plainApart_s0 : Tryz.prog.wantsStandIn 23 = false := by kernel_rfl
theorem plainApart_s1 : Tryz.prog.wantsStandIn 24 = false := by kernel_rfl
theorem plainApart_s2 : Tryz.prog.wantsStandIn 3 = false := by kernel_rfl
theorem plainApart_c5 : ∀ f fn, Tryz.prog.funcNamed "messuage/messuagelaw11.PlainApart" = some f → Tryz.prog.funcs[f]? = some fn → true = Tryz.prog.looks [] ∧ ∀ (j : Nat) t, fn.params[j]? = some t → Tryz.prog.wantsStandIn t = false := by
  intro f fn hf hfn
  obtain rfl : f = 14 := Option.some.inj (plainApart_f7.symm.trans hf) |>.symm
  obtain rfl : fn = Tryz.f14 := (Option.some.inj (Tryz.func14.symm.trans hfn)).symm
  refine ⟨plainApart_c3, fun j t ht => ?_⟩
  rw [Tryz.params14] at ht
  have h3 : t = 23 ∨ t = 24 ∨ t = 3 := by
    rcases j with _ | _ | _ | j
    · exact Or.inl (by simpa using ht.symm)
    · exact Or.inr (Or.inl (by simpa using ht.symm))
    · exact Or.inr (Or.inr (by simpa using ht.symm))
    · simp at ht
  rcases h3 with rfl | rfl | rfl
  · exact plainApart_s0
  · exact plainApart_s1
  · exact plainApart_s2
theorem plainApart_card : Rows.PlainApartCardSaid :=
  Claim7.holds_tied_plain_at .later [] [.handle] true _ true
    plainApart_row (fun _ h => by cases h) plainApart_c1 (fun _ h => by cases h) plainApart_row_tie rfl ⟨rfl, rfl⟩ plainApart_c2 rfl plainApart_c5 plainApart_c4
#print axioms plainApart_card
end Go.Proofs.YtbmekfjcpdbapaaGreatDoor

