/- What is proved here: the given card of the statement PlainRemap: whatever its arguments, in whatever memory in which the library's variable errors.errorType reads as the program's text lays it, the statement returns true, its arguments read as before and nothing else has turned; that variable's content is tied to the program's text. Conditions: none beside the card's own. -/
import Derived.Test.YtbmekfjcpdbapaaGreatDoorGRow
import Derived.Test.YtbmekfjcpdbapaaGreatDoorGBegunB
import Derived.Test.YtbmekfjcpdbapaaGreatDoorPlainRemap
namespace Go.Proofs.YtbmekfjcpdbapaaGreatDoor
open Go.ChangeShapes Go.WideShapes Go.RowKit
set_option maxRecDepth 100000 in
theorem plainRemap_lifted (os : Os) (started : os.Started) (H : Type) (enc : TypeId × Value → H) :
    ReturnsInHanded {} Tryz.checked os 15 .any (fun w args => (Rows.plainRemapSpec.pre enc Tryz.prog Tryz.f15 [] false w args ∧ laidMetH Tryz.prog laid1 w) ∧ sizedMet enc Tryz.prog Tryz.f15 (OpenSpec.ofChange Rows.plainRemapSpec) false w args)
      (Rows.plainRemapSpec.post enc Tryz.prog Tryz.f15 false true false false) := by
  refine returnsInHanded_of_change_and (C := Tryz.checked) (X := fun w _ => laidMetH Tryz.prog laid1 w) (fun _ _ _ hh h => h.of_heap hh) Tryz.own started (by kernel_rfl) Tryz.func15
    (ChangeSpec.witness_at (enc := enc) (C := Tryz.checked) (os := os) (X := fun w _ => laidMetH Tryz.prog laid1 w) false (laidWorld os) #[.slice none 0 0, .int .u64 0, .int .u64 0] 8 rfl (by kernel_rfl) (by kernel_rfl) (by kernel_rfl) (by kernel_rfl) (by kernel_rfl) (laidWorld_met os _)) ?_
  intro W base args ds gs before hval0 hW _ _ hL _
  have hval : ∀ (j : Nat) t v, Tryz.f15.params[j]? = some t → args[j]? = some v → Value.okWide Tryz.prog W .any base t v := hval0
  have hW' := hW
  have hlt := hW.lt
  obtain ⟨p, q, hA0, hV0, rfl, hfz, hnd⟩ := hW
  have hA : DataW.TrodAll enc Tryz.prog W 0 (fun _ => true) true Tryz.f15.params.toList args.toList ds p := hA0
  have hV : DataW.TrodVars enc Tryz.prog W (fun _ => true) [] gs q := hV0
  rw [Tryz.params15] at hA hval
  obtain ⟨v0, v1, v2, d0, d1, d2, p0, p1, p2, rfl, rfl, rfl, h0, h1, h2⟩ := trodAll_three hA
  obtain ⟨ao0, a0, len0, cap0, z0, rfl, hao0, hz0⟩ := ints_any (ints_open h0 (hval 0 61 v0 rfl rfl))
  obtain ⟨n1, rfl⟩ := okWide_int Tryz.underlying34 (hval 1 34 v1 rfl rfl)
  obtain ⟨n2, rfl⟩ := okWide_int Tryz.underlying34 (hval 2 34 v2 rfl rfl)
  have hg := held_of_laid hL
  obtain ⟨rfl, rfl⟩ : gs = [] ∧ q = [] := by
    cases gs with
    | nil => exact ⟨rfl, hV⟩
    | cons g r => exact absurd hV (by intro h; cases h)
  have lt0 : ∀ x ∈ p0, x.block < W.heap.size := fun x hx => hlt x (by simp [hx])
  have lt1 : ∀ x ∈ p1, x.block < W.heap.size := fun x hx => hlt x (by simp [hx])
  have lt2 : ∀ x ∈ p2, x.block < W.heap.size := fun x hx => hlt x (by simp [hx])
  have e1 : Rows.plainRemapSpec.fn H ([d0, d1, d2] ++ []) = { results := [.lit (.bool true)], args := [d0, d1, d2] } := by simp [Rows.plainRemapSpec]
  refine (premap_any plain_keeps ao0 a0 len0 cap0 hao0 z0 n1 n2 (word_in h1) (word_in h2) W hz0 (begun_at11 W hg)).mono fun e W' ⟨he, hw⟩ => ?_
  subst he
  refine ⟨_, rfl, _, _, _, [], p0 ++ (p1 ++ (p2)), [], hW', ?_, ?_, ?_, hw.frame _, fun h => by cases h⟩
  · rw [e1]; exact trodAll_mk1 (shut_bool Tryz.underlying4 true)
  · rw [e1]; exact trodAll_mk3 (trod_ints h0 hw lt0) (trod_word h1 hw lt1) (trod_word h2 hw lt2)
  · rw [e1]; rfl
theorem plainRemap_f1 : Rows.plainRemapRow.wf (OpenSpec.ofChange Rows.plainRemapSpec) = true := by kernel_rfl
theorem plainRemap_f2 : (Rows.plainRemapRow.inPlace == Tryz.prog.inPlace 15) = true := by kernel_rfl
theorem plainRemap_f3 : (Rows.plainRemapRow.unfollowed == Tryz.prog.unfollowed 15) = true := by kernel_rfl
theorem plainRemap_f4 : (Rows.plainRemapRow.recurses == Tryz.prog.recurses 15) = true := by kernel_rfl
theorem plainRemap_f5 : (Rows.plainRemapRow.named == Tryz.prog.varsNamed 15) = true := by kernel_rfl
theorem plainRemap_f6 : joinedFacts Tryz.prog 15 Tryz.f15 Rows.plainRemapSpec Rows.plainRemapRow = true :=
  rf_all plainRemap_f1 rfl rfl rfl rfl rfl rfl rfl rfl plainRemap_f2 plainRemap_f3 plainRemap_f4 plainRemap_f5 (by kernel_rfl)
theorem plainRemap_f7 : Tryz.prog.funcNamed "messuage/messuagelaw11.PlainRemap" = some 15 := by kernel_rfl
theorem plainRemap_f8 : Tryz.f15.isInstance Tryz.prog Rows.plainRemapRow.origin Rows.plainRemapRow.targs := of_decide_eq_true (by kernel_rfl)
theorem plainRemap_f9 : Tryz.f15.isWrapper Tryz.prog Rows.plainRemapRow.wrapper Rows.plainRemapRow.mainSum := by unfold Func.isWrapper; rw [if_neg (of_decide_eq_false (by kernel_rfl))]; exact ⟨rfl, rfl⟩
theorem plainRemap_row : Rows.PlainRemapSaid :=
  OpenClaim.holds_of_wide 15 Tryz.f15 rfl rfl rfl rfl rfl rfl rfl ⟨rfl, rfl, rfl, rfl, rfl⟩ rfl rfl rfl rfl rfl plainRemap_f7 Tryz.func15 plainRemap_f6 plainRemap_f8 plainRemap_f9
    (fun os started H enc _ => plainRemap_lifted os started H enc)
theorem plainRemap_c1 : Rows.plainRemapRow.wfByText (OpenSpec.ofChange Rows.plainRemapSpec) = true := by kernel_rfl
theorem plainRemap_c2 : Tryz.prog.mainIs = some (Rows.plainRemapCard.stood.harness.1, Rows.plainRemapCard.stood.harness.2.toList) := by kernel_rfl
theorem plainRemap_c3 : true = Tryz.prog.looks [] := by kernel_rfl
theorem plainRemap_c4 : false = Rows.plainRemapRow.goesBy Tryz.prog := by kernel_rfl
theorem plainRemap_s0 : Tryz.prog.wantsStandIn 61 = false := by kernel_rfl
theorem plainRemap_s1 : Tryz.prog.wantsStandIn 34 = false := by kernel_rfl
theorem plainRemap_c5 : ∀ f fn, Tryz.prog.funcNamed "messuage/messuagelaw11.PlainRemap" = some f → Tryz.prog.funcs[f]? = some fn → true = Tryz.prog.looks [] ∧ ∀ (j : Nat) t, fn.params[j]? = some t → Tryz.prog.wantsStandIn t = false := by
  intro f fn hf hfn
  obtain rfl : f = 15 := Option.some.inj (plainRemap_f7.symm.trans hf) |>.symm
  obtain rfl : fn = Tryz.f15 := (Option.some.inj (Tryz.func15.symm.trans hfn)).symm
  refine ⟨plainRemap_c3, fun j t ht => ?_⟩
  rw [Tryz.params15] at ht
  have h3 : t = 61 ∨ t = 34 := by
    rcases j with _ | _ | _ | j
    · exact Or.inl (by simpa using ht.symm)
    · exact Or.inr (by simpa using ht.symm)
    · exact Or.inr (by simpa using ht.symm)
    · simp at ht
  rcases h3 with rfl | rfl
  · exact plainRemap_s0
  · exact plainRemap_s1
theorem plainRemap_card : Rows.PlainRemapCardSaid :=
  Claim7.holds_tied_plain_at .later [] [.handle] true _ true
    plainRemap_row (fun _ h => by cases h) plainRemap_c1 (fun _ h => by cases h) plainRemap_row_tie rfl ⟨rfl, rfl⟩ plainRemap_c2 rfl plainRemap_c5 plainRemap_c4
#print axioms plainRemap_card
end Go.Proofs.YtbmekfjcpdbapaaGreatDoor

