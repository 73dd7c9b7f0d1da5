/- What is proved here: the given card of the statement MemAtomic: whatever its arguments, in whatever memory in which the library's variable errors.errorType reads as the program's text lays it, the statement returns true, its arguments read as before and nothing else has turned; that variable's content is tied to the program's text. Conditions: none beside the card's own. -/
import Derived.Test.YtfpnpgpelncgeaaGreatDoorRow
import Derived.Test.YtfpnpgpelncgeaaGreatDoorBegun2
import Derived.Test.YtfpnpgpelncgeaaGreatDoorMemAtomic
import Derived.Test.YtfpnpgpelncgeaaGreatDoorLists
namespace Go.Proofs.YtfpnpgpelncgeaaGreatDoor
open Go.ChangeShapes Go.WideShapes Go.RowKit

theorem memAtomic_walk (v : Value) {W : World} (hs : WordsAt W v) (old new : Int) (hbeg : ∀ V, Below W.heap.size W V → BegunAt V) :
    Calls Tryz.prog 14 #[v, .int .u64 old, .int .u64 new] W fun e w' => e = .returned (.bool true) ∧ Below W.heap.size W w' := by
  rcases hs with rfl | ⟨a, len, cap, zs, rfl, hlc, hcm, hz⟩
  · exact matom_nil old new W hbeg
  · exact matom_some old new a len cap (by unfold maxLen at hcm; omega) (fun i => zs.getD i 0) W hz hbeg

set_option maxRecDepth 100000 in
theorem memAtomic_lifted (os : Os) (started : os.Started) (H : Type) (enc : TypeId × Value → H) :
    ReturnsInHanded {} Tryz.checked os 14 .any (fun w args => (Rows.memAtomicSpec.pre enc Tryz.prog Tryz.f14 [] false w args ∧ laidMetH Tryz.prog laid1 w) ∧ sizedMet enc Tryz.prog Tryz.f14 (OpenSpec.ofChange Rows.memAtomicSpec) false w args)
      (Rows.memAtomicSpec.post enc Tryz.prog Tryz.f14 false true false false) := by
  refine returnsInHanded_of_change_and (C := Tryz.checked) (X := fun w _ => laidMetH Tryz.prog laid1 w) (fun _ _ _ hh h => h.of_heap hh) Tryz.own started (by kernel_rfl) Tryz.func14
    (ChangeSpec.witness_at (enc := enc) (C := Tryz.checked) (os := os) (X := fun w _ => laidMetH Tryz.prog laid1 w) false (laidWorld os) #[.slice none 0 0, .int .u64 0, .int .u64 0] 8 rfl (by kernel_rfl) (by kernel_rfl) (by kernel_rfl) (by kernel_rfl) (by kernel_rfl) (laidWorld_met os _)) ?_
  intro W base args ds gs before hval0 hW _ _ hL _
  have hval : ∀ (j : Nat) t v, Tryz.f14.params[j]? = some t → args[j]? = some v → Value.okWide Tryz.prog W .any base t v := hval0
  have hW' := hW
  have hlt := hW.lt
  obtain ⟨p, q, hA0, hV0, rfl, hfz, hnd⟩ := hW
  have hA : DataW.TrodAll enc Tryz.prog W 0 (fun _ => true) true Tryz.f14.params.toList args.toList ds p := hA0
  have hV : DataW.TrodVars enc Tryz.prog W (fun _ => true) [] gs q := hV0
  rw [Tryz.params14] at hA hval
  obtain ⟨v0, v1, v2, d0, d1, d2, p0, p1, p2, rfl, rfl, rfl, h0, h1, h2⟩ := trodAll_three hA
  have hs0 := words_open h0 (hval 0 53 v0 rfl rfl)
  obtain ⟨n1, rfl⟩ := okWide_int Tryz.underlying22 (hval 1 22 v1 rfl rfl)
  obtain ⟨n2, rfl⟩ := okWide_int Tryz.underlying22 (hval 2 22 v2 rfl rfl)
  have hg := held_of_laid hL
  obtain ⟨rfl, rfl⟩ : gs = [] ∧ q = [] := by
    cases gs with
    | nil => exact ⟨rfl, hV⟩
    | cons g r => exact absurd hV (by intro h; cases h)
  have lt0 : ∀ x ∈ p0, x.block < W.heap.size := fun x hx => hlt x (by simp [hx])
  have lt1 : ∀ x ∈ p1, x.block < W.heap.size := fun x hx => hlt x (by simp [hx])
  have lt2 : ∀ x ∈ p2, x.block < W.heap.size := fun x hx => hlt x (by simp [hx])
  have e1 : Rows.memAtomicSpec.fn H ([d0, d1, d2] ++ []) = { results := [.lit (.bool true)], args := [d0, d1, d2] } := by simp [Rows.memAtomicSpec]
  refine (memAtomic_walk v0 hs0 n1 n2  (fun V hV => begun_at V (hg.below hV hg.pos))).mono fun e W' ⟨he, hw⟩ => ?_
  subst he
  refine ⟨_, rfl, _, _, _, [], p0 ++ (p1 ++ (p2)), [], hW', ?_, ?_, ?_, hw.frame _, fun h => by cases h⟩
  · rw [e1]; exact trodAll_mk1 (shut_bool Tryz.underlying4 true)
  · rw [e1]; exact trodAll_mk3 (trod_words h0 hw lt0) (trod_word h1 hw lt1) (trod_word h2 hw lt2)
  · rw [e1]; rfl

theorem memAtomic_row : Rows.MemAtomicSaid :=
  OpenClaim.holds_of_wide 14 Tryz.f14 rfl rfl rfl rfl rfl rfl rfl ⟨rfl, rfl, rfl, rfl, rfl⟩ rfl rfl rfl rfl rfl (by kernel_rfl) Tryz.func14 (by kernel_rfl)
    (of_decide_eq_true (by kernel_rfl)) (by unfold Func.isWrapper; rw [if_neg (of_decide_eq_false (by kernel_rfl))]; exact ⟨rfl, rfl⟩)
    (fun os started H enc _ => memAtomic_lifted os started H enc)

theorem memAtomic_card : Rows.MemAtomicCardSaid :=
  Claim7.holds_tied_plain_at .later [] [.handle] true _ true
    memAtomic_row (fun _ h => by cases h) (by kernel_rfl) (fun _ h => by cases h) memAtomic_row_tie rfl ⟨rfl, rfl⟩ (by kernel_rfl) rfl
    (fun f fn hf hfn => by
      obtain rfl : f = 14 := Option.some.inj ((show Tryz.prog.funcNamed "messuage/messuagelaw2.MemAtomic" = some 14 by kernel_rfl).symm.trans hf) |>.symm
      obtain rfl : fn = Tryz.f14 := (Option.some.inj (Tryz.func14.symm.trans hfn)).symm
      refine ⟨by kernel_rfl, fun j t ht => ?_⟩
      rw [Tryz.params14] at ht
      have h3 : t = 53 ∨ t = 22 := by
        rcases j with _ | _ | _ | j
        · exact Or.inl (by simpa using ht.symm)
        · exact Or.inr (by simpa using ht.symm)
        · exact Or.inr (by simpa using ht.symm)
        · simp at ht
      rcases h3 with rfl | rfl
      · exact (show Tryz.prog.wantsStandIn 53 = false by kernel_rfl)
      · exact (show Tryz.prog.wantsStandIn 22 = false by kernel_rfl))
    (by kernel_rfl)
#print axioms memAtomic_card
end Go.Proofs.YtfpnpgpelncgeaaGreatDoor
