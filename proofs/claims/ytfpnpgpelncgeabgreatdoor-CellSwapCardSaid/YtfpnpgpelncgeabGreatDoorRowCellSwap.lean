/- What is proved here: the given card of the statement CellSwap: whatever its arguments, in whatever memory in which the library's variable errors.errorType reads as the program's text lays it, the statement returns true, its arguments read as before and nothing else has turned; that variable's content is tied to the program's text. Conditions: none beside the card's own. -/
import Derived.Test.YtfpnpgpelncgeabGreatDoorRow
import Derived.Test.YtfpnpgpelncgeabGreatDoorBegun2
import Derived.Test.YtfpnpgpelncgeabGreatDoorCellSwap
import Derived.Test.YtfpnpgpelncgeabGreatDoorLists3
import Derived.Test.YtfpnpgpelncgeabGreatDoorLists4
namespace Go.Proofs.YtfpnpgpelncgeabGreatDoor
open Go.ChangeShapes Go.WideShapes Go.RowKit

theorem cellSwap_walk (v0 : Int) (v : Value) {W : World} (hs : WordsIn W v) (hv0 : (Lit.int .u64 v0).wf = true) (hbeg : ∀ V, Below W.heap.size W V → BegunAt V) :
    Calls Tryz.prog 10 #[.int .u64 v0, v] W fun e w' => e = .returned (.bool true) ∧ Below W.heap.size W w' := by
  rcases hs with rfl | ⟨a, len, cap, z, rfl, hlc, hcm, hz⟩
  · exact cswap_any v0 hv0 none ⟨0, 0, none⟩ 0 0 (fun h => absurd h (by omega)) (fun _ => 0) W (fun i h => absurd h (by omega)) (fun i h => absurd h (by omega)) hbeg
  · exact cswap_any v0 hv0 (some a) a len cap (fun _ => rfl) z W (fun i hi => (hz i hi).1) (fun i hi => (hz i hi).2) hbeg

set_option maxRecDepth 100000 in
theorem cellSwap_lifted (os : Os) (started : os.Started) (H : Type) (enc : TypeId × Value → H) :
    ReturnsInHanded {} Tryz.checked os 10 .any (fun w args => (Rows.cellSwapSpec.pre enc Tryz.prog Tryz.f10 [] false w args ∧ laidMetH Tryz.prog laid1 w) ∧ sizedMet enc Tryz.prog Tryz.f10 (OpenSpec.ofChange Rows.cellSwapSpec) false w args)
      (Rows.cellSwapSpec.post enc Tryz.prog Tryz.f10 false true false false) := by
  refine returnsInHanded_of_change_and (C := Tryz.checked) (X := fun w _ => laidMetH Tryz.prog laid1 w) (fun _ _ _ hh h => h.of_heap hh) Tryz.own started (by kernel_rfl) Tryz.func10
    (ChangeSpec.witness_at (enc := enc) (C := Tryz.checked) (os := os) (X := fun w _ => laidMetH Tryz.prog laid1 w) false (laidWorld os) #[.int .u64 0, .slice none 0 0] 8 rfl (by kernel_rfl) (by kernel_rfl) (by kernel_rfl) (by kernel_rfl) (by kernel_rfl) (laidWorld_met os _)) ?_
  intro W base args ds gs before hval0 hW _ _ hL _
  have hval : ∀ (j : Nat) t v, Tryz.f10.params[j]? = some t → args[j]? = some v → Value.okWide Tryz.prog W .any base t v := hval0
  have hW' := hW
  have hlt := hW.lt
  obtain ⟨p, q, hA0, hV0, rfl, hfz, hnd⟩ := hW
  have hA : DataW.TrodAll enc Tryz.prog W 0 (fun _ => true) true Tryz.f10.params.toList args.toList ds p := hA0
  have hV : DataW.TrodVars enc Tryz.prog W (fun _ => true) [] gs q := hV0
  rw [Tryz.params10] at hA hval
  obtain ⟨v0, v1, d0, d1, p0, p1, rfl, rfl, rfl, h0, h1⟩ := trodAll_two hA
  obtain ⟨n0, rfl⟩ := okWide_int Tryz.underlying26 (hval 0 26 v0 rfl rfl)
  have hs1 := wordsIn_open h1 (hval 1 55 v1 rfl rfl)
  have hg := held_of_laid hL
  obtain ⟨rfl, rfl⟩ : gs = [] ∧ q = [] := by
    cases gs with
    | nil => exact ⟨rfl, hV⟩
    | cons g r => exact absurd hV (by intro h; cases h)
  have lt0 : ∀ x ∈ p0, x.block < W.heap.size := fun x hx => hlt x (by simp [hx])
  have lt1 : ∀ x ∈ p1, x.block < W.heap.size := fun x hx => hlt x (by simp [hx])
  have e1 : Rows.cellSwapSpec.fn H ([d0, d1] ++ []) = { results := [.lit (.bool true)], args := [d0, d1] } := by simp [Rows.cellSwapSpec]
  refine (cellSwap_walk n0 v1 hs1 (u64_wf (word_in h0)) (fun V hV => begun_at V (hg.below hV hg.pos))).mono fun e W' ⟨he, hw⟩ => ?_
  subst he
  refine ⟨_, rfl, _, _, _, [], p0 ++ (p1), [], hW', ?_, ?_, ?_, hw.frame _, fun h => by cases h⟩
  · rw [e1]; exact trodAll_mk1 (shut_bool Tryz.underlying4 true)
  · rw [e1]; exact trodAll_mk2 (trod_word h0 hw lt0) (trod_wordsIn h1 hw lt1)
  · rw [e1]; rfl

theorem cellSwap_row : Rows.CellSwapSaid :=
  OpenClaim.holds_of_wide 10 Tryz.f10 rfl rfl rfl rfl rfl rfl rfl ⟨rfl, rfl, rfl, rfl, rfl⟩ rfl rfl rfl rfl rfl (by kernel_rfl) Tryz.func10 (by kernel_rfl)
    (of_decide_eq_true (by kernel_rfl)) (by unfold Func.isWrapper; rw [if_neg (of_decide_eq_false (by kernel_rfl))]; exact ⟨rfl, rfl⟩)
    (fun os started H enc _ => cellSwap_lifted os started H enc)

theorem cellSwap_card : Rows.CellSwapCardSaid :=
  Claim7.holds_tied_plain_at .later [] [.handle] true _ true
    cellSwap_row (fun _ h => by cases h) (by kernel_rfl) (fun _ h => by cases h) cellSwap_row_tie rfl ⟨rfl, rfl⟩ (by kernel_rfl) rfl
    (fun f fn hf hfn => by
      obtain rfl : f = 10 := Option.some.inj ((show Tryz.prog.funcNamed "messuage/messuagelaw2.CellSwap" = some 10 by kernel_rfl).symm.trans hf) |>.symm
      obtain rfl : fn = Tryz.f10 := (Option.some.inj (Tryz.func10.symm.trans hfn)).symm
      refine ⟨by kernel_rfl, fun j t ht => ?_⟩
      rw [Tryz.params10] at ht
      have h3 : t = 26 ∨ t = 55 := by
        rcases j with _ | _ | j
        · exact Or.inl (by simpa using ht.symm)
        · exact Or.inr (by simpa using ht.symm)
        · simp at ht
      rcases h3 with rfl | rfl
      · exact (show Tryz.prog.wantsStandIn 26 = false by kernel_rfl)
      · exact (show Tryz.prog.wantsStandIn 55 = false by kernel_rfl))
    (by kernel_rfl)
#print axioms cellSwap_card
end Go.Proofs.YtfpnpgpelncgeabGreatDoor
