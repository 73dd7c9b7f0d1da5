/- What is proved here: the given card of the statement MailAll: whatever its arguments, in whatever memory in which the library's variable errors.errorType reads as the program's text lays it, the statement returns true, its arguments read as before and nothing else has turned; that variable's content is tied to the program's text. Conditions: none beside the card's own. -/
import Derived.Test.YtfpnpgpelncgeaaGreatDoorRow
import Derived.Test.YtfpnpgpelncgeaaGreatDoorBegun2
import Derived.Test.YtfpnpgpelncgeaaGreatDoorMailAll
import Derived.Test.YtfpnpgpelncgeaaGreatDoorLists3
namespace Go.Proofs.YtfpnpgpelncgeaaGreatDoor
open Go.ChangeShapes Go.WideShapes Go.RowKit

theorem mailAll_walk (n : Int) (v : Value) {W : World} (hs : MopsAt W v) (hbeg : ∀ V, Below W.heap.size W V → BegunAt V) :
    Calls Tryz.prog 7 #[.int .i64 n, v] W fun e w' => e = .returned (.bool true) ∧ Below W.heap.size W w' := by
  by_cases hn : n < 1 ∨ 8 < n
  · exact mall_bad n hn v W hbeg
  · obtain ⟨C, rfl⟩ : ∃ C : Nat, n = C := ⟨n.toNat, by omega⟩
    rcases hs with rfl | ⟨a, len, cap, z, rfl, hlc, hcm, hz⟩
    · exact mall_some C (by omega) (by omega) none ⟨0, 0, none⟩ 0 0 (fun h => absurd h (by omega)) (fun _ => 0) (fun _ => 0) (fun _ => 0) (fun _ => 0) W (fun i h => absurd h (by omega)) (fun i h => absurd h (by omega)) (fun i h => absurd h (by omega)) (fun i h => absurd h (by omega)) (fun i h => absurd h (by omega)) hbeg
    · exact mall_some C (by omega) (by omega) (some a) a len cap (fun _ => rfl) (fun i => z i 0) (fun i => z i 1) (fun i => z i 2) (fun i => z i 3) W (fun i hi => (hz i hi).2.2 0 (by omega)) (fun i hi => (hz i hi).2.2 1 (by omega)) (fun i hi => (hz i hi).2.2 2 (by omega)) (fun i hi => (hz i hi).2.1) (fun i hi => (hz i hi).1) hbeg

set_option maxRecDepth 100000 in
theorem mailAll_lifted (os : Os) (started : os.Started) (H : Type) (enc : TypeId × Value → H) :
    ReturnsInHanded {} Tryz.checked os 7 .any (fun w args => (Rows.mailAllSpec.pre enc Tryz.prog Tryz.f7 [] false w args ∧ laidMetH Tryz.prog laid1 w) ∧ sizedMet enc Tryz.prog Tryz.f7 (OpenSpec.ofChange Rows.mailAllSpec) false w args)
      (Rows.mailAllSpec.post enc Tryz.prog Tryz.f7 false true false false) := by
  refine returnsInHanded_of_change_and (C := Tryz.checked) (X := fun w _ => laidMetH Tryz.prog laid1 w) (fun _ _ _ hh h => h.of_heap hh) Tryz.own started (by kernel_rfl) Tryz.func7
    (ChangeSpec.witness_at (enc := enc) (C := Tryz.checked) (os := os) (X := fun w _ => laidMetH Tryz.prog laid1 w) false (laidWorld os) #[.int .i64 0, .slice none 0 0] 8 rfl (by kernel_rfl) (by kernel_rfl) (by kernel_rfl) (by kernel_rfl) (by kernel_rfl) (laidWorld_met os _)) ?_
  intro W base args ds gs before hval0 hW _ _ hL _
  have hval : ∀ (j : Nat) t v, Tryz.f7.params[j]? = some t → args[j]? = some v → Value.okWide Tryz.prog W .any base t v := hval0
  have hW' := hW
  have hlt := hW.lt
  obtain ⟨p, q, hA0, hV0, rfl, hfz, hnd⟩ := hW
  have hA : DataW.TrodAll enc Tryz.prog W 0 (fun _ => true) true Tryz.f7.params.toList args.toList ds p := hA0
  have hV : DataW.TrodVars enc Tryz.prog W (fun _ => true) [] gs q := hV0
  rw [Tryz.params7] at hA hval
  obtain ⟨v0, v1, d0, d1, p0, p1, rfl, rfl, rfl, h0, h1⟩ := trodAll_two hA
  obtain ⟨n0, rfl⟩ := okWide_int Tryz.underlying3 (hval 0 3 v0 rfl rfl)
  have hs1 := mops_open h1 (hval 1 79 v1 rfl rfl)
  have hg := held_of_laid hL
  obtain ⟨rfl, rfl⟩ : gs = [] ∧ q = [] := by
    cases gs with
    | nil => exact ⟨rfl, hV⟩
    | cons g r => exact absurd hV (by intro h; cases h)
  have lt0 : ∀ x ∈ p0, x.block < W.heap.size := fun x hx => hlt x (by simp [hx])
  have lt1 : ∀ x ∈ p1, x.block < W.heap.size := fun x hx => hlt x (by simp [hx])
  have e1 : Rows.mailAllSpec.fn H ([d0, d1] ++ []) = { results := [.lit (.bool true)], args := [d0, d1] } := by simp [Rows.mailAllSpec]
  refine (mailAll_walk n0 v1 hs1  (fun V hV => begun_at V (hg.below hV hg.pos))).mono fun e W' ⟨he, hw⟩ => ?_
  subst he
  refine ⟨_, rfl, _, _, _, [], p0 ++ (p1), [], hW', ?_, ?_, ?_, hw.frame _, fun h => by cases h⟩
  · rw [e1]; exact trodAll_mk1 (shut_bool Tryz.underlying4 true)
  · rw [e1]; exact trodAll_mk2 (trod_int h0 hw lt0) (trod_mops h1 hw lt1)
  · rw [e1]; rfl

theorem mailAll_row : Rows.MailAllSaid :=
  OpenClaim.holds_of_wide 7 Tryz.f7 rfl rfl rfl rfl rfl rfl rfl ⟨rfl, rfl, rfl, rfl, rfl⟩ rfl rfl rfl rfl rfl (by kernel_rfl) Tryz.func7 (by kernel_rfl)
    (of_decide_eq_true (by kernel_rfl)) (by unfold Func.isWrapper; rw [if_neg (of_decide_eq_false (by kernel_rfl))]; exact ⟨rfl, rfl⟩)
    (fun os started H enc _ => mailAll_lifted os started H enc)

theorem mailAll_card : Rows.MailAllCardSaid :=
  Claim7.holds_tied_plain_at .later [] [.handle] true _ true
    mailAll_row (fun _ h => by cases h) (by kernel_rfl) (fun _ h => by cases h) mailAll_row_tie rfl ⟨rfl, rfl⟩ (by kernel_rfl) rfl
    (fun f fn hf hfn => by
      obtain rfl : f = 7 := Option.some.inj ((show Tryz.prog.funcNamed "messuage/messuagelaw2.MailAll" = some 7 by kernel_rfl).symm.trans hf) |>.symm
      obtain rfl : fn = Tryz.f7 := (Option.some.inj (Tryz.func7.symm.trans hfn)).symm
      refine ⟨by kernel_rfl, fun j t ht => ?_⟩
      rw [Tryz.params7] at ht
      have h3 : t = 3 ∨ t = 79 := by
        rcases j with _ | _ | j
        · exact Or.inl (by simpa using ht.symm)
        · exact Or.inr (by simpa using ht.symm)
        · simp at ht
      rcases h3 with rfl | rfl
      · exact (show Tryz.prog.wantsStandIn 3 = false by kernel_rfl)
      · exact (show Tryz.prog.wantsStandIn 79 = false by kernel_rfl))
    (by kernel_rfl)
#print axioms mailAll_card
end Go.Proofs.YtfpnpgpelncgeaaGreatDoor
