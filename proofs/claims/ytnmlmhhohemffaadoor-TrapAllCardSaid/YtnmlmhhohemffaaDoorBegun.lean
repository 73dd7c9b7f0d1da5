/- What is proved here: the statements' own check begun answers true, and leaves the memory that was there as it was. Conditions: the library's variable errors.errorType holds the type error. -/
import Derived.Test.YtnmlmhhohemffaaDoorCall
namespace Go.Proofs.YtnmlmhhohemffaaDoor
open Go.RowKit Go.Extern.Stop Go.Stop Go.Extern

theorem text_33 : (repText 3 1 ++ trapText 3).toArray = #[116, 114, 97, 112, 32, 51, 58, 32, 116, 114, 97, 112, 32, 51] := by
  simp [repText, trapText, decDigits_small]

set_option maxRecDepth 100000 in
set_option maxHeartbeats 1000000 in
theorem begun_any (w : World) (hg : Held w) :
    Calls Tryd.prog 11 #[] w fun e w' => e = .returned (.bool true) ∧ Below w.heap.size w w' := by
  have hne := fun W b => run_eql_held_nil (P := Tryd.prog) W 30 34 (.pointer (some ⟨b, 0, none⟩)) (by kernel_rfl)
  have mE := Tryd.methodErrorP
  have hcall := eql_call 1 2 0 0 0
  have HG : Hid (∀ W, Below w.heap.size w W → Held W) := fun W hW => hg.below hW hg.pos
  clear hg
  go_enter Tryd.func11, Tryd.ntmps11
  go_wp2_with fail
  refine (of_post 3 rfl w).mono ?_
  rintro e w1 ⟨o, rfl, ho, hat, hs1, hb1⟩
  have Hb1 := Lib.hid hb1
  have HO := Lib.hid hat
  have Hs1 := Lib.hid hs1
  clear ho hat hs1 hb1
  go_wp2_with fail
  refine (in_chain (HG.out _ Hb1.out) HO.out.chain (by rw [Hs1.out]; omega) 2 1 2 0 0 0).mono ?_
  intro e w2 hi
  obtain ⟨b, rfl, _, ht, hb2, hc⟩ := chain_in HO.out.chain (by rw [Hs1.out]; omega) hi
  have Hb2 : Hid (Below w.heap.size w w2) := Hb1.out.trans (hb2.mono Hb1.out.size)
  have HT := Lib.hid ht
  have HC : Hid (∀ W, Below w2.heap.size w2 W → Chain W 3 .nilIface 2 w2.heap.size (ptrErr b)) := fun W hW => hc.later hW (Nat.le_refl _)
  have hbl : b < w2.heap.size := lt_of_block ht
  clear hi ht hb2 hc HO
  go_wp2_with fail
  refine (chain_first (HG.out _ Hb2.out) b).mono ?_
  rintro e w3 ⟨rfl, hb3⟩
  have HB3 := Lib.hid hb3
  have HT3 := Lib.hid (HT.out.later hb3 hbl)
  have l0 := cell_of_block HT3.out 0
  have l1 := cell_of_block HT3.out 1
  have l2 := cell_of_block HT3.out 2
  have l3 := cell_of_block HT3.out 3
  have l4 := cell_of_block HT3.out 4
  have l5 := cell_of_block HT3.out 5
  have l6 := cell_of_block HT3.out 6
  clear hb3
  go_wp2_with fail
  refine (chain_code (HG.out _ (Hb2.out.trans (HB3.out.mono Hb2.out.size))) (HC.out _ HB3.out)).mono ?_
  rintro e w4 ⟨rfl, hb4⟩
  have HB4 : Hid (Below w2.heap.size w2 w4) := HB3.out.trans (hb4.mono HB3.out.size)
  clear hb4 l0 l1 l2 l3 l4 l5 l6 HT3
  go_wp2_with fail
  refine (chain_depth (HG.out _ (Hb2.out.trans (HB4.out.mono Hb2.out.size))) (HC.out _ HB4.out) HB4.out.size (fun W _ => asMiss_nil W)).mono ?_
  rintro e w5 ⟨rfl, hb5⟩
  have HB5 : Hid (Below w2.heap.size w2 w5) := HB4.out.trans (hb5.mono HB4.out.size)
  clear hb5
  go_wp2_with fail
  refine (of_post 3 rfl w5).mono ?_
  rintro e w6 ⟨t, rfl, ht, hat, _, hb6⟩
  have HA6 := Lib.hid hat
  have HB6 : Hid (Below w2.heap.size w2 w6) := HB5.out.trans (hb6.mono HB5.out.size)
  have ht6 : w2.heap.size ≤ t := by rw [ht]; exact HB5.out.size
  clear ht hat hb6
  go_wp2_with fail
  refine (chain_is_yes (HG.out _ (Hb2.out.trans (HB6.out.mono Hb2.out.size))) (HC.out _ HB6.out) HA6.out (by omega)).mono ?_
  rintro e w7 ⟨rfl, hb7⟩
  have HB7 : Hid (Below w2.heap.size w2 w7) := HB6.out.trans (hb7.mono HB6.out.size)
  clear hb7
  go_wp2_with fail
  refine (of_post 4 rfl w7).mono ?_
  rintro e w8 ⟨t2, rfl, ht, hat, _, hb8⟩
  have HA8 := Lib.hid hat
  have HB8 : Hid (Below w2.heap.size w2 w8) := HB7.out.trans (hb8.mono HB7.out.size)
  have ht8 : w2.heap.size ≤ t2 := by rw [ht]; exact HB7.out.size
  clear ht hat hb8
  go_wp2_with fail
  refine (chain_is_no (HG.out _ (Hb2.out.trans (HB8.out.mono Hb2.out.size))) (HC.out _ HB8.out) HA8.out (by decide) ht8).mono ?_
  rintro e w9 ⟨rfl, hb9⟩
  have HB9 : Hid (Below w2.heap.size w2 w9) := HB8.out.trans (hb9.mono HB8.out.size)
  clear hb9
  go_wp2_with fail
  have he := chain_error (c := 3) (HG.out _ (Hb2.out.trans (HB9.out.mono Hb2.out.size))) (HC.out _ HB9.out) HB9.out.size (by omega) (by omega)
  rw [text_33] at he
  refine he.mono ?_
  clear he
  rintro e wa ⟨rfl, hba⟩
  have HBa : Hid (Below w2.heap.size w2 wa) := HB9.out.trans (hba.mono HB9.out.size)
  clear hba
  go_wp2_with fail
  refine (of_zero wa).mono ?_
  rintro e wb ⟨rfl, rfl⟩
  go_wp2_with fail
  go_ret
  exact ⟨rfl, Hb2.out.trans (HBa.out.mono Hb2.out.size)⟩
end Go.Proofs.YtnmlmhhohemffaaDoor
