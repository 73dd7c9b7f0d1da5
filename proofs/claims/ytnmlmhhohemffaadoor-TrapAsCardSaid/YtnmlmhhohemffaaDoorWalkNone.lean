/- What is proved here: the walk of the statement TrapNone: it answers true and leaves the memory that was there as it was. Conditions: the library's variable errors.errorType holds the type error. -/
import Derived.Test.YtnmlmhhohemffaaDoorCommon
namespace Go.Proofs.YtnmlmhhohemffaaDoor
open Go.RowKit Go.Extern.Stop Go.Stop Go.Extern

set_option maxRecDepth 100000 in
set_option maxHeartbeats 1000000 in
theorem none_walk (w : World) (hg : Held w) :
    Calls Tryd.prog 7 #[] w fun e w' => e = .returned (.bool true) ∧ Below w.heap.size w w' := by
  have hne := fun W b => run_eql_held_nil (P := Tryd.prog) W 30 34 (.pointer (some ⟨b, 0, none⟩)) (by kernel_rfl)
  have HG : Hid (∀ W, Below w.heap.size w W → Held W) := fun W hW => hg.below hW hg.pos
  clear hg
  go_enter Tryd.func7, Tryd.ntmps7
  go_wp2_with fail
  refine (first_miss _ w (asMiss_nil w)).mono ?_
  rintro e w1 ⟨rfl, hb1⟩
  have Hb1 := Lib.hid hb1
  clear hb1
  go_wp2_with fail
  go_loopw [4] (fun v wr => ∃ k : Nat, 1 ≤ k ∧ k ≤ 12 ∧ v = .int .i64 k ∧ Below w.heap.size w wr) (fun v _ => (12 - intOf v).toNat)
  case atStart => exact ⟨1, by omega, by omega, rfl, Hb1.out⟩
  case round =>
    obtain ⟨k, hk1, hk2, rfl, hbl⟩ := hrel
    have Hbl := Lib.hid hbl
    clear hbl
    by_cases hk : k ≤ 11
    · have hkz : (((k : Nat) : Int) == 0) = false := beq_eq_false_iff_ne.2 (by omega)
      have Hkz := Lib.hid hkz
      clear hkz
      go_wp2_with fail
      refine (of_post k Hkz.out wr).mono ?_
      rintro e w2 ⟨o, rfl, ho, hat, hs2, hb2⟩
      have HB2 : Hid (Below w.heap.size w w2) := Hbl.out.trans (hb2.mono Hbl.out.size)
      clear ho hat hs2 hb2
      go_wp2_with fail
      refine (of_post k Hkz.out w2).mono ?_
      rintro e w3 ⟨o2, rfl, ho, hat, hs2, hb3⟩
      have HA3 := Lib.hid hat
      have HB3 : Hid (Below w.heap.size w w3) := HB2.out.trans (hb3.mono HB2.out.size)
      clear ho hat hs2 hb3
      go_wp2_with fail
      refine (chain_code (HG.out _ HB3.out) HA3.out.chain).mono ?_
      rintro e w4 ⟨rfl, hb4⟩
      have HB4 : Hid (Below w.heap.size w w4) := HB3.out.trans (hb4.mono HB3.out.size)
      clear hb4
      go_wp2_with fail
      go_roundw
      case rel => exact ⟨k + 1, by omega, by omega, by go_num, HB4.out⟩
      case measure => simp [intOf]; omega
    · obtain rfl : k = 12 := by omega
      go_wp2_with fail
      refine (begun_any wr (HG.out _ Hbl.out)).mono ?_
      rintro e w2 ⟨rfl, hb2⟩
      have HB2 : Hid (Below w.heap.size w w2) := Hbl.out.trans (hb2.mono Hbl.out.size)
      clear hb2
      go_wp2_with fail
      refine (error_none w2).mono ?_
      rintro e w3 ⟨rfl, rfl⟩
      go_wp2_with fail
      refine (unwrap_nil w2).mono ?_
      rintro e w3 ⟨rfl, rfl⟩
      go_wp2_with fail
      refine (of_post 2 rfl _).mono ?_
      rintro e w4 ⟨o, rfl, ho, hat, hs2, hb4⟩
      have HB4 : Hid (Below w.heap.size w w4) := HB2.out.trans (hb4.mono HB2.out.size)
      clear ho hat hs2 hb4
      go_wp2_with fail
      refine (is_nil _ w4).mono ?_
      rintro e w5 ⟨rfl, rfl⟩
      go_wp2_with fail
      refine (code_nil _).mono ?_
      rintro e w6 ⟨rfl, rfl⟩
      go_wp2_with fail
      refine (depth_miss _ _ (asMiss_nil _)).mono ?_
      rintro e w7 ⟨rfl, hb7⟩
      have HB7 := Lib.hid (HB4.out.trans (hb7.mono HB4.out.size))
      clear hb7
      go_wp2_with fail
      refine (in_nil _ _ _ _ _ _ w7).mono ?_
      rintro e w8 ⟨rfl, hb8⟩
      have HB8 := Lib.hid (HB7.out.trans (hb8.mono HB7.out.size))
      clear hb8
      go_wp2_with fail
      go_ret
      exact ⟨rfl, HB8.out⟩
end Go.Proofs.YtnmlmhhohemffaaDoor
