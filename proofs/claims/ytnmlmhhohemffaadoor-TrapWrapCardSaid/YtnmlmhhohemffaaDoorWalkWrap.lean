/- What is proved here: the walk of the statement TrapWrap: for all n, env and words it answers true and leaves the memory that was there as it was. Conditions: the library's variable errors.errorType holds the type error. -/
import Derived.Test.YtnmlmhhohemffaaDoorCommon
namespace Go.Proofs.YtnmlmhhohemffaaDoor
open Go.RowKit Go.Extern.Stop Go.Stop Go.Extern

set_option maxRecDepth 100000 in
set_option maxHeartbeats 1000000 in
theorem wrap_walk (n env x0 x1 x2 x3 x4 : Int) (w : World) (hg : Held w) :
    Calls Tryd.prog 5 #[.int .i64 n, .int .i64 env, .agg #[.int .u64 x0, .int .u64 x1, .int .u64 x2, .int .u64 x3, .int .u64 x4]] w fun e w' => e = .returned (.bool true) ∧ Below w.heap.size w w' := by
  obtain ⟨c, hc1, hc2, hcn⟩ := code_c n
  have HCn := Lib.hid hcn
  have hcz : (((c : Nat) : Int) == 0) = false := beq_eq_false_iff_ne.2 (by omega)
  have HCz := Lib.hid hcz
  have HG : Hid (∀ W, Below w.heap.size w W → Held W) := fun W hW => hg.below hW hg.pos
  have HB0 := Lib.hid ((Below.refl w.heap.size w).alloc (Nat.le_refl _) (.cells #[.int .u64 x0, .int .u64 x1, .int .u64 x2, .int .u64 x3, .int .u64 x4] 25))
  have HBg := Lib.hid (begun_any _ (HG.out _ HB0.out))
  have hcall := eql_call 0 0 0 0 0
  obtain ⟨i, hi, hcmp⟩ := Option.map_eq_some_iff.1 Tryd.isCompP
  obtain ⟨j, hj, _⟩ := Option.map_eq_some_iff.1 Tryd.isSizeP
  have heq := fun W b => run_eql_iface_ptr_same (P := Tryd.prog) W ⟨b, 0, none⟩ Tryd.underlying30 Tryd.underlying34 hi hcmp hj
  clear hcn hcz hg hi hcmp hj
  go_enter Tryd.func5, Tryd.ntmps5
  go_wp2_with fail
  refine HBg.out.mono ?_
  rintro e w1 ⟨rfl, hb1⟩
  have Hb1 := Lib.hid hb1
  have HB1 : Hid (Below w.heap.size w w1) := HB0.out.trans (hb1.mono HB0.out.size)
  clear hb1
  go_wp2_with (go_at_call 12; refine (HCn.out _).mono ?_; rintro e w' ⟨rfl, rfl⟩)
  refine (of_post c HCz.out w1).mono ?_
  rintro e w2 ⟨o, rfl, ho, hat, hs2, hb2⟩
  have HO2 := Lib.hid hat
  have hs : o + 1 = w2.heap.size := hs2.symm
  have HB2 : Hid (Below w.heap.size w w2) := HB1.out.trans (hb2.mono HB1.out.size)
  have Hb2 := Lib.hid (Hb1.out.trans (hb2.mono Hb1.out.size))
  have l0 := box_cells Hb2.out 0
  have l1 := box_cells Hb2.out 1
  have l2 := box_cells Hb2.out 2
  have l3 := box_cells Hb2.out 3
  have l4 := box_cells Hb2.out 4
  have Hs := Lib.hid hs
  clear ho hat hs2 hb2 hs
  go_wp2_with fail
  refine (in_chain (HG.out _ HB2.out) HO2.out.chain (Nat.le_of_eq Hs.out) env x0 x1 x2 x3 x4).mono ?_
  intro e w3 hi
  obtain ⟨b, rfl, hbo, ht, hb3, hch⟩ := chain_in HO2.out.chain (Nat.le_of_eq Hs.out) hi
  have HB3 : Hid (Below w.heap.size w w3) := HB2.out.trans (hb3.mono HB2.out.size)
  have HO3 : Hid (∀ W, Below w3.heap.size w3 W → OfAt W o c) := fun W hW => HO2.out.later (hb3.trans (hW.mono hb3.size)) (by have := Hs.out; omega)
  have HT := Lib.hid ht
  have HC := Lib.hid hch
  have hbl : b < w3.heap.size := lt_of_block ht
  have hol : o < b := by have := Hs.out; omega
  clear hi ht hb3 hch l0 l1 l2 l3 l4
  go_wp2_with fail
  refine (chain_first (HG.out _ HB3.out) o).mono ?_
  rintro e w4 ⟨rfl, hb4⟩
  have Hb4 := Lib.hid hb4
  have HB4 : Hid (Below w.heap.size w w4) := HB3.out.trans (hb4.mono HB3.out.size)
  have HU := Lib.hid (Unwrap_trap b _ w4 (cell_of_block (HT.out.later hb4 hbl) 7))
  have HU2 := Lib.hid (Unwrap_trap o _ w4 (cell_of_block (HO3.out _ hb4) 7))
  clear hb4
  go_wp2_with fail
  refine HU.out.mono ?_
  rintro e w' ⟨rfl, rfl⟩
  go_wp2_with fail
  refine HU2.out.mono ?_
  rintro e w' ⟨rfl, rfl⟩
  go_wp2_with fail
  refine (chain_is_yes (HG.out _ HB4.out) (HC.out.later Hb4.out (Nat.le_refl _)) (HO3.out _ Hb4.out) (by omega)).mono ?_
  rintro e w5 ⟨rfl, hb5⟩
  have Hb5 : Hid (Below w3.heap.size w3 w5) := Hb4.out.trans (hb5.mono Hb4.out.size)
  have HB5 : Hid (Below w.heap.size w w5) := HB4.out.trans (hb5.mono HB4.out.size)
  have HO5 := Lib.hid (HO3.out _ Hb5.out)
  have l1 := cell_of_block HO5.out 1
  have l2 := cell_of_block HO5.out 2
  have l3 := cell_of_block HO5.out 3
  have l4 := cell_of_block HO5.out 4
  have l5 := cell_of_block HO5.out 5
  have l6 := cell_of_block HO5.out 6
  have l7 := cell_of_block HO5.out 7
  clear hb5
  go_wp2_with fail
  refine (chain_depth (HG.out _ HB5.out) HO5.out.chain (by have := Hb5.out.size; omega) (fun W _ => asMiss_nil W)).mono ?_
  rintro e w6 ⟨rfl, hb6⟩
  have HB6 : Hid (Below w.heap.size w w6) := HB5.out.trans (hb6.mono HB5.out.size)
  clear hb6
  go_wp2_with fail
  go_ret
  exact ⟨rfl, HB6.out⟩
end Go.Proofs.YtnmlmhhohemffaaDoor
