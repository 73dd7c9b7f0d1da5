/- What is proved here: the walk of the statement TrapOf: for all n and m it answers true and leaves the memory that was there as it was. Conditions: the library's variable errors.errorType holds the type error. -/
import Derived.Test.YtnmlmhhohemffaaDoorBegun
import Derived.Deep.RegionWith
namespace Go.Proofs.YtnmlmhhohemffaaDoor
open Go.RowKit Go.Extern.Stop Go.Stop Go.Extern

theorem code_c (n : Int) : ∃ c : Nat, 1 ≤ c ∧ c ≤ 11 ∧ ∀ W, Calls Tryd.prog 12 #[.int .i64 n] W fun e w' => e = .returned (.int .i64 c) ∧ W = w' :=
  ⟨cn n, (cn_range n).1, (cn_range n).2, fun W => (code_any n W).mono fun _ _ ⟨h1, h2⟩ => ⟨h1, h2.symm⟩⟩

/-- The string that 'trap ' and a number make. -/
theorem trapText_add (c : Nat) : ByteArray.mk #[116, 114, 97, 112, 32] ++ ByteArray.mk (Lib.decDigits c).toArray = ByteArray.mk (trapText c).toArray := by
  apply ByteArray.ext
  simp [ByteArray.data_append, trapText]

set_option maxRecDepth 100000 in
set_option maxHeartbeats 1000000 in
theorem of_walk (n m : Int) (w : World) (hg : Held w) :
    Calls Tryd.prog 8 #[.int .i64 n, .int .i64 m] w fun e w' => e = .returned (.bool true) ∧ Below w.heap.size w w' := by
  obtain ⟨c, hc1, hc2, hcn⟩ := code_c n
  obtain ⟨d, hd1, hd2, hcm⟩ := code_c m
  have HCn := Lib.hid hcn
  have HCm := Lib.hid hcm
  have mE := Tryd.methodErrorP
  have HG : Hid (∀ W, Below w.heap.size w W → Held W) := fun W hW => hg.below hW hg.pos
  have HBg := Lib.hid (begun_any w hg)
  have hcz : (((c : Nat) : Int) == 0) = false := beq_eq_false_iff_ne.2 (by omega)
  have hdz : (((d : Nat) : Int) == 0) = false := beq_eq_false_iff_ne.2 (by omega)
  have HCz := Lib.hid hcz
  have HDz := Lib.hid hdz
  clear hcn hcm hg hcz hdz
  have HN := Lib.hid (number_any c ⟨hc1, hc2⟩)
  have hl := decDigits_length c (by omega)
  have HCD : Hid (∀ W t o B, Held W → Chain W c .nilIface 1 B (ptrErr o) → OfAt W t d → B ≤ t → Calls Tryd.prog 19 #[ptrErr o, ptrErr t] W fun e w' => e = .returned (.bool (decide (c = d))) ∧ Below W.heap.size W w') := by
    intro W t o B hg hch hat hB
    have h := chain_is hg hch hat hB
    have he : (((d : Nat) : Int) == ((c : Nat) : Int)) = decide (c = d) := by
      rw [Bool.eq_iff_iff, beq_iff_eq, decide_eq_true_iff]; omega
    rw [he] at h
    exact h
  have hq : (((c : Nat) : Int) == ((d : Nat) : Int)) = decide (c = d) := by
    rw [Bool.eq_iff_iff, beq_iff_eq, decide_eq_true_iff]; omega
  generalize decide (c = d) = q at *
  go_enter Tryd.func8, Tryd.ntmps8
  go_wp2_with fail
  refine HBg.out.mono ?_
  rintro e w1 ⟨rfl, hb1⟩
  have Hb1 := Lib.hid hb1
  clear hb1
  go_wp2_with (first
      | (go_at_call_of 12 (Value.int IntKind.i64 n); refine (HCn.out _).mono ?_; rintro e w' ⟨rfl, rfl⟩)
      | (go_at_call_of 12 (Value.int IntKind.i64 m); refine (HCm.out _).mono ?_; rintro e w' ⟨rfl, rfl⟩))
  refine (of_post c HCz.out w1).mono ?_
  rintro e w2 ⟨o, rfl, ho, hat, hs2, hb2⟩
  have HO2 := Lib.hid hat
  have HS2 := Lib.hid hs2
  have HB2 : Hid (Below w.heap.size w w2) := Hb1.out.trans (hb2.mono Hb1.out.size)
  clear ho hat hs2 hb2
  go_wp2_with (first
      | (go_at_call_of 12 (Value.int IntKind.i64 n); refine (HCn.out _).mono ?_; rintro e w' ⟨rfl, rfl⟩)
      | (go_at_call_of 12 (Value.int IntKind.i64 m); refine (HCm.out _).mono ?_; rintro e w' ⟨rfl, rfl⟩))
  refine (of_post d HDz.out w2).mono ?_
  rintro e w3 ⟨t, rfl, ht, hat, hs3, hb3⟩
  have HT3 := Lib.hid hat
  have HC3 : Hid (Chain w3 c .nilIface 1 (o + 1) (ptrErr o)) := HO2.out.chain.later hb3 (by rw [HS2.out]; exact Nat.le_refl _)
  have HB3 : Hid (Below w.heap.size w w3) := HB2.out.trans (hb3.mono HB2.out.size)
  have hto : o + 1 ≤ t := by rw [ht, HS2.out]; exact Nat.le_refl _
  have hts : t + 1 = w3.heap.size := hs3.symm
  have HL : Hid (∀ W, Below w3.heap.size w3 W → Chain W c .nilIface 1 (o + 1) (ptrErr o)) := fun W hW => HC3.out.later hW (by omega)
  clear ht hat hs3 hb3
  go_wp2_with (first
      | (go_at_call_of 12 (Value.int IntKind.i64 n); refine (HCn.out _).mono ?_; rintro e w' ⟨rfl, rfl⟩)
      | (go_at_call_of 12 (Value.int IntKind.i64 m); refine (HCm.out _).mono ?_; rintro e w' ⟨rfl, rfl⟩))
  refine (HCD.out w3 t o (o + 1) (HG.out _ HB3.out) HC3.out HT3.out hto).mono ?_
  rintro e w4 ⟨rfl, hb4⟩
  have Hb4 := Lib.hid hb4
  have HB4 : Hid (Below w.heap.size w w4) := HB3.out.trans (hb4.mono HB3.out.size)
  clear hb4
  go_wp2_with (first
      | (go_at_call_of 12 (Value.int IntKind.i64 n); refine (HCn.out _).mono ?_; rintro e w' ⟨rfl, rfl⟩)
      | (go_at_call_of 12 (Value.int IntKind.i64 m); refine (HCm.out _).mono ?_; rintro e w' ⟨rfl, rfl⟩))
  refine (chain_code (HG.out _ HB4.out) (HL.out _ Hb4.out)).mono ?_
  rintro e w5 ⟨rfl, hb5⟩
  have Hb5 : Hid (Below w3.heap.size w3 w5) := Hb4.out.trans (hb5.mono Hb4.out.size)
  have HB5 : Hid (Below w.heap.size w w5) := HB4.out.trans (hb5.mono HB4.out.size)
  clear hb5
  go_wp2_with (first
      | (go_at_call_of 12 (Value.int IntKind.i64 n); refine (HCn.out _).mono ?_; rintro e w' ⟨rfl, rfl⟩)
      | (go_at_call_of 12 (Value.int IntKind.i64 m); refine (HCm.out _).mono ?_; rintro e w' ⟨rfl, rfl⟩))
  have he := chain_error (c := c) (HG.out _ HB5.out) (HL.out _ Hb5.out) (by have := Hb5.out.size; omega) (by omega) (by omega)
  rw [show repText c 0 ++ trapText c = trapText c from rfl, ← trapText_add] at he
  refine he.mono ?_
  clear he
  rintro e w6 ⟨rfl, hb6⟩
  have Hb6 : Hid (Below w3.heap.size w3 w6) := Hb5.out.trans (hb6.mono Hb5.out.size)
  have HB6 : Hid (Below w.heap.size w w6) := HB5.out.trans (hb6.mono HB5.out.size)
  clear hb6
  go_wp2_with (first
      | (go_at_call_of 12 (Value.int IntKind.i64 n); refine (HCn.out _).mono ?_; rintro e w' ⟨rfl, rfl⟩)
      | (go_at_call_of 12 (Value.int IntKind.i64 m); refine (HCm.out _).mono ?_; rintro e w' ⟨rfl, rfl⟩))
  refine (HN.out w6).mono ?_
  rintro e w7 ⟨rfl, hb7⟩
  have Hb7 : Hid (Below w3.heap.size w3 w7) := Hb6.out.trans (hb7.mono Hb6.out.size)
  have HB7 : Hid (Below w.heap.size w w7) := HB6.out.trans (hb7.mono HB6.out.size)
  clear hb7
  go_wp2_with fail
  refine (chain_depth (HG.out _ HB7.out) (HL.out _ Hb7.out) (by have := Hb7.out.size; omega) (fun W _ => asMiss_nil W)).mono ?_
  rintro e w8 ⟨rfl, hb8⟩
  have HB8 : Hid (Below w.heap.size w w8) := HB7.out.trans (hb8.mono HB7.out.size)
  clear hb8
  go_wp2_with fail
  go_ret
  exact ⟨rfl, HB8.out⟩
end Go.Proofs.YtnmlmhhohemffaaDoor
