/- What is proved here: the statement KernelNone: it returns true and leaves what was there. Conditions: what packages plain, caps, epoch, pred and user tell of no object, of an environment that is not, of no operator (NoneC); the statements' own beginning returns true. -/
import Derived.Test.YtmifcfkchnilmaaGreatDoorGUser
import Derived.RegionTactic
import Derived.WalkArith
import Derived.WalkSpells
namespace Go.Proofs.YtmifcfkchnilmaaGreatDoor
open Go.RowKit Go.Extern.Stop Go.Stop Go.Extern Go.WalkArith
structure NoneC (Hd : World → Prop) : Prop where
  later : ∀ w w' : World, Hd w → Below w.heap.size w w' → Hd w'
  do_ : ∀ w : World, Calls Tryz.prog 52 #[.pointer none, .int .i64 0, .agg #[.int .u64 10, .int .u64 0, .int .u64 0, .int .u64 0, .int .u64 0]] w fun x w' => (∃ u : Int, x = .returned (.tuple #[.agg #[.int .i64 10, .int .u64 u], .bool true])) ∧ Below w.heap.size w w'
  cap_ : ∀ w : World, Calls Tryz.prog 53 #[.pointer none, .int .i64 0, .int .i64 0] w fun x w' => x = .returned (.tuple #[.agg #[.int .i64 0, .int .i64 0, .int .i64 0, .int .i64 0], .bool false]) ∧ Below w.heap.size w w'
  touch_ : ∀ w : World, Calls Tryz.prog 54 #[.pointer none, .int .i64 0, .agg #[.int .u64 20, .int .u64 0, .int .u64 0, .int .u64 0, .int .u64 0]] w fun x w' => (∃ e u : Int, x = .returned (.tuple #[.agg #[.int .i64 e, .int .u64 u], .bool false])) ∧ Below w.heap.size w w'
  drop_ : ∀ w : World, Calls Tryz.prog 23 #[.pointer none, .int .i64 0, .int .i64 0] w fun x w' => (∃ v, x = .returned (.tuple #[v, .int .i64 10])) ∧ Below w.heap.size w w'
  begin_ : ∀ w : World, Calls Tryz.prog 55 #[.pointer none, .int .i64 0] w fun x w' => (∃ v, x = .returned (.tuple #[v, .bool false])) ∧ Below w.heap.size w w'
  err_ : ∀ w : World, Hd w → Calls Tryz.prog 57 #[.pointer none, .int .i64 0, .agg #[.int .u64 0, .int .u64 0, .int .u64 0, .int .u64 0, .int .u64 0]] w fun x w' => (∃ v, x = .returned v ∧ ∀ W, Below w'.heap.size w' W → Calls Tryz.prog 56 #[v] W fun y W' => y = .returned (.int .i64 10) ∧ Below W.heap.size W W') ∧ Below w.heap.size w w'
  free_ : ∀ w : World, Calls Tryz.prog 58 #[.pointer none] w fun x w' => (∃ o c, x = .returned (.slice o 0 c)) ∧ Below w.heap.size w w'
  frame_ : ∀ w : World, Calls Tryz.prog 59 #[.pointer none, .int .i64 0] w fun x w' => x = .returned (.slice none 0 0) ∧ Below w.heap.size w w'
  copy_ : ∀ w : World, Calls Tryz.prog 60 #[.pointer none] w fun x w' => x = .returned (.pointer none) ∧ Below w.heap.size w w'
  root_ : ∀ w : World, Calls Tryz.prog 19 #[.pointer none, .int .i64 0, .int .i64 0, .int .i64 0] w fun x w' => x = .returned (.int .i64 10) ∧ Below w.heap.size w w'
  below_ : ∀ w : World, Calls Tryz.prog 27 #[.pointer none, .int .i64 0, .int .i64 0] w fun x w' => (∃ o c, x = .returned (.slice o 0 c)) ∧ Below w.heap.size w w'
  done_ : ∀ w : World, Calls Tryz.prog 61 #[.pointer none, .int .u64 1] w fun x w' => x = .returned (.bool false) ∧ Below w.heap.size w w'
  now_ : ∀ w : World, Calls Tryz.prog 62 #[.pointer none] w fun x w' => x = .returned (.int .u64 0) ∧ Below w.heap.size w w'
  ack_ : ∀ w : World, Calls Tryz.prog 63 #[.pointer none, .int .i64 0, .int .u64 1] w fun x w' => x = .returned (.bool false) ∧ Below w.heap.size w w'
  may_ : ∀ w : World, Calls Tryz.prog 29 #[.int .i64 0] w fun x w' => x = .returned (.bool false) ∧ Below w.heap.size w w'
  user_ : ∀ (T U M : Nat) (w : World), Calls Tryz.prog 40 #[.pointer (some ⟨T, 0, none⟩), .pointer (some ⟨U, 0, none⟩), .pointer (some ⟨M, 0, none⟩), .int .i64 9, .agg #[.int .u64 20, .int .u64 0, .int .u64 0, .int .u64 0, .int .u64 0]] w fun x w' => x = .returned (.tuple #[.agg #[.int .i64 10, .int .u64 0], .agg #[.int .i64 0, .int .i64 0, .int .i64 0, .int .i64 0]]) ∧ Below w.heap.size w w'
theorem user_none (H : UserC) (T U M : Nat) (w : World) : Calls Tryz.prog 40 #[.pointer (some ⟨T, 0, none⟩), .pointer (some ⟨U, 0, none⟩), .pointer (some ⟨M, 0, none⟩), .int .i64 9, .agg #[.int .u64 20, .int .u64 0, .int .u64 0, .int .u64 0, .int .u64 0]] w fun x w' => x = .returned (.tuple #[.agg #[.int .i64 10, .int .u64 0], .agg #[.int .i64 0, .int .i64 0, .int .i64 0, .int .i64 0]]) ∧ Below w.heap.size w w' :=
  H.err_ T U M 9 20 0 0 0 0 w (by unfold wordsIn; omega) (by decide)
set_option maxRecDepth 100000 in
set_option maxHeartbeats 8000000 in
theorem knone_any {Hd : World → Prop} (H : NoneC Hd) (w : World) (hg : Hd w) (hbeg : ∀ V, Below w.heap.size w V → BegunAt11 V) :
    Calls Tryz.prog 7 #[] w fun e w' => e = .returned (.bool true) ∧ Below w.heap.size w w' := by
  have HB := Lib.hid hbeg
  have HH := Lib.hid H
  have HG := Lib.hid hg
  clear hbeg H hg
  have S0 := Lib.hid (Side.start w)
  have hnil : ∀ W, (binOp .eql 120 (.slice none 0 0) (.slice none 0 0)).run Tryz.prog W = .ok (.bool true) W := fun W => Lib.run_eql_slice_nil W _ _ none 0 0 0 0 Tryz.underlying120
  go_enter Tryz.func7, Tryz.ntmps7
  go_wp2_with fail
  refine (HH.out.do_ _).mono ?_
  rintro x w1 ⟨⟨u, rfl⟩, hb⟩
  have S1 := Lib.hid ((S0.out.under hb).box (.cells #[.int .i64 10, .int .u64 u] 85))
  clear hb S0
  go_wp2_with fail
  refine (HH.out.cap_ _).mono ?_
  rintro x w2 ⟨rfl, hb⟩
  have S2 := Lib.hid ((S1.out.under hb).box (.cells #[.int .i64 0, .int .i64 0, .int .i64 0, .int .i64 0] 109))
  clear hb S1
  go_wp2_with fail
  refine (HH.out.touch_ _).mono ?_
  rintro x w3 ⟨⟨e3, u3, rfl⟩, hb⟩
  have S3 := Lib.hid ((S2.out.under hb).box (.cells #[.int .i64 e3, .int .u64 u3] 85))
  clear hb S2
  go_wp2_with fail
  refine (HH.out.drop_ _).mono ?_
  rintro x w4 ⟨⟨v4, rfl⟩, hb⟩
  have S4 := Lib.hid (S3.out.under hb)
  clear hb S3
  go_wp2_with fail
  refine (HH.out.begin_ _).mono ?_
  rintro x w5 ⟨⟨v5, rfl⟩, hb⟩
  have S5 := Lib.hid (S4.out.under hb)
  clear hb S4
  go_wp2_with fail
  refine (tlb_new w5).mono ?_
  rintro x w6 ⟨rfl, hb, _⟩
  have S6 := Lib.hid (S5.out.under hb)
  clear hb S5
  go_wp2_with fail
  refine (tab_new _).mono ?_
  rintro x w7 ⟨rfl, hb, _⟩
  have S7 := Lib.hid (S6.out.under hb)
  clear hb S6
  go_wp2_with fail
  refine (new_1 _).mono ?_
  rintro x w8 ⟨rfl, hb, _⟩
  have S8 := Lib.hid (S7.out.under hb)
  clear hb S7
  go_wp2_with fail
  refine (HH.out.user_ _ _ _ _).mono ?_
  rintro x w9 ⟨rfl, hb⟩
  have S9 := Lib.hid (((S8.out.under hb).box (.cells #[.int .i64 10, .int .u64 0] 85)).boxAt (.cells #[.int .i64 0, .int .i64 0, .int .i64 0, .int .i64 0] 78) (w9.heap.size + 1) (by simp))
  clear hb S8
  go_wp2_with fail
  refine (HB.out _ S9.out.below).mono ?_
  rintro x w10 ⟨rfl, hb⟩
  have S10 := Lib.hid (S9.out.under hb)
  clear hb S9
  have ka := S10.out.2.2.2.2.2.2.2.2.2.2.2.2.1
  have ka0 := bk_cell ka 0
  have ka1 := bk_cell ka 1
  have lka := bk_lt ka
  clear ka
  go_wp2_with fail
  clear ka0 ka1 lka
  refine (HH.out.err_ _ (HH.out.later _ _ HG.out S10.out.below)).mono ?_
  rintro x w11 ⟨⟨v6, rfl, hcode⟩, hb⟩
  have S11 := Lib.hid (S10.out.under hb)
  clear hb S10
  have HC := Lib.hid hcode
  clear hcode
  go_wp2_with fail
  refine (HC.out _ (Below.refl _ _)).mono ?_
  rintro x w12 ⟨rfl, hb⟩
  have S12 := Lib.hid (S11.out.under hb)
  clear hb S11
  clear HC
  go_wp2_with fail
  refine (HH.out.free_ _).mono ?_
  rintro x w13 ⟨⟨o, c, rfl⟩, hb⟩
  have S13 := Lib.hid (S12.out.under hb)
  clear hb S12
  go_wp2_with fail
  refine (HH.out.frame_ _).mono ?_
  rintro x w14 ⟨rfl, hb⟩
  have S14 := Lib.hid (S13.out.under hb)
  clear hb S13
  go_wp2_with fail
  refine (HH.out.copy_ _).mono ?_
  rintro x w15 ⟨rfl, hb⟩
  have S15 := Lib.hid (S14.out.under hb)
  clear hb S14
  go_wp2_with fail
  refine (HH.out.root_ _).mono ?_
  rintro x w16 ⟨rfl, hb⟩
  have S16 := Lib.hid (S15.out.under hb)
  clear hb S15
  go_wp2_with fail
  refine (HH.out.below_ _).mono ?_
  rintro x w17 ⟨⟨o2, c2, rfl⟩, hb⟩
  have S17 := Lib.hid (S16.out.under hb)
  clear hb S16
  go_wp2_with fail
  refine (HH.out.done_ _).mono ?_
  rintro x w18 ⟨rfl, hb⟩
  have S18 := Lib.hid (S17.out.under hb)
  clear hb S17
  go_wp2_with fail
  refine (HH.out.now_ _).mono ?_
  rintro x w19 ⟨rfl, hb⟩
  have S19 := Lib.hid (S18.out.under hb)
  clear hb S18
  go_wp2_with fail
  refine (HH.out.ack_ _).mono ?_
  rintro x w20 ⟨rfl, hb⟩
  have S20 := Lib.hid (S19.out.under hb)
  clear hb S19
  have kl := S20.out.1
  have kl0 := bk_cell kl 0
  have kl1 := bk_cell kl 1
  have kl2 := bk_cell kl 2
  have kl3 := bk_cell kl 3
  have lkl := bk_lt kl
  clear kl
  have kb := S20.out.2.2.2.1
  have kb0 := bk_cell kb 0
  have kb1 := bk_cell kb 1
  have lkb := bk_lt kb
  clear kb
  go_wp2_with fail
  clear kl0 kl1 kl2 kl3 lkl
  clear kb0 kb1 lkb
  refine (HH.out.may_ _).mono ?_
  rintro x w21 ⟨rfl, hb⟩
  have S21 := Lib.hid (S20.out.under hb)
  clear hb S20
  go_wp2_with fail
  go_ret
  exact ⟨rfl, S21.out.below⟩
end Go.Proofs.YtmifcfkchnilmaaGreatDoor

