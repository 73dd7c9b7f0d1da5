/- What is proved here: package user keeps its chapter (UserC): Walk, Do. Conditions: none. -/
import Derived.Test.YtdfhfmdelinemaaGreatDoorGUser
import Derived.Test.YtdfhfmdelinemaaGreatDoorGWord
import Derived.Test.YtdfhfmdelinemaaGreatDoorGParts
import Derived.Deep.RegionHeld3
import Derived.RegionTactic
import Derived.WalkArith
namespace Go.Proofs.YtdfhfmdelinemaaGreatDoor
open Go.RowKit Go.Extern.Stop Go.Stop Go.Extern Go.WalkArith
theorem mat_no (w : World) (M F n : Nat) (f : Int) (g : Nat → Int) (h : MemIs w M F n g) (hf : f < 0 ∨ (n : Int) ≤ f) : Calls Tryz.prog 126 #[.pointer (some ⟨M, 0, none⟩), .int .i64 f] w fun e w' => e = .returned (.pointer none) ∧ w = w' := by
 have H := Lib.hid h
 clear h
 by_cases h0 : f < 0
 ·go_enter Tryz.func126, Tryz.ntmps126
  go_wp2_with fail
  go_ret
  exact ⟨rfl, rfl⟩
 ·have q2 : (n : Int) ≤ f := by omega
  go_enter Tryz.func126, Tryz.ntmps126
  go_wp2_with (go_at_call 64; refine (frames_any _ M F n g H.out).mono ?_; rintro e w' ⟨rfl, rfl⟩)
  go_ret
  exact ⟨rfl, rfl⟩
theorem mword_no (w : World) (M F n : Nat) (f : Int) (a : Nat) (g : Nat → Int) (h : MemIs w M F n g) (hf : f < 0 ∨ (n : Int) ≤ f) : Calls Tryz.prog 160 #[.pointer (some ⟨M, 0, none⟩), .int .i64 f, .int .i64 a] w fun e w' => e = .returned (.pointer none) ∧ w = w' := by
 have H := Lib.hid h
 clear h
 go_enter Tryz.func160, Tryz.ntmps160
 go_wp2_with (go_at_call 126; refine (mat_no _ M F n f g H.out hf).mono ?_; rintro e w' ⟨rfl, rfl⟩)
 go_ret
 exact ⟨rfl, rfl⟩
theorem mload_no (w : World) (M F n : Nat) (f : Int) (a : Nat) (g : Nat → Int) (h : MemIs w M F n g) (hf : f < 0 ∨ (n : Int) ≤ f) : Calls Tryz.prog 122 #[.pointer (some ⟨M, 0, none⟩), .int .i64 f, .int .i64 a] w fun e w' => e = .returned (.tuple #[.int .u64 0, .bool false]) ∧ w = w' := by
 have H := Lib.hid h
 clear h
 go_enter Tryz.func122, Tryz.ntmps122
 go_wp2_with (go_at_call 160; refine (mword_no _ M F n f a g H.out hf).mono ?_; rintro e w' ⟨rfl, rfl⟩)
 go_ret2
 exact ⟨rfl, rfl⟩
theorem mstore_no (w : World) (M F n : Nat) (f : Int) (a : Nat) (v : Int) (g : Nat → Int) (h : MemIs w M F n g) (hf : f < 0 ∨ (n : Int) ≤ f) : Calls Tryz.prog 121 #[.pointer (some ⟨M, 0, none⟩), .int .i64 f, .int .i64 a, .int .u64 v] w fun e w' => e = .returned (.bool false) ∧ w = w' := by
 have H := Lib.hid h
 clear h
 go_enter Tryz.func121, Tryz.ntmps121
 go_wp2_with (go_at_call 160; refine (mword_no _ M F n f a g H.out hf).mono ?_; rintro e w' ⟨rfl, rfl⟩)
 go_ret
 exact ⟨rfl, rfl⟩
theorem mcas_no (w : World) (M F n : Nat) (f : Int) (a : Nat) (v u : Int) (g : Nat → Int) (h : MemIs w M F n g) (hf : f < 0 ∨ (n : Int) ≤ f) : Calls Tryz.prog 123 #[.pointer (some ⟨M, 0, none⟩), .int .i64 f, .int .i64 a, .int .u64 v, .int .u64 u] w fun e w' => e = .returned (.tuple #[.int .u64 0, .bool false]) ∧ w = w' := by
 have H := Lib.hid h
 clear h
 go_enter Tryz.func123, Tryz.ntmps123
 go_wp2_with (go_at_call 160; refine (mword_no _ M F n f a g H.out hf).mono ?_; rintro e w' ⟨rfl, rfl⟩)
 go_ret2
 exact ⟨rfl, rfl⟩
theorem madd_no (w : World) (M F n : Nat) (f : Int) (a : Nat) (v : Int) (g : Nat → Int) (h : MemIs w M F n g) (hf : f < 0 ∨ (n : Int) ≤ f) : Calls Tryz.prog 124 #[.pointer (some ⟨M, 0, none⟩), .int .i64 f, .int .i64 a, .int .u64 v] w fun e w' => e = .returned (.tuple #[.int .u64 0, .bool false]) ∧ w = w' := by
 have H := Lib.hid h
 clear h
 go_enter Tryz.func124, Tryz.ntmps124
 go_wp2_with (go_at_call 160; refine (mword_no _ M F n f a g H.out hf).mono ?_; rintro e w' ⟨rfl, rfl⟩)
 go_ret2
 exact ⟨rfl, rfl⟩
theorem memS_out {mg : Nat → Int} {n a : Nat} {f : Int} (hf : f < 0 ∨ (n : Int) ≤ f) (kind x3 x4 : Int) : memS mg n f a kind x3 x4 = mg ∧ memV mg n f a kind = 0 := by
 refine ⟨funext fun j => ?_, ?_⟩
 ·unfold memS
  rw [if_neg (fun h => by omega)]
 ·unfold memV
  rw [if_neg (fun h => by omega)]
theorem memV_in {mg : Nat → Int} {n f a : Nat} (hf : f < n) {kind : Int} (hk : ¬ kind = 21) : memV mg n (f : Int) a kind = mg (f * 16 + a) := by
 unfold memV
 rw [if_pos ⟨by omega, by omega, hk⟩, Int.toNat_natCast]
theorem memS_in {mg : Nat → Int} {n f a : Nat} (hf : f < n) (kind x3 x4 : Int) (j : Nat) : memS mg n (f : Int) a kind x3 x4 j = if j = f * 16 + a then (if kind = 21 then x3 else if kind = 22 then (if mg j = x3 then x4 else mg j) else if kind = 23 then IntKind.u64.wrap (mg j + x3) else mg j) else mg j := by
 unfold memS
 rw [Int.toNat_natCast]
 by_cases h : j = f * 16 + a
 ·rw [if_pos ⟨by omega, by omega, h⟩, if_pos h]
 ·rw [if_neg (fun hc => h hc.2.2), if_neg h]
theorem mem_congr {W : World} {M F n : Nat} {g g' : Nat → Int} (h : MemIs W M F n g) (he : ∀ j, g' j = g j) : MemIs W M F n g' := (funext he : g' = g) ▸ h
theorem mload_w {M F n a : Nat} {f : Int} {mg : Nat → Int} (hn : n ≤ 16) (ha : a < 16) (x3 x4 : Int) (W : World) (h : MemIs W M F n mg) :
  Calls Tryz.prog 122 #[.pointer (some ⟨M, 0, none⟩), .int .i64 f, .int .i64 a] W fun x W' => (∃ b, x = .returned (.tuple #[.int .u64 (memV mg n f a 20), .bool b])) ∧ MemIs W' M F n (memS mg n f a 20 x3 x4) ∧ OnlyT F W W' := by
 rcases (show (∃ m : Nat, f = (m : Int) ∧ m < n) ∨ (f < 0 ∨ (n : Int) ≤ f) from if h : 0 ≤ f ∧ f < (n : Int) then Or.inl ⟨f.toNat, by omega, by omega⟩ else Or.inr (by omega)) with ⟨f, rfl, hf⟩ | hf
 ·refine (load_any W M F n f a (mg (f * 16 + a)) mg h hf hn ha rfl).mono ?_
  rintro x W' ⟨rfl, rfl⟩
  rw [memV_in hf (by decide)]
  exact ⟨⟨_, rfl⟩, mem_congr h fun j => by rw [memS_in hf]; split <;> simp, tp_below (Below.refl _ _)⟩
 ·refine (mload_no W M F n f a mg h hf).mono ?_
  rintro x W' ⟨rfl, rfl⟩
  rw [(memS_out hf 20 x3 x4).1, (memS_out (mg := mg) (a := a) hf 20 x3 x4).2]
  exact ⟨⟨_, rfl⟩, h, tp_below (Below.refl _ _)⟩
theorem mstore_w {M F n a : Nat} {f : Int} {mg : Nat → Int} (hn : n ≤ 16) (ha : a < 16) (x3 x4 : Int) (W : World) (h : MemIs W M F n mg) :
  Calls Tryz.prog 121 #[.pointer (some ⟨M, 0, none⟩), .int .i64 f, .int .i64 a, .int .u64 x3] W fun x W' => (∃ b, x = .returned (.bool b)) ∧ MemIs W' M F n (memS mg n f a 21 x3 x4) ∧ OnlyT F W W' := by
 rcases (show (∃ m : Nat, f = (m : Int) ∧ m < n) ∨ (f < 0 ∨ (n : Int) ≤ f) from if h : 0 ≤ f ∧ f < (n : Int) then Or.inl ⟨f.toNat, by omega, by omega⟩ else Or.inr (by omega)) with ⟨f, rfl, hf⟩ | hf
 ·refine (store_any W M F n f a x3 mg h hf hn ha).mono ?_
  rintro x W' ⟨rfl, rfl⟩
  exact ⟨⟨_, rfl⟩, mem_congr (h.set (i := f * 16 + a) (by omega) x3) fun j => by rw [memS_in hf]; simp, tp_set (tp_below (Below.refl _ _)) _ _⟩
 ·refine (mstore_no W M F n f a x3 mg h hf).mono ?_
  rintro x W' ⟨rfl, rfl⟩
  rw [(memS_out hf 21 x3 x4).1]
  exact ⟨⟨_, rfl⟩, h, tp_below (Below.refl _ _)⟩
theorem mcas_w {M F n a : Nat} {f : Int} {mg : Nat → Int} (hn : n ≤ 16) (ha : a < 16) (x3 x4 : Int) (W : World) (h : MemIs W M F n mg) :
  Calls Tryz.prog 123 #[.pointer (some ⟨M, 0, none⟩), .int .i64 f, .int .i64 a, .int .u64 x3, .int .u64 x4] W fun x W' => (∃ b, x = .returned (.tuple #[.int .u64 (memV mg n f a 22), .bool b])) ∧ MemIs W' M F n (memS mg n f a 22 x3 x4) ∧ OnlyT F W W' := by
 rcases (show (∃ m : Nat, f = (m : Int) ∧ m < n) ∨ (f < 0 ∨ (n : Int) ≤ f) from if h : 0 ≤ f ∧ f < (n : Int) then Or.inl ⟨f.toNat, by omega, by omega⟩ else Or.inr (by omega)) with ⟨f, rfl, hf⟩ | hf
 ·rw [memV_in hf (by decide)]
  by_cases hq : mg (f * 16 + a) = x3
  ·rw [hq]
   refine (cas_yes W M F n f a x3 x4 mg h hf hn ha hq).mono ?_
   rintro x W' ⟨rfl, rfl⟩
   exact ⟨⟨_, rfl⟩, mem_congr (h.set (i := f * 16 + a) (by omega) x4) fun j => by
    rw [memS_in hf]
    by_cases e : j = f * 16 + a
    ·simp [e, hq]
    ·simp [e], tp_set (tp_below (Below.refl _ _)) _ _⟩
  ·refine (cas_no W M F n f a (mg (f * 16 + a)) x3 x4 (beq_eq_false_iff_ne.2 hq) mg h hf hn ha rfl).mono ?_
   rintro x W' ⟨rfl, rfl⟩
   exact ⟨⟨_, rfl⟩, mem_congr h fun j => by
    rw [memS_in hf]
    by_cases e : j = f * 16 + a
    ·simp [e, hq]
    ·simp [e], tp_below (Below.refl _ _)⟩
 ·refine (mcas_no W M F n f a x3 x4 mg h hf).mono ?_
  rintro x W' ⟨rfl, rfl⟩
  rw [(memS_out hf 22 x3 x4).1, (memS_out (mg := mg) (a := a) hf 22 x3 x4).2]
  exact ⟨⟨_, rfl⟩, h, tp_below (Below.refl _ _)⟩
theorem madd_w {M F n a : Nat} {f : Int} {mg : Nat → Int} (hn : n ≤ 16) (ha : a < 16) (x3 x4 : Int) (W : World) (h : MemIs W M F n mg) :
  Calls Tryz.prog 124 #[.pointer (some ⟨M, 0, none⟩), .int .i64 f, .int .i64 a, .int .u64 x3] W fun x W' => (∃ b, x = .returned (.tuple #[.int .u64 (memV mg n f a 23), .bool b])) ∧ MemIs W' M F n (memS mg n f a 23 x3 x4) ∧ OnlyT F W W' := by
 rcases (show (∃ m : Nat, f = (m : Int) ∧ m < n) ∨ (f < 0 ∨ (n : Int) ≤ f) from if h : 0 ≤ f ∧ f < (n : Int) then Or.inl ⟨f.toNat, by omega, by omega⟩ else Or.inr (by omega)) with ⟨f, rfl, hf⟩ | hf
 ·rw [memV_in hf (by decide)]
  refine (add_any W M F n f a (mg (f * 16 + a)) x3 mg h hf hn ha rfl).mono ?_
  rintro x W' ⟨rfl, rfl⟩
  exact ⟨⟨_, rfl⟩, mem_congr (h.set (i := f * 16 + a) (by omega) (IntKind.u64.wrap (mg (f * 16 + a) + x3))) fun j => by
   rw [memS_in hf]
   by_cases e : j = f * 16 + a
   ·simp [e]
   ·simp [e], tp_set (tp_below (Below.refl _ _)) _ _⟩
 ·refine (madd_no W M F n f a x3 mg h hf).mono ?_
  rintro x W' ⟨rfl, rfl⟩
  rw [(memS_out hf 23 x3 x4).1, (memS_out (mg := mg) (a := a) hf 23 x3 x4).2]
  exact ⟨⟨_, rfl⟩, h, tp_below (Below.refl _ _)⟩
theorem uarg (i : Nat) (hi : i = 0 ∨ i = 1) (x0 x1 x2 x3 x4 : Int) (m : Int) (v : Nat) (hv : [x1, x2, x3, x4].getD i 0 = (v : Int)) (hm : (v : Int) < m) (hm2 : m ≤ 16) (hx : wordsIn x0 x1 x2 x3 x4) (W : World) : Calls Tryz.prog 86 #[callV x0 x1 x2 x3 x4, .int .i64 ((i : Int) + 1), .int .i64 m] W fun e w' => e = .returned (.tuple #[.int .i64 (v : Int), .bool true]) ∧ Below W.heap.size W w' := by
 have h := Arg_in x0 x1 x2 x3 x4 m hx.2.1 hx.2.2.1 hx.2.2.2.1 hx.2.2.2.2 (by omega) (by omega) i (by omega) W
 rw [hv] at h
 have e1 : belowN (v : Int) m = (v : Int) := if_pos ⟨by omega, by omega⟩
 have e2 : belowB (v : Int) m = true := decide_eq_true ⟨by omega, by omega⟩
 rw [e1, e2] at h
 exact h
theorem uarg_1 (x0 x2 x3 x4 : Int) (p : Nat) (hp : p < 8) (hx : wordsIn x0 p x2 x3 x4) (W : World) : Calls Tryz.prog 86 #[callV x0 p x2 x3 x4, .int .i64 1, .int .i64 8] W fun e w' => e = .returned (.tuple #[.int .i64 (p : Int), .bool true]) ∧ Below W.heap.size W w' :=
 uarg 0 (Or.inl rfl) x0 p x2 x3 x4 8 p rfl (by omega) (by omega) hx W
theorem uarg_2 (x0 x1 x3 x4 : Int) (a : Nat) (ha : a < 16) (hx : wordsIn x0 x1 a x3 x4) (W : World) : Calls Tryz.prog 86 #[callV x0 x1 a x3 x4, .int .i64 2, .int .i64 16] W fun e w' => e = .returned (.tuple #[.int .i64 (a : Int), .bool true]) ∧ Below W.heap.size W w' :=
 uarg 1 (Or.inr rfl) x0 x1 a x3 x4 16 a rfl (by omega) (by omega) hx W
def TouchP (M F n : Nat) (mg : Nat → Int) (f : Int) (a : Nat) (kind x3 x4 : Int) (w : World) (x : Ending) (w' : World) : Prop :=
 x = .returned (.int .u64 (memV mg n f a kind)) ∧ MemIs w' M F n (memS mg n f a kind x3 x4) ∧ Only (fun i => i = F) w w'
theorem touch_only {w w1 W : World} {F : Nat} (hb : Below w.heap.size w w1) (ho : OnlyT F w1 W) : Only (fun i => i = F) w W := by
 have o := only_T ho
 have b : Only (fun i => i = F) w w1 := Only.below hb
 exact ⟨o.1.trans b.1, o.2.1.trans b.2.1, o.2.2.1.trans b.2.2.1, Nat.le_trans b.2.2.2.1 o.2.2.2.1, fun i hi hn => (o.2.2.2.2 i (Nat.lt_of_lt_of_le hi b.2.2.2.1) hn).trans (b.2.2.2.2 i hi hn)⟩
theorem utouch_20 {M F n a : Nat} {f : Int} {mg : Nat → Int} (hn : n ≤ 16) (ha : a < 16) (x1 x3 x4 : Int) (hx : wordsIn 20 x1 a x3 x4) (w : World) (h : MemIs w M F n mg) :
  Calls Tryz.prog 88 #[.pointer (some ⟨M, 0, none⟩), .int .i64 f, .int .i64 20, callV 20 x1 a x3 x4] w (TouchP M F n mg f a 20 x3 x4 w) := by
 have HM := Lib.hid h
 have H2 := Lib.hid (fun W => uarg_2 20 x1 x3 x4 a ha hx W)
 have HC := Lib.hid (fun W (hW : MemIs W M F n mg) => mload_w (f := f) hn ha x3 x4 W hW)
 clear h hx hn ha
 unfold TouchP
 go_enter Tryz.func88, Tryz.ntmps88
 go_wp2_with fail
 refine (H2.out _).mono ?_
 rintro x w2 ⟨rfl, hb⟩
 have B2 := Lib.hid (bl_alloc (Below.refl w.heap.size w) hb)
 have X2 := Lib.hid (bk_one hb)
 clear hb
 have K2 := Lib.hid (HM.out.later B2.out)
 go_wp2_with fail
 refine (HC.out _ K2.out).mono ?_
 rintro x w3 ⟨⟨b, rfl⟩, hm, ho⟩
 have M3 := Lib.hid hm
 have O3 := Lib.hid (touch_only B2.out ho)
 clear hm ho
 go_wp2_with fail
 go_ret
 exact ⟨rfl, M3.out, O3.out⟩
theorem utouch_21 {M F n a : Nat} {f : Int} {mg : Nat → Int} (hn : n ≤ 16) (ha : a < 16) (x1 x3 x4 : Int) (hx : wordsIn 21 x1 a x3 x4) (w : World) (h : MemIs w M F n mg) :
  Calls Tryz.prog 88 #[.pointer (some ⟨M, 0, none⟩), .int .i64 f, .int .i64 21, callV 21 x1 a x3 x4] w (TouchP M F n mg f a 21 x3 x4 w) := by
 have HM := Lib.hid h
 have H2 := Lib.hid (fun W => uarg_2 21 x1 x3 x4 a ha hx W)
 have HC := Lib.hid (fun W (hW : MemIs W M F n mg) => mstore_w (f := f) hn ha x3 x4 W hW)
 clear h hx hn ha
 unfold TouchP
 rw [show memV mg n f a 21 = 0 from if_neg (fun h => h.2.2 rfl)]
 go_enter Tryz.func88, Tryz.ntmps88
 go_wp2_with fail
 refine (H2.out _).mono ?_
 rintro x w2 ⟨rfl, hb⟩
 have B2 := Lib.hid (bl_alloc (Below.refl w.heap.size w) hb)
 have X2 := Lib.hid (bk_one hb)
 clear hb
 have b3 := bk_cell X2.out 3
 have lb := bk_lt X2.out
 have K2 := Lib.hid (HM.out.later B2.out)
 go_wp2_with fail
 refine (HC.out _ K2.out).mono ?_
 rintro x w3 ⟨⟨b, rfl⟩, hm, ho⟩
 have M3 := Lib.hid hm
 have O3 := Lib.hid (touch_only B2.out ho)
 clear hm ho
 go_wp2_with fail
 go_ret
 exact ⟨rfl, M3.out, O3.out⟩
theorem utouch_22 {M F n a : Nat} {f : Int} {mg : Nat → Int} (hn : n ≤ 16) (ha : a < 16) (x1 x3 x4 : Int) (hx : wordsIn 22 x1 a x3 x4) (w : World) (h : MemIs w M F n mg) :
  Calls Tryz.prog 88 #[.pointer (some ⟨M, 0, none⟩), .int .i64 f, .int .i64 22, callV 22 x1 a x3 x4] w (TouchP M F n mg f a 22 x3 x4 w) := by
 have HM := Lib.hid h
 have H2 := Lib.hid (fun W => uarg_2 22 x1 x3 x4 a ha hx W)
 have HC := Lib.hid (fun W (hW : MemIs W M F n mg) => mcas_w (f := f) hn ha x3 x4 W hW)
 clear h hx hn ha
 unfold TouchP
 go_enter Tryz.func88, Tryz.ntmps88
 go_wp2_with fail
 refine (H2.out _).mono ?_
 rintro x w2 ⟨rfl, hb⟩
 have B2 := Lib.hid (bl_alloc (Below.refl w.heap.size w) hb)
 have X2 := Lib.hid (bk_one hb)
 clear hb
 have b3 := bk_cell X2.out 3
 have b4 := bk_cell X2.out 4
 have lb := bk_lt X2.out
 have K2 := Lib.hid (HM.out.later B2.out)
 go_wp2_with fail
 refine (HC.out _ K2.out).mono ?_
 rintro x w3 ⟨⟨b, rfl⟩, hm, ho⟩
 have M3 := Lib.hid hm
 have O3 := Lib.hid (touch_only B2.out ho)
 clear hm ho
 go_wp2_with fail
 go_ret
 exact ⟨rfl, M3.out, O3.out⟩
theorem utouch_23 {M F n a : Nat} {f : Int} {mg : Nat → Int} (hn : n ≤ 16) (ha : a < 16) (x1 x3 x4 : Int) (hx : wordsIn 23 x1 a x3 x4) (w : World) (h : MemIs w M F n mg) :
  Calls Tryz.prog 88 #[.pointer (some ⟨M, 0, none⟩), .int .i64 f, .int .i64 23, callV 23 x1 a x3 x4] w (TouchP M F n mg f a 23 x3 x4 w) := by
 have HM := Lib.hid h
 have H2 := Lib.hid (fun W => uarg_2 23 x1 x3 x4 a ha hx W)
 have HC := Lib.hid (fun W (hW : MemIs W M F n mg) => madd_w (f := f) hn ha x3 x4 W hW)
 clear h hx hn ha
 unfold TouchP
 go_enter Tryz.func88, Tryz.ntmps88
 go_wp2_with fail
 refine (H2.out _).mono ?_
 rintro x w2 ⟨rfl, hb⟩
 have B2 := Lib.hid (bl_alloc (Below.refl w.heap.size w) hb)
 have X2 := Lib.hid (bk_one hb)
 clear hb
 have b3 := bk_cell X2.out 3
 have lb := bk_lt X2.out
 have K2 := Lib.hid (HM.out.later B2.out)
 go_wp2_with fail
 refine (HC.out _ K2.out).mono ?_
 rintro x w3 ⟨⟨b, rfl⟩, hm, ho⟩
 have M3 := Lib.hid hm
 have O3 := Lib.hid (touch_only B2.out ho)
 clear hm ho
 go_wp2_with fail
 go_ret
 exact ⟨rfl, M3.out, O3.out⟩
theorem utouch_any {M F n a : Nat} {f : Int} {mg : Nat → Int} (hn : n ≤ 16) (ha : a < 16) (kind x1 x3 x4 : Int) (hk : kind = 20 ∨ kind = 21 ∨ kind = 22 ∨ kind = 23) (hx : wordsIn kind x1 a x3 x4) (w : World) (h : MemIs w M F n mg) :
  Calls Tryz.prog 88 #[.pointer (some ⟨M, 0, none⟩), .int .i64 f, .int .i64 kind, callV kind x1 a x3 x4] w (TouchP M F n mg f a kind x3 x4 w) := by
 rcases hk with rfl | rfl | rfl | rfl
 ·exact utouch_20 hn ha x1 x3 x4 hx w h
 ·exact utouch_21 hn ha x1 x3 x4 hx w h
 ·exact utouch_22 hn ha x1 x3 x4 hx w h
 ·exact utouch_23 hn ha x1 x3 x4 hx w h
set_option maxRecDepth 100000 in
theorem ucheck_any (env x0 x1 x2 x3 x4 : Int) (hx : wordsIn x0 x1 x2 x3 x4) (w : World) :
  Calls Tryz.prog 84 #[.int .i64 env, callV x0 x1 x2 x3 x4] w fun x w' => x = .returned (.int .i64 (doE env x0 x1 x2 x3 x4)) ∧ Below w.heap.size w w' := by
 have H1 := Lib.hid (fun W => Kind_any x0 x1 x2 x3 x4 hx.1.1 hx.1.2 W)
 have H2 := Lib.hid (fun W => user_any (kindN x0) W)
 have H3 := Lib.hid (fun W => Check_any x0 x1 x2 x3 x4 4 hx (by unfold intIn; omega) W)
 clear hx
 unfold doE
 by_cases h1 : env < 0
 ·rw [if_pos (Or.inl h1)]
  go_enter Tryz.func84, Tryz.ntmps84
  go_wp2_with fail
  go_ret
  exact ⟨rfl, (Below.refl _ _).alloc (Nat.le_refl _) _⟩
 by_cases h2 : 4 ≤ env
 ·rw [if_pos (Or.inr h2)]
  go_enter Tryz.func84, Tryz.ntmps84
  go_wp2_with fail
  go_ret
  exact ⟨rfl, (Below.refl _ _).alloc (Nat.le_refl _) _⟩
 rw [if_neg (by omega)]
 cases hu : userB (kindN x0)
 ·rw [if_neg (by decide)]
  rw [hu] at H2
  clear hu
  go_enter Tryz.func84, Tryz.ntmps84
  go_wp2_with fail
  refine (H1.out _).mono ?_
  rintro x w1 ⟨rfl, hb⟩
  have B1 := Lib.hid (bl_alloc (Below.refl w.heap.size w) hb)
  clear hb
  go_wp2_with fail
  refine (H2.out _).mono ?_
  rintro x w2 ⟨rfl, rfl⟩
  go_wp2_with fail
  go_ret
  exact ⟨rfl, B1.out⟩
 ·rw [if_pos rfl]
  rw [hu] at H2
  clear hu
  go_enter Tryz.func84, Tryz.ntmps84
  go_wp2_with fail
  refine (H1.out _).mono ?_
  rintro x w1 ⟨rfl, hb⟩
  have B1 := Lib.hid (bl_alloc (Below.refl w.heap.size w) hb)
  have X1 := Lib.hid (bk_one hb)
  clear hb
  have b0 := bk_cell X1.out 0
  have b1 := bk_cell X1.out 1
  have b2 := bk_cell X1.out 2
  have b3 := bk_cell X1.out 3
  have b4 := bk_cell X1.out 4
  go_wp2_with fail
  refine (H2.out _).mono ?_
  rintro x w2 ⟨rfl, rfl⟩
  go_wp2_with fail
  refine (H3.out _).mono ?_
  rintro x w3 ⟨rfl, hb⟩
  have B3 := Lib.hid (bl_trans B1.out hb)
  clear hb
  go_wp2_with fail
  go_ret
  exact ⟨rfl, B3.out⟩
theorem four_at {W : World} {b : Nat} {t : TypeId} {u0 u1 u2 u3 : Value} (h : W.heap[b]? = some (.cells #[u0, u1, u2, u3] t (0, 0))) (v0 v1 v2 v3 : Value) : ((((W.setCell ⟨b, 0, none⟩ v0).setCell ⟨b, 1, none⟩ v1).setCell ⟨b, 2, none⟩ v2).setCell ⟨b, 3, none⟩ v3).heap[b]? = some (.cells #[v0, v1, v2, v3] t (0, 0)) :=
 set_block (set_block (set_block (set_block h 0 v0) 1 v1) 2 v2) 3 v3
theorem four_out {W : World} {b : Nat} {t : TypeId} {u0 u1 u2 u3 : Value} (h : W.heap[b]? = some (.cells #[u0, u1, u2, u3] t (0, 0))) (v0 v1 v2 v3 : Value) (o : Obj) (i : Nat) : (((((W.setCell ⟨b, 0, none⟩ v0).setCell ⟨b, 1, none⟩ v1).setCell ⟨b, 2, none⟩ v2).setCell ⟨b, 3, none⟩ v3).alloc o).cell? ⟨b, i, none⟩ = #[v0, v1, v2, v3][i]? :=
 bk_cell ((Below.heap_alloc _ o b (bk_lt (four_at h v0 v1 v2 v3))).trans (four_at h v0 v1 v2 v3)) i
theorem four_set {W : World} {w : World} (h : Below w.heap.size w W) (b : Nat) (hb : w.heap.size ≤ b) (v0 v1 v2 v3 : Value) : Below w.heap.size w ((((W.setCell ⟨b, 0, none⟩ v0).setCell ⟨b, 1, none⟩ v1).setCell ⟨b, 2, none⟩ v2).setCell ⟨b, 3, none⟩ v3) :=
 (((h.setCell hb _).setCell hb _).setCell hb _).setCell hb _
set_option maxRecDepth 100000 in
theorem uentry_walk {x0 x1 x2 : Int} {b : Bool} (U : Nat) (e p : Int) (w : World)
  (hC : ∀ W, Below w.heap.size w W → Calls Tryz.prog 112 #[.pointer (some ⟨U, 0, none⟩), .int .i64 p] W fun x w' => x = .returned (.tuple #[.agg #[.int .i64 x0, .int .i64 x1, .int .i64 x2], .bool b]) ∧ Below W.heap.size W w') :
  Calls Tryz.prog 135 #[.pointer (some ⟨U, 0, none⟩), .int .i64 e, .int .i64 p] w fun x w' => x = .returned (.tuple #[.agg #[.int .i64 e, .int .i64 p, .int .i64 x0, .int .i64 x2], .bool b]) ∧ Below w.heap.size w w' := by
 have HC := Lib.hid hC
 clear hC
 go_enter Tryz.func135, Tryz.ntmps135
 go_wp2_with fail
 refine (HC.out _ ((Below.refl _ _).alloc (Nat.le_refl _) _)).mono ?_
 rintro x w1 ⟨rfl, hb⟩
 have B1 := Lib.hid (bl_alloc (Below.refl w.heap.size w) hb)
 have K1 := Lib.hid (bk_one hb)
 clear hb
 have ql := bk_lt K1.out
 have q0 := bk_free K1.out 0
 have q1 := bk_free K1.out 1
 have q2 := bk_free K1.out 2
 have q3 := bk_free K1.out 3
 have b0 := bk_cell K1.out 0
 have b1 := bk_cell K1.out 1
 have b2 := bk_cell K1.out 2
 have b3 := bk_cell K1.out 3
 go_wp2_with fail
 refine bodyPost_ret (v := .tuple #[.agg #[.int .i64 e, .int .i64 p, .int .i64 x0, .int .i64 x2], .bool b]) (by simp [results, Tryz.results135, go_sem, four_out K1.out]) rfl ⟨rfl, ?_⟩
 exact (four_set B1.out _ (Nat.le_refl _) _ _ _ _).alloc (by simpa using B1.out.size) _
theorem ufind {g : Nat → Int} (hb : BufOk g) (T : Nat) (e p : Int) :
  ∃ (b : Bool) (x0 x1 x2 x3 : Int), (∀ W, NumsIs 41 W T g → Calls Tryz.prog 133 #[.pointer (some ⟨T, 0, none⟩), .int .i64 e, .int .i64 p] W fun x w' => x = .returned (.tuple #[.agg #[.int .i64 x0, .int .i64 x1, .int .i64 x2, .int .i64 x3], .bool b]) ∧ Below W.heap.size W w') ∧
   ((b = true ∧ whereN g e p < 8 ∧ g (whereN g e p * 5) = x0 ∧ g (whereN g e p * 5 + 1) = x1 ∧ g (whereN g e p * 5 + 2) = x2 ∧ g (whereN g e p * 5 + 3) = x3) ∨ (b = false ∧ whereN g e p = 8 ∧ x3 = 0)) := by
 rcases first_or (hitB g e p) 8 with ⟨k, hk, hit, hno⟩ | hno
 ·refine ⟨true, g (k * 5), g (k * 5 + 1), g (k * 5 + 2), g (k * 5 + 3), fun W ht => tfind_hit T g e p W ht k hk (hb.1 e p k hk hit) hit hno, Or.inl ⟨rfl, ?_⟩⟩
  rw [where_hit hk hit hno]
  exact ⟨hk, rfl, rfl, rfl, rfl⟩
 ·exact ⟨false, 0, 0, 0, 0, fun W ht => tfind_no T g e p W ht hno, Or.inr ⟨rfl, where_no hno, rfl⟩⟩
theorem ufill {g : Nat → Int} (hb : BufOk g) (T : Nat) (e p f r : Int) (hl : lineB e p f r = true) (W : World) (ht : NumsIs 41 W T g) :
  Calls Tryz.prog 137 #[.pointer (some ⟨T, 0, none⟩), .agg #[.int .i64 e, .int .i64 p, .int .i64 f, .int .i64 r]] W fun x w' => x = .returned (.bool true) ∧ NumsIs 41 w' T (fillS g e p f r) ∧ OnlyT T W w' := by
 unfold fillS
 rw [if_pos hl]
 rcases first_or (hitB g e p) 8 with ⟨k, hk, hit, hno⟩ | hno
 ·rw [where_hit hk hit hno, if_pos hk]
  exact tfill_hit T g e p f r W ht hb.2 hl k hk (hb.1 e p k hk hit).2.2 hit hno
 ·rw [where_no hno, if_neg (by omega)]
  have h8 := (lineB_yes hl).2.1
  exact tfill_new T g e p f r W ht hb.2 hl hno (p % 4).toNat (by omega) (by omega)
theorem uflush {g : Nat → Int} (hb : BufOk g) (T : Nat) (e p : Int) :
  ∃ b, ∀ W, NumsIs 41 W T g → Calls Tryz.prog 136 #[.pointer (some ⟨T, 0, none⟩), .int .i64 e, .int .i64 p] W fun x w' => x = .returned (.bool b) ∧ NumsIs 41 w' T (flushS g e p) ∧ OnlyT T W w' := by
 unfold flushS
 rcases first_or (hitB g e p) 8 with ⟨k, hk, hit, hno⟩ | hno
 ·rw [where_hit hk hit hno, if_pos hk]
  exact ⟨true, fun W ht => tflush_hit T g e p W ht k hk (hb.1 e p k hk hit) hit hno⟩
 ·rw [where_no hno, if_neg (by omega)]
  refine ⟨false, fun W ht => (tflush_no T g e p W ht hno).mono ?_⟩
  rintro x w' ⟨rfl, rfl⟩
  exact ⟨rfl, ht, tp_below (Below.refl _ _)⟩
theorem onlyT_from {w a b : World} {T : Nat} (h : Below w.heap.size w a) (ho : OnlyT T a b) : OnlyT T w b :=
 ⟨ho.os.trans h.os, ho.tape.trans h.tape, ho.output.trans h.output, Nat.le_trans h.size ho.size, fun k hk hne => (ho.block k (Nat.lt_of_lt_of_le hk h.size) hne).trans (h.block k hk)⟩
theorem onlyT_four {w W : World} {T : Nat} (h : OnlyT T w W) (b : Nat) (hb : w.heap.size ≤ b) (v0 v1 v2 v3 : Value) : OnlyT T w ((((W.setCell ⟨b, 0, none⟩ v0).setCell ⟨b, 1, none⟩ v1).setCell ⟨b, 2, none⟩ v2).setCell ⟨b, 3, none⟩ v3) :=
 ⟨h.os, h.tape, h.output, by simpa using h.size, fun k hk hne => by
  have hn : ∀ (V : World) (i : Nat) (u : Value), (V.setCell ⟨b, i, none⟩ u).heap[k]? = V.heap[k]? := fun V i u => Below.heap_setCell V ⟨b, i, none⟩ u k (fun e => by have e : k = b := e; omega)
  rw [hn, hn, hn, hn]
  exact h.block k hk hne⟩
theorem nums_off {n b T : Nat} {g : Nat → Int} {W : World} {v0 v1 v2 v3 : Value} (h : NumsIs n W T g) (hne : T ≠ b) : NumsIs n ((((W.setCell ⟨b, 0, none⟩ v0).setCell ⟨b, 1, none⟩ v1).setCell ⟨b, 2, none⟩ v2).setCell ⟨b, 3, none⟩ v3) T g := by
 have hn : ∀ (V : World) (i : Nat) (u : Value), (V.setCell ⟨b, i, none⟩ u).heap[T]? = V.heap[T]? := fun V i u => Below.heap_setCell V ⟨b, i, none⟩ u T (fun e => hne e)
 have hk : ((((W.setCell ⟨b, 0, none⟩ v0).setCell ⟨b, 1, none⟩ v1).setCell ⟨b, 2, none⟩ v2).setCell ⟨b, 3, none⟩ v3).heap[T]? = W.heap[T]? := by rw [hn, hn, hn, hn]
 exact ⟨fun j hj => (World.cell?_of_block (a := ⟨T, j, none⟩) hk).trans (h.1 j hj), fun j => (World.frozen?_of_block (a := ⟨T, j, none⟩) hk).trans (h.2.1 j), by simpa using h.2.2⟩
theorem onlyT_keep {w W : World} {T b : Nat} {o : Obj} (h : OnlyT T w W) (hk : w.heap[b]? = some o) (hne : b ≠ T) : W.heap[b]? = some o :=
 (h.block b (bk_lt hk) (fun e => hne (by injection e))).trans hk
abbrev lnO (e p f r : Int) : Obj := .cells #[.int .i64 e, .int .i64 p, .int .i64 f, .int .i64 r] 85
set_option maxRecDepth 100000 in
set_option maxHeartbeats 4000000 in
theorem uwalk_hit (T U : Nat) (g : Nat → Int) (e p kind x0 x1 x2 x3 : Int) (w : World) (ht : NumsIs 41 w T g) (hw : withinB (needN kind) x3 = true)
  (hf : ∀ W, NumsIs 41 W T g → Calls Tryz.prog 133 #[.pointer (some ⟨T, 0, none⟩), .int .i64 e, .int .i64 p] W fun x w' => x = .returned (.tuple #[.agg #[.int .i64 x0, .int .i64 x1, .int .i64 x2, .int .i64 x3], .bool true]) ∧ Below W.heap.size W w') :
  Calls Tryz.prog 87 #[.pointer (some ⟨T, 0, none⟩), .pointer (some ⟨U, 0, none⟩), .int .i64 e, .int .i64 p, .int .i64 kind] w fun x w' => x = .returned (.tuple #[lineV (x0, x1, x2, x3), .bool true]) ∧ Below w.heap.size w w' := by
 have HF := Lib.hid hf
 have HT := Lib.hid ht
 have HL := Lib.hid (fun W => lets_any x3 kind W)
 rw [hw] at HL
 clear hf ht hw
 go_enter Tryz.func87, Tryz.ntmps87
 go_wp2_with fail
 refine (HF.out _ (HT.out.later ((Below.refl _ _).alloc (Nat.le_refl _) _))).mono ?_
 rintro x w1 ⟨rfl, hb⟩
 have B1 := Lib.hid (bl_alloc (Below.refl w.heap.size w) hb)
 have K1 := Lib.hid (bk_one hb)
 clear hb
 have ql := bk_lt K1.out
 have q0 := bk_free K1.out 0
 have q1 := bk_free K1.out 1
 have q2 := bk_free K1.out 2
 have q3 := bk_free K1.out 3
 have b0 := bk_cell K1.out 0
 have b1 := bk_cell K1.out 1
 have b2 := bk_cell K1.out 2
 have b3 := bk_cell K1.out 3
 go_wp2_with (go_at_call 134; refine (HL.out _).mono ?_; rintro e w' ⟨rfl, rfl⟩)
 refine bodyPost_ret (v := .tuple #[lineV (x0, x1, x2, x3), .bool true]) (by simp [results, Tryz.results87, go_sem, four_out K1.out]) rfl ⟨rfl, ?_⟩
 exact (four_set B1.out _ (Nat.le_refl _) _ _ _ _).alloc (by simpa using B1.out.size) _
set_option maxRecDepth 100000 in
set_option maxHeartbeats 4000000 in
theorem uwalk_fill (T U : Nat) (g g' : Nat → Int) (e p kind x0 x1 x2 x3 f r : Int) (b : Bool) (w : World) (ht : NumsIs 41 w T g) (hw : withinB (needN kind) x3 = false) (hr : withinB (needN kind) r = true)
  (hf : ∀ W, NumsIs 41 W T g → Calls Tryz.prog 133 #[.pointer (some ⟨T, 0, none⟩), .int .i64 e, .int .i64 p] W fun x w' => x = .returned (.tuple #[.agg #[.int .i64 x0, .int .i64 x1, .int .i64 x2, .int .i64 x3], .bool b]) ∧ Below W.heap.size W w')
  (he : ∀ W, Below w.heap.size w W → Calls Tryz.prog 135 #[.pointer (some ⟨U, 0, none⟩), .int .i64 e, .int .i64 p] W fun x w' => x = .returned (.tuple #[.agg #[.int .i64 e, .int .i64 p, .int .i64 f, .int .i64 r], .bool true]) ∧ Below W.heap.size W w')
  (hl : ∀ W, NumsIs 41 W T g → Calls Tryz.prog 137 #[.pointer (some ⟨T, 0, none⟩), .agg #[.int .i64 e, .int .i64 p, .int .i64 f, .int .i64 r]] W fun x w' => x = .returned (.bool true) ∧ NumsIs 41 w' T g' ∧ OnlyT T W w') :
  Calls Tryz.prog 87 #[.pointer (some ⟨T, 0, none⟩), .pointer (some ⟨U, 0, none⟩), .int .i64 e, .int .i64 p, .int .i64 kind] w fun x w' => x = .returned (.tuple #[lineV (e, p, f, r), .bool true]) ∧ NumsIs 41 w' T g' ∧ OnlyT T w w' := by
 have HT := Lib.hid ht
 have hTl := ht.2.2
 have HL := Lib.hid (fun W => lets_any x3 kind W)
 rw [hw] at HL
 have HL2 := Lib.hid (fun W => lets_any r kind W)
 rw [hr] at HL2
 have HE := Lib.hid he
 have HI := Lib.hid hl
 have HTL : Hid (T < w.heap.size) := hTl
 clear ht hw hr he hl hTl
 cases b
 all_goals
  have HF := Lib.hid hf
  clear hf
  go_enter Tryz.func87, Tryz.ntmps87
  go_wp2_with fail
  refine (HF.out _ (HT.out.later ((Below.refl _ _).alloc (Nat.le_refl _) _))).mono ?_
  rintro x w1 ⟨rfl, hb⟩
  have B1 := Lib.hid (bl_alloc (Below.refl w.heap.size w) hb)
  have K1 := Lib.hid (bk_one hb)
  clear hb
  have B2 := Lib.hid (B1.out.alloc B1.out.size (lnO x0 x1 x2 x3))
  have K2 := Lib.hid (show (w1.alloc (lnO x0 x1 x2 x3)).heap[w.heap.size]? = _ from (Below.heap_alloc w1 _ w.heap.size (bk_lt K1.out)).trans K1.out)
  go_wp2_with (go_at_call 134; refine (HL.out _).mono ?_; rintro e w' ⟨rfl, rfl⟩)
  refine (HE.out _ B2.out).mono ?_
  rintro x w2 ⟨rfl, hb⟩
  have B3 := Lib.hid (bl_trans B2.out hb)
  have K3 := Lib.hid (bk_below K2.out hb)
  clear hb
  have B4 := Lib.hid (B3.out.alloc B3.out.size (lnO e p f r))
  have K4 := Lib.hid (show (w2.alloc (lnO e p f r)).heap[w.heap.size]? = _ from (Below.heap_alloc w2 _ w.heap.size (bk_lt K3.out)).trans K3.out)
  have N4 := Lib.hid (heap_alloc_new w2 (lnO e p f r))
  go_wp2_with (go_at_call 134; refine (HL2.out _).mono ?_; rintro e w' ⟨rfl, rfl⟩)
  refine (HI.out _ (HT.out.later B4.out)).mono ?_
  rintro x w3 ⟨rfl, hn, ho⟩
  have HN := Lib.hid hn
  have HO := Lib.hid ho
  clear hn ho
  have hTl := HTL.out
  have hs3 := B3.out.size
  have K5 := Lib.hid (onlyT_keep HO.out K4.out (by omega))
  have N5 := Lib.hid (onlyT_keep HO.out N4.out (by omega))
  have q0 := bk_free K5.out 0
  have q1 := bk_free K5.out 1
  have q2 := bk_free K5.out 2
  have q3 := bk_free K5.out 3
  have b0 := bk_cell K5.out 0
  have b1 := bk_cell K5.out 1
  have b2 := bk_cell K5.out 2
  have b3 := bk_cell K5.out 3
  have c0 := bk_cell N5.out 0
  have c1 := bk_cell N5.out 1
  have c2 := bk_cell N5.out 2
  have c3 := bk_cell N5.out 3
  go_wp2_with fail
  refine bodyPost_ret (v := .tuple #[lineV (e, p, f, r), .bool true]) (by simp [results, Tryz.results87, go_sem, b0, b1, b2, b3]) rfl ⟨rfl, ?_, onlyT_four (onlyT_from B4.out HO.out) _ (Nat.le_refl _) _ _ _ _⟩
  exact nums_off HN.out (by have := HTL.out; omega)
set_option maxRecDepth 100000 in
set_option maxHeartbeats 4000000 in
theorem uwalk_flush (T U : Nat) (g g' : Nat → Int) (e p kind x0 x1 x2 x3 f r : Int) (b b2 b3 : Bool) (w : World) (ht : NumsIs 41 w T g) (hw : withinB (needN kind) x3 = false) (hr : withinB (needN kind) r = false)
  (hf : ∀ W, NumsIs 41 W T g → Calls Tryz.prog 133 #[.pointer (some ⟨T, 0, none⟩), .int .i64 e, .int .i64 p] W fun x w' => x = .returned (.tuple #[.agg #[.int .i64 x0, .int .i64 x1, .int .i64 x2, .int .i64 x3], .bool b]) ∧ Below W.heap.size W w')
  (he : ∀ W, Below w.heap.size w W → Calls Tryz.prog 135 #[.pointer (some ⟨U, 0, none⟩), .int .i64 e, .int .i64 p] W fun x w' => x = .returned (.tuple #[.agg #[.int .i64 e, .int .i64 p, .int .i64 f, .int .i64 r], .bool b2]) ∧ Below W.heap.size W w')
  (hl : ∀ W, NumsIs 41 W T g → Calls Tryz.prog 136 #[.pointer (some ⟨T, 0, none⟩), .int .i64 e, .int .i64 p] W fun x w' => x = .returned (.bool b3) ∧ NumsIs 41 w' T g' ∧ OnlyT T W w') :
  Calls Tryz.prog 87 #[.pointer (some ⟨T, 0, none⟩), .pointer (some ⟨U, 0, none⟩), .int .i64 e, .int .i64 p, .int .i64 kind] w fun x w' => x = .returned (.tuple #[lineV (0, 0, 0, 0), .bool false]) ∧ NumsIs 41 w' T g' ∧ OnlyT T w w' := by
 have HT := Lib.hid ht
 have HL := Lib.hid (fun W => lets_any x3 kind W)
 rw [hw] at HL
 have HL2 := Lib.hid (fun W => lets_any r kind W)
 rw [hr] at HL2
 have HI := Lib.hid hl
 have HTL : Hid (T < w.heap.size) := ht.2.2
 clear ht hw hr hl
 cases b
 all_goals cases b2
 all_goals
  have HF := Lib.hid hf
  have HE := Lib.hid he
  clear hf he
  go_enter Tryz.func87, Tryz.ntmps87
  go_wp2_with fail
  refine (HF.out _ (HT.out.later ((Below.refl _ _).alloc (Nat.le_refl _) _))).mono ?_
  rintro x w1 ⟨rfl, hb⟩
  have B1 := Lib.hid (bl_alloc (Below.refl w.heap.size w) hb)
  have K1 := Lib.hid (bk_one hb)
  clear hb
  have B2 := Lib.hid (B1.out.alloc B1.out.size (lnO x0 x1 x2 x3))
  have K2 := Lib.hid (show (w1.alloc (lnO x0 x1 x2 x3)).heap[w.heap.size]? = _ from (Below.heap_alloc w1 _ w.heap.size (bk_lt K1.out)).trans K1.out)
  go_wp2_with (go_at_call 134; refine (HL.out _).mono ?_; rintro e w' ⟨rfl, rfl⟩)
  refine (HE.out _ B2.out).mono ?_
  rintro x w2 ⟨rfl, hb⟩
  have B3 := Lib.hid (bl_trans B2.out hb)
  have K3 := Lib.hid (bk_below K2.out hb)
  clear hb
  have B4 := Lib.hid (B3.out.alloc B3.out.size (lnO e p f r))
  have K4 := Lib.hid (show (w2.alloc (lnO e p f r)).heap[w.heap.size]? = _ from (Below.heap_alloc w2 _ w.heap.size (bk_lt K3.out)).trans K3.out)
  go_wp2_with (go_at_call 134; refine (HL2.out _).mono ?_; rintro e w' ⟨rfl, rfl⟩)
  refine (HI.out _ (HT.out.later B4.out)).mono ?_
  rintro x w3 ⟨rfl, hn, ho⟩
  have HN := Lib.hid hn
  have HO := Lib.hid ho
  clear hn ho
  have hTl := HTL.out
  have K5 := Lib.hid (onlyT_keep HO.out K4.out (by omega))
  have q0 := bk_free K5.out 0
  have q1 := bk_free K5.out 1
  have q2 := bk_free K5.out 2
  have q3 := bk_free K5.out 3
  have b0 := bk_cell K5.out 0
  have b1 := bk_cell K5.out 1
  have b2 := bk_cell K5.out 2
  have b3 := bk_cell K5.out 3
  go_wp2_with fail
  refine bodyPost_ret (v := .tuple #[lineV (0, 0, 0, 0), .bool false]) (by simp [results, Tryz.results87, go_sem, b0, b1, b2, b3]) rfl ⟨rfl, ?_, onlyT_four (onlyT_from B4.out HO.out) _ (Nat.le_refl _) _ _ _ _⟩
  exact nums_off HN.out (by have := HTL.out; omega)
theorem withinB_zero (a : Int) : withinB a 0 = false := by
 unfold withinB mayB
 simp
set_option maxHeartbeats 2000000 in
theorem uwalk_all (T U : Nat) (g tg : Nat → Int) (e p kind : Int) (w : World) (ht : NumsIs 41 w T g) (hb : BufOk g) (hu : TabIs w U tg) (hk : TabOk tg) (he : 0 ≤ e ∧ e < 4) (hp : 0 ≤ p ∧ p < 8) :
  Calls Tryz.prog 87 #[.pointer (some ⟨T, 0, none⟩), .pointer (some ⟨U, 0, none⟩), .int .i64 e, .int .i64 p, .int .i64 kind] w fun x w' => x = .returned (.tuple #[lineV (walkS g tg e p kind).2.1, .bool (walkS g tg e p kind).2.2]) ∧ NumsIs 41 w' T (walkS g tg e p kind).1 ∧ OnlyT T w w' := by
 obtain ⟨q, rfl⟩ : ∃ q : Nat, p = (q : Int) := ⟨p.toNat, by omega⟩
 have hq8 : q < 8 := by omega
 obtain ⟨b, x0, x1, x2, x3, hf, hc⟩ := ufind hb T e (q : Int)
 by_cases h1 : b = true ∧ withinB (needN kind) x3 = true
 ·obtain ⟨rfl, hw⟩ := h1
  rcases hc with ⟨_, h8, e0, e1, e2, e3⟩ | ⟨h, _⟩
  ·have hS : walkS g tg e (q : Int) kind = (g, (x0, x1, x2, x3), true) := by
    unfold walkS
    rw [e0, e1, e2, e3, if_pos ⟨h8, hw⟩]
   rw [hS]
   refine (uwalk_hit T U g e q kind x0 x1 x2 x3 w ht hw hf).mono ?_
   rintro x w' ⟨rfl, hbl⟩
   exact ⟨rfl, ht.later hbl, tp_below hbl⟩
  ·exact absurd h (by decide)
 ·have hw : withinB (needN kind) x3 = false := by
   cases hq : withinB (needN kind) x3
   ·rfl
   ·rcases hc with ⟨hb1, _⟩ | ⟨_, _, h0⟩
    ·exact absurd ⟨hb1, hq⟩ h1
    ·rw [h0, withinB_zero] at hq
     exact absurd hq (by decide)
  have hno : ¬ (whereN g e q < 8 ∧ withinB (needN kind) (g (whereN g e q * 5 + 3)) = true) := by
   rintro ⟨h8, hq⟩
   rcases hc with ⟨_, _, _, _, _, e3⟩ | ⟨_, h, _⟩
   ·rw [e3, hw] at hq
    exact absurd hq (by decide)
   ·omega
  cases hr : withinB (needN kind) (tg (q * 3 + 2))
  ·have hS : walkS g tg e (q : Int) kind = (flushS g e q, (0, 0, 0, 0), false) := by
    unfold walkS
    rw [if_neg hno, Int.toNat_natCast, hr, if_neg (by decide)]
   rw [hS]
   dsimp only
   obtain ⟨b3, hl⟩ := uflush hb T e (q : Int)
   by_cases hz : tg (q * 3 + 2) = 0
   ·exact uwalk_flush T U g (flushS g e q) e q kind x0 x1 x2 x3 0 0 b false b3 w ht hw (withinB_zero _) hf (fun W hW => uentry_walk U e q W fun V hV => tat_none V U q tg hq8 (hu.later (bl_trans hW hV)) hz) hl
   ·exact uwalk_flush T U g (flushS g e q) e q kind x0 x1 x2 x3 (tg (q * 3)) (tg (q * 3 + 2)) b true b3 w ht hw hr hf (fun W hW => uentry_walk U e q W fun V hV => tat_ok V U q tg hq8 (hu.later (bl_trans hW hV)) hz) hl
  ·have hz : ¬ tg (q * 3 + 2) = 0 := by
    intro h
    rw [h, withinB_zero] at hr
    exact absurd hr (by decide)
   have hS : walkS g tg e (q : Int) kind = (fillS g e q (tg (q * 3)) (tg (q * 3 + 2)), (e, (q : Int), tg (q * 3), tg (q * 3 + 2)), true) := by
    unfold walkS
    rw [if_neg hno, Int.toNat_natCast, hr, if_pos rfl]
   rw [hS]
   dsimp only
   have hl : lineB e (q : Int) (tg (q * 3)) (tg (q * 3 + 2)) = true := decide_eq_true ⟨he, by omega, by have := hk q hq8; omega, by have := hk q hq8; omega⟩
   exact uwalk_fill T U g (fillS g e q (tg (q * 3)) (tg (q * 3 + 2))) e q kind x0 x1 x2 x3 (tg (q * 3)) (tg (q * 3 + 2)) b w ht hw hr hf (fun W hW => uentry_walk U e q W fun V hV => tat_ok V U q tg hq8 (hu.later (bl_trans hW hV)) hz) (ufill hb T e q _ _ hl)
theorem bk_box3 {w w' : World} {o1 o2 o3 : Obj} (h : Below (((w.alloc o1).alloc o2).alloc o3).heap.size (((w.alloc o1).alloc o2).alloc o3) w') : w'.heap[w.heap.size]? = some o1 ∧ w'.heap[w.heap.size + 1]? = some o2 ∧ w'.heap[w.heap.size + 2]? = some o3 := by
 refine ⟨?_, ?_, ?_⟩
 ·rw [h.block _ (by simp <;> omega), Below.heap_alloc _ o3 _ (by simp <;> omega), Below.heap_alloc _ o2 _ (by simp <;> omega)]
  exact heap_alloc_new w o1
 ·rw [h.block _ (by simp <;> omega), Below.heap_alloc _ o3 _ (by simp <;> omega)]
  have h2 := heap_alloc_new (w.alloc o1) o2
  simpa using h2
 ·rw [h.block _ (by simp)]
  have h2 := heap_alloc_new ((w.alloc o1).alloc o2) o3
  simpa using h2
theorem bl_box3 {w w' : World} {o1 o2 o3 : Obj} (h : Below (((w.alloc o1).alloc o2).alloc o3).heap.size (((w.alloc o1).alloc o2).alloc o3) w') : Below w.heap.size w w' :=
 ((((Below.refl _ _).alloc (Nat.le_refl _) o1).alloc (by simp) o2).alloc (by simp; omega) o3).trans (h.mono (by simp; omega))
set_option maxRecDepth 100000 in
set_option maxHeartbeats 4000000 in
theorem udo_err (T U M : Nat) (env x0 x1 x2 x3 x4 : Int) (w : World) (hx : wordsIn x0 x1 x2 x3 x4) (hd : ¬ doE env x0 x1 x2 x3 x4 = 0) :
  Calls Tryz.prog 35 #[.pointer (some ⟨T, 0, none⟩), .pointer (some ⟨U, 0, none⟩), .pointer (some ⟨M, 0, none⟩), .int .i64 env, callV x0 x1 x2 x3 x4] w fun x w' => x = .returned (.tuple #[.agg #[.int .i64 (doE env x0 x1 x2 x3 x4), .int .u64 0], lineV (0, 0, 0, 0)]) ∧ Below w.heap.size w w' := by
 have HC := Lib.hid (fun W => ucheck_any env x0 x1 x2 x3 x4 hx W)
 obtain ⟨d, hde⟩ : ∃ d, d = doE env x0 x1 x2 x3 x4 := ⟨_, rfl⟩
 rw [← hde] at HC hd ⊢
 have q : (d == 0) = false := beq_eq_false_iff_ne.2 hd
 clear hx hd hde
 go_enter Tryz.func35, Tryz.ntmps35
 go_wp2_with fail
 refine (HC.out _).mono ?_
 rintro x w1 ⟨rfl, hb⟩
 have B1 := Lib.hid (bl_box3 hb)
 obtain ⟨k0, k1, k2⟩ := bk_box3 hb
 clear hb
 have a0 := bk_cell k1 0
 have a1 := bk_cell k1 1
 have f0 := bk_free k1 0
 have f1 := bk_free k1 1
 have c0 := bk_cell k2 0
 have c1 := bk_cell k2 1
 have c2 := bk_cell k2 2
 have c3 := bk_cell k2 3
 have g0 := bk_free k2 0
 have g1 := bk_free k2 1
 have g2 := bk_free k2 2
 have g3 := bk_free k2 3
 clear k0
 go_wp2_with fail
 refine bodyPost_ret (v := .tuple #[.agg #[.int .i64 d, .int .u64 0], lineV (0, 0, 0, 0)]) (by simp [results, Tryz.results35, go_sem, a0, a1, c0, c1, c2, c3]) rfl ⟨rfl, ?_⟩
 exact four_set ((B1.out.setCell (show w.heap.size ≤ w.heap.size + 1 by omega) _).setCell (show w.heap.size ≤ w.heap.size + 1 by omega) _) _ (by omega) _ _ _ _
end Go.Proofs.YtdfhfmdelinemaaGreatDoor

