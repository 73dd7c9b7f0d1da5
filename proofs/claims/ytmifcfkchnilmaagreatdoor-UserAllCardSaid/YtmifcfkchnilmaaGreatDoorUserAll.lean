/- What is proved here: the statement UserAll: whatever its lines, its entries and its asks, the statement returns true and leaves what was there. Conditions: package user keeps its contracts; the lines, the entries and the asks are there; the statements' own beginning returns true. -/
import Derived.Test.YtmifcfkchnilmaaGreatDoorUAllS
import Derived.Test.YtmifcfkchnilmaaGreatDoorLnAt
import Derived.Test.YtmifcfkchnilmaaGreatDoorGPair
import Derived.Test.YtmifcfkchnilmaaGreatDoorTlb4
import Derived.StillTailTactics
import Derived.Deep.RegionHeld3
import Derived.Deep.QuietTactic
import Derived.BigQuiet
import Derived.RegionTactic
import Derived.WalkArith
namespace Go.Proofs.YtmifcfkchnilmaaGreatDoor
open Go.RowKit Go.Extern.Stop Go.Stop Go.Extern Go.WalkArith
theorem Side.swap {w W : World} {o1 o2 : Thing} {l : List Thing} (h : Side w W (o1 :: o2 :: l)) : Side w W (o2 :: o1 :: l) := by
 obtain ⟨p1, m1, d1, p2, m2, d2, h⟩ := h
 refine ⟨p2, m2, fun q hq i hi hqi => ?_, p1, m1, fun q hq => d1 q (List.mem_cons_of_mem _ hq), h⟩
 rcases List.mem_cons.1 hq with rfl | hq
 ·exact d1 o2 (List.mem_cons_self ..) i hqi hi
 ·exact d2 q hq i hi hqi
def uaS (C : Nat) (o : Obj) (b : Addr) (e : Int) (W : World) : Prop := W.heap[C]? = some o ∧ W.cell? b = some (.int .i64 e)
def UaCall (g tg mg : Nat → Int) (e x0 x1 x2 x3 x4 er v l0 l1 l2 l3 : Int) (g' mg' : Nat → Int) : Prop :=
 (¬ doE e x0 x1 x2 x3 x4 = 0 ∧ er = doE e x0 x1 x2 x3 x4 ∧ v = 0 ∧ l0 = 0 ∧ l1 = 0 ∧ l2 = 0 ∧ l3 = 0 ∧ g' = g ∧ mg' = mg) ∨
 (doE e x0 x1 x2 x3 x4 = 0 ∧ ∃ ok, walkS g tg e x1 x0 = (g', (l0, l1, l2, l3), ok) ∧ er = (if ok = true then 0 else 7) ∧ v = (if ok = true then memV mg 16 l2 x2.toNat x0 else 0) ∧ mg' = if ok = true then memS mg 16 l2 x2.toNat x0 x3 x4 else mg)
theorem ua_do {w : World} {T U M F : Nat} {g h tg mg : Nat → Int} {k : KernS} {n e x0 x1 x2 x3 x4 : Int} (H : UserC) (ho : UAOk n g h tg mg k) (hn : n ≤ 900) (hw : wordsIn x0 x1 x2 x3 x4) :
  ∃ (er v l0 l1 l2 l3 : Int) (g' mg' : Nat → Int), UaCall g tg mg e x0 x1 x2 x3 x4 er v l0 l1 l2 l3 g' mg' ∧
   ∀ (l : List Thing) (W : World), Side w W (l ++ [userT T U M F 16 g tg mg]) → Calls Tryz.prog 40 #[.pointer (some ⟨T, 0, none⟩), .pointer (some ⟨U, 0, none⟩), .pointer (some ⟨M, 0, none⟩), .int .i64 e, callV x0 x1 x2 x3 x4] W fun x W' =>
    x = .returned (.tuple #[.agg #[.int .i64 er, .int .u64 v], .agg #[.int .i64 l0, .int .i64 l1, .int .i64 l2, .int .i64 l3]]) ∧ Side w W' (l ++ [userT T U M F 16 g' tg mg']) := by
 by_cases hd : doE e x0 x1 x2 x3 x4 = 0
 ·rcases hs : walkS g tg e x1 x0 with ⟨g', ⟨l0, l1, l2, l3⟩, ok⟩
  obtain ⟨er, her⟩ : ∃ er : Int, er = if ok = true then 0 else 7 := ⟨_, rfl⟩
  obtain ⟨v, hv⟩ : ∃ v : Int, v = if ok = true then memV mg 16 l2 x2.toNat x0 else 0 := ⟨_, rfl⟩
  obtain ⟨mg', hmg⟩ : ∃ mg' : Nat → Int, mg' = if ok = true then memS mg 16 l2 x2.toNat x0 x3 x4 else mg := ⟨_, rfl⟩
  refine ⟨er, v, l0, l1, l2, l3, g', mg', Or.inr ⟨hd, ok, hs, her, hv, hmg⟩, fun l W h => ?_⟩
  exact side_udo H l h (ua_buf ho hn) ho.tab hw hd hs her hv hmg
 ·refine ⟨_, 0, 0, 0, 0, 0, g, mg, Or.inl ⟨hd, rfl, rfl, rfl, rfl, rfl, rfl, rfl, rfl⟩, fun l W h => (H.err_ T U M e x0 x1 x2 x3 x4 W hw hd).mono ?_⟩
  rintro x W' ⟨rfl, hb⟩
  exact ⟨rfl, h.under hb⟩
set_option maxRecDepth 100000 in
set_option maxHeartbeats 8000000 in
theorem uall_any (H : UserC) (ao : Option Addr) (a : Addr) (len cap : Nat) (bo : Option Addr) (b : Addr) (blen bcap : Nat) (co : Option Addr) (c : Addr) (clen ccap : Nat) (w : World) (ha : LnsAt w ao a len) (hb : PtsAt w bo b blen) (hc : AsksAt w co c clen) (hbeg : BegunAt11 w) :
  Calls Tryz.prog 5 #[.slice ao len cap, .slice bo blen bcap, .slice co clen ccap] w fun e w' => e = .returned (.bool true) ∧ Below w.heap.size w w' := by
 have HB := Lib.hid hbeg
 have HH := Lib.hid H
 have HA := Lib.hid ha
 have HC := Lib.hid hb
 have HD := Lib.hid hc
 clear hbeg H ha hb hc
 go_enter Tryz.func5, Tryz.ntmps5
 go_wp2_with fail
 refine HB.out.mono ?_
 rintro x w1 ⟨rfl, hb1⟩
 have B1 : Hid (Side w w1 []) := hb1
 clear hb1 HB
 go_wp2_with fail
 refine (tlb_new w1).mono ?_
 rintro x w2 ⟨rfl, hb2, hn2⟩
 obtain ⟨T, hT⟩ : ∃ T, T = w1.heap.size := ⟨_, rfl⟩
 rw [← hT] at hn2 ⊢
 have tT : Hid (w1.heap.size ≤ T ∧ T < w2.heap.size) := ⟨by omega, hn2.2.2⟩
 have N2 := Lib.hid (And.intro hb2 hn2)
 clear hT hb2 hn2
 go_wp2_with fail
 refine (tab_new w2).mono ?_
 rintro x w3 ⟨rfl, hb3, ht3⟩
 obtain ⟨U, hU⟩ : ∃ U, U = w2.heap.size := ⟨_, rfl⟩
 rw [← hU] at ht3 ⊢
 have tU : Hid (w2.heap.size ≤ U ∧ U < w3.heap.size) := ⟨by omega, ht3.2.2⟩
 have N3 := Lib.hid (And.intro hb3 ht3)
 clear hU hb3 ht3
 go_wp2_with fail
 refine (new_16 w3).mono ?_
 rintro x w4 ⟨rfl, hb4, hm4⟩
 obtain ⟨F, hF⟩ : ∃ F, F = w3.heap.size := ⟨_, rfl⟩
 rw [← hF] at hm4 ⊢
 obtain ⟨M, hM⟩ : ∃ M, M = F + 1 := ⟨_, rfl⟩
 rw [← hM] at hm4 ⊢
 have tM : Hid (w3.heap.size ≤ F ∧ F < M) := ⟨by omega, by omega⟩
 have N4 := Lib.hid (And.intro hb4 hm4)
 clear hM hF hb4 hm4
 have S4 : Hid (Side w w4 [userT T U M F 16 (fun _ => 0) (fun _ => 0) (fun _ => 0)]) := by
  obtain ⟨hb2, hn2⟩ := N2.out
  obtain ⟨hb3, ht3⟩ := N3.out
  obtain ⟨hb4, hm4⟩ := N4.out
  have l1 := tT.out
  have l2 := tU.out
  have l3 := tM.out
  have s1 := hb2.size
  have s2 := hb3.size
  refine Side.make (l := []) B1.out (bl_trans (bl_trans hb2 hb3) hb4) _ ⟨(hn2.later hb3).later hb4, ht3.later hb4, hm4, by omega, by omega, by omega, by omega, by omega⟩ fun i hi => ?_
  rcases hi with rfl | rfl | rfl | rfl <;> omega
 clear N2 N3 N4 tT tU tM B1
 go_wp2_with fail
 refine (ua_ref S4.out).mono ?_
 rintro x w5 ⟨R, rfl, h5⟩
 have S5 := Lib.hid h5
 clear h5 S4
 go_wp2_with fail
 refine (ua_kref 1 4 16 S5.out).mono ?_
 rintro x w6 ⟨K, rfl, h6⟩
 have S6 := Lib.hid h6
 clear h6 S5
 go_upto_block 0 with (fail)
 obtain ⟨P, hP⟩ : ∃ P, P = w6.heap.size := ⟨_, rfl⟩
 have S7 := Lib.hid (Side.make S6.out ((Below.refl _ _).alloc (Nat.le_refl _) _) (ntT w6.heap.size (fun _ => 0)) (TabIs.new w6 40) (fun i hi => by have hi : i = w6.heap.size := hi; omega))
 rw [← hP] at S7
 have O7 : Hid (UAOk 0 (fun _ => 0) (noneK (fun _ => 0) 8) (fun _ => 0) (fun _ => 0) (newK 1 4 16)) := ua_start
 rw [← hP]
 clear hP S6
 go_cut [14] (fun _ W => ∃ g h, UAOk 12 g h (fun _ => 0) (fun _ => 0) (newK 1 4 16) ∧ Side w W (uaL P K R T U M F g h (fun _ => 0) (fun _ => 0) (newK 1 4 16)))
 case first =>
  as_aux_lemma =>
   go_wp2_with fail
   go_loopw [14] (fun iv W => ∃ (i : Nat) (g h : Nat → Int), iv = .int .i64 i ∧ i ≤ len ∧ i ≤ 12 ∧ UAOk (i : Int) g h (fun _ => 0) (fun _ => 0) (newK 1 4 16) ∧ Side w W (uaL P K R T U M F g h (fun _ => 0) (fun _ => 0) (newK 1 4 16))) (fun iv _ => (12 - intOf iv).toNat)
   case atStart => exact ⟨0, _, _, rfl, by omega, by omega, O7.out, S7.out⟩
   case round =>
    clear S7 O7
    obtain ⟨i, g, h, rfl, hil, hi12, ho, hs⟩ := hrel
    have HU := Lib.hid hs
    have HO := Lib.hid ho
    clear hs ho
    have i0 : (0 : Int) ≤ (i : Int) := by omega
    rcases (show (i < len ∧ i < 12) ∨ ¬ i < len ∨ (i < len ∧ ¬ i < 12) by omega) with ⟨h1, h2⟩ | h1 | ⟨h1, h2⟩
    ·obtain rfl : ao = some a := HA.out.1 (by omega)
     have i1 : (i : Int) < (len : Int) := by omega
     have i2 : (i : Int) < 12 := by omega
     obtain ⟨y0, y1, y2, y3, hq⟩ := HA.out.2 i h1
     have HQ := Lib.hid hq
     clear hq
     have hq := HQ.out.later HU.out.below
     have q0 := hq.c0
     have q1 := hq.c1
     have q2 := hq.c2
     have q3 := hq.c3
     clear hq
     go_wp2_with fail
     refine (ua_fill HO.out (by omega) HU.out y0 y1 y2 y3).mono ?_
     rintro x w8 ⟨bb, rfl, h3⟩
     have HU4 := Lib.hid h3
     clear h3 HU q0 q1 q2 q3
     have hq := HQ.out.later HU4.out.below
     have q0 := hq.c0
     have q1 := hq.c1
     have q2 := hq.c2
     have q3 := hq.c3
     clear hq
     go_wp2_with fail
     refine (ua_rfill [] HO.out (by omega) HU4.out y0 y1 y2 y3).mono ?_
     rintro x w9 ⟨bb2, h', rfl, h3, h4⟩
     have HU5 := Lib.hid h4
     have HO5 := Lib.hid h3
     clear h3 h4 HU4 HO q0 q1 q2 q3 HQ
     go_wp2_with fail
     go_roundw
     case rel => exact ⟨i + 1, _, h', by go_num, by omega, by omega, HO5.out, HU5.out⟩
     case measure => simp [intOf]; omega
    ·have i1 : ¬ (i : Int) < (len : Int) := by omega
     go_wp2_with fail
     go_meet
     case rel => exact ⟨g, h, HO.out.more (by omega), HU.out⟩
    ·have i1 : (i : Int) < (len : Int) := by omega
     have i2 : ¬ (i : Int) < 12 := by omega
     go_wp2_with fail
     go_meet
     case rel => exact ⟨g, h, HO.out.more (by omega), HU.out⟩
 case rest =>
  as_aux_lemma =>
   obtain ⟨g, h, ho, hs⟩ := hcut
   have U4 := Lib.hid hs
   have O4 := Lib.hid ho
   clear ho hs S7 O7
   go_upto_block 2 with (fail)
   go_cut [15] (fun _ W => ∃ tg, UAOk 12 g h tg (fun _ => 0) (newK 1 4 16) ∧ Side w W (uaL P K R T U M F g h tg (fun _ => 0) (newK 1 4 16)))
   case first =>
    as_aux_lemma =>
     go_wp2_with fail
     go_loopw [15] (fun iv W => ∃ (i : Nat) (tg : Nat → Int), iv = .int .i64 i ∧ i ≤ blen ∧ i ≤ 8 ∧ UAOk 12 g h tg (fun _ => 0) (newK 1 4 16) ∧ Side w W (uaL P K R T U M F g h tg (fun _ => 0) (newK 1 4 16))) (fun iv _ => (8 - intOf iv).toNat)
     case atStart => exact ⟨0, _, rfl, by omega, by omega, O4.out, U4.out⟩
     case round =>
      clear U4 O4
      obtain ⟨i, tg, rfl, hil, hi8, ho, hs⟩ := hrel
      have HU := Lib.hid hs
      have HO := Lib.hid ho
      clear hs ho
      have i0 : (0 : Int) ≤ (i : Int) := by omega
      rcases (show (i < blen ∧ i < 8) ∨ ¬ i < blen ∨ (i < blen ∧ ¬ i < 8) by omega) with ⟨h1, h2⟩ | h1 | ⟨h1, h2⟩
      ·obtain rfl : bo = some b := HC.out.1 (by omega)
       have i1 : (i : Int) < (blen : Int) := by omega
       have i2 : (i : Int) < 8 := by omega
       obtain ⟨y0, y1, y2, hq⟩ := HC.out.2 i h1
       have HQ := Lib.hid hq
       clear hq
       have hq := HQ.out.later HU.out.below
       have q0 := hq.c0
       have q1 := hq.c1
       have q2 := hq.c2
       clear hq
       go_wp2_with fail
       refine (ua_insert h2 y0 y1 y2 HO.out [ntT P tg, kkT K (newK 1 4 16), nbT R h] HU.out).mono ?_
       rintro x w8 ⟨mm, tg', rfl, hm, h3⟩
       have HU4 := Lib.hid h3
       clear h3 HU q0 q1 q2
       rcases hm with ⟨rfl, rfl, h4⟩ | ⟨hm, rfl⟩
       ·have HT4 := Lib.hid h4
        clear h4
        have hq := HQ.out.later HU4.out.below
        have q0 := hq.c0
        have q1 := hq.c1
        have q2 := hq.c2
        have pl := (HU4.out.1).2.2
        have fz := (HU4.out.1).2.1
        have p0 := (HU4.out.1).1 (i * 3) (by omega)
        have p1 := (HU4.out.1).1 (i * 3 + 1) (by omega)
        have p2 := (HU4.out.1).1 (i * 3 + 2) (by omega)
        have f0 := fz (i * 3)
        have f1 := fz (i * 3 + 1)
        have f2 := fz (i * 3 + 2)
        clear hq fz
        go_wp2_with fail
        go_roundw
        case rel => exact ⟨i + 1, _, by go_num, by omega, by omega, HO.out.put HT4.out, ua_put HU4.out h2 y0 y1 y2⟩
        case measure => simp [intOf]; omega
       ·have hm0 : (mm == 0) = false := by rcases hm with rfl | rfl <;> rfl
        clear hm
        go_wp2_with fail
        go_roundw
        case rel => exact ⟨i + 1, _, by go_num, by omega, by omega, HO.out, HU4.out⟩
        case measure => simp [intOf]; omega
      ·have i1 : ¬ (i : Int) < (blen : Int) := by omega
       go_wp2_with fail
       go_meet
       case rel => exact ⟨tg, HO.out, HU.out⟩
      ·have i1 : (i : Int) < (blen : Int) := by omega
       have i2 : ¬ (i : Int) < 8 := by omega
       go_wp2_with fail
       go_meet
       case rel => exact ⟨tg, HO.out, HU.out⟩
   case rest =>
    as_aux_lemma =>
     obtain ⟨tg, ho, hs⟩ := hcut
     have U5 := Lib.hid hs
     have O5 := Lib.hid ho
     clear ho hs U4 O4
     go_upto_block 4 with (fail)
     go_wp2_with fail
     go_loopw [16] (fun iv W => ∃ (i : Nat) (g h mg : Nat → Int) (k : KernS), iv = .int .i64 i ∧ i ≤ clen ∧ i ≤ 40 ∧ UAOk (12 + (i : Int)) g h tg mg k ∧ Side w W (uaL P K R T U M F g h tg mg k)) (fun iv _ => (40 - intOf iv).toNat)
     case atStart => exact ⟨0, _, _, _, _, rfl, by omega, by omega, O5.out, U5.out⟩
     case round =>
      clear U5 O5 g h
      obtain ⟨i, g, h, mg, k, rfl, hil, hi40, ho, hs⟩ := hrel
      have HU := Lib.hid hs
      have HO := Lib.hid ho
      clear hs ho
      have i0 : (0 : Int) ≤ (i : Int) := by omega
      rcases (show (i < clen ∧ i < 40) ∨ ¬ i < clen ∨ (i < clen ∧ ¬ i < 40) by omega) with ⟨h1, h2⟩ | h1 | ⟨h1, h2⟩
      ·obtain rfl : co = some c := HD.out.1 (by omega)
       have i1 : (i : Int) < (clen : Int) := by omega
       have i2 : (i : Int) < 40 := by omega
       obtain ⟨e, x0, x1, x2, x3, x4, hq⟩ := HD.out.2 i h1
       have HQ := Lib.hid hq
       have WI : Hid (wordsIn x0 x1 x2 x3 x4) := hq.words
       clear hq
       have hq := HQ.out.later HU.out.below
       have qe := hq.env
       have q0 := hq.a0
       have q1 := hq.a1
       have q2 := hq.a2
       have q3 := hq.a3
       have q4 := hq.a4
       clear hq
       go_wp2_with fail
       have S9 := Lib.hid (HU.out.box (.cells #[.int .u64 x0, .int .u64 x1, .int .u64 x2, .int .u64 x3, .int .u64 x4] 81))
       obtain ⟨C, hC⟩ : ∃ C, C = wr.heap.size := ⟨_, rfl⟩
       rw [← hC] at S9
       rw [← hC]
       clear hC
       obtain ⟨W8, hW8⟩ : ∃ W8, W8 = wr.alloc (.cells #[.int .u64 x0, .int .u64 x1, .int .u64 x2, .int .u64 x3, .int .u64 x4] 81) := ⟨_, rfl⟩
       rw [← hW8] at S9
       rw [← hW8]
       clear hW8 HU qe q0 q1 q2 q3 q4
       have hq := HQ.out.later S9.out.below
       have qe := hq.env
       have q0 := bk_cell S9.out.1 0
       have q1 := bk_cell S9.out.1 1
       have q2 := bk_cell S9.out.1 2
       have q3 := bk_cell S9.out.1 3
       have q4 := bk_cell S9.out.1 4
       clear hq
       clear qe q0 q1 q2 q3 q4
       obtain ⟨er, v, l0, l1, l2, l3, g', mg', hcase, hcall⟩ := ua_do (w := w) (e := e) (T := T) (U := U) (M := M) (F := F) HH.out HO.out (by omega) WI.out
       have HCASE := Lib.hid hcase
       have HCALL := Lib.hid hcall
       have SD : Hid (Side w W8.drew (fixT C (.cells #[.int .u64 x0, .int .u64 x1, .int .u64 x2, .int .u64 x3, .int .u64 x4] 81) :: uaL P K R T U M F g h tg mg k)) := S9.out.under (dn (Below.refl _ _) 1)
       clear hcase hcall S9
       go_cut [18, 19] (fun av lv W => ∃ A L : Nat, av = .pointer (some ⟨A, 0, none⟩) ∧ lv = .pointer (some ⟨L, 0, none⟩) ∧ Side w W (fixT L (.cells #[.int .i64 l0, .int .i64 l1, .int .i64 l2, .int .i64 l3] 78) :: fixT A (.cells #[.int .i64 er, .int .u64 v] 85) :: fixT C (.cells #[.int .u64 x0, .int .u64 x1, .int .u64 x2, .int .u64 x3, .int .u64 x4] 81) :: uaL P K R T U M F g' h tg mg' k))
       case first =>
        as_aux_lemma =>
         refine wp_region_held_drew (S := uaS C (.cells #[.int .u64 x0, .int .u64 x1, .int .u64 x2, .int .u64 x3, .int .u64 x4] 81) (c.add (i * 6)) e) (by kernel_rfl) ⟨SD.out.1, (HQ.out.later SD.out.below).env⟩ (fun hHeld => ?_)
         obtain ⟨W9, hwr⟩ : ∃ W9, W9 = W8.drew := ⟨_, rfl⟩
         rw [← hwr] at SD hHeld ⊢
         clear hwr
         refine wpAnyH_take (i := 0) (oi := ⟨some 101, _, _, _, _, _⟩) (v := ?_) rfl (by kernel_rfl) (by kernel_rfl) (by kernel_rfl) (fun _ _ _ h => h) (Or.inl ⟨by rfl, ?_⟩) (by assumption) ?_
         rotate_left
         ·(intro w hSw; (try dsimp only at hSw); go_simp <;> with_reducible rfl)
         simp only [Act.put, List.setIfInBounds_toArray, List.set_cons_zero, List.set_cons_succ]
         refine wpAnyH_take (i := 1) (oi := ⟨some 102, _, _, _, _, _⟩) (v := ?_) rfl (by kernel_rfl) (by kernel_rfl) (by kernel_rfl) (fun _ _ _ h => h) (Or.inl ⟨by rfl, ?_⟩) (by assumption) ?_
         rotate_left
         ·(intro w hSw; (try dsimp only at hSw); go_simp <;> with_reducible rfl)
         simp only [Act.put, List.setIfInBounds_toArray, List.set_cons_zero, List.set_cons_succ]
         refine wpAnyH_take (i := 2) (oi := ⟨some 103, _, _, _, _, _⟩) (v := ?_) rfl (by kernel_rfl) (by kernel_rfl) (by kernel_rfl) (fun _ _ _ h => h) (Or.inl ⟨by rfl, ?_⟩) (by assumption) ?_
         rotate_left
         ·(intro w hSw; (try dsimp only at hSw); go_simp <;> with_reducible rfl)
         simp only [Act.put, List.setIfInBounds_toArray, List.set_cons_zero, List.set_cons_succ]
         refine wpAnyH_take (i := 3) (oi := ⟨some 104, _, _, _, _, _⟩) (v := ?_) rfl (by kernel_rfl) (by kernel_rfl) (by kernel_rfl) (fun _ _ _ h => h) (Or.inl ⟨by rfl, ?_⟩) (by assumption) ?_
         rotate_left
         ·(intro w hSw; (try dsimp only at hSw); go_simp <;> with_reducible rfl)
         simp only [Act.put, List.setIfInBounds_toArray, List.set_cons_zero, List.set_cons_succ]
         refine wpAnyH_take (i := 4) (oi := ⟨some 105, _, _, _, _, _⟩) (v := ?_) rfl (by kernel_rfl) (by kernel_rfl) (by kernel_rfl) (fun _ _ _ h => h) (Or.inl ⟨by rfl, ?_⟩) (by assumption) ?_
         rotate_left
         ·(intro w hSw; (try dsimp only at hSw); go_simp <;> with_reducible rfl)
         simp only [Act.put, List.setIfInBounds_toArray, List.set_cons_zero, List.set_cons_succ]
         refine wpAnyH_take (i := 5) (oi := ⟨some 106, _, _, _, _, _⟩) (v := ?_) rfl (by kernel_rfl) (by kernel_rfl) (by kernel_rfl) (fun _ _ _ h => h) (Or.inl ⟨by rfl, ?_⟩) (by assumption) ?_
         rotate_left
         ·(intro w hSw; (try dsimp only at hSw); go_simp <;> with_reducible rfl)
         simp only [Act.put, List.setIfInBounds_toArray, List.set_cons_zero, List.set_cons_succ]
         refine wpAnyH_take (i := 6) (oi := ⟨some 107, _, _, _, _, _⟩) (v := ?_) rfl (by kernel_rfl) (by kernel_rfl) (by kernel_rfl) (fun _ _ _ h => h) (Or.inl ⟨by rfl, ?_⟩) (by assumption) ?_
         rotate_left
         ·(intro w hSw; (try dsimp only at hSw); go_simp <;> with_reducible rfl)
         simp only [Act.put, List.setIfInBounds_toArray, List.set_cons_zero, List.set_cons_succ]
         refine wpAnyH_take (i := 7) (oi := ⟨some 108, _, _, _, _, _⟩) (v := ?_) rfl (by kernel_rfl) (by kernel_rfl) (by kernel_rfl) (fun _ _ _ h => h) (Or.inl ⟨by rfl, ?_⟩) (by assumption) ?_
         rotate_left
         ·(intro w hSw; have qe := hSw.2; go_simp <;> with_reducible rfl)
         simp only [Act.put, List.setIfInBounds_toArray, List.set_cons_zero, List.set_cons_succ]
         refine wpAnyH_take (i := 8) (oi := ⟨some 109, _, _, _, _, _⟩) (v := ?_) rfl (by kernel_rfl) (by kernel_rfl) (by kernel_rfl) (fun _ _ _ h => h) (Or.inl ⟨by rfl, ?_⟩) (by assumption) ?_
         rotate_left
         ·(intro w hSw; have hk := hSw.1; have q0 := bk_cell hk 0; have q1 := bk_cell hk 1; have q2 := bk_cell hk 2; have q3 := bk_cell hk 3; have q4 := bk_cell hk 4; go_simp <;> with_reducible rfl)
         simp only [Act.put, List.setIfInBounds_toArray, List.set_cons_zero, List.set_cons_succ]
         refine wpAnyH_ready (rs := [9, 13, 14]) (by kernel_rfl) (by simp) ?_
         refine AllReadyH.cons (o := ⟨some 110, _, _, _, _, _⟩) rfl (fun KK hK => ?_) (AllReadyH.cons (o := ⟨some 18, _, _, _, _, _⟩) rfl (fun KK hK => ?_) (AllReadyH.cons (o := ⟨some 19, _, _, _, _, _⟩) rfl (fun KK hK => ?_) AllReadyH.nil))
         ·go_simp
          go_at_call 40
          refine (HCALL.out [fixT C _, ntT P tg, kkT K k, nbT R h] W9 SD.out).mono ?_
          rintro x W10 ⟨rfl, hs⟩
          have S10 : Hid (Side w W10 (fixT C (.cells #[.int .u64 x0, .int .u64 x1, .int .u64 x2, .int .u64 x3, .int .u64 x4] 81) :: uaL P K R T U M F g' h tg mg' k)) := hs
          have hS : uaS C (.cells #[.int .u64 x0, .int .u64 x1, .int .u64 x2, .int .u64 x3, .int .u64 x4] 81) (c.add (i * 6)) e W10 := ⟨Side.at [] S10.out, (HQ.out.later S10.out.below).env⟩
          clear hs hHeld SD
          go_wp2_with fail
          refine hK.out _ _ hS (fun hHeld => ?_)
          clear hS hK KK
          try simp only [Act.put, List.setIfInBounds_toArray, List.set_cons_zero, List.set_cons_succ]
          refine wpAnyH_take (i := 10) (oi := ⟨some 100, _, _, _, _, _⟩) (v := ?_) rfl (by kernel_rfl) (by kernel_rfl) (by kernel_rfl) (fun _ _ _ h => h) (Or.inl ⟨by rfl, ?_⟩) (by assumption) ?_
          rotate_left
          ·(intro w hSw; (try dsimp only at hSw); go_simp <;> with_reducible rfl)
          simp only [Act.put, List.setIfInBounds_toArray, List.set_cons_zero, List.set_cons_succ]
          refine wpAnyH_take (i := 11) (oi := ⟨some 111, _, _, _, _, _⟩) (v := ?_) rfl (by kernel_rfl) (by kernel_rfl) (by kernel_rfl) (fun _ _ _ h => h) (Or.inl ⟨by rfl, ?_⟩) (by assumption) ?_
          rotate_left
          ·(intro w hSw; (try dsimp only at hSw); go_simp <;> with_reducible rfl)
          simp only [Act.put, List.setIfInBounds_toArray, List.set_cons_zero, List.set_cons_succ]
          refine wpAnyH_take (i := 12) (oi := ⟨some 112, _, _, _, _, _⟩) (v := ?_) rfl (by kernel_rfl) (by kernel_rfl) (by kernel_rfl) (fun _ _ _ h => h) (Or.inl ⟨by rfl, ?_⟩) (by assumption) ?_
          rotate_left
          ·(intro w hSw; (try dsimp only at hSw); go_simp <;> with_reducible rfl)
          simp only [Act.put, List.setIfInBounds_toArray, List.set_cons_zero, List.set_cons_succ]
          refine wpAnyH_ready (rs := [13, 14]) (by kernel_rfl) (by simp) ?_
          refine AllReadyH.cons (o := ⟨some 18, _, _, _, _, _⟩) rfl (fun KK hK => ?_) (AllReadyH.cons (o := ⟨some 19, _, _, _, _, _⟩) rfl (fun KK hK => ?_) AllReadyH.nil)
          ·go_simp
           have S11 := Lib.hid (S10.out.boxAt (.cells #[.int .i64 0, .int .u64 0] 85) W10.heap.size rfl)
           obtain ⟨A, hA⟩ : ∃ A, A = W10.heap.size := ⟨_, rfl⟩
           rw [← hA] at S11 ⊢
           obtain ⟨W11, hW⟩ : ∃ W11, W11 = W10.alloc (.cells #[.int .i64 0, .int .u64 0] 85) := ⟨_, rfl⟩
           rw [← hW] at S11 ⊢
           clear hA hW S10
           clear hHeld
           refine hK.out _ _ ⟨Side.at [_] S11.out, (HQ.out.later S11.out.below).env⟩ (fun hHeld => ?_)
           clear hK KK
           try simp only [Act.put, List.setIfInBounds_toArray, List.set_cons_zero, List.set_cons_succ]
           refine wpAnyH_ready (rs := [14]) (by kernel_rfl) (by simp) ?_
           refine AllReadyH.cons (o := ⟨some 19, _, _, _, _, _⟩) rfl (fun KK hK => ?_) AllReadyH.nil
           ·go_simp
            have S12 := Lib.hid (S11.out.boxAt (.cells #[.int .i64 0, .int .i64 0, .int .i64 0, .int .i64 0] 78) W11.heap.size rfl)
            obtain ⟨L, hL⟩ : ∃ L, L = W11.heap.size := ⟨_, rfl⟩
            rw [← hL] at S12 ⊢
            obtain ⟨W12, hW⟩ : ∃ W12, W12 = W11.alloc (.cells #[.int .i64 0, .int .i64 0, .int .i64 0, .int .i64 0] 78) := ⟨_, rfl⟩
            rw [← hW] at S12 ⊢
            clear hL hW S11
            clear hHeld
            refine hK.out _ _ ⟨Side.at [_, _] S12.out, (HQ.out.later S12.out.below).env⟩ (fun hHeld => ?_)
            clear hK KK
            try simp only [Act.put, List.setIfInBounds_toArray, List.set_cons_zero, List.set_cons_succ]
            refine wpAnyH_ready (rs := [15]) (by kernel_rfl) (by simp) ?_
            refine AllReadyH.cons (o := ⟨none, _, _, _, _, _⟩) rfl (fun KK hK => ?_) AllReadyH.nil
            have kb := Side.at [_] S12.out
            have b0 := bk_cell kb 0
            have f0 := bk_free kb 0
            have b1 := bk_cell kb 1
            have f1 := bk_free kb 1
            have lb := bk_lt kb
            clear kb
            go_simp
            have S12s : Hid (Side w ((W12.setCell ⟨A, 0, none⟩ (.int .i64 er)).setCell ⟨A, 1, none⟩ (.int .u64 v)) (fixT L (.cells #[.int .i64 0, .int .i64 0, .int .i64 0, .int .i64 0] 78) :: fixT A (.cells #[.int .i64 er, .int .u64 v] 85) :: fixT C (.cells #[.int .u64 x0, .int .u64 x1, .int .u64 x2, .int .u64 x3, .int .u64 x4] 81) :: uaL P K R T U M F g' h tg mg' k)) := (Side.store (l1 := [fixT _ _]) (Side.store (l1 := [fixT _ _]) S12.out 0 (.int .i64 er)) 1 (.int .u64 v))
            obtain ⟨W12s, hW⟩ : ∃ W12s, W12s = ((W12.setCell ⟨A, 0, none⟩ (.int .i64 er)).setCell ⟨A, 1, none⟩ (.int .u64 v)) := ⟨_, rfl⟩
            rw [← hW] at S12s ⊢
            clear hW S12 lb b0 f0 b1 f1
            clear hHeld
            refine hK.out _ _ ⟨Side.at [_, _] S12s.out, (HQ.out.later S12s.out.below).env⟩ (fun hHeld => ?_)
            clear hK KK
            try simp only [Act.put, List.setIfInBounds_toArray, List.set_cons_zero, List.set_cons_succ]
            refine wpAnyH_ready (rs := [16]) (by kernel_rfl) (by simp) ?_
            refine AllReadyH.cons (o := ⟨none, _, _, _, _, _⟩) rfl (fun KK hK => ?_) AllReadyH.nil
            have kb := Side.at [] S12s.out
            have b0 := bk_cell kb 0
            have f0 := bk_free kb 0
            have b1 := bk_cell kb 1
            have f1 := bk_free kb 1
            have b2 := bk_cell kb 2
            have f2 := bk_free kb 2
            have b3 := bk_cell kb 3
            have f3 := bk_free kb 3
            have lb := bk_lt kb
            clear kb
            go_simp
            have S12ss : Hid (Side w ((((W12s.setCell ⟨L, 0, none⟩ (.int .i64 l0)).setCell ⟨L, 1, none⟩ (.int .i64 l1)).setCell ⟨L, 2, none⟩ (.int .i64 l2)).setCell ⟨L, 3, none⟩ (.int .i64 l3)) (fixT L (.cells #[.int .i64 l0, .int .i64 l1, .int .i64 l2, .int .i64 l3] 78) :: fixT A (.cells #[.int .i64 er, .int .u64 v] 85) :: fixT C (.cells #[.int .u64 x0, .int .u64 x1, .int .u64 x2, .int .u64 x3, .int .u64 x4] 81) :: uaL P K R T U M F g' h tg mg' k)) := (Side.store (l1 := []) (Side.store (l1 := []) (Side.store (l1 := []) (Side.store (l1 := []) S12s.out 0 (.int .i64 l0)) 1 (.int .i64 l1)) 2 (.int .i64 l2)) 3 (.int .i64 l3))
            obtain ⟨W12ss, hW⟩ : ∃ W12ss, W12ss = ((((W12s.setCell ⟨L, 0, none⟩ (.int .i64 l0)).setCell ⟨L, 1, none⟩ (.int .i64 l1)).setCell ⟨L, 2, none⟩ (.int .i64 l2)).setCell ⟨L, 3, none⟩ (.int .i64 l3)) := ⟨_, rfl⟩
            rw [← hW] at S12ss ⊢
            clear hW S12s lb b0 f0 b1 f1 b2 f2 b3 f3
            clear hHeld
            refine hK.out _ _ ⟨Side.at [_, _] S12ss.out, (HQ.out.later S12ss.out.below).env⟩ (fun hHeld => ?_)
            clear hK KK
            try simp only [Act.put, List.setIfInBounds_toArray, List.set_cons_zero, List.set_cons_succ]
            refine wpAnyH_done (by kernel_rfl) ?_ _
            go_wp2_with fail
            go_meet
            case rel => exact ⟨A, L, rfl, rfl, S12ss.out⟩
          ·go_simp
           have S11 := Lib.hid (S10.out.boxAt (.cells #[.int .i64 0, .int .i64 0, .int .i64 0, .int .i64 0] 78) W10.heap.size rfl)
           obtain ⟨L, hL⟩ : ∃ L, L = W10.heap.size := ⟨_, rfl⟩
           rw [← hL] at S11 ⊢
           obtain ⟨W11, hW⟩ : ∃ W11, W11 = W10.alloc (.cells #[.int .i64 0, .int .i64 0, .int .i64 0, .int .i64 0] 78) := ⟨_, rfl⟩
           rw [← hW] at S11 ⊢
           clear hL hW S10
           clear hHeld
           refine hK.out _ _ ⟨Side.at [_] S11.out, (HQ.out.later S11.out.below).env⟩ (fun hHeld => ?_)
           clear hK KK
           try simp only [Act.put, List.setIfInBounds_toArray, List.set_cons_zero, List.set_cons_succ]
           refine wpAnyH_ready (rs := [13]) (by kernel_rfl) (by simp) ?_
           refine AllReadyH.cons (o := ⟨some 18, _, _, _, _, _⟩) rfl (fun KK hK => ?_) AllReadyH.nil
           ·go_simp
            have S12 := Lib.hid (S11.out.boxAt (.cells #[.int .i64 0, .int .u64 0] 85) W11.heap.size rfl)
            obtain ⟨A, hA⟩ : ∃ A, A = W11.heap.size := ⟨_, rfl⟩
            rw [← hA] at S12 ⊢
            obtain ⟨W12, hW⟩ : ∃ W12, W12 = W11.alloc (.cells #[.int .i64 0, .int .u64 0] 85) := ⟨_, rfl⟩
            rw [← hW] at S12 ⊢
            clear hA hW S11
            clear hHeld
            refine hK.out _ _ ⟨Side.at [_, _] S12.out, (HQ.out.later S12.out.below).env⟩ (fun hHeld => ?_)
            clear hK KK
            try simp only [Act.put, List.setIfInBounds_toArray, List.set_cons_zero, List.set_cons_succ]
            refine wpAnyH_ready (rs := [15]) (by kernel_rfl) (by simp) ?_
            refine AllReadyH.cons (o := ⟨none, _, _, _, _, _⟩) rfl (fun KK hK => ?_) AllReadyH.nil
            have kb := Side.at [] S12.out
            have b0 := bk_cell kb 0
            have f0 := bk_free kb 0
            have b1 := bk_cell kb 1
            have f1 := bk_free kb 1
            have lb := bk_lt kb
            clear kb
            go_simp
            have S12s : Hid (Side w ((W12.setCell ⟨A, 0, none⟩ (.int .i64 er)).setCell ⟨A, 1, none⟩ (.int .u64 v)) (fixT A (.cells #[.int .i64 er, .int .u64 v] 85) :: fixT L (.cells #[.int .i64 0, .int .i64 0, .int .i64 0, .int .i64 0] 78) :: fixT C (.cells #[.int .u64 x0, .int .u64 x1, .int .u64 x2, .int .u64 x3, .int .u64 x4] 81) :: uaL P K R T U M F g' h tg mg' k)) := (Side.store (l1 := []) (Side.store (l1 := []) S12.out 0 (.int .i64 er)) 1 (.int .u64 v))
            obtain ⟨W12s, hW⟩ : ∃ W12s, W12s = ((W12.setCell ⟨A, 0, none⟩ (.int .i64 er)).setCell ⟨A, 1, none⟩ (.int .u64 v)) := ⟨_, rfl⟩
            rw [← hW] at S12s ⊢
            clear hW S12 lb b0 f0 b1 f1
            clear hHeld
            refine hK.out _ _ ⟨Side.at [_, _] S12s.out, (HQ.out.later S12s.out.below).env⟩ (fun hHeld => ?_)
            clear hK KK
            try simp only [Act.put, List.setIfInBounds_toArray, List.set_cons_zero, List.set_cons_succ]
            refine wpAnyH_ready (rs := [16]) (by kernel_rfl) (by simp) ?_
            refine AllReadyH.cons (o := ⟨none, _, _, _, _, _⟩) rfl (fun KK hK => ?_) AllReadyH.nil
            have kb := Side.at [_] S12s.out
            have b0 := bk_cell kb 0
            have f0 := bk_free kb 0
            have b1 := bk_cell kb 1
            have f1 := bk_free kb 1
            have b2 := bk_cell kb 2
            have f2 := bk_free kb 2
            have b3 := bk_cell kb 3
            have f3 := bk_free kb 3
            have lb := bk_lt kb
            clear kb
            go_simp
            have S12ss : Hid (Side w ((((W12s.setCell ⟨L, 0, none⟩ (.int .i64 l0)).setCell ⟨L, 1, none⟩ (.int .i64 l1)).setCell ⟨L, 2, none⟩ (.int .i64 l2)).setCell ⟨L, 3, none⟩ (.int .i64 l3)) (fixT A (.cells #[.int .i64 er, .int .u64 v] 85) :: fixT L (.cells #[.int .i64 l0, .int .i64 l1, .int .i64 l2, .int .i64 l3] 78) :: fixT C (.cells #[.int .u64 x0, .int .u64 x1, .int .u64 x2, .int .u64 x3, .int .u64 x4] 81) :: uaL P K R T U M F g' h tg mg' k)) := (Side.store (l1 := [fixT _ _]) (Side.store (l1 := [fixT _ _]) (Side.store (l1 := [fixT _ _]) (Side.store (l1 := [fixT _ _]) S12s.out 0 (.int .i64 l0)) 1 (.int .i64 l1)) 2 (.int .i64 l2)) 3 (.int .i64 l3))
            obtain ⟨W12ss, hW⟩ : ∃ W12ss, W12ss = ((((W12s.setCell ⟨L, 0, none⟩ (.int .i64 l0)).setCell ⟨L, 1, none⟩ (.int .i64 l1)).setCell ⟨L, 2, none⟩ (.int .i64 l2)).setCell ⟨L, 3, none⟩ (.int .i64 l3)) := ⟨_, rfl⟩
            rw [← hW] at S12ss ⊢
            clear hW S12s lb b0 f0 b1 f1 b2 f2 b3 f3
            clear hHeld
            refine hK.out _ _ ⟨Side.at [_, _] S12ss.out, (HQ.out.later S12ss.out.below).env⟩ (fun hHeld => ?_)
            clear hK KK
            try simp only [Act.put, List.setIfInBounds_toArray, List.set_cons_zero, List.set_cons_succ]
            refine wpAnyH_done (by kernel_rfl) ?_ _
            go_wp2_with fail
            go_meet
            case rel => exact ⟨A, L, rfl, rfl, S12ss.out.swap⟩
         ·go_simp
          have S10 := Lib.hid (SD.out.boxAt (.cells #[.int .i64 0, .int .u64 0] 85) W9.heap.size rfl)
          obtain ⟨A, hA⟩ : ∃ A, A = W9.heap.size := ⟨_, rfl⟩
          rw [← hA] at S10 ⊢
          obtain ⟨W10, hW⟩ : ∃ W10, W10 = W9.alloc (.cells #[.int .i64 0, .int .u64 0] 85) := ⟨_, rfl⟩
          rw [← hW] at S10 ⊢
          clear hA hW SD
          clear hHeld
          refine hK.out _ _ ⟨Side.at [_] S10.out, (HQ.out.later S10.out.below).env⟩ (fun hHeld => ?_)
          clear hK KK
          try simp only [Act.put, List.setIfInBounds_toArray, List.set_cons_zero, List.set_cons_succ]
          refine wpAnyH_ready (rs := [9, 14]) (by kernel_rfl) (by simp) ?_
          refine AllReadyH.cons (o := ⟨some 110, _, _, _, _, _⟩) rfl (fun KK hK => ?_) (AllReadyH.cons (o := ⟨some 19, _, _, _, _, _⟩) rfl (fun KK hK => ?_) AllReadyH.nil)
          ·go_simp
           go_at_call 40
           refine (HCALL.out [fixT _ _, fixT C _, ntT P tg, kkT K k, nbT R h] W10 S10.out).mono ?_
           rintro x W11 ⟨rfl, hs⟩
           have S11 : Hid (Side w W11 (fixT A (.cells #[.int .i64 0, .int .u64 0] 85) :: fixT C (.cells #[.int .u64 x0, .int .u64 x1, .int .u64 x2, .int .u64 x3, .int .u64 x4] 81) :: uaL P K R T U M F g' h tg mg' k)) := hs
           have hS : uaS C (.cells #[.int .u64 x0, .int .u64 x1, .int .u64 x2, .int .u64 x3, .int .u64 x4] 81) (c.add (i * 6)) e W11 := ⟨Side.at [_] S11.out, (HQ.out.later S11.out.below).env⟩
           clear hs hHeld S10
           go_wp2_with fail
           refine hK.out _ _ hS (fun hHeld => ?_)
           clear hS hK KK
           try simp only [Act.put, List.setIfInBounds_toArray, List.set_cons_zero, List.set_cons_succ]
           refine wpAnyH_take (i := 10) (oi := ⟨some 100, _, _, _, _, _⟩) (v := ?_) rfl (by kernel_rfl) (by kernel_rfl) (by kernel_rfl) (fun _ _ _ h => h) (Or.inl ⟨by rfl, ?_⟩) (by assumption) ?_
           rotate_left
           ·(intro w hSw; (try dsimp only at hSw); go_simp <;> with_reducible rfl)
           simp only [Act.put, List.setIfInBounds_toArray, List.set_cons_zero, List.set_cons_succ]
           refine wpAnyH_take (i := 11) (oi := ⟨some 111, _, _, _, _, _⟩) (v := ?_) rfl (by kernel_rfl) (by kernel_rfl) (by kernel_rfl) (fun _ _ _ h => h) (Or.inl ⟨by rfl, ?_⟩) (by assumption) ?_
           rotate_left
           ·(intro w hSw; (try dsimp only at hSw); go_simp <;> with_reducible rfl)
           simp only [Act.put, List.setIfInBounds_toArray, List.set_cons_zero, List.set_cons_succ]
           refine wpAnyH_take (i := 12) (oi := ⟨some 112, _, _, _, _, _⟩) (v := ?_) rfl (by kernel_rfl) (by kernel_rfl) (by kernel_rfl) (fun _ _ _ h => h) (Or.inl ⟨by rfl, ?_⟩) (by assumption) ?_
           rotate_left
           ·(intro w hSw; (try dsimp only at hSw); go_simp <;> with_reducible rfl)
           simp only [Act.put, List.setIfInBounds_toArray, List.set_cons_zero, List.set_cons_succ]
           refine wpAnyH_ready (rs := [14]) (by kernel_rfl) (by simp) ?_
           refine AllReadyH.cons (o := ⟨some 19, _, _, _, _, _⟩) rfl (fun KK hK => ?_) AllReadyH.nil
           ·go_simp
            have S12 := Lib.hid (S11.out.boxAt (.cells #[.int .i64 0, .int .i64 0, .int .i64 0, .int .i64 0] 78) W11.heap.size rfl)
            obtain ⟨L, hL⟩ : ∃ L, L = W11.heap.size := ⟨_, rfl⟩
            rw [← hL] at S12 ⊢
            obtain ⟨W12, hW⟩ : ∃ W12, W12 = W11.alloc (.cells #[.int .i64 0, .int .i64 0, .int .i64 0, .int .i64 0] 78) := ⟨_, rfl⟩
            rw [← hW] at S12 ⊢
            clear hL hW S11
            clear hHeld
            refine hK.out _ _ ⟨Side.at [_, _] S12.out, (HQ.out.later S12.out.below).env⟩ (fun hHeld => ?_)
            clear hK KK
            try simp only [Act.put, List.setIfInBounds_toArray, List.set_cons_zero, List.set_cons_succ]
            refine wpAnyH_ready (rs := [15]) (by kernel_rfl) (by simp) ?_
            refine AllReadyH.cons (o := ⟨none, _, _, _, _, _⟩) rfl (fun KK hK => ?_) AllReadyH.nil
            have kb := Side.at [_] S12.out
            have b0 := bk_cell kb 0
            have f0 := bk_free kb 0
            have b1 := bk_cell kb 1
            have f1 := bk_free kb 1
            have lb := bk_lt kb
            clear kb
            go_simp
            have S12s : Hid (Side w ((W12.setCell ⟨A, 0, none⟩ (.int .i64 er)).setCell ⟨A, 1, none⟩ (.int .u64 v)) (fixT L (.cells #[.int .i64 0, .int .i64 0, .int .i64 0, .int .i64 0] 78) :: fixT A (.cells #[.int .i64 er, .int .u64 v] 85) :: fixT C (.cells #[.int .u64 x0, .int .u64 x1, .int .u64 x2, .int .u64 x3, .int .u64 x4] 81) :: uaL P K R T U M F g' h tg mg' k)) := (Side.store (l1 := [fixT _ _]) (Side.store (l1 := [fixT _ _]) S12.out 0 (.int .i64 er)) 1 (.int .u64 v))
            obtain ⟨W12s, hW⟩ : ∃ W12s, W12s = ((W12.setCell ⟨A, 0, none⟩ (.int .i64 er)).setCell ⟨A, 1, none⟩ (.int .u64 v)) := ⟨_, rfl⟩
            rw [← hW] at S12s ⊢
            clear hW S12 lb b0 f0 b1 f1
            clear hHeld
            refine hK.out _ _ ⟨Side.at [_, _] S12s.out, (HQ.out.later S12s.out.below).env⟩ (fun hHeld => ?_)
            clear hK KK
            try simp only [Act.put, List.setIfInBounds_toArray, List.set_cons_zero, List.set_cons_succ]
            refine wpAnyH_ready (rs := [16]) (by kernel_rfl) (by simp) ?_
            refine AllReadyH.cons (o := ⟨none, _, _, _, _, _⟩) rfl (fun KK hK => ?_) AllReadyH.nil
            have kb := Side.at [] S12s.out
            have b0 := bk_cell kb 0
            have f0 := bk_free kb 0
            have b1 := bk_cell kb 1
            have f1 := bk_free kb 1
            have b2 := bk_cell kb 2
            have f2 := bk_free kb 2
            have b3 := bk_cell kb 3
            have f3 := bk_free kb 3
            have lb := bk_lt kb
            clear kb
            go_simp
            have S12ss : Hid (Side w ((((W12s.setCell ⟨L, 0, none⟩ (.int .i64 l0)).setCell ⟨L, 1, none⟩ (.int .i64 l1)).setCell ⟨L, 2, none⟩ (.int .i64 l2)).setCell ⟨L, 3, none⟩ (.int .i64 l3)) (fixT L (.cells #[.int .i64 l0, .int .i64 l1, .int .i64 l2, .int .i64 l3] 78) :: fixT A (.cells #[.int .i64 er, .int .u64 v] 85) :: fixT C (.cells #[.int .u64 x0, .int .u64 x1, .int .u64 x2, .int .u64 x3, .int .u64 x4] 81) :: uaL P K R T U M F g' h tg mg' k)) := (Side.store (l1 := []) (Side.store (l1 := []) (Side.store (l1 := []) (Side.store (l1 := []) S12s.out 0 (.int .i64 l0)) 1 (.int .i64 l1)) 2 (.int .i64 l2)) 3 (.int .i64 l3))
            obtain ⟨W12ss, hW⟩ : ∃ W12ss, W12ss = ((((W12s.setCell ⟨L, 0, none⟩ (.int .i64 l0)).setCell ⟨L, 1, none⟩ (.int .i64 l1)).setCell ⟨L, 2, none⟩ (.int .i64 l2)).setCell ⟨L, 3, none⟩ (.int .i64 l3)) := ⟨_, rfl⟩
            rw [← hW] at S12ss ⊢
            clear hW S12s lb b0 f0 b1 f1 b2 f2 b3 f3
            clear hHeld
            refine hK.out _ _ ⟨Side.at [_, _] S12ss.out, (HQ.out.later S12ss.out.below).env⟩ (fun hHeld => ?_)
            clear hK KK
            try simp only [Act.put, List.setIfInBounds_toArray, List.set_cons_zero, List.set_cons_succ]
            refine wpAnyH_done (by kernel_rfl) ?_ _
            go_wp2_with fail
            go_meet
            case rel => exact ⟨A, L, rfl, rfl, S12ss.out⟩
          ·go_simp
           have S11 := Lib.hid (S10.out.boxAt (.cells #[.int .i64 0, .int .i64 0, .int .i64 0, .int .i64 0] 78) W10.heap.size rfl)
           obtain ⟨L, hL⟩ : ∃ L, L = W10.heap.size := ⟨_, rfl⟩
           rw [← hL] at S11 ⊢
           obtain ⟨W11, hW⟩ : ∃ W11, W11 = W10.alloc (.cells #[.int .i64 0, .int .i64 0, .int .i64 0, .int .i64 0] 78) := ⟨_, rfl⟩
           rw [← hW] at S11 ⊢
           clear hL hW S10
           clear hHeld
           refine hK.out _ _ ⟨Side.at [_, _] S11.out, (HQ.out.later S11.out.below).env⟩ (fun hHeld => ?_)
           clear hK KK
           try simp only [Act.put, List.setIfInBounds_toArray, List.set_cons_zero, List.set_cons_succ]
           refine wpAnyH_ready (rs := [9]) (by kernel_rfl) (by simp) ?_
           refine AllReadyH.cons (o := ⟨some 110, _, _, _, _, _⟩) rfl (fun KK hK => ?_) AllReadyH.nil
           ·go_simp
            go_at_call 40
            refine (HCALL.out [fixT _ _, fixT _ _, fixT C _, ntT P tg, kkT K k, nbT R h] W11 S11.out).mono ?_
            rintro x W12 ⟨rfl, hs⟩
            have S12 : Hid (Side w W12 (fixT L (.cells #[.int .i64 0, .int .i64 0, .int .i64 0, .int .i64 0] 78) :: fixT A (.cells #[.int .i64 0, .int .u64 0] 85) :: fixT C (.cells #[.int .u64 x0, .int .u64 x1, .int .u64 x2, .int .u64 x3, .int .u64 x4] 81) :: uaL P K R T U M F g' h tg mg' k)) := hs
            have hS : uaS C (.cells #[.int .u64 x0, .int .u64 x1, .int .u64 x2, .int .u64 x3, .int .u64 x4] 81) (c.add (i * 6)) e W12 := ⟨Side.at [_, _] S12.out, (HQ.out.later S12.out.below).env⟩
            clear hs hHeld S11
            go_wp2_with fail
            refine hK.out _ _ hS (fun hHeld => ?_)
            clear hS hK KK
            try simp only [Act.put, List.setIfInBounds_toArray, List.set_cons_zero, List.set_cons_succ]
            refine wpAnyH_take (i := 10) (oi := ⟨some 100, _, _, _, _, _⟩) (v := ?_) rfl (by kernel_rfl) (by kernel_rfl) (by kernel_rfl) (fun _ _ _ h => h) (Or.inl ⟨by rfl, ?_⟩) (by assumption) ?_
            rotate_left
            ·(intro w hSw; (try dsimp only at hSw); go_simp <;> with_reducible rfl)
            simp only [Act.put, List.setIfInBounds_toArray, List.set_cons_zero, List.set_cons_succ]
            refine wpAnyH_take (i := 11) (oi := ⟨some 111, _, _, _, _, _⟩) (v := ?_) rfl (by kernel_rfl) (by kernel_rfl) (by kernel_rfl) (fun _ _ _ h => h) (Or.inl ⟨by rfl, ?_⟩) (by assumption) ?_
            rotate_left
            ·(intro w hSw; (try dsimp only at hSw); go_simp <;> with_reducible rfl)
            simp only [Act.put, List.setIfInBounds_toArray, List.set_cons_zero, List.set_cons_succ]
            refine wpAnyH_take (i := 12) (oi := ⟨some 112, _, _, _, _, _⟩) (v := ?_) rfl (by kernel_rfl) (by kernel_rfl) (by kernel_rfl) (fun _ _ _ h => h) (Or.inl ⟨by rfl, ?_⟩) (by assumption) ?_
            rotate_left
            ·(intro w hSw; (try dsimp only at hSw); go_simp <;> with_reducible rfl)
            simp only [Act.put, List.setIfInBounds_toArray, List.set_cons_zero, List.set_cons_succ]
            refine wpAnyH_ready (rs := [15]) (by kernel_rfl) (by simp) ?_
            refine AllReadyH.cons (o := ⟨none, _, _, _, _, _⟩) rfl (fun KK hK => ?_) AllReadyH.nil
            have kb := Side.at [_] S12.out
            have b0 := bk_cell kb 0
            have f0 := bk_free kb 0
            have b1 := bk_cell kb 1
            have f1 := bk_free kb 1
            have lb := bk_lt kb
            clear kb
            go_simp
            have S12s : Hid (Side w ((W12.setCell ⟨A, 0, none⟩ (.int .i64 er)).setCell ⟨A, 1, none⟩ (.int .u64 v)) (fixT L (.cells #[.int .i64 0, .int .i64 0, .int .i64 0, .int .i64 0] 78) :: fixT A (.cells #[.int .i64 er, .int .u64 v] 85) :: fixT C (.cells #[.int .u64 x0, .int .u64 x1, .int .u64 x2, .int .u64 x3, .int .u64 x4] 81) :: uaL P K R T U M F g' h tg mg' k)) := (Side.store (l1 := [fixT _ _]) (Side.store (l1 := [fixT _ _]) S12.out 0 (.int .i64 er)) 1 (.int .u64 v))
            obtain ⟨W12s, hW⟩ : ∃ W12s, W12s = ((W12.setCell ⟨A, 0, none⟩ (.int .i64 er)).setCell ⟨A, 1, none⟩ (.int .u64 v)) := ⟨_, rfl⟩
            rw [← hW] at S12s ⊢
            clear hW S12 lb b0 f0 b1 f1
            clear hHeld
            refine hK.out _ _ ⟨Side.at [_, _] S12s.out, (HQ.out.later S12s.out.below).env⟩ (fun hHeld => ?_)
            clear hK KK
            try simp only [Act.put, List.setIfInBounds_toArray, List.set_cons_zero, List.set_cons_succ]
            refine wpAnyH_ready (rs := [16]) (by kernel_rfl) (by simp) ?_
            refine AllReadyH.cons (o := ⟨none, _, _, _, _, _⟩) rfl (fun KK hK => ?_) AllReadyH.nil
            have kb := Side.at [] S12s.out
            have b0 := bk_cell kb 0
            have f0 := bk_free kb 0
            have b1 := bk_cell kb 1
            have f1 := bk_free kb 1
            have b2 := bk_cell kb 2
            have f2 := bk_free kb 2
            have b3 := bk_cell kb 3
            have f3 := bk_free kb 3
            have lb := bk_lt kb
            clear kb
            go_simp
            have S12ss : Hid (Side w ((((W12s.setCell ⟨L, 0, none⟩ (.int .i64 l0)).setCell ⟨L, 1, none⟩ (.int .i64 l1)).setCell ⟨L, 2, none⟩ (.int .i64 l2)).setCell ⟨L, 3, none⟩ (.int .i64 l3)) (fixT L (.cells #[.int .i64 l0, .int .i64 l1, .int .i64 l2, .int .i64 l3] 78) :: fixT A (.cells #[.int .i64 er, .int .u64 v] 85) :: fixT C (.cells #[.int .u64 x0, .int .u64 x1, .int .u64 x2, .int .u64 x3, .int .u64 x4] 81) :: uaL P K R T U M F g' h tg mg' k)) := (Side.store (l1 := []) (Side.store (l1 := []) (Side.store (l1 := []) (Side.store (l1 := []) S12s.out 0 (.int .i64 l0)) 1 (.int .i64 l1)) 2 (.int .i64 l2)) 3 (.int .i64 l3))
            obtain ⟨W12ss, hW⟩ : ∃ W12ss, W12ss = ((((W12s.setCell ⟨L, 0, none⟩ (.int .i64 l0)).setCell ⟨L, 1, none⟩ (.int .i64 l1)).setCell ⟨L, 2, none⟩ (.int .i64 l2)).setCell ⟨L, 3, none⟩ (.int .i64 l3)) := ⟨_, rfl⟩
            rw [← hW] at S12ss ⊢
            clear hW S12s lb b0 f0 b1 f1 b2 f2 b3 f3
            clear hHeld
            refine hK.out _ _ ⟨Side.at [_, _] S12ss.out, (HQ.out.later S12ss.out.below).env⟩ (fun hHeld => ?_)
            clear hK KK
            try simp only [Act.put, List.setIfInBounds_toArray, List.set_cons_zero, List.set_cons_succ]
            refine wpAnyH_done (by kernel_rfl) ?_ _
            go_wp2_with fail
            go_meet
            case rel => exact ⟨A, L, rfl, rfl, S12ss.out⟩
         ·go_simp
          have S10 := Lib.hid (SD.out.boxAt (.cells #[.int .i64 0, .int .i64 0, .int .i64 0, .int .i64 0] 78) W9.heap.size rfl)
          obtain ⟨L, hL⟩ : ∃ L, L = W9.heap.size := ⟨_, rfl⟩
          rw [← hL] at S10 ⊢
          obtain ⟨W10, hW⟩ : ∃ W10, W10 = W9.alloc (.cells #[.int .i64 0, .int .i64 0, .int .i64 0, .int .i64 0] 78) := ⟨_, rfl⟩
          rw [← hW] at S10 ⊢
          clear hL hW SD
          clear hHeld
          refine hK.out _ _ ⟨Side.at [_] S10.out, (HQ.out.later S10.out.below).env⟩ (fun hHeld => ?_)
          clear hK KK
          try simp only [Act.put, List.setIfInBounds_toArray, List.set_cons_zero, List.set_cons_succ]
          refine wpAnyH_ready (rs := [9, 13]) (by kernel_rfl) (by simp) ?_
          refine AllReadyH.cons (o := ⟨some 110, _, _, _, _, _⟩) rfl (fun KK hK => ?_) (AllReadyH.cons (o := ⟨some 18, _, _, _, _, _⟩) rfl (fun KK hK => ?_) AllReadyH.nil)
          ·go_simp
           go_at_call 40
           refine (HCALL.out [fixT _ _, fixT C _, ntT P tg, kkT K k, nbT R h] W10 S10.out).mono ?_
           rintro x W11 ⟨rfl, hs⟩
           have S11 : Hid (Side w W11 (fixT L (.cells #[.int .i64 0, .int .i64 0, .int .i64 0, .int .i64 0] 78) :: fixT C (.cells #[.int .u64 x0, .int .u64 x1, .int .u64 x2, .int .u64 x3, .int .u64 x4] 81) :: uaL P K R T U M F g' h tg mg' k)) := hs
           have hS : uaS C (.cells #[.int .u64 x0, .int .u64 x1, .int .u64 x2, .int .u64 x3, .int .u64 x4] 81) (c.add (i * 6)) e W11 := ⟨Side.at [_] S11.out, (HQ.out.later S11.out.below).env⟩
           clear hs hHeld S10
           go_wp2_with fail
           refine hK.out _ _ hS (fun hHeld => ?_)
           clear hS hK KK
           try simp only [Act.put, List.setIfInBounds_toArray, List.set_cons_zero, List.set_cons_succ]
           refine wpAnyH_take (i := 10) (oi := ⟨some 100, _, _, _, _, _⟩) (v := ?_) rfl (by kernel_rfl) (by kernel_rfl) (by kernel_rfl) (fun _ _ _ h => h) (Or.inl ⟨by rfl, ?_⟩) (by assumption) ?_
           rotate_left
           ·(intro w hSw; (try dsimp only at hSw); go_simp <;> with_reducible rfl)
           simp only [Act.put, List.setIfInBounds_toArray, List.set_cons_zero, List.set_cons_succ]
           refine wpAnyH_take (i := 11) (oi := ⟨some 111, _, _, _, _, _⟩) (v := ?_) rfl (by kernel_rfl) (by kernel_rfl) (by kernel_rfl) (fun _ _ _ h => h) (Or.inl ⟨by rfl, ?_⟩) (by assumption) ?_
           rotate_left
           ·(intro w hSw; (try dsimp only at hSw); go_simp <;> with_reducible rfl)
           simp only [Act.put, List.setIfInBounds_toArray, List.set_cons_zero, List.set_cons_succ]
           refine wpAnyH_take (i := 12) (oi := ⟨some 112, _, _, _, _, _⟩) (v := ?_) rfl (by kernel_rfl) (by kernel_rfl) (by kernel_rfl) (fun _ _ _ h => h) (Or.inl ⟨by rfl, ?_⟩) (by assumption) ?_
           rotate_left
           ·(intro w hSw; (try dsimp only at hSw); go_simp <;> with_reducible rfl)
           simp only [Act.put, List.setIfInBounds_toArray, List.set_cons_zero, List.set_cons_succ]
           refine wpAnyH_ready (rs := [13]) (by kernel_rfl) (by simp) ?_
           refine AllReadyH.cons (o := ⟨some 18, _, _, _, _, _⟩) rfl (fun KK hK => ?_) AllReadyH.nil
           ·go_simp
            have S12 := Lib.hid (S11.out.boxAt (.cells #[.int .i64 0, .int .u64 0] 85) W11.heap.size rfl)
            obtain ⟨A, hA⟩ : ∃ A, A = W11.heap.size := ⟨_, rfl⟩
            rw [← hA] at S12 ⊢
            obtain ⟨W12, hW⟩ : ∃ W12, W12 = W11.alloc (.cells #[.int .i64 0, .int .u64 0] 85) := ⟨_, rfl⟩
            rw [← hW] at S12 ⊢
            clear hA hW S11
            clear hHeld
            refine hK.out _ _ ⟨Side.at [_, _] S12.out, (HQ.out.later S12.out.below).env⟩ (fun hHeld => ?_)
            clear hK KK
            try simp only [Act.put, List.setIfInBounds_toArray, List.set_cons_zero, List.set_cons_succ]
            refine wpAnyH_ready (rs := [15]) (by kernel_rfl) (by simp) ?_
            refine AllReadyH.cons (o := ⟨none, _, _, _, _, _⟩) rfl (fun KK hK => ?_) AllReadyH.nil
            have kb := Side.at [] S12.out
            have b0 := bk_cell kb 0
            have f0 := bk_free kb 0
            have b1 := bk_cell kb 1
            have f1 := bk_free kb 1
            have lb := bk_lt kb
            clear kb
            go_simp
            have S12s : Hid (Side w ((W12.setCell ⟨A, 0, none⟩ (.int .i64 er)).setCell ⟨A, 1, none⟩ (.int .u64 v)) (fixT A (.cells #[.int .i64 er, .int .u64 v] 85) :: fixT L (.cells #[.int .i64 0, .int .i64 0, .int .i64 0, .int .i64 0] 78) :: fixT C (.cells #[.int .u64 x0, .int .u64 x1, .int .u64 x2, .int .u64 x3, .int .u64 x4] 81) :: uaL P K R T U M F g' h tg mg' k)) := (Side.store (l1 := []) (Side.store (l1 := []) S12.out 0 (.int .i64 er)) 1 (.int .u64 v))
            obtain ⟨W12s, hW⟩ : ∃ W12s, W12s = ((W12.setCell ⟨A, 0, none⟩ (.int .i64 er)).setCell ⟨A, 1, none⟩ (.int .u64 v)) := ⟨_, rfl⟩
            rw [← hW] at S12s ⊢
            clear hW S12 lb b0 f0 b1 f1
            clear hHeld
            refine hK.out _ _ ⟨Side.at [_, _] S12s.out, (HQ.out.later S12s.out.below).env⟩ (fun hHeld => ?_)
            clear hK KK
            try simp only [Act.put, List.setIfInBounds_toArray, List.set_cons_zero, List.set_cons_succ]
            refine wpAnyH_ready (rs := [16]) (by kernel_rfl) (by simp) ?_
            refine AllReadyH.cons (o := ⟨none, _, _, _, _, _⟩) rfl (fun KK hK => ?_) AllReadyH.nil
            have kb := Side.at [_] S12s.out
            have b0 := bk_cell kb 0
            have f0 := bk_free kb 0
            have b1 := bk_cell kb 1
            have f1 := bk_free kb 1
            have b2 := bk_cell kb 2
            have f2 := bk_free kb 2
            have b3 := bk_cell kb 3
            have f3 := bk_free kb 3
            have lb := bk_lt kb
            clear kb
            go_simp
            have S12ss : Hid (Side w ((((W12s.setCell ⟨L, 0, none⟩ (.int .i64 l0)).setCell ⟨L, 1, none⟩ (.int .i64 l1)).setCell ⟨L, 2, none⟩ (.int .i64 l2)).setCell ⟨L, 3, none⟩ (.int .i64 l3)) (fixT A (.cells #[.int .i64 er, .int .u64 v] 85) :: fixT L (.cells #[.int .i64 l0, .int .i64 l1, .int .i64 l2, .int .i64 l3] 78) :: fixT C (.cells #[.int .u64 x0, .int .u64 x1, .int .u64 x2, .int .u64 x3, .int .u64 x4] 81) :: uaL P K R T U M F g' h tg mg' k)) := (Side.store (l1 := [fixT _ _]) (Side.store (l1 := [fixT _ _]) (Side.store (l1 := [fixT _ _]) (Side.store (l1 := [fixT _ _]) S12s.out 0 (.int .i64 l0)) 1 (.int .i64 l1)) 2 (.int .i64 l2)) 3 (.int .i64 l3))
            obtain ⟨W12ss, hW⟩ : ∃ W12ss, W12ss = ((((W12s.setCell ⟨L, 0, none⟩ (.int .i64 l0)).setCell ⟨L, 1, none⟩ (.int .i64 l1)).setCell ⟨L, 2, none⟩ (.int .i64 l2)).setCell ⟨L, 3, none⟩ (.int .i64 l3)) := ⟨_, rfl⟩
            rw [← hW] at S12ss ⊢
            clear hW S12s lb b0 f0 b1 f1 b2 f2 b3 f3
            clear hHeld
            refine hK.out _ _ ⟨Side.at [_, _] S12ss.out, (HQ.out.later S12ss.out.below).env⟩ (fun hHeld => ?_)
            clear hK KK
            try simp only [Act.put, List.setIfInBounds_toArray, List.set_cons_zero, List.set_cons_succ]
            refine wpAnyH_done (by kernel_rfl) ?_ _
            go_wp2_with fail
            go_meet
            case rel => exact ⟨A, L, rfl, rfl, S12ss.out.swap⟩
          ·go_simp
           have S11 := Lib.hid (S10.out.boxAt (.cells #[.int .i64 0, .int .u64 0] 85) W10.heap.size rfl)
           obtain ⟨A, hA⟩ : ∃ A, A = W10.heap.size := ⟨_, rfl⟩
           rw [← hA] at S11 ⊢
           obtain ⟨W11, hW⟩ : ∃ W11, W11 = W10.alloc (.cells #[.int .i64 0, .int .u64 0] 85) := ⟨_, rfl⟩
           rw [← hW] at S11 ⊢
           clear hA hW S10
           clear hHeld
           refine hK.out _ _ ⟨Side.at [_, _] S11.out, (HQ.out.later S11.out.below).env⟩ (fun hHeld => ?_)
           clear hK KK
           try simp only [Act.put, List.setIfInBounds_toArray, List.set_cons_zero, List.set_cons_succ]
           refine wpAnyH_ready (rs := [9]) (by kernel_rfl) (by simp) ?_
           refine AllReadyH.cons (o := ⟨some 110, _, _, _, _, _⟩) rfl (fun KK hK => ?_) AllReadyH.nil
           ·go_simp
            go_at_call 40
            refine (HCALL.out [fixT _ _, fixT _ _, fixT C _, ntT P tg, kkT K k, nbT R h] W11 S11.out).mono ?_
            rintro x W12 ⟨rfl, hs⟩
            have S12 : Hid (Side w W12 (fixT A (.cells #[.int .i64 0, .int .u64 0] 85) :: fixT L (.cells #[.int .i64 0, .int .i64 0, .int .i64 0, .int .i64 0] 78) :: fixT C (.cells #[.int .u64 x0, .int .u64 x1, .int .u64 x2, .int .u64 x3, .int .u64 x4] 81) :: uaL P K R T U M F g' h tg mg' k)) := hs
            have hS : uaS C (.cells #[.int .u64 x0, .int .u64 x1, .int .u64 x2, .int .u64 x3, .int .u64 x4] 81) (c.add (i * 6)) e W12 := ⟨Side.at [_, _] S12.out, (HQ.out.later S12.out.below).env⟩
            clear hs hHeld S11
            go_wp2_with fail
            refine hK.out _ _ hS (fun hHeld => ?_)
            clear hS hK KK
            try simp only [Act.put, List.setIfInBounds_toArray, List.set_cons_zero, List.set_cons_succ]
            refine wpAnyH_take (i := 10) (oi := ⟨some 100, _, _, _, _, _⟩) (v := ?_) rfl (by kernel_rfl) (by kernel_rfl) (by kernel_rfl) (fun _ _ _ h => h) (Or.inl ⟨by rfl, ?_⟩) (by assumption) ?_
            rotate_left
            ·(intro w hSw; (try dsimp only at hSw); go_simp <;> with_reducible rfl)
            simp only [Act.put, List.setIfInBounds_toArray, List.set_cons_zero, List.set_cons_succ]
            refine wpAnyH_take (i := 11) (oi := ⟨some 111, _, _, _, _, _⟩) (v := ?_) rfl (by kernel_rfl) (by kernel_rfl) (by kernel_rfl) (fun _ _ _ h => h) (Or.inl ⟨by rfl, ?_⟩) (by assumption) ?_
            rotate_left
            ·(intro w hSw; (try dsimp only at hSw); go_simp <;> with_reducible rfl)
            simp only [Act.put, List.setIfInBounds_toArray, List.set_cons_zero, List.set_cons_succ]
            refine wpAnyH_take (i := 12) (oi := ⟨some 112, _, _, _, _, _⟩) (v := ?_) rfl (by kernel_rfl) (by kernel_rfl) (by kernel_rfl) (fun _ _ _ h => h) (Or.inl ⟨by rfl, ?_⟩) (by assumption) ?_
            rotate_left
            ·(intro w hSw; (try dsimp only at hSw); go_simp <;> with_reducible rfl)
            simp only [Act.put, List.setIfInBounds_toArray, List.set_cons_zero, List.set_cons_succ]
            refine wpAnyH_ready (rs := [15]) (by kernel_rfl) (by simp) ?_
            refine AllReadyH.cons (o := ⟨none, _, _, _, _, _⟩) rfl (fun KK hK => ?_) AllReadyH.nil
            have kb := Side.at [] S12.out
            have b0 := bk_cell kb 0
            have f0 := bk_free kb 0
            have b1 := bk_cell kb 1
            have f1 := bk_free kb 1
            have lb := bk_lt kb
            clear kb
            go_simp
            have S12s : Hid (Side w ((W12.setCell ⟨A, 0, none⟩ (.int .i64 er)).setCell ⟨A, 1, none⟩ (.int .u64 v)) (fixT A (.cells #[.int .i64 er, .int .u64 v] 85) :: fixT L (.cells #[.int .i64 0, .int .i64 0, .int .i64 0, .int .i64 0] 78) :: fixT C (.cells #[.int .u64 x0, .int .u64 x1, .int .u64 x2, .int .u64 x3, .int .u64 x4] 81) :: uaL P K R T U M F g' h tg mg' k)) := (Side.store (l1 := []) (Side.store (l1 := []) S12.out 0 (.int .i64 er)) 1 (.int .u64 v))
            obtain ⟨W12s, hW⟩ : ∃ W12s, W12s = ((W12.setCell ⟨A, 0, none⟩ (.int .i64 er)).setCell ⟨A, 1, none⟩ (.int .u64 v)) := ⟨_, rfl⟩
            rw [← hW] at S12s ⊢
            clear hW S12 lb b0 f0 b1 f1
            clear hHeld
            refine hK.out _ _ ⟨Side.at [_, _] S12s.out, (HQ.out.later S12s.out.below).env⟩ (fun hHeld => ?_)
            clear hK KK
            try simp only [Act.put, List.setIfInBounds_toArray, List.set_cons_zero, List.set_cons_succ]
            refine wpAnyH_ready (rs := [16]) (by kernel_rfl) (by simp) ?_
            refine AllReadyH.cons (o := ⟨none, _, _, _, _, _⟩) rfl (fun KK hK => ?_) AllReadyH.nil
            have kb := Side.at [_] S12s.out
            have b0 := bk_cell kb 0
            have f0 := bk_free kb 0
            have b1 := bk_cell kb 1
            have f1 := bk_free kb 1
            have b2 := bk_cell kb 2
            have f2 := bk_free kb 2
            have b3 := bk_cell kb 3
            have f3 := bk_free kb 3
            have lb := bk_lt kb
            clear kb
            go_simp
            have S12ss : Hid (Side w ((((W12s.setCell ⟨L, 0, none⟩ (.int .i64 l0)).setCell ⟨L, 1, none⟩ (.int .i64 l1)).setCell ⟨L, 2, none⟩ (.int .i64 l2)).setCell ⟨L, 3, none⟩ (.int .i64 l3)) (fixT A (.cells #[.int .i64 er, .int .u64 v] 85) :: fixT L (.cells #[.int .i64 l0, .int .i64 l1, .int .i64 l2, .int .i64 l3] 78) :: fixT C (.cells #[.int .u64 x0, .int .u64 x1, .int .u64 x2, .int .u64 x3, .int .u64 x4] 81) :: uaL P K R T U M F g' h tg mg' k)) := (Side.store (l1 := [fixT _ _]) (Side.store (l1 := [fixT _ _]) (Side.store (l1 := [fixT _ _]) (Side.store (l1 := [fixT _ _]) S12s.out 0 (.int .i64 l0)) 1 (.int .i64 l1)) 2 (.int .i64 l2)) 3 (.int .i64 l3))
            obtain ⟨W12ss, hW⟩ : ∃ W12ss, W12ss = ((((W12s.setCell ⟨L, 0, none⟩ (.int .i64 l0)).setCell ⟨L, 1, none⟩ (.int .i64 l1)).setCell ⟨L, 2, none⟩ (.int .i64 l2)).setCell ⟨L, 3, none⟩ (.int .i64 l3)) := ⟨_, rfl⟩
            rw [← hW] at S12ss ⊢
            clear hW S12s lb b0 f0 b1 f1 b2 f2 b3 f3
            clear hHeld
            refine hK.out _ _ ⟨Side.at [_, _] S12ss.out, (HQ.out.later S12ss.out.below).env⟩ (fun hHeld => ?_)
            clear hK KK
            try simp only [Act.put, List.setIfInBounds_toArray, List.set_cons_zero, List.set_cons_succ]
            refine wpAnyH_done (by kernel_rfl) ?_ _
            go_wp2_with fail
            go_meet
            case rel => exact ⟨A, L, rfl, rfl, S12ss.out.swap⟩
       case rest =>
        as_aux_lemma =>
         obtain ⟨A, L, rfl, rfl, hs⟩ := hcut
         have S10 := Lib.hid hs
         have kC := Side.at [_, _] S10.out
         have q0 := bk_cell kC 0
         have q1 := bk_cell kC 1
         have q2 := bk_cell kC 2
         have q3 := bk_cell kC 3
         have q4 := bk_cell kC 4
         clear hs kC SD HCALL
         go_wp2_with fail
         refine (ref_Kind_any x0 x1 x2 x3 x4 WI.out.1.1 WI.out.1.2 _).mono ?_
         rintro x w10 ⟨rfl, hb10⟩
         have S11 := Lib.hid (S10.out.under hb10)
         clear S10 hb10 q0 q1 q2 q3 q4
         have kC := Side.at [_, _] S11.out
         have q0 := bk_cell kC 0
         have q1 := bk_cell kC 1
         have q2 := bk_cell kC 2
         have q3 := bk_cell kC 3
         have q4 := bk_cell kC 4
         clear kC
         go_wp2_with fail
         refine (ref_Check_any x0 x1 x2 x3 x4 4 WI.out (by unfold intIn; omega) _).mono ?_
         rintro x w11 ⟨rfl, hb11⟩
         have S12 := Lib.hid (S11.out.under hb11)
         clear S11 hb11 q0 q1 q2 q3 q4
         go_wp2_with fail
         refine (ref_user_any (kindN x0) _).mono ?_
         rintro x w12 ⟨rfl, rfl⟩
         have qe := (HQ.out.later S12.out.below).env
         rcases HCASE.out with ⟨hd, her, rfl, rfl, rfl, rfl, rfl, rfl, rfl⟩ | ⟨hd, ok, hw, her, hv, hmg⟩
         ·have HE := Lib.hid her
          rw [← her] at hd
          clear her HCASE
          have a0 := bk_cell (Side.at [_] S12.out) 0
          have a1 := bk_cell (Side.at [_] S12.out) 1
          have b0 := bk_cell S12.out.1 0
          have b1 := bk_cell S12.out.1 1
          have b2 := bk_cell S12.out.1 2
          have b3 := bk_cell S12.out.1 3
          rcases (show e < 0 ∨ (¬ e < 0 ∧ 4 ≤ e) ∨ (¬ e < 0 ∧ ¬ 4 ≤ e) by omega) with e0 | ⟨e0, e4⟩ | ⟨e0, e4⟩
          ·obtain rfl : er = 10 := by rw [HE.out]; unfold doE; rw [if_pos (by omega)]
           cases hu : userB (kindN x0)
           all_goals
            go_wp2_with fail
            go_roundw
            case rel => exact ⟨i + 1, _, _, _, _, by go_num, by omega, by omega, HO.out.more (by omega), S12.out.2.2.2.2.2.2.2.2.2⟩
            case measure => simp [intOf]; omega
          ·obtain rfl : er = 10 := by rw [HE.out]; unfold doE; rw [if_pos (by omega)]
           cases hu : userB (kindN x0)
           all_goals
            go_wp2_with fail
            go_roundw
            case rel => exact ⟨i + 1, _, _, _, _, by go_num, by omega, by omega, HO.out.more (by omega), S12.out.2.2.2.2.2.2.2.2.2⟩
            case measure => simp [intOf]; omega
          ·cases hu : userB (kindN x0)
           ·obtain rfl : er = 1 := by rw [HE.out]; unfold doE; rw [if_neg (by omega), if_neg (by rw [hu]; decide)]
            go_wp2_with fail
            go_roundw
            case rel => exact ⟨i + 1, _, _, _, _, by go_num, by omega, by omega, HO.out.more (by omega), S12.out.2.2.2.2.2.2.2.2.2⟩
            case measure => simp [intOf]; omega
           ·have hcd : chkN x0 x1 x2 x3 x4 4 = er := by rw [HE.out]; unfold doE; rw [if_neg (by omega), if_pos hu]
            rw [hcd]
            have hd0 : (er == 0) = false := beq_eq_false_iff_ne.2 hd
            clear hcd
            go_wp2_with fail
            go_roundw
            case rel => exact ⟨i + 1, _, _, _, _, by go_num, by omega, by omega, HO.out.more (by omega), S12.out.2.2.2.2.2.2.2.2.2⟩
            case measure => simp [intOf]; omega
         ·obtain ⟨hk4, ⟨en, rfl, he4⟩, ⟨p, rfl, hp8⟩, ad, rfl, ha16⟩ := doE_inv WI.out.2.1.1 WI.out.2.2.1.1 hd
          have e0 : ¬ (en : Int) < 0 := by omega
          have e4 : ¬ 4 ≤ (en : Int) := by omega
          obtain ⟨hu, hcd⟩ : userB (kindN x0) = true ∧ chkN x0 (p : Int) (ad : Int) x3 x4 4 = 0 := by
           unfold doE at hd
           rw [if_neg (by omega)] at hd
           by_cases hu : userB (kindN x0) = true
           ·rw [if_pos hu] at hd
            exact ⟨hu, hd⟩
           ·rw [if_neg hu] at hd
            exact absurd hd (by decide)
          have hkk : kindN x0 = x0 := by rcases hk4 with rfl | rfl | rfl | rfl <;> rfl
          rw [hu, hcd, hkk]
          have HER := Lib.hid her
          have HV := Lib.hid hv
          have HMG := Lib.hid hmg
          have HK4 := Lib.hid hk4
          have HF : Hid (ok = true → ∃ f : Nat, l2 = (f : Int) ∧ f < 16) := Lib.hid fun h => by
           subst h
           exact walk_frame HO.out.lines HO.out.tab hp8 HK4.out hw
          obtain ⟨b, z0, z1, z2, z3, hfind, hfc⟩ := ua_found R HO.out hw
          have HFD := Lib.hid hfind
          have HFC := Lib.hid hfc
          have hp0 : (0 : Int) ≤ (p : Int) := by omega
          have hp1 : (p : Int) < 8 := by omega
          have hp2 : IntKind.i64.wrap (p : Int) = (p : Int) := IntWalk.i64_in _ (by omega)
          clear hu hcd hkk her hv hmg hk4 hw hd hfind hfc
          have kC := Side.at [_, _] S12.out
          have q1 := bk_cell kC 1
          clear kC
          go_wp2_with fail
          refine (HFD.out _ (Side.at [_, _, _, ntT P tg, kkT K k] S12.out)).mono ?_
          rintro x w13 ⟨rfl, hb13⟩
          have S13 := Lib.hid (S12.out.under hb13)
          clear S12 hb13 q1 HFD qe
          go_upto_region 34 with (fail)
          have S14 := Lib.hid (S13.out.box (.cells #[.int .i64 z0, .int .i64 z1, .int .i64 z2, .int .i64 z3] 78))
          obtain ⟨B, hB⟩ : ∃ B, B = w13.heap.size := ⟨_, rfl⟩
          rw [← hB] at S14 ⊢
          obtain ⟨w14, hw14⟩ : ∃ w14, w14 = w13.alloc (.cells #[.int .i64 z0, .int .i64 z1, .int .i64 z2, .int .i64 z3] 78) := ⟨_, rfl⟩
          rw [← hw14] at S14 ⊢
          clear hB hw14 S13
          obtain ⟨nb, hnb⟩ : ∃ nb : Bool, nb = !(b && withinB (needN x0) z3) := ⟨_, rfl⟩
          have HNB := Lib.hid hnb
          clear hnb
          go_cut [170] (fun nv W => nv = .bool nb ∧ Side w W (fixT B (.cells #[.int .i64 z0, .int .i64 z1, .int .i64 z2, .int .i64 z3] 78) :: fixT L (.cells #[.int .i64 l0, .int .i64 l1, .int .i64 l2, .int .i64 l3] 78) :: fixT A (.cells #[.int .i64 er, .int .u64 v] 85) :: fixT C (.cells #[.int .u64 x0, .int .u64 (p : Int), .int .u64 (ad : Int), .int .u64 x3, .int .u64 x4] 81) :: uaL P K R T U M F g' h tg mg' k))
          case first =>
           as_aux_lemma =>
            cases b
            ·obtain rfl : nb = true := by rw [HNB.out] <;> rfl
             go_wp2_with fail
             go_meet
             case rel => exact ⟨rfl, S14.out⟩
            ·have b3 := bk_cell S14.out.1 3
             have lb := bk_lt S14.out.1
             obtain ⟨wz, hwz⟩ : ∃ wz, wz = withinB (needN x0) z3 := ⟨_, rfl⟩
             have HWZ := Lib.hid hwz
             clear hwz
             go_wp2_with fail
             refine (ref_lets_any z3 x0 _).mono ?_
             rintro x w15 ⟨rfl, rfl⟩
             rw [← HWZ.out]
             obtain rfl : nb = !wz := by rw [HNB.out, ← HWZ.out] <;> rfl
             clear HNB HWZ
             cases wz
             all_goals
              go_wp2_with fail
              go_meet
              case rel => exact ⟨rfl, S14.out⟩
          case rest =>
           as_aux_lemma =>
            obtain ⟨rfl, hs⟩ := hcut
            have S15 := Lib.hid hs
            clear hs S14
            go_upto_if 170 with (fail)
            go_cut [25] (fun okv W => okv = .bool ok ∧ ∃ (h' : Nat → Int) (y0 y1 y2 y3 : Int), UAOk (12 + (i : Int) + 1) g' h' tg mg k ∧ (ok = true → y0 = l0 ∧ y1 = l1 ∧ y2 = l2 ∧ y3 = l3) ∧ (ok = false → l0 = 0 ∧ l1 = 0 ∧ l2 = 0 ∧ l3 = 0) ∧ Side w W (fixT B (.cells #[.int .i64 y0, .int .i64 y1, .int .i64 y2, .int .i64 y3] 78) :: fixT L (.cells #[.int .i64 l0, .int .i64 l1, .int .i64 l2, .int .i64 l3] 78) :: fixT A (.cells #[.int .i64 er, .int .u64 v] 85) :: fixT C (.cells #[.int .u64 x0, .int .u64 (p : Int), .int .u64 (ad : Int), .int .u64 x3, .int .u64 x4] 81) :: uaL P K R T U M F g' h' tg mg' k))
            case first =>
             as_aux_lemma =>
              rcases HFC.out with ⟨rfl, hlt, rfl, rfl, rfl, rfl, rfl, rfl⟩ | ⟨hbn, hway⟩
              ·obtain rfl : nb = false := by rw [HNB.out, hlt] <;> rfl
               clear hlt
               go_wp2_with fail
               go_meet
               case rel => exact ⟨rfl, h, _, _, _, _, HO.out.more (by omega), fun _ => ⟨rfl, rfl, rfl, rfl⟩, fun hh => absurd hh (by decide), S15.out⟩
              ·obtain rfl : nb = true := by
                rw [HNB.out]
                rcases hbn with rfl | ⟨rfl, h3⟩
                ·rfl
                ·rw [h3] <;> rfl
               have HWAY := Lib.hid hway
               clear hbn hway HNB HFC
               have hP := Side.at [_, _, _, _] S15.out
               have t0 := hP.1 (p * 3) (by omega)
               have t1 := hP.1 (p * 3 + 1) (by omega)
               have t2 := hP.1 (p * 3 + 2) (by omega)
               have tl := hP.2.2
               clear hP
               go_upto_region 36 with (fail)
               clear t0 t1 t2 tl
               have S16 := Lib.hid (S15.out.box (.cells #[.int .i64 (tg (p * 3)), .int .i64 (tg (p * 3 + 1)), .int .i64 (tg (p * 3 + 2))] 39))
               obtain ⟨D, hD⟩ : ∃ D, D = wc.heap.size := ⟨_, rfl⟩
               rw [← hD] at S16 ⊢
               obtain ⟨w16, hw16⟩ : ∃ w16, w16 = wc.alloc (.cells #[.int .i64 (tg (p * 3)), .int .i64 (tg (p * 3 + 1)), .int .i64 (tg (p * 3 + 2))] 39) := ⟨_, rfl⟩
               rw [← hw16] at S16 ⊢
               clear hD hw16 S15
               go_cut [25] (fun okv W => okv = .bool (withinB (needN x0) (tg (p * 3 + 2))) ∧ Side w W (fixT D (.cells #[.int .i64 (tg (p * 3)), .int .i64 (tg (p * 3 + 1)), .int .i64 (tg (p * 3 + 2))] 39) :: fixT B (.cells #[.int .i64 (en : Int), .int .i64 (p : Int), .int .i64 (tg (p * 3)), .int .i64 (tg (p * 3 + 2))] 78) :: fixT L (.cells #[.int .i64 l0, .int .i64 l1, .int .i64 l2, .int .i64 l3] 78) :: fixT A (.cells #[.int .i64 er, .int .u64 v] 85) :: fixT C (.cells #[.int .u64 x0, .int .u64 (p : Int), .int .u64 (ad : Int), .int .u64 x3, .int .u64 x4] 81) :: uaL P K R T U M F g' h tg mg' k))
               case first =>
                as_aux_lemma =>
                 have SD : Hid (Side w w16.drew (fixT D (.cells #[.int .i64 (tg (p * 3)), .int .i64 (tg (p * 3 + 1)), .int .i64 (tg (p * 3 + 2))] 39) :: fixT B (.cells #[.int .i64 z0, .int .i64 z1, .int .i64 z2, .int .i64 z3] 78) :: fixT L (.cells #[.int .i64 l0, .int .i64 l1, .int .i64 l2, .int .i64 l3] 78) :: fixT A (.cells #[.int .i64 er, .int .u64 v] 85) :: fixT C (.cells #[.int .u64 x0, .int .u64 (p : Int), .int .u64 (ad : Int), .int .u64 x3, .int .u64 x4] 81) :: uaL P K R T U M F g' h tg mg' k)) := S16.out.under (dn (Below.refl _ _) 1)
                 refine wp_region_held_drew (S := uaS D (.cells #[.int .i64 (tg (p * 3)), .int .i64 (tg (p * 3 + 1)), .int .i64 (tg (p * 3 + 2))] 39) (c.add (i * 6)) (en : Int)) (by kernel_rfl) ⟨SD.out.1, (HQ.out.later SD.out.below).env⟩ (fun hHeld => ?_)
                 obtain ⟨W9, hwr⟩ : ∃ W9, W9 = w16.drew := ⟨_, rfl⟩
                 rw [← hwr] at SD hHeld ⊢
                 clear hwr
                 refine wpAnyH_take (i := 0) (oi := ⟨some 174, _, _, _, _, _⟩) (v := ?_) rfl (by kernel_rfl) (by kernel_rfl) (by kernel_rfl) (fun _ _ _ h => h) (Or.inl ⟨by rfl, ?_⟩) (by assumption) ?_
                 rotate_left
                 ·(intro w hSw; (try dsimp only at hSw); go_simp <;> with_reducible rfl)
                 simp only [Act.put, List.setIfInBounds_toArray, List.set_cons_zero, List.set_cons_succ]
                 refine wpAnyH_take (i := 1) (oi := ⟨some 175, _, _, _, _, _⟩) (v := ?_) rfl (by kernel_rfl) (by kernel_rfl) (by kernel_rfl) (fun _ _ _ h => h) (Or.inl ⟨by rfl, ?_⟩) (by assumption) ?_
                 rotate_left
                 ·(intro w hSw; (try dsimp only at hSw); go_simp <;> with_reducible rfl)
                 simp only [Act.put, List.setIfInBounds_toArray, List.set_cons_zero, List.set_cons_succ]
                 refine wpAnyH_take (i := 2) (oi := ⟨some 176, _, _, _, _, _⟩) (v := ?_) rfl (by kernel_rfl) (by kernel_rfl) (by kernel_rfl) (fun _ _ _ h => h) (Or.inl ⟨by rfl, ?_⟩) (by assumption) ?_
                 rotate_left
                 ·(intro w hSw; (try dsimp only at hSw); go_simp <;> with_reducible rfl)
                 simp only [Act.put, List.setIfInBounds_toArray, List.set_cons_zero, List.set_cons_succ]
                 refine wpAnyH_take (i := 3) (oi := ⟨some 177, _, _, _, _, _⟩) (v := ?_) rfl (by kernel_rfl) (by kernel_rfl) (by kernel_rfl) (fun _ _ _ h => h) (Or.inl ⟨by rfl, ?_⟩) (by assumption) ?_
                 rotate_left
                 ·(intro w hSw; (try dsimp only at hSw); go_simp <;> with_reducible rfl)
                 simp only [Act.put, List.setIfInBounds_toArray, List.set_cons_zero, List.set_cons_succ]
                 refine wpAnyH_take (i := 4) (oi := ⟨some 178, _, _, _, _, _⟩) (v := ?_) rfl (by kernel_rfl) (by kernel_rfl) (by kernel_rfl) (fun _ _ _ h => h) (Or.inl ⟨by rfl, ?_⟩) (by assumption) ?_
                 rotate_left
                 ·(intro w hSw; have qe := hSw.2; go_simp <;> with_reducible rfl)
                 simp only [Act.put, List.setIfInBounds_toArray, List.set_cons_zero, List.set_cons_succ]
                 refine wpAnyH_take (i := 5) (oi := ⟨some 179, _, _, _, _, _⟩) (v := ?_) rfl (by kernel_rfl) (by kernel_rfl) (by kernel_rfl) (fun _ _ _ h => h) (Or.inl ⟨by rfl, ?_⟩) (by assumption) ?_
                 rotate_left
                 ·(intro w hSw; (try dsimp only at hSw); go_simp <;> with_reducible rfl)
                 simp only [Act.put, List.setIfInBounds_toArray, List.set_cons_zero, List.set_cons_succ]
                 refine wpAnyH_take (i := 6) (oi := ⟨some 180, _, _, _, _, _⟩) (v := ?_) rfl (by kernel_rfl) (by kernel_rfl) (by kernel_rfl) (fun _ _ _ h => h) (Or.inl ⟨by rfl, ?_⟩) (by assumption) ?_
                 rotate_left
                 ·(intro w hSw; (try dsimp only at hSw); go_simp <;> with_reducible rfl)
                 simp only [Act.put, List.setIfInBounds_toArray, List.set_cons_zero, List.set_cons_succ]
                 refine wpAnyH_take (i := 7) (oi := ⟨some 181, _, _, _, _, _⟩) (v := ?_) rfl (by kernel_rfl) (by kernel_rfl) (by kernel_rfl) (fun _ _ _ h => h) (Or.inl ⟨by rfl, ?_⟩) (by assumption) ?_
                 rotate_left
                 ·(intro w hSw; have d0 := bk_cell hSw.1 0; go_simp <;> with_reducible rfl)
                 simp only [Act.put, List.setIfInBounds_toArray, List.set_cons_zero, List.set_cons_succ]
                 refine wpAnyH_take (i := 8) (oi := ⟨some 182, _, _, _, _, _⟩) (v := ?_) rfl (by kernel_rfl) (by kernel_rfl) (by kernel_rfl) (fun _ _ _ h => h) (Or.inl ⟨by rfl, ?_⟩) (by assumption) ?_
                 rotate_left
                 ·(intro w hSw; (try dsimp only at hSw); go_simp <;> with_reducible rfl)
                 simp only [Act.put, List.setIfInBounds_toArray, List.set_cons_zero, List.set_cons_succ]
                 refine wpAnyH_take (i := 9) (oi := ⟨some 183, _, _, _, _, _⟩) (v := ?_) rfl (by kernel_rfl) (by kernel_rfl) (by kernel_rfl) (fun _ _ _ h => h) (Or.inl ⟨by rfl, ?_⟩) (by assumption) ?_
                 rotate_left
                 ·(intro w hSw; have d2 := bk_cell hSw.1 2; go_simp <;> with_reducible rfl)
                 simp only [Act.put, List.setIfInBounds_toArray, List.set_cons_zero, List.set_cons_succ]
                 refine wpAnyH_take (i := 10) (oi := ⟨some 184, _, _, _, _, _⟩) (v := ?_) rfl (by kernel_rfl) (by kernel_rfl) (by kernel_rfl) (fun _ _ _ h => h) (Or.inl ⟨by rfl, ?_⟩) (by assumption) ?_
                 rotate_left
                 ·(intro w hSw; (try dsimp only at hSw); go_simp <;> with_reducible rfl)
                 simp only [Act.put, List.setIfInBounds_toArray, List.set_cons_zero, List.set_cons_succ]
                 refine wpAnyH_take (i := 11) (oi := ⟨some 185, _, _, _, _, _⟩) (v := ?_) rfl (by kernel_rfl) (by kernel_rfl) (by kernel_rfl) (fun _ _ _ h => h) (Or.inl ⟨by rfl, ?_⟩) (by assumption) ?_
                 rotate_left
                 ·(intro w hSw; (try dsimp only at hSw); go_simp <;> with_reducible rfl)
                 simp only [Act.put, List.setIfInBounds_toArray, List.set_cons_zero, List.set_cons_succ]
                 refine wpAnyH_take (i := 12) (oi := ⟨some 186, _, _, _, _, _⟩) (v := ?_) rfl (by kernel_rfl) (by kernel_rfl) (by kernel_rfl) (fun _ _ _ h => h) (Or.inl ⟨by rfl, ?_⟩) (by assumption) ?_
                 rotate_left
                 ·(intro w hSw; have d2 := bk_cell hSw.1 2; go_simp <;> with_reducible rfl)
                 simp only [Act.put, List.setIfInBounds_toArray, List.set_cons_zero, List.set_cons_succ]
                 refine wpAnyH_take (i := 13) (oi := ⟨some 187, _, _, _, _, _⟩) (v := ?_) rfl (by kernel_rfl) (by kernel_rfl) (by kernel_rfl) (fun _ _ _ h => h) (Or.inl ⟨by rfl, ?_⟩) (by assumption) ?_
                 rotate_left
                 ·(intro w hSw; (try dsimp only at hSw); go_simp <;> with_reducible rfl)
                 simp only [Act.put, List.setIfInBounds_toArray, List.set_cons_zero, List.set_cons_succ]
                 refine wpAnyH_ready (rs := [14]) (by kernel_rfl) (by simp) ?_
                 refine AllReadyH.cons (o := ⟨some 188, _, _, _, _, _⟩) rfl (fun KK hK => ?_) AllReadyH.nil
                 go_simp
                 go_at_call 45
                 refine (ref_lets_any _ _ _).mono ?_
                 rintro x W10 ⟨rfl, rfl⟩
                 have hS : uaS D (.cells #[.int .i64 (tg (p * 3)), .int .i64 (tg (p * 3 + 1)), .int .i64 (tg (p * 3 + 2))] 39) (c.add (i * 6)) (en : Int) W9 := ⟨SD.out.1, (HQ.out.later SD.out.below).env⟩
                 clear hHeld
                 go_wp2_with fail
                 refine hK.out _ _ hS (fun hHeld => ?_)
                 clear hS hK KK
                 try simp only [Act.put, List.setIfInBounds_toArray, List.set_cons_zero, List.set_cons_succ]
                 refine wpAnyH_ready (rs := [15]) (by kernel_rfl) (by simp) ?_
                 refine AllReadyH.cons (o := ⟨none, _, _, _, _, _⟩) rfl (fun KK hK => ?_) AllReadyH.nil
                 have kb := Side.at [_] SD.out
                 have b0 := bk_cell kb 0
                 have b1 := bk_cell kb 1
                 have b2 := bk_cell kb 2
                 have b3 := bk_cell kb 3
                 have f0 := bk_free kb 0
                 have f1 := bk_free kb 1
                 have f2 := bk_free kb 2
                 have f3 := bk_free kb 3
                 have lb := bk_lt kb
                 clear kb
                 go_simp
                 have SE : Hid (Side w ((((W9.setCell ⟨B, 0, none⟩ (.int .i64 (en : Int))).setCell ⟨B, 1, none⟩ (.int .i64 (p : Int))).setCell ⟨B, 2, none⟩ (.int .i64 (tg (p * 3)))).setCell ⟨B, 3, none⟩ (.int .i64 (tg (p * 3 + 2)))) (fixT D (.cells #[.int .i64 (tg (p * 3)), .int .i64 (tg (p * 3 + 1)), .int .i64 (tg (p * 3 + 2))] 39) :: fixT B (.cells #[.int .i64 (en : Int), .int .i64 (p : Int), .int .i64 (tg (p * 3)), .int .i64 (tg (p * 3 + 2))] 78) :: fixT L (.cells #[.int .i64 l0, .int .i64 l1, .int .i64 l2, .int .i64 l3] 78) :: fixT A (.cells #[.int .i64 er, .int .u64 v] 85) :: fixT C (.cells #[.int .u64 x0, .int .u64 (p : Int), .int .u64 (ad : Int), .int .u64 x3, .int .u64 x4] 81) :: uaL P K R T U M F g' h tg mg' k)) := Lib.hid (Side.store (l1 := [fixT _ _]) (Side.store (l1 := [fixT _ _]) (Side.store (l1 := [fixT _ _]) (Side.store (l1 := [fixT _ _]) SD.out 0 (.int .i64 (en : Int))) 1 (.int .i64 (p : Int))) 2 (.int .i64 (tg (p * 3)))) 3 (.int .i64 (tg (p * 3 + 2))))
                 obtain ⟨W11, hW⟩ : ∃ W11, W11 = ((((W9.setCell ⟨B, 0, none⟩ (.int .i64 (en : Int))).setCell ⟨B, 1, none⟩ (.int .i64 (p : Int))).setCell ⟨B, 2, none⟩ (.int .i64 (tg (p * 3)))).setCell ⟨B, 3, none⟩ (.int .i64 (tg (p * 3 + 2)))) := ⟨_, rfl⟩
                 rw [← hW] at SE ⊢
                 clear hW SD lb b0 b1 b2 b3 f0 f1 f2 f3
                 clear hHeld
                 refine hK.out _ _ ⟨SE.out.1, (HQ.out.later SE.out.below).env⟩ (fun hHeld => ?_)
                 clear hK KK
                 try simp only [Act.put, List.setIfInBounds_toArray, List.set_cons_zero, List.set_cons_succ]
                 refine wpAnyH_take (i := 16) (oi := ⟨some 25, _, _, _, _, _⟩) (v := ?_) rfl (by kernel_rfl) (by kernel_rfl) (by kernel_rfl) (fun _ _ _ h => h) (Or.inl ⟨by rfl, ?_⟩) (by assumption) ?_
                 rotate_left
                 ·(intro w hSw; (try dsimp only at hSw); go_simp <;> with_reducible rfl)
                 simp only [Act.put, List.setIfInBounds_toArray, List.set_cons_zero, List.set_cons_succ]
                 refine wpAnyH_done (by kernel_rfl) ?_ _
                 go_wp2_with fail
                 go_meet
                 case rel => exact ⟨rfl, SE.out⟩
               case rest =>
                as_aux_lemma =>
                 obtain ⟨rfl, hs⟩ := hcut
                 have S17 := Lib.hid hs
                 clear hs S16
                 rcases HWAY.out with ⟨hlt, rfl, rfl, rfl, rfl, rfl, rfl⟩ | ⟨hlt, rfl, rfl, rfl, rfl, rfl, rfl⟩
                 ·rw [hlt]
                  clear hlt HWAY
                  have kB := Side.at [_] S17.out
                  have b0 := bk_cell kB 0
                  have b1 := bk_cell kB 1
                  have b2 := bk_cell kB 2
                  have b3 := bk_cell kB 3
                  clear kB
                  go_wp2_with fail
                  refine (ua_rfill [fixT D _, fixT B _, fixT L _, fixT A _, fixT C _] HO.out (by omega) S17.out _ _ _ _).mono ?_
                  rintro x w18 ⟨b5, h', rfl, h3, h4⟩
                  have HO3 := Lib.hid h3
                  have S18 : Hid (Side w w18 (fixT D _ :: fixT B _ :: fixT L _ :: fixT A _ :: fixT C _ :: _)) := h4
                  clear h3 h4 S17 b0 b1 b2 b3
                  go_wp2_with fail
                  go_meet
                  case rel => exact ⟨rfl, h', _, _, _, _, HO3.out, fun _ => ⟨rfl, rfl, rfl, rfl⟩, fun hh => absurd hh (by decide), S18.out.2.2.2⟩
                 ·rw [hlt]
                  clear hlt HWAY
                  have qe := (HQ.out.later S17.out.below).env
                  go_wp2_with fail
                  refine (ua_rflush [fixT D _, fixT B _, fixT L _, fixT A _, fixT C _] HO.out S17.out _ _).mono ?_
                  rintro x w18 ⟨b5, h', rfl, h3, h4⟩
                  have HO3 := Lib.hid h3
                  have S18 : Hid (Side w w18 (fixT D _ :: fixT B _ :: fixT L _ :: fixT A _ :: fixT C _ :: _)) := h4
                  clear h3 h4 S17 qe
                  go_wp2_with fail
                  go_meet
                  case rel => exact ⟨rfl, h', _, _, _, _, HO3.out.more (by omega), fun hh => absurd hh (by decide), fun _ => by simp, S18.out.2.2.2⟩
            case rest =>
             as_aux_lemma =>
              obtain ⟨rfl, h', y0, y1, y2, y3, ho, hy, hz, hs⟩ := hcut
              have HO2 := Lib.hid ho
              have HY := Lib.hid hy
              have HZ := Lib.hid hz
              have S20 := Lib.hid hs
              clear ho hy hz hs S15 HFC HO HNB
              go_upto_if 202 with (fail)
              have S21 := Lib.hid (S20.out.box (.cells #[.int .i64 7, .int .u64 0] 85))
              obtain ⟨E, hE⟩ : ∃ E, E = wc.heap.size := ⟨_, rfl⟩
              rw [← hE] at S21 ⊢
              obtain ⟨w21, hw21⟩ : ∃ w21, w21 = wc.alloc (.cells #[.int .i64 7, .int .u64 0] 85) := ⟨_, rfl⟩
              rw [← hw21] at S21 ⊢
              clear hE hw21 S20
              go_cut [205] (fun _ W => ∃ k', MemAs mg' k' ∧ Side w W (fixT E (.cells #[.int .i64 er, .int .u64 v] 85) :: fixT B (.cells #[.int .i64 l0, .int .i64 l1, .int .i64 l2, .int .i64 l3] 78) :: fixT L (.cells #[.int .i64 l0, .int .i64 l1, .int .i64 l2, .int .i64 l3] 78) :: fixT A (.cells #[.int .i64 er, .int .u64 v] 85) :: fixT C (.cells #[.int .u64 x0, .int .u64 (p : Int), .int .u64 (ad : Int), .int .u64 x3, .int .u64 x4] 81) :: uaL P K R T U M F g' h' tg mg' k'))
              case first =>
               as_aux_lemma =>
                cases ok
                ·obtain ⟨rfl, rfl, rfl, rfl⟩ := HZ.out rfl
                 obtain rfl : er = 7 := by rw [HER.out] <;> rfl
                 obtain rfl : v = 0 := by rw [HV.out] <;> rfl
                 obtain rfl : mg' = mg := by rw [HMG.out] <;> rfl
                 have kB := Side.at [_] S21.out
                 have b0 := bk_cell kB 0
                 have b1 := bk_cell kB 1
                 have b2 := bk_cell kB 2
                 have b3 := bk_cell kB 3
                 have f0 := bk_free kB 0
                 have f1 := bk_free kB 1
                 have f2 := bk_free kB 2
                 have f3 := bk_free kB 3
                 have lb := bk_lt kB
                 clear kB
                 go_wp2_with fail
                 go_meet
                 case rel => exact ⟨k, HO2.out.mem, Side.store (l1 := [fixT _ _]) (Side.store (l1 := [fixT _ _]) (Side.store (l1 := [fixT _ _]) (Side.store (l1 := [fixT _ _]) S21.out 0 _) 1 _) 2 _) 3 _⟩
                ·obtain ⟨rfl, rfl, rfl, rfl⟩ := HY.out rfl
                 obtain ⟨f, rfl, hf⟩ := HF.out rfl
                 obtain rfl : er = 0 := by rw [HER.out] <;> rfl
                 have hv : v = memV mg 16 (f : Int) ad x0 := by rw [HV.out, if_pos rfl, Int.toNat_natCast]
                 have hmg : mg' = memS mg 16 (f : Int) ad x0 x3 x4 := by rw [HMG.out, if_pos rfl, Int.toNat_natCast]
                 have HV2 := Lib.hid hv
                 have HMG2 := Lib.hid hmg
                 clear hv hmg
                 have kB := Side.at [_] S21.out
                 have b2 := bk_cell kB 2
                 have kC := Side.at [_, _, _, _] S21.out
                 have q0 := bk_cell kC 0
                 have q1 := bk_cell kC 1
                 have q2 := bk_cell kC 2
                 have q3 := bk_cell kC 3
                 have q4 := bk_cell kC 4
                 clear kB kC
                 go_wp2_with fail
                 refine (ua_word [fixT E _, fixT B _, fixT L _, fixT A _, fixT C _, ntT P tg] HO2.out.mem S21.out hf ha16 HK4.out (p : Int) x3 x4 HV2.out HMG2.out).mono ?_
                 rintro x w22 ⟨rfl, hm, h4⟩
                 have HM := Lib.hid hm
                 have S22 : Hid (Side w w22 (fixT E _ :: fixT B _ :: fixT L _ :: fixT A _ :: fixT C _ :: ntT P tg :: _)) := h4
                 clear hm h4 S21 b2 q0 q1 q2 q3 q4
                 have kE := S22.out.1
                 have e0 := bk_cell kE 0
                 have e1 := bk_cell kE 1
                 have f0 := bk_free kE 0
                 have f1 := bk_free kE 1
                 have le := bk_lt kE
                 clear kE
                 go_wp2_with fail
                 go_meet
                 case rel => exact ⟨_, HM.out, Side.store (l1 := []) (Side.store (l1 := []) S22.out 0 _) 1 _⟩
              case rest =>
               as_aux_lemma =>
                obtain ⟨k', hm, hs⟩ := hcut
                have HM := Lib.hid hm
                have S23 := Lib.hid hs
                clear hm hs S21 HY HZ
                have kE := S23.out.1
                have e0 := bk_cell kE 0
                have e1 := bk_cell kE 1
                have kB := Side.at [_] S23.out
                have b0 := bk_cell kB 0
                have b1 := bk_cell kB 1
                have b2 := bk_cell kB 2
                have b3 := bk_cell kB 3
                have kL := Side.at [_, _] S23.out
                have c0 := bk_cell kL 0
                have c1 := bk_cell kL 1
                have c2 := bk_cell kL 2
                have c3 := bk_cell kL 3
                have kA := Side.at [_, _, _] S23.out
                have a0 := bk_cell kA 0
                have a1 := bk_cell kA 1
                clear kE kB kL kA
                go_wp2_with fail
                refine (tlines_any _ T g' (Side.at [_, _, _, _, _, ntT P tg, kkT K k', nbT R h'] S23.out).1).mono ?_
                rintro x w24 ⟨rfl, hm3, hb3⟩
                obtain ⟨Q, hQ⟩ : ∃ Q, Q = wc.heap.size := ⟨_, rfl⟩
                rw [← hQ] at hm3 ⊢
                have S24 : Hid (Side w w24 (uaL P K R T U M F g' h' tg mg' k')) := (S23.out.under hb3).2.2.2.2.2.2.2.2.2.2.2.2.2.2.2
                have M24 : Hid (NumsIs 32 w24 Q h') := NumsIs.congr hm3 fun j hj => (HO2.out.line hj).symm
                clear hm3 hb3 hQ S23 e0 e1 b0 b1 b2 b3 c0 c1 c2 c3 a0 a1
                go_wp2_with fail
                go_loopw [29, 221] (fun _ cv W => ∃ m : Nat, m ≤ 8 ∧ cv = .int .i64 m ∧ NumsIs 32 W Q h' ∧ Side w W (uaL P K R T U M F g' h' tg mg' k')) (fun _ cv _ => (8 - intOf cv).toNat)
                case atStart => exact ⟨0, by omega, rfl, M24.out, S24.out⟩
                case round =>
                 obtain ⟨m, hm8, rfl, hm3, hs⟩ := hrel
                 have M25 := Lib.hid hm3
                 have S25 := Lib.hid hs
                 clear hm3 hs M24 S24
                 by_cases hlt : m < 8
                 ·have hx : (0 : Int) ≤ (m : Int) := by omega
                  have hy : (m : Int) < 8 := by omega
                  have hR := Side.at [_, _] S25.out
                  have m0 := M25.out.1 (m * 4) (by omega)
                  have m1 := M25.out.1 (m * 4 + 1) (by omega)
                  have m2 := M25.out.1 (m * 4 + 2) (by omega)
                  have m3 := M25.out.1 (m * 4 + 3) (by omega)
                  have r0 := hR.1 (m * 4) (by omega)
                  have r1 := hR.1 (m * 4 + 1) (by omega)
                  have r2 := hR.1 (m * 4 + 2) (by omega)
                  have r3 := hR.1 (m * 4 + 3) (by omega)
                  clear hR
                  go_wp2_with fail
                  go_quiet (fail)
                  go_wp2_with fail
                  go_roundw
                  case rel => exact ⟨m + 1, by omega, by go_num, M25.out.drewN _, S25.out.under (dn (Below.refl _ _) _)⟩
                  case measure => simp [intOf]; omega
                 ·obtain rfl : m = 8 := by omega
                  go_wp2_with fail
                  go_roundw
                  case rel => exact ⟨i + 1, g', h', mg', k', by go_num, by omega, by omega, ⟨HO2.out.sim, by have := HO2.out.cnt; omega, HO2.out.lines, HO2.out.tab, HM.out⟩, S25.out⟩
                  case measure => simp [intOf]; omega
      ·have i1 : ¬ (i : Int) < (clen : Int) := by omega
       go_wp2_with fail
       go_ret
       exact ⟨rfl, HU.out.below⟩
      ·have i1 : (i : Int) < (clen : Int) := by omega
       have i2 : ¬ (i : Int) < 40 := by omega
       go_wp2_with fail
       go_ret
       exact ⟨rfl, HU.out.below⟩
end Go.Proofs.YtmifcfkchnilmaaGreatDoor

