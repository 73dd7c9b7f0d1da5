/- What is proved here: the statement PlainCopy: whatever its size and its asks, the statement returns true and leaves what was there. Conditions: package plain keeps its contracts; the asks are there, their words are words; the statements' own beginning returns true. -/
import Derived.Test.YtdfhfmdelinemaaGreatDoorGPair
import Derived.Test.YtdfhfmdelinemaaGreatDoorGKerE
namespace Go.Proofs.YtdfhfmdelinemaaGreatDoor
open Go.RowKit Go.Extern.Stop Go.Stop Go.Extern Go.WalkArith
section
variable {At : World → (Nat → Prop) → Nat → KernS → Prop} {H : PlainC At} {w W W' : World} {S : Nat → Prop} {P K : Nat} {k : KernS} {l1 l2 : List Thing}
theorem side_copy (h : Side w W (l1 ++ plainT H S P k :: l2)) :
    Calls Tryz.prog 19 #[.pointer (some ⟨P, 0, none⟩)] W fun x W' => ∃ P' S', x = .returned (.pointer (some ⟨P', 0, none⟩)) ∧ Side w W' (plainT H S' P' k :: (l1 ++ plainT H S P k :: l2)) := by
  refine (H.copy_ P S k W (Side.at l1 h)).mono ?_
  rintro x W' ⟨P', S', rfl, h2, hl, hb⟩
  exact ⟨P', S', rfl, h.make hb (plainT H S' P' k) h2 hl⟩
theorem side_rcopy (h : Side w W (l1 ++ kernT K k :: l2)) :
    Calls Tryz.prog 20 #[.pointer (some ⟨K, 0, none⟩)] W fun x W' => ∃ C, x = .returned (.pointer (some ⟨C, 0, none⟩)) ∧ Side w W' (kernT C k :: (l1 ++ kernT K k :: l2)) := by
  refine (kref_copy K k W (Side.at (o := kernT K k) l1 h)).mono ?_
  rintro x W' ⟨C, rfl, h2, hb, hl⟩
  exact ⟨C, rfl, h.make hb (kernT C k) h2 (fun i hi => by have hi : i = C := hi; omega)⟩
end
set_option maxRecDepth 100000 in
set_option maxHeartbeats 8000000 in
theorem pcopy_any {At : World → (Nat → Prop) → Nat → KernS → Prop} (H : PlainC At) (c e f : Int) (ao : Option Addr) (a : Addr) (len cap : Nat) (mo : Option Addr) (m : Addr) (mlen mcap : Nat) (w : World) (ha : AsksAt w ao a len) (hm : AsksAt w mo m mlen) (hbeg : ∀ V, Below w.heap.size w V → BegunAt11 V) :
    Calls Tryz.prog 5 #[sizeV c e f, .slice ao len cap, .slice mo mlen mcap] w fun e w' => e = .returned (.bool true) ∧ Below w.heap.size w w' := by
  have HB := Lib.hid hbeg
  have HH := Lib.hid H
  have HA := Lib.hid ha
  have HM := Lib.hid hm
  clear hbeg H ha hm
  go_enter Tryz.func5, Tryz.ntmps5
  go_wp2_with fail
  have S0 := (Side.start w).boxAt (.cells #[.int .i64 c, .int .i64 e, .int .i64 f] 23) _ rfl
  refine (HB.out _ S0.below).mono ?_
  rintro e1 w1 ⟨rfl, hb1⟩
  have S1 := Lib.hid (S0.under hb1)
  clear hb1 HB S0
  have k1 := S1.out.1
  have z0 := bk_cell k1 0
  have z1 := bk_cell k1 1
  have z2 := bk_cell k1 2
  have lz := bk_lt k1
  clear k1
  by_cases hs : SizeOk c e f
  · have HS := Lib.hid hs
    clear hs
    go_wp2_with fail
    refine (side_new HH.out S1.out HS.out).mono ?_
    rintro e1 w2 ⟨P, S, rfl, h⟩
    have S2 := Lib.hid h
    clear h S1 z0 z1 z2 lz
    have k1 := S2.out.tail.1
    have z0 := bk_cell k1 0
    have z1 := bk_cell k1 1
    have z2 := bk_cell k1 2
    have lz := bk_lt k1
    clear k1
    go_wp2_with fail
    refine (side_ref S2.out).mono ?_
    rintro e1 w3 ⟨K, rfl, h⟩
    have S3 := Lib.hid h
    clear h S2 z0 z1 z2 lz
    go_wp2_with fail
    go_loopw [10] (fun iv W => ∃ (i : Nat) (k : KernS) (S : Nat → Prop), iv = .int .i64 i ∧ i ≤ len ∧ i ≤ 40 ∧ Neat k ∧ Side w W (kernT K k :: plainT HH.out S P k :: [fixT w.heap.size (.cells #[.int .i64 c, .int .i64 e, .int .i64 f] 23)])) (fun iv _ => (40 - intOf iv).toNat)
    case atStart => exact ⟨0, newK c e f, S, rfl, by omega, by omega, Neat.new _ _ _, S3.out⟩
    case round =>
      obtain ⟨i, k1, S1a, rfl, hil, hi40, hn, h⟩ := hrel
      have HN1 := Lib.hid hn
      have T1 := Lib.hid h
      clear h hn S3
      have HK1 : Hid (Sane k1) := HH.out.sane _ _ _ _ (Side.at (o := plainT HH.out S1a P k1) [kernT K k1] T1.out)
      rcases (show (i < len ∧ i < 40) ∨ ¬ i < len ∨ (i < len ∧ i = 40) by omega) with ⟨h1, h2⟩ | h1 | ⟨h1, h2⟩
      · obtain rfl : ao = some a := HA.out.1 (by omega)
        have i0 : (0 : Int) ≤ (i : Int) := by omega
        have i1 : (i : Int) < (len : Int) := by omega
        have i2 : (i : Int) < 40 := by omega
        obtain ⟨q, x0, x1, x2, x3, x4, hq⟩ := HA.out.2 i h1
        have HQ := Lib.hid hq
        clear hq
        have hq := HQ.out.later T1.out.below
        have q0 := hq.env
        have q1 := hq.a0
        have q2 := hq.a1
        have q3 := hq.a2
        have q4 := hq.a3
        have q5 := hq.a4
        clear hq
        go_wp2_with fail
        go_still_tail 11, (by kernel_rfl)
        change wpList _ _ _ _ _ wr.drew
        go_wp2_with fail
        refine (side_do (l1 := [kernT K k1]) q x0 x1 x2 x3 x4 (T1.out.under (dn (Below.refl _ _) 1)) HQ.out.words).mono ?_
        rintro e1 v4 ⟨S5, rfl, h⟩
        have S6 := Lib.hid h
        clear h T1 q0 q1 q2 q3 q4 q5
        have hq := HQ.out.later S6.out.below
        have q0 := hq.env
        have q1 := hq.a0
        have q2 := hq.a1
        have q3 := hq.a2
        have q4 := hq.a3
        have q5 := hq.a4
        clear hq
        unfold ansV
        go_wp2_with fail
        go_still_tail 11, (by kernel_rfl)
        change wpList _ _ _ _ _ v4.drew
        go_wp2_with fail
        refine (side_rdo (l1 := []) q x0 x1 x2 x3 x4 HK1.out (S6.out.under (dn (Below.refl _ _) 1)) HQ.out.words).mono ?_
        rintro e1 v5 ⟨rfl, h⟩
        have S7 := Lib.hid h
        clear h S6 q0 q1 q2 q3 q4 q5
        unfold ansV
        go_wp2_with fail
        go_roundw
        case rel => exact ⟨i + 1, _, S5, by go_num, by omega, by omega, HN1.out.do _ _ _ _ _ _, S7.out⟩
        case measure => simp [intOf]; omega
      all_goals
        first
          | (have i1 : ¬ (i : Int) < (len : Int) := by omega
             go_wp2_with fail)
          | (have i1 : (i : Int) < (len : Int) := by omega
             have i2 : ¬ (i : Int) < 40 := by omega
             go_wp2_with fail)
        clear h1 hil hi40
        refine (side_copy (l1 := [kernT K k1]) T1.out).mono ?_
        rintro e1 u2 ⟨P2, S9, rfl, h⟩
        have U2 := Lib.hid h
        clear h T1
        go_wp2_with fail
        refine (side_rcopy (l1 := [plainT HH.out S9 P2 k1]) U2.out).mono ?_
        rintro e1 u3 ⟨C, rfl, h⟩
        have U3 := Lib.hid h
        clear h U2
        go_wp2_with fail
        go_loopw [13] (fun iv W => ∃ (i : Nat) (k : KernS) (S : Nat → Prop), iv = .int .i64 i ∧ i ≤ mlen ∧ i ≤ 40 ∧ Neat k ∧ Side w W (kernT C k :: plainT HH.out S P2 k :: kernT K k1 :: plainT HH.out S1a P k1 :: [fixT w.heap.size (.cells #[.int .i64 c, .int .i64 e, .int .i64 f] 23)])) (fun iv _ => (40 - intOf iv).toNat)
        case atStart => exact ⟨0, k1, S9, rfl, by omega, by omega, HN1.out, U3.out⟩
        case round =>
          obtain ⟨i, k2, S2a, rfl, hil, hi40, hn, h⟩ := hrel
          have HN2 := Lib.hid hn
          have T2 := Lib.hid h
          clear h hn U3
          have HK2 : Hid (Sane k2) := HH.out.sane _ _ _ _ (Side.at (o := plainT HH.out S2a P2 k2) [kernT C k2] T2.out)
          rcases (show (i < mlen ∧ i < 40) ∨ ¬ i < mlen ∨ (i < mlen ∧ i = 40) by omega) with ⟨h1, h2⟩ | h1 | ⟨h1, h2⟩
          · obtain rfl : mo = some m := HM.out.1 (by omega)
            have i0 : (0 : Int) ≤ (i : Int) := by omega
            have i1 : (i : Int) < (mlen : Int) := by omega
            have i2 : (i : Int) < 40 := by omega
            obtain ⟨q, x0, x1, x2, x3, x4, hq⟩ := HM.out.2 i h1
            have HQ := Lib.hid hq
            clear hq
            have hq := HQ.out.later T2.out.below
            have q0 := hq.env
            have q1 := hq.a0
            have q2 := hq.a1
            have q3 := hq.a2
            have q4 := hq.a3
            have q5 := hq.a4
            clear hq
            go_wp2_with fail
            go_still_tail 11, (by kernel_rfl)
            change wpList _ _ _ _ _ wr.drew
            go_wp2_with fail
            refine (side_do (l1 := [kernT C k2]) q x0 x1 x2 x3 x4 (T2.out.under (dn (Below.refl _ _) 1)) HQ.out.words).mono ?_
            rintro e1 v4 ⟨S5, rfl, h⟩
            have S6 := Lib.hid h
            clear h T2 q0 q1 q2 q3 q4 q5
            have hq := HQ.out.later S6.out.below
            have q0 := hq.env
            have q1 := hq.a0
            have q2 := hq.a1
            have q3 := hq.a2
            have q4 := hq.a3
            have q5 := hq.a4
            clear hq
            unfold ansV
            go_wp2_with fail
            go_still_tail 11, (by kernel_rfl)
            change wpList _ _ _ _ _ v4.drew
            go_wp2_with fail
            refine (side_rdo (l1 := []) q x0 x1 x2 x3 x4 HK2.out (S6.out.under (dn (Below.refl _ _) 1)) HQ.out.words).mono ?_
            rintro e1 v5 ⟨rfl, h⟩
            have S7 := Lib.hid h
            clear h S6 q0 q1 q2 q3 q4 q5
            unfold ansV
            go_wp2_with fail
            go_roundw
            case rel => exact ⟨i + 1, _, S5, by go_num, by omega, by omega, HN2.out.do _ _ _ _ _ _, S7.out⟩
            case measure => simp [intOf]; omega
          all_goals
            first
              | (have i1 : ¬ (i : Int) < (mlen : Int) := by omega
                 go_wp2_with fail)
              | (have i1 : (i : Int) < (mlen : Int) := by omega
                 have i2 : ¬ (i : Int) < 40 := by omega
                 go_wp2_with fail)
            clear h1 hil hi40
            refine (alike_any HH.out HN1.out _ (side_pair (l1 := [kernT C k2, plainT HH.out S2a P2 k2, kernT K k1]) T2.out T2.out.2.2.2.2.2.2.1)).mono ?_
            rintro e1 v6 ⟨rfl, hb⟩
            have U1 := Lib.hid (T2.out.under hb)
            clear hb T2
            go_wp2_with fail
            refine (words_any HH.out v6 (side_pair (l1 := [kernT C k2, plainT HH.out S2a P2 k2, kernT K k1]) U1.out U1.out.2.2.2.2.2.2.1)).mono ?_
            rintro e1 v7 ⟨rfl, hb⟩
            have U2 := Lib.hid (U1.out.under hb)
            clear hb U1
            go_wp2_with fail
            refine (alike_any HH.out HN2.out v7 (side_pair (l1 := [kernT C k2]) U2.out U2.out.1)).mono ?_
            rintro e1 v8 ⟨rfl, hb⟩
            have U3 := Lib.hid (U2.out.under hb)
            clear hb U2
            go_wp2_with fail
            refine (words_any HH.out v8 (side_pair (l1 := [kernT C k2]) U3.out U3.out.1)).mono ?_
            rintro e1 v9 ⟨rfl, hb⟩
            have U4 := Lib.hid (U3.out.under hb)
            clear hb U3
            go_wp2_with fail
            go_ret
            exact ⟨rfl, U4.out.below⟩
  · have HS := Lib.hid hs
    clear hs
    go_wp2_with fail
    refine (HH.out.no_ c e f w1 HS.out).mono ?_
    rintro e1 w2 ⟨rfl, hb⟩
    have S2 := Lib.hid (S1.out.under hb)
    clear hb S1 z0 z1 z2 lz
    have k1 := S2.out.1
    have z0 := bk_cell k1 0
    have z1 := bk_cell k1 1
    have z2 := bk_cell k1 2
    have lz := bk_lt k1
    clear k1
    go_wp2_with fail
    refine (size_no c e f HS.out w2).mono ?_
    rintro e1 w3 ⟨rfl, hb⟩
    have S3 := Lib.hid (S2.out.under hb)
    clear hb
    go_wp2_with fail
    go_ret
    exact ⟨rfl, S3.out.below⟩
end Go.Proofs.YtdfhfmdelinemaaGreatDoor

