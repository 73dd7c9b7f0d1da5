/- What is proved here: the statement PlainErr: whatever its size, its asks and its ask, the statement returns true and leaves what was there. Conditions: package plain keeps its contracts; the asks are there, their words are words; the statements' own beginning returns true; the library's variable errors.errorType holds the type error. -/
import Derived.Test.YtdfhfmdelinemaaGreatDoorGPair
namespace Go.Proofs.YtdfhfmdelinemaaGreatDoor
open Go.RowKit Go.Extern.Stop Go.Stop Go.Extern Go.WalkArith
set_option maxRecDepth 100000 in
set_option maxHeartbeats 8000000 in
theorem perr_any {At : World → (Nat → Prop) → Nat → KernS → Prop} (H : PlainC At) (c e f : Int) (ao : Option Addr) (a : Addr) (len cap : Nat) (en y0 y1 y2 y3 y4 : Int) (hy : wordsIn y0 y1 y2 y3 y4) (w : World) (ha : AsksAt w ao a len) (hg : Held w) (hbeg : ∀ V, Below w.heap.size w V → BegunAt11 V) :
    Calls Tryz.prog 4 #[sizeV c e f, .slice ao len cap, .agg #[.int .i64 en, .int .u64 y0, .int .u64 y1, .int .u64 y2, .int .u64 y3, .int .u64 y4]] w fun e w' => e = .returned (.bool true) ∧ Below w.heap.size w w' := by
  have HB := Lib.hid hbeg
  have HH := Lib.hid H
  have HA := Lib.hid ha
  have HY := Lib.hid hy
  have HG : Hid (∀ W, Below w.heap.size w W → Held W) := fun W hW => hg.below hW hg.pos
  clear hbeg H ha hg hy
  go_enter Tryz.func4, Tryz.ntmps4
  go_wp2_with fail
  have S0 := ((Side.start w).boxAt (.cells #[.int .i64 c, .int .i64 e, .int .i64 f] 23) _ rfl).boxAt (.cells #[.int .i64 en, .int .u64 y0, .int .u64 y1, .int .u64 y2, .int .u64 y3, .int .u64 y4] 38) (w.heap.size + 1) (by simp)
  refine (HB.out _ S0.below).mono ?_
  rintro e1 w1 ⟨rfl, hb1⟩
  have S1 := Lib.hid (S0.under hb1)
  clear hb1 HB S0
  have k1 := S1.out.2.2.2.1
  have z0 := bk_cell k1 0
  have z1 := bk_cell k1 1
  have z2 := bk_cell k1 2
  have lz := bk_lt k1
  clear k1
  by_cases hs : SizeOk c e f
  · have HS := Lib.hid hs
    clear hs
    go_wp2_with fail
    refine (side_new HH.out S1.out HS.out).mono ?_
    rintro e1 w2 ⟨P, S, rfl, h⟩
    have S2 := Lib.hid h
    clear h S1 z0 z1 z2 lz
    have k1 := S2.out.tail.2.2.2.1
    have z0 := bk_cell k1 0
    have z1 := bk_cell k1 1
    have z2 := bk_cell k1 2
    have lz := bk_lt k1
    clear k1
    go_wp2_with fail
    refine (side_ref S2.out).mono ?_
    rintro e1 w3 ⟨K, rfl, h⟩
    have S3 := Lib.hid h
    clear h S2 z0 z1 z2 lz
    go_wp2_with fail
    go_loopw [10] (fun iv W => ∃ (i : Nat) (k : KernS) (S : Nat → Prop), iv = .int .i64 i ∧ i ≤ len ∧ i ≤ 60 ∧ Neat k ∧ Side w W [kernT K k, plainT HH.out S P k, fixT (w.heap.size + 1) (.cells #[.int .i64 en, .int .u64 y0, .int .u64 y1, .int .u64 y2, .int .u64 y3, .int .u64 y4] 38), fixT w.heap.size (.cells #[.int .i64 c, .int .i64 e, .int .i64 f] 23)]) (fun iv _ => (60 - intOf iv).toNat)
    case atStart => exact ⟨0, newK c e f, S, rfl, by omega, by omega, Neat.new _ _ _, S3.out⟩
    case round =>
      obtain ⟨i, k, S', rfl, hil, hi60, hn, h⟩ := hrel
      have HN := Lib.hid hn
      have S4 := Lib.hid h
      clear h hn S3
      have HK : Hid (Sane k) := HH.out.sane _ _ _ _ (Side.at (o := plainT HH.out S' P k) [kernT K k] S4.out)
      rcases (show (i < len ∧ i < 60) ∨ ¬ i < len ∨ (i < len ∧ i = 60) by omega) with ⟨h1, h2⟩ | h1 | ⟨h1, h2⟩
      · obtain rfl : ao = some a := HA.out.1 (by omega)
        have i0 : (0 : Int) ≤ (i : Int) := by omega
        have i1 : (i : Int) < (len : Int) := by omega
        have i2 : (i : Int) < 60 := by omega
        obtain ⟨q, x0, x1, x2, x3, x4, hq⟩ := HA.out.2 i h1
        have HQ := Lib.hid hq
        clear hq
        have hq := HQ.out.later S4.out.below
        have q0 := hq.env
        have q1 := hq.a0
        have q2 := hq.a1
        have q3 := hq.a2
        have q4 := hq.a3
        have q5 := hq.a4
        clear hq
        go_wp2_with fail
        go_still_tail 11, (by kernel_rfl)
        change wpList _ _ _ _ _ wr.drew
        go_wp2_with fail
        refine (side_do (l1 := [kernT K k]) q x0 x1 x2 x3 x4 (S4.out.under (dn (Below.refl _ _) 1)) HQ.out.words).mono ?_
        rintro e1 w4 ⟨S5, rfl, h⟩
        have S6 := Lib.hid h
        clear h S4 q0 q1 q2 q3 q4 q5
        have hq := HQ.out.later S6.out.below
        have q0 := hq.env
        have q1 := hq.a0
        have q2 := hq.a1
        have q3 := hq.a2
        have q4 := hq.a3
        have q5 := hq.a4
        clear hq
        unfold ansV
        go_wp2_with fail
        go_still_tail 11, (by kernel_rfl)
        change wpList _ _ _ _ _ w4.drew
        go_wp2_with fail
        refine (side_rdo (l1 := []) q x0 x1 x2 x3 x4 HK.out (S6.out.under (dn (Below.refl _ _) 1)) HQ.out.words).mono ?_
        rintro e1 w5 ⟨rfl, h⟩
        have S7 := Lib.hid h
        clear h S6 q0 q1 q2 q3 q4 q5
        unfold ansV
        go_wp2_with fail
        go_roundw
        case rel => exact ⟨i + 1, _, S5, by go_num, by omega, by omega, HN.out.do _ _ _ _ _ _, S7.out⟩
        case measure => simp [intOf]; omega
      all_goals
        have k1 := S4.out.2.2.2.2.2.2.1
        have z0 := bk_cell k1 0
        have z1 := bk_cell k1 1
        have z2 := bk_cell k1 2
        have z3 := bk_cell k1 3
        have z4 := bk_cell k1 4
        have z5 := bk_cell k1 5
        have lz := bk_lt k1
        clear k1
        first
          | (have i1 : ¬ (i : Int) < (len : Int) := by omega
             go_wp2_with fail)
          | (have i1 : (i : Int) < (len : Int) := by omega
             have i2 : ¬ (i : Int) < 60 := by omega
             go_wp2_with fail)
        refine (HH.out.err_ P S' k en y0 y1 y2 y3 y4 _ (Side.at (o := plainT HH.out S' P k) [kernT K k] S4.out) HY.out (HG.out _ S4.out.below)).mono ?_
        rintro e1 w4 ⟨v, rfl, _, hb⟩
        have S5 := Lib.hid (S4.out.under hb)
        clear hb S4 z0 z1 z2 z3 z4 z5 lz
        go_wp2_with fail
        refine (alike_any HH.out HN.out w4 (side_pair (l1 := [kernT K k]) S5.out S5.out.1)).mono ?_
        rintro e1 w5 ⟨rfl, hb⟩
        have S6 := Lib.hid (S5.out.under hb)
        clear hb S5
        go_wp2_with fail
        refine (words_any HH.out w5 (side_pair (l1 := [kernT K k]) S6.out S6.out.1)).mono ?_
        rintro e1 w6 ⟨rfl, hb⟩
        have S7 := Lib.hid (S6.out.under hb)
        clear hb S6
        have k1 := S7.out.2.2.2.2.2.2.1
        have z0 := bk_cell k1 0
        have z1 := bk_cell k1 1
        have z2 := bk_cell k1 2
        have z3 := bk_cell k1 3
        have z4 := bk_cell k1 4
        have z5 := bk_cell k1 5
        have lz := bk_lt k1
        clear k1
        go_wp2_with fail
        refine (side_do (l1 := [kernT K k]) en y0 y1 y2 y3 y4 S7.out HY.out).mono ?_
        rintro e1 w7 ⟨S8, rfl, h⟩
        have HSM := kdo_same k en y0 y1 y2 y3 y4
        obtain ⟨r, hr⟩ : ∃ r, r = kdo k en y0 y1 y2 y3 y4 := ⟨_, rfl⟩
        rw [← hr] at h HSM ⊢
        clear hr
        obtain ⟨k', er, va, bo⟩ := r
        dsimp only at h
        have S9 := Lib.hid h
        clear h S7 z0 z1 z2 z3 z4 z5 lz
        unfold ansV
        dsimp only
        by_cases hok : er = 0 ∧ bo = true
        · obtain ⟨rfl, rfl⟩ := hok
          clear HSM
          go_wp2_with fail
          go_ret
          exact ⟨rfl, (S9.out.under ((Below.refl _ _).alloc (Nat.le_refl _) _)).below⟩
        · have hk : k' = k := HSM.resolve_right hok
          subst hk
          clear HSM
          have S10 : Hid (Side w (w7.alloc (.cells #[.int .i64 er, .int .u64 va] 41)) _) := S9.out.under ((Below.refl _ _).alloc (Nat.le_refl _) _)
          clear S9
          cases bo
          · clear hok
            go_wp2_with fail
            refine (alike_any HH.out HN.out _ (side_pair (l1 := [kernT K k']) S10.out S10.out.1)).mono ?_
            rintro e1 w8 ⟨rfl, hb⟩
            have S11 := Lib.hid (S10.out.under hb)
            clear hb S10
            go_wp2_with fail
            refine (words_any HH.out w8 (side_pair (l1 := [kernT K k']) S11.out S11.out.1)).mono ?_
            rintro e1 w9 ⟨rfl, hb⟩
            have S12 := Lib.hid (S11.out.under hb)
            clear hb S11
            go_wp2_with fail
            go_ret
            exact ⟨rfl, S12.out.below⟩
          · have he : (er == 0) = false := beq_eq_false_iff_ne.2 (fun h => hok ⟨h, rfl⟩)
            clear hok
            go_wp2_with fail
            refine (alike_any HH.out HN.out _ (side_pair (l1 := [kernT K k']) S10.out S10.out.1)).mono ?_
            rintro e1 w8 ⟨rfl, hb⟩
            have S11 := Lib.hid (S10.out.under hb)
            clear hb S10
            go_wp2_with fail
            refine (words_any HH.out w8 (side_pair (l1 := [kernT K k']) S11.out S11.out.1)).mono ?_
            rintro e1 w9 ⟨rfl, hb⟩
            have S12 := Lib.hid (S11.out.under hb)
            clear hb S11
            go_wp2_with fail
            go_ret
            exact ⟨rfl, S12.out.below⟩
  · have HS := Lib.hid hs
    clear hs
    go_wp2_with fail
    refine (HH.out.no_ c e f w1 HS.out).mono ?_
    rintro e1 w2 ⟨rfl, hb⟩
    have S2 := Lib.hid (S1.out.under hb)
    clear hb S1 z0 z1 z2 lz
    have k1 := S2.out.2.2.2.1
    have z0 := bk_cell k1 0
    have z1 := bk_cell k1 1
    have z2 := bk_cell k1 2
    have lz := bk_lt k1
    clear k1
    go_wp2_with fail
    refine (size_no c e f HS.out w2).mono ?_
    rintro e1 w3 ⟨rfl, hb⟩
    have S3 := Lib.hid (S2.out.under hb)
    clear hb
    go_wp2_with fail
    go_ret
    exact ⟨rfl, S3.out.below⟩
end Go.Proofs.YtdfhfmdelinemaaGreatDoor

