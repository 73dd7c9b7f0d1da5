/- What is proved here: the statement PlainApart: whatever its size, its asks and its environment, the statement returns true and leaves what was there. Conditions: package plain keeps its contracts; the asks are there, their words are words; the statements' own beginning returns true. -/
import Derived.Test.YtbmekfjcpdbapaaGreatDoorGPair
import Derived.Test.YtbmekfjcpdbapaaGreatDoorApart2
import Derived.Deep.CutBlock
import Derived.Deep.DeepCutAuto
import Derived.Deep.RegionWith
import Derived.Deep.RegionHeld3
namespace Go.Proofs.YtbmekfjcpdbapaaGreatDoor
open Go.RowKit Go.Extern.Stop Go.Stop Go.Extern Go.WalkArith
theorem Side.swap {w W : World} {a b : Thing} {l : List Thing} (h : Side w W (a :: b :: l)) : Side w W (b :: a :: l) := by
  obtain ⟨h1, h2, h3, h4, h5, h6, h7⟩ := h
  refine ⟨h4, h5, fun q hq i hi hqi => ?_, h1, h2, fun q hq => h3 q (List.mem_cons_of_mem _ hq), h7⟩
  rcases List.mem_cons.1 hq with rfl | hq
  · exact h3 b (List.mem_cons_self ..) i hqi hi
  · exact h6 q hq i hi hqi
set_option maxRecDepth 100000 in
set_option maxHeartbeats 8000000 in
theorem papart_any {At : World → (Nat → Prop) → Nat → KernS → Prop} (H : PlainC At) (c e f : Int) (ao : Option Addr) (a : Addr) (len cap : Nat) (v0 : Int) (w : World) (ha : AsksAt w ao a len) (hbeg : ∀ V, Below w.heap.size w V → BegunAt11 V) :
    Calls Tryz.prog 14 #[sizeV c e f, .slice ao len cap, .int .i64 v0] w fun e w' => e = .returned (.bool true) ∧ Below w.heap.size w w' := by
  have HB := Lib.hid hbeg
  have HH := Lib.hid H
  have HA := Lib.hid ha
  clear hbeg H ha
  have m1 := Int.lt_tmod_of_pos v0 (show (0 : Int) < 3 by omega)
  have m2 := Int.tmod_lt_of_pos v0 (show (0 : Int) < 3 by omega)
  obtain ⟨v, hv⟩ : ∃ v : Nat, (v0.tmod 3 + 3) % 3 = (v : Int) := ⟨((v0.tmod 3 + 3) % 3).toNat, by omega⟩
  have hv3 : v < 3 := by omega
  go_enter Tryz.func14, Tryz.ntmps14
  go_wp2_with fail
  obtain ⟨Z, hZ⟩ : ∃ Z, Z = w.heap.size := ⟨_, rfl⟩
  have S0 := (Side.start w).boxAt (.cells #[.int .i64 c, .int .i64 e, .int .i64 f] 23) Z hZ.symm
  refine (HB.out _ S0.below).mono ?_
  rintro e1 w1 ⟨rfl, hb1⟩
  rw [← hZ]
  have S1 := Lib.hid (S0.under hb1)
  clear hb1 HB S0 hZ
  have k1 := S1.out.1
  have z0 := bk_cell k1 0
  have z1 := bk_cell k1 1
  have z2 := bk_cell k1 2
  have y0 := bk_free k1 0
  have y1 := bk_free k1 1
  have y2 := bk_free k1 2
  have lz := bk_lt k1
  clear k1
  go_wp2_with fail
  have SC := Lib.hid ((((S1.out.store (l1 := []) 0 (.int .i64 1)).store (l1 := []) 1 (.int .i64 3)).store (l1 := []) 2 (.int .i64 16)).under (dn (Below.refl _ _) 1))
  clear S1 z0 z1 z2 y0 y1 y2 lz
  obtain ⟨w2, hw2⟩ : ∃ w2, w2 = ((w1.setCell ⟨Z, 0, none⟩ (.int .i64 1)).setCell ⟨Z, 1, none⟩ (.int .i64 3)).setCell ⟨Z, 2, none⟩ (.int .i64 16) := ⟨_, rfl⟩
  have S2 : Hid (Side w w2.drew [fixT Z (.cells #[.int .i64 1, .int .i64 3, .int .i64 16] 23)]) := by rw [hw2]; exact SC.out
  rw [← hw2]
  clear hw2 SC
  go_cut [8, 9] (fun pv qv W => ∃ (P : Nat) (S : Nat → Prop) (Q : Nat) (T : Nat → Prop), pv = .pointer (some ⟨P, 0, none⟩) ∧ qv = .pointer (some ⟨Q, 0, none⟩) ∧ Side w W [plainT HH.out S P (newK 1 3 16), plainT HH.out T Q (newK 1 3 16), fixT Z (.cells #[.int .i64 1, .int .i64 3, .int .i64 16] 23)])
  case first =>
    have hS : w2.drew.cell? ⟨Z, 0, none⟩ = some (.int .i64 1) ∧ w2.drew.cell? ⟨Z, 1, none⟩ = some (.int .i64 3) ∧ w2.drew.cell? ⟨Z, 2, none⟩ = some (.int .i64 16) := ⟨bk_cell S2.out.1 0, bk_cell S2.out.1 1, bk_cell S2.out.1 2⟩
    have SC := S2
    have SL := Lib.hid (Side.mem SC.out (fixT Z (.cells #[.int .i64 1, .int .i64 3, .int .i64 16] 23)) (List.mem_cons_self ..))
    go_region_held3 (fun w' => w'.cell? ⟨Z, 0, none⟩ = some (.int .i64 1) ∧ w'.cell? ⟨Z, 1, none⟩ = some (.int .i64 3) ∧ w'.cell? ⟨Z, 2, none⟩ = some (.int .i64 16)) (exact hS) (first | (go_at_call 18; refine (side_new HH.out SC.out ⟨⟨by omega, by omega⟩, ⟨by omega, by omega⟩, by omega, by omega⟩).mono ?_; rintro e1 wn ⟨P, S, rfl, h⟩; replace SC := Lib.hid h; clear h; have kz := Side.mem SC.out (fixT Z (.cells #[.int .i64 1, .int .i64 3, .int .i64 16] 23)) (by simp); have hS : wn.cell? ⟨Z, 0, none⟩ = some (.int .i64 1) ∧ wn.cell? ⟨Z, 1, none⟩ = some (.int .i64 3) ∧ wn.cell? ⟨Z, 2, none⟩ = some (.int .i64 16) := ⟨bk_cell kz 0, bk_cell kz 1, bk_cell kz 2⟩; clear kz))
    all_goals
      go_wp2_with fail
      go_meet
      case rel => first | exact ⟨_, _, _, _, rfl, rfl, SC.out⟩ | exact ⟨_, _, _, _, rfl, rfl, SC.out.swap⟩
  case rest =>
    obtain ⟨P, S, Q, T, rfl, rfl, h⟩ := hcut
    have S3 := Lib.hid h
    clear h S2
    go_wp2_with fail
    simp only [hv]
    generalize (v0.tmod 3 + 3) % 3 = u1 at hv
    generalize v0.tmod 3 + 3 = u2
    generalize v0.tmod 3 = u3 at m1 m2
    clear m1 m2 hv
    go_loopw [10] (fun iv W => ∃ (i : Nat) (ka kb : KernS) (S T : Nat → Prop), iv = .int .i64 i ∧ i ≤ len ∧ i ≤ 60 ∧ AsOne v ka kb ∧ Side w W [plainT HH.out S P ka, plainT HH.out T Q kb, fixT Z (.cells #[.int .i64 1, .int .i64 3, .int .i64 16] 23)]) (fun iv _ => (60 - intOf iv).toNat)
    case atStart => exact ⟨0, _, _, S, T, rfl, by omega, by omega, AsOne.new v 1 1, S3.out⟩
    case round =>
      clear S3
      obtain ⟨i, ka, kb, S, T, rfl, hil, hi60, hn, h⟩ := hrel
      have HN := Lib.hid hn
      have S4 := Lib.hid h
      clear h hn
      have i0 : (0 : Int) ≤ (i : Int) := by omega
      rcases (show (i < len ∧ i < 60) ∨ ¬ i < len ∨ (i < len ∧ i = 60) by omega) with ⟨h1, h2⟩ | h1 | ⟨h1, h2⟩
      · obtain rfl : ao = some a := HA.out.1 (by omega)
        have i1 : (i : Int) < (len : Int) := by omega
        have i2 : (i : Int) < 60 := by omega
        obtain ⟨q, x0, x1, x2, x3, x4, hq⟩ := HA.out.2 i h1
        have HX := Lib.hid hq.words
        have hq := hq.later S4.out.below
        have q0 := hq.env
        have q1 := hq.a0
        have q2 := hq.a1
        have q3 := hq.a2
        have q4 := hq.a3
        have q5 := hq.a4
        clear hq
        go_upto_region 11 with (fail)
        obtain ⟨C, hC⟩ : ∃ C, C = wr.heap.size := ⟨_, rfl⟩
        obtain ⟨w5, hw5⟩ : ∃ w5, w5 = wr.alloc (.cells #[.int .i64 q, .int .u64 x0, .int .u64 x1, .int .u64 x2, .int .u64 x3, .int .u64 x4] 38) := ⟨_, rfl⟩
        have S5 : Hid (Side w w5 [fixT C (.cells #[.int .i64 q, .int .u64 x0, .int .u64 x1, .int .u64 x2, .int .u64 x3, .int .u64 x4] 38), plainT HH.out S P ka, plainT HH.out T Q kb, fixT Z (.cells #[.int .i64 1, .int .i64 3, .int .i64 16] 23)]) := by rw [hw5]; exact S4.out.boxAt _ C hC.symm
        rw [← hw5, ← hC]
        clear hw5 hC S4 q0 q1 q2 q3 q4 q5
        have k5 := S5.out.1
        have c0 := bk_cell k5 0
        have c1 := bk_cell k5 1
        have c2 := bk_cell k5 2
        have c3 := bk_cell k5 3
        have c4 := bk_cell k5 4
        have c5 := bk_cell k5 5
        have lC := bk_lt k5
        clear k5
        by_cases hskip : q < 0 ∨ 3 ≤ q ∨ x0 = 3
        · rcases (show q < 0 ∨ (¬ q < 0 ∧ 3 ≤ q) ∨ (¬ q < 0 ∧ ¬ 3 ≤ q ∧ x0 = 3) by omega) with g1 | ⟨g1, g2⟩ | ⟨g1, g2, g3⟩
          · go_wp2_with fail
            go_roundw
            case rel => exact ⟨i + 1, ka, kb, S, T, by go_num, by omega, by omega, HN.out, S5.out.tail⟩
            case measure => simp [intOf]; omega
          · go_wp2_with fail
            go_roundw
            case rel => exact ⟨i + 1, ka, kb, S, T, by go_num, by omega, by omega, HN.out, S5.out.tail⟩
            case measure => simp [intOf]; omega
          · subst g3
            go_wp2_with fail
            go_roundw
            case rel => exact ⟨i + 1, ka, kb, S, T, by go_num, by omega, by omega, HN.out, S5.out.tail⟩
            case measure => simp [intOf]; omega
        · have g1 : ¬ q < 0 := by omega
          have g2 : ¬ 3 ≤ q := by omega
          have hx3 : ¬ x0 = 3 := by omega
          have g3 : (x0 == 3) = false := beq_eq_false_iff_ne.2 hx3
          obtain ⟨e, rfl⟩ : ∃ e : Nat, q = (e : Int) := ⟨q.toNat, by omega⟩
          have he3 : e < 3 := by omega
          have HX3 := Lib.hid hx3
          obtain ⟨R, hR⟩ : ∃ R, kdo ka (e : Int) x0 x1 x2 x3 x4 = R := ⟨_, rfl⟩
          obtain ⟨ka', er, va, bo⟩ := R
          have HD := Lib.hid (side_do (l1 := [fixT C (.cells #[.int .i64 (e : Int), .int .u64 x0, .int .u64 x1, .int .u64 x2, .int .u64 x3, .int .u64 x4] 38)]) (e : Int) x0 x1 x2 x3 x4 S5.out HX.out)
          rw [hR] at HD
          dsimp only at HD
          unfold ansV at HD
          have HR := Lib.hid hR
          clear hR hskip hx3
          go_wp2_with fail
          refine HD.out.mono ?_
          rintro e1 w6 ⟨S', rfl, h⟩
          have S6 := Lib.hid h
          clear h HD c0 c1 c2 c3 c4 c5 lC
          have k5 := S6.out.1
          have c0 := bk_cell k5 0
          have c1 := bk_cell k5 1
          have c2 := bk_cell k5 2
          have c3 := bk_cell k5 3
          have c4 := bk_cell k5 4
          have c5 := bk_cell k5 5
          have lC := bk_lt k5
          clear k5
          by_cases h6 : er = 6
          · subst h6
            go_wp2_with fail
            go_ret
            exact ⟨rfl, (S6.out.under ((Below.refl _ _).alloc (Nat.le_refl _) _)).below⟩
          · have h6b : (er == 6) = false := beq_eq_false_iff_ne.2 h6
            by_cases hev : e = v
            · have hev2 : ((e : Int) != (v : Int)) = false := by rw [hev]; simp
              have hown := HN.out.do_own (v := v) hv3 HX.out HX3.out (by rw [← hev, HR.out]; exact h6)
              rw [← hev, HR.out] at hown
              obtain ⟨h7, h8⟩ := hown
              obtain ⟨R2, hR2⟩ : ∃ R, kdo kb (e : Int) x0 x1 x2 x3 x4 = R := ⟨_, rfl⟩
              obtain ⟨kb', er2, va2, bo2⟩ := R2
              rw [hR2] at h7 h8
              dsimp only at h7 h8
              injection h7 with h71 h72
              injection h72 with h72 h73
              subst h71 h72 h73
              have HN2 : Hid (AsOne v ka' kb') := by rw [← hev]; exact h8
              have S7 := Lib.hid (S6.out.box (.cells #[.int .i64 er, .int .u64 va] 41))
              have HD2 := Lib.hid (side_do (l1 := [fixT w6.heap.size (.cells #[.int .i64 er, .int .u64 va] 41), fixT C (.cells #[.int .i64 (e : Int), .int .u64 x0, .int .u64 x1, .int .u64 x2, .int .u64 x3, .int .u64 x4] 38), plainT HH.out S' P ka']) (e : Int) x0 x1 x2 x3 x4 S7.out HX.out)
              rw [hR2] at HD2
              dsimp only at HD2
              unfold ansV at HD2
              clear h8 hR2 h6 hev
              go_wp2_with fail
              refine HD2.out.mono ?_
              rintro e1 w7 ⟨T', rfl, h⟩
              have S8 := Lib.hid h
              clear h HD2 c0 c1 c2 c3 c4 c5 lC
              have k5 := S8.out.1
              have d0 := bk_cell k5 0
              have d1 := bk_cell k5 1
              have ld := bk_lt k5
              clear k5
              cases bo
              · go_wp2_with fail
                go_roundw
                case rel => exact ⟨i + 1, ka', kb', S', T', by go_num, by omega, by omega, HN2.out, (S8.out.box _).tail.tail.tail⟩
                case measure => simp [intOf]; omega
              · go_wp2_with fail
                go_roundw
                case rel => exact ⟨i + 1, ka', kb', S', T', by go_num, by omega, by omega, HN2.out, (S8.out.box _).tail.tail.tail⟩
                case measure => simp [intOf]; omega
            · have hev2 : ((e : Int) != (v : Int)) = true := by
                rw [bne_iff_ne]
                omega
              have hfar := HN.out.do_far (e := e) hev he3 HX.out HX3.out
              rw [HR.out] at hfar
              have HF := Lib.hid hfar
              clear hfar hev h6
              go_wp2_with fail
              go_roundw
              case rel => exact ⟨i + 1, ka', kb, S', T, by go_num, by omega, by omega, HF.out, (S6.out.box _).tail.tail⟩
              case measure => simp [intOf]; omega
      · have i1 : ¬ (i : Int) < (len : Int) := by omega
        go_wp2_with fail
        go_ret
        exact ⟨rfl, S4.out.below⟩
      · have i1 : (i : Int) < (len : Int) := by omega
        subst h2
        go_wp2_with fail
        go_ret
        exact ⟨rfl, S4.out.below⟩
end Go.Proofs.YtbmekfjcpdbapaaGreatDoor

