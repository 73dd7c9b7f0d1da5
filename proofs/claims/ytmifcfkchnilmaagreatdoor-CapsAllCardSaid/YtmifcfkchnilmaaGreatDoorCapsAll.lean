/- What is proved here: the statement CapsAll: whatever its environments and its operations, the statement returns true and leaves what was there. Conditions: package caps keeps its contracts; the operations are there; the statements' own beginning returns true. -/
import Derived.Test.YtmifcfkchnilmaaGreatDoorTreeP
import Derived.RegionTactic
import Derived.WalkArith
import Derived.Deep.CutBlock
import Derived.Deep.DeepCutAuto
import Derived.Deep.QuietTactic
import Derived.BigQuiet
namespace Go.Proofs.YtmifcfkchnilmaaGreatDoor
open Go.RowKit Go.Extern.Stop Go.Stop Go.Extern Go.WalkArith
structure CopAt (W : World) (b : Addr) (kd e s t d r f : Int) : Prop where
  c0 : W.cell? b = some (.int .i64 kd)
  c1 : W.cell? ⟨b.block, b.off + 1, none⟩ = some (.int .i64 e)
  c2 : W.cell? ⟨b.block, b.off + 2, none⟩ = some (.int .i64 s)
  c3 : W.cell? ⟨b.block, b.off + 3, none⟩ = some (.int .i64 t)
  c4 : W.cell? ⟨b.block, b.off + 4, none⟩ = some (.int .i64 d)
  c5 : W.cell? ⟨b.block, b.off + 5, none⟩ = some (.int .i64 r)
  c6 : W.cell? ⟨b.block, b.off + 6, none⟩ = some (.int .i64 f)
theorem CopAt.later {W W' : World} {b : Addr} {kd e s t d r f : Int} (h : CopAt W b kd e s t d r f) (hb : Below W.heap.size W W') : CopAt W' b kd e s t d r f := by
  have hl : b.block < W.heap.size := World.block_lt_of_cell? _ _ h.c0
  exact ⟨(hb.cell (p := b) hl).trans h.c0, (hb.cell (p := ⟨b.block, _, none⟩) hl).trans h.c1, (hb.cell (p := ⟨b.block, _, none⟩) hl).trans h.c2, (hb.cell (p := ⟨b.block, _, none⟩) hl).trans h.c3, (hb.cell (p := ⟨b.block, _, none⟩) hl).trans h.c4, (hb.cell (p := ⟨b.block, _, none⟩) hl).trans h.c5, (hb.cell (p := ⟨b.block, _, none⟩) hl).trans h.c6⟩
def KopsAt (W : World) (ao : Option Addr) (a : Addr) (len : Nat) : Prop := (0 < len → ao = some a) ∧ ∀ i, i < len → ∃ kd e s t d r f, CopAt W (a.add (i * 7)) kd e s t d r f
set_option maxRecDepth 100000 in
set_option maxHeartbeats 8000000 in
theorem call_caps {At : World → (Nat → Prop) → Nat → KernS → Prop} (H : TreeC At) (en : Int) (ao : Option Addr) (a : Addr) (len cap : Nat) (w : World) (ha : KopsAt w ao a len) (hbeg : ∀ V, Below w.heap.size w V → BegunAt11 V) :
    Calls Tryz.prog 3 #[.int .i64 en, .slice ao len cap] w fun e w' => e = .returned (.bool true) ∧ Below w.heap.size w w' := by
  have HB := Lib.hid hbeg
  have HH := Lib.hid H
  have HA := Lib.hid ha
  clear hbeg H ha
  go_enter Tryz.func3, Tryz.ntmps3
  go_wp2_with fail
  refine (HB.out w (Below.refl _ _)).mono ?_
  rintro e1 w1 ⟨rfl, hb1⟩
  have S1 : Hid (Side w w1 []) := hb1
  clear hb1 HB
  by_cases hs : 1 ≤ en ∧ en ≤ 4
  · have HS := Lib.hid hs
    have e1 : ¬ en < 1 := by omega
    have e4 : ¬ 4 < en := by omega
    clear hs
    go_wp2_with fail
    refine (tree_new HH.out S1.out HS.out).mono ?_
    rintro x w2 ⟨P, S, rfl, h⟩
    have S2 := Lib.hid h
    clear h S1
    go_wp2_with fail
    refine (side_ref S2.out).mono ?_
    rintro x w3 ⟨K, rfl, h⟩
    have S3 := Lib.hid h
    clear h S2
    obtain ⟨E, rfl⟩ : ∃ E : Nat, en = (E : Int) := ⟨en.toNat, by have := HS.out; omega⟩
    have hE4 : E ≤ 4 := by have := HS.out; omega
    go_wp2_with fail
    go_loopw [8] (fun iv W => ∃ (i : Nat) (k : KernS) (S : Nat → Prop), iv = .int .i64 i ∧ i ≤ len ∧ i ≤ 50 ∧ Sane k ∧ k.envs = (E : Int) ∧ Side w W [kernT K k, treeT HH.out S P k]) (fun iv _ => (50 - intOf iv).toNat)
    case atStart => exact ⟨0, newK 1 (E : Int) 16, S, rfl, by omega, by omega, Sane.new HS.out (by decide), rfl, S3.out⟩
    case round =>
      clear S3
      obtain ⟨i, k, S', rfl, hil, hi50, hn, hkE, h⟩ := hrel
      have HN := Lib.hid hn
      have HE := Lib.hid hkE
      have S4 := Lib.hid h
      clear h hn hkE
      rcases (show (i < len ∧ i < 50) ∨ ¬ i < len ∨ (i < len ∧ i = 50) by omega) with ⟨h1, h2⟩ | h1 | ⟨h1, h2⟩
      · obtain rfl : ao = some a := HA.out.1 (by omega)
        have i0 : (0 : Int) ≤ (i : Int) := by omega
        have i1 : (i : Int) < (len : Int) := by omega
        have i2 : (i : Int) < 50 := by omega
        obtain ⟨kd, e, s, t, d, r, f, hq⟩ := HA.out.2 i h1
        have hq := hq.later S4.out.below
        have q0 := hq.c0
        have q1 := hq.c1
        have q2 := hq.c2
        have q3 := hq.c3
        have q4 := hq.c4
        have q5 := hq.c5
        have q6 := hq.c6
        clear hq
        go_upto_region 12 with (fail)
        obtain ⟨C, hC⟩ : ∃ C, C = wr.heap.size := ⟨_, rfl⟩
        obtain ⟨w5, hw5⟩ : ∃ w5, w5 = wr.alloc (.cells #[.int .i64 kd, .int .i64 e, .int .i64 s, .int .i64 t, .int .i64 d, .int .i64 r, .int .i64 f] 31) := ⟨_, rfl⟩
        have S5 : Hid (Side w w5 [fixT C (.cells #[.int .i64 kd, .int .i64 e, .int .i64 s, .int .i64 t, .int .i64 d, .int .i64 r, .int .i64 f] 31), kernT K k, treeT HH.out S' P k]) := by rw [hw5]; exact S4.out.boxAt _ C hC.symm
        rw [← hw5, ← hC]
        clear hw5 hC S4 q0 q1 q2 q3 q4 q5 q6
        have k5 := S5.out.1
        have c0 := bk_cell k5 0
        have c1 := bk_cell k5 1
        have c2 := bk_cell k5 2
        have lC := bk_lt k5
        clear k5
        obtain ⟨inn, hinn⟩ : ∃ b : Bool, inB k e s = b := ⟨_, rfl⟩
        have HI := Lib.hid (show decide (0 ≤ e ∧ e < (E : Int) ∧ 0 ≤ s ∧ s < 8) = inn by rw [← hinn]; unfold inB; rw [HE.out])
        have HIN := Lib.hid hinn
        clear hinn
        go_cut [10] (fun v W => v = .bool inn ∧ W = w5)
        case first =>
          rcases (show (0 ≤ e ∧ e < (E : Int) ∧ 0 ≤ s ∧ s < 8) ∨ ¬ 0 ≤ e ∨ (0 ≤ e ∧ ¬ e < (E : Int)) ∨ (0 ≤ e ∧ e < (E : Int) ∧ ¬ 0 ≤ s) ∨ (0 ≤ e ∧ e < (E : Int) ∧ 0 ≤ s ∧ ¬ s < 8) by omega) with ⟨g1, g2, g3, g4⟩ | g1 | ⟨g1, g2⟩ | ⟨g1, g2, g3⟩ | ⟨g1, g2, g3, g4⟩
          all_goals
            go_wp2_with fail
            go_meet
            case rel => exact ⟨congrArg Value.bool (by rw [← HI.out]; first | exact (decide_eq_true (by omega)).symm | exact (decide_eq_false (by omega)).symm), rfl⟩
        case rest =>
          obtain ⟨rfl, rfl⟩ := hcut
          go_upto_region 14 with (fail)
          obtain ⟨D, hD⟩ : ∃ D, D = wc.heap.size := ⟨_, rfl⟩
          obtain ⟨pe, hpe⟩ : ∃ n : Nat, max 0 (min e 3) = (n : Int) := ⟨(max 0 (min e 3)).toNat, by omega⟩
          obtain ⟨ps, hps⟩ : ∃ n : Nat, max 0 (min s 7) = (n : Int) := ⟨(max 0 (min s 7)).toNat, by omega⟩
          rw [hpe, hps]
          obtain ⟨w6, hw6⟩ : ∃ w6, w6 = wc.alloc (.cells #[.int .i64 (pe : Int), .int .i64 (ps : Int)] 33) := ⟨_, rfl⟩
          have S6 : Hid (Side w w6 [fixT D (.cells #[.int .i64 (pe : Int), .int .i64 (ps : Int)] 33), fixT C (.cells #[.int .i64 kd, .int .i64 e, .int .i64 s, .int .i64 t, .int .i64 d, .int .i64 r, .int .i64 f] 31), kernT K k, treeT HH.out S' P k]) := by rw [hw6]; exact S5.out.boxAt _ D hD.symm
          have hpe4 : pe < 4 := by omega
          have hps8 : ps < 8 := by omega
          have HPE := Lib.hid (show inn = true → e = (pe : Int) ∧ s = (ps : Int) ∧ pe < E by
            intro hb
            rw [← HI.out] at hb
            have hb2 := of_decide_eq_true hb
            omega)
          rw [← hw6, ← hD]
          generalize min e 3 = m1
          generalize min s 7 = m2
          clear hw6 hD S5 c0 c1 c2 lC hpe hps
          obtain ⟨bis, hbis⟩ : ∃ b, (inn && (k.sl pe ps).is) = b := ⟨_, rfl⟩
          have HBIS := Lib.hid hbis
          clear hbis
          go_cut [12] (fun v W => v = .bool bis ∧ Side w W [fixT D (.cells #[.int .i64 (pe : Int), .int .i64 (ps : Int)] 33), fixT C (.cells #[.int .i64 kd, .int .i64 e, .int .i64 s, .int .i64 t, .int .i64 d, .int .i64 r, .int .i64 f] 31), kernT K k, treeT HH.out S' P k])
          case first =>
            cases inn
            · go_wp2_with fail
              go_quiet (fail)
              go_wp2_with fail
              go_meet
              case rel => exact ⟨congrArg Value.bool (by rw [← HBIS.out]; rfl), S6.out.under (dn (Below.refl _ _) _)⟩
            · have k5 := S6.out.1
              have d0 := bk_cell k5 0
              have d1 := bk_cell k5 1
              have ld := bk_lt k5
              have hk := S6.out.2.2.2.2.2.2.1
              obtain ⟨g0, _, _, _, _⟩ := KernIs.slot hk hpe4 hps8
              have lK := KernIs.lt hk
              have p0 : (0 : Int) ≤ (pe : Int) := by omega
              have p1 : (pe : Int) < 4 := by omega
              have p2 : (0 : Int) ≤ (ps : Int) := by omega
              have p3 : (ps : Int) < 8 := by omega
              clear k5 hk
              go_wp2_with fail
              go_quiet (fail)
              go_wp2_with fail
              go_meet
              case rel => exact ⟨congrArg Value.bool (by rw [← HBIS.out]; rfl), S6.out.under (dn (Below.refl _ _) _)⟩
          case rest =>
            obtain ⟨rfl, hs7⟩ := hcut
            have S7 := Lib.hid hs7
            clear hs7 S6
            have kD := S7.out.1
            have kC := S7.out.2.2.2.1
            have d0 := bk_cell kD 0
            have d1 := bk_cell kD 1
            have c0 := bk_cell kC 0
            have c1 := bk_cell kC 1
            have c2 := bk_cell kC 2
            have c3 := bk_cell kC 3
            have c4 := bk_cell kC 4
            have c5 := bk_cell kC 5
            have c6 := bk_cell kC 6
            have lD := bk_lt kD
            have lC := bk_lt kC
            clear kD kC
            go_upto_block 2 with (fail)
            go_cut [12] (fun _ W => ∃ (k' : KernS) (S'' : Nat → Prop), Sane k' ∧ k'.envs = (E : Int) ∧ Side w W [kernT K k', treeT HH.out S'' P k'])
            case first =>
                by_cases k0 : kd = 0
                · subst k0
                  as_aux_lemma =>
                    cases inn
                    · have eE : rootE k e s f = 2 := by
                        unfold rootE
                        rw [if_neg (fun hc => by rw [HIN.out] at hc; exact absurd hc.1 (by decide))]
                      have eS : rootS k e s f = k := by
                        unfold rootS
                        rw [eE, if_neg (by decide)]
                      have HC := Lib.hid (tside_root (H := HH.out) (l1 := [fixT D (.cells #[.int .i64 (pe : Int), .int .i64 (ps : Int)] 33), fixT C (.cells #[.int .i64 0, .int .i64 e, .int .i64 s, .int .i64 t, .int .i64 d, .int .i64 r, .int .i64 f] 31), kernT K k]) (l2 := []) e s f S7.out)
                      rw [eE, eS] at HC
                      clear eE eS
                      go_wp2_with fail
                      refine HC.out.mono ?_
                      rintro x w8 ⟨S8, rfl, h8⟩
                      have T8 := Lib.hid h8
                      clear h8 HC
                      go_wp2_with fail
                      go_meet
                      case rel => exact ⟨k, S8, HN.out, HE.out, T8.out.tail.tail⟩
                    · obtain ⟨rfl, rfl, hpE⟩ := HPE.out rfl
                      by_cases hf : 0 ≤ f ∧ f < 16
                      · obtain ⟨hf0, hf1⟩ := hf
                        have hrE : rootE k (pe : Int) (ps : Int) f = if (k.sl pe ps).is = true then 4 else 0 := by
                          unfold rootE
                          rw [if_pos ⟨HIN.out, hf0, hf1⟩, Int.toNat_natCast, Int.toNat_natCast]
                        cases bis
                        · have hi : (k.sl pe ps).is = false := by simpa using HBIS.out
                          have eE : rootE k (pe : Int) (ps : Int) f = 0 := hrE.trans (if_neg (by rw [hi]; decide))
                          have eS : rootS k (pe : Int) (ps : Int) f = k.setSlot pe ps ⟨true, f, 3, -1, 0⟩ := by
                            unfold rootS
                            rw [if_pos eE, Int.toNat_natCast, Int.toNat_natCast]
                          have HSN := Lib.hid (HN.out.root (pe : Int) (ps : Int) f)
                          have HSE := Lib.hid (root_envs k (pe : Int) (ps : Int) f)
                          rw [eS] at HSN HSE
                          have hk : KernIs _ K k := S7.out.2.2.2.2.2.2.1
                          have S8a := (Side.step (o := kernT K k) (kernT K (k.setSlot pe ps ⟨true, f, 3, -1, 0⟩)) (KernIs.putSlot hk hpe4 hps8 true f 3 (-1) 0) (fun _ h => Or.inl h) (only_T (tp_slot (tp_below (Below.refl _ _)) _ _ _ _ _ _)) [fixT D (.cells #[.int .i64 (pe : Int), .int .i64 (ps : Int)] 33), fixT C (.cells #[.int .i64 0, .int .i64 (pe : Int), .int .i64 (ps : Int), .int .i64 t, .int .i64 d, .int .i64 r, .int .i64 f] 31)] S7.out).under ((Below.refl _ _).drew)
                          have HC := Lib.hid (tside_root (H := HH.out) (l1 := [fixT D (.cells #[.int .i64 (pe : Int), .int .i64 (ps : Int)] 33), fixT C (.cells #[.int .i64 0, .int .i64 (pe : Int), .int .i64 (ps : Int), .int .i64 t, .int .i64 d, .int .i64 r, .int .i64 f] 31), kernT K (k.setSlot pe ps ⟨true, f, 3, -1, 0⟩)]) (l2 := []) (pe : Int) (ps : Int) f S8a)
                          have k8 : Hid _ := Lib.hid S8a.2.2.2.1
                          rw [eE, eS] at HC
                          obtain ⟨g0, g1, g2, g3, g4⟩ := KernIs.slot hk hpe4 hps8
                          have lK := KernIs.lt hk
                          have f0 := KernIs.free hk (3 + pe * 40 + ps * 5)
                          have f1 := KernIs.free hk (3 + pe * 40 + ps * 5 + 1)
                          have f2 := KernIs.free hk (3 + pe * 40 + ps * 5 + 2)
                          have f3 := KernIs.free hk (3 + pe * 40 + ps * 5 + 3)
                          have f4 := KernIs.free hk (3 + pe * 40 + ps * 5 + 4)
                          have p0 : (0 : Int) ≤ (pe : Int) := by omega
                          have p1 : (pe : Int) < 4 := by omega
                          have p2 : (0 : Int) ≤ (ps : Int) := by omega
                          have p3 : (ps : Int) < 8 := by omega
                          clear eE eS hi hrE hk S8a c0 c1 c2 c3 c4 c5
                          go_wp2_with fail
                          go_region
                          have q1 := bk_cell k8.out 1
                          have q2 := bk_cell k8.out 2
                          have q6 := bk_cell k8.out 6
                          have lq := bk_lt k8.out
                          go_wp2_with fail
                          refine HC.out.mono ?_
                          rintro x w8 ⟨S8, rfl, h8⟩
                          have T8 := Lib.hid h8
                          clear h8 HC
                          go_wp2_with fail
                          go_meet
                          case rel => exact ⟨_, S8, HSN.out, HSE.out.trans HE.out, T8.out.tail.tail⟩
                        · have hi : (k.sl pe ps).is = true := by simpa using HBIS.out
                          have eE : rootE k (pe : Int) (ps : Int) f = 4 := hrE.trans (if_pos hi)
                          have eS : rootS k (pe : Int) (ps : Int) f = k := by
                            unfold rootS
                            rw [eE, if_neg (by decide)]
                          clear hrE hi
                          have HC := Lib.hid (tside_root (H := HH.out) (l1 := [fixT D (.cells #[.int .i64 (pe : Int), .int .i64 (ps : Int)] 33), fixT C (.cells #[.int .i64 0, .int .i64 (pe : Int), .int .i64 (ps : Int), .int .i64 t, .int .i64 d, .int .i64 r, .int .i64 f] 31), kernT K k]) (l2 := []) (pe : Int) (ps : Int) f S7.out)
                          rw [eE, eS] at HC
                          clear eE eS
                          go_wp2_with fail
                          refine HC.out.mono ?_
                          rintro x w8 ⟨S8, rfl, h8⟩
                          have T8 := Lib.hid h8
                          clear h8 HC
                          go_wp2_with fail
                          go_meet
                          case rel => exact ⟨k, S8, HN.out, HE.out, T8.out.tail.tail⟩
                      · have eE : rootE k (pe : Int) (ps : Int) f = 2 := by
                          unfold rootE
                          rw [if_neg (fun hc => hf hc.2)]
                        have eS : rootS k (pe : Int) (ps : Int) f = k := by
                          unfold rootS
                          rw [eE, if_neg (by decide)]
                        rcases (show f < 0 ∨ (¬ f < 0 ∧ 16 ≤ f) by omega) with g1 | ⟨g1, g2⟩
                        all_goals
                          clear hf
                          have HC := Lib.hid (tside_root (H := HH.out) (l1 := [fixT D (.cells #[.int .i64 (pe : Int), .int .i64 (ps : Int)] 33), fixT C (.cells #[.int .i64 0, .int .i64 (pe : Int), .int .i64 (ps : Int), .int .i64 t, .int .i64 d, .int .i64 r, .int .i64 f] 31), kernT K k]) (l2 := []) (pe : Int) (ps : Int) f S7.out)
                          rw [eE, eS] at HC
                          clear eE eS
                          go_wp2_with fail
                          refine HC.out.mono ?_
                          rintro x w8 ⟨S8, rfl, h8⟩
                          have T8 := Lib.hid h8
                          clear h8 HC
                          go_wp2_with fail
                          go_meet
                          case rel => exact ⟨k, S8, HN.out, HE.out, T8.out.tail.tail⟩
                by_cases k1 : kd = 1
                · subst k1
                  as_aux_lemma =>
                    by_cases hb : inB k e s = true ∧ inB k t d = true ∧ mayB r = true
                    · obtain ⟨b1, b2, b3⟩ := hb
                      obtain rfl : true = inn := by rw [← HIN.out, b1]
                      obtain ⟨rfl, rfl, hpE⟩ := HPE.out rfl
                      have h5 := in_of b2
                      have hEE := HE.out
                      obtain ⟨t, rfl⟩ : ∃ n : Nat, t = (n : Int) := ⟨t.toNat, by omega⟩
                      obtain ⟨d, rfl⟩ : ∃ n : Nat, d = (n : Int) := ⟨d.toNat, by omega⟩
                      have hk : KernIs _ K k := S7.out.2.2.2.2.2.2.1
                      have HC := Lib.hid (kder_good K k E pe ps t d 1 r f HE.out hE4 hpE hps8 (by omega) (by omega) b3 _ hk)
                      obtain ⟨er, her⟩ : ∃ x, tderE k (pe : Int) (ps : Int) (t : Int) (d : Int) r = x := ⟨_, rfl⟩
                      have HD := Lib.hid (fun (W : World) (S : Nat → Prop) (h : Side w W ([fixT D (.cells #[.int .i64 (pe : Int), .int .i64 (ps : Int)] 33), fixT C (.cells #[.int .i64 1, .int .i64 (pe : Int), .int .i64 (ps : Int), .int .i64 (t : Int), .int .i64 (d : Int), .int .i64 r, .int .i64 f] 31), kernT K (tderS k (pe : Int) (ps : Int) (t : Int) (d : Int) r)] ++ treeT HH.out S P k :: [])) => tside_derive (H := HH.out) (pe : Int) (ps : Int) (t : Int) (d : Int) r h)
                      rw [her] at HC HD
                      clear h5 hEE b1 b2 b3 hk her
                      go_wp2_with fail
                      refine HC.out.mono ?_
                      rintro x w8 ⟨rfl, h8, h9⟩
                      have T8 := Lib.hid (Side.step (o := kernT K k) (kernT K (tderS k (pe : Int) (ps : Int) (t : Int) (d : Int) r)) h8 (fun _ h => Or.inl h) (only_T h9) [fixT D (.cells #[.int .i64 (pe : Int), .int .i64 (ps : Int)] 33), fixT C (.cells #[.int .i64 1, .int .i64 (pe : Int), .int .i64 (ps : Int), .int .i64 (t : Int), .int .i64 (d : Int), .int .i64 r, .int .i64 f] 31)] S7.out)
                      clear h8 h9 HC
                      clear c0 c1 c2 c3 c4 c5 c6 d0 d1 lD lC
                      have kD := T8.out.1
                      have kC := T8.out.2.2.2.1
                      have d0 := bk_cell kD 0
                      have d1 := bk_cell kD 1
                      have c0 := bk_cell kC 0
                      have c1 := bk_cell kC 1
                      have c2 := bk_cell kC 2
                      have c3 := bk_cell kC 3
                      have c4 := bk_cell kC 4
                      have c5 := bk_cell kC 5
                      have c6 := bk_cell kC 6
                      have lD := bk_lt kD
                      have lC := bk_lt kC
                      clear kD kC
                      go_wp2_with fail
                      refine (HD.out _ _ T8.out).mono ?_
                      rintro x w9 ⟨S9, rfl, h9⟩
                      have T9 := Lib.hid h9
                      clear h9 HD
                      go_wp2_with fail
                      go_meet
                      case rel => exact ⟨_, S9, HN.out.tder _ _ _ _ _, (tder_envs k _ _ _ _ _).trans HE.out, T9.out.tail.tail⟩
                    · have eE : tderE k e s t d r = 2 := by
                        unfold tderE
                        rw [if_neg hb]
                      have eS : tderS k e s t d r = k := by
                        unfold tderS
                        rw [eE, if_neg (by decide)]
                      have HC := Lib.hid (fun W => kder_bad K k E 1 e s t d r f HE.out hb W)
                      rw [HIN.out] at HC
                      have HD := Lib.hid (fun (W : World) (S : Nat → Prop) (h : Side w W ([fixT D (.cells #[.int .i64 (pe : Int), .int .i64 (ps : Int)] 33), fixT C (.cells #[.int .i64 1, .int .i64 e, .int .i64 s, .int .i64 t, .int .i64 d, .int .i64 r, .int .i64 f] 31), kernT K k] ++ treeT HH.out S P k :: [])) => tside_derive (H := HH.out) e s t d r h)
                      rw [eE, eS] at HD
                      clear eE eS hb
                      go_wp2_with fail
                      refine (HC.out _).mono ?_
                      rintro x w8 ⟨rfl, h8⟩
                      have T8 := Lib.hid (S7.out.under h8)
                      clear h8 HC
                      clear c0 c1 c2 c3 c4 c5 c6 d0 d1 lD lC
                      have kD := T8.out.1
                      have kC := T8.out.2.2.2.1
                      have d0 := bk_cell kD 0
                      have d1 := bk_cell kD 1
                      have c0 := bk_cell kC 0
                      have c1 := bk_cell kC 1
                      have c2 := bk_cell kC 2
                      have c3 := bk_cell kC 3
                      have c4 := bk_cell kC 4
                      have c5 := bk_cell kC 5
                      have c6 := bk_cell kC 6
                      have lD := bk_lt kD
                      have lC := bk_lt kC
                      clear kD kC
                      go_wp2_with fail
                      refine (HD.out _ _ T8.out).mono ?_
                      rintro x w9 ⟨S9, rfl, h9⟩
                      have T9 := Lib.hid h9
                      clear h9 HD
                      go_wp2_with fail
                      go_meet
                      case rel => exact ⟨_, S9, HN.out, HE.out, T9.out.tail.tail⟩
                by_cases k2 : kd = 2
                · subst k2
                  as_aux_lemma =>
                    cases inn
                    · obtain rfl : false = bis := HBIS.out
                      have eE : tgoneE k e s = 2 := by
                        unfold tgoneE
                        rw [HIN.out, if_neg (by decide)]
                      have HC := Lib.hid (tside_revoke (H := HH.out) (l1 := [fixT D (.cells #[.int .i64 (pe : Int), .int .i64 (ps : Int)] 33), fixT C (.cells #[.int .i64 2, .int .i64 e, .int .i64 s, .int .i64 t, .int .i64 d, .int .i64 r, .int .i64 f] 31), kernT K k]) (l2 := []) e s S7.out)
                      obtain ⟨z1, z2⟩ := tgone_no (it := false) (k := k) (e := e) (s := s) (by rw [eE]; decide)
                      rw [eE, z1, z2] at HC
                      clear eE z1 z2
                      go_wp2_with fail
                      refine HC.out.mono ?_
                      rintro x w8 ⟨S8, v, rfl, hv, _, h8⟩
                      have T8 := Lib.hid h8
                      have HV := Lib.hid hv
                      clear h8 HC hv
                      clear c0 c1 c2 c3 c4 c5 c6 d0 d1 lD lC
                      have kD := T8.out.1
                      have kC := T8.out.2.2.2.1
                      have d0 := bk_cell kD 0
                      have d1 := bk_cell kD 1
                      have c0 := bk_cell kC 0
                      have c1 := bk_cell kC 1
                      have c2 := bk_cell kC 2
                      have c3 := bk_cell kC 3
                      have c4 := bk_cell kC 4
                      have c5 := bk_cell kC 5
                      have c6 := bk_cell kC 6
                      have lD := bk_lt kD
                      have lC := bk_lt kC
                      clear kD kC
                      go_wp2_with fail
                      refine (places_any [] (by decide) v _ w8 HV.out ⟨none, 0, 0, rfl, fun h => absurd h (Nat.lt_irrefl 0)⟩).mono ?_
                      rintro x w9 ⟨rfl, h9⟩
                      have T9 := Lib.hid (T8.out.under h9)
                      clear h9
                      go_wp2_with fail
                      go_meet
                      case rel => exact ⟨k, S8, HN.out, HE.out, T9.out.tail.tail⟩
                    · obtain ⟨rfl, rfl, hpE⟩ := HPE.out rfl
                      have hg : tgoneE k (pe : Int) (ps : Int) = if (k.sl pe ps).is = true then 0 else 3 := by
                        unfold tgoneE
                        rw [HIN.out, if_pos rfl, Int.toNat_natCast, Int.toNat_natCast]
                      cases bis
                      · have hi : (k.sl pe ps).is = false := by simpa using HBIS.out
                        have eE : tgoneE k (pe : Int) (ps : Int) = 3 := hg.trans (if_neg (by rw [hi]; decide))
                        clear hg hi
                        have HC := Lib.hid (tside_revoke (H := HH.out) (l1 := [fixT D (.cells #[.int .i64 (pe : Int), .int .i64 (ps : Int)] 33), fixT C (.cells #[.int .i64 2, .int .i64 (pe : Int), .int .i64 (ps : Int), .int .i64 t, .int .i64 d, .int .i64 r, .int .i64 f] 31), kernT K k]) (l2 := []) (pe : Int) (ps : Int) S7.out)
                        obtain ⟨z1, z2⟩ := tgone_no (it := false) (k := k) (e := (pe : Int)) (s := (ps : Int)) (by rw [eE]; decide)
                        rw [eE, z1, z2] at HC
                        clear eE z1 z2
                        go_wp2_with fail
                        refine HC.out.mono ?_
                        rintro x w8 ⟨S8, v, rfl, hv, _, h8⟩
                        have T8 := Lib.hid h8
                        have HV := Lib.hid hv
                        clear h8 HC hv
                        clear c0 c1 c2 c3 c4 c5 c6 d0 d1 lD lC
                        have kD := T8.out.1
                        have kC := T8.out.2.2.2.1
                        have d0 := bk_cell kD 0
                        have d1 := bk_cell kD 1
                        have c0 := bk_cell kC 0
                        have c1 := bk_cell kC 1
                        have c2 := bk_cell kC 2
                        have c3 := bk_cell kC 3
                        have c4 := bk_cell kC 4
                        have c5 := bk_cell kC 5
                        have c6 := bk_cell kC 6
                        have lD := bk_lt kD
                        have lC := bk_lt kC
                        clear kD kC
                        go_wp2_with fail
                        refine (places_any [] (by decide) v _ w8 HV.out ⟨none, 0, 0, rfl, fun h => absurd h (Nat.lt_irrefl 0)⟩).mono ?_
                        rintro x w9 ⟨rfl, h9⟩
                        have T9 := Lib.hid (T8.out.under h9)
                        clear h9
                        go_wp2_with fail
                        go_meet
                        case rel => exact ⟨k, S8, HN.out, HE.out, T9.out.tail.tail⟩
                      · have hi : (k.sl pe ps).is = true := by simpa using HBIS.out
                        have eE : tgoneE k (pe : Int) (ps : Int) = 0 := hg.trans (if_pos hi)
                        have eL : tgoneL k (pe : Int) (ps : Int) false = goneL k (pe * 8 + ps) false := by
                          unfold tgoneL
                          rw [if_pos eE, Int.toNat_natCast, Int.toNat_natCast]
                        have eS : tgoneS k (pe : Int) (ps : Int) false = goneF k (goneL k (pe * 8 + ps) false) := by
                          unfold tgoneS
                          rw [eL]
                        have HC := Lib.hid (tside_revoke (H := HH.out) (l1 := [fixT D (.cells #[.int .i64 (pe : Int), .int .i64 (ps : Int)] 33), fixT C (.cells #[.int .i64 2, .int .i64 (pe : Int), .int .i64 (ps : Int), .int .i64 t, .int .i64 d, .int .i64 r, .int .i64 f] 31), kernT K k]) (l2 := []) (pe : Int) (ps : Int) S7.out)
                        rw [eE, eL, eS] at HC
                        have hlen : (goneL k (pe * 8 + ps) false).length ≤ 32 := by
                          have h := List.length_filter_le (fun p => (false && decide (p = pe * 8 + ps)) || fromB k (pe * 8 + ps) 32 p) (List.range 32)
                          rw [List.length_range] at h
                          exact h
                        have HSN := Lib.hid (HN.out.gone (goneL k (pe * 8 + ps) false))
                        have HSE := Lib.hid (goneF_sizes (goneL k (pe * 8 + ps) false) k).1
                        have HLEN := Lib.hid hlen
                        have lK : K < _ := KernIs.lt (show KernIs _ K k from S7.out.2.2.2.2.2.2.1)
                        have HLK := Lib.hid lK
                        clear hg hi eE eL eS hlen lK
                        go_wp2_with fail
                        refine HC.out.mono ?_
                        rintro x w8 ⟨S8, v, rfl, hv, hg, h8⟩
                        have T8 := Lib.hid h8
                        have HV := Lib.hid hv
                        have HG := Lib.hid hg
                        clear h8 HC hv hg
                        clear c0 c1 c2 c3 c4 c5 c6 d0 d1 lD lC
                        have kD := T8.out.1
                        have kC := T8.out.2.2.2.1
                        have d0 := bk_cell kD 0
                        have d1 := bk_cell kD 1
                        have c0 := bk_cell kC 0
                        have c1 := bk_cell kC 1
                        have c2 := bk_cell kC 2
                        have c3 := bk_cell kC 3
                        have c4 := bk_cell kC 4
                        have c5 := bk_cell kC 5
                        have c6 := bk_cell kC 6
                        have lD := bk_lt kD
                        have lC := bk_lt kC
                        clear kD kC
                        go_wp2_with fail
                        refine (tside_gone (l1 := [fixT D (.cells #[.int .i64 (pe : Int), .int .i64 (ps : Int)] 33), fixT C (.cells #[.int .i64 2, .int .i64 (pe : Int), .int .i64 (ps : Int), .int .i64 t, .int .i64 d, .int .i64 r, .int .i64 f] 31)]) HN.out.par pe ps hpe4 hps8 false T8.out).mono ?_
                        rintro x w9 ⟨v2, rfl, hv2, ho, h9⟩
                        have T9 := Lib.hid h9
                        have HV2 := Lib.hid hv2
                        have HV1 := Lib.hid (HV.out.off ho fun g c hv hn => by have := HG.out g c hv hn; have := HLK.out; omega)
                        clear h9 hv2 ho
                        clear c0 c1 c2 c3 c4 c5 c6 d0 d1 lD lC
                        go_wp2_with fail
                        refine (places_any (goneL k (pe * 8 + ps) false) HLEN.out v v2 w9 HV1.out HV2.out).mono ?_
                        rintro x w10 ⟨rfl, h9⟩
                        have T10 := Lib.hid (T9.out.under h9)
                        clear h9
                        go_wp2_with fail
                        go_meet
                        case rel => exact ⟨_, S8, HSN.out, HSE.out.trans HE.out, T10.out.tail.tail⟩
                by_cases k3 : kd = 3
                · subst k3
                  as_aux_lemma =>
                    cases inn
                    · obtain rfl : false = bis := HBIS.out
                      have eE : tgoneE k e s = 2 := by
                        unfold tgoneE
                        rw [HIN.out, if_neg (by decide)]
                      have HC := Lib.hid (tside_drop (H := HH.out) (l1 := [fixT D (.cells #[.int .i64 (pe : Int), .int .i64 (ps : Int)] 33), fixT C (.cells #[.int .i64 3, .int .i64 e, .int .i64 s, .int .i64 t, .int .i64 d, .int .i64 r, .int .i64 f] 31), kernT K k]) (l2 := []) e s S7.out)
                      obtain ⟨z1, z2⟩ := tgone_no (it := true) (k := k) (e := e) (s := s) (by rw [eE]; decide)
                      rw [eE, z1, z2] at HC
                      clear eE z1 z2
                      go_wp2_with fail
                      refine HC.out.mono ?_
                      rintro x w8 ⟨S8, v, rfl, hv, _, h8⟩
                      have T8 := Lib.hid h8
                      have HV := Lib.hid hv
                      clear h8 HC hv
                      clear c0 c1 c2 c3 c4 c5 c6 d0 d1 lD lC
                      have kD := T8.out.1
                      have kC := T8.out.2.2.2.1
                      have d0 := bk_cell kD 0
                      have d1 := bk_cell kD 1
                      have c0 := bk_cell kC 0
                      have c1 := bk_cell kC 1
                      have c2 := bk_cell kC 2
                      have c3 := bk_cell kC 3
                      have c4 := bk_cell kC 4
                      have c5 := bk_cell kC 5
                      have c6 := bk_cell kC 6
                      have lD := bk_lt kD
                      have lC := bk_lt kC
                      clear kD kC
                      go_wp2_with fail
                      refine (places_any [] (by decide) v _ w8 HV.out ⟨none, 0, 0, rfl, fun h => absurd h (Nat.lt_irrefl 0)⟩).mono ?_
                      rintro x w9 ⟨rfl, h9⟩
                      have T9 := Lib.hid (T8.out.under h9)
                      clear h9
                      go_wp2_with fail
                      go_meet
                      case rel => exact ⟨k, S8, HN.out, HE.out, T9.out.tail.tail⟩
                    · obtain ⟨rfl, rfl, hpE⟩ := HPE.out rfl
                      have hg : tgoneE k (pe : Int) (ps : Int) = if (k.sl pe ps).is = true then 0 else 3 := by
                        unfold tgoneE
                        rw [HIN.out, if_pos rfl, Int.toNat_natCast, Int.toNat_natCast]
                      cases bis
                      · have hi : (k.sl pe ps).is = false := by simpa using HBIS.out
                        have eE : tgoneE k (pe : Int) (ps : Int) = 3 := hg.trans (if_neg (by rw [hi]; decide))
                        clear hg hi
                        have HC := Lib.hid (tside_drop (H := HH.out) (l1 := [fixT D (.cells #[.int .i64 (pe : Int), .int .i64 (ps : Int)] 33), fixT C (.cells #[.int .i64 3, .int .i64 (pe : Int), .int .i64 (ps : Int), .int .i64 t, .int .i64 d, .int .i64 r, .int .i64 f] 31), kernT K k]) (l2 := []) (pe : Int) (ps : Int) S7.out)
                        obtain ⟨z1, z2⟩ := tgone_no (it := true) (k := k) (e := (pe : Int)) (s := (ps : Int)) (by rw [eE]; decide)
                        rw [eE, z1, z2] at HC
                        clear eE z1 z2
                        go_wp2_with fail
                        refine HC.out.mono ?_
                        rintro x w8 ⟨S8, v, rfl, hv, _, h8⟩
                        have T8 := Lib.hid h8
                        have HV := Lib.hid hv
                        clear h8 HC hv
                        clear c0 c1 c2 c3 c4 c5 c6 d0 d1 lD lC
                        have kD := T8.out.1
                        have kC := T8.out.2.2.2.1
                        have d0 := bk_cell kD 0
                        have d1 := bk_cell kD 1
                        have c0 := bk_cell kC 0
                        have c1 := bk_cell kC 1
                        have c2 := bk_cell kC 2
                        have c3 := bk_cell kC 3
                        have c4 := bk_cell kC 4
                        have c5 := bk_cell kC 5
                        have c6 := bk_cell kC 6
                        have lD := bk_lt kD
                        have lC := bk_lt kC
                        clear kD kC
                        go_wp2_with fail
                        refine (places_any [] (by decide) v _ w8 HV.out ⟨none, 0, 0, rfl, fun h => absurd h (Nat.lt_irrefl 0)⟩).mono ?_
                        rintro x w9 ⟨rfl, h9⟩
                        have T9 := Lib.hid (T8.out.under h9)
                        clear h9
                        go_wp2_with fail
                        go_meet
                        case rel => exact ⟨k, S8, HN.out, HE.out, T9.out.tail.tail⟩
                      · have hi : (k.sl pe ps).is = true := by simpa using HBIS.out
                        have eE : tgoneE k (pe : Int) (ps : Int) = 0 := hg.trans (if_pos hi)
                        have eL : tgoneL k (pe : Int) (ps : Int) true = goneL k (pe * 8 + ps) true := by
                          unfold tgoneL
                          rw [if_pos eE, Int.toNat_natCast, Int.toNat_natCast]
                        have eS : tgoneS k (pe : Int) (ps : Int) true = goneF k (goneL k (pe * 8 + ps) true) := by
                          unfold tgoneS
                          rw [eL]
                        have HC := Lib.hid (tside_drop (H := HH.out) (l1 := [fixT D (.cells #[.int .i64 (pe : Int), .int .i64 (ps : Int)] 33), fixT C (.cells #[.int .i64 3, .int .i64 (pe : Int), .int .i64 (ps : Int), .int .i64 t, .int .i64 d, .int .i64 r, .int .i64 f] 31), kernT K k]) (l2 := []) (pe : Int) (ps : Int) S7.out)
                        rw [eE, eL, eS] at HC
                        have hlen : (goneL k (pe * 8 + ps) true).length ≤ 32 := by
                          have h := List.length_filter_le (fun p => (true && decide (p = pe * 8 + ps)) || fromB k (pe * 8 + ps) 32 p) (List.range 32)
                          rw [List.length_range] at h
                          exact h
                        have HSN := Lib.hid (HN.out.gone (goneL k (pe * 8 + ps) true))
                        have HSE := Lib.hid (goneF_sizes (goneL k (pe * 8 + ps) true) k).1
                        have HLEN := Lib.hid hlen
                        have lK : K < _ := KernIs.lt (show KernIs _ K k from S7.out.2.2.2.2.2.2.1)
                        have HLK := Lib.hid lK
                        clear hg hi eE eL eS hlen lK
                        go_wp2_with fail
                        refine HC.out.mono ?_
                        rintro x w8 ⟨S8, v, rfl, hv, hg, h8⟩
                        have T8 := Lib.hid h8
                        have HV := Lib.hid hv
                        have HG := Lib.hid hg
                        clear h8 HC hv hg
                        clear c0 c1 c2 c3 c4 c5 c6 d0 d1 lD lC
                        have kD := T8.out.1
                        have kC := T8.out.2.2.2.1
                        have d0 := bk_cell kD 0
                        have d1 := bk_cell kD 1
                        have c0 := bk_cell kC 0
                        have c1 := bk_cell kC 1
                        have c2 := bk_cell kC 2
                        have c3 := bk_cell kC 3
                        have c4 := bk_cell kC 4
                        have c5 := bk_cell kC 5
                        have c6 := bk_cell kC 6
                        have lD := bk_lt kD
                        have lC := bk_lt kC
                        clear kD kC
                        go_wp2_with fail
                        refine (tside_gone (l1 := [fixT D (.cells #[.int .i64 (pe : Int), .int .i64 (ps : Int)] 33), fixT C (.cells #[.int .i64 3, .int .i64 (pe : Int), .int .i64 (ps : Int), .int .i64 t, .int .i64 d, .int .i64 r, .int .i64 f] 31)]) HN.out.par pe ps hpe4 hps8 true T8.out).mono ?_
                        rintro x w9 ⟨v2, rfl, hv2, ho, h9⟩
                        have T9 := Lib.hid h9
                        have HV2 := Lib.hid hv2
                        have HV1 := Lib.hid (HV.out.off ho fun g c hv hn => by have := HG.out g c hv hn; have := HLK.out; omega)
                        clear h9 hv2 ho
                        clear c0 c1 c2 c3 c4 c5 c6 d0 d1 lD lC
                        go_wp2_with fail
                        refine (places_any (goneL k (pe * 8 + ps) true) HLEN.out v v2 w9 HV1.out HV2.out).mono ?_
                        rintro x w10 ⟨rfl, h9⟩
                        have T10 := Lib.hid (T9.out.under h9)
                        clear h9
                        go_wp2_with fail
                        go_meet
                        case rel => exact ⟨_, S8, HSN.out, HSE.out.trans HE.out, T10.out.tail.tail⟩
                as_aux_lemma =>
                  cases bis
                  · have eE : ¬ tgoneE k e s = 0 := fun h => by
                      unfold tgoneE at h
                      rw [HIN.out] at h
                      cases inn
                      · rw [if_neg (by decide)] at h
                        exact absurd h (by decide)
                      · obtain ⟨rfl, rfl, _⟩ := HPE.out rfl
                        have hi : (k.sl pe ps).is = false := by simpa using HBIS.out
                        rw [if_pos rfl, Int.toNat_natCast, Int.toNat_natCast, hi, if_neg (by decide)] at h
                        exact absurd h (by decide)
                    have eL : tbelowL k e s = [] := by
                      unfold tbelowL
                      rw [if_neg eE]
                    have HC := Lib.hid (HH.out.below_ P S' k e s _ (Side.at (o := treeT HH.out S' P k) [fixT D (.cells #[.int .i64 (pe : Int), .int .i64 (ps : Int)] 33), fixT C (.cells #[.int .i64 kd, .int .i64 e, .int .i64 s, .int .i64 t, .int .i64 d, .int .i64 r, .int .i64 f] 31), kernT K k] S7.out))
                    rw [eL] at HC
                    clear eE eL
                    go_wp2_with fail
                    refine HC.out.mono ?_
                    rintro x w8 ⟨v, rfl, hv, hb⟩
                    have T8 := Lib.hid (S7.out.under hb)
                    have HV := Lib.hid hv
                    clear hb HC hv
                    clear c0 c1 c2 c3 c4 c5 c6 d0 d1 lD lC
                    go_wp2_with fail
                    refine (places_any [] (by decide) v _ w8 HV.out ⟨none, 0, 0, rfl, fun h => absurd h (Nat.lt_irrefl 0)⟩).mono ?_
                    rintro x w9 ⟨rfl, h9⟩
                    have T9 := Lib.hid (T8.out.under h9)
                    clear h9
                    go_wp2_with fail
                    go_meet
                    case rel => exact ⟨k, S', HN.out, HE.out, T9.out.tail.tail⟩
                  · have hb : inn = true ∧ (k.sl pe ps).is = true := by
                      have h := HBIS.out
                      rw [Bool.and_eq_true] at h
                      exact h
                    obtain ⟨rfl, hi⟩ := hb
                    obtain ⟨rfl, rfl, hpE⟩ := HPE.out rfl
                    have eL : tbelowL k (pe : Int) (ps : Int) = belowL k (pe * 8 + ps) 32 := by
                      unfold tbelowL tgoneE
                      rw [HIN.out, if_pos rfl, Int.toNat_natCast, Int.toNat_natCast, hi, if_pos rfl, if_pos rfl]
                    have HD := Lib.hid (fun W h => HH.out.below_ P S' k (pe : Int) (ps : Int) W h)
                    rw [eL] at HD
                    have HLEN := Lib.hid (belowL_le k (pe * 8 + ps) 32)
                    clear eL hi
                    go_wp2_with fail
                    refine (tside_rbelow (l1 := [fixT D (.cells #[.int .i64 (pe : Int), .int .i64 (ps : Int)] 33), fixT C (.cells #[.int .i64 kd, .int .i64 (pe : Int), .int .i64 (ps : Int), .int .i64 t, .int .i64 d, .int .i64 r, .int .i64 f] 31)]) HN.out.par pe ps hpe4 hps8 S7.out).mono ?_
                    rintro x w8 ⟨v, rfl, hv, _, h8⟩
                    have T8 := Lib.hid h8
                    have HV := Lib.hid hv
                    clear h8 hv
                    clear c0 c1 c2 c3 c4 c5 c6 d0 d1 lD lC
                    have kD := T8.out.1
                    have kC := T8.out.2.2.2.1
                    have d0 := bk_cell kD 0
                    have d1 := bk_cell kD 1
                    have c0 := bk_cell kC 0
                    have c1 := bk_cell kC 1
                    have c2 := bk_cell kC 2
                    have c3 := bk_cell kC 3
                    have c4 := bk_cell kC 4
                    have c5 := bk_cell kC 5
                    have c6 := bk_cell kC 6
                    have lD := bk_lt kD
                    have lC := bk_lt kC
                    clear kD kC
                    go_wp2_with fail
                    refine (HD.out _ (Side.at (o := treeT HH.out S' P k) [fixT D (.cells #[.int .i64 (pe : Int), .int .i64 (ps : Int)] 33), fixT C (.cells #[.int .i64 kd, .int .i64 (pe : Int), .int .i64 (ps : Int), .int .i64 t, .int .i64 d, .int .i64 r, .int .i64 f] 31), kernT K k] T8.out)).mono ?_
                    rintro x w9 ⟨v2, rfl, hv2, hb⟩
                    have T9 := Lib.hid (T8.out.under hb)
                    have HV2 := Lib.hid hv2
                    have HV1 := Lib.hid (HV.out.later hb)
                    clear hb hv2
                    clear c0 c1 c2 c3 c4 c5 c6 d0 d1 lD lC
                    go_wp2_with fail
                    refine (places_any (belowL k (pe * 8 + ps) 32) HLEN.out v2 v w9 HV2.out HV1.out).mono ?_
                    rintro x w10 ⟨rfl, h9⟩
                    have T10 := Lib.hid (T9.out.under h9)
                    clear h9
                    go_wp2_with fail
                    go_meet
                    case rel => exact ⟨k, S', HN.out, HE.out, T10.out.tail.tail⟩
            case rest =>
              obtain ⟨k', S'', hn', hE', h'⟩ := hcut
              have HN' := Lib.hid hn'
              have HE' := Lib.hid hE'
              have S9 := Lib.hid h'
              clear hn' hE' h' S7 c0 c1 c2 c3 c4 c5 c6 d0 d1 lD lC
              go_wp2_with fail
              refine (tside_same (H := HH.out) (l1 := [kernT K k']) (l2 := []) E HE'.out hE4 S9.out S9.out.1).mono ?_
              rintro x w10 ⟨rfl, h10⟩
              have S10 := Lib.hid h10
              clear h10
              go_wp2_with fail
              go_roundw
              case rel => exact ⟨i + 1, k', S'', by go_num, by omega, by omega, HN'.out, HE'.out, S10.out⟩
              case measure => simp [intOf]; omega
      · have i1 : ¬ (i : Int) < (len : Int) := by omega
        go_wp2_with fail
        go_ret
        exact ⟨rfl, S4.out.below⟩
      · have i1 : (i : Int) < (len : Int) := by omega
        subst h2
        go_wp2_with fail
        go_ret
        exact ⟨rfl, S4.out.below⟩
  · rcases (show en < 1 ∨ (¬ en < 1 ∧ 4 < en) by omega) with h1 | ⟨h1, h2⟩
    all_goals
      have HS := Lib.hid hs
      clear hs
      go_wp2_with fail
      refine (HH.out.no_ en w1 HS.out).mono ?_
      rintro x w2 ⟨rfl, hb⟩
      have B2 := Lib.hid (bl_trans S1.out.below hb)
      clear hb
      go_wp2_with fail
      go_ret
      exact ⟨rfl, B2.out⟩
end Go.Proofs.YtmifcfkchnilmaaGreatDoor

