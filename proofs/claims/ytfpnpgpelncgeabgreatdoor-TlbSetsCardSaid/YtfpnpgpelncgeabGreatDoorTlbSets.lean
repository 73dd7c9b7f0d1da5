/- What is proved here: the walk of the statement TlbSets: it answers true and leaves the memory that was there as it was. Conditions: the statements' beginning does so in every later world; the lists' numbers are there. -/
import Derived.Test.YtfpnpgpelncgeabGreatDoorTlbMaps
import Derived.Test.YtfpnpgpelncgeabGreatDoorGParts
import Derived.RegionTactic
import Derived.StillTailTactics
import Derived.Deep.CutBlock
import Derived.Deep.DeepCutAuto
namespace Go.Proofs.YtfpnpgpelncgeabGreatDoor
open Go.RowKit Go.Extern.Stop Go.Stop Go.Extern

theorem grown_below {w w' : World} (hb : Below w.heap.size w w') : w.grownBy w' none := ⟨hb.os, hb.tape, hb.output, hb.size, fun i hi _ => hb.block i hi⟩
theorem mods (z : Nat → Int) (n : Nat) (hn : 0 < n) (hn2 : n ≤ 1000) : ∃ E : Nat → Nat, ∀ i, (wrap64 ((z i).tmod n + n)).tmod n = (E i : Int) ∧ E i < n :=
  ⟨fun i => Classical.choose (pmod (z i) n hn hn2), fun i => Classical.choose_spec (pmod (z i) n hn hn2)⟩
theorem wrap_mod (b : Int) (n : Nat) (hn : 0 < n) (hn2 : n ≤ 1000) {x : Int} (h : (wrap64 (b.tmod n + n)).tmod n = x) : (IntKind.i64.wrap (b.tmod n + n)).tmod n = x := by
  have h1 := Int.tmod_lt_of_pos b (show (0 : Int) < n by omega)
  have h2 := Int.lt_tmod_of_pos b (show (0 : Int) < n by omega)
  rw [Go.IntWalk.wrap64_in _ (by omega)] at h
  rw [Go.IntWalk.i64_in _ (by omega)]
  exact h
/-- 'len(m)'. -/
theorem wpList_len_own (w : World) {ops : Array Oper} {rest : List Oper} {o : Oper} {a : Act} {Q : Exit → Act → World → Prop} {R : Value → Option (DataW Unit × List MemPlace)}
    (hg : o.guard = none) (m : Operand) (hop : o.op = Op.call { callee := Callee.builtin Builtin.len, args := #[m], argTypes := #[48] })
    (M n : Nat) (D : DataW Unit) (hm : a.eval m = .map (some M)) (hown : w.ownsMap Tryz.prog 49 R M n D)
    (hK : wpList Tryz.prog ops Q rest (a.put o.dst (.int .i64 (Maps.size D))) w) :
    wpList Tryz.prog ops Q (o :: rest) a w := by
  refine wpList_plain hg fun K' hK' => ?_
  have hrun := hown.len Tryz.underlying48 o.type
  unfold Oper.wp
  simp [execOp, hop, resolve, invoke, builtin, hm, hrun, Result.andThen]
  exact hK' _ _ hK
theorem cnt_wf {cc : Int} {n : Nat} (h : cc = (n : Int)) (hn : n ≤ 900) : (Lit.int .i64 (cc + 1)).wf = true := by
  rw [h]
  exact int_wf (n + 1) (by omega)
theorem zeroInt (w : World) : (zeroValue 3).run Tryz.prog w = .ok (.int .i64 0) w := by kernel_rfl
theorem lit_eq {a b : Int} (h : DataW.lit (H := Unit) (.int .i64 a) = .lit (.int .i64 b)) : a = b := by
  injection h with h
  injection h

set_option maxRecDepth 100000 in
set_option maxHeartbeats 16000000 in
theorem tsets_gen (ao bo : Option Addr) (a b : Addr) (len cap len' cap' : Nat) (hlen : len ≤ 9223372036854775807) (hlen' : len' ≤ 9223372036854775807) (z z' : Nat → Int) (w : World) (ha : 0 < len → ao = some a) (hb : 0 < len' → bo = some b)
    (hz : ∀ i, i < len → w.cell? (a.add i) = some (.int .i64 (z i))) (hz' : ∀ i, i < len' → w.cell? (b.add i) = some (.int .i64 (z' i))) (hbeg : ∀ W, Below w.heap.size w W → BegunAt W) :
    Calls Tryz.prog 6 #[.slice ao len cap, .slice bo len' cap'] w fun e w' => e = .returned (.bool true) ∧ Below w.heap.size w w' := by
  have HG := Lib.hid hbeg
  have HZ : Hid (∀ W, Below w.heap.size w W → ∀ i, i < len → W.cell? (a.add i) = some (.int .i64 (z i))) := fun W hW i hi => (hW.cell (cell_low (hz i hi))).trans (hz i hi)
  have HZ' : Hid (∀ W, Below w.heap.size w W → ∀ i, i < len' → W.cell? (b.add i) = some (.int .i64 (z' i))) := fun W hW i hi => (hW.cell (cell_low (hz' i hi))).trans (hz' i hi)
  obtain ⟨E, hE⟩ := mods z 4 (by omega) (by omega)
  obtain ⟨P, hP⟩ := mods z' 8 (by omega) (by omega)
  have HE := Lib.hid hE
  have HP := Lib.hid hP
  have HA := Lib.hid ha
  have HBo := Lib.hid hb
  obtain ⟨N, hN⟩ : ∃ N, N = min (min len len') 12 := ⟨_, rfl⟩
  have hN1 : N ≤ len := by omega
  have hN2 : N ≤ len' := by omega
  have hN3 : N ≤ 12 := by omega
  have hN4 : ¬ (N < len ∧ N < len' ∧ N < 12) := by omega
  clear hbeg hz hz' hE hP ha hb hN
  have hmk1 : ∀ W : World, (Instr.makeMap 45 none).run Tryz.prog W = .ok (.map (some W.heap.size)) (W.alloc (.map #[] 0)) := fun W => by kernel_rfl
  have hmk2 : ∀ W : World, (Instr.makeMap 48 none).run Tryz.prog W = .ok (.map (some W.heap.size)) (W.alloc (.map #[] 0)) := fun W => by kernel_rfl
  go_enter Tryz.func6, Tryz.ntmps6
  go_wp2_with fail
  refine Calls.mono (HG.out _ (Below.refl _ _)) ?_
  rintro e w1 ⟨rfl, hb1⟩
  have B1 := Lib.hid hb1
  clear hb1 HG
  go_wp2_with fail
  refine (tlb_new _).mono ?_
  rintro e w2 ⟨rfl, hb2, ht2⟩
  obtain ⟨T, hT⟩ : ∃ T, T = w1.heap.size := ⟨_, rfl⟩
  rw [← hT] at ht2
  rw [← hT]
  have HTl : Hid (w.heap.size ≤ T) := by rw [hT]; exact B1.out.size
  have B2 := Lib.hid (bl_trans B1.out hb2)
  have T2 := Lib.hid ht2
  clear hb2 ht2 hT B1
  go_upto_block 0 with (fail)
  go_cut [7] (fun _ W => ∃ g, SetsAt E P N g ∧ NumsIs 41 W T g ∧ Below w.heap.size w W)
  case first =>
    go_wp2_with fail
    go_loopw [7] (fun iv W => ∃ (i : Nat) (g : Nat → Int), iv = .int .i64 i ∧ i ≤ N ∧ Below w.heap.size w W ∧ NumsIs 41 W T g ∧ Hid (SetsAt E P i g)) (fun iv _ => (12 - intOf iv).toNat)
    case atStart => exact ⟨0, fun _ => 0, rfl, by omega, B2.out, T2.out, SetsAt.start E P⟩
    case round =>
      obtain ⟨i, g, rfl, hi, hb, ht, HS⟩ := hrel
      have HB := Lib.hid hb
      have HT := Lib.hid ht
      clear hb ht B2 T2
      by_cases hlt : i < len ∧ i < len' ∧ i < 12
      · obtain ⟨q1, q2, q3⟩ := hlt
        obtain rfl := HA.out (by omega)
        obtain rfl := HBo.out (by omega)
        have z0 := HZ.out _ HB.out i q1
        have z1 := HZ'.out _ HB.out i q2
        have hidx : (0 : Int) ≤ (i : Int) := by omega
        have e1 : (wrap64 ((z i).tmod 4 + 4)).tmod 4 = (E i : Int) := (HE.out i).1
        have e2 : (IntKind.i64.wrap ((z i).tmod 4 + 4)).tmod 4 = (E i : Int) := wrap_mod (z i) 4 (by omega) (by omega) (HE.out i).1
        have p1 : (wrap64 ((z' i).tmod 8 + 8)).tmod 8 = (P i : Int) := (HP.out i).1
        have p2 : (IntKind.i64.wrap ((z' i).tmod 8 + 8)).tmod 8 = (P i : Int) := wrap_mod (z' i) 8 (by omega) (by omega) (HP.out i).1
        go_wp2_with fail
        go_still_tail 16, (by kernel_rfl)
        change wpList _ _ _ _ _ wr.drew
        go_wp2_with fail
        refine (tfill_sets T g E P i _ HT.out.drew HS.out (by omega) (HE.out i).2 (HP.out i).2).mono ?_
        rintro e w3 ⟨g', rfl, hg3, hs3, ho3⟩
        have T3 := Lib.hid hg3
        have S3 := Lib.hid hs3
        have B3 := Lib.hid (tp_bl (dn HB.out 1) HTl.out ho3)
        clear hg3 hs3 ho3 z0 z1 e1 e2 p1 p2
        go_wp2_with fail
        go_roundw
        case rel => exact ⟨i + 1, g', by go_num, by omega, B3.out, T3.out, S3⟩
        case measure => simp [intOf]; omega
      · skip
        by_cases q1 : i < len
        · by_cases q2 : i < len'
          · have q3 : ¬ i < 12 := fun h => hlt ⟨q1, q2, h⟩
            obtain rfl : i = N := by omega
            clear hlt
            go_wp2_with fail
            go_meet
            case rel => exact ⟨g, HS.out, HT.out, HB.out⟩
          · obtain rfl : i = N := by omega
            clear hlt
            go_wp2_with fail
            go_meet
            case rel => exact ⟨g, HS.out, HT.out, HB.out⟩
        · obtain rfl : i = N := by omega
          clear hlt
          go_wp2_with fail
          go_meet
          case rel => exact ⟨g, HS.out, HT.out, HB.out⟩
  case rest =>
    obtain ⟨g, hs, ht, hb⟩ := hcut
    have HS := Lib.hid hs
    have HT := Lib.hid ht
    have HB := Lib.hid hb
    clear hs ht hb B2 T2
    have HV : Hid (VU g) := HS.out.1
    have HDone := Lib.hid (fun s hs => (nC_full g s hs).trans (sets_done HS.out.1 HS.out.2.1 (fun i => (HE.out i).2) (fun i => (HP.out i).2) s hs))
    go_wp2_with fail
    refine (tlines_any _ T g (HT.out.alloc _)).mono ?_
    rintro e w3 ⟨rfl, hm3, hb3⟩
    obtain ⟨M, hM⟩ : ∃ M, M = (wc.alloc (.map #[] 0)).heap.size := ⟨_, rfl⟩
    rw [← hM] at hm3
    rw [← hM]
    obtain ⟨Q, hQ⟩ : ∃ Q, Q = wc.heap.size := ⟨_, rfl⟩
    have C3 : Hid (CntIs w3 Q g 0) := by rw [hQ]; exact (CntIs.new wc g).kept (grown_below hb3) (by simp)
    have HQl : Hid (w.heap.size ≤ Q) := by rw [hQ]; exact HB.out.size
    have HMQ : Hid (¬ M = Q) := by rw [hM, hQ]; show ¬ (wc.alloc (.map #[] 0)).heap.size = wc.heap.size; simp
    have M3 := Lib.hid hm3
    have B3 := Lib.hid (bl_alloc HB.out hb3)
    rw [← hQ]
    clear hm3 hb3 hM hQ HT HB
    go_wp2_with fail
    go_loopw [56] (fun c W => ∃ k : Nat, k ≤ 8 ∧ c = .int .i64 k ∧ CntIs W Q g k ∧ NumsIs 32 W M (lnG g) ∧ Below w.heap.size w W) (fun c _ => (8 - intOf c).toNat)
    case atStart => exact ⟨0, by omega, rfl, C3.out, M3.out, B3.out⟩
    case round =>
      obtain ⟨k, hk, rfl, hc, hm, hb⟩ := hrel
      have HC := Lib.hid hc
      have HM := Lib.hid hm
      have HB := Lib.hid hb
      clear hc hm hb C3 M3 B3
      by_cases hlt : k < 8
      · skip
        have hx : (0 : Int) ≤ (k : Int) := by omega
        have hy : (k : Int) < 8 := by omega
        have c0 := HM.out.1 (k * 4) (by omega)
        have c1 := HM.out.1 (k * 4 + 1) (by omega)
        have c2 := HM.out.1 (k * 4 + 2) (by omega)
        have c3 := HM.out.1 (k * 4 + 3) (by omega)
        have o0 := lnG_off g k 0 (by omega)
        rw [Nat.add_zero, Nat.add_zero] at o0
        rw [o0] at c0
        rw [lnG_off g k 1 (by omega)] at c1
        rw [lnG_off g k 2 (by omega)] at c2
        rw [lnG_off g k 3 (by omega)] at c3
        clear o0
        by_cases hf : g (k * 5 + 4) = 0
        · rw [if_pos hf, if_pos rfl] at c0
          rw [if_pos hf, if_neg (by omega)] at c1 c2 c3
          have HF := Lib.hid hf
          clear hf
          go_wp2_with fail
          go_roundw
          case rel => exact ⟨k + 1, by omega, by go_num, (HC.out.more HF.out).kept (grown_below ((Below.refl _ _).alloc (Nat.le_refl _) _)) (by simp), HM.out.alloc _, HB.out.alloc HB.out.size _⟩
          case measure => simp [intOf]; omega
        · rw [if_neg hf] at c0 c1 c2 c3
          have hv := HV.out.1 k hlt hf
          obtain ⟨s, hs⟩ : ∃ s, s = k / 2 := ⟨_, rfl⟩
          have hs4 : s < 4 := by omega
          have v0 : 0 ≤ g (k * 5) := hv.1
          have v1 : 0 ≤ g (k * 5 + 1) := hv.2.2.1
          have v2 : g (k * 5 + 1) < 8 := hv.2.2.2.1
          have v3 : g (k * 5 + 1) % 4 = (s : Int) := by rw [hs]; exact hv.2.2.2.2
          have v4 : (g (k * 5 + 1)).tmod 4 = (s : Int) := by rw [Int.tmod_eq_emod_of_nonneg v1]; exact v3
          have v5 : (k : Int) / 2 = (s : Int) := by omega
          have v6 : (k : Int).tdiv 2 = (s : Int) := by rw [Int.tdiv_eq_ediv_of_nonneg hx]; exact v5
          have hle := nC_le g s k
          have HF := Lib.hid hf
          have HSK := Lib.hid hs
          obtain ⟨D, hown, hD, hat⟩ := HC.out
          have HO := Lib.hid (hown.alloc (.cells #[.int .i64 (g (k * 5)), .int .i64 (g (k * 5 + 1)), .int .i64 (g (k * 5 + 2)), .int .i64 (g (k * 5 + 3))] 44))
          have HQlt := Lib.hid hown.lt
          have HD := Lib.hid hD
          have HAt := Lib.hid hat
          clear hf hs hv hown hD hat
          go_wp2_with (first
            | (at_lookup; refine wpList_lookup_own_int _ rfl _ _ 45 rfl 3 3 .i64 ilaw Tryz.underlying45 Tryz.underlying3 (zeroInt _) Q k D rfl HO.out _ (.int .i64 (s : Int)) rfl (ikey s (by omega)) ?_; intro cc hcc hwc; have HC1 := Lib.hid (lit_eq (hcc.symm.trans (HAt.out s hs4))); have hc2 : 0 ≤ cc := (by have := HC1.out; omega); have hc3 : cc ≤ 8 := (by have := HC1.out; omega); have HW := Lib.hid (cnt_wf HC1.out (by omega)); clear hcc hwc)
            | (at_mapUpdate; refine wpList_mapUpdate_own _ rfl _ _ _ 45 rfl 3 3 ilaw Tryz.underlying45 (plainElem Tryz.prog 3) Q k D rfl HO.out (by unfold maxLen; omega) _ _ (.int .i64 (s : Int)) rfl rfl (ikey s (by omega)) _ [] (plainElem_int Tryz.underlying3 HW.out) ?_; intro w4 hown4 hgrow4; have HOwn4 := Lib.hid hown4; have HG4 := Lib.hid hgrow4; have l1 := (World.cell?_of_block (a := ⟨wr.heap.size, 1, none⟩) (hgrow4.block wr.heap.size (by simp) (fun e => by have h1 := HQlt.out; have h2 := Option.some.inj e; omega))).trans (bk_cell (heap_alloc_new wr _) 1); clear hown4 hgrow4))
          have hp := cnt_put HD.out HAt.out HF.out HSK.out.symm hs4
          rw [← HC1.out] at hp
          have C4 : Hid (CntIs w4 Q g (k + 1)) := ⟨_, HOwn4.out, hp⟩
          have M4 := Lib.hid ((HM.out.alloc _).only HG4.out HMQ.out)
          have B4 := Lib.hid (tp_bl (HB.out.alloc HB.out.size _) HQl.out HG4.out)
          clear hp
          go_roundw
          case rel => exact ⟨k + 1, by omega, by go_num, C4.out, M4.out, B4.out⟩
          case measure => simp [intOf]; omega
      · obtain rfl : k = 8 := by omega
        clear hlt hk
        go_wp2_with fail
        go_loopw [11] (fun c W => ∃ s : Nat, s ≤ 4 ∧ c = .int .i64 s ∧ CntIs W Q g 8 ∧ Below w.heap.size w W) (fun c _ => (4 - intOf c).toNat)
        case atStart => exact ⟨0, by omega, rfl, HC.out, HB.out⟩
        case round =>
          obtain ⟨s, hs, rfl, hc, hb⟩ := hrel
          replace HC := Lib.hid hc
          replace HB := Lib.hid hb
          clear hc hb HM
          by_cases hs4 : s < 4
          · have hs0 : (0 : Int) ≤ (s : Int) := by omega
            go_upto_block 6 with (fail)
            obtain ⟨w5, hw5⟩ : ∃ w5, w5 = wr.alloc (.map #[] 0) := ⟨_, rfl⟩
            obtain ⟨X, hX⟩ : ∃ X, X = wr.heap.size := ⟨_, rfl⟩
            have W5 : Hid (WantIs w5 X E P s 0) := by rw [hw5, hX]; exact WantIs.new wr E P s
            have C5 : Hid (CntIs w5 Q g 8) := by rw [hw5]; exact HC.out.kept (grown_below ((Below.refl _ _).alloc (Nat.le_refl _) _)) (by simp)
            have B5 : Hid (Below w.heap.size w w5) := by rw [hw5]; exact HB.out.alloc HB.out.size _
            have HXl : Hid (w.heap.size ≤ X) := by rw [hX]; exact HB.out.size
            have HQX : Hid (¬ Q = X) := by rw [hX]; obtain ⟨D, h1, _⟩ := HC.out; have := h1.lt; show ¬ Q = wr.heap.size; omega
            rw [← hw5, ← hX]
            clear hw5 hX HC HB
            go_cut [13, 14] (fun _ _ W => WantIs W X E P s N ∧ CntIs W Q g 8 ∧ Below w.heap.size w W)
            case first =>
              go_wp2_with fail
              go_loopw [13, 14] (fun iv _ W => ∃ i : Nat, iv = .int .i64 i ∧ i ≤ N ∧ WantIs W X E P s i ∧ CntIs W Q g 8 ∧ Below w.heap.size w W) (fun iv _ _ => (12 - intOf iv).toNat)
              case atStart => exact ⟨0, rfl, by omega, W5.out, C5.out, B5.out⟩
              case round =>
                obtain ⟨i, rfl, hi, hw, hc, hb⟩ := hrel
                have HW := Lib.hid hw
                have HC := Lib.hid hc
                have HB := Lib.hid hb
                clear hw hc hb W5 C5 B5
                by_cases hlt : i < len ∧ i < len' ∧ i < 12
                · obtain ⟨q1, q2, q3⟩ := hlt
                  obtain rfl := HA.out (by omega)
                  obtain rfl := HBo.out (by omega)
                  have z0 := HZ.out _ HB.out i q1
                  have z1 := HZ'.out _ HB.out i q2
                  have hidx : (0 : Int) ≤ (i : Int) := by omega
                  have e1 : (wrap64 ((z i).tmod 4 + 4)).tmod 4 = (E i : Int) := (HE.out i).1
                  have p1 : (wrap64 ((z' i).tmod 8 + 8)).tmod 8 = (P i : Int) := (HP.out i).1
                  have hp0 : (0 : Int) ≤ (P i : Int) := by omega
                  by_cases hq : P i % 4 = s
                  · have r1 : ((P i : Nat) : Int) % 4 = (s : Int) := by omega
                    have r2 : ((P i : Nat) : Int).tmod 4 = (s : Int) := by rw [Int.tmod_eq_emod_of_nonneg hp0]; exact r1
                    obtain ⟨D, hown, hT, hsz, hhas⟩ := HW.out
                    have HO := Lib.hid hown
                    have HQ := Lib.hid hq
                    have HPut := Lib.hid (fun d ht => want_put hT hsz hhas hq (HE.out i).2 (HP.out i).2 d ht)
                    clear hown hT hsz hhas hq
                    go_wp2_with (at_mapUpdate; refine wpList_mapUpdate_own _ rfl _ _ _ 48 rfl 49 4 plaw Tryz.underlying48 (plainElem Tryz.prog 4) X i D rfl HO.out (by unfold maxLen; omega) _ _ (klit (E i) (P i)) rfl rfl (klit_some (HE.out i).2 (HP.out i).2) _ [] (plainElem_bool Tryz.underlying4 true) ?_; intro w6 hown6 hgrow6)
                    have W6 : Hid (WantIs w6 X E P s (i + 1)) := ⟨_, hown6, HPut.out _ (hown6.tidy plaw)⟩
                    have C6 := Lib.hid (HC.out.kept hgrow6 (fun e => HQX.out (by injection e)))
                    have B6 := Lib.hid (tp_bl HB.out HXl.out hgrow6)
                    clear hown6 hgrow6 z0 z1 e1 p1 r1 r2
                    go_wp2_with fail
                    go_roundw
                    case rel => exact ⟨i + 1, by go_num, by omega, W6.out, C6.out, B6.out⟩
                    case measure => simp [intOf]; omega
                  · obtain ⟨q, hqe⟩ : ∃ q : Nat, q = P i % 4 := ⟨_, rfl⟩
                    have r1 : ((P i : Nat) : Int) % 4 = (q : Int) := by omega
                    have r2 : ((P i : Nat) : Int).tmod 4 = (q : Int) := by rw [Int.tmod_eq_emod_of_nonneg hp0]; exact r1
                    have r3 : ((q : Int) == (s : Int)) = false := by simp; omega
                    have HQ := Lib.hid hq
                    clear hq hqe
                    go_wp2_with fail
                    go_roundw
                    case rel => exact ⟨i + 1, by go_num, by omega, HW.out.more HQ.out, HC.out, HB.out⟩
                    case measure => simp [intOf]; omega
                · skip
                  by_cases q1 : i < len
                  · by_cases q2 : i < len'
                    · have q3 : ¬ i < 12 := fun h => hlt ⟨q1, q2, h⟩
                      obtain rfl : i = N := by omega
                      clear hlt
                      go_wp2_with fail
                      go_meet
                      case rel => exact ⟨HW.out, HC.out, HB.out⟩
                    · obtain rfl : i = N := by omega
                      clear hlt
                      go_wp2_with fail
                      go_meet
                      case rel => exact ⟨HW.out, HC.out, HB.out⟩
                  · obtain rfl : i = N := by omega
                    clear hlt
                    go_wp2_with fail
                    go_meet
                    case rel => exact ⟨HW.out, HC.out, HB.out⟩
            case rest =>
              obtain ⟨hw, hc, hb⟩ := hcut
              have HB := Lib.hid hb
              have HC := Lib.hid hc
              obtain ⟨D, hown, _, hsz, _⟩ := hw
              obtain ⟨D', hown', _, hat'⟩ := hc
              have HO := Lib.hid hown
              have HO' := Lib.hid hown'
              have HAt := Lib.hid (hat' s hs4)
              have HSz := Lib.hid hsz
              have hdone := HDone.out s hs4
              have hu := unlike_le E P s N
              obtain ⟨u, hue⟩ : ∃ u, u = unlike E P s N := ⟨_, rfl⟩
              have HUE := Lib.hid hue
              rw [← hue] at hdone hu
              obtain ⟨nn, hnn⟩ : ∃ nn, nn = nC g s 8 := ⟨_, rfl⟩
              rw [← hnn] at hdone
              have HNN := Lib.hid hnn
              clear hown hown' hat' hsz hue hnn hb W5 C5 B5
              by_cases hu2 : u < 2
              · obtain rfl : nn = u := by omega
                have hmin : min (nn : Int) 2 = (nn : Int) := by omega
                have hui : ¬ (2 : Int) < (nn : Int) := by omega
                clear hdone
                have hln : (Builtin.len_ #[48] 3 #[.map (some X)]).run Tryz.prog wc = .ok (.int .i64 (nn : Int)) wc := by
                  have h := HO.out.len Tryz.underlying48 3
                  rw [HSz.out, ← HUE.out] at h
                  exact h
                go_wp2_with (at_lookup; refine wpList_lookup_own_int _ rfl _ _ 45 rfl 3 3 .i64 ilaw Tryz.underlying45 Tryz.underlying3 (zeroInt _) Q 8 D' rfl HO'.out _ (.int .i64 (s : Int)) rfl (ikey s (by omega)) ?_; intro cc hcc hwc; have hc1 : cc = ((nn : Nat) : Int) := (lit_eq (hcc.symm.trans HAt.out)).trans (by rw [← HNN.out]); clear hcc hwc; subst hc1)
                go_roundw
                case rel => first | exact ⟨s + 1, by omega, by go_num, HC.out, HB.out⟩ | ((repeat apply Exists.intro); exact ⟨⟨s + 1, by omega, by go_num, HC.out, HB.out⟩, rfl⟩)
                case measure => simp [intOf]; omega
              · obtain rfl : nn = 2 := by omega
                have hmin : min (u : Int) 2 = 2 := by omega
                have hui : (2 : Int) ≤ (u : Int) := by omega
                clear hdone
                have hln : (Builtin.len_ #[48] 3 #[.map (some X)]).run Tryz.prog wc = .ok (.int .i64 (u : Int)) wc := by
                  have h := HO.out.len Tryz.underlying48 3
                  rw [HSz.out, ← HUE.out] at h
                  exact h
                go_wp2_with (at_lookup; refine wpList_lookup_own_int _ rfl _ _ 45 rfl 3 3 .i64 ilaw Tryz.underlying45 Tryz.underlying3 (zeroInt _) Q 8 D' rfl HO'.out _ (.int .i64 (s : Int)) rfl (ikey s (by omega)) ?_; intro cc hcc hwc; have hc1 : cc = 2 := (lit_eq (hcc.symm.trans HAt.out)).trans (by rw [← HNN.out]; rfl); clear hcc hwc; subst hc1)
                go_roundw
                case rel => first | exact ⟨s + 1, by omega, by go_num, HC.out, HB.out⟩ | ((repeat apply Exists.intro); exact ⟨⟨s + 1, by omega, by go_num, HC.out, HB.out⟩, rfl⟩)
                case measure => simp [intOf]; omega
          · obtain rfl : s = 4 := by omega
            go_wp2_with fail
            go_ret
            exact ⟨rfl, HB.out⟩
theorem tsets_any {v v' : Value} {W : World} (hs : IntsAt W v) (hs' : IntsAt W v') (hbeg : ∀ V, Below W.heap.size W V → BegunAt V) :
    Calls Tryz.prog 6 #[v, v'] W fun e w' => e = .returned (.bool true) ∧ Below W.heap.size W w' := by
  have no : ∀ {p : Prop} {n : Nat}, n < 0 → p := fun h => absurd h (Nat.not_lt_zero _)
  rcases hs with rfl | ⟨a, len, cap, zs, rfl, hlc, hcm, hzl, hz⟩ <;> rcases hs' with rfl | ⟨b, len', cap', zs', rfl, hlc', hcm', hzl', hz'⟩
  · exact tsets_gen none none ⟨0, 0, none⟩ ⟨0, 0, none⟩ 0 0 0 0 (by omega) (by omega) (fun _ => 0) (fun _ => 0) W (fun h => no h) (fun h => no h) (fun i h => no h) (fun i h => no h) hbeg
  · exact tsets_gen none (some b) ⟨0, 0, none⟩ b 0 0 len' cap' (by omega) (by unfold maxLen at hcm'; omega) (fun _ => 0) (fun i => zs'.getD i 0) W (fun h => no h) (fun _ => rfl) (fun i h => no h) hz' hbeg
  · exact tsets_gen (some a) none a ⟨0, 0, none⟩ len cap 0 0 (by unfold maxLen at hcm; omega) (by omega) (fun i => zs.getD i 0) (fun _ => 0) W (fun _ => rfl) (fun h => no h) hz (fun i h => no h) hbeg
  · exact tsets_gen (some a) (some b) a b len cap len' cap' (by unfold maxLen at hcm; omega) (by unfold maxLen at hcm'; omega) (fun i => zs.getD i 0) (fun i => zs'.getD i 0) W (fun _ => rfl) (fun _ => rfl) hz hz' hbeg
end Go.Proofs.YtfpnpgpelncgeabGreatDoor
