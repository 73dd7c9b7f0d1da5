/- What is proved here: the walk of the statement TrapAll: for all n and other, all slices of ints and all words it answers true and leaves the memory that was there as it was. Conditions: the library's variable errors.errorType holds the type error; the slice reads as the given ints. -/
import Derived.Test.YtnmlmhhohemffaaDoorEnvs
import Derived.Deep.RegionWith
import Derived.Deep.RegionHeld3
import Derived.Deep.QuietTactic
import Derived.BigQuiet
import Derived.LoopTactic
import Derived.Deep.DeepCutAuto
import Derived.IntWalk
namespace Go.Proofs.YtnmlmhhohemffaaDoor
open Go.RowKit Go.Extern.Stop Go.Stop Go.Extern

/-- What k + 1 such traps say, as the statement puts it together. -/
def allText (c : Nat) : Nat → List UInt8
  | 0 => trapText c
  | k + 1 => trapText c ++ [58, 32] ++ allText c k
theorem rep_comm (c : Nat) : ∀ k, trapText c ++ [58, 32] ++ repText c k = repText c k ++ (trapText c ++ [58, 32])
  | 0 => by simp [repText]
  | k + 1 => by
    show trapText c ++ [58, 32] ++ (repText c k ++ (trapText c ++ [58, 32])) = _
    rw [← List.append_assoc, rep_comm c k]; rfl
theorem allText_rep (c : Nat) : ∀ k, allText c k = repText c k ++ trapText c
  | 0 => rfl
  | k + 1 => by
    show trapText c ++ [58, 32] ++ allText c k = _
    rw [allText_rep c k, ← List.append_assoc, rep_comm]; simp [repText]
theorem allText_length (c : Nat) (h : (Lib.decDigits c).length ≤ 2) : ∀ k, (allText c k).length ≤ 7 + 9 * k
  | 0 => by simp [allText, trapText]; omega
  | k + 1 => by have := allText_length c h k; simp [allText, trapText]; omega
theorem allText_add (c k : Nat) : ByteArray.mk #[116, 114, 97, 112, 32] ++ ByteArray.mk (Lib.decDigits c).toArray ++ ByteArray.mk #[58, 32] ++ ByteArray.mk (allText c k).toArray = ByteArray.mk (allText c (k + 1)).toArray := by
  apply ByteArray.ext
  simp [ByteArray.data_append, allText, trapText]

/-- The head of the loop: k traps are wrapped, the text is told. -/
def AllUp (w : World) (c K : Nat) (zs : List Int) (e tx ix : Value) (wr : World) : Prop :=
  ∃ k b, k ≤ K ∧ ix = .int .i64 k ∧ e = ptrErr b ∧ tx = .string ⟨(allText c k).toArray⟩ ∧ EC wr c (zs.take k).reverse wr.heap.size (ptrErr b) ∧ Below w.heap.size w wr

theorem EC.up {w : World} {c : Nat} {l : List Int} {B D : Nat} {v : Value} (h : EC w c l B v) (hB : B ≤ D) : EC w c l D v := by
  cases l with
  | nil => obtain ⟨o, e, hlt, hat⟩ := h; exact ⟨o, e, by omega, hat⟩
  | cons en r => obtain ⟨b, k0, k1, k2, k3, k4, v1, e, hlt, ht, hr⟩ := h; exact ⟨b, k0, k1, k2, k3, k4, v1, e, by omega, ht, hr⟩

set_option maxRecDepth 100000 in
set_option maxHeartbeats 12000000 in
theorem all_walk (n m x0 x1 x2 x3 x4 : Int) (a : Addr) (len cap K : Nat) (zs : List Int) (w : World) (hg : Held w) (hK : K = min len 10) (hlc : len ≤ cap) (hzl : len ≤ zs.length)
    (hz : ∀ i, i < len → w.cell? (a.add i) = some (.int .i64 (zs.getD i 0))) :
    Calls Tryd.prog 3 #[.int .i64 n, .int .i64 m, .slice (some a) len cap, .agg #[.int .u64 x0, .int .u64 x1, .int .u64 x2, .int .u64 x3, .int .u64 x4]] w fun e w' => e = .returned (.bool true) ∧ Below w.heap.size w w' := by
  obtain ⟨c, hc1, hc2, hcn⟩ := code_c n
  have HCn := Lib.hid hcn
  have hcz : (((c : Nat) : Int) == 0) = false := beq_eq_false_iff_ne.2 (by omega)
  have HCz := Lib.hid hcz
  have HN := Lib.hid (number_any c ⟨hc1, hc2⟩)
  have hl := decDigits_length c (by omega)
  have HG : Hid (∀ W, Below w.heap.size w W → Held W) := fun W hW => hg.below hW hg.pos
  have HB0 := Lib.hid ((Below.refl w.heap.size w).alloc (Nat.le_refl _) (.cells #[.int .u64 x0, .int .u64 x1, .int .u64 x2, .int .u64 x3, .int .u64 x4] 25))
  have HBg := Lib.hid (begun_any _ (HG.out _ HB0.out))
  have HX : Hid (∀ W, Below (w.heap.size + 1) (w.alloc (.cells #[.int .u64 x0, .int .u64 x1, .int .u64 x2, .int .u64 x3, .int .u64 x4] 25)) W → ∀ i, W.cell? ⟨w.heap.size, i, none⟩ = #[.int .u64 x0, .int .u64 x1, .int .u64 x2, .int .u64 x3, .int .u64 x4][i]?) := fun W hW i => by
    have h : (w.alloc (.cells #[.int .u64 x0, .int .u64 x1, .int .u64 x2, .int .u64 x3, .int .u64 x4] 25)).heap.size = w.heap.size + 1 := by simp
    rw [← h] at hW
    exact box_cells hW i
  have HZ : Hid (∀ i, i < len → ∀ W, Below w.heap.size w W → W.cell? (a.add i) = some (.int .i64 (zs.getD i 0))) := fun i hi W hW => (hW.cell (lt_of_cell (hz i hi))).trans (hz i hi)
  have HK := Lib.hid hK
  have hKl : K ≤ len := by omega
  have hK10 : K ≤ 10 := by omega
  have HKz : Hid (K ≤ zs.length) := by show K ≤ zs.length; omega
  clear hcn hcz hg hz hK
  go_enter Tryd.func3, Tryd.ntmps3
  go_wp2_with fail
  refine HBg.out.mono ?_
  rintro e w1 ⟨rfl, hb1⟩
  have hs1 : (w.alloc (.cells #[.int .u64 x0, .int .u64 x1, .int .u64 x2, .int .u64 x3, .int .u64 x4] 25)).heap.size = w.heap.size + 1 := by simp
  rw [hs1] at hb1
  have Hb1 := Lib.hid hb1
  have HB1 : Hid (Below w.heap.size w w1) := HB0.out.trans (hb1.mono (by omega))
  clear hb1 hs1
  go_wp2_with (go_at_call 12; refine (HCn.out _).mono ?_; rintro e w' ⟨rfl, rfl⟩)
  refine (of_post c HCz.out w1).mono ?_
  rintro e w2 ⟨o, rfl, ho, hat, hs2, hb2⟩
  have HO := Lib.hid hat
  have Hs2 := Lib.hid hs2
  have hw1 : w.heap.size + 1 ≤ w1.heap.size := by have := Hb1.out.size; simpa using this
  have Hb2 := Lib.hid (Hb1.out.trans (hb2.mono hw1))
  have HB2 : Hid (Below w.heap.size w w2) := HB1.out.trans (hb2.mono HB1.out.size)
  have ho2 : o < w2.heap.size := by rw [hs2]; omega
  clear ho hat hs2 hb2
  go_wp2_with fail
  refine (HN.out w2).mono ?_
  rintro e w3 ⟨rfl, hb3⟩
  have HO3 : Hid (OfAt w3 o c) := HO.out.later hb3 ho2
  have ho3 : o < w3.heap.size := Nat.lt_of_lt_of_le ho2 hb3.size
  have Hb3 : Hid (Below (w.heap.size + 1) (w.alloc (.cells #[.int .u64 x0, .int .u64 x1, .int .u64 x2, .int .u64 x3, .int .u64 x4] 25)) w3) := Hb2.out.trans (hb3.mono (by have := Hb2.out.size; simpa using this))
  have HB3 : Hid (Below w.heap.size w w3) := HB2.out.trans (hb3.mono HB2.out.size)
  clear hb3
  go_wp2_with fail
  have e3 : min (len : Int) 10 = (K : Int) := by have := HK.out; omega
  have e4 : max (K : Int) 0 = K := by omega
  simp only [e3, e4, Int.toNat_natCast]
  clear e3 e4
  go_loopw [11, 12, 34] (fun e tx ix wr => AllUp w c K zs e tx ix wr ∧ Below (w.heap.size + 1) (w.alloc (.cells #[.int .u64 x0, .int .u64 x1, .int .u64 x2, .int .u64 x3, .int .u64 x4] 25)) wr) (fun _ _ ix _ => K - (intOf ix).toNat)
  case atStart => exact ⟨⟨0, o, Nat.zero_le _, rfl, rfl, congrArg Value.string (trapText_add c), ⟨o, rfl, ho3, HO3.out⟩, HB3.out⟩, Hb3.out⟩
  case round =>
    obtain ⟨⟨k, b, hk, rfl, rfl, rfl, hec, hbl⟩, hxb⟩ := hrel
    have HE := Lib.hid hec
    have HBl := Lib.hid hbl
    have HXb := Lib.hid hxb
    clear hec hbl hxb
    have hT : (allText c k).length ≤ 97 := by have := allText_length c hl k; omega
    by_cases hlt : k < K
    · have l0 := HX.out _ HXb.out 0
      have l1 := HX.out _ HXb.out 1
      have l2 := HX.out _ HXb.out 2
      have l3 := HX.out _ HXb.out 3
      have l4 := HX.out _ HXb.out 4
      have hz := HZ.out k (by omega) _ HBl.out
      have hidx : (0 : Int) ≤ (k : Int) := by omega
      go_wp2_with fail
      obtain ⟨y, hy⟩ : ∃ y, y = IntKind.u64.wrap (x0 + (k : Int)) := ⟨_, rfl⟩
      simp only [← hy]
      clear hy
      have hsz : (wr.alloc (.cells #[.int .u64 y, .int .u64 x1, .int .u64 x2, .int .u64 x3, .int .u64 x4] 25)).heap.size = wr.heap.size + 1 := by simp
      have hbd := (Below.refl wr.heap.size wr).alloc (Nat.le_refl _) (.cells #[.int .u64 y, .int .u64 x1, .int .u64 x2, .int .u64 x3, .int .u64 x4] 25)
      have hcd := fun (W : World) (hW : Below (wr.alloc (.cells #[.int .u64 y, .int .u64 x1, .int .u64 x2, .int .u64 x3, .int .u64 x4] 25)).heap.size (wr.alloc (.cells #[.int .u64 y, .int .u64 x1, .int .u64 x2, .int .u64 x3, .int .u64 x4] 25)) W) (i : Nat) => box_cells hW i
      generalize hwd : wr.alloc (.cells #[.int .u64 y, .int .u64 x1, .int .u64 x2, .int .u64 x3, .int .u64 x4] 25) = wd at hsz hbd hcd ⊢
      clear hwd l0 l1 l2 l3 l4 hz
      have HCd := Lib.hid hcd
      have Hbd := Lib.hid hbd
      have Hsz := Lib.hid hsz
      have HBd : Hid (∀ W, Below wd.heap.size wd W → Below wr.heap.size wr W) := fun W hW => hbd.trans (hW.mono hbd.size)
      have HBw : Hid (∀ W, Below wd.heap.size wd W → Below w.heap.size w W) := fun W hW => HBl.out.trans ((HBd.out W hW).mono HBl.out.size)
      have HXd : Hid (∀ W, Below wd.heap.size wd W → Below (w.heap.size + 1) (w.alloc (.cells #[.int .u64 x0, .int .u64 x1, .int .u64 x2, .int .u64 x3, .int .u64 x4] 25)) W) := fun W hW => HXb.out.trans ((HBd.out W hW).mono (by have := HXb.out.size; simpa using this))
      have HEd := Lib.hid (HE.out.later (hbd.trans (((Below.refl wd.heap.size wd).drew).mono hbd.size)) (Nat.le_refl _))
      have d0 := hcd _ (Below.refl _ _) 0
      have d1 := hcd _ (Below.refl _ _) 1
      have d2 := hcd _ (Below.refl _ _) 2
      have d3 := hcd _ (Below.refl _ _) 3
      have d4 := hcd _ (Below.refl _ _) 4
      have hz := HZ.out k (by omega) _ (HBw.out _ (Below.refl _ _))
      clear hcd hbd hsz
      go_cut [11] (fun e W => ∃ b3, e = ptrErr b3 ∧ EC W c (zs.take (k + 1)).reverse W.heap.size (ptrErr b3) ∧ TrapAt W b3 c (zs.getD k 0) (.int .u64 y) (.int .u64 x1) (.int .u64 x2) (.int .u64 x3) (.int .u64 x4) (ptrErr b) ∧ Below wd.heap.size wd W)
      case first =>
        go_region_with (go_at_call 15; refine (in_envs (w := wd.drew) (HG.out _ (HBw.out _ ((Below.refl _ _).drew))) HEd.out (by show wr.heap.size ≤ wd.heap.size; have := Hsz.out; omega) (zs.getD k 0) y x1 x2 x3 x4).mono ?_; rintro e w4 ⟨b3, rfl, hec, htr, hb4⟩; have HE4 := Lib.hid hec; have HT4 := Lib.hid htr; have Hb4 : Hid (Below wd.heap.size wd w4) := ((Below.refl wd.heap.size wd).drew).trans hb4; clear hec htr hb4)
        all_goals
          go_wp2_with fail
          go_meet
          case rel => exact ⟨_, rfl, by rw [take_rev zs k (by have := HKz.out; omega)]; exact HE4.out, HT4.out, Hb4.out⟩
      case rest =>
        obtain ⟨b3, rfl, hec, htr, hb4⟩ := hcut
        obtain ⟨we, rfl⟩ : ∃ we, we = wc := ⟨_, rfl⟩
        have HE4 : Hid (∀ W, Below we.heap.size we W → EC W c (zs.take (k + 1)).reverse W.heap.size (ptrErr b3)) := fun W hW => by
          have h := hec.later hW (Nat.le_refl _)
          exact h.up hW.size
        have HT4 : Hid (∀ W, Below we.heap.size we W → TrapAt W b3 c (zs.getD k 0) (.int .u64 y) (.int .u64 x1) (.int .u64 x2) (.int .u64 x3) (.int .u64 x4) (ptrErr b)) := fun W hW => htr.later hW (lt_of_block htr)
        have Hb4 : Hid (∀ W, Below we.heap.size we W → Below wd.heap.size wd W) := fun W hW => hb4.trans (hW.mono hb4.size)
        have hnc := neq_call y x1 x2 x3 x4
        clear hec htr hb4 d0 d1 d2 d3 d4 hz
        go_wp2_with fail
        refine (HN.out we).mono ?_
        rintro e w5 ⟨rfl, hb5⟩
        have HB5 := Lib.hid hb5
        clear hb5
        go_wp2_with fail
        refine (chain_first (HG.out _ (HBw.out _ (Hb4.out _ HB5.out))) b3).mono ?_
        rintro e w6 ⟨rfl, hb6⟩
        have HB6 : Hid (Below we.heap.size we w6) := HB5.out.trans (hb6.mono HB5.out.size)
        have q0 := cell_of_block (HT4.out _ HB6.out) 0
        have q1 := cell_of_block (HT4.out _ HB6.out) 1
        have q2 := cell_of_block (HT4.out _ HB6.out) 2
        have q3 := cell_of_block (HT4.out _ HB6.out) 3
        have q4 := cell_of_block (HT4.out _ HB6.out) 4
        have q5 := cell_of_block (HT4.out _ HB6.out) 5
        have q6 := cell_of_block (HT4.out _ HB6.out) 6
        have d0 := HCd.out _ (Hb4.out _ HB6.out) 0
        have d1 := HCd.out _ (Hb4.out _ HB6.out) 1
        have d2 := HCd.out _ (Hb4.out _ HB6.out) 2
        have d3 := HCd.out _ (Hb4.out _ HB6.out) 3
        have d4 := HCd.out _ (Hb4.out _ HB6.out) 4
        have hz := HZ.out k (by omega) _ (HBw.out _ (Hb4.out _ HB6.out))
        have hidx1 : (k : Int) < (K : Int) := by omega
        clear hb6
        go_wp2_with fail
        go_quiet (fail)
        go_wp2_with fail
        go_roundw
        case rel =>
          have hB7 : Below we.heap.size we (w6.drewN nq) := HB6.out.trans (below_drewN _ _ _)
          exact ⟨⟨k + 1, b3, by omega, by go_num, rfl, congrArg Value.string (allText_add c k), HE4.out _ hB7, HBw.out _ (Hb4.out _ hB7)⟩, HXd.out _ (Hb4.out _ hB7)⟩
        case measure => simp [intOf]; omega
    · obtain rfl : K = k := by omega
      obtain ⟨wq, rfl⟩ : ∃ wq, wq = wr := ⟨_, rfl⟩
      have HQ : Hid (∀ W, Below wq.heap.size wq W → Below w.heap.size w W) := fun W hW => HBl.out.trans (hW.mono HBl.out.size)
      have HC : Hid (∀ W, Below wq.heap.size wq W → Chain W c .nilIface (K + 1) wq.heap.size (ptrErr b)) := fun W hW => by
        have h2 := (HE.out.later hW (Nat.le_refl _)).chain
        rw [List.length_reverse, List.length_take, Nat.min_eq_left HKz.out] at h2
        exact h2
      have hbq : b < wq.heap.size := by
        obtain ⟨b', e, hlt⟩ := HE.out.ptr
        injection e with _ e; injection e with e; injection e with e; injection e with e
        omega
      obtain ⟨d, hd1, hd2, hcm⟩ := code_c m
      have HCm := Lib.hid hcm
      have hdz : (((d : Nat) : Int) == 0) = false := beq_eq_false_iff_ne.2 (by omega)
      have HDz := Lib.hid hdz
      have mE := Tryd.methodErrorP
      have hn := fun W => run_neq_held_nil (P := Tryd.prog) W 30 34 (.pointer (some ⟨b, 0, none⟩)) (by kernel_rfl)
      have hwr : IntKind.i64.wrap ((K : Int) + 1) = (K : Int) + 1 := IntWalk.i64_in _ (by omega)
      have hq : (((d : Nat) : Int) == ((c : Nat) : Int)) = decide (c = d) := by
        rw [Bool.eq_iff_iff, beq_iff_eq, decide_eq_true_iff]; omega
      have HCo : Hid (∀ W, Below wq.heap.size wq W → Calls Tryd.prog 17 #[ptrErr b] W fun e w' => e = .returned (.int .i64 c) ∧ Below wq.heap.size wq w') := fun W hW => by
        refine (chain_code (HG.out _ (HQ.out W hW)) (HC.out W hW)).mono ?_
        rintro e w' ⟨rfl, hb⟩
        exact ⟨rfl, hW.trans (hb.mono hW.size)⟩
      have HD : Hid (∀ W, Below wq.heap.size wq W → Calls Tryd.prog 18 #[ptrErr b] W fun e w' => e = .returned (.int .i64 ((K : Int) + 1)) ∧ Below wq.heap.size wq w') := fun W hW => by
        have h := chain_depth (HG.out _ (HQ.out _ hW)) (HC.out _ hW) hW.size (fun W _ => asMiss_nil W)
        have e2 : ((K + 1 : Nat) : Int) = (K : Int) + 1 := by omega
        rw [e2] at h
        refine h.mono ?_
        rintro e w' ⟨rfl, hb⟩
        exact ⟨rfl, hW.trans (hb.mono hW.size)⟩
      have HEr : Hid (∀ W, Below wq.heap.size wq W → Calls Tryd.prog 24 #[.pointer (some ⟨b, 0, none⟩)] W fun e w' => e = .returned (.string ⟨(allText c K).toArray⟩) ∧ Below wq.heap.size wq w') := fun W hW => by
        have h := chain_error (c := c) (HG.out _ (HQ.out W hW)) (HC.out W hW) hW.size (by omega) (by omega)
        rw [← allText_rep] at h
        refine h.mono ?_
        rintro e w' ⟨rfl, hb⟩
        exact ⟨rfl, hW.trans (hb.mono hW.size)⟩
      have HIs : Hid (∀ W (t d : Nat), Below wq.heap.size wq W → wq.heap.size ≤ t → OfAt W t d → (((d : Nat) : Int) == ((c : Nat) : Int)) = decide (c = d) → Calls Tryd.prog 19 #[ptrErr b, ptrErr t] W fun e w' => e = .returned (.bool (decide (c = d))) ∧ Below wq.heap.size wq w') := fun W t d hW ht hat hq => by
        have h := chain_is (HG.out _ (HQ.out W hW)) (HC.out W hW) hat ht
        rw [hq] at h
        refine h.mono ?_
        rintro e w' ⟨rfl, hb⟩
        exact ⟨rfl, hW.trans (hb.mono hW.size)⟩
      have HIsD := Lib.hid (fun W t hW ht hat => HIs.out W t d hW ht hat hq)
      have HIsC : Hid (∀ W (t : Nat), Below wq.heap.size wq W → wq.heap.size ≤ t → OfAt W t c → Calls Tryd.prog 19 #[ptrErr b, ptrErr t] W fun e w' => e = .returned (.bool true) ∧ Below wq.heap.size wq w') := fun W t hW ht hat => by
        have h := HIs.out W t c hW ht hat (by rw [beq_self_eq_true]; simp)
        rw [decide_eq_true rfl] at h
        exact h
      clear hcm hdz
      generalize decide (c = d) = q at *
      go_wp2_with fail
      refine (HCo.out _ (Below.refl _ _)).mono ?_
      rintro e w4 ⟨rfl, hb4⟩
      have HB4 := Lib.hid hb4
      clear hb4
      go_wp2_with fail
      refine (HD.out _ HB4.out).mono ?_
      rintro e w5 ⟨rfl, hb5⟩
      have HB5 := Lib.hid hb5
      clear hb5
      go_wp2_with fail
      refine (HEr.out _ HB5.out).mono ?_
      rintro e w6 ⟨rfl, hb6⟩
      have HB6 := Lib.hid hb6
      clear hb6
      go_wp2_with fail
      refine (of_post c HCz.out w6).mono ?_
      rintro e w7 ⟨t, rfl, ht, hat, hs7, hb7⟩
      have HT7 := Lib.hid hat
      have HB7 : Hid (Below wq.heap.size wq w7) := HB6.out.trans (hb7.mono HB6.out.size)
      have htq : wq.heap.size ≤ t := by have := HB6.out.size; omega
      clear ht hat hs7 hb7
      go_wp2_with fail
      refine (HIsC.out _ _ HB7.out htq HT7.out).mono ?_
      rintro e w8 ⟨rfl, hb8⟩
      have HB8 := Lib.hid hb8
      clear hb8
      go_wp2_with (go_at_call 12; refine (HCm.out _).mono ?_; rintro e w' ⟨rfl, rfl⟩)
      refine (of_post d HDz.out w8).mono ?_
      rintro e w9 ⟨t2, rfl, ht, hat, hs9, hb9⟩
      have HT9 := Lib.hid hat
      have HB9 : Hid (Below wq.heap.size wq w9) := HB8.out.trans (hb9.mono HB8.out.size)
      have htq2 : wq.heap.size ≤ t2 := by have := HB8.out.size; omega
      clear ht hat hs9 hb9
      go_wp2_with fail
      refine (HIsD.out _ _ HB9.out htq2 HT9.out).mono ?_
      rintro e w10 ⟨rfl, hb10⟩
      have HB10 := Lib.hid hb10
      clear hb10
      go_wp2_with (go_at_call 12; refine (HCm.out _).mono ?_; rintro e w' ⟨rfl, rfl⟩)
      go_ret
      exact ⟨rfl, HQ.out _ HB10.out⟩

set_option maxRecDepth 100000 in
set_option maxHeartbeats 12000000 in
/-- The same at the slice nil: no round of the loop. -/
theorem all_none (n m x0 x1 x2 x3 x4 : Int) (w : World) (hg : Held w) :
    Calls Tryd.prog 3 #[.int .i64 n, .int .i64 m, .slice none 0 0, .agg #[.int .u64 x0, .int .u64 x1, .int .u64 x2, .int .u64 x3, .int .u64 x4]] w fun e w' => e = .returned (.bool true) ∧ Below w.heap.size w w' := by
  obtain ⟨c, hc1, hc2, hcn⟩ := code_c n
  have HCn := Lib.hid hcn
  have hcz : (((c : Nat) : Int) == 0) = false := beq_eq_false_iff_ne.2 (by omega)
  have HCz := Lib.hid hcz
  have HN := Lib.hid (number_any c ⟨hc1, hc2⟩)
  have hl := decDigits_length c (by omega)
  have HG : Hid (∀ W, Below w.heap.size w W → Held W) := fun W hW => hg.below hW hg.pos
  have HB0 := Lib.hid ((Below.refl w.heap.size w).alloc (Nat.le_refl _) (.cells #[.int .u64 x0, .int .u64 x1, .int .u64 x2, .int .u64 x3, .int .u64 x4] 25))
  have HBg := Lib.hid (begun_any _ (HG.out _ HB0.out))
  clear hcn hcz hg
  go_enter Tryd.func3, Tryd.ntmps3
  go_wp2_with fail
  refine HBg.out.mono ?_
  rintro e w1 ⟨rfl, hb1⟩
  have HB1 : Hid (Below w.heap.size w w1) := HB0.out.trans (hb1.mono (by simp))
  clear hb1
  go_wp2_with (go_at_call 12; refine (HCn.out _).mono ?_; rintro e w' ⟨rfl, rfl⟩)
  refine (of_post c HCz.out w1).mono ?_
  rintro e w2 ⟨o, rfl, ho, hat, hs2, hb2⟩
  have HO := Lib.hid hat
  have HB2 : Hid (Below w.heap.size w w2) := HB1.out.trans (hb2.mono HB1.out.size)
  have ho2 : o < w2.heap.size := by rw [hs2]; omega
  clear ho hat hs2 hb2
  go_wp2_with fail
  refine (HN.out w2).mono ?_
  rintro e w3 ⟨rfl, hb3⟩
  have HE : Hid (EC w3 c [] w3.heap.size (ptrErr o)) := ⟨o, rfl, Nat.lt_of_lt_of_le ho2 hb3.size, HO.out.later hb3 ho2⟩
  have HBl : Hid (Below w.heap.size w w3) := HB2.out.trans (hb3.mono HB2.out.size)
  clear hb3
  go_wp2_with fail
  have e3 : min (0 : Int) 10 = 0 := by decide
  have e4 : max (0 : Int) 0 = 0 := by decide
  simp only [e3, e4, Int.toNat_zero]
  clear e3 e4
  go_loopw [11, 12, 34] (fun e tx ix wr => e = ptrErr o ∧ tx = .string ⟨(allText c 0).toArray⟩ ∧ ix = .int .i64 0 ∧ wr = w3) (fun _ _ _ _ => 0)
  case atStart => exact ⟨rfl, congrArg Value.string (trapText_add c), rfl, rfl⟩
  case round =>
    obtain ⟨rfl, rfl, rfl, rfl⟩ := hrel
    have hT : (allText c 0).length ≤ 97 := by have := allText_length c hl 0; omega
    obtain ⟨b, rfl⟩ : ∃ b, b = o := ⟨_, rfl⟩
    obtain ⟨wq, rfl⟩ : ∃ wq, wq = wr := ⟨_, rfl⟩
    have HQ : Hid (∀ W, Below wq.heap.size wq W → Below w.heap.size w W) := fun W hW => HBl.out.trans (hW.mono HBl.out.size)
    have HC : Hid (∀ W, Below wq.heap.size wq W → Chain W c .nilIface 1 wq.heap.size (ptrErr b)) := fun W hW => (HE.out.later hW (Nat.le_refl _)).chain
    have hbq : b < wq.heap.size := by
      obtain ⟨b', e, hlt⟩ := HE.out.ptr
      injection e with _ e; injection e with e; injection e with e; injection e with e
      omega
    obtain ⟨d, hd1, hd2, hcm⟩ := code_c m
    have HCm := Lib.hid hcm
    have hdz : (((d : Nat) : Int) == 0) = false := beq_eq_false_iff_ne.2 (by omega)
    have HDz := Lib.hid hdz
    have mE := Tryd.methodErrorP
    have hn := fun W => run_neq_held_nil (P := Tryd.prog) W 30 34 (.pointer (some ⟨b, 0, none⟩)) (by kernel_rfl)
    have hq : (((d : Nat) : Int) == ((c : Nat) : Int)) = decide (c = d) := by
      rw [Bool.eq_iff_iff, beq_iff_eq, decide_eq_true_iff]; omega
    have HCo : Hid (∀ W, Below wq.heap.size wq W → Calls Tryd.prog 17 #[ptrErr b] W fun e w' => e = .returned (.int .i64 c) ∧ Below wq.heap.size wq w') := fun W hW => by
      refine (chain_code (HG.out _ (HQ.out W hW)) (HC.out W hW)).mono ?_
      rintro e w' ⟨rfl, hb⟩
      exact ⟨rfl, hW.trans (hb.mono hW.size)⟩
    have HD : Hid (∀ W, Below wq.heap.size wq W → Calls Tryd.prog 18 #[ptrErr b] W fun e w' => e = .returned (.int .i64 1) ∧ Below wq.heap.size wq w') := fun W hW => by
      have h := chain_depth (HG.out _ (HQ.out _ hW)) (HC.out _ hW) hW.size (fun W _ => asMiss_nil W)
      refine h.mono ?_
      rintro e w' ⟨rfl, hb⟩
      exact ⟨rfl, hW.trans (hb.mono hW.size)⟩
    have HEr : Hid (∀ W, Below wq.heap.size wq W → Calls Tryd.prog 24 #[.pointer (some ⟨b, 0, none⟩)] W fun e w' => e = .returned (.string ⟨(allText c 0).toArray⟩) ∧ Below wq.heap.size wq w') := fun W hW => by
      have h := chain_error (c := c) (HG.out _ (HQ.out W hW)) (HC.out W hW) hW.size (by omega) (by omega)
      rw [← allText_rep] at h
      refine h.mono ?_
      rintro e w' ⟨rfl, hb⟩
      exact ⟨rfl, hW.trans (hb.mono hW.size)⟩
    have HIs : Hid (∀ W (t d : Nat), Below wq.heap.size wq W → wq.heap.size ≤ t → OfAt W t d → (((d : Nat) : Int) == ((c : Nat) : Int)) = decide (c = d) → Calls Tryd.prog 19 #[ptrErr b, ptrErr t] W fun e w' => e = .returned (.bool (decide (c = d))) ∧ Below wq.heap.size wq w') := fun W t d hW ht hat hq => by
      have h := chain_is (HG.out _ (HQ.out W hW)) (HC.out W hW) hat ht
      rw [hq] at h
      refine h.mono ?_
      rintro e w' ⟨rfl, hb⟩
      exact ⟨rfl, hW.trans (hb.mono hW.size)⟩
    have HIsD := Lib.hid (fun W t hW ht hat => HIs.out W t d hW ht hat hq)
    have HIsC : Hid (∀ W (t : Nat), Below wq.heap.size wq W → wq.heap.size ≤ t → OfAt W t c → Calls Tryd.prog 19 #[ptrErr b, ptrErr t] W fun e w' => e = .returned (.bool true) ∧ Below wq.heap.size wq w') := fun W t hW ht hat => by
      have h := HIs.out W t c hW ht hat (by rw [beq_self_eq_true]; simp)
      rw [decide_eq_true rfl] at h
      exact h
    clear hcm hdz
    generalize decide (c = d) = q at *
    go_wp2_with fail
    refine (HCo.out _ (Below.refl _ _)).mono ?_
    rintro e w4 ⟨rfl, hb4⟩
    have HB4 := Lib.hid hb4
    clear hb4
    go_wp2_with fail
    refine (HD.out _ HB4.out).mono ?_
    rintro e w5 ⟨rfl, hb5⟩
    have HB5 := Lib.hid hb5
    clear hb5
    go_wp2_with fail
    refine (HEr.out _ HB5.out).mono ?_
    rintro e w6 ⟨rfl, hb6⟩
    have HB6 := Lib.hid hb6
    clear hb6
    go_wp2_with fail
    refine (of_post c HCz.out w6).mono ?_
    rintro e w7 ⟨t, rfl, ht, hat, hs7, hb7⟩
    have HT7 := Lib.hid hat
    have HB7 : Hid (Below wq.heap.size wq w7) := HB6.out.trans (hb7.mono HB6.out.size)
    have htq : wq.heap.size ≤ t := by have := HB6.out.size; omega
    clear ht hat hs7 hb7
    go_wp2_with fail
    refine (HIsC.out _ _ HB7.out htq HT7.out).mono ?_
    rintro e w8 ⟨rfl, hb8⟩
    have HB8 := Lib.hid hb8
    clear hb8
    go_wp2_with (go_at_call 12; refine (HCm.out _).mono ?_; rintro e w' ⟨rfl, rfl⟩)
    refine (of_post d HDz.out w8).mono ?_
    rintro e w9 ⟨t2, rfl, ht, hat, hs9, hb9⟩
    have HT9 := Lib.hid hat
    have HB9 : Hid (Below wq.heap.size wq w9) := HB8.out.trans (hb9.mono HB8.out.size)
    have htq2 : wq.heap.size ≤ t2 := by have := HB8.out.size; omega
    clear ht hat hs9 hb9
    go_wp2_with fail
    refine (HIsD.out _ _ HB9.out htq2 HT9.out).mono ?_
    rintro e w10 ⟨rfl, hb10⟩
    have HB10 := Lib.hid hb10
    clear hb10
    go_wp2_with (go_at_call 12; refine (HCm.out _).mono ?_; rintro e w' ⟨rfl, rfl⟩)
    go_ret
    exact ⟨rfl, HQ.out _ HB10.out⟩
end Go.Proofs.YtnmlmhhohemffaaDoor
