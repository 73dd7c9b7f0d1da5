/- What is proved here: the statement PoolLeast: whatever its number and its slice, the statement returns true and leaves what was there. Conditions: the slice's numbers are there; the statements' own beginning returns true. -/
import Derived.Test.YtfpnpgpelncgeabGreatDoorGCell
import Derived.Test.YtfpnpgpelncgeabGreatDoorTlbMaps
import Derived.RegionTactic
import Derived.WalkArith
namespace Go.Proofs.YtfpnpgpelncgeabGreatDoor
open Go.RowKit Go.Extern.Stop Go.Stop Go.Extern Go.WalkArith Go.Maps

/-- The first i frames are taken. -/
def tookR (i j : Nat) : Int := if j < i then 1 else 0
theorem tookR_up (i : Nat) : upR (tookR i) i 1 = tookR (i + 1) := by
  funext j
  unfold upR tookR
  by_cases h : j = i
  · rw [if_pos h, if_pos (by omega)]
  · rw [if_neg h]
    by_cases h2 : j < i
    · rw [if_pos h2, if_pos (by omega)]
    · rw [if_neg h2, if_neg (by omega)]
/-- The frames that were let go are free, the others have one reference. -/
def leftR (fr : Nat → Bool) (j : Nat) : Int := if fr j = true then 0 else 1
/-- The frame t is let go, too. -/
def upF (fr : Nat → Bool) (t j : Nat) : Bool := decide (j = t) || fr j
theorem leftR_up (fr : Nat → Bool) (t : Nat) : upR (leftR fr) t 0 = leftR (upF fr t) := by
  funext j
  unfold upR leftR upF
  by_cases h : j = t
  · simp [h]
  · simp [h]
/-- Those below k are taken again. -/
def cutF (fr : Nat → Bool) (k j : Nat) : Bool := decide (k ≤ j) && fr j
theorem leftR_cut (fr : Nat → Bool) (k : Nat) : upR (leftR (cutF fr k)) k 1 = leftR (cutF fr (k + 1)) := by
  funext j
  unfold upR leftR cutF
  by_cases h : j = k
  · subst h
    have h3 : ¬ j + 1 ≤ j := by omega
    simp [h3]
  · by_cases h2 : k ≤ j
    · have h3 : k + 1 ≤ j := by omega
      simp [h, h2, h3]
    · have h3 : ¬ k + 1 ≤ j := by omega
      simp [h, h2, h3]
theorem leftR_same (fr : Nat → Bool) (k : Nat) (hk : fr k = false) : leftR (cutF fr k) = leftR (cutF fr (k + 1)) := by
  funext j
  unfold leftR cutF
  by_cases h : j = k
  · subst h
    simp [hk]
  · by_cases h2 : k ≤ j
    · have h3 : k + 1 ≤ j := by omega
      simp [h2, h3]
    · have h3 : ¬ k + 1 ≤ j := by omega
      simp [h2, h3]
theorem cutF_zero (fr : Nat → Bool) : cutF fr 0 = fr := by
  funext j
  simp [cutF]
theorem leftR_past (fr : Nat → Bool) (k j : Nat) (h : j < k) : leftR (cutF fr k) j = 1 := by
  have h2 : ¬ k ≤ j := by omega
  unfold leftR cutF
  simp [h2]
theorem leftR_here (fr : Nat → Bool) (k : Nat) (h : fr k = true) : leftR (cutF fr k) k = 0 := by
  unfold leftR cutF
  simp [h]
theorem upF_same (fr : Nat → Bool) (t : Nat) (h : fr t = true) : upF fr t = fr := by
  funext j
  unfold upF
  by_cases hj : j = t
  · subst hj
    simp [h]
  · simp [hj]
theorem least_let (Y Z N t : Nat) (fr : Nat → Bool) (hN : N ≤ 16) (ht : t < N) (hfr : fr t = false) (w : World) (h : PoolIs w Y Z N (leftR fr)) :
    Calls Tryz.prog 47 #[.pointer (some ⟨Y, 0, none⟩), .int .i64 (t : Int)] w fun e w' => e = .returned (.tuple #[.int .i64 0, .bool true]) ∧ PoolIs w' Y Z N (leftR (upF fr t)) ∧ OnlyT Z w w' := by
  have e1 : leftR fr t = 1 := by unfold leftR; simp [hfr]
  have h := pool_let Y Z N t (leftR fr) hN ht (by omega) (by omega) w h
  rw [show leftR fr t - 1 = 0 by omega, leftR_up] at h
  exact h
theorem least_take (Y Z N k : Nat) (fr : Nat → Bool) (hN : N ≤ 16) (hk : k < N) (hfr : fr k = true) (w : World) (h : PoolIs w Y Z N (leftR (cutF fr k))) :
    Calls Tryz.prog 46 #[.pointer (some ⟨Y, 0, none⟩)] w fun e w' => e = .returned (.tuple #[.int .i64 k, .bool true]) ∧ PoolIs w' Y Z N (leftR (cutF fr (k + 1))) ∧ OnlyT Z w w' := by
  have h := pool_take Y Z N (leftR (cutF fr k)) k hN hk (leftR_here fr k hfr) (fun i hi => by rw [leftR_past fr k i hi]; rfl) w h
  rw [leftR_cut] at h
  exact h
theorem least_free (Y Z N : Nat) (fr : Nat → Bool) (hN : N ≤ 16) (w : World) (h : PoolIs w Y Z N (leftR (cutF fr N))) :
    Calls Tryz.prog 48 #[.pointer (some ⟨Y, 0, none⟩)] w fun e w' => (∃ ao cap, e = .returned (.slice ao 0 cap)) ∧ Below w.heap.size w w' := by
  have h := pool_free Y Z N (leftR (cutF fr N)) hN w h
  rw [freeL_none _ N (fun j hj => by rw [leftR_past fr N j hj]; omega)] at h
  exact h
theorem least_bits (Y Z N : Nat) (fr : Nat → Bool) (hN : N ≤ 16) (w : World) (h : PoolIs w Y Z N (leftR (cutF fr N))) :
    Calls Tryz.prog 49 #[.pointer (some ⟨Y, 0, none⟩)] w fun e w' => e = .returned (.int .u64 0) ∧ Below w.heap.size w w' := by
  have h := pool_bits Y Z N (leftR (cutF fr N)) hN w h
  rw [bitsUp_none _ N (fun j hj => by rw [leftR_past fr N j hj]; omega)] at h
  exact h
theorem zeroBool (w : World) : (zeroValue 4).run Tryz.prog w = .ok (.bool false) w := by kernel_rfl
/-- A map of the frames that were let go. -/
def FreeIs (w : World) (b n : Nat) (fr : Nat → Bool) : Prop :=
  ∃ D : DataW Unit, w.ownsMap Tryz.prog 3 (plainElem Tryz.prog 4) b n D ∧ IsMap D ∧ ∀ s : Nat, s < 16 → D.atKey (.int .i64 (s : Int)) (.lit (.bool false)) = .lit (.bool (fr s))
theorem FreeIs.new (w : World) : FreeIs (w.alloc (.map #[] 0)) w.heap.size 0 (fun _ => false) :=
  ⟨.map [], World.ownsMap_made _ _ _ _, isMap_empty, fun s _ => by rw [atKey_of_not_has rfl]⟩
theorem FreeIs.kept {w w' : World} {b n : Nat} {fr : Nat → Bool} (h : FreeIs w b n fr) {row : Option Nat} (hg : w.grownBy w' row) (hne : some b ≠ row) : FreeIs w' b n fr := by
  obtain ⟨D, h1, h2⟩ := h
  exact ⟨D, h1.kept hg hne, h2⟩
theorem FreeIs.lt {w : World} {b n : Nat} {fr : Nat → Bool} (h : FreeIs w b n fr) : b < w.heap.size := by
  obtain ⟨D, h1, _⟩ := h
  exact h1.lt
set_option maxRecDepth 100000 in
theorem FreeIs.look {w : World} {b n : Nat} {fr : Nat → Bool} (h : FreeIs w b n fr) (t : Nat) (ht : t < 16) :
    (Instr.lookup 79 (.map (some b)) (.int .i64 (t : Int)) false).run Tryz.prog w = .ok (.bool (fr t)) w := by
  obtain ⟨D, h1, h2, h3⟩ := h
  obtain ⟨v, ps, hrun, hv⟩ := h1.lookup ilaw Tryz.underlying79 (zeroBool w) (plainElem_bool Tryz.underlying4 false) (ikey t (by omega))
  rw [h3 t ht] at hv
  have hb : v = .bool (fr t) := by
    unfold plainElem at hv
    rw [Tryz.underlying4] at hv
    cases v <;> simp at hv
    rw [hv.1]
  rw [hrun, hb]
theorem free_put {D : DataW Unit} {fr : Nat → Bool} (h2 : IsMap D) (h3 : ∀ s : Nat, s < 16 → D.atKey (.int .i64 (s : Int)) (.lit (.bool false)) = .lit (.bool (fr s))) (t : Nat) (ht : t < 16) :
    IsMap (D.put (.int .i64 (t : Int)) (.lit (.bool true))) ∧ ∀ s : Nat, s < 16 → (D.put (.int .i64 (t : Int)) (.lit (.bool true))).atKey (.int .i64 (s : Int)) (.lit (.bool false)) = .lit (.bool (upF fr t s)) := by
  refine ⟨h2.put _ _, fun s hs => ?_⟩
  by_cases hst : s = t
  · subst hst
    rw [atKey_put_same h2 (ilaw.key (ikey s (by omega)))]
    simp [upF]
  · rw [atKey_put_other (fun e => hst (by injection e with _ e; omega)), h3 s hs]
    simp [upF, hst]
theorem tmod_least (x : Int) (n : Nat) (h : 0 < n) : ∃ t : Nat, x.tmod n % n = (t : Int) ∧ t < n := by
  have h1 := Int.emod_nonneg (x.tmod n) (show (n : Int) ≠ 0 by omega)
  have h2 := Int.emod_lt_of_pos (x.tmod n) (show (0 : Int) < n by omega)
  exact ⟨(x.tmod n % n).toNat, by omega, by omega⟩
theorem tmod_side (x : Int) (n : Nat) (h : 0 < n) : -(n : Int) < x.tmod n ∧ x.tmod n < n := ⟨by have := Int.lt_tmod_of_pos x (show (0 : Int) < n by omega); omega, Int.tmod_lt_of_pos x (by omega)⟩
set_option maxRecDepth 100000 in
set_option maxHeartbeats 8000000 in
theorem pleast_any (n0 : Int) (ao : Option Addr) (a : Addr) (len cap : Nat) (hao : 0 < len → ao = some a) (E : Nat → Int) (w : World) (hz : ∀ i, i < len → w.cell? (a.add i) = some (.int .i64 (E i))) (hbeg : ∀ V, Below w.heap.size w V → BegunAt V) :
    Calls Tryz.prog 12 #[.int .i64 n0, .slice ao len cap] w fun e w' => e = .returned (.bool true) ∧ Below w.heap.size w w' := by
  have HA := Lib.hid hao
  have HZ := Lib.hid hz
  have HB := Lib.hid (hbeg w (Below.refl _ _))
  clear hao hz hbeg
  have hmk : ∀ W : World, (Instr.makeMap 79 none).run Tryz.prog W = .ok (.map (some W.heap.size)) (W.alloc (.map #[] 0)) := fun W => by kernel_rfl
  have HMK := Lib.hid hmk
  clear hmk
  have m1 := Int.lt_tmod_of_pos n0 (show (0 : Int) < 16 by omega)
  have m2 := Int.tmod_lt_of_pos n0 (show (0 : Int) < 16 by omega)
  go_enter Tryz.func12, Tryz.ntmps12
  go_wp2_with fail
  refine HB.out.mono ?_
  rintro e w1 ⟨rfl, hb1⟩
  have B1 := Lib.hid hb1
  clear hb1 HB
  obtain ⟨N, hN⟩ : ∃ N : Nat, 1 + n0.tmod 16 % 16 = (N : Int) := ⟨(1 + n0.tmod 16 % 16).toNat, by omega⟩
  have hN1 : 1 ≤ N := by omega
  have hN2 : N ≤ 16 := by omega
  go_wp2_with fail
  refine (pool_new N hN1 hN2 w1).mono ?_
  rintro e w2 ⟨Y, Z, rfl, hp, hb2, hY, hZ⟩
  have B2 := Lib.hid (bl_trans B1.out hb2)
  have HZZ : Hid (w.heap.size ≤ Z) := by have := B1.out.size; show w.heap.size ≤ Z; omega
  have P2 := Lib.hid hp
  clear hp hb2 hY hZ B1
  go_wp2_with fail
  clear hN m1 m2
  generalize (n0.tmod 16 + 16) % 16 = y1
  generalize n0.tmod 16 + 16 = y2
  generalize n0.tmod 16 = y3
  go_loopw [7] (fun iv W => ∃ (i : Nat), iv = .int .i64 i ∧ i ≤ N ∧ Below w.heap.size w W ∧ PoolIs W Y Z N (tookR i)) (fun iv _ => (N - intOf iv).toNat)
  case atStart => exact ⟨0, rfl, by omega, B2.out, P2.out.congr fun j _ => by unfold tookR; rw [if_neg (by omega)]⟩
  case round =>
    obtain ⟨i, rfl, hiN, hb, hp⟩ := hrel
    have HB := Lib.hid hb
    have HP := Lib.hid hp
    clear hb hp P2 B2
    by_cases h1 : i < N
    · have i1 : (i : Int) < (N : Int) := by omega
      go_wp2_with fail
      refine (pool_take Y Z N (tookR i) i hN2 h1 (by unfold tookR; rw [if_neg (by omega)]) (fun j hj => by unfold tookR; rw [if_pos hj]; rfl) wr HP.out).mono ?_
      rintro e' w4 ⟨rfl, hg, ho⟩
      have B4 := Lib.hid (tp_bl HB.out HZZ.out ho)
      have P4 := Lib.hid hg
      clear hg ho
      go_wp2_with fail
      go_roundw
      case rel => exact ⟨i + 1, by go_num, by omega, B4.out, by rw [← tookR_up]; exact P4.out⟩
      case measure => simp [intOf]; omega
    · obtain rfl : N = i := by omega
      have i1 : ¬ (N : Int) < (N : Int) := by omega
      clear h1 hiN
      go_wp2_with fail
      refine (pool_take_no Y Z N (tookR N) hN2 (fun j hj => by unfold tookR; rw [if_pos hj]; rfl) wr HP.out).mono ?_
      rintro e' w4 ⟨rfl, rfl⟩
      have hmk := HMK.out wr
      go_wp2_with fail
      clear hmk
      obtain ⟨M, hM⟩ : ∃ M, M = wr.heap.size := ⟨_, rfl⟩
      obtain ⟨wm, hwm⟩ : ∃ wm, wm = wr.alloc (.map #[] 0) := ⟨_, rfl⟩
      have Bm : Hid (Below w.heap.size w wm) := by rw [hwm]; exact HB.out.alloc HB.out.size _
      have Pm : Hid (PoolIs wm Y Z N (leftR (fun _ => false))) := by rw [hwm]; exact (HP.out.later ((Below.refl _ _).alloc (Nat.le_refl _) _)).congr fun j hj => by unfold leftR tookR; rw [if_neg (by simp), if_pos hj]
      have Fm : Hid (FreeIs wm M 0 (fun _ => false)) := by rw [hwm, hM]; exact FreeIs.new wr
      have HMZ : Hid (¬ M = Z) := by have := HP.out.low.2; show ¬ M = Z; omega
      have HMY : Hid (¬ M = Y) := by have := HP.out.low.1; show ¬ M = Y; omega
      have HMw : Hid (w.heap.size ≤ M) := by rw [hM]; exact HB.out.size
      rw [← hwm, ← hM]
      clear hwm hM HB HP i1
      go_loopw [13] (fun iv W => ∃ (i : Nat) (fr : Nat → Bool), iv = .int .i64 i ∧ i ≤ len ∧ i ≤ 20 ∧ Below w.heap.size w W ∧ PoolIs W Y Z N (leftR fr) ∧ FreeIs W M i fr) (fun iv _ => (20 - intOf iv).toNat)
      case atStart => exact ⟨0, _, rfl, by omega, by omega, Bm.out, Pm.out, Fm.out⟩
      case round =>
        clear Bm Pm Fm
        obtain ⟨i, fr, rfl, hil, hi20, hb, hp, hf⟩ := hrel
        have HB := Lib.hid hb
        have HP := Lib.hid hp
        have HF := Lib.hid hf
        clear hb hp hf
        rcases (show (i < len ∧ i < 20) ∨ ¬ i < len ∨ (i < len ∧ i = 20) by omega) with ⟨g1, g2⟩ | g1 | ⟨g1, g2⟩
        · obtain rfl : ao = some a := HA.out (by omega)
          have k0 : (0 : Int) ≤ (i : Int) := by omega
          have k1 : (i : Int) < (len : Int) := by omega
          have k2 : (i : Int) < 20 := by omega
          have c1 := HB.out.cell (p := a.add i) (World.block_lt_of_cell? _ _ (HZ.out i g1))
          rw [HZ.out i g1] at c1
          obtain ⟨x, hx⟩ : ∃ x, E i = x := ⟨_, rfl⟩
          rw [hx] at c1
          clear hx
          have n0 : ¬ (N : Int) = 0 := by omega
          have n1 : ((N : Int) == 0) = false := by simpa using n0
          obtain ⟨m1, m2⟩ := tmod_side x N (by omega)
          have m3 : 0 ≤ x.tmod N + N := by omega
          obtain ⟨t, ht, htN⟩ := tmod_least x N (by omega)
          by_cases hfr : fr t = true
          · have HFR := Lib.hid hfr
            have hlk := HF.out.look t (by omega)
            rw [hfr] at hlk
            clear hfr
            go_wp2_with fail
            refine (pool_let_free Y Z N t (leftR fr) hN2 htN (by unfold leftR; rw [if_pos HFR.out]) wr HP.out).mono ?_
            rintro e' w4 ⟨rfl, rfl⟩
            clear c1 m1 m2 m3 ht
            obtain ⟨D, ho1, ho2, ho3⟩ := HF.out
            have HO := Lib.hid ho1
            have HD := Lib.hid (free_put ho2 ho3 t (by omega))
            clear ho1 ho2 ho3
            go_wp2_with (at_mapUpdate; refine wpList_mapUpdate_own _ rfl _ _ _ 79 rfl 3 4 ilaw Tryz.underlying79 (plainElem Tryz.prog 4) M i D rfl HO.out (by unfold maxLen; omega) _ _ (.int .i64 (t : Int)) rfl rfl (ikey t (by omega)) _ [] (plainElem_bool Tryz.underlying4 true) ?_; intro w6 hown6 hgrow6)
            have F6 : Hid (FreeIs w6 M (i + 1) (upF fr t)) := ⟨_, hown6, HD.out⟩
            have B6 := Lib.hid (tp_bl HB.out HMw.out hgrow6)
            have P6 := Lib.hid (HP.out.foot hgrow6.size (hgrow6.block Y HP.out.low.1 (fun e => HMY.out (by injection e with e; exact e.symm))) (hgrow6.block Z HP.out.low.2 (fun e => HMZ.out (by injection e with e; exact e.symm))))
            clear hown6 hgrow6
            go_wp2_with fail
            go_roundw
            case rel => exact ⟨i + 1, upF fr t, by go_num, by omega, by omega, B6.out, by have := P6.out; rw [upF_same fr t HFR.out]; exact this, F6.out⟩
            case measure => simp [intOf]; omega
          · have HFR := Lib.hid (show fr t = false by simpa using hfr)
            clear hfr
            go_wp2_with fail
            refine (least_let Y Z N t fr hN2 htN HFR.out wr HP.out).mono ?_
            rintro e' w4 ⟨rfl, hg, ho⟩
            have B4 := Lib.hid (tp_bl HB.out HZZ.out ho)
            have P4 := Lib.hid hg
            have F4 := Lib.hid (HF.out.kept ho (fun e => HMZ.out (by injection e)))
            clear hg ho c1 m1 m2 m3 ht
            have hlk := F4.out.look t (by omega)
            rw [HFR.out] at hlk
            obtain ⟨D, ho1, ho2, ho3⟩ := F4.out
            have HO := Lib.hid ho1
            have HD := Lib.hid (free_put ho2 ho3 t (by omega))
            clear ho1 ho2 ho3
            go_wp2_with (at_mapUpdate; refine wpList_mapUpdate_own _ rfl _ _ _ 79 rfl 3 4 ilaw Tryz.underlying79 (plainElem Tryz.prog 4) M i D rfl HO.out (by unfold maxLen; omega) _ _ (.int .i64 (t : Int)) rfl rfl (ikey t (by omega)) _ [] (plainElem_bool Tryz.underlying4 true) ?_; intro w6 hown6 hgrow6)
            have F6 : Hid (FreeIs w6 M (i + 1) (upF fr t)) := ⟨_, hown6, HD.out⟩
            have B6 := Lib.hid (tp_bl B4.out HMw.out hgrow6)
            have P6 := Lib.hid (P4.out.foot hgrow6.size (hgrow6.block Y P4.out.low.1 (fun e => HMY.out (by injection e with e; exact e.symm))) (hgrow6.block Z P4.out.low.2 (fun e => HMZ.out (by injection e with e; exact e.symm))))
            clear hown6 hgrow6
            go_wp2_with fail
            go_roundw
            case rel => exact ⟨i + 1, upF fr t, by go_num, by omega, by omega, B6.out, P6.out, F6.out⟩
            case measure => simp [intOf]; omega
        all_goals
          first
            | (have k1 : ¬ (i : Int) < (len : Int) := by omega
               go_wp2_with fail)
            | (have k1 : (i : Int) < (len : Int) := by omega
               have k2 : ¬ (i : Int) < 20 := by omega
               go_wp2_with fail)
          go_loopw [17] (fun kv W => ∃ (k : Nat), kv = .int .i64 k ∧ k ≤ N ∧ Below w.heap.size w W ∧ PoolIs W Y Z N (leftR (cutF fr k)) ∧ FreeIs W M i fr) (fun kv _ => (N - intOf kv).toNat)
          case atStart => exact ⟨0, rfl, by omega, HB.out, by rw [cutF_zero]; exact HP.out, HF.out⟩
          case round =>
            clear HB HP HF
            obtain ⟨k, rfl, hkN, hb, hp, hf⟩ := hrel
            have HB := Lib.hid hb
            have HP := Lib.hid hp
            have HF := Lib.hid hf
            clear hb hp hf
            by_cases h1 : k < N
            · have j1 : (k : Int) < (N : Int) := by omega
              have hlk := HF.out.look k (by omega)
              by_cases hfr : fr k = true
              · have HFR := Lib.hid hfr
                rw [hfr] at hlk
                clear hfr
                go_wp2_with fail
                refine (least_take Y Z N k fr hN2 h1 HFR.out wr HP.out).mono ?_
                rintro e' w4 ⟨rfl, hg, ho⟩
                have B4 := Lib.hid (tp_bl HB.out HZZ.out ho)
                have P4 := Lib.hid hg
                have F4 := Lib.hid (HF.out.kept ho (fun e => HMZ.out (by injection e)))
                clear hg ho hlk
                go_wp2_with fail
                go_roundw
                case rel => exact ⟨k + 1, by go_num, by omega, B4.out, P4.out, F4.out⟩
                case measure => simp [intOf]; omega
              · have HFR := Lib.hid (show fr k = false by simpa using hfr)
                rw [HFR.out] at hlk
                clear hfr
                go_wp2_with fail
                go_roundw
                case rel => exact ⟨k + 1, by go_num, by omega, HB.out, by rw [← leftR_same fr k HFR.out]; exact HP.out, HF.out⟩
                case measure => simp [intOf]; omega
            · obtain rfl : N = k := by omega
              have j1 : ¬ (N : Int) < (N : Int) := by omega
              go_wp2_with fail
              refine (least_free Y Z N fr hN2 wr HP.out).mono ?_
              rintro e' w4 ⟨⟨ao2, cap2, rfl⟩, hb4⟩
              have B4 := Lib.hid (bl_trans HB.out hb4)
              have P4 := Lib.hid (HP.out.later hb4)
              clear hb4
              go_wp2_with fail
              refine (least_bits Y Z N fr hN2 w4 P4.out).mono ?_
              rintro e' w5 ⟨rfl, hb5⟩
              have B5 := Lib.hid (bl_trans B4.out hb5)
              clear hb5
              go_wp2_with fail
              go_ret
              exact ⟨rfl, B5.out⟩
end Go.Proofs.YtfpnpgpelncgeabGreatDoor
