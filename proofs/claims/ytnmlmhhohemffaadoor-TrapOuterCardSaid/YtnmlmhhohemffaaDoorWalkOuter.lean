/- What is proved here: the walk of the statement TrapOuter: for all n, all slices of ints and all words it answers true and leaves the memory that was there as it was. Conditions: the library's variable errors.errorType holds the type error; the slice reads as the given ints. -/
import Derived.Test.YtnmlmhhohemffaaDoorEnvs
import Derived.Deep.RegionWith
import Derived.Deep.RegionHeld3
import Derived.LoopTactic
import Derived.IntWalk
namespace Go.Proofs.YtnmlmhhohemffaaDoor
open Go.RowKit Go.Extern.Stop Go.Stop Go.Extern

/-- The head of the first loop: k traps are wrapped. -/
def OuterUp (w : World) (c K : Nat) (zs : List Int) (e ix : Value) (wr : World) : Prop :=
  ∃ k b, k ≤ K ∧ ix = .int .i64 k ∧ e = ptrErr b ∧ EC wr c (zs.take k).reverse wr.heap.size (ptrErr b) ∧ Below w.heap.size w wr
/-- The head of the second loop: k are left. -/
def OuterDown (wq : World) (c K : Nat) (zs : List Int) (e i : Value) (wr : World) : Prop :=
  ∃ k b, k ≤ K ∧ i = .int .i64 ((k : Int) - 1) ∧ e = ptrErr b ∧ EC wq c (zs.take k).reverse wq.heap.size (ptrErr b) ∧ Below wq.heap.size wq wr

set_option maxRecDepth 100000 in
set_option maxHeartbeats 12000000 in
theorem outer_walk (n x0 x1 x2 x3 x4 : Int) (a : Addr) (len cap K : Nat) (zs : List Int) (w : World) (hg : Held w) (hK : K = min len 8) (hlc : len ≤ cap) (hzl : len ≤ zs.length)
    (hz : ∀ i, i < len → w.cell? (a.add i) = some (.int .i64 (zs.getD i 0))) :
    Calls Tryd.prog 10 #[.int .i64 n, .slice (some a) len cap, .agg #[.int .u64 x0, .int .u64 x1, .int .u64 x2, .int .u64 x3, .int .u64 x4]] w fun e w' => e = .returned (.bool true) ∧ Below w.heap.size w w' := by
  obtain ⟨c, hc1, hc2, hcn⟩ := code_c n
  have HCn := Lib.hid hcn
  have hcz : (((c : Nat) : Int) == 0) = false := beq_eq_false_iff_ne.2 (by omega)
  have HCz := Lib.hid hcz
  have HG : Hid (∀ W, Below w.heap.size w W → Held W) := fun W hW => hg.below hW hg.pos
  have HB0 := Lib.hid ((Below.refl w.heap.size w).alloc (Nat.le_refl _) (.cells #[.int .u64 x0, .int .u64 x1, .int .u64 x2, .int .u64 x3, .int .u64 x4] 25))
  have HBg := Lib.hid (begun_any _ (HG.out _ HB0.out))
  have HX : Hid (∀ W, Below (w.heap.size + 1) (w.alloc (.cells #[.int .u64 x0, .int .u64 x1, .int .u64 x2, .int .u64 x3, .int .u64 x4] 25)) W → ∀ i, W.cell? ⟨w.heap.size, i, none⟩ = #[.int .u64 x0, .int .u64 x1, .int .u64 x2, .int .u64 x3, .int .u64 x4][i]?) := fun W hW i => by
    have h : (w.alloc (.cells #[.int .u64 x0, .int .u64 x1, .int .u64 x2, .int .u64 x3, .int .u64 x4] 25)).heap.size = w.heap.size + 1 := by simp
    rw [← h] at hW
    exact box_cells hW i
  have HZ : Hid (∀ i, i < len → ∀ W, Below w.heap.size w W → W.cell? (a.add i) = some (.int .i64 (zs.getD i 0))) := fun i hi W hW => (hW.cell (lt_of_cell (hz i hi))).trans (hz i hi)
  have HK := Lib.hid hK
  have hKl : K ≤ len := by omega
  have hK8 : K ≤ 8 := by omega
  have HKz : Hid (K ≤ zs.length) := by show K ≤ zs.length; omega
  clear hcn hcz hg hz hK
  go_enter Tryd.func10, Tryd.ntmps10
  go_wp2_with fail
  refine HBg.out.mono ?_
  rintro e w1 ⟨rfl, hb1⟩
  have hs1 : (w.alloc (.cells #[.int .u64 x0, .int .u64 x1, .int .u64 x2, .int .u64 x3, .int .u64 x4] 25)).heap.size = w.heap.size + 1 := by simp
  rw [hs1] at hb1
  have Hb1 := Lib.hid hb1
  have HB1 : Hid (Below w.heap.size w w1) := HB0.out.trans (hb1.mono (by omega))
  clear hb1 hs1
  go_wp2_with (go_at_call 12; refine (HCn.out _).mono ?_; rintro e w' ⟨rfl, rfl⟩)
  refine (of_post c HCz.out w1).mono ?_
  rintro e w2 ⟨o, rfl, ho, hat, hs2, hb2⟩
  have HO := Lib.hid hat
  have Hs2 := Lib.hid hs2
  have hw1 : w.heap.size + 1 ≤ w1.heap.size := by have := Hb1.out.size; simpa using this
  have Hb2 := Lib.hid (Hb1.out.trans (hb2.mono hw1))
  have HB2 : Hid (Below w.heap.size w w2) := HB1.out.trans (hb2.mono HB1.out.size)
  clear ho hat hs2 hb2
  go_wp2_with fail
  have e3 : min (len : Int) 8 = (K : Int) := by have := HK.out; omega
  have e4 : max (K : Int) 0 = K := by omega
  simp only [e3, e4, Int.toNat_natCast]
  clear e3 e4
  go_loopw [8, 26] (fun e ix wr => OuterUp w c K zs e ix wr ∧ Below (w.heap.size + 1) (w.alloc (.cells #[.int .u64 x0, .int .u64 x1, .int .u64 x2, .int .u64 x3, .int .u64 x4] 25)) wr) (fun _ ix _ => K - (intOf ix).toNat)
  case atStart => exact ⟨⟨0, o, Nat.zero_le _, rfl, rfl, ⟨o, rfl, by rw [Hs2.out]; omega, HO.out⟩, HB2.out⟩, Hb2.out⟩
  case round =>
    obtain ⟨⟨k, b, hk, rfl, rfl, hec, hbl⟩, hxb⟩ := hrel
    have HE := Lib.hid hec
    have HBl := Lib.hid hbl
    have HXb := Lib.hid hxb
    clear hec hbl hxb
    by_cases hlt : k < K
    · have l0 := HX.out _ HXb.out 0
      have l1 := HX.out _ HXb.out 1
      have l2 := HX.out _ HXb.out 2
      have l3 := HX.out _ HXb.out 3
      have l4 := HX.out _ HXb.out 4
      have hz := HZ.out k (by omega) _ HBl.out
      have hidx : (0 : Int) ≤ (k : Int) := by omega
      go_wp2_with fail
      have HEd := Lib.hid (HE.out.later ((Below.refl wr.heap.size wr).drew) (Nat.le_refl _))
      go_region_with (go_at_call 15; refine (in_envs (w := wr.drew) (HG.out _ HBl.out.drew) HEd.out (Nat.le_refl _) (zs.getD k 0) x0 x1 x2 x3 x4).mono ?_; rintro e w3 ⟨b3, rfl, hec, _, hb3⟩; have HE3 := Lib.hid hec; have Hb3 : Hid (Below wr.heap.size wr w3) := ((Below.refl wr.heap.size wr).drew).trans hb3; clear hec hb3)
      all_goals
        go_wp2
        go_roundw
        case rel => exact ⟨⟨k + 1, b3, by omega, by go_num, rfl, by rw [take_rev zs k (by have := HKz.out; omega)]; exact HE3.out, HBl.out.trans (Hb3.out.mono HBl.out.size)⟩, HXb.out.trans (Hb3.out.mono (by have := HXb.out.size; simpa using this))⟩
        case measure => simp [intOf]; omega
    · obtain rfl : K = k := by omega
      go_wp2_with fail
      obtain ⟨wq, rfl⟩ : ∃ wq, wq = wr := ⟨_, rfl⟩
      have HQ : Hid (∀ W, Below wq.heap.size wq W → Below w.heap.size w W) := fun W hW => HBl.out.trans (hW.mono HBl.out.size)
      have HP : Hid (∀ k, k ≤ K → ∀ b', EC wq c (zs.take k).reverse wq.heap.size (ptrErr b') → ∀ W, Below wq.heap.size wq W → Chain W c .nilIface (k + 1) wq.heap.size (ptrErr b')) := fun k hk b' h W hW => by
        have h2 := (h.later hW (Nat.le_refl _)).chain
        rw [List.length_reverse, List.length_take, Nat.min_eq_left (by have := HKz.out; omega)] at h2
        exact h2
      go_loopw [8, 10] (fun e i wr => OuterDown wq c K zs e i wr) (fun _ i _ => (intOf i + 1).toNat)
      case atStart => exact ⟨K, b, Nat.le_refl _, rfl, rfl, HE.out, Below.refl _ _⟩
      case round =>
        obtain ⟨k, b1, hk, rfl, rfl, hec, hbl⟩ := hrel
        have HE1 := Lib.hid hec
        have HB2 := Lib.hid hbl
        clear hec hbl
        rcases k with _ | k
        · have ez : ((0 : Nat) : Int) - 1 = -1 := by omega
          rw [ez]
          have hch := HP.out 0 (by omega) b1 HE1.out
          have HCh := Lib.hid hch
          have hn := fun W => run_neq_held_nil (P := Tryd.prog) W 30 34 (.pointer (some ⟨b1, 0, none⟩)) (by kernel_rfl)
          clear hch ez
          go_wp2_with fail
          refine (chain_depth (HG.out _ (HQ.out _ HB2.out)) (HCh.out _ HB2.out) HB2.out.size (fun W _ => asMiss_nil W)).mono ?_
          rintro e w3 ⟨rfl, hb3⟩
          have HB3 : Hid (Below wq.heap.size wq w3) := HB2.out.trans (hb3.mono HB2.out.size)
          have c7 : w3.cell? ⟨b1, 7, none⟩ = some .nilIface := by
            obtain ⟨env, k0, k1, k2, k3, k4, v1, _, ht, hv⟩ := chain_trap (HCh.out _ HB3.out)
            obtain rfl : v1 = .nilIface := hv
            exact cell_of_block ht 7
          clear hb3
          go_wp2_with fail
          refine (Unwrap_trap b1 _ w3 c7).mono ?_
          rintro e w4 ⟨rfl, rfl⟩
          go_wp2_with fail
          go_ret
          exact ⟨rfl, HQ.out _ HB3.out⟩
        · have ez : ((k + 1 : Nat) : Int) - 1 = k := by omega
          rw [ez]
          have hE := HE1.out
          rw [take_rev zs k (by have := HKz.out; omega)] at hE
          obtain ⟨b2, k0, k1, k2, k3, k4, v1, e, hlt2, htr, hr⟩ := hE
          obtain rfl : b1 = b2 := by injection e with _ e; injection e with e; injection e with e; injection e with e
          obtain ⟨b3, rfl, hb3lt⟩ := hr.ptr
          have HR : Hid (EC wq c (zs.take k).reverse wq.heap.size (ptrErr b3)) := by
            cases hl : (zs.take k).reverse with
            | nil => rw [hl] at hr; obtain ⟨o, e, hlt, hat⟩ := hr; exact ⟨o, e, by omega, hat⟩
            | cons en r => rw [hl] at hr; obtain ⟨b4, k0, k1, k2, k3, k4, v1, e, hlt, ht2, hr2⟩ := hr; exact ⟨b4, k0, k1, k2, k3, k4, v1, e, by omega, ht2, hr2⟩
          have HTq : Hid (∀ W, Below wq.heap.size wq W → TrapAt W b1 c (zs.getD k 0) k0 k1 k2 k3 k4 (ptrErr b3)) := fun W hW => htr.later hW hlt2
          have HCh := Lib.hid (HP.out (k + 1) hk b1 HE1.out)
          have HD : Hid (∀ W, Below wq.heap.size wq W → Calls Tryd.prog 18 #[ptrErr b1] W fun e w' => e = .returned (.int .i64 ((k : Int) + 2)) ∧ Below wq.heap.size wq w') := fun W hW => by
            have h := chain_depth (HG.out _ (HQ.out _ hW)) (HCh.out _ hW) hW.size (fun W _ => asMiss_nil W)
            have e2 : ((k + 1 + 1 : Nat) : Int) = (k : Int) + 2 := by omega
            rw [e2] at h
            refine h.mono ?_
            rintro e w' ⟨rfl, hb⟩
            exact ⟨rfl, hW.trans (hb.mono hW.size)⟩
          clear hr htr e ez
          go_wp2_with fail
          refine (chain_first (HG.out _ (HQ.out _ HB2.out)) b1).mono ?_
          rintro e w3 ⟨rfl, hb3⟩
          have HB3 : Hid (Below wq.heap.size wq w3) := HB2.out.trans (hb3.mono HB2.out.size)
          have q1 := cell_of_block (HTq.out _ HB3.out) 1
          have hz := HZ.out k (by omega) _ (HQ.out _ HB3.out)
          have hidx : (0 : Int) ≤ (k : Int) := by omega
          clear hb3
          go_wp2_with fail
          have hidx1 : (k : Int) < (K : Int) := by omega
          have hwr : IntKind.i64.wrap ((k : Int) + 2) = (k : Int) + 2 := IntWalk.i64_in _ (by omega)
          go_region_held3 (fun w' => w'.cell? ⟨b1, 1, none⟩ = some (.int .i64 (zs.getD k 0)) ∧ w'.cell? (a.add k) = some (.int .i64 (zs.getD k 0)))
            (first | go_keep | exact ⟨s1, s2⟩)
            (first
              | (go_at_call 18; refine (HD.out _ ?_).mono ?_; (first | exact HB3.out | exact HB3.out.drew); rintro e w4 ⟨rfl, hb4⟩; have HB4 := Lib.hid hb4; have s1 := cell_of_block (HTq.out _ hb4) 1; have s2 := HZ.out k (by omega) _ (HQ.out _ hb4); clear hb4))
          all_goals
            have c7 : w4.cell? ⟨b1, 7, none⟩ = some (ptrErr b3) := cell_of_block (HTq.out _ HB4.out) 7
            go_wp2_with (go_at_call 22; refine (Unwrap_trap b1 _ w4 c7).mono ?_; rintro e w5 ⟨rfl, rfl⟩)
            go_roundw
            case rel => exact ⟨k, b3, by omega, rfl, rfl, HR.out, HB4.out⟩
            case measure => simp [intOf]

set_option maxRecDepth 100000 in
set_option maxHeartbeats 12000000 in
/-- The same at the slice nil: no round of either loop. -/
theorem outer_none (n x0 x1 x2 x3 x4 : Int) (w : World) (hg : Held w) :
    Calls Tryd.prog 10 #[.int .i64 n, .slice none 0 0, .agg #[.int .u64 x0, .int .u64 x1, .int .u64 x2, .int .u64 x3, .int .u64 x4]] w fun e w' => e = .returned (.bool true) ∧ Below w.heap.size w w' := by
  obtain ⟨c, hc1, hc2, hcn⟩ := code_c n
  have HCn := Lib.hid hcn
  have hcz : (((c : Nat) : Int) == 0) = false := beq_eq_false_iff_ne.2 (by omega)
  have HCz := Lib.hid hcz
  have HG : Hid (∀ W, Below w.heap.size w W → Held W) := fun W hW => hg.below hW hg.pos
  have HB0 := Lib.hid ((Below.refl w.heap.size w).alloc (Nat.le_refl _) (.cells #[.int .u64 x0, .int .u64 x1, .int .u64 x2, .int .u64 x3, .int .u64 x4] 25))
  have HBg := Lib.hid (begun_any _ (HG.out _ HB0.out))
  clear hcn hcz hg
  go_enter Tryd.func10, Tryd.ntmps10
  go_wp2_with fail
  refine HBg.out.mono ?_
  rintro e w1 ⟨rfl, hb1⟩
  have HB1 : Hid (Below w.heap.size w w1) := HB0.out.trans (hb1.mono (by simp))
  clear hb1
  go_wp2_with (go_at_call 12; refine (HCn.out _).mono ?_; rintro e w' ⟨rfl, rfl⟩)
  refine (of_post c HCz.out w1).mono ?_
  rintro e w2 ⟨o, rfl, ho, hat, hs2, hb2⟩
  have HO := Lib.hid hat
  have HB2 : Hid (Below w.heap.size w w2) := HB1.out.trans (hb2.mono HB1.out.size)
  have Hs2 := Lib.hid hs2
  have HCh : Hid (∀ W, Below w2.heap.size w2 W → Chain W c .nilIface 1 w2.heap.size (ptrErr o)) := fun W hW => ((show EC w2 c [] w2.heap.size (ptrErr o) from ⟨o, rfl, by rw [hs2]; omega, hat⟩).later hW (Nat.le_refl _)).chain
  clear ho hat hs2 hb2
  go_wp2_with fail
  go_loopw [8, 26] (fun e ix wr => e = ptrErr o ∧ ix = .int .i64 0 ∧ wr = w2) (fun _ _ _ => 0)
  case atStart => exact ⟨rfl, rfl, rfl⟩
  case round =>
    obtain ⟨rfl, rfl, rfl⟩ := hrel
    go_wp2_with fail
    go_loopw [8, 10] (fun e i wr' => e = ptrErr o ∧ i = .int .i64 (-1) ∧ wr' = wr) (fun _ _ _ => 0)
    case atStart => exact ⟨rfl, rfl, rfl⟩
    case round =>
      obtain ⟨rfl, rfl, rfl⟩ := hrel
      have hn := fun W => run_neq_held_nil (P := Tryd.prog) W 30 34 (.pointer (some ⟨o, 0, none⟩)) (by kernel_rfl)
      go_wp2_with fail
      refine (chain_depth (HG.out _ HB2.out) (HCh.out _ (Below.refl _ _)) (Nat.le_refl _) (fun W _ => asMiss_nil W)).mono ?_
      rintro e w3 ⟨rfl, hb3⟩
      have HB3 := Lib.hid hb3
      have c7 : w3.cell? ⟨o, 7, none⟩ = some .nilIface := by
        obtain ⟨env, k0, k1, k2, k3, k4, v1, _, ht, hv⟩ := chain_trap (HCh.out _ HB3.out)
        obtain rfl : v1 = .nilIface := hv
        exact cell_of_block ht 7
      clear hb3
      go_wp2_with fail
      refine (Unwrap_trap o _ w3 c7).mono ?_
      rintro e w4 ⟨rfl, rfl⟩
      go_wp2_with fail
      go_ret
      exact ⟨rfl, HB2.out.trans (HB3.out.mono HB2.out.size)⟩
end Go.Proofs.YtnmlmhhohemffaaDoor
