/- What is proved here: the walk of the statement TrapJoin: for all n, m, env and words it answers true and leaves the memory that was there as it was. Conditions: the library's variable errors.errorType holds the type error. -/
import Derived.Test.YtnmlmhhohemffaaDoorInOf
import Derived.Test.YtnmlmhhohemffaaDoorJoinIs
import Derived.Deep.RegionWith
import Derived.Deep.DeepCutAuto
namespace Go.Proofs.YtnmlmhhohemffaaDoor
open Go.RowKit Go.Extern.Stop Go.Stop Go.Extern

set_option maxRecDepth 100000 in
set_option maxHeartbeats 2000000 in
theorem join_walk (n m env x0 x1 x2 x3 x4 : Int) (w : World) (hg : Held w) :
    Calls Tryd.prog 9 #[.int .i64 n, .int .i64 m, .int .i64 env, .agg #[.int .u64 x0, .int .u64 x1, .int .u64 x2, .int .u64 x3, .int .u64 x4]] w fun e w' => e = .returned (.bool true) ∧ Below w.heap.size w w' := by
  obtain ⟨c, hc1, hc2, hcn⟩ := code_c n
  obtain ⟨d, hd1, hd2, hcm⟩ := code_c m
  have HCn := Lib.hid hcn
  have HCm := Lib.hid hcm
  have hcz : (((c : Nat) : Int) == 0) = false := beq_eq_false_iff_ne.2 (by omega)
  have HCz := Lib.hid hcz
  have hdz : (((d : Nat) : Int) == 0) = false := beq_eq_false_iff_ne.2 (by omega)
  have HDz := Lib.hid hdz
  have HG : Hid (∀ W, Below w.heap.size w W → Held W) := fun W hW => hg.below hW hg.pos
  have HB0 := Lib.hid ((Below.refl w.heap.size w).alloc (Nat.le_refl _) (.cells #[.int .u64 x0, .int .u64 x1, .int .u64 x2, .int .u64 x3, .int .u64 x4] 25))
  have HBg := Lib.hid (begun_any _ (HG.out _ HB0.out))
  clear hcn hcm hcz hdz hg
  go_enter Tryd.func9, Tryd.ntmps9
  go_wp2_with fail
  refine HBg.out.mono ?_
  rintro e w1 ⟨rfl, hb1⟩
  have Hb1 := Lib.hid hb1
  have HB1 : Hid (Below w.heap.size w w1) := HB0.out.trans (hb1.mono HB0.out.size)
  have l0 := box_cells hb1 0
  have l1 := box_cells hb1 1
  have l2 := box_cells hb1 2
  have l3 := box_cells hb1 3
  have l4 := box_cells hb1 4
  clear hb1
  go_upto_region 4 with (fail)
  go_cut [10, 11] (fun x y W => ∃ b t, x = ptrErr b ∧ y = ptrErr t ∧ TwoAt w c d env b t W)
  case first =>
    go_region_with (first
      | (go_at_call_of 12 (Value.int IntKind.i64 n); refine (HCn.out _).mono ?_; rintro e w' ⟨rfl, rfl⟩)
      | (go_at_call_of 12 (Value.int IntKind.i64 m); refine (HCm.out _).mono ?_; rintro e w' ⟨rfl, rfl⟩)
      | (go_at_call_of 13 (Value.int IntKind.i64 ((c : Nat) : Int)); refine (of_post c HCz.out _).mono ?_; rintro e wo ⟨o, rfl, ho, hat, hs, hb⟩; have Hbo : Hid (Below w1.heap.size w1 wo) := Below.trans (by first | exact Below.refl _ _ | exact (Below.refl _ _).drew) (hb.mono (by simp)); have HO := Lib.hid hat; have Hs := Lib.hid hs; clear ho hat hs hb; have m0 := box_cells (Hb1.out.trans (Hbo.out.mono Hb1.out.size)) 0; have m1 := box_cells (Hb1.out.trans (Hbo.out.mono Hb1.out.size)) 1; have m2 := box_cells (Hb1.out.trans (Hbo.out.mono Hb1.out.size)) 2; have m3 := box_cells (Hb1.out.trans (Hbo.out.mono Hb1.out.size)) 3; have m4 := box_cells (Hb1.out.trans (Hbo.out.mono Hb1.out.size)) 4)
      | (go_at_call_of 13 (Value.int IntKind.i64 ((d : Nat) : Int)); refine (of_post d HDz.out _).mono ?_; rintro e wt ⟨t, rfl, ht, hat, hs, hb⟩; have H2 := Lib.hid (two_at HI.out ht hat hs hb); clear ht hat hs hb)
      | (go_at_call 15; refine (in_of env x0 x1 x2 x3 x4 HG.out HB1.out Hbo.out HO.out Hs.out).mono ?_; rintro e wi ⟨b, rfl, hio, _⟩; have HI := Lib.hid hio; clear hio))
    all_goals
      go_wp2_with (fail)
      go_meet
      case rel => exact ⟨_, _, rfl, rfl, H2.out⟩
  case rest =>
    obtain ⟨b, t, rfl, rfl, k0, k1, k2, k3, k4, v, B, htr, hch, hBt, hat, hsz, hbl⟩ := hcut
    have HBc := Lib.hid hbl
    have HT : Hid (∀ W, Below wc.heap.size wc W → TrapAt W b c env k0 k1 k2 k3 k4 v) := fun W hW => htr.later hW (lt_of_block htr)
    have HC : Hid (∀ W, Below wc.heap.size wc W → Chain W c .nilIface 2 B (ptrErr b)) := fun W hW => hch.later hW (by omega)
    have HO : Hid (∀ W, Below wc.heap.size wc W → OfAt W t d) := fun W hW => hat.later hW (by omega)
    have hbB : b < B := (chain_trap hch).choose_spec.choose_spec.choose_spec.choose_spec.choose_spec.choose_spec.choose_spec.1
    have Hsz := Lib.hid hsz
    have hn67 := fun W j => run_neq_held_nil (P := Tryd.prog) W 30 67 (.pointer (some ⟨j, 0, none⟩)) (by kernel_rfl)
    clear htr hch hat hsz hbl
    have hB1 := Lib.hid ((Below.refl wc.heap.size wc).alloc (Nat.le_refl _) (.cells #[ptrErr b, ptrErr t] 30))
    have HJ := Lib.hid (join_two 34 34 (.pointer (some ⟨b, 0, none⟩)) (.pointer (some ⟨t, 0, none⟩)) wc.heap.size (wc.alloc (.cells #[ptrErr b, ptrErr t] 30)) (by rw [World.cell?_alloc_at _ _ _ _ rfl]; rfl) (by rw [World.cell?_alloc_at _ _ _ _ rfl]; rfl))
    go_wp2_with fail
    refine HJ.out.mono ?_
    rintro e wj ⟨j, rfl, hj, hbj⟩
    have HBj : Hid (Below wc.heap.size wc wj) := hB1.out.trans (hbj.mono hB1.out.size)
    have HJA : Hid (∀ W, Below wj.heap.size wj W → JoinAt W j (ptrErr b) (ptrErr t)) := fun W hW => hj.later hW
    have HGj : Hid (∀ W, Below wj.heap.size wj W → Held W ∧ Below wc.heap.size wc W) := fun W hW => by
      have h := HBj.out.trans (hW.mono HBj.out.size)
      exact ⟨HG.out _ (HBc.out.trans (h.mono HBc.out.size)), h⟩
    have HH : Hid (∀ W, Below wj.heap.size wj W → AsHit W (joinErr j) ⟨b, 0, none⟩) := fun W hW => asHit_join_first W (HGj.out W hW).1 j b _ (HJA.out W hW)
    clear hj hbj
    go_wp2_with fail
    refine (first_hit _ _ wj (HH.out _ (Below.refl _ _))).mono ?_
    rintro e w2 ⟨rfl, hb2⟩
    have HB2 := Lib.hid hb2
    have q1 := cell_of_block (HT.out _ (HGj.out _ hb2).2) 1
    have HK := Lib.hid (code_hit 67 (.pointer (some ⟨j, 0, none⟩)) b _ w2 (HH.out _ hb2) (cell_of_block (HT.out _ (HGj.out _ hb2).2) 0))
    clear hb2
    go_wp2_with fail
    refine HK.out.mono ?_
    rintro e w3 ⟨rfl, hb3⟩
    have HB3 : Hid (Below wj.heap.size wj w3) := HB2.out.trans (hb3.mono HB2.out.size)
    clear hb3 q1
    go_wp2_with (first
      | (go_at_call_of 12 (Value.int IntKind.i64 n); refine (HCn.out _).mono ?_; rintro e w' ⟨rfl, rfl⟩)
      | (go_at_call_of 12 (Value.int IntKind.i64 m); refine (HCm.out _).mono ?_; rintro e w' ⟨rfl, rfl⟩))
    refine (of_post c HCz.out w3).mono ?_
    rintro e w4 ⟨s, rfl, hs, hat, _, hb4⟩
    have HB4 : Hid (Below wj.heap.size wj w4) := HB3.out.trans (hb4.mono HB3.out.size)
    have HS4 := Lib.hid hat
    have hs4 : wj.heap.size ≤ s := by rw [hs]; exact HB3.out.size
    have htj : t + 1 ≤ wj.heap.size := by rw [← Hsz.out]; exact HBj.out.size
    clear hs hat hb4
    go_wp2_with fail
    have HI1 : Hid (Calls Tryd.prog 19 #[joinErr j, ptrErr s] w4 fun e w' => e = .returned (.bool true) ∧ Below w4.heap.size w4 w') := by
      refine Is_trap _ _ _ w4 ((is_join_first j s _ _ w4 (HJA.out _ HB4.out) (is_same_code c b s env k0 k1 k2 k3 k4 v w4 (HGj.out _ HB4.out).1 (HT.out _ (HGj.out _ HB4.out).2) HS4.out (by omega))).mono ?_)
      rintro e w' ⟨rfl, hb⟩
      exact ⟨true, rfl, rfl, hb⟩
    refine HI1.out.mono ?_
    rintro e w5 ⟨rfl, hb5⟩
    have HB5 : Hid (Below wj.heap.size wj w5) := HB4.out.trans (hb5.mono HB4.out.size)
    clear hb5
    go_wp2_with (first
      | (go_at_call_of 12 (Value.int IntKind.i64 n); refine (HCn.out _).mono ?_; rintro e w' ⟨rfl, rfl⟩)
      | (go_at_call_of 12 (Value.int IntKind.i64 m); refine (HCm.out _).mono ?_; rintro e w' ⟨rfl, rfl⟩))
    refine (of_post d HDz.out w5).mono ?_
    rintro e w6 ⟨s2, rfl, hs, hat, _, hb6⟩
    have HB6 : Hid (Below wj.heap.size wj w6) := HB5.out.trans (hb6.mono HB5.out.size)
    have HS6 := Lib.hid hat
    have hs6 : wj.heap.size ≤ s2 := by rw [hs]; exact HB5.out.size
    have HI : Hid (Calls Tryd.prog 19 #[joinErr j, ptrErr s2] w6 fun e w' => e = .returned (.bool true) ∧ Below w6.heap.size w6 w') := by
      by_cases hcd : d = c
      · subst hcd
        refine Is_trap _ _ _ w6 ((is_join_first j s2 _ _ w6 (HJA.out _ HB6.out) (is_same_code d b s2 env k0 k1 k2 k3 k4 v w6 (HGj.out _ HB6.out).1 (HT.out _ (HGj.out _ HB6.out).2) HS6.out (by omega))).mono ?_)
        rintro e w' ⟨rfl, hb⟩
        exact ⟨true, rfl, rfl, hb⟩
      · have hd' : (((d : Nat) : Int) == ((c : Nat) : Int)) = false := beq_eq_false_iff_ne.2 (by omega)
        refine Is_trap _ _ _ w6 ((is_join_second j s2 _ _ w6 (HJA.out _ HB6.out) (is_chain_no c d hd' 1 B s2 _ w6 (HGj.out _ HB6.out).1 HS6.out (fun i hi => by omega) (HC.out _ (HGj.out _ HB6.out).2)) ?_).mono ?_)
        · intro W hW
          have hW2 := HB6.out.trans (hW.mono HB6.out.size)
          exact is_same_code d t s2 _ _ _ _ _ _ _ W (HGj.out _ hW2).1 (HO.out _ (HGj.out _ hW2).2) (HS6.out.later hW (lt_of_block HS6.out)) (by omega)
        · rintro e w' ⟨rfl, hb⟩
          exact ⟨true, rfl, rfl, hb⟩
    clear hs hat hb6
    go_wp2_with fail
    refine HI.out.mono ?_
    rintro e w7 ⟨rfl, hb7⟩
    have HB7 : Hid (Below wj.heap.size wj w7) := HB6.out.trans (hb7.mono HB6.out.size)
    clear hb7
    go_wp2_with fail
    refine (depth_hit _ 1 c .nilIface B b w7 (HGj.out _ HB7.out).1 (HH.out _ HB7.out) (fun W _ => asMiss_nil W) (HC.out _ (HGj.out _ HB7.out).2) (by have := HB7.out.size; omega)).mono ?_
    rintro e w8 ⟨rfl, hb8⟩
    have HB8 : Hid (Below wj.heap.size wj w8) := HB7.out.trans (hb8.mono HB7.out.size)
    clear hb8
    go_wp2_with fail
    go_ret
    exact ⟨rfl, HBc.out.trans ((HGj.out _ HB8.out).2.mono HBc.out.size)⟩
end Go.Proofs.YtnmlmhhohemffaaDoor
