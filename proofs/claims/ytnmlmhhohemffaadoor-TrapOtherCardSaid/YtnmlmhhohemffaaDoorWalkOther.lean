/- What is proved here: the walk of the statement TrapOther: for all n, env and words it answers true and leaves the memory that was there as it was. Conditions: the library's variable errors.errorType holds the type error. -/
import Derived.Test.YtnmlmhhohemffaaDoorInOf
import Derived.Test.YtnmlmhhohemffaaDoorJoinIs
import Derived.Deep.RegionWith
import Derived.Deep.DeepCutAuto
namespace Go.Proofs.YtnmlmhhohemffaaDoor
open Go.RowKit Go.Extern.Stop Go.Stop Go.Extern

/-- What errors.Join of the error at s and of In of a new trap leaves. -/
def OtherAt (wx : World) (c : Nat) (env : Int) (s j : Nat) (W : World) : Prop :=
  ∃ b k0 k1 k2 k3 k4 v B, TrapAt W b c env k0 k1 k2 k3 k4 v ∧ Chain W c .nilIface 2 B (ptrErr b) ∧ B ≤ W.heap.size ∧ JoinAt W j (strErr s) (ptrErr b) ∧ Below wx.heap.size wx W

theorem text_9 : (repText 9 1 ++ [97, 110, 111, 116, 104, 101, 114]).toArray = #[116, 114, 97, 112, 32, 57, 58, 32, 97, 110, 111, 116, 104, 101, 114] := by
  simp [repText, trapText, decDigits_small]

theorem join_other {wx wi : World} {c s b : Nat} {env : Int} (hi : InOf wx c env b wi) :
    Calls Tryd.prog 21 #[.slice (some ⟨wi.heap.size, 0, none⟩) 2 2] (wi.alloc (.cells #[strErr s, ptrErr b] 30)) fun e w' => ∃ j, e = .returned (joinErr j) ∧ OtherAt wx c env s j w' := by
  obtain ⟨k0, k1, k2, k3, k4, v, ht, hch, hb⟩ := hi
  have hb1 := (Below.refl wi.heap.size wi).alloc (Nat.le_refl _) (.cells #[strErr s, ptrErr b] 30)
  refine (join_two 63 34 (.pointer (some ⟨s, 0, none⟩)) (.pointer (some ⟨b, 0, none⟩)) wi.heap.size _ (by rw [World.cell?_alloc_at _ _ _ _ rfl]; rfl) (by rw [World.cell?_alloc_at _ _ _ _ rfl]; rfl)).mono ?_
  rintro e wj ⟨j, rfl, hj, hbj⟩
  have hb2 := hb1.trans (hbj.mono hb1.size)
  exact ⟨j, rfl, b, k0, k1, k2, k3, k4, v, wi.heap.size, ht.later hb2 (lt_of_block ht), hch.later hb2 (Nat.le_refl _), hb2.size, hj, hb.trans (hb2.mono hb.size)⟩

set_option maxRecDepth 100000 in
set_option maxHeartbeats 2000000 in
theorem other_walk (n env x0 x1 x2 x3 x4 : Int) (w : World) (hg : Held w) :
    Calls Tryd.prog 4 #[.int .i64 n, .int .i64 env, .agg #[.int .u64 x0, .int .u64 x1, .int .u64 x2, .int .u64 x3, .int .u64 x4]] w fun e w' => e = .returned (.bool true) ∧ Below w.heap.size w w' := by
  obtain ⟨c, hc1, hc2, hcn⟩ := code_c n
  have HCn := Lib.hid hcn
  have hcz : (((c : Nat) : Int) == 0) = false := beq_eq_false_iff_ne.2 (by omega)
  have HCz := Lib.hid hcz
  have HG : Hid (∀ W, Below w.heap.size w W → Held W) := fun W hW => hg.below hW hg.pos
  have HB0 := Lib.hid ((Below.refl w.heap.size w).alloc (Nat.le_refl _) (.cells #[.int .u64 x0, .int .u64 x1, .int .u64 x2, .int .u64 x3, .int .u64 x4] 25))
  have HBg := Lib.hid (begun_any _ (HG.out _ HB0.out))
  clear hcn hcz hg
  go_enter Tryd.func4, Tryd.ntmps4
  go_wp2_with fail
  refine HBg.out.mono ?_
  rintro e w1 ⟨rfl, hb1⟩
  have Hb1 := Lib.hid hb1
  have HB1 : Hid (Below w.heap.size w w1) := HB0.out.trans (hb1.mono HB0.out.size)
  clear hb1
  go_wp2_with fail
  refine (new_any _ w1).mono ?_
  rintro e w' ⟨rfl, rfl⟩
  have Hnew := Lib.hid (MapKept.heap_alloc w1 (.cells #[.string ⟨#[97, 110, 111, 116, 104, 101, 114]⟩] 65)).1
  have Hb2 := Lib.hid (Hb1.out.alloc Hb1.out.size (.cells #[.string ⟨#[97, 110, 111, 116, 104, 101, 114]⟩] 65))
  have HB2 := Lib.hid (HB1.out.alloc HB1.out.size (.cells #[.string ⟨#[97, 110, 111, 116, 104, 101, 114]⟩] 65))
  have hs2 : (w1.alloc (.cells #[.string ⟨#[97, 110, 111, 116, 104, 101, 114]⟩] 65)).heap.size = w1.heap.size + 1 := by simp
  have Hs2 := Lib.hid hs2
  clear hs2
  obtain ⟨s, hs⟩ : ∃ s, s = w1.heap.size := ⟨_, rfl⟩
  rw [← hs]
  have Hs := Lib.hid hs
  rw [← hs] at Hnew
  rw [← hs] at Hs2
  clear hs
  generalize w1.alloc (.cells #[.string ⟨#[97, 110, 111, 116, 104, 101, 114]⟩] 65) = w2 at Hnew Hb2 HB2 Hs2 ⊢
  have l0 := box_cells Hb2.out 0
  have l1 := box_cells Hb2.out 1
  have l2 := box_cells Hb2.out 2
  have l3 := box_cells Hb2.out 3
  have l4 := box_cells Hb2.out 4
  go_wp2_with fail
  refine (in_some 63 (.pointer (some ⟨s, 0, none⟩)) 9 env x0 x1 x2 x3 x4 w2 (fun W hW => code_miss _ _ W (asMiss_other W (HG.out _ (HB2.out.trans (hW.mono HB2.out.size))) _))).mono ?_
  rintro e w3 ⟨a, rfl, ha, hta, hb3⟩
  have Hb3 : Hid (Below (w.alloc (.cells #[.int .u64 x0, .int .u64 x1, .int .u64 x2, .int .u64 x3, .int .u64 x4] 25)).heap.size (w.alloc (.cells #[.int .u64 x0, .int .u64 x1, .int .u64 x2, .int .u64 x3, .int .u64 x4] 25)) w3) := Hb2.out.trans (hb3.mono Hb2.out.size)
  have HB3 : Hid (Below w.heap.size w w3) := HB2.out.trans (hb3.mono HB2.out.size)
  have HA : Hid (∀ W, Below w3.heap.size w3 W → TrapAt W a 9 env (.int .u64 x0) (.int .u64 x1) (.int .u64 x2) (.int .u64 x3) (.int .u64 x4) (strErr s)) := fun W hW => hta.later hW (lt_of_block hta)
  have HS : Hid (∀ W, Below w3.heap.size w3 W → W.cell? ⟨s, 0, none⟩ = some (.string ⟨#[97, 110, 111, 116, 104, 101, 114]⟩)) := fun W hW => by
    have h2 := hb3.trans (hW.mono hb3.size)
    rw [h2.cell (p := ⟨s, 0, none⟩) (by show s < _; rw [Hs2.out]; omega)]
    exact cell_of_block Hnew.out 0
  have has : s < a := by have := Hs2.out; omega
  have hal : a < w3.heap.size := lt_of_block hta
  have HGw : Hid (∀ W, Below w3.heap.size w3 W → Held W) := fun W hW => HG.out _ (HB3.out.trans (hW.mono HB3.out.size))
  have l0 := box_cells Hb3.out 0
  have l1 := box_cells Hb3.out 1
  have l2 := box_cells Hb3.out 2
  have l3 := box_cells Hb3.out 3
  have l4 := box_cells Hb3.out 4
  clear ha hta hb3
  go_upto_region 6 with (fail)
  go_cut [10] (fun x W => ∃ j, x = joinErr j ∧ OtherAt w3 c env s j W)
  case first =>
    go_region_with (first
      | (go_at_call 12; refine (HCn.out _).mono ?_; rintro e w' ⟨rfl, rfl⟩)
      | (go_at_call 13; refine (of_post c HCz.out _).mono ?_; rintro e wo ⟨o, rfl, ho, hat, hs, hb⟩; have Hbo : Hid (Below w3.heap.size w3 wo) := Below.trans (by first | exact Below.refl _ _ | exact (Below.refl _ _).drew) (hb.mono (by simp)); have HO := Lib.hid hat; have Hs := Lib.hid hs; clear ho hat hs hb; have m0 := box_cells (Hb3.out.trans (Hbo.out.mono Hb3.out.size)) 0; have m1 := box_cells (Hb3.out.trans (Hbo.out.mono Hb3.out.size)) 1; have m2 := box_cells (Hb3.out.trans (Hbo.out.mono Hb3.out.size)) 2; have m3 := box_cells (Hb3.out.trans (Hbo.out.mono Hb3.out.size)) 3; have m4 := box_cells (Hb3.out.trans (Hbo.out.mono Hb3.out.size)) 4)
      | (go_at_call 15; refine (in_of (w := w3) (w1 := w3) env x0 x1 x2 x3 x4 HGw.out (Below.refl _ _) Hbo.out HO.out Hs.out).mono ?_; rintro e wi ⟨b, rfl, hio, _⟩; have HI := Lib.hid hio; clear hio)
      | (go_at_call 21; refine (join_other (s := s) HI.out).mono ?_; rintro e wj ⟨j, rfl, ho⟩; have HJ := Lib.hid ho; clear ho))
    all_goals
      go_wp2_with (fail)
      go_meet
      case rel => exact ⟨_, rfl, HJ.out⟩
  case rest =>
    obtain ⟨j, rfl, b, k0, k1, k2, k3, k4, v, B, htr, hch, hBc, hj, hbl⟩ := hcut
    have HBc := Lib.hid hbl
    have HT : Hid (∀ W, Below wc.heap.size wc W → TrapAt W b c env k0 k1 k2 k3 k4 v) := fun W hW => htr.later hW (lt_of_block htr)
    have HC : Hid (∀ W, Below wc.heap.size wc W → Chain W c .nilIface 2 B (ptrErr b)) := fun W hW => hch.later hW hBc
    have HJ : Hid (∀ W, Below wc.heap.size wc W → JoinAt W j (strErr s) (ptrErr b)) := fun W hW => hj.later hW
    have H3 : Hid (∀ W, Below wc.heap.size wc W → Below w3.heap.size w3 W) := fun W hW => HBc.out.trans (hW.mono HBc.out.size)
    have HH : Hid (∀ W, Below wc.heap.size wc W → AsHit W (joinErr j) ⟨b, 0, none⟩) := fun W hW => asHit_join_second W (HGw.out _ (H3.out W hW)) j s b (HJ.out W hW)
    have hbl : b < wc.heap.size := lt_of_block htr
    clear htr hch hj
    have n67 := fun W => run_eql_held_nil (P := Tryd.prog) W 30 67 (.pointer (some ⟨j, 0, none⟩)) (by kernel_rfl)
    have n34 := fun W => run_eql_held_nil (P := Tryd.prog) W 30 34 (.pointer (some ⟨a, 0, none⟩)) (by kernel_rfl)
    have mE := Tryd.methodErrorP
    go_wp2_with fail
    refine (first_miss _ wc (asMiss_other wc (HGw.out _ (H3.out _ (Below.refl _ _))) _)).mono ?_
    rintro e w4 ⟨rfl, hb4⟩
    have HB4 := Lib.hid hb4
    clear hb4
    go_wp2_with fail
    refine (first_hit _ _ w4 (HH.out _ HB4.out)).mono ?_
    rintro e w5 ⟨rfl, hb5⟩
    have HB5 : Hid (Below wc.heap.size wc w5) := HB4.out.trans (hb5.mono HB4.out.size)
    clear hb5
    go_wp2_with fail
    refine (code_miss _ _ w5 (asMiss_other w5 (HGw.out _ (H3.out _ HB5.out)) _)).mono ?_
    rintro e w6 ⟨rfl, hb6⟩
    have HB6 : Hid (Below wc.heap.size wc w6) := HB5.out.trans (hb6.mono HB5.out.size)
    clear hb6
    go_wp2_with fail
    refine (depth_miss _ w6 (asMiss_other w6 (HGw.out _ (H3.out _ HB6.out)) _)).mono ?_
    rintro e w7 ⟨rfl, hb7⟩
    have HB7 : Hid (Below wc.heap.size wc w7) := HB6.out.trans (hb7.mono HB6.out.size)
    clear hb7
    go_wp2_with fail
    refine (code_hit _ _ a _ w7 (asHit_trap w7 (HGw.out _ (H3.out _ HB7.out)) _) (cell_of_block (HA.out _ (H3.out _ HB7.out)) 0)).mono ?_
    rintro e w8 ⟨rfl, hb8⟩
    have HB8 : Hid (Below wc.heap.size wc w8) := HB7.out.trans (hb8.mono HB7.out.size)
    clear hb8
    have HCa : Hid (∀ W, Below w3.heap.size w3 W → Chain W 9 (strErr s) 1 w3.heap.size (ptrErr a)) := fun W hW => ⟨a, env, _, _, _, _, _, _, rfl, hal, HA.out W hW, rfl⟩
    go_wp2_with fail
    refine (chain_depth (HGw.out _ (H3.out _ HB8.out)) (HCa.out _ (H3.out _ HB8.out)) (H3.out _ HB8.out).size (fun W hW => asMiss_other W (HGw.out _ (H3.out _ (HB8.out.trans (hW.mono HB8.out.size)))) _)).mono ?_
    rintro e w9 ⟨rfl, hb9⟩
    have HB9 : Hid (Below wc.heap.size wc w9) := HB8.out.trans (hb9.mono HB8.out.size)
    clear hb9
    have HIa : Hid (Calls Tryd.prog 19 #[ptrErr a, strErr s] w9 fun e w' => e = .returned (.bool true) ∧ Below w9.heap.size w9 w') := by
      refine Is_str _ _ _ w9 ((is_wraps_str 9 a s env _ _ _ _ _ w9 (HGw.out _ (H3.out _ HB9.out)) (HA.out _ (H3.out _ HB9.out))).mono ?_)
      rintro e w' ⟨rfl, hb⟩
      exact ⟨true, rfl, rfl, hb⟩
    go_wp2_with fail
    refine HIa.out.mono ?_
    rintro e wa ⟨rfl, hba⟩
    have HBa : Hid (Below wc.heap.size wc wa) := HB9.out.trans (hba.mono HB9.out.size)
    clear hba
    have HE : Hid (Calls Tryd.prog 24 #[.pointer (some ⟨a, 0, none⟩)] wa fun e w' => e = .returned (.string ⟨#[116, 114, 97, 112, 32, 57, 58, 32, 97, 110, 111, 116, 104, 101, 114]⟩) ∧ Below wa.heap.size wa w') := by
      rw [← text_9]
      exact error_any 9 0 w3.heap.size a (by omega) (by omega) wa (HGw.out _ (H3.out _ HBa.out)) (H3.out _ HBa.out).size (strErr s) _ (Or.inr ⟨s, _, rfl, HS.out _ (H3.out _ HBa.out), by decide, rfl⟩) (HCa.out _ (H3.out _ HBa.out))
    go_wp2_with fail
    refine HE.out.mono ?_
    rintro e wb ⟨rfl, hbb⟩
    have HBb : Hid (Below wc.heap.size wc wb) := HBa.out.trans (hbb.mono HBa.out.size)
    clear hbb
    go_wp2_with fail
    refine (code_hit _ _ b _ wb (HH.out _ HBb.out) (cell_of_block (HT.out _ HBb.out) 0)).mono ?_
    rintro e wd ⟨rfl, hbd⟩
    have HBd : Hid (Below wc.heap.size wc wd) := HBb.out.trans (hbd.mono HBb.out.size)
    clear hbd
    go_wp2_with (go_at_call 12; refine (HCn.out _).mono ?_; rintro e w' ⟨rfl, rfl⟩)
    refine (depth_hit _ 1 c .nilIface B b wd (HGw.out _ (H3.out _ HBd.out)) (HH.out _ HBd.out) (fun W _ => asMiss_nil W) (HC.out _ HBd.out) (by have := HBd.out.size; omega)).mono ?_
    rintro e we ⟨rfl, hbe⟩
    have HBe : Hid (Below wc.heap.size wc we) := HBd.out.trans (hbe.mono HBd.out.size)
    have q1 := cell_of_block (HT.out _ HBe.out) 1
    clear hbe
    go_wp2_with (go_at_call 12; refine (HCn.out _).mono ?_; rintro e w' ⟨rfl, rfl⟩)
    refine (of_post c HCz.out we).mono ?_
    rintro e wf ⟨t, rfl, ht, hat, _, hbf⟩
    have HBf : Hid (Below wc.heap.size wc wf) := HBe.out.trans (hbf.mono HBe.out.size)
    have hbt : b ≠ t := by have := HBe.out.size; omega
    have HIj : Hid (Calls Tryd.prog 19 #[joinErr j, ptrErr t] wf fun e w' => e = .returned (.bool true) ∧ Below wf.heap.size wf w') := by
      refine Is_trap _ _ _ wf ((is_join_second j t _ _ wf (HJ.out _ HBf.out) (is_str_trap s t wf) ?_).mono ?_)
      · intro W hW
        have hW2 := HBf.out.trans (hW.mono HBf.out.size)
        exact is_same_code c b t env k0 k1 k2 k3 k4 v W (HGw.out _ (H3.out _ hW2)) (HT.out _ hW2) (hat.later hW (lt_of_block hat)) hbt
      · rintro e w' ⟨rfl, hb⟩
        exact ⟨true, rfl, rfl, hb⟩
    clear ht hat hbf q1
    go_wp2_with fail
    refine HIj.out.mono ?_
    rintro e wg ⟨rfl, hbg⟩
    have HBg : Hid (Below wc.heap.size wc wg) := HBf.out.trans (hbg.mono HBf.out.size)
    clear hbg
    go_wp2_with fail
    go_ret
    exact ⟨rfl, HB3.out.trans ((H3.out _ HBg.out).mono HB3.out.size)⟩
end Go.Proofs.YtnmlmhhohemffaaDoor
