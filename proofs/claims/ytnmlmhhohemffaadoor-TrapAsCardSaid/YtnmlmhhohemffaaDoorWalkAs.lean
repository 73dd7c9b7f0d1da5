/- What is proved here: the walk of the statement TrapAs: for all n, m, env and words it answers true and leaves the memory that was there as it was. Conditions: the library's variable errors.errorType holds the type error. -/
import Derived.Test.YtnmlmhhohemffaaDoorInOf
import Derived.Test.YtnmlmhhohemffaaDoorIsAny
import Derived.Deep.RegionWith
import Derived.Deep.DeepCutAuto
namespace Go.Proofs.YtnmlmhhohemffaaDoor
open Go.RowKit Go.Extern.Stop Go.Stop Go.Extern

set_option maxRecDepth 100000 in
set_option maxHeartbeats 10000000 in
theorem as_walk (n m env x0 x1 x2 x3 x4 : Int) (w : World) (hg : Held w) :
    Calls Tryd.prog 6 #[.int .i64 n, .int .i64 m, .int .i64 env, .agg #[.int .u64 x0, .int .u64 x1, .int .u64 x2, .int .u64 x3, .int .u64 x4]] w fun e w' => e = .returned (.bool true) ∧ Below w.heap.size w w' := by
  obtain ⟨c, hc1, hc2, hcn⟩ := code_c n
  obtain ⟨d, hd1, hd2, hcm⟩ := code_c m
  have HCn := Lib.hid hcn
  have HCm := Lib.hid hcm
  have hcz : (((c : Nat) : Int) == 0) = false := beq_eq_false_iff_ne.2 (by omega)
  have HCz := Lib.hid hcz
  have HG : Hid (∀ W, Below w.heap.size w W → Held W) := fun W hW => hg.below hW hg.pos
  have HB0 := Lib.hid ((Below.refl w.heap.size w).alloc (Nat.le_refl _) (.cells #[.int .u64 x0, .int .u64 x1, .int .u64 x2, .int .u64 x3, .int .u64 x4] 25))
  have HBg := Lib.hid (begun_any _ (HG.out _ HB0.out))
  clear hcn hcm hcz hg
  go_enter Tryd.func6, Tryd.ntmps6
  go_wp2_with fail
  refine HBg.out.mono ?_
  rintro e w1 ⟨rfl, hb1⟩
  have Hb1 := Lib.hid hb1
  have HB1 : Hid (Below w.heap.size w w1) := HB0.out.trans (hb1.mono HB0.out.size)
  have l0 := box_cells hb1 0
  have l1 := box_cells hb1 1
  have l2 := box_cells hb1 2
  have l3 := box_cells hb1 3
  have l4 := box_cells hb1 4
  clear hb1
  go_upto_region 4 with (fail)
  go_cut [10] (fun e W => ∃ b, e = ptrErr b ∧ InOf w c env b W)
  case first =>
    go_region_with (first
      | (go_at_call 12; refine (HCn.out _).mono ?_; rintro e w' ⟨rfl, rfl⟩)
      | (go_at_call 13; refine (of_post c HCz.out _).mono ?_; rintro e wo ⟨o, rfl, ho, hat, hs, hb⟩; have Hbo : Hid (Below w1.heap.size w1 wo) := Below.trans (by first | exact Below.refl _ _ | exact (Below.refl _ _).drew) (hb.mono (by simp)); have HO := Lib.hid hat; have Hs := Lib.hid hs; clear ho hat hs hb; have m0 := box_cells (Hb1.out.trans (Hbo.out.mono Hb1.out.size)) 0; have m1 := box_cells (Hb1.out.trans (Hbo.out.mono Hb1.out.size)) 1; have m2 := box_cells (Hb1.out.trans (Hbo.out.mono Hb1.out.size)) 2; have m3 := box_cells (Hb1.out.trans (Hbo.out.mono Hb1.out.size)) 3; have m4 := box_cells (Hb1.out.trans (Hbo.out.mono Hb1.out.size)) 4)
      | (go_at_call 15; refine (in_of env x0 x1 x2 x3 x4 HG.out HB1.out Hbo.out HO.out Hs.out).mono ?_; rintro e wi ⟨b, rfl, hio, _⟩; have HI := Lib.hid hio; clear hio))
    all_goals
      go_wp2_with (fail)
      go_meet
      case rel => exact ⟨_, rfl, HI.out⟩
  case rest =>
    obtain ⟨wq, rfl⟩ : ∃ wq, wq = wc := ⟨_, rfl⟩
    obtain ⟨b, rfl, k0, k1, k2, k3, k4, v, htr, hch, hbl⟩ := hcut
    have HBc := Lib.hid hbl
    have HT : Hid (∀ W, Below wq.heap.size wq W → TrapAt W b c env k0 k1 k2 k3 k4 v) := fun W hW => htr.later hW (lt_of_block htr)
    have HC : Hid (∀ W, Below wq.heap.size wq W → Chain W c .nilIface 2 wq.heap.size (ptrErr b)) := fun W hW => hch.later hW (Nat.le_refl _)
    have HGc : Hid (∀ W, Below wq.heap.size wq W → Held W) := fun W hW => HG.out _ (HBc.out.trans (hW.mono HBc.out.size))
    have hblt : b < wq.heap.size := lt_of_block htr
    clear htr hch hbl l0 l1 l2 l3 l4
    have hac : (wq.alloc (.cells #[.pointer none] 34)).drew.cell? ⟨wq.heap.size, 0, none⟩ = some (.pointer none) := by
      show (wq.alloc (.cells #[.pointer none] 34)).cell? ⟨wq.heap.size, 0, none⟩ = some (.pointer none)
      rw [World.cell?_alloc_at _ _ _ _ rfl]; rfl
    have haf : (wq.alloc (.cells #[.pointer none] 34)).drew.frozen? ⟨wq.heap.size, 0, none⟩ = false := by
      show (wq.alloc (.cells #[.pointer none] 34)).frozen? ⟨wq.heap.size, 0, none⟩ = false
      rw [World.frozen?_alloc_at _ _ _ _ rfl]
    have Hac := Lib.hid hac
    have Haf := Lib.hid haf
    clear hac haf
    go_upto_region 6 with (fail)
    go_cut [46] (fun v W => v = .bool false ∧ Below wq.heap.size wq W ∧ W.cell? ⟨wq.heap.size, 0, none⟩ = some (.pointer (some ⟨b, 0, none⟩)) ∧ wq.heap.size < W.heap.size)
    case first =>
      go_region_with (first
        | (go_at_call 12; refine (HCn.out _).mono ?_; rintro e w' ⟨rfl, rfl⟩)
        | (go_at_call 23; refine (As_into (HGc.out _ (Below.refl _ _)) b _ ?_ ?_ ?_).mono ?_; exact ((Below.refl _ _).alloc (Nat.le_refl _) _).drew; exact Hac.out; exact Haf.out; rintro e w2 ⟨rfl, hb2, hc2, hs2⟩; have Hb2 := Lib.hid hb2; have Hs2 := Lib.hid hs2; have q0 := cell_of_block (HT.out _ hb2) 0; have q1 := cell_of_block (HT.out _ hb2) 1; clear hb2 hs2))
      all_goals
        go_wp2_with (fail)
        go_meet
        case rel => exact ⟨rfl, Hb2.out, hc2, Hs2.out⟩
    case rest =>
      obtain ⟨rfl, hb2, hc2, hs2⟩ := hcut
      have hlt : wq.heap.size < wc.heap.size := hs2
      have hbu := hb2.alloc hb2.size (.cells #[.int .i64 d, .int .i64 7, .int .u64 0, .int .u64 0, .int .u64 0, .int .u64 0, .int .u64 0, .nilIface] 38)
      have hcu : (wc.alloc (.cells #[.int .i64 d, .int .i64 7, .int .u64 0, .int .u64 0, .int .u64 0, .int .u64 0, .int .u64 0, .nilIface] 38)).cell? ⟨wq.heap.size, 0, none⟩ = some (.pointer (some ⟨b, 0, none⟩)) := by rw [World.cell?_alloc_lt _ _ ⟨wq.heap.size, 0, none⟩ hlt]; exact hc2
      have htu : TrapAt (wc.alloc (.cells #[.int .i64 d, .int .i64 7, .int .u64 0, .int .u64 0, .int .u64 0, .int .u64 0, .int .u64 0, .nilIface] 38)) wc.heap.size d 7 (.int .u64 0) (.int .u64 0) (.int .u64 0) (.int .u64 0) (.int .u64 0) .nilIface := trap_new wc _
      have hul : wc.heap.size < (wc.alloc (.cells #[.int .i64 d, .int .i64 7, .int .u64 0, .int .u64 0, .int .u64 0, .int .u64 0, .int .u64 0, .nilIface] 38)).heap.size := by simp
      go_wp2_with (first
        | (go_at_call_of 12 (Value.int IntKind.i64 n); refine (HCn.out _).mono ?_; rintro e w' ⟨rfl, rfl⟩)
        | (go_at_call_of 12 (Value.int IntKind.i64 m); refine (HCm.out _).mono ?_; rintro e w' ⟨rfl, rfl⟩))
      obtain ⟨u, hu⟩ : ∃ u, u = wc.heap.size := ⟨_, rfl⟩
      rw [← hu] at htu hul hlt
      simp only [← hu]
      generalize wc.alloc (.cells #[.int .i64 d, .int .i64 7, .int .u64 0, .int .u64 0, .int .u64 0, .int .u64 0, .int .u64 0, .nilIface] 38) = wu at *
      have he : (((d : Nat) : Int) == ((c : Nat) : Int)) = decide (c = d) := by
        rw [Bool.eq_iff_iff, beq_iff_eq, decide_eq_true_iff]; omega
      have hq : (((c : Nat) : Int) == ((d : Nat) : Int)) = decide (c = d) := by
        rw [Bool.eq_iff_iff, beq_iff_eq, decide_eq_true_iff]; omega
      have hub : ∀ W, Below wu.heap.size wu W → Below wq.heap.size wq W := fun W hW => hbu.trans (hW.mono hbu.size)
      have HUT : Hid (∀ W, Below wu.heap.size wu W → TrapAt W u d 7 (.int .u64 0) (.int .u64 0) (.int .u64 0) (.int .u64 0) (.int .u64 0) .nilIface) := fun W hW => htu.later hW hul
      have HUC : Hid (∀ W, Below wu.heap.size wu W → Chain W d .nilIface 1 (u + 1) (ptrErr u)) := fun W hW => ⟨u, 7, _, _, _, _, _, _, rfl, Nat.lt_succ_self _, HUT.out W hW, rfl⟩
      have HI1 : Hid (∀ W, Below wu.heap.size wu W → Calls Tryd.prog 19 #[ptrErr b, ptrErr u] W fun e w' => e = .returned (.bool (decide (c = d))) ∧ Below wu.heap.size wu w') := fun W hW => by
        have h := chain_is_any (HGc.out _ (hub W hW)) (HC.out _ (hub W hW)) (HUT.out W hW) (by omega)
        rw [he] at h
        refine h.mono ?_
        rintro e w' ⟨rfl, hb⟩
        exact ⟨rfl, hW.trans (hb.mono hW.size)⟩
      have HI2 : Hid (∀ W x, Below wu.heap.size wu W → Calls Tryd.prog 19 #[ptrErr b, strErr x] W fun e w' => e = .returned (.bool false) ∧ Below wu.heap.size wu w') := fun W x hW => by
        refine (chain_is_str (HGc.out _ (hub W hW)) (HC.out _ (hub W hW))).mono ?_
        rintro e w' ⟨rfl, hb⟩
        exact ⟨rfl, hW.trans (hb.mono hW.size)⟩
      have HNew : Hid (∀ W s, Below wu.heap.size wu W → Calls Tryd.prog 20 #[.string s] W fun e w' => ∃ x, e = .returned (strErr x) ∧ Below wu.heap.size wu w') := fun W s hW => by
        refine (new_any s W).mono ?_
        rintro e w' ⟨rfl, rfl⟩
        exact ⟨_, rfl, hW.alloc hW.size _⟩
      have HCo : Hid (∀ W, Below wu.heap.size wu W → Calls Tryd.prog 17 #[ptrErr u] W fun e w' => e = .returned (.int .i64 d) ∧ Below wu.heap.size wu w') := fun W hW => by
        refine (chain_code (HGc.out _ (hub W hW)) (HUC.out W hW)).mono ?_
        rintro e w' ⟨rfl, hb⟩
        exact ⟨rfl, hW.trans (hb.mono hW.size)⟩
      have HEr : Hid (∀ W, Below wu.heap.size wu W → Calls Tryd.prog 24 #[.pointer (some ⟨u, 0, none⟩)] W fun e w' => e = .returned (.string (ByteArray.mk #[116, 114, 97, 112, 32] ++ ByteArray.mk (Lib.decDigits d).toArray)) ∧ Below wu.heap.size wu w') := fun W hW => by
        have h := chain_error (c := d) (HGc.out _ (hub W hW)) (HUC.out W hW) (by have := hW.size; omega) (by omega) (by omega)
        rw [show repText d 0 ++ trapText d = trapText d from rfl, ← trapText_add] at h
        refine h.mono ?_
        rintro e w' ⟨rfl, hb⟩
        exact ⟨rfl, hW.trans (hb.mono hW.size)⟩
      have HNd : Hid (∀ W, Below wu.heap.size wu W → Calls Tryd.prog 14 #[.int .i64 d] W fun e w' => e = .returned (.string ⟨(Lib.decDigits d).toArray⟩) ∧ Below wu.heap.size wu w') := fun W hW => by
        refine (number_any d ⟨hd1, hd2⟩ W).mono ?_
        rintro e w' ⟨rfl, hb⟩
        exact ⟨rfl, hW.trans (hb.mono hW.size)⟩
      have HCT : Hid (∀ W, Below wu.heap.size wu W → W.cell? ⟨wq.heap.size, 0, none⟩ = some (.pointer (some ⟨b, 0, none⟩))) := fun W hW => (hW.cell (p := ⟨wq.heap.size, 0, none⟩) (by show wq.heap.size < _; omega)).trans hcu
      have HUB := Lib.hid hub
      have hl := decDigits_length d (by omega)
      have HW := Lib.hid (Below.refl wu.heap.size wu)
      clear he hbu htu hub hu hb2 hc2
      generalize decide (c = d) = q at *
      go_region_with (first
        | (go_at_call_of 12 (Value.int IntKind.i64 n); refine (HCn.out _).mono ?_; rintro e w' ⟨rfl, rfl⟩)
        | (go_at_call_of 12 (Value.int IntKind.i64 m); refine (HCm.out _).mono ?_; rintro e w' ⟨rfl, rfl⟩)
        | (go_at_call 19; ((with_reducible refine (HI1.out _ ?_).mono ?_); (first | exact HW.out | exact HW.out.drew); rintro e w9 ⟨rfl, hb⟩; have HW := Lib.hid hb; have ct := HCT.out _ hb; clear hb))
        | (go_at_call 19; ((with_reducible refine (HI2.out _ _ ?_).mono ?_); (first | exact HW.out | exact HW.out.drew); rintro e w9 ⟨rfl, hb⟩; have HW := Lib.hid hb; have ct := HCT.out _ hb; clear hb))
        | (go_at_call 20; refine (HNew.out _ _ ?_).mono ?_; (first | exact HW.out | exact HW.out.drew); rintro e w9 ⟨x, rfl, hb⟩; have HW := Lib.hid hb; have ct := HCT.out _ hb; clear hb)
        | (go_at_call 17; refine (HCo.out _ ?_).mono ?_; (first | exact HW.out | exact HW.out.drew); rintro e w9 ⟨rfl, hb⟩; have HW := Lib.hid hb; clear hb)
        | (go_at_call 24; refine (HEr.out _ ?_).mono ?_; (first | exact HW.out | exact HW.out.drew); rintro e w9 ⟨rfl, hb⟩; have HW := Lib.hid hb; clear hb)
        | (go_at_call 14; refine (HNd.out _ ?_).mono ?_; (first | exact HW.out | exact HW.out.drew); rintro e w9 ⟨rfl, hb⟩; have HW := Lib.hid hb; clear hb))
      all_goals
        go_wp2
        go_ret
        exact ⟨rfl, HBc.out.trans ((HUB.out _ HW.out).mono HBc.out.size)⟩
end Go.Proofs.YtnmlmhhohemffaaDoor
