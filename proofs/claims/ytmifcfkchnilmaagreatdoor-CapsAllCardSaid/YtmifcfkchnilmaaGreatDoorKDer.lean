/- What is proved here: the statements' own derive (of messuagelaw11), over the document's kernel: what it tells and leaves is what a tree's Derive does. Conditions: the kernel lies in the block that is named. -/
import Derived.Test.YtmifcfkchnilmaaGreatDoorGTree
import Derived.RegionTactic
import Derived.WalkArith
import Derived.Deep.CutBlock
import Derived.Deep.DeepCutAuto
import Derived.Deep.QuietTactic
import Derived.BigQuiet
namespace Go.Proofs.YtmifcfkchnilmaaGreatDoor
open Go.RowKit Go.Extern.Stop Go.Stop Go.Extern Go.WalkArith
abbrev capOpV (kd e s t d r f : Int) : Value := .agg #[.int .i64 kd, .int .i64 e, .int .i64 s, .int .i64 t, .int .i64 d, .int .i64 r, .int .i64 f]
set_option maxRecDepth 100000 in
set_option maxHeartbeats 4000000 in
theorem kder_bad (K : Nat) (k : KernS) (E : Nat) (kd e s t d r f : Int) (hE : k.envs = (E : Int)) (hb : ¬ (inB k e s = true ∧ inB k t d = true ∧ mayB r = true)) (w : World) :
    Calls Tryz.prog 20 #[.pointer (some ⟨K, 0, none⟩), capOpV kd e s t d r f, .bool (inB k e s), .int .i64 (E : Int)] w fun x w' => x = .returned (.int .i64 2) ∧ Below w.heap.size w w' := by
  cases hi : inB k e s
  · clear hb
    go_enter Tryz.func20, Tryz.ntmps20
    go_wp2_with fail
    go_ret
    exact ⟨rfl, (Below.refl _ _).alloc (Nat.le_refl _) _⟩
  · have hb2 : ¬ (inB k t d = true ∧ mayB r = true) := fun h => hb ⟨hi, h⟩
    clear hb hi
    unfold inB at hb2
    rw [hE] at hb2
    by_cases h1 : t < 0
    · clear hb2
      go_enter Tryz.func20, Tryz.ntmps20
      go_wp2_with fail
      go_ret
      exact ⟨rfl, (Below.refl _ _).alloc (Nat.le_refl _) _⟩
    · have h1' : 0 ≤ t := by omega
      by_cases h2 : (E : Int) ≤ t
      · clear hb2
        go_enter Tryz.func20, Tryz.ntmps20
        go_wp2_with fail
        go_ret
        exact ⟨rfl, (Below.refl _ _).alloc (Nat.le_refl _) _⟩
      · have h2' : t < (E : Int) := by omega
        by_cases h3 : d < 0
        · clear hb2
          go_enter Tryz.func20, Tryz.ntmps20
          go_wp2_with fail
          go_ret
          exact ⟨rfl, (Below.refl _ _).alloc (Nat.le_refl _) _⟩
        · have h3' : 0 ≤ d := by omega
          by_cases h4 : 8 ≤ d
          · clear hb2
            go_enter Tryz.func20, Tryz.ntmps20
            go_wp2_with fail
            go_ret
            exact ⟨rfl, (Below.refl _ _).alloc (Nat.le_refl _) _⟩
          · have h4' : d < 8 := by omega
            have hm : mayB r = false := by
              cases h : mayB r
              · rfl
              · exact absurd ⟨decide_eq_true ⟨h1', h2', h3', h4'⟩, h⟩ hb2
            have HM := Lib.hid (fun W => ref_may_any r W)
            rw [hm] at HM
            clear hb2 hm
            go_enter Tryz.func20, Tryz.ntmps20
            go_wp2_with fail
            refine (HM.out _).mono ?_
            rintro x w' ⟨rfl, rfl⟩
            go_wp2_with fail
            go_ret
            exact ⟨rfl, (Below.refl _ _).alloc (Nat.le_refl _) _⟩
def opO (kd e s t d r f : Int) : Obj := .cells #[.int .i64 kd, .int .i64 e, .int .i64 s, .int .i64 t, .int .i64 d, .int .i64 r, .int .i64 f] 31
set_option maxRecDepth 100000 in
set_option maxHeartbeats 8000000 in
theorem kder_good (K : Nat) (k : KernS) (E e s t d : Nat) (kd r f : Int) (hE : k.envs = (E : Int)) (hE4 : E ≤ 4) (he : e < E) (hs : s < 8) (ht : t < E) (hd : d < 8) (hr : mayB r = true) (w : World) (h : KernIs w K k) :
    Calls Tryz.prog 20 #[.pointer (some ⟨K, 0, none⟩), capOpV kd e s t d r f, .bool true, .int .i64 (E : Int)] w fun x w' => x = .returned (.int .i64 (tderE k e s t d r)) ∧ KernIs w' K (tderS k e s t d r) ∧ OnlyT K w w' := by
  have hD : tderE k e s t d r = if (k.sl e s).is = false then 3 else if (k.sl t d).is = true then 4 else if withinB r (k.sl e s).rights = false then 5 else 0 := by
    unfold tderE inB
    rw [hE, if_pos ⟨decide_eq_true (by omega), decide_eq_true (by omega), hr⟩]
    simp only [Int.toNat_natCast]
  have hS : tderS k e s t d r = if tderE k e s t d r = 0 then k.setSlot t d ⟨true, (k.sl e s).frame, r, e, s⟩ else k := by
    unfold tderS
    simp only [Int.toNat_natCast]
  generalize tderE k e s t d r = er at hD hS ⊢
  generalize tderS k e s t d r = k' at hS ⊢
  have HDD := Lib.hid hD
  have HSS := Lib.hid hS
  have HM := Lib.hid (fun W => ref_may_any r W)
  rw [hr] at HM
  have H := Lib.hid h
  clear h hr hD hS hE
  have i0 : (0 : Int) ≤ (e : Int) := by omega
  have i1 : (e : Int) < 4 := by omega
  have i2 : (0 : Int) ≤ (s : Int) := by omega
  have i3 : (s : Int) < 8 := by omega
  have j0 : (0 : Int) ≤ (t : Int) := by omega
  have j1 : (t : Int) < 4 := by omega
  have j5 : (t : Int) < (E : Int) := by omega
  have j2 : (0 : Int) ≤ (d : Int) := by omega
  have j3 : (d : Int) < 8 := by omega
  go_enter Tryz.func20, Tryz.ntmps20
  go_wp2_with fail
  refine (HM.out _).mono ?_
  rintro x w' ⟨rfl, rfl⟩
  obtain ⟨w1, hw1⟩ : ∃ w1, w1 = w.alloc (opO kd e s t d r f) := ⟨_, rfl⟩
  have C1 : Hid (w1.heap[w.heap.size]? = some (opO kd e s t d r f)) := by rw [hw1]; exact heap_alloc_new w _
  have B1 : Hid (Below w.heap.size w w1) := by rw [hw1]; exact (Below.refl _ _).alloc (Nat.le_refl _) _
  unfold opO at hw1
  rw [← hw1]
  clear hw1
  obtain ⟨C, hC⟩ : ∃ C, C = w.heap.size := ⟨_, rfl⟩
  rw [← hC] at C1 ⊢
  have HCw : Hid (w.heap.size ≤ C) := by rw [hC]; exact Nat.le_refl _
  clear hC
  have HK := Lib.hid (H.out.later B1.out)
  obtain ⟨a0, a1, a2, a3, a4⟩ := HK.out.slot (show e < 4 by omega) hs
  have lK := HK.out.lt
  have q1 := bk_cell C1.out 1
  have q2 := bk_cell C1.out 2
  have lC := bk_lt C1.out
  go_wp2_with fail
  go_cut [9] (fun av W => ∃ A, av = .pointer (some ⟨A, 0, none⟩) ∧ SlotAt W A (k.sl e s) ∧ Below w1.heap.size w1 W)
  case first =>
    go_region
    all_goals
      go_wp2_with fail
      go_meet
      case rel => exact ⟨w1.heap.size, rfl, heap_alloc_new _ _, ((Below.refl _ _).drew).alloc (Nat.le_refl _) _⟩
  case rest =>
    obtain ⟨A, rfl, ha, hw⟩ := hcut
    have HA := Lib.hid ha
    have HW := Lib.hid (bl_trans B1.out hw)
    have HK2 := Lib.hid (HK.out.later hw)
    have C2 := Lib.hid (bk_below C1.out hw)
    clear ha hw a0 a1 a2 a3 a4 q1 q2 lC lK HK C1 B1 H
    have a0 := bk_cell HA.out 0
    have a1 := bk_cell HA.out 1
    have a2 := bk_cell HA.out 2
    have q1 := bk_cell C2.out 1
    have q2 := bk_cell C2.out 2
    have q3 := bk_cell C2.out 3
    have q4 := bk_cell C2.out 4
    have q5 := bk_cell C2.out 5
    obtain ⟨b0, b1, b2, b3, b4⟩ := HK2.out.slot (show t < 4 by omega) hd
    have lK := HK2.out.lt
    have lC := bk_lt C2.out
    have lA := bk_lt HA.out
    cases hi : (k.sl e s).is
    · have E1 : Hid (er = 3) := HDD.out.trans (if_pos hi)
      have E2 : Hid (k' = k) := HSS.out.trans (if_neg (by rw [E1.out]; decide))
      rw [hi] at a0
      clear hi
      go_wp2_with fail
      go_ret
      exact ⟨by rw [E1.out]; rfl, by rw [E2.out]; exact HK2.out, tp_below HW.out⟩
    · have n1 : ¬ (k.sl e s).is = false := by rw [hi]; simp
      have HD1 := Lib.hid (HDD.out.trans (if_neg n1))
      rw [hi] at a0
      clear hi n1
      cases hj : (k.sl t d).is
      · have n2 : ¬ (k.sl t d).is = true := by rw [hj]; simp
        have HD2 := Lib.hid (HD1.out.trans (if_neg n2))
        rw [hj] at b0
        clear hj n2
        have HWI := Lib.hid (fun W => ref_within_any r (k.sl e s).rights W)
        cases hw : withinB r (k.sl e s).rights
        · have E1 : Hid (er = 5) := HD2.out.trans (if_pos hw)
          have E2 : Hid (k' = k) := HSS.out.trans (if_neg (by rw [E1.out]; decide))
          rw [hw] at HWI
          clear hw
          go_wp2_with fail
          go_quiet (fail)
          go_wp2_with fail
          refine (HWI.out _).mono ?_
          rintro x w3 ⟨rfl, rfl⟩
          go_wp2_with fail
          go_ret
          exact ⟨by rw [E1.out]; rfl, by rw [E2.out]; exact HK2.out.drewN _, tp_below (dn HW.out _)⟩
        · have E1 : Hid (er = 0) := HD2.out.trans (if_neg (by rw [hw]; decide))
          have E2 : Hid (k' = k.setSlot t d ⟨true, (k.sl e s).frame, r, e, s⟩) := HSS.out.trans (if_pos E1.out)
          rw [hw] at HWI
          clear hw
          go_wp2_with fail
          go_quiet (fail)
          go_wp2_with fail
          refine (HWI.out _).mono ?_
          rintro x w3 ⟨rfl, rfl⟩
          have f0 := HK2.out.free (3 + t * 40 + d * 5)
          have f1 := HK2.out.free (3 + t * 40 + d * 5 + 1)
          have f2 := HK2.out.free (3 + t * 40 + d * 5 + 2)
          have f3 := HK2.out.free (3 + t * 40 + d * 5 + 3)
          have f4 := HK2.out.free (3 + t * 40 + d * 5 + 4)
          go_wp2_with fail
          go_region
          go_wp2_with fail
          go_ret
          exact ⟨by rw [E1.out]; rfl, by rw [E2.out]; exact ((HK2.out.drewN _).drew.putSlot (show t < 4 by omega) hd true (k.sl e s).frame r (e : Int) (s : Int)), tp_slot (tp_below ((dn HW.out _).drew)) _ _ _ _ _ _⟩
      · have E1 : Hid (er = 4) := HD1.out.trans (if_pos hj)
        have E2 : Hid (k' = k) := HSS.out.trans (if_neg (by rw [E1.out]; decide))
        rw [hj] at b0
        clear hj
        go_wp2_with fail
        go_quiet (fail)
        go_wp2_with fail
        go_ret
        exact ⟨by rw [E1.out]; rfl, by rw [E2.out]; exact HK2.out.drewN _, tp_below (dn HW.out _)⟩
end Go.Proofs.YtmifcfkchnilmaaGreatDoor

