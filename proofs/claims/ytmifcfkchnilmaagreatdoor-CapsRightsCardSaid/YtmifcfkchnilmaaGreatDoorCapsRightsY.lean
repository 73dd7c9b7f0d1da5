/- What is proved here: the statement CapsRights: whatever its slice, the statement returns true and leaves what was there. Conditions: package caps keeps its contracts; the slice's numbers are there; the statements' own beginning returns true. -/
import Derived.Test.YtmifcfkchnilmaaGreatDoorCapsRights
import Derived.Test.YtmifcfkchnilmaaGreatDoorGTree
import Derived.Test.YtmifcfkchnilmaaGreatDoorGTreeY
import Derived.Test.YtmifcfkchnilmaaGreatDoorGPair
import Derived.Test.YtmifcfkchnilmaaGreatDoorGParts
import Derived.Test.YtmifcfkchnilmaaGreatDoorGPartsY
import Derived.RegionTactic
import Derived.WalkArith
namespace Go.Proofs.YtmifcfkchnilmaaGreatDoor
open Go.RowKit Go.Extern.Stop Go.Stop Go.Extern Go.WalkArith
theorem RightsAt.inb {k : KernS} {n : Nat} {r : Int} (h : RightsAt k n r) {s : Nat} (hs : s < 8) : inB k 0 (s : Int) = true := by
  unfold inB
  rw [h.envs]
  exact decide_eq_true (by omega)
theorem rights_arg {k : KernS} {n : Nat} {q : Int} (hm : mayB q = false) : tderE k 0 (n : Int) 0 ((n : Int) + 1) q = 2 := by
  unfold tderE
  rw [if_neg (by rw [hm]; simp)]
theorem RightsAt.err {k : KernS} {n : Nat} {r q : Int} (h : RightsAt k n r) (hn : n < 7) (hm : mayB q = true) : tderE k 0 (n : Int) 0 ((n : Int) + 1) q = if withinB q r = false then 5 else 0 := by
  unfold tderE
  have h1 := h.inb (show n < 8 by omega)
  have h2 := h.inb (show n + 1 < 8 by omega)
  rw [show ((n + 1 : Nat) : Int) = (n : Int) + 1 by omega] at h2
  have e1 : ((n : Int)).toNat = n := by omega
  have e2 : ((n : Int) + 1).toNat = n + 1 := by omega
  have e3 : (0 : Int).toNat = 0 := rfl
  rw [if_pos ⟨h1, h2, hm⟩, e1, e2, e3, if_neg (by rw [h.at_]; decide), if_neg (by rw [h.free (n + 1) (by omega)]; decide), h.rights]
theorem rights_no {k : KernS} {n : Nat} {q : Int} {e : Int} (he : tderE k 0 (n : Int) 0 ((n : Int) + 1) q = e) (h0 : e ≠ 0) : tderS k 0 (n : Int) 0 ((n : Int) + 1) q = k := by
  unfold tderS
  rw [he, if_neg h0]
theorem RightsAt.up {k : KernS} {n : Nat} {r q : Int} (h : RightsAt k n r) (hm : mayB q = true) (he : tderE k 0 (n : Int) 0 ((n : Int) + 1) q = 0) : RightsAt (tderS k 0 (n : Int) 0 ((n : Int) + 1) q) (n + 1) q := by
  unfold tderS
  have e1 : ((n : Int)).toNat = n := by omega
  have e2 : ((n : Int) + 1).toNat = n + 1 := by omega
  have e3 : (0 : Int).toNat = 0 := rfl
  rw [if_pos he, e1, e2, e3]
  have hs : (k.setSlot 0 (n + 1) ⟨true, (k.sl 0 n).frame, q, 0, (n : Int)⟩).sl 0 (n + 1) = ⟨true, (k.sl 0 n).frame, q, 0, (n : Int)⟩ := by
    show (if (0 : Nat) = 0 ∧ n + 1 = n + 1 then _ else _ : SlotV) = _
    rw [if_pos ⟨rfl, rfl⟩]
  refine ⟨h.envs, congrArg SlotV.is hs, (congrArg SlotV.frame hs).trans h.frame, congrArg SlotV.rights hs, ?_, fun s hs2 => ?_⟩
  · unfold mayB at hm
    simp at hm
    omega
  · show (if (0 : Nat) = 0 ∧ s = n + 1 then _ else k.sl 0 s : SlotV).is = false
    rw [if_neg (by omega)]
    exact h.free s (by omega)
set_option maxRecDepth 100000 in
set_option maxHeartbeats 8000000 in
theorem crights_any {At : World → (Nat → Prop) → Nat → KernS → Prop} (H : TreeC At) (ao : Option Addr) (a : Addr) (len cap : Nat) (hao : 0 < len → ao = some a) (E : Nat → Int) (w : World) (hz : ∀ i, i < len → w.cell? (a.add i) = some (.int .i64 (E i))) (hbeg : BegunAt11 w) :
    Calls Tryz.prog 9 #[.slice ao len cap] w fun e w' => e = .returned (.bool true) ∧ Below w.heap.size w w' := by
  have HB := Lib.hid hbeg
  have HH := Lib.hid H
  have HA := Lib.hid hao
  have HZ := Lib.hid hz
  clear hbeg H hao hz
  go_enter Tryz.func9, Tryz.ntmps9
  go_wp2_with fail
  refine HB.out.mono ?_
  rintro e w1 ⟨rfl, hb1⟩
  have B1 := Lib.hid hb1
  clear hb1 HB
  go_wp2_with fail
  refine (trun_new HH.out B1.out (by omega)).mono ?_
  rintro e w2 ⟨P, rfl, h⟩
  have R2 := Lib.hid h
  clear h B1
  go_wp2_with fail
  refine (trun_root (er := 0) (k' := rootS (newK 1 1 16) 0 0 1) R2.out (by decide +kernel) rfl).mono ?_
  rintro e w3 ⟨rfl, h⟩
  have R3 := Lib.hid h
  clear h R2
  go_wp2_with fail
  go_loopw [5, 6, 7] (fun hv nv iv W => ∃ (i n : Nat) (r : Int) (k : KernS), hv = .int .i64 r ∧ nv = .int .i64 n ∧ iv = .int .i64 i ∧ n ≤ 7 ∧ i ≤ 20 ∧ i ≤ len ∧ RightsAt k n r ∧ TRun HH.out w P k [] W) (fun _ _ iv _ => (20 - intOf iv).toNat)
  case atStart => exact ⟨0, 0, 3, _, rfl, rfl, rfl, by omega, by omega, by omega, RightsAt.start, R3.out⟩
  case round =>
    obtain ⟨i, n, r, k, rfl, rfl, rfl, hn, hi, hil, hr, h⟩ := hrel
    have HR := Lib.hid h
    have HK := Lib.hid hr
    clear h hr R3
    have n0 : (0 : Int) ≤ (n : Int) := by omega
    have i0 : (0 : Int) ≤ (i : Int) := by omega
    by_cases hc : i < len ∧ n < 7 ∧ i < 20
    · obtain ⟨c1, c2, c3⟩ := hc
      obtain rfl : ao = some a := HA.out (by omega)
      have i1 : (i : Int) < (len : Int) := by omega
      have i2 : (n : Int) < 7 := by omega
      have i3 : (i : Int) < 20 := by omega
      have z := HZ.out i c1
      have z1 := (HR.out.below.cell (p := a.add i) (World.block_lt_of_cell? _ _ z)).trans z
      clear z
      generalize E i = q at z1
      cases hm : mayB q
      · have E1 := Lib.hid (rights_arg (k := k) (n := n) hm)
        have E2 := Lib.hid (rights_no E1.out (by decide))
        have HMY := Lib.hid (fun W => ref_may_any q W)
        rw [hm] at HMY
        clear hm
        go_wp2_with fail
        refine (trun_derive HR.out E1.out E2.out).mono ?_
        rintro e w4 ⟨rfl, h⟩
        have R4 := Lib.hid h
        clear h HR
        go_wp2_with fail
        refine (HMY.out _).mono ?_
        rintro e w' ⟨rfl, rfl⟩
        go_wp2_with fail
        go_roundw
        case rel => exact ⟨i + 1, n, r, k, rfl, rfl, by go_num, hn, by omega, by omega, HK.out, R4.out⟩
        case measure => simp [intOf]; omega
      · have E0 := HK.out.err c2 hm
        have HMY := Lib.hid (fun W => ref_may_any q W)
        rw [hm] at HMY
        have HWI := Lib.hid (fun W => ref_within_any q r W)
        cases hw : withinB q r
        · rw [hw] at E0 HWI
          have E1 : Hid (tderE k 0 (n : Int) 0 ((n : Int) + 1) q = 5) := E0
          have E2 := Lib.hid (rights_no E1.out (by decide))
          clear E0 hw hm
          go_wp2_with fail
          refine (trun_derive HR.out E1.out E2.out).mono ?_
          rintro e w4 ⟨rfl, h⟩
          have R4 := Lib.hid h
          clear h HR
          go_wp2_with fail
          refine (HMY.out _).mono ?_
          rintro e w' ⟨rfl, rfl⟩
          go_wp2_with fail
          refine (HWI.out _).mono ?_
          rintro e w' ⟨rfl, rfl⟩
          go_wp2_with fail
          go_roundw
          case rel => exact ⟨i + 1, n, r, k, rfl, rfl, by go_num, hn, by omega, by omega, HK.out, R4.out⟩
          case measure => simp [intOf]; omega
        · rw [hw] at E0 HWI
          have E1 : Hid (tderE k 0 (n : Int) 0 ((n : Int) + 1) q = 0) := E0
          have K2 := Lib.hid (HK.out.up hm E1.out)
          clear E0 hw hm
          go_wp2_with fail
          refine (trun_derive HR.out E1.out rfl).mono ?_
          rintro e w4 ⟨rfl, h⟩
          have R4 := Lib.hid h
          clear h HR
          go_wp2_with fail
          refine (HMY.out _).mono ?_
          rintro e w' ⟨rfl, rfl⟩
          go_wp2_with fail
          refine (HWI.out _).mono ?_
          rintro e w' ⟨rfl, rfl⟩
          go_wp2_with fail
          go_roundw
          case rel => exact ⟨i + 1, n + 1, q, _, rfl, by go_num, by go_num, by omega, by omega, by omega, K2.out, R4.out⟩
          case measure => simp [intOf]; omega
    · have q1 := HK.out
      have q2 : (k.sl 0 n).frame = 1 := q1.frame
      have q3 : (k.sl 0 n).rights = r := q1.rights
      have HF := Lib.hid q2
      have HRT := Lib.hid q3
      clear q1 q2 q3
      rcases (show ¬ i < len ∨ (i < len ∧ ¬ n < 7) ∨ (i < len ∧ n < 7 ∧ ¬ i < 20) by omega) with d1 | ⟨d1, d2⟩ | ⟨d1, d2, d3⟩
      all_goals
        clear hc
        first
          | (have i1 : ¬ (i : Int) < (len : Int) := by omega
             go_wp2_with fail)
          | (have i1 : (i : Int) < (len : Int) := by omega
             have i2 : ¬ (n : Int) < 7 := by omega
             go_wp2_with fail)
          | (have i1 : (i : Int) < (len : Int) := by omega
             have i2 : (n : Int) < 7 := by omega
             have i3 : ¬ (i : Int) < 20 := by omega
             go_wp2_with fail)
        refine (trun_cap (e := 0) (s := n) HR.out (by rw [HK.out.envs]; decide) (by omega) HK.out.at_).mono ?_
        rintro e w4 ⟨⟨c1, c2, rfl⟩, h⟩
        rw [HF.out, HRT.out]
        have R4 := Lib.hid h
        clear h
        go_wp2_with fail
        go_ret
        exact ⟨by simp, (R4.out.alloc _).below⟩
end Go.Proofs.YtmifcfkchnilmaaGreatDoor

