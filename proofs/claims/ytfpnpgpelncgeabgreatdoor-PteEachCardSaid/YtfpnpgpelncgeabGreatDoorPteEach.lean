/- What is proved here: the walk of the statement PteEach: it answers true and leaves the memory that was there as it was. Conditions: the statements' beginning does so in every later world. -/
import Derived.Test.YtfpnpgpelncgeabGreatDoorGParts
namespace Go.Proofs.YtfpnpgpelncgeabGreatDoor
open Go.RowKit Go.Extern.Stop Go.Stop Go.Extern

/-- How many of the pairs ahead of the one at j, i are within. -/
def cntW (j i : Nat) : Nat := ((List.range 36).filter fun t => decide (t < 6 * j + i) && withinB (((t / 6 : Nat) : Int) - 1) (((t % 6 : Nat) : Int) - 1)).length
theorem cntW_step (j i : Nat) (hj : j < 6) (hi : i < 6) : cntW j (i + 1) = cntW j i + if withinB ((j : Int) - 1) ((i : Int) - 1) = true then 1 else 0 := by
  have key : ∀ j < 6, ∀ i < 6, cntW j (i + 1) = cntW j i + if withinB (((j : Nat) : Int) - 1) (((i : Nat) : Int) - 1) = true then 1 else 0 := by decide +kernel
  exact key j hj i hi
theorem cntW_next (j : Nat) (hj : j < 6) : cntW j 6 = cntW (j + 1) 0 := by
  have key : ∀ j < 6, cntW j 6 = cntW (j + 1) 0 := by decide +kernel
  exact key j hj
theorem cntW_le (j i : Nat) (hj : j ≤ 6) (hi : i ≤ 6) : cntW j i ≤ 36 := by
  have key : ∀ j < 7, ∀ i < 7, cntW j i ≤ 36 := by decide +kernel
  exact key j (by omega) i (by omega)

set_option maxRecDepth 100000 in
set_option maxHeartbeats 2000000 in
theorem pteEach_walk (w : World) (hbeg : ∀ W, Below w.heap.size w W → BegunAt W) :
    Calls Tryz.prog 3 #[] w fun e w' => e = .returned (.bool true) ∧ Below w.heap.size w w' := by
  have HG := Lib.hid (hbeg w (Below.refl _ _))
  clear hbeg
  have h50 : cntW 6 0 = 5 := by decide +kernel
  have H5 := Lib.hid h50
  clear h50
  go_enter Tryz.func3, Tryz.ntmps3
  go_wp2_with fail
  go_loop [1, 2] (fun n a => ∃ j : Nat, j ≤ 6 ∧ a = .int .i64 ((j : Int) - 1) ∧ n = .int .i64 (cntW j 0 : Nat)) (fun _ a => (5 - intOf a).toNat)
  case atStart => exact ⟨0, by omega, rfl, rfl⟩
  case round =>
    obtain ⟨j, hj, rfl, rfl⟩ := hrel
    by_cases hlt : j < 6
    · have hd1 : decide ((j : Int) - 1 ≤ 4) = true := by simp; omega
      go_wp2_with fail
      go_loop [1, 3] (fun n b => ∃ i : Nat, i ≤ 6 ∧ b = .int .i64 ((i : Int) - 1) ∧ n = .int .i64 (cntW j i : Nat)) (fun _ b => (5 - intOf b).toNat)
      case atStart => exact ⟨0, by omega, rfl, rfl⟩
      case round =>
        obtain ⟨i, hi, rfl, rfl⟩ := hrel
        have hle := cntW_le j i (by omega) hi
        by_cases hlt2 : i < 6
        · have hst := Lib.hid (cntW_step j i hlt hlt2)
          rcases Bool.eq_false_or_eq_true (withinB ((j : Int) - 1) ((i : Int) - 1)) with hw | hw
          all_goals
            have H1 := fun W => within_any ((j : Int) - 1) ((i : Int) - 1) W
            have H2 := fun W => ref_within_any ((j : Int) - 1) ((i : Int) - 1) W
            rw [hw] at H1 H2
            have HA := Lib.hid H1
            have HB := Lib.hid H2
            have HW := Lib.hid hw
            clear H1 H2 hw
            go_wp2_with (first
              | (go_at_call 14; refine (HA.out _).mono ?_; rintro e w' ⟨rfl, rfl⟩)
              | (go_at_call 15; refine (HB.out _).mono ?_; rintro e w' ⟨rfl, rfl⟩))
            go_round
            case rel => exact ⟨i + 1, by omega, by go_num, by rw [hst.out, HW.out]; simp⟩
            case measure => simp [intOf]; omega
        · obtain rfl : i = 6 := by omega
          have hn := Lib.hid (cntW_next j hlt)
          go_wp2_with fail
          go_round
          case rel => exact ⟨j + 1, by omega, by go_num, by rw [hn.out]⟩
          case measure => simp [intOf]; omega
    · obtain rfl : j = 6 := by omega
      rw [H5.out]
      go_wp2_with fail
      go_loop [4] (fun k => ∃ j : Nat, j ≤ 31 ∧ k = .int .i64 (j : Int)) (fun k => (31 - intOf k).toNat)
      case atStart => exact ⟨0, by omega, rfl⟩
      case round =>
        obtain ⟨k, hk, rfl⟩ := hrel
        by_cases hlt3 : k < 31
        · have hd1 : decide ((k : Int) ≤ 30) = true := by simp; omega
          go_wp2_with fail
          go_loop [5] (fun r => ∃ i : Nat, i ≤ 6 ∧ r = .int .i64 ((i : Int) - 1)) (fun r => (5 - intOf r).toNat)
          case atStart => exact ⟨0, by omega, rfl⟩
          case round =>
            obtain ⟨i, hi, rfl⟩ := hrel
            by_cases hlt4 : i < 6
            · go_wp2_with (first
                | (go_at_call 16; refine (lets_any _ _ _).mono ?_; rintro e w' ⟨rfl, rfl⟩)
                | (go_at_call 17; refine (ref_lets_any _ _ _).mono ?_; rintro e w' ⟨rfl, rfl⟩))
              go_round
              case rel => exact ⟨i + 1, by omega, by go_num⟩
              case measure => simp [intOf]; omega
            · obtain rfl : i = 6 := by omega
              go_wp2_with fail
              go_round
              case rel => exact ⟨k + 1, by omega, by go_num⟩
              case measure => simp [intOf]; omega
        · obtain rfl : k = 31 := by omega
          go_wp2_with fail
          refine Calls.mono HG.out ?_
          rintro e w1 ⟨rfl, hb1⟩
          go_wp2_with fail
          go_ret
          exact ⟨rfl, hb1⟩
end Go.Proofs.YtfpnpgpelncgeabGreatDoor
