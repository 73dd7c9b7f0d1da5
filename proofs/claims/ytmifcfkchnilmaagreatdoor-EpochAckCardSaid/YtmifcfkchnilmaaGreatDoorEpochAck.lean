/- What is proved here: the statement EpochAck: whatever its numbers, the statement returns true and leaves what was there. Conditions: package epoch keeps its contracts; the statements' own beginning returns true. -/
import Derived.Test.YtmifcfkchnilmaaGreatDoorGEpoch
import Derived.Test.YtmifcfkchnilmaaGreatDoorGPair
import Derived.RegionTactic
import Derived.WalkArith
namespace Go.Proofs.YtmifcfkchnilmaaGreatDoor
open Go.RowKit Go.Extern.Stop Go.Stop Go.Extern Go.WalkArith
set_option maxRecDepth 100000 in
set_option maxHeartbeats 8000000 in
theorem eack_any {At : World → (Nat → Prop) → Nat → EpS → Prop} (H : EpochC At) (n0 a0 c0 : Int) (w : World) (hbeg : BegunAt11 w) :
    Calls Tryz.prog 11 #[.int .i64 n0, .int .i64 a0, .int .i64 c0] w fun e w' => e = .returned (.bool true) ∧ Below w.heap.size w w' := by
  have HB := Lib.hid hbeg
  have HH := Lib.hid H
  clear hbeg H
  have m1 := Int.lt_tmod_of_pos n0 (show (0 : Int) < 9 by omega)
  have m2 := Int.tmod_lt_of_pos n0 (show (0 : Int) < 9 by omega)
  have m3 := Int.lt_tmod_of_pos c0 (show (0 : Int) < 3 by omega)
  have m4 := Int.tmod_lt_of_pos c0 (show (0 : Int) < 3 by omega)
  obtain ⟨N, hN⟩ : ∃ N : Nat, 1 + n0.tmod 9 % 9 = (N : Int) := ⟨(1 + n0.tmod 9 % 9).toNat, by omega⟩
  obtain ⟨C, hC⟩ : ∃ C : Nat, 1 + c0.tmod 3 % 3 = (C : Int) := ⟨(1 + c0.tmod 3 % 3).toNat, by omega⟩
  have hN1 : 1 ≤ N := by omega
  have hN9 : N ≤ 9 := by omega
  have hC1 : 1 ≤ C := by omega
  have hC3 : C ≤ 3 := by omega
  have p0 : (0 : Int) < (N : Int) := by omega
  have t1 := tnear a0 (N : Int) p0
  have t2 := tupm a0 (N : Int) p0
  have e1 := Int.emod_nonneg (a0.tmod (N : Int)) (show (N : Int) ≠ 0 by omega)
  have e2 := Int.emod_lt_of_pos (a0.tmod (N : Int)) p0
  obtain ⟨a, hA⟩ : ∃ a : Nat, a0.tmod (N : Int) % (N : Int) = (a : Int) := ⟨(a0.tmod (N : Int) % (N : Int)).toNat, by omega⟩
  have ha : a < N := by omega
  have hA3 : (a0.tmod (N : Int) + (N : Int)) % (N : Int) = (a : Int) := by rw [Int.add_emod_right]; exact hA
  have HLEN := Lib.hid ea_len
  have HMID : Hid (∀ i : Nat, i < N → (waitsL (eaA N C (a + 1)) (i + 1)).length = (if i ≤ a then 2 else 3) ∧ doneB (eaA N C (a + 1)) (i + 1) = false) := by
    obtain ⟨n, rfl⟩ : ∃ n, N = n + 1 := ⟨N - 1, by omega⟩
    obtain ⟨c, rfl⟩ : ∃ c, C = c + 1 := ⟨C - 1, by omega⟩
    exact fun i hi => ea_mid n (by omega) c (by omega) a ha i hi
  have HSZ : Hid (∀ j : Nat, j < 4 → (eaL N C (a + 1) j).n = 4 ∧ (eaL N C (a + 1) j).fr.length = N) := fun j hj => ea_size N (by omega) C (a + 1) j hj
  have HEND : Hid ((doneB (eaL N C (a + 1) 3) 1 = true ∧ doneB (eaL N C (a + 1) 3) N = true) ∧ (doneB (eaL N C (a + 1) 3) (N + 1) = false ∧ doneB (eaL N C (a + 1) 3) 0 = false)) := by
    obtain ⟨n, rfl⟩ : ∃ n, N = n + 1 := ⟨N - 1, by omega⟩
    obtain ⟨c, rfl⟩ : ∃ c, C = c + 1 := ⟨C - 1, by omega⟩
    exact ea_end n (by omega) c (by omega) a ha
  go_enter Tryz.func11, Tryz.ntmps11
  go_wp2_with fail
  refine HB.out.mono ?_
  rintro e w1 ⟨rfl, hb1⟩
  have B1 := Lib.hid hb1
  clear hb1 HB
  go_wp2_with fail
  simp only [hA3]
  obtain ⟨T, hT⟩ : ∃ T : Nat, 1 + (a : Int) = (T : Int) := ⟨1 + a, by omega⟩
  have hT1 : T = a + 1 := by omega
  simp only [hT]
  rw [← hT1] at HMID HSZ HEND
  have hTN : T ≤ N := by omega
  have hT0 : 1 ≤ T := by omega
  have HTA := Lib.hid hT1
  generalize a0.tmod (N : Int) + (N : Int) = y1
  generalize a0.tmod (N : Int) = y2
  generalize n0.tmod 9 % 9 = y3
  generalize n0.tmod 9 + 9 = y4
  generalize n0.tmod 9 = y5
  generalize c0.tmod 3 % 3 = y6
  generalize c0.tmod 3 + 3 = y7
  generalize c0.tmod 3 = y8
  clear m1 m2 m3 m4 t1 t2 e1 e2 hA hA3 hN hC hT hT1 p0
  have wT := u64_small T (by omega)
  have wN := u64_small N (by omega)
  have wN1 : IntKind.u64.wrap ((N : Int) + 1) = (N : Int) + 1 := by
    have h := u64_small (N + 1) (by omega)
    rw [Int.natCast_add] at h
    exact h
  refine (erun_new (n := 4) HH.out B1.out (by omega) (by omega)).mono ?_
  rintro e w2 ⟨P, rfl, h⟩
  have R2 := Lib.hid h
  clear h B1
  go_wp2_with fail
  go_loopw [9] (fun iv W => ∃ j : Nat, iv = .int .i64 j ∧ j ≤ N ∧ ERun HH.out w P (eaK j) W) (fun iv _ => (N - intOf iv).toNat)
  case atStart => exact ⟨0, rfl, by omega, R2.out⟩
  case round =>
    obtain ⟨j, rfl, hj, h⟩ := hrel
    have HR := Lib.hid h
    clear h R2
    by_cases h1 : j < N
    · have j1 : (j : Int) < (N : Int) := by omega
      have HL := Lib.hid (HLEN.out j (by omega))
      go_wp2_with fail
      refine (erun_begin (c := 0) (m := j) (k' := eaK (j + 1)) HR.out (by rw [HL.out.1]; omega) HL.out.2 (by omega) rfl (fun i => ea_zero j i)).mono ?_
      rintro e w3 ⟨rfl, h⟩
      have R3 := Lib.hid h
      clear h
      go_wp2_with fail
      go_roundw
      case rel => exact ⟨j + 1, by go_num, by omega, R3.out⟩
      case measure => simp [intOf]; omega
    · obtain rfl : j = N := by omega
      have j1 : ¬ (j : Int) < (j : Int) := by omega
      have HL := Lib.hid (HLEN.out j (by omega))
      go_wp2_with fail
      refine (erun_ack (c := C) (x := T) (k' := eaA j C T) HR.out (by rw [HL.out.1]; omega) hT0 (by rw [HL.out.2]; exact hTN) (by rw [HL.out.2]; omega) rfl).mono ?_
      rintro e w3 ⟨rfl, h⟩
      have R3 := Lib.hid h
      clear h HR
      go_wp2_with fail
      go_loopw [10] (fun iv W => ∃ m : Nat, iv = .int .i64 m ∧ 1 ≤ m ∧ m ≤ j + 1 ∧ ERun HH.out w P (eaA j C T) W) (fun iv _ => (j + 1 - intOf iv).toNat)
      case atStart => exact ⟨1, rfl, by omega, by omega, R3.out⟩
      case round =>
        obtain ⟨m, rfl, hm1, hm2, h⟩ := hrel
        have HR := Lib.hid h
        clear h R3
        by_cases h2 : m ≤ j
        · have i1 : (m : Int) ≤ (j : Int) := by omega
          have wm := u64_small m (by omega)
          have HM := Lib.hid (HMID.out (m - 1) (by omega))
          rw [show m - 1 + 1 = m by omega] at HM
          have hl : (eaA j C T).fr.length < 1000 := by
            rw [show (eaA j C T).fr.length = j from HL.out.2]
            omega
          have HLL := Lib.hid hl
          clear hl
          by_cases h3 : m ≤ T
          · have i2 : (m : Int) ≤ (T : Int) := by omega
            have HW := Lib.hid (show (waitsL (eaA j C T) m).length = 2 by rw [HM.out.1, if_pos (by have := HTA.out; omega)])
            go_wp2_with fail
            refine (erun_len (n := 2) HR.out (by omega) HLL.out HW.out).mono ?_
            rintro e w4 ⟨⟨ao, cap, rfl⟩, h⟩
            have R4 := Lib.hid h
            clear h HR
            go_wp2_with fail
            refine (erun_done R4.out (by omega) HLL.out HM.out.2).mono ?_
            rintro e w5 ⟨rfl, h⟩
            have R5 := Lib.hid h
            clear h R4
            go_wp2_with fail
            go_roundw
            case rel => exact ⟨m + 1, by go_num, by omega, by omega, R5.out⟩
            case measure => simp [intOf]; omega
          · have i2 : ¬ (m : Int) ≤ (T : Int) := by omega
            have HW := Lib.hid (show (waitsL (eaA j C T) m).length = 3 by rw [HM.out.1, if_neg (by have := HTA.out; omega)])
            go_wp2_with fail
            refine (erun_len (n := 3) HR.out (by omega) HLL.out HW.out).mono ?_
            rintro e w4 ⟨⟨ao, cap, rfl⟩, h⟩
            have R4 := Lib.hid h
            clear h HR
            go_wp2_with fail
            refine (erun_done R4.out (by omega) HLL.out HM.out.2).mono ?_
            rintro e w5 ⟨rfl, h⟩
            have R5 := Lib.hid h
            clear h R4
            go_wp2_with fail
            go_roundw
            case rel => exact ⟨m + 1, by go_num, by omega, by omega, R5.out⟩
            case measure => simp [intOf]; omega
        · have i1 : ¬ (m : Int) ≤ (j : Int) := by omega
          go_wp2_with fail
          go_loopw [13] (fun iv W => ∃ q : Nat, iv = .int .i64 ((q + 1 : Nat) : Int) ∧ q ≤ 3 ∧ ERun HH.out w P (eaL j C T q) W) (fun iv _ => (4 - intOf iv).toNat)
          case atStart => exact ⟨0, rfl, by omega, HR.out⟩
          case round =>
            obtain ⟨q, rfl, hq, h⟩ := hrel
            have HR2 := Lib.hid h
            clear h HR
            have HS := Lib.hid (HSZ.out q (by omega))
            obtain ⟨Q, hQ⟩ : ∃ Q, Q = q + 1 := ⟨_, rfl⟩
            rw [← hQ]
            have hQ4 : Q ≤ 4 := by omega
            by_cases h3 : q < 3
            · have q1 : (Q : Int) ≤ 3 := by omega
              have HQQ := Lib.hid hQ
              have hk : (eaL j C T q).ack Q j = eaL j C T (q + 1) := by rw [hQ]; rfl
              have HK := Lib.hid hk
              clear hQ hk
              go_wp2_with fail
              refine (erun_ack (c := Q) (x := j) HR2.out (by rw [HS.out.1]; omega) hN1 (by rw [HS.out.2]; exact Nat.le_refl _) (by rw [HS.out.2]; omega) HK.out).mono ?_
              rintro e w4 ⟨rfl, h⟩
              have R4 := Lib.hid h
              clear h HR2
              go_wp2_with fail
              go_roundw
              case rel => exact ⟨q + 1, by rw [← HQQ.out]; go_num, by omega, R4.out⟩
              case measure => simp [intOf]; omega
            · have q1 : ¬ (Q : Int) ≤ 3 := by omega
              obtain rfl : q = 3 := by omega
              clear hQ
              have hl : (eaL j C T 3).fr.length < 1000 := by
                rw [HS.out.2]
                omega
              have HLL := Lib.hid hl
              clear hl
              go_wp2_with fail
              refine (erun_done (x := 1) HR2.out (by omega) HLL.out HEND.out.1.1).mono ?_
              rintro e w4 ⟨rfl, h⟩
              have R4 := Lib.hid h
              clear h HR2
              go_wp2_with fail
              refine (erun_done (x := j) R4.out (by omega) HLL.out HEND.out.1.2).mono ?_
              rintro e w5 ⟨rfl, h⟩
              have R5 := Lib.hid h
              clear h R4
              go_wp2_with fail
              refine (erun_done (x := j + 1) R5.out (by omega) HLL.out HEND.out.2.1).mono ?_
              rintro e w6 ⟨rfl, h⟩
              have R6 := Lib.hid h
              clear h R5
              go_wp2_with fail
              refine (erun_done (x := 0) R6.out (by omega) HLL.out HEND.out.2.2).mono ?_
              rintro e w7 ⟨rfl, h⟩
              have R7 := Lib.hid h
              clear h R6
              go_wp2_with fail
              go_ret
              exact ⟨rfl, R7.out.below⟩
end Go.Proofs.YtmifcfkchnilmaaGreatDoor

