/- What is proved here: the statement CapsChain: whatever its numbers and its bool, the statement returns true and leaves what was there. Conditions: package caps keeps its contracts; the statements' own beginning returns true. -/
import Derived.Test.YtmifcfkchnilmaaGreatDoorGTree
import Derived.Test.YtmifcfkchnilmaaGreatDoorGTreeY
import Derived.Test.YtmifcfkchnilmaaGreatDoorGPair
import Derived.RegionTactic
import Derived.WalkArith
namespace Go.Proofs.YtmifcfkchnilmaaGreatDoor
open Go.RowKit Go.Extern.Stop Go.Stop Go.Extern Go.WalkArith
theorem ret_true {a b : Int} (h : a = b) : Ending.returned (.bool (a == b)) = .returned (.bool true) := by
  subst h
  rw [beq_self_eq_true]
set_option maxRecDepth 100000 in
set_option maxHeartbeats 8000000 in
theorem cchain_any {At : World → (Nat → Prop) → Nat → KernS → Prop} (H : TreeC At) (n0 a0 : Int) (drop : Bool) (w : World) (hbeg : BegunAt11 w) :
    Calls Tryz.prog 8 #[.int .i64 n0, .int .i64 a0, .bool drop] w fun e w' => e = .returned (.bool true) ∧ Below w.heap.size w w' := by
  have HB := Lib.hid hbeg
  have HH := Lib.hid H
  clear hbeg H
  have m1 := Int.lt_tmod_of_pos n0 (show (0 : Int) < 6 by omega)
  have m2 := Int.tmod_lt_of_pos n0 (show (0 : Int) < 6 by omega)
  obtain ⟨N, hN⟩ : ∃ N : Nat, 2 + n0.tmod 6 % 6 = (N : Int) + 1 := ⟨(1 + n0.tmod 6 % 6).toNat, by omega⟩
  have hN1 : 1 ≤ N := by omega
  have hN2 : N < 7 := by omega
  have p0 : (0 : Int) < (N : Int) + 1 := by omega
  have t1 := tnear a0 ((N : Int) + 1) p0
  have t2 := tupm a0 ((N : Int) + 1) p0
  have e1 := Int.emod_nonneg (a0.tmod ((N : Int) + 1)) (show (N : Int) + 1 ≠ 0 by omega)
  have e2 := Int.emod_lt_of_pos (a0.tmod ((N : Int) + 1)) p0
  obtain ⟨A, hA⟩ : ∃ A : Nat, a0.tmod ((N : Int) + 1) % ((N : Int) + 1) = (A : Int) := ⟨(a0.tmod ((N : Int) + 1) % ((N : Int) + 1)).toNat, by omega⟩
  have hA2 : A < N + 1 := by omega
  have hA3 : (a0.tmod ((N : Int) + 1) + ((N : Int) + 1)) % ((N : Int) + 1) = (A : Int) := by rw [Int.add_emod_right]; exact hA
  go_enter Tryz.func8, Tryz.ntmps8
  go_wp2_with fail
  refine HB.out.mono ?_
  rintro e w1 ⟨rfl, hb1⟩
  have B1 := Lib.hid hb1
  clear hb1 HB
  go_wp2_with fail
  simp only [hA3]
  generalize a0.tmod ((N : Int) + 1) + ((N : Int) + 1) = y1
  generalize a0.tmod ((N : Int) + 1) = y2
  generalize n0.tmod 6 % 6 = y3
  generalize n0.tmod 6 + 6 = y4
  generalize n0.tmod 6 = y5
  clear m1 m2 t1 t2 e1 e2 hA hA3 hN
  refine (trun_new HH.out B1.out (by omega)).mono ?_
  rintro e w2 ⟨P, rfl, h⟩
  have R2 := Lib.hid h
  clear h B1
  go_wp2_with fail
  refine (trun_root (er := 0) (k' := chK 0) R2.out (by decide +kernel) rfl).mono ?_
  rintro e w3 ⟨rfl, h⟩
  have R3 := Lib.hid h
  clear h R2
  go_wp2_with fail
  go_loopw [9] (fun iv W => ∃ j : Nat, iv = .int .i64 ((j : Int) + 1) ∧ j ≤ N ∧ TRun HH.out w P (chK j) [] W) (fun iv _ => (N + 1 - intOf iv).toNat)
  case atStart => exact ⟨0, rfl, by omega, R3.out⟩
  case round =>
    obtain ⟨j, rfl, hj, h⟩ := hrel
    have HR := Lib.hid h
    clear h R3
    by_cases h1 : j < N
    · have j1 : (j : Int) + 1 < (N : Int) + 1 := by omega
      have A1 : Hid (tderE (chK j) ((j : Int) % 2) (j : Int) (((j : Int) + 1) % 2) ((j : Int) + 1) 3 = 0) := ch_up j (by omega)
      have A2 : Hid (tderS (chK j) ((j : Int) % 2) (j : Int) (((j : Int) + 1) % 2) ((j : Int) + 1) 3 = chK (j + 1)) := rfl
      go_wp2_with fail
      refine (trun_derive HR.out A1.out A2.out).mono ?_
      rintro e w4 ⟨rfl, h⟩
      have R4 := Lib.hid h
      clear h
      go_wp2_with fail
      go_roundw
      case rel => exact ⟨j + 1, by go_num, by omega, R4.out⟩
      case measure => simp [intOf]; omega
    · obtain rfl : j = N := by omega
      have C1 := Lib.hid (ch_all j hN2)
      have C2 := Lib.hid (ch_rev j hN2 A hA2)
      have C3 := Lib.hid (ch_after j hN2 A hA2)
      have C4 := Lib.hid (ch_has j hN2 A hA2)
      have C5 := Lib.hid (ch_envs j hN2 A hA2)
      go_wp2_with fail
      refine (trun_below HR.out C1.out.1).mono ?_
      rintro e w4 ⟨⟨ao4, cap4, rfl⟩, h⟩
      have R4 := Lib.hid h
      clear h HR
      go_wp2_with fail
      refine (trun_of (f := 3) R4.out (by omega) C1.out.2).mono ?_
      rintro e w5 ⟨⟨ao5, cap5, rfl⟩, h⟩
      have R5 := Lib.hid h
      clear h R4
      go_wp2_with fail
      have D1 : Hid (tgoneE (chK j) ((A : Int) % 2) (A : Int) = 0) := C2.out.1
      have D2 : Hid ((tgoneL (chK j) ((A : Int) % 2) (A : Int) false).length = j - A) := C2.out.2.1
      have D3 : Hid ((tgoneL (chK j) ((A : Int) % 2) (A : Int) true).length = j - A + 1) := C2.out.2.2
      refine (trun_revoke R5.out D1.out D2.out).mono ?_
      rintro e w6 ⟨⟨ao6, cap6, rfl⟩, h⟩
      have R6 := Lib.hid h
      clear h R5
      have hAj : A ≤ j := by omega
      have g1 : (((j - A : Nat) : Int) != (j : Int) - (A : Int)) = false := by
        rw [show ((j - A : Nat) : Int) = (j : Int) - (A : Int) by omega]
        simp
      cases drop
      · go_wp2_with fail
        go_loopw [15] (fun iv W => ∃ l : Nat, iv = .int .i64 l ∧ l ≤ j + 1 ∧ TRun HH.out w P (tgoneS (chK j) ((A % 2 : Nat) : Int) (A : Nat) false) [] W) (fun iv _ => (j + 1 - intOf iv).toNat)
        case atStart => exact ⟨0, rfl, by omega, R6.out⟩
        case round =>
          obtain ⟨l, rfl, hl, h⟩ := hrel
          have RL := Lib.hid h
          clear h R6
          by_cases h2 : l < j + 1
          · have l0 : (0 : Int) ≤ (l : Int) := by omega
            have l1 : (l : Int) < (j : Int) + 1 := by omega
            have HI := Lib.hid (C4.out l h2).1
            by_cases h3 : l < A + 1
            · have l3 : (l : Int) < (j : Int) + 1 - ((j : Int) - (A : Int)) := by omega
              have HI2 : Hid (((tgoneS (chK j) ((A % 2 : Nat) : Int) (A : Nat) false).sl (l % 2) l).is = true) := HI.out.trans (decide_eq_true h3)
              go_wp2_with fail
              refine (trun_has (e := l % 2) (s := l) RL.out (by rw [C5.out.1]; omega) (by omega) HI2.out).mono ?_
              rintro e v1 ⟨⟨c1, c2, c3, c4, rfl⟩, h⟩
              have RM := Lib.hid h
              clear h RL
              go_wp2_with fail
              go_roundw
              case rel => exact ⟨l + 1, by go_num, by omega, RM.out.alloc _⟩
              case measure => simp [intOf]; omega
            · have l3 : decide ((l : Int) < (j : Int) + 1 - ((j : Int) - (A : Int))) = false := decide_eq_false (by omega)
              have HI2 : Hid (((tgoneS (chK j) ((A % 2 : Nat) : Int) (A : Nat) false).sl (l % 2) l).is = false) := HI.out.trans (decide_eq_false h3)
              go_wp2_with fail
              refine (trun_has (e := l % 2) (s := l) RL.out (by rw [C5.out.1]; omega) (by omega) HI2.out).mono ?_
              rintro e v1 ⟨⟨c1, c2, c3, c4, rfl⟩, h⟩
              have RM := Lib.hid h
              clear h RL
              go_wp2_with fail
              go_roundw
              case rel => exact ⟨l + 1, by go_num, by omega, RM.out.alloc _⟩
              case measure => simp [intOf]; omega
          · obtain rfl : l = j + 1 := by omega
            go_wp2_with fail
            refine (trun_of (f := 3) RL.out (by omega) C3.out.1).mono ?_
            rintro e v1 ⟨⟨ao9, cap9, rfl⟩, h⟩
            have RM := Lib.hid h
            clear h RL
            go_wp2_with fail
            go_ret
            exact ⟨ret_true (by omega), RM.out.below⟩
      · go_wp2_with fail
        refine (trun_new HH.out R6.out.below (by omega)).mono ?_
        rintro e u2 ⟨P2, rfl, h⟩
        have Q2 := Lib.hid h
        clear h R6
        go_wp2_with fail
        refine (trun_root (er := 0) (k' := chK 0) Q2.out (by decide +kernel) rfl).mono ?_
        rintro e u3 ⟨rfl, h⟩
        have Q3 := Lib.hid h
        clear h Q2
        go_wp2_with fail
        go_loopw [14] (fun iv W => ∃ l : Nat, iv = .int .i64 ((l : Int) + 1) ∧ l ≤ j ∧ TRun HH.out w P2 (chK l) [] W) (fun iv _ => (j + 1 - intOf iv).toNat)
        case atStart => exact ⟨0, rfl, by omega, Q3.out⟩
        case round =>
          obtain ⟨l, rfl, hl, h⟩ := hrel
          have QR := Lib.hid h
          clear h Q3
          by_cases h2 : l < j
          · have j1 : (l : Int) + 1 < (j : Int) + 1 := by omega
            have A1 : Hid (tderE (chK l) ((l : Int) % 2) (l : Int) (((l : Int) + 1) % 2) ((l : Int) + 1) 3 = 0) := ch_up l (by omega)
            have A2 : Hid (tderS (chK l) ((l : Int) % 2) (l : Int) (((l : Int) + 1) % 2) ((l : Int) + 1) 3 = chK (l + 1)) := rfl
            go_wp2_with fail
            refine (trun_derive QR.out A1.out A2.out).mono ?_
            rintro e u4 ⟨rfl, h⟩
            have Q4 := Lib.hid h
            clear h
            go_wp2_with fail
            go_roundw
            case rel => exact ⟨l + 1, by go_num, by omega, Q4.out⟩
            case measure => simp [intOf]; omega
          · obtain rfl : l = j := by omega
            have g2 : (((l - A : Nat) : Int) + 1 != (l : Int) - (A : Int) + 1) = false := by
              rw [show ((l - A : Nat) : Int) = (l : Int) - (A : Int) by omega]
              simp
            go_wp2_with fail
            refine (trun_drop QR.out D1.out D3.out).mono ?_
            rintro e u6 ⟨⟨ao6, cap6, rfl⟩, h⟩
            have Q6 := Lib.hid h
            clear h QR
            go_wp2_with fail
            go_loopw [15] (fun iv W => ∃ m : Nat, iv = .int .i64 m ∧ m ≤ l + 1 ∧ TRun HH.out w P2 (tgoneS (chK l) ((A % 2 : Nat) : Int) (A : Nat) true) [] W) (fun iv _ => (l + 1 - intOf iv).toNat)
            case atStart => exact ⟨0, rfl, by omega, Q6.out⟩
            case round =>
              obtain ⟨m, rfl, hl, h⟩ := hrel
              have RL := Lib.hid h
              clear h Q6
              by_cases h2 : m < l + 1
              · have m0 : (0 : Int) ≤ (m : Int) := by omega
                have l1 : (m : Int) < (l : Int) + 1 := by omega
                have HI := Lib.hid (C4.out m h2).2
                by_cases h3 : m < A
                · have l3 : (m : Int) < (l : Int) + 1 - ((l : Int) - (A : Int) + 1) := by omega
                  have HI2 : Hid (((tgoneS (chK l) ((A % 2 : Nat) : Int) (A : Nat) true).sl (m % 2) m).is = true) := HI.out.trans (decide_eq_true h3)
                  go_wp2_with fail
                  refine (trun_has (e := m % 2) (s := m) RL.out (by rw [C5.out.2]; omega) (by omega) HI2.out).mono ?_
                  rintro e v1 ⟨⟨c1, c2, c3, c4, rfl⟩, h⟩
                  have RM := Lib.hid h
                  clear h RL
                  go_wp2_with fail
                  go_roundw
                  case rel => exact ⟨m + 1, by go_num, by omega, RM.out.alloc _⟩
                  case measure => simp [intOf]; omega
                · have l3 : decide ((m : Int) < (l : Int) + 1 - ((l : Int) - (A : Int) + 1)) = false := decide_eq_false (by omega)
                  have HI2 : Hid (((tgoneS (chK l) ((A % 2 : Nat) : Int) (A : Nat) true).sl (m % 2) m).is = false) := HI.out.trans (decide_eq_false h3)
                  go_wp2_with fail
                  refine (trun_has (e := m % 2) (s := m) RL.out (by rw [C5.out.2]; omega) (by omega) HI2.out).mono ?_
                  rintro e v1 ⟨⟨c1, c2, c3, c4, rfl⟩, h⟩
                  have RM := Lib.hid h
                  clear h RL
                  go_wp2_with fail
                  go_roundw
                  case rel => exact ⟨m + 1, by go_num, by omega, RM.out.alloc _⟩
                  case measure => simp [intOf]; omega
              · obtain rfl : m = l + 1 := by omega
                go_wp2_with fail
                refine (trun_of (f := 3) RL.out (by omega) C3.out.2).mono ?_
                rintro e v1 ⟨⟨ao9, cap9, rfl⟩, h⟩
                have RM := Lib.hid h
                clear h RL
                go_wp2_with fail
                go_ret
                exact ⟨ret_true (by omega), RM.out.below⟩
end Go.Proofs.YtmifcfkchnilmaaGreatDoor

