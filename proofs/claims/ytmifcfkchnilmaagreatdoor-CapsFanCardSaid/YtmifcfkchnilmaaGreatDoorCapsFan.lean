/- What is proved here: the statement CapsFan: whatever its numbers, the statement returns true and leaves what was there. Conditions: package caps keeps its contracts; the statements' own beginning returns true. -/
import Derived.Test.YtmifcfkchnilmaaGreatDoorGTree
import Derived.Test.YtmifcfkchnilmaaGreatDoorGTreeY
import Derived.Test.YtmifcfkchnilmaaGreatDoorGPair
import Derived.RegionTactic
import Derived.WalkArith
namespace Go.Proofs.YtmifcfkchnilmaaGreatDoor
open Go.RowKit Go.Extern.Stop Go.Stop Go.Extern Go.WalkArith
def faK : Nat → KernS
  | 0 => rootS (newK 1 2 16) 1 7 4
  | i + 1 => tderS (faK i) 1 7 0 (i : Nat) 1
theorem fa_up : ∀ i : Nat, i < 7 → tderE (faK i) 1 7 0 (i : Nat) 1 = 0 := by decide +kernel
theorem fa_drop : ∀ n : Nat, n < 8 → ∀ a : Nat, a < n → tgoneE (faK n) 0 (a : Nat) = 0 ∧ tgoneL (faK n) 0 (a : Nat) true = [a] := by decide +kernel
def faD (n a : Nat) : KernS := tgoneS (faK n) 0 (a : Nat) true
theorem fa_rest : ∀ n : Nat, n < 8 → ∀ a : Nat, a < n → (tbelowL (faD n a) 1 7).length = n - 1 ∧ tgoneE (faD n a) 1 7 = 0 ∧ (tgoneL (faD n a) 1 7 false).length = n - 1 := by decide +kernel
theorem fa_end : ∀ n : Nat, n < 8 → ∀ a : Nat, a < n → ((tgoneS (faD n a) 1 7 false).sl 1 7).is = true ∧ refsN (tgoneS (faD n a) 1 7 false) 4 32 = 1 ∧ (tgoneS (faD n a) 1 7 false).envs = 2 := by decide +kernel
section
variable {At : World → (Nat → Prop) → Nat → KernS → Prop} {H : TreeC At} {w W W' : World} {P : Nat} {k k' : KernS} {L : List Thing}
theorem trun_drop1 {e s er : Int} {q : Nat} (h : TRun H w P k L W) (h0 : tgoneE k e s = er) (hl : tgoneL k e s true = [q]) :
    Calls Tryz.prog 23 #[.pointer (some ⟨P, 0, none⟩), .int .i64 e, .int .i64 s] W fun x W' => (∃ g cap, x = .returned (.tuple #[.slice (some ⟨g, 0, none⟩) 1 cap, .int .i64 er]) ∧ g < W'.heap.size ∧ W'.cell? ⟨g, 0, none⟩ = some (.int .i64 ((q / 8 : Nat) : Int)) ∧ W'.cell? ⟨g, 1, none⟩ = some (.int .i64 ((q % 8 : Nat) : Int))) ∧ TRun H w P (tgoneS k e s true) L W' := by
  subst h0
  obtain ⟨S, h⟩ := h
  refine (H.drop_ P S k e s W (Side.at L h)).mono ?_
  rintro x W' ⟨S', v, rfl, hs, _, h4, h5, h6⟩
  rw [hl] at hs
  obtain ⟨ao, cap, g, rfl, h7⟩ := hs
  obtain ⟨rfl, hg, hc⟩ := h7 (show 0 < [q].length from Nat.zero_lt_one)
  exact ⟨⟨g, cap, rfl, hg, hc 0 _ rfl, hc 1 _ rfl⟩, TRun.step h h4 h5 h6⟩
end
set_option maxRecDepth 100000 in
set_option maxHeartbeats 8000000 in
theorem cfan_any {At : World → (Nat → Prop) → Nat → KernS → Prop} (H : TreeC At) (n0 a0 : Int) (w : World) (hbeg : BegunAt11 w) :
    Calls Tryz.prog 10 #[.int .i64 n0, .int .i64 a0] w fun e w' => e = .returned (.bool true) ∧ Below w.heap.size w w' := by
  have HB := Lib.hid hbeg
  have HH := Lib.hid H
  clear hbeg H
  have m1 := Int.lt_tmod_of_pos n0 (show (0 : Int) < 7 by omega)
  have m2 := Int.tmod_lt_of_pos n0 (show (0 : Int) < 7 by omega)
  obtain ⟨N, hN⟩ : ∃ N : Nat, 1 + n0.tmod 7 % 7 = (N : Int) := ⟨(1 + n0.tmod 7 % 7).toNat, by omega⟩
  have hN1 : 1 ≤ N := by omega
  have hN2 : N < 8 := by omega
  have p0 : (0 : Int) < (N : Int) := by omega
  have t1 := tnear a0 (N : Int) p0
  have t2 := tupm a0 (N : Int) p0
  have e1 := Int.emod_nonneg (a0.tmod (N : Int)) (show (N : Int) ≠ 0 by omega)
  have e2 := Int.emod_lt_of_pos (a0.tmod (N : Int)) p0
  obtain ⟨A, hA⟩ : ∃ A : Nat, a0.tmod (N : Int) % (N : Int) = (A : Int) := ⟨(a0.tmod (N : Int) % (N : Int)).toNat, by omega⟩
  have hA2 : A < N := by omega
  have hA3 : (a0.tmod (N : Int) + (N : Int)) % (N : Int) = (A : Int) := by rw [Int.add_emod_right]; exact hA
  go_enter Tryz.func10, Tryz.ntmps10
  go_wp2_with fail
  refine HB.out.mono ?_
  rintro e w1 ⟨rfl, hb1⟩
  have B1 := Lib.hid hb1
  clear hb1 HB
  go_wp2_with fail
  simp only [hA3]
  generalize a0.tmod (N : Int) + (N : Int) = y1
  generalize a0.tmod (N : Int) = y2
  generalize n0.tmod 7 % 7 = y3
  generalize n0.tmod 7 + 7 = y4
  generalize n0.tmod 7 = y5
  clear m1 m2 t1 t2 e1 e2 hA hA3 hN
  refine (trun_new HH.out B1.out (by omega)).mono ?_
  rintro e w2 ⟨P, rfl, h⟩
  have R2 := Lib.hid h
  clear h B1
  go_wp2_with fail
  refine (trun_root (er := 0) (k' := faK 0) R2.out (by decide +kernel) rfl).mono ?_
  rintro e w3 ⟨rfl, h⟩
  have R3 := Lib.hid h
  clear h R2
  go_wp2_with fail
  go_loopw [7] (fun iv W => ∃ j : Nat, iv = .int .i64 j ∧ j ≤ N ∧ TRun HH.out w P (faK j) [] W) (fun iv _ => (N - intOf iv).toNat)
  case atStart => exact ⟨0, rfl, by omega, R3.out⟩
  case round =>
    obtain ⟨j, rfl, hj, h⟩ := hrel
    have HR := Lib.hid h
    clear h R3
    by_cases h1 : j < N
    · have j1 : (j : Int) < (N : Int) := by omega
      have A1 := Lib.hid (fa_up j (by omega))
      go_wp2_with fail
      refine (trun_derive (k' := faK (j + 1)) HR.out A1.out rfl).mono ?_
      rintro e w4 ⟨rfl, h⟩
      have R4 := Lib.hid h
      clear h
      go_wp2_with fail
      go_roundw
      case rel => exact ⟨j + 1, by go_num, by omega, R4.out⟩
      case measure => simp [intOf]; omega
    · obtain rfl : j = N := by omega
      have C1 := Lib.hid (fa_drop j hN2 A hA2)
      have C2 := Lib.hid (fa_rest j hN2 A hA2)
      have C3 := Lib.hid (fa_end j hN2 A hA2)
      have q1 : ((A / 8 : Nat) : Int) = 0 := by omega
      have q2 : ((A % 8 : Nat) : Int) = (A : Int) := by omega
      have g1 : (((j - 1 : Nat) : Int) != (j : Int) - 1) = false := by
        rw [show ((j - 1 : Nat) : Int) = (j : Int) - 1 by omega]
        simp
      have g2 : (((j - 1 : Nat) : Int) == (j : Int) - 1) = true := by
        rw [show ((j - 1 : Nat) : Int) = (j : Int) - 1 by omega]
        simp
      go_wp2_with fail
      refine (trun_drop1 HR.out C1.out.1 C1.out.2).mono ?_
      rintro e w4 ⟨⟨g, cap, rfl, hg, d0, d1⟩, h⟩
      rw [q1] at d0
      rw [q2] at d1
      have R4 := Lib.hid h
      clear h HR q1 q2
      go_wp2_with fail
      refine (trun_below (k := faD j A) R4.out C2.out.1).mono ?_
      rintro e w5 ⟨⟨ao5, cap5, rfl⟩, h⟩
      have R5 := Lib.hid h
      clear h R4 d0 d1
      go_wp2_with fail
      refine (trun_revoke (k := faD j A) R5.out C2.out.2.1 C2.out.2.2).mono ?_
      rintro e w6 ⟨⟨ao6, cap6, rfl⟩, h⟩
      have R6 := Lib.hid h
      clear h R5
      go_wp2_with fail
      refine (trun_has (e := 1) (s := 7) R6.out (by rw [C3.out.2.2]; omega) (by omega) C3.out.1).mono ?_
      rintro e w7 ⟨⟨c1, c2, c3, c4, rfl⟩, h⟩
      have R7 := Lib.hid h
      clear h R6
      go_wp2_with fail
      refine (trun_of (f := 4) (R7.out.alloc _) (by omega) C3.out.2.1).mono ?_
      rintro e w8 ⟨⟨ao8, cap8, rfl⟩, h⟩
      have R8 := Lib.hid h
      clear h R7
      go_wp2_with fail
      go_ret
      exact ⟨rfl, R8.out.below⟩
end Go.Proofs.YtmifcfkchnilmaaGreatDoor

