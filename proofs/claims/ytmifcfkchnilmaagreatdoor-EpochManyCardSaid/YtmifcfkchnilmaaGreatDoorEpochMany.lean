/- What is proved here: the statement EpochMany: whatever its numbers, the statement returns true and leaves what was there. Conditions: package epoch keeps its contracts; the numbers are there; the statements' own beginning returns true. -/
import Derived.Test.YtmifcfkchnilmaaGreatDoorGEpoch
import Derived.Test.YtmifcfkchnilmaaGreatDoorGPair
import Derived.RegionTactic
import Derived.WalkArith
namespace Go.Proofs.YtmifcfkchnilmaaGreatDoor
open Go.RowKit Go.Extern.Stop Go.Stop Go.Extern Go.WalkArith
def restL (n c : Nat) : List Nat := (List.range n).filter fun j => decide (¬ c = j)
theorem rest_len : ∀ n : Nat, n < 9 → ∀ c : Nat, c < n → (restL n c).length = n - 1 ∧ (restL n c).isEmpty = decide (n = 1) := by decide +kernel
theorem rest_ne {n c j : Nat} (hj : j < (restL n c).length) : ¬ c = (restL n c)[j] := by
  have h : (restL n c)[j] ∈ restL n c := List.getElem_mem hj
  unfold restL at h
  exact of_decide_eq_true (List.mem_filter.1 h).2
def emK (n : Nat) (l : List Nat) : EpS := ⟨n, fun _ => 0, l⟩
theorem em_waits {n c : Nat} {l : List Nat} : waitsL (emK n (l ++ [c])) (l.length + 1) = restL n c := by
  unfold waitsL emK restL
  dsimp only
  rw [if_pos ⟨by omega, by simp⟩]
  refine List.filter_congr fun j _ => ?_
  have e1 : (l ++ [c]).getD (l.length + 1 - 1) 0 = c := by simp [List.getD]
  rw [e1]
  exact decide_eq_decide.2 ⟨fun h => h.1, fun h => ⟨h, by omega⟩⟩
theorem em_done {n c : Nat} {l : List Nat} (hn : n < 9) (hc : c < n) : doneB (emK n (l ++ [c])) (l.length + 1) = decide (n = 1) := by
  unfold doneB
  rw [em_waits, (rest_len n hn c hc).2]
  have e1 : decide (1 ≤ l.length + 1 ∧ l.length + 1 ≤ (emK n (l ++ [c])).fr.length) = true := decide_eq_true ⟨by omega, by show _ ≤ (l ++ [c]).length; simp⟩
  rw [e1, Bool.true_and]
theorem ints_at (l : List Nat) (j : Nat) (hj : j < l.length) : (intsV l)[j]? = some (.int .i64 ((l[j] : Nat) : Int)) := by
  unfold intsV
  rw [List.getElem?_map, List.getElem?_eq_getElem hj]
  rfl
def WaitAt (bo : Option Addr) (g M : Nat) (l : List Nat) (W : World) : Prop := 0 < M → bo = some ⟨g, 0, none⟩ ∧ g < W.heap.size ∧ ∀ i x, (intsV l)[i]? = some x → W.cell? ⟨g, i, none⟩ = some x
set_option maxRecDepth 100000 in
set_option maxHeartbeats 8000000 in
theorem emany_any {At : World → (Nat → Prop) → Nat → EpS → Prop} (H : EpochC At) (n0 : Int) (ao : Option Addr) (a : Addr) (len cap : Nat) (hao : 0 < len → ao = some a) (E : Nat → Int) (w : World) (hz : ∀ i, i < len → w.cell? (a.add i) = some (.int .i64 (E i))) (hbeg : BegunAt11 w) :
    Calls Tryz.prog 15 #[.int .i64 n0, .slice ao len cap] w fun e w' => e = .returned (.bool true) ∧ Below w.heap.size w w' := by
  have HB := Lib.hid hbeg
  have HH := Lib.hid H
  have HA := Lib.hid hao
  have HZ := Lib.hid hz
  clear hbeg H hao hz
  have m1 := Int.lt_tmod_of_pos n0 (show (0 : Int) < 8 by omega)
  have m2 := Int.tmod_lt_of_pos n0 (show (0 : Int) < 8 by omega)
  obtain ⟨N, hN⟩ : ∃ N : Nat, 1 + n0.tmod 8 % 8 = (N : Int) := ⟨(1 + n0.tmod 8 % 8).toNat, by omega⟩
  have hN1 : 1 ≤ N := by omega
  have hN8 : N ≤ 8 := by omega
  go_enter Tryz.func15, Tryz.ntmps15
  go_wp2_with fail
  refine HB.out.mono ?_
  rintro e w1 ⟨rfl, hb1⟩
  have B1 := Lib.hid hb1
  clear hb1 HB
  go_wp2_with fail
  generalize n0.tmod 8 % 8 = y3
  generalize n0.tmod 8 + 8 = y4
  generalize n0.tmod 8 = y5
  clear m1 m2 hN
  refine (erun_new (n := N) HH.out B1.out hN1 hN8).mono ?_
  rintro e w2 ⟨P, rfl, h⟩
  have R2 := Lib.hid h
  clear h B1
  have p0 : (0 : Int) < (N : Int) := by omega
  go_wp2_with fail
  go_loopw [7] (fun iv W => ∃ (i : Nat) (l : List Nat), iv = .int .i64 i ∧ i ≤ len ∧ i ≤ 20 ∧ l.length = i ∧ ERun HH.out w P (emK N l) W) (fun iv _ => (20 - intOf iv).toNat)
  case atStart => exact ⟨0, [], rfl, by omega, by omega, rfl, R2.out⟩
  case round =>
    obtain ⟨i, l, rfl, hil, hi20, hl, h⟩ := hrel
    have HR := Lib.hid h
    have HL := Lib.hid hl
    clear h R2 hl
    have i0 : (0 : Int) ≤ (i : Int) := by omega
    rcases (show (i < len ∧ i < 20) ∨ ¬ i < len ∨ (i < len ∧ i = 20) by omega) with ⟨h1, h2⟩ | h1 | ⟨h1, h2⟩
    · obtain rfl : ao = some a := HA.out (by omega)
      have i1 : (i : Int) < (len : Int) := by omega
      have i2 : (i : Int) < 20 := by omega
      have z := HZ.out i h1
      have z1 := (HR.out.below.cell (p := a.add i) (World.block_lt_of_cell? _ _ z)).trans z
      clear z
      generalize E i = q at z1
      have t1 := tnear q (N : Int) p0
      have t2 := tupm q (N : Int) p0
      have e1 := Int.emod_nonneg (q.tmod (N : Int)) (show (N : Int) ≠ 0 by omega)
      have e2 := Int.emod_lt_of_pos (q.tmod (N : Int)) p0
      obtain ⟨c, hc⟩ : ∃ c : Nat, q.tmod (N : Int) % (N : Int) = (c : Int) := ⟨(q.tmod (N : Int) % (N : Int)).toNat, by omega⟩
      have hcN : c < N := by omega
      have hc3 : (q.tmod (N : Int) + (N : Int)) % (N : Int) = (c : Int) := by rw [Int.add_emod_right]; exact hc
      have hW := em_waits (n := N) (c := c) (l := l)
      have hD := em_done (l := l) (show N < 9 by omega) hcN
      obtain ⟨hr1, _⟩ := rest_len N (by omega) c hcN
      rw [HL.out] at hW hD
      have HW := Lib.hid hW
      have HD := Lib.hid hD
      have HR1 := Lib.hid hr1
      have hfl : (emK N (l ++ [c])).fr.length < 1000 := by
        show (l ++ [c]).length < 1000
        rw [List.length_append, HL.out]
        simp only [List.length_cons, List.length_nil]
        omega
      have HFL := Lib.hid hfl
      clear hW hD hr1 hfl
      have wi : IntKind.u64.wrap ((i : Int) + 1) = (i : Int) + 1 := by
        have h := u64_small (i + 1) (by omega)
        rw [Int.natCast_add] at h
        exact h
      go_wp2_with fail
      try simp only [hc3]
      generalize q.tmod (N : Int) + (N : Int) = y1
      generalize q.tmod (N : Int) = y2
      clear t1 t2 e1 e2 hc hc3
      refine (erun_begin (c := c) (m := i) (k' := emK N (l ++ [c])) HR.out hcN HL.out (by omega) rfl (fun _ => rfl)).mono ?_
      rintro e w3 ⟨rfl, h⟩
      have R3 := Lib.hid h
      clear h HR z1
      have eN : (((N - 1 : Nat) : Int) != (N : Int) - 1) = false := by
        rw [show ((N - 1 : Nat) : Int) = (N : Int) - 1 by omega]
        simp
      by_cases hN2 : N = 1
      · have HD2 := Lib.hid (show doneB (emK N (l ++ [c])) (i + 1) = true by rw [HD.out]; exact decide_eq_true hN2)
        have n1 : ((N : Int) == 1) = true := by rw [hN2]; rfl
        clear hN2 HD
        go_wp2_with fail
        refine (erun_len (x := i + 1) (n := N - 1) R3.out (by omega) HFL.out (by rw [HW.out]; exact HR1.out)).mono ?_
        rintro e w4 ⟨⟨ao4, cap4, rfl⟩, h⟩
        have R4 := Lib.hid h
        clear h R3
        go_wp2_with fail
        refine (erun_done (x := i + 1) R4.out (by omega) HFL.out HD2.out).mono ?_
        rintro e w5 ⟨rfl, h⟩
        have R5 := Lib.hid h
        clear h R4
        go_wp2_with fail
        refine (erun_waits (x := i + 1) R5.out (by omega) HFL.out HW.out).mono ?_
        rintro e w6 ⟨v, rfl, hs, h⟩
        have R6 := Lib.hid h
        clear h R5
        obtain ⟨bo, bcap, g, rfl, h7⟩ := hs
        have H7 := Lib.hid h7
        clear h7
        obtain ⟨M, hM⟩ : ∃ M, (restL N c).length = M := ⟨_, rfl⟩
        rw [hM] at H7
        rw [hM]
        have HM := Lib.hid hM
        have hM8 : M < 9 := by have := HR1.out; omega
        clear hM
        go_wp2_with fail
        go_loopw [79] (fun jv W => ∃ j : Nat, jv = .int .i64 j ∧ j ≤ M ∧ ERun HH.out w P (emK N (l ++ [c])) W ∧ WaitAt bo g M (restL N c) W) (fun jv _ => (M - intOf jv).toNat)
        case atStart => exact ⟨0, rfl, by omega, R6.out, H7.out⟩
        case round =>
          clear R6 H7
          obtain ⟨j, rfl, hj, h, h7⟩ := hrel
          have R7 := Lib.hid h
          have H7 := Lib.hid h7
          clear h h7
          by_cases h3 : j < M
          · have j1 : (j : Int) < (M : Int) := by omega
            obtain ⟨rfl, lg, hcell⟩ := H7.out (by omega)
            have hjl : j < (restL N c).length := by rw [HM.out]; exact h3
            have z2 := hcell j _ (ints_at _ j hjl)
            have hne := rest_ne hjl
            generalize (restL N c)[j] = y at z2 hne
            have hne2 : ¬ (y : Int) = (c : Int) := by omega
            clear hcell hjl hne
            go_wp2_with fail
            go_roundw
            case rel => exact ⟨j + 1, by go_num, by omega, R7.out, H7.out⟩
            case measure => simp [intOf]; omega
          · obtain rfl : j = M := by omega
            have j1 : ¬ (j : Int) < (j : Int) := by omega
            go_wp2_with fail
            go_roundw
            case rel => exact ⟨i + 1, l ++ [c], by go_num, by omega, by omega, by rw [List.length_append, HL.out]; rfl, R7.out⟩
            case measure => simp [intOf]; omega
      · have HD2 := Lib.hid (show doneB (emK N (l ++ [c])) (i + 1) = false by rw [HD.out]; exact decide_eq_false hN2)
        have n1 : ((N : Int) == 1) = false := by rw [beq_eq_false_iff_ne]; omega
        clear hN2 HD
        go_wp2_with fail
        refine (erun_len (x := i + 1) (n := N - 1) R3.out (by omega) HFL.out (by rw [HW.out]; exact HR1.out)).mono ?_
        rintro e w4 ⟨⟨ao4, cap4, rfl⟩, h⟩
        have R4 := Lib.hid h
        clear h R3
        go_wp2_with fail
        refine (erun_done (x := i + 1) R4.out (by omega) HFL.out HD2.out).mono ?_
        rintro e w5 ⟨rfl, h⟩
        have R5 := Lib.hid h
        clear h R4
        go_wp2_with fail
        refine (erun_waits (x := i + 1) R5.out (by omega) HFL.out HW.out).mono ?_
        rintro e w6 ⟨v, rfl, hs, h⟩
        have R6 := Lib.hid h
        clear h R5
        obtain ⟨bo, bcap, g, rfl, h7⟩ := hs
        have H7 := Lib.hid h7
        clear h7
        obtain ⟨M, hM⟩ : ∃ M, (restL N c).length = M := ⟨_, rfl⟩
        rw [hM] at H7
        rw [hM]
        have HM := Lib.hid hM
        have hM8 : M < 9 := by have := HR1.out; omega
        clear hM
        go_wp2_with fail
        go_loopw [79] (fun jv W => ∃ j : Nat, jv = .int .i64 j ∧ j ≤ M ∧ ERun HH.out w P (emK N (l ++ [c])) W ∧ WaitAt bo g M (restL N c) W) (fun jv _ => (M - intOf jv).toNat)
        case atStart => exact ⟨0, rfl, by omega, R6.out, H7.out⟩
        case round =>
          clear R6 H7
          obtain ⟨j, rfl, hj, h, h7⟩ := hrel
          have R7 := Lib.hid h
          have H7 := Lib.hid h7
          clear h h7
          by_cases h3 : j < M
          · have j1 : (j : Int) < (M : Int) := by omega
            obtain ⟨rfl, lg, hcell⟩ := H7.out (by omega)
            have hjl : j < (restL N c).length := by rw [HM.out]; exact h3
            have z2 := hcell j _ (ints_at _ j hjl)
            have hne := rest_ne hjl
            generalize (restL N c)[j] = y at z2 hne
            have hne2 : ¬ (y : Int) = (c : Int) := by omega
            clear hcell hjl hne
            go_wp2_with fail
            go_roundw
            case rel => exact ⟨j + 1, by go_num, by omega, R7.out, H7.out⟩
            case measure => simp [intOf]; omega
          · obtain rfl : j = M := by omega
            have j1 : ¬ (j : Int) < (j : Int) := by omega
            go_wp2_with fail
            go_roundw
            case rel => exact ⟨i + 1, l ++ [c], by go_num, by omega, by omega, by rw [List.length_append, HL.out]; rfl, R7.out⟩
            case measure => simp [intOf]; omega
    · have i1 : ¬ (i : Int) < (len : Int) := by omega
      go_wp2_with fail
      go_ret
      exact ⟨rfl, HR.out.below⟩
    · have i1 : (i : Int) < (len : Int) := by omega
      subst h2
      go_wp2_with fail
      go_ret
      exact ⟨rfl, HR.out.below⟩
end Go.Proofs.YtmifcfkchnilmaaGreatDoor

