/- What is proved here: the statement PlainFull: whatever its slice, the statement returns true and leaves what was there. Conditions: package plain keeps its contracts; the slice's numbers are there; the statements' own beginning returns true. -/
import Derived.Test.YtbmekfjcpdbapaaGreatDoorGTree
import Derived.Test.YtbmekfjcpdbapaaGreatDoorGPair
import Derived.Test.YtbmekfjcpdbapaaGreatDoorPlainM2
import Derived.RegionTactic
import Derived.WalkArith
import Derived.Deep.CutBlock
import Derived.Deep.DeepCutAuto
namespace Go.Proofs.YtbmekfjcpdbapaaGreatDoor
open Go.RowKit Go.Extern.Stop Go.Stop Go.Extern Go.WalkArith
theorem full_up (n : Nat) (hn : n < 6) (l : List Nat) (hl : l ∈ fuAll n) (s : Nat) (hs : s < n + 1) : kdo (fuL l) 0 2 s ((n : Int) + 1) 3 0 = (fuL (s :: l), 0, 0, true) := by
  have h1 := List.all_eq_true.1 (List.all_eq_true.1 full_steps n (List.mem_range.2 hn)) l hl
  unfold fuStep at h1
  rw [full_len n l hl] at h1
  have h2 := of_decide_eq_true (List.all_eq_true.1 h1 s (List.mem_range.2 hs))
  have h3 : fuL (s :: l) = (kdo (fuL l) 0 2 s ((n : Int) + 1) 3 0).1 := by
    show (kdo (fuL l) 0 2 s ((l.length + 1 : Nat) : Int) 3 0).1 = _
    rw [full_len n l hl]
    rfl
  rw [h3]
  exact Prod.ext rfl h2
theorem fuEnd_parts {l : List Nat} (h : fuEnd l = true) : (∀ s, s < 7 → ((fuL l).sl 0 s).is = true ∧ ((fuL l).sl 0 s).frame = 0 ∧ ((fuL l).sl 0 s).rights = 3) ∧ (((fuL l).sl 0 7).is = false ∧ ((fuL l).sl 1 0).is = false ∧ refsN (fuL l) 0 32 = 7 ∧ (fuL l).envs = 2) ∧ ((kdo (fuL l) 0 5 0 0 0 0).2 = (0, 7, true) ∧ (freeK (kdo (fuL l) 0 5 0 0 0 0).1 2).length = 2 ∧ (kdo (fuL l) 0 5 0 0 0 0).1.frames = 2) := by
  unfold fuEnd at h
  rw [Bool.and_eq_true, Bool.and_eq_true] at h
  exact ⟨fun s hs => of_decide_eq_true (List.all_eq_true.1 h.1.1 s (List.mem_range.2 hs)), of_decide_eq_true h.1.2, of_decide_eq_true h.2⟩
theorem full_more {l : List Nat} (h : fuEnd l = true) (s : Nat) (hs : s < 7) : kdo (fuL l) 0 2 s 7 3 0 = (fuL l, 6, 0, true) := by
  obtain ⟨h1, h2, _⟩ := fuEnd_parts h
  obtain ⟨a1, a2, a3⟩ := h1 s hs
  have hE : deriveE (fuL l) 0 s 0 7 3 = 6 := by
    unfold deriveE
    rw [a1, a2, a3, h2.1, h2.2.2.1]
    rfl
  unfold kdo
  rw [if_neg (by rw [h2.2.2.2]; omega), h2.2.2.2, if_pos (by rcases (show s = 0 ∨ s = 1 ∨ s = 2 ∨ s = 3 ∨ s = 4 ∨ s = 5 ∨ s = 6 by omega) with rfl | rfl | rfl | rfl | rfl | rfl | rfl <;> rfl)]
  show (deriveS (fuL l) 0 s 0 7 3, deriveE (fuL l) 0 s 0 7 3, 0, true) = _
  unfold deriveS
  rw [hE, if_neg (by decide)]
theorem full_grant {l : List Nat} (h : fuEnd l = true) : kdo (fuL l) 0 3 0 1 0 1 = (fuL l, 6, 0, true) := by
  obtain ⟨h1, h2, _⟩ := fuEnd_parts h
  obtain ⟨a1, a2, a3⟩ := h1 0 (by omega)
  have hE : deriveE (fuL l) 0 0 1 0 1 = 6 := by
    unfold deriveE
    rw [a1, a2, a3, h2.2.1, h2.2.2.1]
    rfl
  unfold kdo
  rw [if_neg (by rw [h2.2.2.2]; omega), h2.2.2.2, if_pos (by rfl)]
  show (deriveS (fuL l) 0 0 1 0 1, deriveE (fuL l) 0 0 1 0 1, 0, true) = _
  unfold deriveS
  rw [hE, if_neg (by decide)]
def fuD (l : List Nat) : KernS := (kdo (fuL l) 0 5 0 0 0 0).1
theorem full_drop {l : List Nat} (h : fuEnd l = true) : kdo (fuL l) 0 5 0 0 0 0 = (fuD l, 0, 7, true) ∧ (freeK (fuD l) (fuD l).frames.toNat).length = 2 := by
  obtain ⟨_, _, h3⟩ := fuEnd_parts h
  refine ⟨Prod.ext rfl h3.1, ?_⟩
  show (freeK (kdo (fuL l) 0 5 0 0 0 0).1 (kdo (fuL l) 0 5 0 0 0 0).1.frames.toNat).length = 2
  rw [h3.2.2]
  exact h3.2.1
set_option maxRecDepth 100000 in
set_option maxHeartbeats 8000000 in
theorem pfull_any {At : World → (Nat → Prop) → Nat → KernS → Prop} (H : PlainC At) (ao : Option Addr) (a : Addr) (len cap : Nat) (hao : 0 < len → ao = some a) (E : Nat → Int) (w : World) (hz : ∀ i, i < len → w.cell? (a.add i) = some (.int .i64 (E i))) (hbeg : BegunAt11 w) :
    Calls Tryz.prog 10 #[.slice ao len cap] w fun e w' => e = .returned (.bool true) ∧ Below w.heap.size w w' := by
  have HB := Lib.hid hbeg
  have HH := Lib.hid H
  have HA := Lib.hid hao
  have HZ := Lib.hid hz
  have HE : Hid (∀ l, l ∈ fuAll 6 → fuEnd l = true) := fun l hl => List.all_eq_true.1 full_end l hl
  clear hbeg H hao hz
  go_enter Tryz.func10, Tryz.ntmps10
  go_wp2_with fail
  refine HB.out.mono ?_
  rintro e w1 ⟨rfl, hb1⟩
  have B1 := Lib.hid hb1
  clear hb1 HB
  go_wp2_with fail
  refine (small_any HH.out 2 B1.out (by omega)).mono ?_
  rintro e w2 ⟨P, rfl, hr⟩
  have R2 := Lib.hid hr
  clear hr B1
  go_wp2_with fail
  refine (ok_yes (k' := fuL []) (v := 0) R2.out (by unfold wordsIn; omega) (by kernel_rfl)).mono ?_
  rintro e w3 ⟨rfl, hr⟩
  have R3 := Lib.hid hr
  clear hr R2
  go_wp2_with fail
  go_loopw [5, 6] (fun nv iv W => ∃ (i n : Nat) (l : List Nat), nv = .int .i64 ((n : Int) + 1) ∧ iv = .int .i64 i ∧ i ≤ 9 ∧ n = min i 6 ∧ Hid (l ∈ fuAll n) ∧ KRun HH.out w P (fuL l) [] W) (fun _ iv _ => (9 - intOf iv).toNat)
  case atStart => exact ⟨0, 0, [], rfl, rfl, by omega, rfl, List.mem_singleton.2 rfl, R3.out⟩
  case round =>
    obtain ⟨i, n, l, rfl, rfl, hi9, hn, HL, h⟩ := hrel
    have HR := Lib.hid h
    have hn6 : n ≤ 6 := by omega
    clear h R3
    have n0 : (0 : Int) ≤ (n : Int) := by omega
    have n6 : (n : Int) ≤ 6 := by omega
    have i0 : (0 : Int) ≤ (i : Int) := by omega
    by_cases hi : i < 9
    · have i9 : (i : Int) < 9 := by omega
      have HI := Lib.hid hn
      clear hn
      by_cases hL : i < len
      · by_cases h6 : n < 6
        · obtain rfl : ao = some a := HA.out (by omega)
          have z := HZ.out i hL
          have z1 := (HR.out.below.cell (p := a.add i) (World.block_lt_of_cell? _ _ z)).trans z
          clear z
          generalize E i = q at z1
          have p0 : (0 : Int) < (n : Int) + 1 := by omega
          have t1 := tnear q ((n : Int) + 1) p0
          have t2 := tupm q ((n : Int) + 1) p0
          have e1 := Int.emod_nonneg (q.tmod ((n : Int) + 1)) (show (n : Int) + 1 ≠ 0 by omega)
          have e2 := Int.emod_lt_of_pos (q.tmod ((n : Int) + 1)) p0
          obtain ⟨S, hS⟩ : ∃ S : Nat, q.tmod ((n : Int) + 1) % ((n : Int) + 1) = (S : Int) := ⟨(q.tmod ((n : Int) + 1) % ((n : Int) + 1)).toNat, by omega⟩
          have hS2 : S < n + 1 := by omega
          have hS3 : (q.tmod ((n : Int) + 1) + ((n : Int) + 1)) % ((n : Int) + 1) = (S : Int) := by rw [Int.add_emod_right]; exact hS
          have l1 : (i : Int) < (len : Int) := by omega
          have P1 := Lib.hid (full_up n h6 l HL.out S hS2)
          have HL2 := Lib.hid (full_mem n l S HL.out (by omega))
          have b1 : (n : Int) + 1 < 7 := by omega
          have hmin : min ((n : Int) + 1) 7 = (n : Int) + 1 := by omega
          have hw1 : IntKind.u64.wrap ((n : Int) + 1) = (n : Int) + 1 := u64_small (n + 1) (by omega)
          have hw2 : IntKind.u64.wrap (S : Int) = (S : Int) := u64_small S (by omega)
          go_wp2_with fail
          generalize q.tmod ((n : Int) + 1) + ((n : Int) + 1) = y1
          generalize q.tmod ((n : Int) + 1) = y2
          clear t1 t2 e1 e2 hS hS3 hw2 z1
          refine (run_do HR.out (by unfold wordsIn; omega) P1.out).mono ?_
          rintro e w4 ⟨rfl, hr⟩
          have R4 := Lib.hid hr
          clear hr HR hmin
          go_wp2_with fail
          go_roundw
          case rel => exact ⟨i + 1, n + 1, _, by go_num, by go_num, by omega, by have := HI.out; omega, HL2, R4.out.alloc _⟩
          case measure => simp [intOf]; omega
        · obtain rfl : ao = some a := HA.out (by omega)
          have z := HZ.out i hL
          have z1 := (HR.out.below.cell (p := a.add i) (World.block_lt_of_cell? _ _ z)).trans z
          clear z
          generalize E i = q at z1
          have p0 : (0 : Int) < (n : Int) + 1 := by omega
          have t1 := tnear q ((n : Int) + 1) p0
          have t2 := tupm q ((n : Int) + 1) p0
          have e1 := Int.emod_nonneg (q.tmod ((n : Int) + 1)) (show (n : Int) + 1 ≠ 0 by omega)
          have e2 := Int.emod_lt_of_pos (q.tmod ((n : Int) + 1)) p0
          obtain ⟨S, hS⟩ : ∃ S : Nat, q.tmod ((n : Int) + 1) % ((n : Int) + 1) = (S : Int) := ⟨(q.tmod ((n : Int) + 1) % ((n : Int) + 1)).toNat, by omega⟩
          have hS2 : S < n + 1 := by omega
          have hS3 : (q.tmod ((n : Int) + 1) + ((n : Int) + 1)) % ((n : Int) + 1) = (S : Int) := by rw [Int.add_emod_right]; exact hS
          have l1 : (i : Int) < (len : Int) := by omega
          have h66 : n = 6 := by omega
          have P1 : Hid (kdo (fuL l) 0 2 S 7 3 0 = (fuL l, 6, 0, true)) := full_more (HE.out l (h66 ▸ HL.out)) S (by omega)
          clear h66
          have b1 : ¬ (n : Int) + 1 < 7 := by omega
          have hmin : min ((n : Int) + 1) 7 = 7 := by omega
          have hw2 : IntKind.u64.wrap (S : Int) = (S : Int) := u64_small S (by omega)
          go_wp2_with fail
          generalize q.tmod ((n : Int) + 1) + ((n : Int) + 1) = y1
          generalize q.tmod ((n : Int) + 1) = y2
          clear t1 t2 e1 e2 hS hS3 hw2 z1
          refine (run_do HR.out (by unfold wordsIn; omega) P1.out).mono ?_
          rintro e w4 ⟨rfl, hr⟩
          have R4 := Lib.hid hr
          clear hr HR hmin
          go_wp2_with fail
          go_roundw
          case rel => exact ⟨i + 1, n, l, rfl, by go_num, by omega, by have := HI.out; omega, HL, R4.out.alloc _⟩
          case measure => simp [intOf]; omega
      · by_cases h6 : n < 6
        · obtain ⟨S, hS⟩ : ∃ S : Nat, S = 0 := ⟨0, rfl⟩
          have hS2 : S < n + 1 := by omega
          have l1 : ¬ (i : Int) < (len : Int) := by omega
          have P1 := Lib.hid (full_up n h6 l HL.out S hS2)
          have HL2 := Lib.hid (full_mem n l S HL.out (by omega))
          have b1 : (n : Int) + 1 < 7 := by omega
          have hmin : min ((n : Int) + 1) 7 = (n : Int) + 1 := by omega
          have hw1 : IntKind.u64.wrap ((n : Int) + 1) = (n : Int) + 1 := u64_small (n + 1) (by omega)
          have hw2 : IntKind.u64.wrap (S : Int) = (S : Int) := u64_small S (by omega)
          have P2 := P1.out
          subst hS
          have P1 := Lib.hid P2
          clear P2 hw2
          go_wp2_with fail
          refine (run_do HR.out (by unfold wordsIn; omega) P1.out).mono ?_
          rintro e w4 ⟨rfl, hr⟩
          have R4 := Lib.hid hr
          clear hr HR hmin
          go_wp2_with fail
          go_roundw
          case rel => exact ⟨i + 1, n + 1, _, by go_num, by go_num, by omega, by have := HI.out; omega, HL2, R4.out.alloc _⟩
          case measure => simp [intOf]; omega
        · obtain ⟨S, hS⟩ : ∃ S : Nat, S = 0 := ⟨0, rfl⟩
          have hS2 : S < n + 1 := by omega
          have l1 : ¬ (i : Int) < (len : Int) := by omega
          have h66 : n = 6 := by omega
          have P1 : Hid (kdo (fuL l) 0 2 S 7 3 0 = (fuL l, 6, 0, true)) := full_more (HE.out l (h66 ▸ HL.out)) S (by omega)
          clear h66
          have b1 : ¬ (n : Int) + 1 < 7 := by omega
          have hmin : min ((n : Int) + 1) 7 = 7 := by omega
          have hw2 : IntKind.u64.wrap (S : Int) = (S : Int) := u64_small S (by omega)
          have P2 := P1.out
          subst hS
          have P1 := Lib.hid P2
          clear P2 hw2
          go_wp2_with fail
          refine (run_do HR.out (by unfold wordsIn; omega) P1.out).mono ?_
          rintro e w4 ⟨rfl, hr⟩
          have R4 := Lib.hid hr
          clear hr HR hmin
          go_wp2_with fail
          go_roundw
          case rel => exact ⟨i + 1, n, l, rfl, by go_num, by omega, by have := HI.out; omega, HL, R4.out.alloc _⟩
          case measure => simp [intOf]; omega
    · have h66 : n = 6 := by omega
      have HEN := HE.out l (h66 ▸ HL.out)
      have G1 := Lib.hid (full_grant HEN)
      have G2 := Lib.hid (full_drop HEN)
      clear HEN h66 hn
      have i9 : ¬ (i : Int) < 9 := by omega
      go_wp2_with fail
      refine (run_do HR.out (by unfold wordsIn; omega) G1.out).mono ?_
      rintro e w4 ⟨rfl, hr⟩
      have R4 := Lib.hid hr
      clear hr HR
      go_wp2_with fail
      refine (run_do (R4.out.box _) (by unfold wordsIn; omega) G2.out.1).mono ?_
      rintro e w5 ⟨rfl, hr⟩
      have R5 := Lib.hid hr
      clear hr R4
      have k1 := R5.out.read (List.mem_cons_self ..)
      have z0 := bk_cell k1 0
      have z1 := bk_cell k1 1
      have lz := bk_lt k1
      clear k1
      go_wp2_with fail
      refine (run_free (R5.out.alloc _)).mono ?_
      rintro e w6 ⟨⟨ao6, cap6, rfl⟩, hr⟩
      have R6 := Lib.hid hr
      clear hr R5
      rw [G2.out.2]
      go_wp2_with fail
      go_ret
      exact ⟨rfl, R6.out.below⟩
end Go.Proofs.YtbmekfjcpdbapaaGreatDoor

