/- What is proved here: the walk of the statement MemOwn: it answers true and leaves the memory that was there as it was. Conditions: the statements' beginning does so in every later world. -/
import Derived.Test.YtfpnpgpelncgeaaGreatDoorGParts
namespace Go.Proofs.YtfpnpgpelncgeaaGreatDoor
open Go.RowKit Go.Extern.Stop Go.Stop Go.Extern

/-- What stands at place j of the memory: v at the one that was stored to. -/
def ownG (p : Nat) (v : Int) (j : Nat) : Int := if j = p then v else 0
/-- The same, frame f cleared. -/
def clearM (f : Nat) (g : Nat → Int) (j : Nat) : Int := if f * 16 ≤ j ∧ j < f * 16 + 16 then 0 else g j
theorem own_eq (p : Nat) (v : Int) : (fun j => if j = p then v else (fun _ => (0 : Int)) j) = ownG p v := rfl

set_option maxRecDepth 100000 in
set_option maxHeartbeats 4000000 in
theorem memOwn_walk (f0 a0 v : Int) (w : World) (hbeg : ∀ W, Below w.heap.size w W → BegunAt W) :
    Calls Tryz.prog 13 #[.int .i64 f0, .int .i64 a0, .int .u64 v] w fun e w' => e = .returned (.bool true) ∧ Below w.heap.size w w' := by
  have HG := Lib.hid hbeg
  clear hbeg
  obtain ⟨f, hf, hf16⟩ := pmod f0 16 (by omega) (by omega)
  obtain ⟨a, ha, ha16⟩ := pmod a0 16 (by omega) (by omega)
  have hf : (wrap64 (f0.tmod 16 + 16)).tmod 16 = (f : Int) := hf
  have ha : (wrap64 (a0.tmod 16 + 16)).tmod 16 = (a : Int) := ha
  go_enter Tryz.func13, Tryz.ntmps13
  go_wp2_with fail
  refine Calls.mono (HG.out _ (Below.refl _ _)) ?_
  rintro e w1 ⟨rfl, hb1⟩
  have B1 := Lib.hid hb1
  clear hb1 HG
  go_wp2_with fail
  refine (new_16 _).mono ?_
  rintro e w2 ⟨rfl, hb2, hm2⟩
  obtain ⟨M, hM⟩ : ∃ M, M = w1.heap.size + 1 := ⟨_, rfl⟩
  obtain ⟨G, hG⟩ : ∃ G, G = w1.heap.size := ⟨_, rfl⟩
  rw [← hM, ← hG] at hm2
  rw [← hM]
  have HF : Hid (w.heap.size ≤ G) := by rw [hG]; exact B1.out.size
  have B2 := Lib.hid (bl_trans B1.out hb2)
  have M2 := Lib.hid hm2
  clear hb2 hm2 hM hG B1
  go_wp2_with fail
  refine (store_any _ M G 16 f a v _ M2.out hf16 (by omega) ha16).mono ?_
  rintro e w3 ⟨rfl, rfl⟩
  obtain ⟨w3, hw3⟩ : ∃ w3, w3 = w2.setCell ⟨G, f * 16 + a, none⟩ (.int .u64 v) := ⟨_, rfl⟩
  have M3 : Hid (MemIs w3 M G 16 (ownG (f * 16 + a) v)) := by rw [hw3]; exact M2.out.set (i := f * 16 + a) (by omega) v
  have B3 : Hid (Below w.heap.size w w3) := by rw [hw3]; exact B2.out.setCell HF.out _
  rw [← hw3]
  clear hw3 M2 B2
  go_wp2_with fail
  go_loopw [9] (fun iv W => ∃ i : Nat, i ≤ 16 ∧ iv = .int .i64 i ∧ Below w.heap.size w W ∧ MemIs W M G 16 (ownG (f * 16 + a) v)) (fun iv _ => (16 - intOf iv).toNat)
  case atStart => exact ⟨0, by omega, rfl, B3.out, M3.out⟩
  case round =>
    obtain ⟨i, hi, rfl, hb, hm⟩ := hrel
    have HB := Lib.hid hb
    have HM := Lib.hid hm
    clear hb hm
    by_cases hlt : i < 16
    · have hd : decide ((i : Int) < 16) = true := by simp; omega
      go_wp2_with fail
      refine (frame_any _ M G 16 i _ HM.out hlt (by omega)).mono ?_
      rintro e w4 ⟨rfl, rfl⟩
      obtain ⟨w4, hw4⟩ : ∃ w4, w4 = wr.alloc (.cells (frameV (ownG (f * 16 + a) v) i) 175) := ⟨_, rfl⟩
      have K4 : Hid (w4.heap[wr.heap.size]? = some (.cells (frameV (ownG (f * 16 + a) v) i) 175 (0, 0))) := by rw [hw4]; exact heap_alloc_new wr _
      have B4 : Hid (Below w.heap.size w w4) := by rw [hw4]; exact HB.out.alloc HB.out.size _
      have M4 : Hid (MemIs w4 M G 16 (ownG (f * 16 + a) v)) := by rw [hw4]; exact HM.out.later ((Below.refl _ _).alloc (Nat.le_refl _) _)
      rw [← hw4]
      clear hw4
      go_wp2_with fail
      go_loop [40] (fun kv => ∃ k : Nat, k ≤ 16 ∧ kv = .int .i64 k) (fun kv => (16 - intOf kv).toNat)
      case atStart => exact ⟨0, by omega, rfl⟩
      case round =>
        obtain ⟨k, hk, rfl⟩ := hrel
        by_cases hlt2 : k < 16
        · have c := (bk_cell K4.out k).trans (frame_at _ i k hlt2)
          by_cases he : i = f ∧ k = a
          · obtain ⟨rfl, rfl⟩ := he
            rw [show ownG (i * 16 + k) v (i * 16 + k) = v by simp [ownG]] at c
            go_wp2_with fail
            go_round
            case rel => exact ⟨k + 1, by omega, by go_num⟩
            case measure => simp [intOf]; omega
          · rw [show ownG (f * 16 + a) v (i * 16 + k) = 0 by unfold ownG; rw [if_neg (by omega)]] at c
            by_cases h1 : i = f
            · subst h1
              have h2 : ((k : Int) == (a : Int)) = false := by simp; omega
              have h3 : ¬ k = a := by omega
              clear he
              go_wp2_with fail
              go_round
              case rel => exact ⟨k + 1, by omega, by go_num⟩
              case measure => simp [intOf]; omega
            · have h2 : ((i : Int) == (f : Int)) = false := by simp; omega
              clear he
              go_wp2_with fail
              go_round
              case rel => exact ⟨k + 1, by omega, by go_num⟩
              case measure => simp [intOf]; omega
        · obtain rfl : k = 16 := by omega
          go_wp2_with fail
          go_roundw
          case rel => exact ⟨i + 1, by omega, by go_num, B4.out, M4.out⟩
          case measure => simp [intOf]; omega
    · obtain rfl : i = 16 := by omega
      go_wp2_with fail
      refine (zero_any _ M G 16 f _ HM.out hf16 (by omega)).mono ?_
      rintro e w5 ⟨rfl, rfl⟩
      obtain ⟨w5, hw5⟩ : ∃ w5, w5 = wr.setCells G (f * 16) (List.replicate 16 (.int .u64 0)) := ⟨_, rfl⟩
      have M5 : Hid (MemIs w5 M G 16 (clearM f (ownG (f * 16 + a) v))) := by rw [hw5]; exact HM.out.fill hf16
      have B5 : Hid (Below w.heap.size w w5) := by rw [hw5]; exact bl_fill HB.out HF.out _ _
      rw [← hw5]
      clear hw5
      go_wp2_with fail
      refine (frame_any _ M G 16 f _ M5.out hf16 (by omega)).mono ?_
      rintro e w6 ⟨rfl, rfl⟩
      obtain ⟨w6, hw6⟩ : ∃ w6, w6 = w5.alloc (.cells (frameV (clearM f (ownG (f * 16 + a) v)) f) 175) := ⟨_, rfl⟩
      have c : w6.cell? ⟨w5.heap.size, a, none⟩ = some (.int .u64 0) := by
        rw [hw6, bk_cell (heap_alloc_new w5 _) a, frame_at _ f a ha16, show clearM f (ownG (f * 16 + a) v) (f * 16 + a) = 0 by unfold clearM; rw [if_pos (by omega)]]
      have B6 : Hid (Below w.heap.size w w6) := by rw [hw6]; exact B5.out.alloc B5.out.size _
      rw [← hw6]
      clear hw6
      go_wp2_with fail
      go_ret
      exact ⟨rfl, B6.out⟩
end Go.Proofs.YtfpnpgpelncgeaaGreatDoor
