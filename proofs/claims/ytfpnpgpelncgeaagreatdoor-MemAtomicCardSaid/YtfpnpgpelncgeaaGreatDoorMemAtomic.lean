/- What is proved here: the walk of the statement MemAtomic: it answers true and leaves the memory that was there as it was. Conditions: the statements' beginning does so in every later world; the list's words are there. -/
import Derived.Test.YtfpnpgpelncgeaaGreatDoorGParts
namespace Go.Proofs.YtfpnpgpelncgeaaGreatDoor
open Go.RowKit Go.Extern.Stop Go.Stop Go.Extern

theorem mcell_lt {w : World} {a : Addr} {v : Value} (h : w.cell? a = some v) : a.block < w.heap.size := by
  rcases Nat.lt_or_ge a.block w.heap.size with h1 | h1
  · exact h1
  · simp [World.cell?, Array.getElem?_eq_none h1] at h
/-- Behind a call of mem's that stores a word, what was there ahead of the memory is as it was. -/
theorem bl_set {w a : World} {F i : Nat} {u : Value} (h : Below w.heap.size w a) (hF : w.heap.size ≤ F) : Below w.heap.size w (a.setCell ⟨F, i, none⟩ u) := h.setCell hF _
set_option maxRecDepth 100000 in
set_option maxHeartbeats 4000000 in
theorem matom_some (old new : Int) (a : Addr) (len cap : Nat) (hlen : len ≤ 9223372036854775807) (z : Nat → Int) (w : World) (hz : ∀ j, j < len → w.cell? (a.add j) = some (.int .u64 (z j))) (hbeg : ∀ W, Below w.heap.size w W → BegunAt W) :
    Calls Tryz.prog 14 #[.slice (some a) len cap, .int .u64 old, .int .u64 new] w fun e w' => e = .returned (.bool true) ∧ Below w.heap.size w w' := by
  have HG := Lib.hid hbeg
  clear hbeg
  have HZ : Hid (∀ W, Below w.heap.size w W → ∀ j, j < len → W.cell? (a.add j) = some (.int .u64 (z j))) := fun W hW j hj => (hW.cell (mcell_lt (hz j hj))).trans (hz j hj)
  clear hz
  go_enter Tryz.func14, Tryz.ntmps14
  go_wp2_with fail
  refine Calls.mono (HG.out _ (Below.refl _ _)) ?_
  rintro e w1 ⟨rfl, hb1⟩
  have B1 := Lib.hid hb1
  clear hb1 HG
  go_wp2_with fail
  refine (new_1 _).mono ?_
  rintro e w2 ⟨rfl, hb2, hm2⟩
  obtain ⟨M, hM⟩ : ∃ M, M = w1.heap.size + 1 := ⟨_, rfl⟩
  obtain ⟨G, hG⟩ : ∃ G, G = w1.heap.size := ⟨_, rfl⟩
  rw [← hM, ← hG] at hm2
  rw [← hM]
  have HF : Hid (w.heap.size ≤ G) := by rw [hG]; exact B1.out.size
  have B2 := Lib.hid (bl_trans B1.out hb2)
  have M2 := Lib.hid hm2
  clear hb2 hm2 hM hG B1
  go_wp2_with fail
  go_loopw [9, 10] (fun sv iv W => ∃ (s : Int) (i : Nat) (g : Nat → Int), sv = .int .u64 s ∧ iv = .int .i64 i ∧ i ≤ 30 ∧ i ≤ len ∧ Below w.heap.size w W ∧ MemIs W M G 1 g ∧ Hid (g 3 = s)) (fun _ iv _ => (30 - intOf iv).toNat)
  case atStart => exact ⟨0, 0, fun _ => 0, rfl, rfl, by omega, by omega, B2.out, M2.out, rfl⟩
  case round =>
    obtain ⟨s, i, g, rfl, rfl, hi, hil, hb, hm, hgs⟩ := hrel
    have HB := Lib.hid hb
    have HM := Lib.hid hm
    clear hb hm
    by_cases hlt : i < len ∧ i < 30
    · obtain ⟨h1, h2⟩ := hlt
      have hz := HZ.out _ HB.out i h1
      go_wp2_with fail
      refine (add_any _ M G 1 0 3 s (z i) g HM.out (by omega) (by omega) (by omega) hgs.out).mono ?_
      rintro e w3 ⟨rfl, rfl⟩
      have M3 := Lib.hid (HM.out.set (i := 3) (by omega) (IntKind.u64.wrap (s + z i)))
      have B3 := Lib.hid (bl_set (i := 0 * 16 + 3) (u := .int .u64 (IntKind.u64.wrap (s + z i))) HB.out HF.out)
      have hz3 := HZ.out _ B3.out i h1
      go_wp2_with fail
      go_roundw
      case rel => exact ⟨_, i + 1, _, rfl, by go_num, by omega, by omega, B3.out, M3.out, by show (if 3 = 3 then _ else _) = _; simp⟩
      case measure => simp [intOf]; omega
    · by_cases h1 : i < len
      · have h2 : ¬ i < 30 := by omega
        clear hlt
        go_wp2_with fail
        by_cases he : s = old
        · subst he
          refine (cas_yes _ M G 1 0 3 s new g HM.out (by omega) (by omega) (by omega) hgs.out).mono ?_
          rintro e w3 ⟨rfl, rfl⟩
          have M3 := Lib.hid (HM.out.set (i := 3) (by omega) new)
          have B3 := Lib.hid (bl_set (i := 0 * 16 + 3) (u := .int .u64 new) HB.out HF.out)
          go_wp2_with fail
          refine (load_any _ M G 1 0 3 new _ M3.out (by omega) (by omega) (by omega) (by simp)).mono ?_
          rintro e w4 ⟨rfl, rfl⟩
          go_wp2_with fail
          go_ret
          exact ⟨rfl, B3.out⟩
        · have he2 : (s == old) = false := beq_eq_false_iff_ne.2 he
          have he3 : ¬ old = s := fun h => he h.symm
          refine (cas_no _ M G 1 0 3 s old new he2 g HM.out (by omega) (by omega) (by omega) hgs.out).mono ?_
          rintro e w3 ⟨rfl, rfl⟩
          go_wp2_with fail
          refine (load_any _ M G 1 0 3 s g HM.out (by omega) (by omega) (by omega) hgs.out).mono ?_
          rintro e w4 ⟨rfl, rfl⟩
          go_wp2_with fail
          go_ret
          exact ⟨rfl, HB.out⟩
      · clear hlt
        go_wp2_with fail
        by_cases he : s = old
        · subst he
          refine (cas_yes _ M G 1 0 3 s new g HM.out (by omega) (by omega) (by omega) hgs.out).mono ?_
          rintro e w3 ⟨rfl, rfl⟩
          have M3 := Lib.hid (HM.out.set (i := 3) (by omega) new)
          have B3 := Lib.hid (bl_set (i := 0 * 16 + 3) (u := .int .u64 new) HB.out HF.out)
          go_wp2_with fail
          refine (load_any _ M G 1 0 3 new _ M3.out (by omega) (by omega) (by omega) (by simp)).mono ?_
          rintro e w4 ⟨rfl, rfl⟩
          go_wp2_with fail
          go_ret
          exact ⟨rfl, B3.out⟩
        · have he2 : (s == old) = false := beq_eq_false_iff_ne.2 he
          have he3 : ¬ old = s := fun h => he h.symm
          refine (cas_no _ M G 1 0 3 s old new he2 g HM.out (by omega) (by omega) (by omega) hgs.out).mono ?_
          rintro e w3 ⟨rfl, rfl⟩
          go_wp2_with fail
          refine (load_any _ M G 1 0 3 s g HM.out (by omega) (by omega) (by omega) hgs.out).mono ?_
          rintro e w4 ⟨rfl, rfl⟩
          go_wp2_with fail
          go_ret
          exact ⟨rfl, HB.out⟩
set_option maxRecDepth 100000 in
set_option maxHeartbeats 4000000 in
theorem matom_nil (old new : Int) (w : World) (hbeg : ∀ W, Below w.heap.size w W → BegunAt W) :
    Calls Tryz.prog 14 #[.slice none 0 0, .int .u64 old, .int .u64 new] w fun e w' => e = .returned (.bool true) ∧ Below w.heap.size w w' := by
  have HG := Lib.hid hbeg
  clear hbeg
  go_enter Tryz.func14, Tryz.ntmps14
  go_wp2_with fail
  refine Calls.mono (HG.out _ (Below.refl _ _)) ?_
  rintro e w1 ⟨rfl, hb1⟩
  have B1 := Lib.hid hb1
  clear hb1 HG
  go_wp2_with fail
  refine (new_1 _).mono ?_
  rintro e w2 ⟨rfl, hb2, hm2⟩
  obtain ⟨M, hM⟩ : ∃ M, M = w1.heap.size + 1 := ⟨_, rfl⟩
  obtain ⟨G, hG⟩ : ∃ G, G = w1.heap.size := ⟨_, rfl⟩
  rw [← hM, ← hG] at hm2
  rw [← hM]
  have HF : Hid (w.heap.size ≤ G) := by rw [hG]; exact B1.out.size
  have B2 := Lib.hid (bl_trans B1.out hb2)
  have M2 := Lib.hid hm2
  clear hb2 hm2 hM hG B1
  go_wp2_with fail
  go_loopw [9, 10] (fun sv iv W => ∃ (s : Int) (i : Nat) (g : Nat → Int), sv = .int .u64 s ∧ iv = .int .i64 i ∧ i ≤ 30 ∧ Below w.heap.size w W ∧ MemIs W M G 1 g ∧ Hid (g 3 = s)) (fun _ iv _ => (30 - intOf iv).toNat)
  case atStart => exact ⟨0, 0, fun _ => 0, rfl, rfl, by omega, B2.out, M2.out, rfl⟩
  case round =>
    obtain ⟨s, i, g, rfl, rfl, hi, hb, hm, hgs⟩ := hrel
    have HB := Lib.hid hb
    have HM := Lib.hid hm
    clear hb hm
    · skip
      go_wp2_with fail
      by_cases he : s = old
      · subst he
        refine (cas_yes _ M G 1 0 3 s new g HM.out (by omega) (by omega) (by omega) hgs.out).mono ?_
        rintro e w3 ⟨rfl, rfl⟩
        have M3 := Lib.hid (HM.out.set (i := 3) (by omega) new)
        have B3 := Lib.hid (bl_set (i := 0 * 16 + 3) (u := .int .u64 new) HB.out HF.out)
        go_wp2_with fail
        refine (load_any _ M G 1 0 3 new _ M3.out (by omega) (by omega) (by omega) (by simp)).mono ?_
        rintro e w4 ⟨rfl, rfl⟩
        go_wp2_with fail
        go_ret
        exact ⟨rfl, B3.out⟩
      · have he2 : (s == old) = false := beq_eq_false_iff_ne.2 he
        have he3 : ¬ old = s := fun h => he h.symm
        refine (cas_no _ M G 1 0 3 s old new he2 g HM.out (by omega) (by omega) (by omega) hgs.out).mono ?_
        rintro e w3 ⟨rfl, rfl⟩
        go_wp2_with fail
        refine (load_any _ M G 1 0 3 s g HM.out (by omega) (by omega) (by omega) hgs.out).mono ?_
        rintro e w4 ⟨rfl, rfl⟩
        go_wp2_with fail
        go_ret
        exact ⟨rfl, HB.out⟩
end Go.Proofs.YtfpnpgpelncgeaaGreatDoor
