/- What is proved here: contracts of package tlb: FlushFrame, Clear, Lines. Conditions: a buffer lies in the block that is named. -/
import Derived.Test.YtmifcfkchnilmaaGreatDoorGParts
namespace Go.Proofs.YtmifcfkchnilmaaGreatDoor
open Go.RowKit Go.Extern.Stop Go.Stop Go.Extern
def tlbV (g : Nat → Int) : Array Value := #[.int .i64 (g 0), .int .i64 (g 1), .int .i64 (g 2), .int .i64 (g 3), .int .i64 (g 4), .int .i64 (g 5), .int .i64 (g 6), .int .i64 (g 7), .int .i64 (g 8), .int .i64 (g 9), .int .i64 (g 10), .int .i64 (g 11), .int .i64 (g 12), .int .i64 (g 13), .int .i64 (g 14), .int .i64 (g 15), .int .i64 (g 16), .int .i64 (g 17), .int .i64 (g 18), .int .i64 (g 19), .int .i64 (g 20), .int .i64 (g 21), .int .i64 (g 22), .int .i64 (g 23), .int .i64 (g 24), .int .i64 (g 25), .int .i64 (g 26), .int .i64 (g 27), .int .i64 (g 28), .int .i64 (g 29), .int .i64 (g 30), .int .i64 (g 31), .int .i64 (g 32), .int .i64 (g 33), .int .i64 (g 34), .int .i64 (g 35), .int .i64 (g 36), .int .i64 (g 37), .int .i64 (g 38), .int .i64 (g 39)]
def plV (g : Nat → Int) (k : Nat) : Array Value := #[.int .i64 (g (k * 5)), .int .i64 (g (k * 5 + 1)), .int .i64 (g (k * 5 + 2)), .int .i64 (g (k * 5 + 3)), .int .i64 (g (k * 5 + 4))]
theorem pidx_0 (g : Nat → Int) (W : World) : (Instr.index 159 (.agg (tlbV g)) (.int .i64 0)).run Tryz.prog W = .ok (.agg (plV g 0)) W := by kernel_rfl
theorem pidx_1 (g : Nat → Int) (W : World) : (Instr.index 159 (.agg (tlbV g)) (.int .i64 1)).run Tryz.prog W = .ok (.agg (plV g 1)) W := by kernel_rfl
theorem pidx_2 (g : Nat → Int) (W : World) : (Instr.index 159 (.agg (tlbV g)) (.int .i64 2)).run Tryz.prog W = .ok (.agg (plV g 2)) W := by kernel_rfl
theorem pidx_3 (g : Nat → Int) (W : World) : (Instr.index 159 (.agg (tlbV g)) (.int .i64 3)).run Tryz.prog W = .ok (.agg (plV g 3)) W := by kernel_rfl
theorem pidx_4 (g : Nat → Int) (W : World) : (Instr.index 159 (.agg (tlbV g)) (.int .i64 4)).run Tryz.prog W = .ok (.agg (plV g 4)) W := by kernel_rfl
theorem pidx_5 (g : Nat → Int) (W : World) : (Instr.index 159 (.agg (tlbV g)) (.int .i64 5)).run Tryz.prog W = .ok (.agg (plV g 5)) W := by kernel_rfl
theorem pidx_6 (g : Nat → Int) (W : World) : (Instr.index 159 (.agg (tlbV g)) (.int .i64 6)).run Tryz.prog W = .ok (.agg (plV g 6)) W := by kernel_rfl
theorem pidx_7 (g : Nat → Int) (W : World) : (Instr.index 159 (.agg (tlbV g)) (.int .i64 7)).run Tryz.prog W = .ok (.agg (plV g 7)) W := by kernel_rfl
theorem pidx_any (g : Nat → Int) (k : Nat) (hk : k < 8) (W : World) : (Instr.index 159 (.agg (tlbV g)) (.int .i64 (k : Int))).run Tryz.prog W = .ok (.agg (plV g k)) W := by
  have hc : k = 0 ∨ k = 1 ∨ k = 2 ∨ k = 3 ∨ k = 4 ∨ k = 5 ∨ k = 6 ∨ k = 7 := by omega
  rcases hc with rfl | rfl | rfl | rfl | rfl | rfl | rfl | rfl
  · exact pidx_0 g W
  · exact pidx_1 g W
  · exact pidx_2 g W
  · exact pidx_3 g W
  · exact pidx_4 g W
  · exact pidx_5 g W
  · exact pidx_6 g W
  · exact pidx_7 g W
theorem tlbV_list (g : Nat → Int) : (tlbV g).toList = (List.range 40).map fun j => Value.int .i64 (g j) := rfl
theorem NumsIs.range {w : World} {T : Nat} {g : Nat → Int} (h : NumsIs 41 w T g) : w.rangeAt T 0 (tlbV g).toList := fun j v hj => by
  rw [tlbV_list, List.getElem?_map] at hj
  rcases Nat.lt_or_ge j 40 with hl | hl
  · rw [List.getElem?_range hl] at hj
    simp only [Option.map_some, Option.some.injEq] at hj
    rw [Nat.zero_add, ← hj]
    exact h.1 j (by omega)
  · rw [List.getElem?_eq_none (by simpa using hl)] at hj
    cases hj
theorem Tryz.sizePlaces : (Tryz.prog.info? 159).map (fun x => x.size) = some 40 := by kernel_rfl
def lnS (h : Nat → Int) (k : Nat) (a b c d : Int) (j : Nat) : Int := if j = k * 4 + 3 then d else if j = k * 4 + 2 then c else if j = k * 4 + 1 then b else if j = k * 4 then a else h j
theorem NumsIs.line {w : World} {M k : Nat} {h : Nat → Int} (hm : NumsIs 32 w M h) (hk : k < 8) (a b c d : Int) :
    NumsIs 32 ((((w.setCell ⟨M, k * 4, none⟩ (.int .i64 a)).setCell ⟨M, k * 4 + 1, none⟩ (.int .i64 b)).setCell ⟨M, k * 4 + 2, none⟩ (.int .i64 c)).setCell ⟨M, k * 4 + 3, none⟩ (.int .i64 d)) M (lnS h k a b c d) :=
  (((hm.set (i := k * 4) (by omega) a).set (i := k * 4 + 1) (by omega) b).set (i := k * 4 + 2) (by omega) c).set (i := k * 4 + 3) (by omega) d
theorem bl_line {w a : World} {S o : Nat} (h : Below w.heap.size w a) (hS : w.heap.size ≤ S) (x y z v : Value) :
    Below w.heap.size w ((((a.setCell ⟨S, o, none⟩ x).setCell ⟨S, o + 1, none⟩ y).setCell ⟨S, o + 2, none⟩ z).setCell ⟨S, o + 3, none⟩ v) := (((h.setCell hS _).setCell hS _).setCell hS _).setCell hS _
theorem line_box {w : World} {M o : Nat} (x y z v : Value) (cs : Array Value) (t : TypeId) : (((((w.setCell ⟨M, o, none⟩ x).setCell ⟨M, o + 1, none⟩ y).setCell ⟨M, o + 2, none⟩ z).setCell ⟨M, o + 3, none⟩ v).alloc (.cells cs t)).heap[w.heap.size]? = some (.cells cs t (0, 0)) := by
  have h := heap_alloc_new ((((w.setCell ⟨M, o, none⟩ x).setCell ⟨M, o + 1, none⟩ y).setCell ⟨M, o + 2, none⟩ z).setCell ⟨M, o + 3, none⟩ v) (.cells cs t)
  have e : ((((w.setCell ⟨M, o, none⟩ x).setCell ⟨M, o + 1, none⟩ y).setCell ⟨M, o + 2, none⟩ z).setCell ⟨M, o + 3, none⟩ v).heap.size = w.heap.size := by simp
  rw [e] at h
  exact h
theorem lnG_off (g : Nat → Int) (k i : Nat) (hi : i < 4) : lnG g (k * 4 + i) = if g (k * 5 + 4) = 0 then (if i = 0 then -1 else 0) else g (k * 5 + i) := by
  unfold lnG
  rw [show (k * 4 + i) / 4 = k by omega, show (k * 4 + i) % 4 = i by omega]
theorem lnS_cases {h h' : Nat → Int} {k : Nat} {a b c d : Int} (h0 : h' (k * 4) = a) (h1 : h' (k * 4 + 1) = b) (h2 : h' (k * 4 + 2) = c) (h3 : h' (k * 4 + 3) = d) (hf : ∀ j, ¬ j / 4 = k → h' j = h j) (j : Nat) : h' j = lnS h k a b c d j := by
  unfold lnS
  by_cases e3 : j = k * 4 + 3
  · rw [if_pos e3, e3, h3]
  · rw [if_neg e3]
    by_cases e2 : j = k * 4 + 2
    · rw [if_pos e2, e2, h2]
    · rw [if_neg e2]
      by_cases e1 : j = k * 4 + 1
      · rw [if_pos e1, e1, h1]
      · rw [if_neg e1]
        by_cases e0 : j = k * 4
        · rw [if_pos e0, e0, h0]
        · rw [if_neg e0]
          exact hf j (by omega)
theorem lnK_own (g : Nat → Int) (k i : Nat) (hi : i < 4) : lnK g (k + 1) (k * 4 + i) = if g (k * 5 + 4) = 0 then (if i = 0 then -1 else 0) else g (k * 5 + i) := by
  unfold lnK
  rw [if_pos (by omega), lnG_off g k i hi]
theorem lnK_far (g : Nat → Int) (k j : Nat) (h : ¬ j / 4 = k) : lnK g (k + 1) j = lnK g k j := by
  unfold lnK
  by_cases h1 : j < k * 4
  · rw [if_pos h1, if_pos (by omega)]
  · rw [if_neg h1, if_neg (by omega)]
theorem lnK_empty (g : Nat → Int) (k : Nat) (h : g (k * 5 + 4) = 0) (j : Nat) : lnK g (k + 1) j = lnS (lnK g k) k (-1) 0 0 0 j :=
  lnS_cases (by have := lnK_own g k 0 (by omega); rw [if_pos h, if_pos rfl] at this; exact this)
    (by rw [lnK_own g k 1 (by omega), if_pos h, if_neg (by omega)])
    (by rw [lnK_own g k 2 (by omega), if_pos h, if_neg (by omega)])
    (by rw [lnK_own g k 3 (by omega), if_pos h, if_neg (by omega)]) (lnK_far g k) j
theorem lnK_full (g : Nat → Int) (k : Nat) (h : ¬ g (k * 5 + 4) = 0) (j : Nat) : lnK g (k + 1) j = lnS (lnS (lnK g k) k (-1) 0 0 0) k (g (k * 5)) (g (k * 5 + 1)) (g (k * 5 + 2)) (g (k * 5 + 3)) j :=
  lnS_cases (by have := lnK_own g k 0 (by omega); rw [if_neg h] at this; exact this)
    (by rw [lnK_own g k 1 (by omega), if_neg h])
    (by rw [lnK_own g k 2 (by omega), if_neg h])
    (by rw [lnK_own g k 3 (by omega), if_neg h]) (fun j hj => by
      rw [lnK_far g k j hj]
      unfold lnS
      rw [if_neg (by omega), if_neg (by omega), if_neg (by omega), if_neg (by omega)]) j
set_option maxRecDepth 100000 in
set_option maxHeartbeats 2000000 in
theorem tlines_any (w : World) (T : Nat) (g : Nat → Int) (ht : NumsIs 41 w T g) : Calls Tryz.prog 48 #[.pointer (some ⟨T, 0, none⟩)] w fun e w' => e = .returned (.slice (some ⟨w.heap.size, 0, none⟩) 8 8) ∧ NumsIs 32 w' w.heap.size (lnG g) ∧ Below w.heap.size w w' := by
  have hmk : ∀ W : World, (Instr.makeSlice 65 (.int .i64 8) (.int .i64 8)).run Tryz.prog W = .ok (.slice (some ⟨W.heap.size, 0, none⟩) 8 8) (W.alloc (.cells #[.int .i64 0, .int .i64 0, .int .i64 0, .int .i64 0, .int .i64 0, .int .i64 0, .int .i64 0, .int .i64 0, .int .i64 0, .int .i64 0, .int .i64 0, .int .i64 0, .int .i64 0, .int .i64 0, .int .i64 0, .int .i64 0, .int .i64 0, .int .i64 0, .int .i64 0, .int .i64 0, .int .i64 0, .int .i64 0, .int .i64 0, .int .i64 0, .int .i64 0, .int .i64 0, .int .i64 0, .int .i64 0, .int .i64 0, .int .i64 0, .int .i64 0, .int .i64 0] 78)) := fun W => by kernel_rfl
  have HT := Lib.hid (ht.alloc (.cells #[.int .i64 0, .int .i64 0, .int .i64 0, .int .i64 0, .int .i64 0, .int .i64 0, .int .i64 0, .int .i64 0, .int .i64 0, .int .i64 0, .int .i64 0, .int .i64 0, .int .i64 0, .int .i64 0, .int .i64 0, .int .i64 0, .int .i64 0, .int .i64 0, .int .i64 0, .int .i64 0, .int .i64 0, .int .i64 0, .int .i64 0, .int .i64 0, .int .i64 0, .int .i64 0, .int .i64 0, .int .i64 0, .int .i64 0, .int .i64 0, .int .i64 0, .int .i64 0] 78))
  clear ht
  go_enter Tryz.func48, Tryz.ntmps48
  go_wp2_with (refine wpList_load_mid (op := ⟨some 12, _, _, _, _, _⟩) rfl 159 (.tmp 11) rfl T 0 rfl (tlbV g).toList _ HT.out.range Tryz.underlying159 rfl Tryz.sizePlaces ?_)
  obtain ⟨V, hV⟩ : ∃ V : Value, V = .agg (tlbV g).toList.toArray := ⟨_, rfl⟩
  rw [← hV]
  have HI : Hid (∀ k : Nat, k < 8 → ∀ W : World, (Instr.index 159 V (.int .i64 (k : Int))).run Tryz.prog W = .ok (.agg (plV g k)) W) := by rw [hV]; exact pidx_any g
  clear hV
  clear hmk
  go_loopw [13] (fun c W => ∃ k : Nat, k ≤ 8 ∧ c = .int .i64 k ∧ NumsIs 32 W w.heap.size (lnK g k) ∧ Below w.heap.size w W) (fun c _ => (8 - intOf c).toNat)
  case atStart => exact ⟨0, by omega, rfl, (NumsIs.zeros w _ rfl).congr fun j _ => if_neg (by omega), (Below.refl _ _).alloc (Nat.le_refl _) _⟩
  case round =>
    obtain ⟨k, hk, rfl, hm, hb⟩ := hrel
    have HM := Lib.hid hm
    have HB := Lib.hid hb
    clear hm hb
    by_cases hlt : k < 8
    · have hx : (0 : Int) ≤ (k : Int) := by omega
      have hy : (k : Int) < 8 := by omega
      have hidx := HI.out k hlt
      unfold plV at hidx
      have hml : w.heap.size < wr.heap.size := HM.out.2.2
      have hne : ¬ w.heap.size = wr.heap.size := by omega
      have c0 := HM.out.1 (k * 4) (by omega)
      have c1 := HM.out.1 (k * 4 + 1) (by omega)
      have c2 := HM.out.1 (k * 4 + 2) (by omega)
      have c3 := HM.out.1 (k * 4 + 3) (by omega)
      have e0 := HM.out.2.1 (k * 4)
      have e1 := HM.out.2.1 (k * 4 + 1)
      have e2 := HM.out.2.1 (k * 4 + 2)
      have e3 := HM.out.2.1 (k * 4 + 3)
      by_cases hz : g (k * 5 + 4) = 0
      · rw [hz] at hidx
        have HZ := Lib.hid hz
        clear hz
        go_wp2_with fail
        refine (full_no _ 0 _ (bk_cell (line_box _ _ _ _ _ _) 4)).mono ?_
        rintro e w2 ⟨rfl, hw⟩
        have N2 : Hid (NumsIs 32 w2 w.heap.size (lnK g (k + 1))) := by
          rw [← hw]
          exact ((HM.out.line hlt (-1) 0 0 0).alloc _).congr fun j _ => lnK_empty g k HZ.out j
        have B2 : Hid (Below w.heap.size w w2) := by
          rw [← hw]
          exact (bl_line HB.out (Nat.le_refl _) _ _ _ _).alloc (bl_line HB.out (Nat.le_refl _) _ _ _ _).size _
        clear hw
        go_wp2_with fail
        go_roundw
        case rel => exact ⟨k + 1, by omega, by go_num, N2.out, B2.out⟩
        case measure => simp [intOf]; omega
      · have HZ := Lib.hid hz
        clear hz
        go_wp2_with fail
        refine (full_yes _ 0 _ _ (bk_cell (line_box _ _ _ _ _ _) 4) HZ.out).mono ?_
        rintro e w2 ⟨rfl, hw⟩
        have N2 : Hid (NumsIs 32 w2 w.heap.size (lnS (lnK g k) k (-1) 0 0 0)) := by
          rw [← hw]
          exact (HM.out.line hlt (-1) 0 0 0).alloc _
        have B2 : Hid (Below w.heap.size w w2) := by
          rw [← hw]
          exact (bl_line HB.out (Nat.le_refl _) _ _ _ _).alloc (bl_line HB.out (Nat.le_refl _) _ _ _ _).size _
        have b0 : w2.cell? ⟨wr.heap.size, 0, none⟩ = some (.int .i64 (g (k * 5))) := by rw [← hw]; exact bk_cell (line_box _ _ _ _ _ _) 0
        have b1 : w2.cell? ⟨wr.heap.size, 1, none⟩ = some (.int .i64 (g (k * 5 + 1))) := by rw [← hw]; exact bk_cell (line_box _ _ _ _ _ _) 1
        have b2 : w2.cell? ⟨wr.heap.size, 2, none⟩ = some (.int .i64 (g (k * 5 + 2))) := by rw [← hw]; exact bk_cell (line_box _ _ _ _ _ _) 2
        have b3 : w2.cell? ⟨wr.heap.size, 3, none⟩ = some (.int .i64 (g (k * 5 + 3))) := by rw [← hw]; exact bk_cell (line_box _ _ _ _ _ _) 3
        clear hw c0 c1 c2 c3 e0 e1 e2 e3
        have c0 := N2.out.1 (k * 4) (by omega)
        have c1 := N2.out.1 (k * 4 + 1) (by omega)
        have c2 := N2.out.1 (k * 4 + 2) (by omega)
        have c3 := N2.out.1 (k * 4 + 3) (by omega)
        have e0 := N2.out.2.1 (k * 4)
        have e1 := N2.out.2.1 (k * 4 + 1)
        have e2 := N2.out.2.1 (k * 4 + 2)
        have e3 := N2.out.2.1 (k * 4 + 3)
        go_wp2_with fail
        go_roundw
        case rel => exact ⟨k + 1, by omega, by go_num, (N2.out.line hlt _ _ _ _).congr fun j _ => lnK_full g k HZ.out j, bl_line B2.out (Nat.le_refl _) _ _ _ _⟩
        case measure => simp [intOf]; omega
    · obtain rfl : k = 8 := by omega
      go_wp2_with fail
      go_ret
      exact ⟨rfl, HM.out.congr fun j hj => (if_pos (by omega)).symm, HB.out⟩
end Go.Proofs.YtmifcfkchnilmaaGreatDoor

