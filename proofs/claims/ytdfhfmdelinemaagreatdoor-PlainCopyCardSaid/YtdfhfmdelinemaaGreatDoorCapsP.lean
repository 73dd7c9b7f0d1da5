/- What is proved here: a contract of package caps' places, for each of the three closures that are handed to it. Conditions: a tree that New has made lies in the two blocks that are named; the closure keeps its contract. -/
import Derived.Test.YtdfhfmdelinemaaGreatDoorGTreeB
import Derived.Test.YtdfhfmdelinemaaGreatDoorGParts
import Derived.Test.YtdfhfmdelinemaaGreatDoorGKer
import Derived.Deep.MidRow
namespace Go.Proofs.YtdfhfmdelinemaaGreatDoor
open Go.RowKit Go.Extern.Stop Go.Stop Go.Extern Go.WalkArith
def selL (Q : Nat → Nat → Bool) (k : KernS) (n : Nat) : List Nat := (List.range n).filter fun j => (k.sl (j / 8) (j % 8)).is && Q (j / 8) (j % 8)
theorem selL_yes {Q : Nat → Nat → Bool} {k : KernS} {e s : Nat} (hs : s < 8) (hi : (k.sl e s).is = true) (hq : Q e s = true) : selL Q k (e * 8 + s + 1) = selL Q k (e * 8 + s) ++ [e * 8 + s] := by
 unfold selL
 rw [List.range_succ, List.filter_append]
 simp [at_div hs, hi, hq]
theorem selL_no {Q : Nat → Nat → Bool} {k : KernS} {e s : Nat} (hs : s < 8) (h : (k.sl e s).is = false ∨ Q e s = false) : selL Q k (e * 8 + s + 1) = selL Q k (e * 8 + s) := by
 unfold selL
 rw [List.range_succ, List.filter_append]
 rcases h with h | h <;> simp [at_div hs, h]
theorem selL_le (Q : Nat → Nat → Bool) (k : KernS) (n : Nat) : (selL Q k n).length ≤ n := by
 have h := List.length_filter_le (fun j => (k.sl (j / 8) (j % 8)).is && Q (j / 8) (j % 8)) (List.range n)
 simpa [selL] using h
def capsV (g : Nat → Int) : Array Value := #[.int .i64 (g 0), .int .i64 (g 1), .int .i64 (g 2), .int .i64 (g 3), .int .i64 (g 4), .int .i64 (g 5), .int .i64 (g 6), .int .i64 (g 7), .int .i64 (g 8), .int .i64 (g 9), .int .i64 (g 10), .int .i64 (g 11), .int .i64 (g 12), .int .i64 (g 13), .int .i64 (g 14), .int .i64 (g 15), .int .i64 (g 16), .int .i64 (g 17), .int .i64 (g 18), .int .i64 (g 19), .int .i64 (g 20), .int .i64 (g 21), .int .i64 (g 22), .int .i64 (g 23), .int .i64 (g 24), .int .i64 (g 25), .int .i64 (g 26), .int .i64 (g 27), .int .i64 (g 28), .int .i64 (g 29), .int .i64 (g 30), .int .i64 (g 31)]
def capEnt (g : Nat → Int) (k : Nat) : Array Value := #[.int .i64 (g (k * 4)), .int .i64 (g (k * 4 + 1)), .int .i64 (g (k * 4 + 2)), .int .i64 (g (k * 4 + 3))]
theorem cidx_0 (g : Nat → Int) (W : World) : (Instr.index 219 (.agg (capsV g)) (.int .i64 0)).run Tryz.prog W = .ok (.agg (capEnt g 0)) W := by kernel_rfl
theorem cidx_1 (g : Nat → Int) (W : World) : (Instr.index 219 (.agg (capsV g)) (.int .i64 1)).run Tryz.prog W = .ok (.agg (capEnt g 1)) W := by kernel_rfl
theorem cidx_2 (g : Nat → Int) (W : World) : (Instr.index 219 (.agg (capsV g)) (.int .i64 2)).run Tryz.prog W = .ok (.agg (capEnt g 2)) W := by kernel_rfl
theorem cidx_3 (g : Nat → Int) (W : World) : (Instr.index 219 (.agg (capsV g)) (.int .i64 3)).run Tryz.prog W = .ok (.agg (capEnt g 3)) W := by kernel_rfl
theorem cidx_4 (g : Nat → Int) (W : World) : (Instr.index 219 (.agg (capsV g)) (.int .i64 4)).run Tryz.prog W = .ok (.agg (capEnt g 4)) W := by kernel_rfl
theorem cidx_5 (g : Nat → Int) (W : World) : (Instr.index 219 (.agg (capsV g)) (.int .i64 5)).run Tryz.prog W = .ok (.agg (capEnt g 5)) W := by kernel_rfl
theorem cidx_6 (g : Nat → Int) (W : World) : (Instr.index 219 (.agg (capsV g)) (.int .i64 6)).run Tryz.prog W = .ok (.agg (capEnt g 6)) W := by kernel_rfl
theorem cidx_7 (g : Nat → Int) (W : World) : (Instr.index 219 (.agg (capsV g)) (.int .i64 7)).run Tryz.prog W = .ok (.agg (capEnt g 7)) W := by kernel_rfl
theorem cidx_any (g : Nat → Int) (k : Nat) (hk : k < 8) (W : World) : (Instr.index 219 (.agg (capsV g)) (.int .i64 (k : Int))).run Tryz.prog W = .ok (.agg (capEnt g k)) W := by
 have hc : k = 0 ∨ k = 1 ∨ k = 2 ∨ k = 3 ∨ k = 4 ∨ k = 5 ∨ k = 6 ∨ k = 7 := by omega
 rcases hc with rfl | rfl | rfl | rfl | rfl | rfl | rfl | rfl
 ·exact cidx_0 g W
 ·exact cidx_1 g W
 ·exact cidx_2 g W
 ·exact cidx_3 g W
 ·exact cidx_4 g W
 ·exact cidx_5 g W
 ·exact cidx_6 g W
 ·exact cidx_7 g W
theorem capsV_at (g : Nat → Int) (j : Nat) (hj : j < 32) : (capsV g).toList[j]? = some (.int .i64 (g j)) := by
 have hc : j = 0 ∨ j = 1 ∨ j = 2 ∨ j = 3 ∨ j = 4 ∨ j = 5 ∨ j = 6 ∨ j = 7 ∨ j = 8 ∨ j = 9 ∨ j = 10 ∨ j = 11 ∨ j = 12 ∨ j = 13 ∨ j = 14 ∨ j = 15 ∨ j = 16 ∨ j = 17 ∨ j = 18 ∨ j = 19 ∨ j = 20 ∨ j = 21 ∨ j = 22 ∨ j = 23 ∨ j = 24 ∨ j = 25 ∨ j = 26 ∨ j = 27 ∨ j = 28 ∨ j = 29 ∨ j = 30 ∨ j = 31 := by omega
 rcases hc with rfl | rfl | rfl | rfl | rfl | rfl | rfl | rfl | rfl | rfl | rfl | rfl | rfl | rfl | rfl | rfl | rfl | rfl | rfl | rfl | rfl | rfl | rfl | rfl | rfl | rfl | rfl | rfl | rfl | rfl | rfl | rfl <;> rfl
theorem Tryz.sizeCaps : (Tryz.prog.info? 219).map (fun x => x.size) = some 32 := by kernel_rfl
def rowG (k : KernS) (e j : Nat) : Int := treeG k (e * 32 + j)
theorem TreeIs.range {w : World} {P G E : Nat} {k : KernS} (h : TreeIs w P G E k) {e : Nat} (he : e < E) : w.rangeAt G (e * 32) (capsV (rowG k e)).toList := fun j v hj => by
 have hl : j < 32 := by
  rcases Nat.lt_or_ge j 32 with h1 | h1
  ·exact h1
  ·rw [List.getElem?_eq_none (by simpa [capsV] using h1)] at hj
   cases hj
 rw [capsV_at _ j hl] at hj
 rw [← hj]
 exact h.nums.1 (e * 32 + j) (by omega)
theorem capEnt_is (k : KernS) (e : Nat) {s : Nat} (hs : s < 8) : capEnt (rowG k e) s = #[.int .i64 (capI (k.sl e s) 0), .int .i64 (capI (k.sl e s) 1), .int .i64 (capI (k.sl e s) 2), .int .i64 (capI (k.sl e s) 3)] := by
 have h := fun i (hi : i < 4) => treeG_at k (e := e) (s := s) (i := i) hs hi
 unfold capEnt rowG
 rw [show e * 32 + s * 4 = e * 32 + s * 4 + 0 from rfl, h 0 (by omega), ← Nat.add_assoc, h 1 (by omega), ← Nat.add_assoc, h 2 (by omega), ← Nat.add_assoc, h 3 (by omega)]
theorem caps_one (g : Nat → Int) : ∀ v ∈ (capsV g).toList, v.oneCell' = true := by
 intro v hv
 obtain ⟨j, hj, rfl⟩ := List.mem_iff_getElem.1 hv
 have hj2 : j < 32 := by simpa [capsV] using hj
 have h := capsV_at g j hj2
 rw [List.getElem?_eq_getElem hj] at h
 injection h with h
 rw [h]
 rfl
theorem two_kept {w w3 : World} {o1 o2 : Obj} (hb : Below ((w.alloc o1).alloc o2).heap.size ((w.alloc o1).alloc o2) w3) : w3.heap[w.heap.size]? = some o1 ∧ w3.heap[w.heap.size + 1]? = some o2 ∧ Below w.heap.size w w3 := by
 have h1 := heap_alloc_new (w.alloc o1) o2
 rw [show (w.alloc o1).heap.size = w.heap.size + 1 by simp] at h1
 exact ⟨bk_two hb, bk_below h1 hb, bl_alloc (Below.refl _ _) (bl_trans ((Below.refl _ _).alloc (Nat.le_refl _) _) hb)⟩
theorem Tryz.cplaceInfo : (Tryz.prog.info? 168).map (fun i => (i.zero, i.size, i.bytes)) = some (some (.agg #[.int .i64 0, .int .i64 0]), 2, 16) := by kernel_rfl
theorem box_there (w : World) (cs : Array Value) (hc : cs.size = 32) : (w.alloc (.cells #[.int .i64 0, .int .i64 0, .int .i64 0, .int .i64 0, .int .i64 0, .int .i64 0, .int .i64 0, .int .i64 0, .int .i64 0, .int .i64 0, .int .i64 0, .int .i64 0, .int .i64 0, .int .i64 0, .int .i64 0, .int .i64 0, .int .i64 0, .int .i64 0, .int .i64 0, .int .i64 0, .int .i64 0, .int .i64 0, .int .i64 0, .int .i64 0, .int .i64 0, .int .i64 0, .int .i64 0, .int .i64 0, .int .i64 0, .int .i64 0, .int .i64 0, .int .i64 0] 219)).there w.heap.size 0 cs.size := by
 intro j hj
 rw [hc] at hj
 rw [Nat.zero_add]
 refine ⟨?_, bk_free (heap_alloc_new w _) j⟩
 rw [bk_cell (heap_alloc_new w _) j, Array.getElem?_eq_getElem (by show j < 32; omega)]
 rfl
set_option maxRecDepth 100000 in
set_option maxHeartbeats 4000000 in
theorem cplaces_below {P G E : Nat} {k : KernS} (Q : Nat → Nat → Bool) (Hold : World → Prop) (t1 t2 : Nat) (w : World) (hl : ∀ W W' : World, Hold W → W.heap.size ≤ W'.heap.size → (∀ b, b < w.heap.size → W'.heap[b]? = W.heap[b]?) → Hold W')
  (hc : ∀ (W : World) (e s : Nat), Hold W → TreeIs W P G E k → e < E → s < 8 → (k.sl e s).is = true →
   Calls Tryz.prog 91 #[.agg #[.int .i64 (e : Int), .int .i64 (s : Int)], .agg #[.int .i64 (capI (k.sl e s) 0), .int .i64 (capI (k.sl e s) 1), .int .i64 (capI (k.sl e s) 2), .int .i64 (capI (k.sl e s) 3)], .pointer (some ⟨t1, 0, none⟩), .pointer (some ⟨t2, 0, none⟩)] W fun z w' => z = .returned (.bool (Q e s)) ∧ Below W.heap.size W w')
  (h : TreeIs w P G E k) (hh : Hold w) :
  Calls Tryz.prog 90 #[.pointer (some ⟨P, 0, none⟩), .func (.func 91) #[] #[.pointer (some ⟨t1, 0, none⟩), .pointer (some ⟨t2, 0, none⟩)]] w fun z w' => ∃ v, z = .returned v ∧ w'.ownsRow w.heap.size 168 2 v (selL Q k (E * 8)).length (placesV (selL Q k (E * 8))) ∧ Below w.heap.size w w' := by
 obtain ⟨i0, hi, hz0, hz1, hz2⟩ := info_parts Tryz.cplaceInfo
 have HT := Lib.hid h
 have HH := Lib.hid hh
 have HL := Lib.hid hl
 have HC := Lib.hid hc
 have c0 := h.top
 have lp := h.lp
 have hP0 := h.lp
 have hG0 := h.lg
 have hE4 := h.e4
 clear h hh hl hc
 go_enter Tryz.func90, Tryz.ntmps90
 go_wp2_with fail
 clear c0 lp
 go_loopw [5, 18] (fun lv ev W => ∃ e : Nat, e ≤ E ∧ ev = .int .i64 e ∧ W.ownsRow w.heap.size 168 2 lv (selL Q k (e * 8)).length (placesV (selL Q k (e * 8))) ∧ Below w.heap.size w W ∧ TreeIs W P G E k ∧ Hold W) (fun _ ev _ => (E - intOf ev).toNat)
 case atStart => exact ⟨0, by omega, rfl, World.ownsRow_nil _ _ _ _, Below.refl _ _, HT.out, HH.out⟩
 case round =>
  clear HT HH
  obtain ⟨e, he, rfl, hown, hb, ht, hh⟩ := hrel
  have HO := Lib.hid hown
  have HB := Lib.hid hb
  have HT := Lib.hid ht
  have HH := Lib.hid hh
  clear hown hb ht hh
  by_cases h1 : e < E
  ·have e1 : (e : Int) < (E : Int) := by omega
   have HR1 := Lib.hid (HT.out.range h1)
   obtain ⟨cs, hcs⟩ : ∃ cs, cs = capsV (rowG k e) := ⟨_, rfl⟩
   have HS : Hid (cs.size = 32) := by rw [hcs]; exact rfl
   have HONE := Lib.hid (caps_one (rowG k e))
   have HI : Hid (∀ s : Nat, s < 8 → ∀ W : World, (Instr.index 219 (.agg cs) (.int .i64 (s : Int))).run Tryz.prog W = .ok (.agg #[.int .i64 (capI (k.sl e s) 0), .int .i64 (capI (k.sl e s) 1), .int .i64 (capI (k.sl e s) 2), .int .i64 (capI (k.sl e s) 3)]) W) := by
    intro s hs W
    rw [hcs, cidx_any _ s hs W, capEnt_is k e hs]
   rw [← hcs] at HR1 HONE
   have HZ : Hid ((Tryz.prog.info? 219).map (·.size) = some cs.toList.length) := by rw [Array.length_toList, HS.out]; exact Tryz.sizeCaps
   have HZ2 : Hid ((Tryz.prog.info? 219).map (·.size) = some cs.size) := by rw [HS.out]; exact Tryz.sizeCaps
   have HTH : Hid ((wr.alloc (.cells #[.int .i64 0, .int .i64 0, .int .i64 0, .int .i64 0, .int .i64 0, .int .i64 0, .int .i64 0, .int .i64 0, .int .i64 0, .int .i64 0, .int .i64 0, .int .i64 0, .int .i64 0, .int .i64 0, .int .i64 0, .int .i64 0, .int .i64 0, .int .i64 0, .int .i64 0, .int .i64 0, .int .i64 0, .int .i64 0, .int .i64 0, .int .i64 0, .int .i64 0, .int .i64 0, .int .i64 0, .int .i64 0, .int .i64 0, .int .i64 0, .int .i64 0, .int .i64 0] 219)).there wr.heap.size 0 cs.size) := box_there wr cs HS.out
   have HR2 : Hid (((wr.alloc (.cells #[.int .i64 0, .int .i64 0, .int .i64 0, .int .i64 0, .int .i64 0, .int .i64 0, .int .i64 0, .int .i64 0, .int .i64 0, .int .i64 0, .int .i64 0, .int .i64 0, .int .i64 0, .int .i64 0, .int .i64 0, .int .i64 0, .int .i64 0, .int .i64 0, .int .i64 0, .int .i64 0, .int .i64 0, .int .i64 0, .int .i64 0, .int .i64 0, .int .i64 0, .int .i64 0, .int .i64 0, .int .i64 0, .int .i64 0, .int .i64 0, .int .i64 0, .int .i64 0] 219)).setCells wr.heap.size 0 cs.toList).rangeAt wr.heap.size 0 cs.toList) := World.rangeAt_setCells_same _ _ _ _ (by rw [Array.length_toList]; exact HTH.out)
   clear hcs
   go_wp2_with (first
    | (refine wpList_load_mid (op := ⟨some 22, _, _, _, _, _⟩) rfl 219 (.tmp 21) rfl G (e * 32) rfl cs.toList _ HR1.out Tryz.underlying219 rfl HZ.out ?_)
    | (refine wpList_store_mid (op := ⟨none, _, _, _, _, _⟩) rfl 219 (.tmp 7) (.tmp 22) rfl wr.heap.size 0 cs rfl rfl HTH.out HZ2.out (all_oneCell_toArray HONE.out) ?_)
    | (refine wpList_load_mid (op := ⟨some 23, _, _, _, _, _⟩) rfl 219 (.tmp 7) rfl wr.heap.size 0 rfl cs.toList _ HR2.out Tryz.underlying219 rfl HZ.out ?_))
   obtain ⟨w2, hw2⟩ : ∃ w2, w2 = (wr.alloc (.cells #[.int .i64 0, .int .i64 0, .int .i64 0, .int .i64 0, .int .i64 0, .int .i64 0, .int .i64 0, .int .i64 0, .int .i64 0, .int .i64 0, .int .i64 0, .int .i64 0, .int .i64 0, .int .i64 0, .int .i64 0, .int .i64 0, .int .i64 0, .int .i64 0, .int .i64 0, .int .i64 0, .int .i64 0, .int .i64 0, .int .i64 0, .int .i64 0, .int .i64 0, .int .i64 0, .int .i64 0, .int .i64 0, .int .i64 0, .int .i64 0, .int .i64 0, .int .i64 0] 219)).setCells wr.heap.size 0 cs.toList := ⟨_, rfl⟩
   have hb2 : Below wr.heap.size wr w2 := by rw [hw2]; exact bl_fill ((Below.refl _ _).alloc (Nat.le_refl _) _) (Nat.le_refl _) _ _
   have O2 := Lib.hid (own_later HO.out hb2)
   have B2 := Lib.hid (bl_trans HB.out hb2)
   have T2 := Lib.hid (HT.out.later hb2)
   have H2 := Lib.hid (HL.out _ _ HH.out hb2.size fun b hb => hb2.block b (Nat.lt_of_lt_of_le hb HB.out.size))
   rw [← hw2]
   clear hw2 hb2 HO HB HT HH HR1 HONE HZ HZ2 HTH HR2 HS
   go_loopw [5, 24] (fun lv sv W => ∃ s : Nat, s ≤ 8 ∧ sv = .int .i64 s ∧ W.ownsRow w.heap.size 168 2 lv (selL Q k (e * 8 + s)).length (placesV (selL Q k (e * 8 + s))) ∧ Below w.heap.size w W ∧ TreeIs W P G E k ∧ Hold W) (fun _ sv _ => (8 - intOf sv).toNat)
   case atStart => exact ⟨0, by omega, rfl, O2.out, B2.out, T2.out, H2.out⟩
   case round =>
    clear O2 B2 T2 H2
    obtain ⟨s, hs, rfl, hown, hb, ht, hh⟩ := hrel
    have HO := Lib.hid hown
    have HB := Lib.hid hb
    have HT := Lib.hid ht
    have HH := Lib.hid hh
    clear hown hb ht hh
    by_cases h2 : s < 8
    ·have s1 : (s : Int) < 8 := by omega
     have hidx := HI.out s h2
     have HR := Lib.hid (HT.out.ok.right e s)
     go_wp2_with fail
     refine (cthere_any HR.out _).mono ?_
     rintro z w3 ⟨rfl, hb3⟩
     obtain ⟨k1, k2, hb4⟩ := two_kept hb3
     have C3 := Lib.hid k1
     have P3 := Lib.hid k2
     have O3 := Lib.hid (own_later HO.out hb4)
     have B3 := Lib.hid (bl_trans HB.out hb4)
     have T3 := Lib.hid (HT.out.later hb4)
     have H3 := Lib.hid (HL.out _ _ HH.out hb4.size fun b hb => hb4.block b (Nat.lt_of_lt_of_le hb HB.out.size))
     clear hb3 hb4 k1 k2 HO HB HT HH HR hidx
     have c0 := bk_cell C3.out 0
     have c1 := bk_cell C3.out 1
     have c2 := bk_cell C3.out 2
     have c3 := bk_cell C3.out 3
     have p0 := bk_cell P3.out 0
     have p1 := bk_cell P3.out 1
     cases his : (k.sl e s).is
     ·have HN := Lib.hid (selL_no (Q := Q) h2 (Or.inl his))
      clear his
      go_wp2_with fail
      go_roundw
      case rel => exact ⟨s + 1, by omega, by go_num, by rw [show e * 8 + (s + 1) = e * 8 + s + 1 by omega, HN.out]; exact O3.out, B3.out, T3.out, H3.out⟩
      case measure => simp [intOf]; omega
     ·obtain ⟨b, hq⟩ : ∃ b, Q e s = b := ⟨_, rfl⟩
      have HCC := Lib.hid (HC.out w3 e s H3.out T3.out h1 h2 his)
      rw [hq] at HCC
      have HIS := Lib.hid his
      have HQ := Lib.hid hq
      clear his hq
      go_wp2_with fail
      refine HCC.out.mono ?_
      rintro z w4 ⟨rfl, hb5⟩
      have P4 := Lib.hid (bk_below P3.out hb5)
      have O4 := Lib.hid (own_later O3.out hb5)
      have B4 := Lib.hid (bl_trans B3.out hb5)
      have T4 := Lib.hid (T3.out.later hb5)
      have H4 := Lib.hid (HL.out _ _ H3.out hb5.size fun b hb => hb5.block b (Nat.lt_of_lt_of_le hb B3.out.size))
      clear hb5 HCC c0 c1 c2 c3 p0 p1 C3 P3 O3 B3 T3 H3
      have p0 := bk_cell P4.out 0
      have p1 := bk_cell P4.out 1
      cases b
      ·have HN := Lib.hid (selL_no (k := k) h2 (Or.inr HQ.out))
       go_wp2_with fail
       go_roundw
       case rel => exact ⟨s + 1, by omega, by go_num, by rw [show e * 8 + (s + 1) = e * 8 + s + 1 by omega, HN.out]; exact O4.out, B4.out, T4.out, H4.out⟩
       case measure => simp [intOf]; omega
      ·have HN := Lib.hid (selL_yes h2 HIS.out HQ.out)
       have hle := selL_le Q k (e * 8 + s)
       have hsz : w.heap.size ≤ w4.heap.size := B4.out.size
       go_wp2_with (refine wpList_append_own (o := ⟨some 42, _, _, _, _, _⟩) _ rfl (.tmp 39) (.tmp 41) 88 rfl w.heap.size 168 i0 (.agg #[.int .i64 0, .int .i64 0]) 2 16 Tryz.underlying88 hi hz0 hz1 hz2 rfl (by decide) _ _ _ rfl (O4.out.alloc _) ⟨w4.heap.size, 0, none⟩ 1 1 [.int .i64 (e : Int), .int .i64 (s : Int)] rfl rfl (pair_at _ _ _ _) (two_cell _ _) (by unfold maxLen; omega) (by omega) (by simp; omega) ?_)
       intro v' w5 hown hgrow _
       have B5 := Lib.hid (own_grow B4.out hgrow O4.out)
       have O5 := Lib.hid hown
       have hap : ∀ b, b < w.heap.size → w5.heap[b]? = w4.heap[b]? := fun b hb =>
        (hgrow.block b (by simp; omega) (fun hbb => by have := (O4.out.lt b hbb.symm).1; omega)).trans (Below.heap_alloc w4 _ b (by omega))
       have hsz5 : w4.heap.size ≤ w5.heap.size := by have := hgrow.size; simp at this; omega
       have T5 := Lib.hid (T4.out.foot hsz5 (hap P hP0) (hap G hG0))
       have H5 := Lib.hid (HL.out _ _ H4.out hsz5 hap)
       clear hown hgrow hap p0 p1 hsz5
       go_wp2_with fail
       go_roundw
       case rel => exact ⟨s + 1, by omega, by go_num, by rw [show e * 8 + (s + 1) = e * 8 + s + 1 by omega, HN.out, List.length_append, placesV_snoc _ h2]; exact O5.out, B5.out, T5.out, H5.out⟩
       case measure => simp [intOf]; omega
    ·obtain rfl : s = 8 := by omega
     go_wp2_with fail
     go_roundw
     case rel => exact ⟨e + 1, by omega, by go_num, by rw [show (e + 1) * 8 = e * 8 + 8 by omega]; exact HO.out, HB.out, HT.out, HH.out⟩
     case measure => simp [intOf]; omega
  ·obtain rfl : e = E := by omega
   have e1 : ¬ (e : Int) < (e : Int) := by omega
   go_wp2_with fail
   go_ret
   exact ⟨_, rfl, HO.out, HB.out⟩
set_option maxRecDepth 100000 in
set_option maxHeartbeats 4000000 in
theorem cplaces_within {P G E : Nat} {k : KernS} (Q : Nat → Nat → Bool) (Hold : World → Prop) (t1 t2 : Nat) (w : World) (hl : ∀ W W' : World, Hold W → W.heap.size ≤ W'.heap.size → (∀ b, b < w.heap.size → W'.heap[b]? = W.heap[b]?) → Hold W')
  (hc : ∀ (W : World) (e s : Nat), Hold W → TreeIs W P G E k → e < E → s < 8 → (k.sl e s).is = true →
   Calls Tryz.prog 180 #[.agg #[.int .i64 (e : Int), .int .i64 (s : Int)], .agg #[.int .i64 (capI (k.sl e s) 0), .int .i64 (capI (k.sl e s) 1), .int .i64 (capI (k.sl e s) 2), .int .i64 (capI (k.sl e s) 3)], .pointer (some ⟨t1, 0, none⟩), .pointer (some ⟨t2, 0, none⟩)] W fun z w' => z = .returned (.bool (Q e s)) ∧ Below W.heap.size W w')
  (h : TreeIs w P G E k) (hh : Hold w) :
  Calls Tryz.prog 90 #[.pointer (some ⟨P, 0, none⟩), .func (.func 180) #[] #[.pointer (some ⟨t1, 0, none⟩), .pointer (some ⟨t2, 0, none⟩)]] w fun z w' => ∃ v, z = .returned v ∧ w'.ownsRow w.heap.size 168 2 v (selL Q k (E * 8)).length (placesV (selL Q k (E * 8))) ∧ Below w.heap.size w w' := by
 obtain ⟨i0, hi, hz0, hz1, hz2⟩ := info_parts Tryz.cplaceInfo
 have HT := Lib.hid h
 have HH := Lib.hid hh
 have HL := Lib.hid hl
 have HC := Lib.hid hc
 have c0 := h.top
 have lp := h.lp
 have hP0 := h.lp
 have hG0 := h.lg
 have hE4 := h.e4
 clear h hh hl hc
 go_enter Tryz.func90, Tryz.ntmps90
 go_wp2_with fail
 clear c0 lp
 go_loopw [5, 18] (fun lv ev W => ∃ e : Nat, e ≤ E ∧ ev = .int .i64 e ∧ W.ownsRow w.heap.size 168 2 lv (selL Q k (e * 8)).length (placesV (selL Q k (e * 8))) ∧ Below w.heap.size w W ∧ TreeIs W P G E k ∧ Hold W) (fun _ ev _ => (E - intOf ev).toNat)
 case atStart => exact ⟨0, by omega, rfl, World.ownsRow_nil _ _ _ _, Below.refl _ _, HT.out, HH.out⟩
 case round =>
  clear HT HH
  obtain ⟨e, he, rfl, hown, hb, ht, hh⟩ := hrel
  have HO := Lib.hid hown
  have HB := Lib.hid hb
  have HT := Lib.hid ht
  have HH := Lib.hid hh
  clear hown hb ht hh
  by_cases h1 : e < E
  ·have e1 : (e : Int) < (E : Int) := by omega
   have HR1 := Lib.hid (HT.out.range h1)
   obtain ⟨cs, hcs⟩ : ∃ cs, cs = capsV (rowG k e) := ⟨_, rfl⟩
   have HS : Hid (cs.size = 32) := by rw [hcs]; exact rfl
   have HONE := Lib.hid (caps_one (rowG k e))
   have HI : Hid (∀ s : Nat, s < 8 → ∀ W : World, (Instr.index 219 (.agg cs) (.int .i64 (s : Int))).run Tryz.prog W = .ok (.agg #[.int .i64 (capI (k.sl e s) 0), .int .i64 (capI (k.sl e s) 1), .int .i64 (capI (k.sl e s) 2), .int .i64 (capI (k.sl e s) 3)]) W) := by
    intro s hs W
    rw [hcs, cidx_any _ s hs W, capEnt_is k e hs]
   rw [← hcs] at HR1 HONE
   have HZ : Hid ((Tryz.prog.info? 219).map (·.size) = some cs.toList.length) := by rw [Array.length_toList, HS.out]; exact Tryz.sizeCaps
   have HZ2 : Hid ((Tryz.prog.info? 219).map (·.size) = some cs.size) := by rw [HS.out]; exact Tryz.sizeCaps
   have HTH : Hid ((wr.alloc (.cells #[.int .i64 0, .int .i64 0, .int .i64 0, .int .i64 0, .int .i64 0, .int .i64 0, .int .i64 0, .int .i64 0, .int .i64 0, .int .i64 0, .int .i64 0, .int .i64 0, .int .i64 0, .int .i64 0, .int .i64 0, .int .i64 0, .int .i64 0, .int .i64 0, .int .i64 0, .int .i64 0, .int .i64 0, .int .i64 0, .int .i64 0, .int .i64 0, .int .i64 0, .int .i64 0, .int .i64 0, .int .i64 0, .int .i64 0, .int .i64 0, .int .i64 0, .int .i64 0] 219)).there wr.heap.size 0 cs.size) := box_there wr cs HS.out
   have HR2 : Hid (((wr.alloc (.cells #[.int .i64 0, .int .i64 0, .int .i64 0, .int .i64 0, .int .i64 0, .int .i64 0, .int .i64 0, .int .i64 0, .int .i64 0, .int .i64 0, .int .i64 0, .int .i64 0, .int .i64 0, .int .i64 0, .int .i64 0, .int .i64 0, .int .i64 0, .int .i64 0, .int .i64 0, .int .i64 0, .int .i64 0, .int .i64 0, .int .i64 0, .int .i64 0, .int .i64 0, .int .i64 0, .int .i64 0, .int .i64 0, .int .i64 0, .int .i64 0, .int .i64 0, .int .i64 0] 219)).setCells wr.heap.size 0 cs.toList).rangeAt wr.heap.size 0 cs.toList) := World.rangeAt_setCells_same _ _ _ _ (by rw [Array.length_toList]; exact HTH.out)
   clear hcs
   go_wp2_with (first
    | (refine wpList_load_mid (op := ⟨some 22, _, _, _, _, _⟩) rfl 219 (.tmp 21) rfl G (e * 32) rfl cs.toList _ HR1.out Tryz.underlying219 rfl HZ.out ?_)
    | (refine wpList_store_mid (op := ⟨none, _, _, _, _, _⟩) rfl 219 (.tmp 7) (.tmp 22) rfl wr.heap.size 0 cs rfl rfl HTH.out HZ2.out (all_oneCell_toArray HONE.out) ?_)
    | (refine wpList_load_mid (op := ⟨some 23, _, _, _, _, _⟩) rfl 219 (.tmp 7) rfl wr.heap.size 0 rfl cs.toList _ HR2.out Tryz.underlying219 rfl HZ.out ?_))
   obtain ⟨w2, hw2⟩ : ∃ w2, w2 = (wr.alloc (.cells #[.int .i64 0, .int .i64 0, .int .i64 0, .int .i64 0, .int .i64 0, .int .i64 0, .int .i64 0, .int .i64 0, .int .i64 0, .int .i64 0, .int .i64 0, .int .i64 0, .int .i64 0, .int .i64 0, .int .i64 0, .int .i64 0, .int .i64 0, .int .i64 0, .int .i64 0, .int .i64 0, .int .i64 0, .int .i64 0, .int .i64 0, .int .i64 0, .int .i64 0, .int .i64 0, .int .i64 0, .int .i64 0, .int .i64 0, .int .i64 0, .int .i64 0, .int .i64 0] 219)).setCells wr.heap.size 0 cs.toList := ⟨_, rfl⟩
   have hb2 : Below wr.heap.size wr w2 := by rw [hw2]; exact bl_fill ((Below.refl _ _).alloc (Nat.le_refl _) _) (Nat.le_refl _) _ _
   have O2 := Lib.hid (own_later HO.out hb2)
   have B2 := Lib.hid (bl_trans HB.out hb2)
   have T2 := Lib.hid (HT.out.later hb2)
   have H2 := Lib.hid (HL.out _ _ HH.out hb2.size fun b hb => hb2.block b (Nat.lt_of_lt_of_le hb HB.out.size))
   rw [← hw2]
   clear hw2 hb2 HO HB HT HH HR1 HONE HZ HZ2 HTH HR2 HS
   go_loopw [5, 24] (fun lv sv W => ∃ s : Nat, s ≤ 8 ∧ sv = .int .i64 s ∧ W.ownsRow w.heap.size 168 2 lv (selL Q k (e * 8 + s)).length (placesV (selL Q k (e * 8 + s))) ∧ Below w.heap.size w W ∧ TreeIs W P G E k ∧ Hold W) (fun _ sv _ => (8 - intOf sv).toNat)
   case atStart => exact ⟨0, by omega, rfl, O2.out, B2.out, T2.out, H2.out⟩
   case round =>
    clear O2 B2 T2 H2
    obtain ⟨s, hs, rfl, hown, hb, ht, hh⟩ := hrel
    have HO := Lib.hid hown
    have HB := Lib.hid hb
    have HT := Lib.hid ht
    have HH := Lib.hid hh
    clear hown hb ht hh
    by_cases h2 : s < 8
    ·have s1 : (s : Int) < 8 := by omega
     have hidx := HI.out s h2
     have HR := Lib.hid (HT.out.ok.right e s)
     go_wp2_with fail
     refine (cthere_any HR.out _).mono ?_
     rintro z w3 ⟨rfl, hb3⟩
     obtain ⟨k1, k2, hb4⟩ := two_kept hb3
     have C3 := Lib.hid k1
     have P3 := Lib.hid k2
     have O3 := Lib.hid (own_later HO.out hb4)
     have B3 := Lib.hid (bl_trans HB.out hb4)
     have T3 := Lib.hid (HT.out.later hb4)
     have H3 := Lib.hid (HL.out _ _ HH.out hb4.size fun b hb => hb4.block b (Nat.lt_of_lt_of_le hb HB.out.size))
     clear hb3 hb4 k1 k2 HO HB HT HH HR hidx
     have c0 := bk_cell C3.out 0
     have c1 := bk_cell C3.out 1
     have c2 := bk_cell C3.out 2
     have c3 := bk_cell C3.out 3
     have p0 := bk_cell P3.out 0
     have p1 := bk_cell P3.out 1
     cases his : (k.sl e s).is
     ·have HN := Lib.hid (selL_no (Q := Q) h2 (Or.inl his))
      clear his
      go_wp2_with fail
      go_roundw
      case rel => exact ⟨s + 1, by omega, by go_num, by rw [show e * 8 + (s + 1) = e * 8 + s + 1 by omega, HN.out]; exact O3.out, B3.out, T3.out, H3.out⟩
      case measure => simp [intOf]; omega
     ·obtain ⟨b, hq⟩ : ∃ b, Q e s = b := ⟨_, rfl⟩
      have HCC := Lib.hid (HC.out w3 e s H3.out T3.out h1 h2 his)
      rw [hq] at HCC
      have HIS := Lib.hid his
      have HQ := Lib.hid hq
      clear his hq
      go_wp2_with fail
      refine HCC.out.mono ?_
      rintro z w4 ⟨rfl, hb5⟩
      have P4 := Lib.hid (bk_below P3.out hb5)
      have O4 := Lib.hid (own_later O3.out hb5)
      have B4 := Lib.hid (bl_trans B3.out hb5)
      have T4 := Lib.hid (T3.out.later hb5)
      have H4 := Lib.hid (HL.out _ _ H3.out hb5.size fun b hb => hb5.block b (Nat.lt_of_lt_of_le hb B3.out.size))
      clear hb5 HCC c0 c1 c2 c3 p0 p1 C3 P3 O3 B3 T3 H3
      have p0 := bk_cell P4.out 0
      have p1 := bk_cell P4.out 1
      cases b
      ·have HN := Lib.hid (selL_no (k := k) h2 (Or.inr HQ.out))
       go_wp2_with fail
       go_roundw
       case rel => exact ⟨s + 1, by omega, by go_num, by rw [show e * 8 + (s + 1) = e * 8 + s + 1 by omega, HN.out]; exact O4.out, B4.out, T4.out, H4.out⟩
       case measure => simp [intOf]; omega
      ·have HN := Lib.hid (selL_yes h2 HIS.out HQ.out)
       have hle := selL_le Q k (e * 8 + s)
       have hsz : w.heap.size ≤ w4.heap.size := B4.out.size
       go_wp2_with (refine wpList_append_own (o := ⟨some 42, _, _, _, _, _⟩) _ rfl (.tmp 39) (.tmp 41) 88 rfl w.heap.size 168 i0 (.agg #[.int .i64 0, .int .i64 0]) 2 16 Tryz.underlying88 hi hz0 hz1 hz2 rfl (by decide) _ _ _ rfl (O4.out.alloc _) ⟨w4.heap.size, 0, none⟩ 1 1 [.int .i64 (e : Int), .int .i64 (s : Int)] rfl rfl (pair_at _ _ _ _) (two_cell _ _) (by unfold maxLen; omega) (by omega) (by simp; omega) ?_)
       intro v' w5 hown hgrow _
       have B5 := Lib.hid (own_grow B4.out hgrow O4.out)
       have O5 := Lib.hid hown
       have hap : ∀ b, b < w.heap.size → w5.heap[b]? = w4.heap[b]? := fun b hb =>
        (hgrow.block b (by simp; omega) (fun hbb => by have := (O4.out.lt b hbb.symm).1; omega)).trans (Below.heap_alloc w4 _ b (by omega))
       have hsz5 : w4.heap.size ≤ w5.heap.size := by have := hgrow.size; simp at this; omega
       have T5 := Lib.hid (T4.out.foot hsz5 (hap P hP0) (hap G hG0))
       have H5 := Lib.hid (HL.out _ _ H4.out hsz5 hap)
       clear hown hgrow hap p0 p1 hsz5
       go_wp2_with fail
       go_roundw
       case rel => exact ⟨s + 1, by omega, by go_num, by rw [show e * 8 + (s + 1) = e * 8 + s + 1 by omega, HN.out, List.length_append, placesV_snoc _ h2]; exact O5.out, B5.out, T5.out, H5.out⟩
       case measure => simp [intOf]; omega
    ·obtain rfl : s = 8 := by omega
     go_wp2_with fail
     go_roundw
     case rel => exact ⟨e + 1, by omega, by go_num, by rw [show (e + 1) * 8 = e * 8 + 8 by omega]; exact HO.out, HB.out, HT.out, HH.out⟩
     case measure => simp [intOf]; omega
  ·obtain rfl : e = E := by omega
   have e1 : ¬ (e : Int) < (e : Int) := by omega
   go_wp2_with fail
   go_ret
   exact ⟨_, rfl, HO.out, HB.out⟩
end Go.Proofs.YtdfhfmdelinemaaGreatDoor

