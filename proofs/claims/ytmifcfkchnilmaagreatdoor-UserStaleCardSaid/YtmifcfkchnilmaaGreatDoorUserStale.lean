/- What is proved here: the statement UserStale: whatever its numbers, the statement returns true and leaves what was there. Conditions: package user keeps its contracts; the statements' own beginning returns true. -/
import Derived.Test.YtmifcfkchnilmaaGreatDoorGUser
import Derived.RegionTactic
import Derived.WalkArith
namespace Go.Proofs.YtmifcfkchnilmaaGreatDoor
open Go.RowKit Go.Extern.Stop Go.Stop Go.Extern Go.WalkArith
theorem memV_back (v : Int) (a : Nat) : memV (memS (fun _ => 0) 3 2 a 21 v 0) 3 2 a 20 = v := by
  unfold memV
  rw [if_pos (by decide)]
  unfold memS
  rw [if_pos ⟨by decide, by decide, rfl⟩, if_pos rfl]
set_option maxRecDepth 100000 in
set_option maxHeartbeats 8000000 in
theorem ustale_any (H : UserC) (e0 p0 a0 v : Int) (hv : 0 ≤ v ∧ v < 18446744073709551616) (w : World) (hbeg : BegunAt11 w) :
    Calls Tryz.prog 12 #[.int .i64 e0, .int .i64 p0, .int .i64 a0, .int .u64 v] w fun e w' => e = .returned (.bool true) ∧ Below w.heap.size w w' := by
  have HB := Lib.hid hbeg
  have HH := Lib.hid H
  clear hbeg H
  have m1 := Int.lt_tmod_of_pos e0 (show (0 : Int) < 4 by omega)
  have m2 := Int.tmod_lt_of_pos e0 (show (0 : Int) < 4 by omega)
  have m3 := Int.lt_tmod_of_pos p0 (show (0 : Int) < 8 by omega)
  have m4 := Int.tmod_lt_of_pos p0 (show (0 : Int) < 8 by omega)
  have m5 := Int.lt_tmod_of_pos a0 (show (0 : Int) < 16 by omega)
  have m6 := Int.tmod_lt_of_pos a0 (show (0 : Int) < 16 by omega)
  obtain ⟨e, he⟩ : ∃ e : Nat, (e0.tmod 4 + 4) % 4 = (e : Int) := ⟨((e0.tmod 4 + 4) % 4).toNat, by omega⟩
  obtain ⟨p, hp⟩ : ∃ p : Nat, (p0.tmod 8 + 8) % 8 = (p : Int) := ⟨((p0.tmod 8 + 8) % 8).toNat, by omega⟩
  obtain ⟨a, ha⟩ : ∃ a : Nat, (a0.tmod 16 + 16) % 16 = (a : Int) := ⟨((a0.tmod 16 + 16) % 16).toNat, by omega⟩
  have he4 : e < 4 := by omega
  have hp8 : p < 8 := by omega
  have ha16 : a < 16 := by omega
  obtain ⟨k, hk⟩ : ∃ k, k = old (fun _ => 0) ((p : Int) % 4).toNat := ⟨_, rfl⟩
  have LB : Hid (lineB (e : Int) (p : Int) 2 3 = true) := decide_eq_true ⟨by omega, by omega, by decide, by decide⟩
  have ON : Hid (OneLine (fillG (fun _ => 0) k (e : Int) (p : Int) 2 3) k (e : Int) (p : Int) 2 3) := hk ▸ one_line LB.out hp8
  have W1 : Hid (walkS (fun _ => 0) (putG (fun _ => 0) p 2 1 3) (e : Int) (p : Int) 21 = (fillG (fun _ => 0) k (e : Int) (p : Int) 2 3, ((e : Int), (p : Int), 2, 3), true)) := by
    rw [hk]
    exact walk_fill (fun j _ => zero_no _ _ j) (by decide) (by rw [(tput_at _ p 2 1 3 p).2, if_pos rfl]) (by rw [(tput_at _ p 2 1 3 p).1, if_pos rfl]) LB.out
  have Z2 : Hid (withinB (needN 20) (putG (putG (fun _ => 0) p 2 1 3) p 0 0 0 (p * 3 + 2)) = false) := by
    show withinB (needN 20) (putG (putG (fun _ => 0) p 2 1 3) p 0 0 0 (p * 3 + 2)) = false
    rw [(tput_at _ p 0 0 0 p).1, if_pos rfl]
    decide
  have W2 : Hid (walkS (fillG (fun _ => 0) k (e : Int) (p : Int) 2 3) (putG (putG (fun _ => 0) p 2 1 3) p 0 0 0) (e : Int) (p : Int) 20 = (fillG (fun _ => 0) k (e : Int) (p : Int) 2 3, ((e : Int), (p : Int), 2, 3), true)) :=
    walk_hit ON.out.lt ON.out.hit ON.out.only ON.out.c0 ON.out.c1 ON.out.c2 ON.out.c3 (by decide)
  obtain ⟨f, hf⟩ : ∃ f : Nat, ((e : Int) + 1) % 4 = (f : Int) := ⟨(((e : Int) + 1) % 4).toNat, by omega⟩
  have hf4 : f < 4 := by omega
  have W3 : Hid (walkS (fillG (fun _ => 0) k (e : Int) (p : Int) 2 3) (putG (putG (fun _ => 0) p 2 1 3) p 0 0 0) (f : Int) (p : Int) 20 = (fillG (fun _ => 0) k (e : Int) (p : Int) 2 3, (0, 0, 0, 0), false)) :=
    walk_none rfl (ON.out.far _ _ (by omega)) Z2.out
  have W4 : Hid (walkS (clearG (fillG (fun _ => 0) k (e : Int) (p : Int) 2 3) k) (putG (putG (fun _ => 0) p 2 1 3) p 0 0 0) (e : Int) (p : Int) 20 = (clearG (fillG (fun _ => 0) k (e : Int) (p : Int) 2 3) k, (0, 0, 0, 0), false)) :=
    walk_none rfl (clear_find ON.out.only) Z2.out
  have TO1 := Lib.hid (tab_ok_put (q := p) (f := 2) (s := 1) (r := 3) tab_ok_new (by decide))
  have TO2 := Lib.hid (tab_ok_off TO1.out p)
  clear hk LB Z2
  go_enter Tryz.func12, Tryz.ntmps12
  go_wp2_with fail
  refine HB.out.mono ?_
  rintro x w1 ⟨rfl, hb1⟩
  have B1 : Hid (Side w w1 []) := hb1
  clear hb1 HB
  go_wp2_with fail
  refine (tlb_new w1).mono ?_
  rintro x w2 ⟨rfl, hb2, hn2⟩
  obtain ⟨T, hT⟩ : ∃ T, T = w1.heap.size := ⟨_, rfl⟩
  rw [← hT] at hn2 ⊢
  have tT : Hid (w1.heap.size ≤ T ∧ T < w2.heap.size) := ⟨by omega, hn2.2.2⟩
  have N2 := Lib.hid (And.intro hb2 hn2)
  clear hT hb2 hn2
  go_wp2_with fail
  refine (tab_new w2).mono ?_
  rintro x w3 ⟨rfl, hb3, ht3⟩
  obtain ⟨U, hU⟩ : ∃ U, U = w2.heap.size := ⟨_, rfl⟩
  rw [← hU] at ht3 ⊢
  have tU : Hid (w2.heap.size ≤ U ∧ U < w3.heap.size) := ⟨by omega, ht3.2.2⟩
  have N3 := Lib.hid (And.intro hb3 ht3)
  clear hU hb3 ht3
  go_wp2_with fail
  refine (mem_new3 w3).mono ?_
  rintro x w4 ⟨rfl, hb4, hm4⟩
  obtain ⟨F, hF⟩ : ∃ F, F = w3.heap.size := ⟨_, rfl⟩
  rw [← hF] at hm4 ⊢
  obtain ⟨M, hM⟩ : ∃ M, M = F + 1 := ⟨_, rfl⟩
  rw [← hM] at hm4 ⊢
  have tM : Hid (w3.heap.size ≤ F ∧ F < M) := ⟨by omega, by omega⟩
  have N4 := Lib.hid (And.intro hb4 hm4)
  clear hM hF hb4 hm4
  have S4 : Hid (Side w w4 [userT T U M F 3 (fun _ => 0) (fun _ => 0) (fun _ => 0)]) := by
    obtain ⟨hb2, hn2⟩ := N2.out
    obtain ⟨hb3, ht3⟩ := N3.out
    obtain ⟨hb4, hm4⟩ := N4.out
    have l1 := tT.out
    have l2 := tU.out
    have l3 := tM.out
    have s1 := hb2.size
    have s2 := hb3.size
    refine Side.make (l := []) B1.out (bl_trans (bl_trans hb2 hb3) hb4) _ ⟨(hn2.later hb3).later hb4, ht3.later hb4, hm4, by omega, by omega, by omega, by omega, by omega⟩ fun i hi => ?_
    rcases hi with rfl | rfl | rfl | rfl <;> omega
  clear N2 N3 N4 tT tU tM B1
  go_wp2_with fail
  refine (tins_ok _ U p 2 1 3 (fun _ => 0) hp8 (by decide) (Side.at [] S4.out).2.1 rfl).mono ?_
  rintro x w5 ⟨rfl, h1, h2⟩
  have S5 := Lib.hid (side_uU [] S4.out h1 h2)
  clear h1 h2 S4
  go_wp2_with fail
  have S6 := Lib.hid ((S5.out.box (.cells #[.int .u64 21, .int .u64 (p : Int), .int .u64 (a : Int), .int .u64 v, .int .u64 0] 81)).boxAt (.cells #[.int .u64 20, .int .u64 (p : Int), .int .u64 (a : Int), .int .u64 0, .int .u64 0] 81) (w5.heap.size + 1) (by simp))
  clear S5
  refine (side_udo HH.out [fixT (w5.heap.size + 1) (.cells #[.int .u64 20, .int .u64 (p : Int), .int .u64 (a : Int), .int .u64 0, .int .u64 0] 81), fixT w5.heap.size (.cells #[.int .u64 21, .int .u64 (p : Int), .int .u64 (a : Int), .int .u64 v, .int .u64 0] 81)] S6.out (buf_ok VU.start (by decide) (by decide)) TO1.out (by unfold wordsIn; omega) (doE_ok he4 hp8 ha16 (by decide) v 0) W1.out (er := 0) (v := 0) (mg' := memS (fun _ => 0) 3 2 a 21 v 0) rfl (by rw [if_pos rfl]; rfl) (by rw [if_pos rfl, Int.toNat_natCast])).mono ?_
  rintro x w6 ⟨rfl, h6⟩
  have S7 := Lib.hid ((h6.box (.cells #[.int .i64 0, .int .u64 0] 85)).boxAt (.cells #[.int .i64 (e : Int), .int .i64 (p : Int), .int .i64 2, .int .i64 3] 78) (w6.heap.size + 1) (by simp))
  clear h6 S6
  go_wp2_with fail
  refine (trem_ok _ U p (putG (fun _ => 0) p 2 1 3) hp8 (Side.at [fixT (w6.heap.size + 1) (.cells #[.int .i64 (e : Int), .int .i64 (p : Int), .int .i64 2, .int .i64 3] 78), fixT w6.heap.size (.cells #[.int .i64 0, .int .u64 0] 85), fixT (w5.heap.size + 1) (.cells #[.int .u64 20, .int .u64 (p : Int), .int .u64 (a : Int), .int .u64 0, .int .u64 0] 81), fixT w5.heap.size (.cells #[.int .u64 21, .int .u64 (p : Int), .int .u64 (a : Int), .int .u64 v, .int .u64 0] 81)] S7.out).2.1 (by rw [(tput_at _ p 2 1 3 p).1, if_pos rfl]; decide)).mono ?_
  rintro x w7 ⟨rfl, h1, h2⟩
  have S8 := Lib.hid (side_uU [fixT (w6.heap.size + 1) (.cells #[.int .i64 (e : Int), .int .i64 (p : Int), .int .i64 2, .int .i64 3] 78), fixT w6.heap.size (.cells #[.int .i64 0, .int .u64 0] 85), fixT (w5.heap.size + 1) (.cells #[.int .u64 20, .int .u64 (p : Int), .int .u64 (a : Int), .int .u64 0, .int .u64 0] 81), fixT w5.heap.size (.cells #[.int .u64 21, .int .u64 (p : Int), .int .u64 (a : Int), .int .u64 v, .int .u64 0] 81)] S7.out h1 h2)
  clear h1 h2 S7
  have kc := S8.out.2.2.2.2.2.2.1
  have kc0 := bk_cell kc 0
  have kc1 := bk_cell kc 1
  have kc2 := bk_cell kc 2
  have kc3 := bk_cell kc 3
  have kc4 := bk_cell kc 4
  have lkc := bk_lt kc
  clear kc
  go_wp2_with fail
  clear kc0 kc1 kc2 kc3 kc4 lkc
  refine (side_udo HH.out [fixT (w6.heap.size + 1) (.cells #[.int .i64 (e : Int), .int .i64 (p : Int), .int .i64 2, .int .i64 3] 78), fixT w6.heap.size (.cells #[.int .i64 0, .int .u64 0] 85), fixT (w5.heap.size + 1) (.cells #[.int .u64 20, .int .u64 (p : Int), .int .u64 (a : Int), .int .u64 0, .int .u64 0] 81), fixT w5.heap.size (.cells #[.int .u64 21, .int .u64 (p : Int), .int .u64 (a : Int), .int .u64 v, .int .u64 0] 81)] S8.out ON.out.ok TO2.out (by unfold wordsIn; omega) (doE_ok he4 hp8 ha16 (by decide) 0 0) W2.out (er := 0) (v := v) (mg' := memS (memS (fun _ => 0) 3 2 a 21 v 0) 3 2 a 20 0 0) rfl (by rw [if_pos rfl, Int.toNat_natCast]; exact (memV_back v a).symm) (by rw [if_pos rfl, Int.toNat_natCast])).mono ?_
  rintro x w8 ⟨rfl, h8⟩
  have S9 := Lib.hid ((h8.box (.cells #[.int .i64 0, .int .u64 v] 85)).boxAt (.cells #[.int .i64 (e : Int), .int .i64 (p : Int), .int .i64 2, .int .i64 3] 78) (w8.heap.size + 1) (by simp))
  clear h8 S8
  have kc := S9.out.2.2.2.2.2.2.2.2.2.2.2.2.1
  have kc0 := bk_cell kc 0
  have kc1 := bk_cell kc 1
  have kc2 := bk_cell kc 2
  have kc3 := bk_cell kc 3
  have kc4 := bk_cell kc 4
  have lkc := bk_lt kc
  clear kc
  go_wp2_with fail
  clear kc0 kc1 kc2 kc3 kc4 lkc
  refine (side_udo HH.out [fixT (w8.heap.size + 1) (.cells #[.int .i64 (e : Int), .int .i64 (p : Int), .int .i64 2, .int .i64 3] 78), fixT w8.heap.size (.cells #[.int .i64 0, .int .u64 v] 85), fixT (w6.heap.size + 1) (.cells #[.int .i64 (e : Int), .int .i64 (p : Int), .int .i64 2, .int .i64 3] 78), fixT w6.heap.size (.cells #[.int .i64 0, .int .u64 0] 85), fixT (w5.heap.size + 1) (.cells #[.int .u64 20, .int .u64 (p : Int), .int .u64 (a : Int), .int .u64 0, .int .u64 0] 81), fixT w5.heap.size (.cells #[.int .u64 21, .int .u64 (p : Int), .int .u64 (a : Int), .int .u64 v, .int .u64 0] 81)] S9.out ON.out.ok TO2.out (by unfold wordsIn; omega) (doE_ok hf4 hp8 ha16 (by decide) 0 0) W3.out (er := 7) (v := 0) (mg' := memS (memS (fun _ => 0) 3 2 a 21 v 0) 3 2 a 20 0 0) rfl rfl rfl).mono ?_
  rintro x w9 ⟨rfl, h9⟩
  have S10 := Lib.hid ((h9.box (.cells #[.int .i64 7, .int .u64 0] 85)).boxAt (.cells #[.int .i64 0, .int .i64 0, .int .i64 0, .int .i64 0] 78) (w9.heap.size + 1) (by simp))
  clear h9 S9
  go_wp2_with fail
  refine (tflush_hit T (fillG (fun _ => 0) k (e : Int) (p : Int) 2 3) (e : Int) (p : Int) _ (Side.at [fixT (w9.heap.size + 1) (.cells #[.int .i64 0, .int .i64 0, .int .i64 0, .int .i64 0] 78), fixT w9.heap.size (.cells #[.int .i64 7, .int .u64 0] 85), fixT (w8.heap.size + 1) (.cells #[.int .i64 (e : Int), .int .i64 (p : Int), .int .i64 2, .int .i64 3] 78), fixT w8.heap.size (.cells #[.int .i64 0, .int .u64 v] 85), fixT (w6.heap.size + 1) (.cells #[.int .i64 (e : Int), .int .i64 (p : Int), .int .i64 2, .int .i64 3] 78), fixT w6.heap.size (.cells #[.int .i64 0, .int .u64 0] 85), fixT (w5.heap.size + 1) (.cells #[.int .u64 20, .int .u64 (p : Int), .int .u64 (a : Int), .int .u64 0, .int .u64 0] 81), fixT w5.heap.size (.cells #[.int .u64 21, .int .u64 (p : Int), .int .u64 (a : Int), .int .u64 v, .int .u64 0] 81)] S10.out).1 k ON.out.lt ON.out.set ON.out.hit (fun j hj => ON.out.only j (by have := ON.out.lt; omega) (by omega))).mono ?_
  rintro x w10 ⟨rfl, h1, h2⟩
  have S11 := Lib.hid (side_uT [fixT (w9.heap.size + 1) (.cells #[.int .i64 0, .int .i64 0, .int .i64 0, .int .i64 0] 78), fixT w9.heap.size (.cells #[.int .i64 7, .int .u64 0] 85), fixT (w8.heap.size + 1) (.cells #[.int .i64 (e : Int), .int .i64 (p : Int), .int .i64 2, .int .i64 3] 78), fixT w8.heap.size (.cells #[.int .i64 0, .int .u64 v] 85), fixT (w6.heap.size + 1) (.cells #[.int .i64 (e : Int), .int .i64 (p : Int), .int .i64 2, .int .i64 3] 78), fixT w6.heap.size (.cells #[.int .i64 0, .int .u64 0] 85), fixT (w5.heap.size + 1) (.cells #[.int .u64 20, .int .u64 (p : Int), .int .u64 (a : Int), .int .u64 0, .int .u64 0] 81), fixT w5.heap.size (.cells #[.int .u64 21, .int .u64 (p : Int), .int .u64 (a : Int), .int .u64 v, .int .u64 0] 81)] S10.out h1 h2)
  clear h1 h2 S10
  have kc := S11.out.2.2.2.2.2.2.2.2.2.2.2.2.2.2.2.2.2.2.1
  have kc0 := bk_cell kc 0
  have kc1 := bk_cell kc 1
  have kc2 := bk_cell kc 2
  have kc3 := bk_cell kc 3
  have kc4 := bk_cell kc 4
  have lkc := bk_lt kc
  clear kc
  go_wp2_with fail
  clear kc0 kc1 kc2 kc3 kc4 lkc
  refine (side_udo HH.out [fixT (w9.heap.size + 1) (.cells #[.int .i64 0, .int .i64 0, .int .i64 0, .int .i64 0] 78), fixT w9.heap.size (.cells #[.int .i64 7, .int .u64 0] 85), fixT (w8.heap.size + 1) (.cells #[.int .i64 (e : Int), .int .i64 (p : Int), .int .i64 2, .int .i64 3] 78), fixT w8.heap.size (.cells #[.int .i64 0, .int .u64 v] 85), fixT (w6.heap.size + 1) (.cells #[.int .i64 (e : Int), .int .i64 (p : Int), .int .i64 2, .int .i64 3] 78), fixT w6.heap.size (.cells #[.int .i64 0, .int .u64 0] 85), fixT (w5.heap.size + 1) (.cells #[.int .u64 20, .int .u64 (p : Int), .int .u64 (a : Int), .int .u64 0, .int .u64 0] 81), fixT w5.heap.size (.cells #[.int .u64 21, .int .u64 (p : Int), .int .u64 (a : Int), .int .u64 v, .int .u64 0] 81)] S11.out (buf_clear ON.out.ok ON.out.lt) TO2.out (by unfold wordsIn; omega) (doE_ok he4 hp8 ha16 (by decide) 0 0) W4.out (er := 7) (v := 0) (mg' := memS (memS (fun _ => 0) 3 2 a 21 v 0) 3 2 a 20 0 0) rfl rfl rfl).mono ?_
  rintro x w11 ⟨rfl, h11⟩
  have S12 := Lib.hid ((h11.box (.cells #[.int .i64 7, .int .u64 0] 85)).boxAt (.cells #[.int .i64 0, .int .i64 0, .int .i64 0, .int .i64 0] 78) (w11.heap.size + 1) (by simp))
  clear h11 S11
  have ka := S12.out.1
  have ka0 := bk_cell ka 0
  have ka1 := bk_cell ka 1
  have ka2 := bk_cell ka 2
  have ka3 := bk_cell ka 3
  have lka := bk_lt ka
  clear ka
  have kb := S12.out.2.2.2.1
  have kb0 := bk_cell kb 0
  have kb1 := bk_cell kb 1
  have lkb := bk_lt kb
  clear kb
  have kd := S12.out.2.2.2.2.2.2.2.2.2.1
  have kd0 := bk_cell kd 0
  have kd1 := bk_cell kd 1
  have lkd := bk_lt kd
  clear kd
  have ke := S12.out.2.2.2.2.2.2.2.2.2.2.2.2.1
  have ke0 := bk_cell ke 0
  have ke1 := bk_cell ke 1
  have ke2 := bk_cell ke 2
  have ke3 := bk_cell ke 3
  have lke := bk_lt ke
  clear ke
  have kf := S12.out.2.2.2.2.2.2.2.2.2.2.2.2.2.2.2.1
  have kf0 := bk_cell kf 0
  have kf1 := bk_cell kf 1
  have lkf := bk_lt kf
  clear kf
  have kg := S12.out.2.2.2.2.2.2.2.2.2.2.2.2.2.2.2.2.2.2.1
  have kg0 := bk_cell kg 0
  have kg1 := bk_cell kg 1
  have kg2 := bk_cell kg 2
  have kg3 := bk_cell kg 3
  have lkg := bk_lt kg
  clear kg
  have kh := S12.out.2.2.2.2.2.2.2.2.2.2.2.2.2.2.2.2.2.2.2.2.2.1
  have kh0 := bk_cell kh 0
  have kh1 := bk_cell kh 1
  have lkh := bk_lt kh
  clear kh
  have HE := Lib.hid S12.out.below
  clear S12 ON W1 W2 W3 W4 TO1 TO2 HH
  go_wp2_with fail
  go_ret
  exact ⟨rfl, HE.out⟩
end Go.Proofs.YtmifcfkchnilmaaGreatDoor

