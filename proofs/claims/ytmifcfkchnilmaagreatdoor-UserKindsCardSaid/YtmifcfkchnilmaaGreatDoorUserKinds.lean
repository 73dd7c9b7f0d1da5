/- What is proved here: the statement UserKinds: whatever its words, the statement returns true and leaves what was there. Conditions: package user keeps its contracts; the statements' own beginning returns true. -/
import Derived.Test.YtmifcfkchnilmaaGreatDoorGUser
import Derived.Test.YtmifcfkchnilmaaGreatDoorGKerE
import Derived.RegionTactic
import Derived.WalkArith
namespace Go.Proofs.YtmifcfkchnilmaaGreatDoor
open Go.RowKit Go.Extern.Stop Go.Stop Go.Extern Go.WalkArith
def kerT (K : Nat) (k : KernS) : Thing := ⟨fun i => i = K, fun W => KernIs W K k, fun _ _ h hs hb => h.foot hs (hb K rfl h.lt), fun _ h i hi => by subst hi; exact h.lt⟩
theorem side_kref {w W : World} {c e f : Int} {l : List Thing} (h : Side w W l) :
    Calls Tryz.prog 18 #[.agg #[.int .i64 c, .int .i64 e, .int .i64 f]] W fun x W' => ∃ K, x = .returned (.pointer (some ⟨K, 0, none⟩)) ∧ Side w W' (kerT K (newK c e f) :: l) := by
  refine (kref_new c e f W).mono ?_
  rintro x W' ⟨K, rfl, h1, hb, hl⟩
  exact ⟨K, rfl, h.make hb (kerT K (newK c e f)) h1 (fun i hi => by have hi : i = K := hi; omega)⟩
theorem side_kword {w W : World} {K : Nat} {k : KernS} {l1 l2 : List Thing} (kind x0 x1 x3 x4 : Int) (h : Side w W (l1 ++ kerT K k :: l2)) :
    Calls Tryz.prog 47 #[.pointer (some ⟨K, 0, none⟩), .int .i64 0, .int .i64 kind, .agg #[.int .u64 x0, .int .u64 x1, .int .u64 4, .int .u64 x3, .int .u64 x4]] W fun x W' => x = .returned (.int .u64 (wordT k 0 4 kind)) ∧ Side w W' (l1 ++ kerT K (wordS k 0 4 kind x3 x4) :: l2) := by
  refine (kref_word K k 0 4 (by decide) (by decide) kind x0 x1 x3 x4 W (Side.at (o := kerT K k) l1 h)).mono ?_
  rintro x W' ⟨rfl, h4, h5⟩
  exact ⟨rfl, Side.step (o := kerT K k) (kerT K _) h4 (fun _ h => Or.inl h) (only_T h5) l1 h⟩
abbrev kcV (v y s x : Int) : Array Value := #[.int .u64 21, .int .u64 0, .int .u64 4, .int .u64 v, .int .u64 0, .int .u64 23, .int .u64 0, .int .u64 4, .int .u64 y, .int .u64 0, .int .u64 20, .int .u64 0, .int .u64 4, .int .u64 0, .int .u64 0, .int .u64 22, .int .u64 0, .int .u64 4, .int .u64 s, .int .u64 x, .int .u64 22, .int .u64 0, .int .u64 4, .int .u64 v, .int .u64 y, .int .u64 20, .int .u64 0, .int .u64 4, .int .u64 0, .int .u64 0, .int .u64 23, .int .u64 0, .int .u64 4, .int .u64 x, .int .u64 0, .int .u64 20, .int .u64 0, .int .u64 4, .int .u64 0, .int .u64 0]
abbrev w64 (x : Int) : Prop := 0 ≤ x ∧ x < 18446744073709551616
theorem u64_in (x : Int) : w64 (IntKind.u64.wrap x) := by
  have h : IntKind.u64.wrap x = x % 18446744073709551616 := rfl
  rw [h]
  exact ⟨Int.emod_nonneg _ (by decide), Int.emod_lt_of_pos _ (by decide)⟩
theorem kc_at {v y s x : Int} (hv : w64 v) (hy : w64 y) (hs : w64 s) (hx : w64 x) {i : Nat} (hi : i < 8) : ∃ kd a b : Int, (kd = 20 ∨ kd = 21 ∨ kd = 22 ∨ kd = 23) ∧ w64 a ∧ w64 b ∧
    (kcV v y s x)[i * 5]? = some (.int .u64 kd) ∧ (kcV v y s x)[i * 5 + 1]? = some (.int .u64 0) ∧ (kcV v y s x)[i * 5 + 2]? = some (.int .u64 4) ∧ (kcV v y s x)[i * 5 + 3]? = some (.int .u64 a) ∧ (kcV v y s x)[i * 5 + 4]? = some (.int .u64 b) := by
  have h0 : w64 0 := by decide
  rcases (show i = 0 ∨ i = 1 ∨ i = 2 ∨ i = 3 ∨ i = 4 ∨ i = 5 ∨ i = 6 ∨ i = 7 by omega) with rfl | rfl | rfl | rfl | rfl | rfl | rfl | rfl
  · exact ⟨21, v, 0, by decide, hv, h0, rfl, rfl, rfl, rfl, rfl⟩
  · exact ⟨23, y, 0, by decide, hy, h0, rfl, rfl, rfl, rfl, rfl⟩
  · exact ⟨20, 0, 0, by decide, h0, h0, rfl, rfl, rfl, rfl, rfl⟩
  · exact ⟨22, s, x, by decide, hs, hx, rfl, rfl, rfl, rfl, rfl⟩
  · exact ⟨22, v, y, by decide, hv, hy, rfl, rfl, rfl, rfl, rfl⟩
  · exact ⟨20, 0, 0, by decide, h0, h0, rfl, rfl, rfl, rfl, rfl⟩
  · exact ⟨23, x, 0, by decide, hx, h0, rfl, rfl, rfl, rfl, rfl⟩
  · exact ⟨20, 0, 0, by decide, h0, h0, rfl, rfl, rfl, rfl, rfl⟩
def BufG (g : Nat → Int) : Prop := g = (fun _ => 0) ∨ OneLine g (old (fun _ => 0) (((0 : Nat) : Int) % 4).toNat) 0 0 0 3
theorem bufG_ok {g : Nat → Int} (h : BufG g) : BufOk g := h.elim (fun e => e ▸ buf_ok VU.start (by decide) (by decide)) fun h => h.ok
theorem need_3 {kd : Int} (hk : kd = 20 ∨ kd = 21 ∨ kd = 22 ∨ kd = 23) : withinB (needN kd) 3 = true := by
  rcases hk with rfl | rfl | rfl | rfl <;> decide
theorem bufG_walk {g tg : Nat → Int} (h : BufG g) (h0 : tg (0 * 3) = 0) (h2 : tg (0 * 3 + 2) = 3) {kd : Int} (hk : kd = 20 ∨ kd = 21 ∨ kd = 22 ∨ kd = 23) : ∃ g', BufG g' ∧ walkS g tg 0 0 kd = (g', (0, 0, 0, 3), true) := by
  rcases h with rfl | h
  · have LB : lineB ((0 : Nat) : Int) ((0 : Nat) : Int) 0 3 = true := by decide
    exact ⟨_, Or.inr (one_line LB (by decide)), walk_fill (e := 0) (p := 0) (fun j _ => zero_no _ _ j) (need_3 hk) h0 h2 LB⟩
  · exact ⟨g, Or.inr h, walk_hit h.lt h.hit h.only h.c0 h.c1 h.c2 h.c3 (need_3 hk)⟩
theorem word_same {mg : Nat → Int} {k : KernS} (h : mg 4 = k.mm 0 4) {kd : Int} (a b : Int) (hk : kd = 20 ∨ kd = 21 ∨ kd = 22 ∨ kd = 23) : memV mg 1 0 4 kd = wordT k 0 4 kd ∧ memS mg 1 0 4 kd a b 4 = (wordS k 0 4 kd a b).mm 0 4 := by
  constructor
  · unfold memV wordT
    rcases hk with rfl | rfl | rfl | rfl <;> simp [h]
  · unfold memS wordS
    rw [if_pos ⟨by decide, by decide, rfl⟩]
    rcases hk with rfl | rfl | rfl | rfl
    · simp [h]
    · simp [KernS.setWord]
    · by_cases hc : k.mm 0 4 = a
      · simp [h, hc, KernS.setWord]
      · simp [h, hc]
    · simp [h, KernS.setWord]
set_option maxRecDepth 100000 in
set_option maxHeartbeats 8000000 in
theorem ukinds_any (H : UserC) (v y x0 : Int) (hv : w64 v) (hy : w64 y) (hx : w64 x0) (w : World) (hbeg : BegunAt11 w) :
    Calls Tryz.prog 14 #[.int .u64 v, .int .u64 y, .int .u64 x0] w fun e w' => e = .returned (.bool true) ∧ Below w.heap.size w w' := by
  have HB := Lib.hid hbeg
  have HH := Lib.hid H
  clear hbeg H
  have HV := Lib.hid hv
  have HY := Lib.hid hy
  have HX := Lib.hid hx
  clear hv hy hx
  go_enter Tryz.func14, Tryz.ntmps14
  go_wp2_with fail
  refine HB.out.mono ?_
  rintro x w1 ⟨rfl, hb1⟩
  have B1 : Hid (Side w w1 []) := hb1
  clear hb1 HB
  go_wp2_with fail
  refine (tlb_new w1).mono ?_
  rintro x w2 ⟨rfl, hb2, hn2⟩
  obtain ⟨T, hT⟩ : ∃ T, T = w1.heap.size := ⟨_, rfl⟩
  rw [← hT] at hn2 ⊢
  have tT : Hid (w1.heap.size ≤ T ∧ T < w2.heap.size) := ⟨by omega, hn2.2.2⟩
  have N2 := Lib.hid (And.intro hb2 hn2)
  clear hT hb2 hn2
  go_wp2_with fail
  refine (tab_new w2).mono ?_
  rintro x w3 ⟨rfl, hb3, ht3⟩
  obtain ⟨U, hU⟩ : ∃ U, U = w2.heap.size := ⟨_, rfl⟩
  rw [← hU] at ht3 ⊢
  have tU : Hid (w2.heap.size ≤ U ∧ U < w3.heap.size) := ⟨by omega, ht3.2.2⟩
  have N3 := Lib.hid (And.intro hb3 ht3)
  clear hU hb3 ht3
  go_wp2_with fail
  refine (new_1 w3).mono ?_
  rintro x w4 ⟨rfl, hb4, hm4⟩
  obtain ⟨F, hF⟩ : ∃ F, F = w3.heap.size := ⟨_, rfl⟩
  rw [← hF] at hm4 ⊢
  obtain ⟨M, hM⟩ : ∃ M, M = F + 1 := ⟨_, rfl⟩
  rw [← hM] at hm4 ⊢
  have tM : Hid (w3.heap.size ≤ F ∧ F < M) := ⟨by omega, by omega⟩
  have N4 := Lib.hid (And.intro hb4 hm4)
  clear hM hF hb4 hm4
  have S4 : Hid (Side w w4 [userT T U M F 1 (fun _ => 0) (fun _ => 0) (fun _ => 0)]) := by
    obtain ⟨hb2, hn2⟩ := N2.out
    obtain ⟨hb3, ht3⟩ := N3.out
    obtain ⟨hb4, hm4⟩ := N4.out
    have l1 := tT.out
    have l2 := tU.out
    have l3 := tM.out
    have s1 := hb2.size
    have s2 := hb3.size
    refine Side.make (l := []) B1.out (bl_trans (bl_trans hb2 hb3) hb4) _ ⟨(hn2.later hb3).later hb4, ht3.later hb4, hm4, by omega, by omega, by omega, by omega, by omega⟩ fun i hi => ?_
    rcases hi with rfl | rfl | rfl | rfl <;> omega
  clear N2 N3 N4 tT tU tM B1
  go_wp2_with fail
  refine (side_kref S4.out).mono ?_
  rintro x w5 ⟨K, rfl, h5⟩
  have S5 := Lib.hid h5
  clear h5 S4
  go_wp2_with fail
  refine (tins_ok _ U 0 0 0 3 (fun _ => 0) (by decide) (by decide) (Side.at [kerT K (newK 1 1 1)] S5.out).2.1 rfl).mono ?_
  rintro x w6 ⟨rfl, h1, h2⟩
  have S6 := Lib.hid (side_uU [kerT K (newK 1 1 1)] S5.out h1 h2)
  clear h1 h2 S5
  go_wp2_with fail
  obtain ⟨s, hs⟩ : ∃ s, s = IntKind.u64.wrap (v + y) := ⟨_, rfl⟩
  have HS : Hid (w64 s) := by
    show 0 ≤ s ∧ s < 18446744073709551616
    rw [hs]
    exact u64_in (v + y)
  rw [← hs]
  clear hs
  obtain ⟨B, hB⟩ : ∃ B, B = w6.heap.size := ⟨_, rfl⟩
  have S7 : Hid (Side w (w6.alloc (.cells (kcV v y s x0) 81)) [fixT B (.cells (kcV v y s x0) 81), kerT K (newK 1 1 1), userT T U M F 1 (fun _ => 0) (putG (fun _ => 0) 0 0 0 3) (fun _ => 0)]) := hB ▸ S6.out.box (.cells (kcV v y s x0) 81)
  rw [← hB]
  clear hB S6
  have TO : Hid (TabOk (putG (fun _ => 0) 0 0 0 3)) := tab_ok_put tab_ok_new (by decide)
  have P0 : Hid ((putG (fun _ => 0) 0 0 0 3) (0 * 3) = 0) := rfl
  have P2 : Hid ((putG (fun _ => 0) 0 0 0 3) (0 * 3 + 2) = 3) := rfl
  go_loopw [46] (fun iv W => ∃ (i : Nat) (g mg : Nat → Int) (k : KernS), iv = .int .i64 i ∧ i ≤ 8 ∧ BufG g ∧ mg 4 = k.mm 0 4 ∧ Side w W [fixT B (.cells (kcV v y s x0) 81), kerT K k, userT T U M F 1 g (putG (fun _ => 0) 0 0 0 3) mg]) (fun iv _ => (8 - intOf iv).toNat)
  case atStart => exact ⟨0, _, _, _, rfl, by decide, Or.inl rfl, rfl, S7.out⟩
  case round =>
    clear S7
    obtain ⟨i, g, mg, k, rfl, hi, hg, hm, h⟩ := hrel
    have HG := Lib.hid hg
    have HM := Lib.hid hm
    have S8 := Lib.hid h
    clear hg hm h
    have i0 : (0 : Int) ≤ (i : Int) := by omega
    by_cases hlt : i < 8
    · have i1 : (i : Int) < 8 := by omega
      obtain ⟨kd, a, b, hk, ha, hb, c0, c1, c2, c3, c4⟩ := kc_at HV.out HY.out HS.out HX.out hlt
      have kk := S8.out.1
      have q0 := (bk_cell kk (i * 5)).trans c0
      have q1 := (bk_cell kk (i * 5 + 1)).trans c1
      have q2 := (bk_cell kk (i * 5 + 2)).trans c2
      have q3 := (bk_cell kk (i * 5 + 3)).trans c3
      have q4 := (bk_cell kk (i * 5 + 4)).trans c4
      have lk := bk_lt kk
      clear kk c0 c1 c2 c3 c4
      have HKD := Lib.hid hk
      have HAB := Lib.hid (And.intro ha hb)
      have hkw : IntKind.i64.wrap kd = kd := by rcases hk with rfl | rfl | rfl | rfl <;> rfl
      clear ha hb hk
      go_wp2_with fail
      have S9 := Lib.hid (S8.out.box (.cells #[.int .u64 kd, .int .u64 0, .int .u64 4, .int .u64 a, .int .u64 b] 81))
      obtain ⟨C, hC⟩ : ∃ C, C = wr.heap.size := ⟨_, rfl⟩
      rw [← hC] at S9
      rw [← hC]
      clear hC S8 q0 q1 q2 q3 q4 lk
      obtain ⟨g', hg', hw⟩ := bufG_walk HG.out P0.out P2.out HKD.out
      have HW := Lib.hid hw
      have HG2 := Lib.hid hg'
      have WI : Hid (wordsIn kd 0 4 a b) := ⟨by have := HKD.out; omega, by decide, by decide, HAB.out.1, HAB.out.2⟩
      have D0 : Hid (doE 0 kd 0 4 a b = 0) := doE_ok (e := 0) (p := 0) (a := 4) (by decide) (by decide) (by decide) (by have := HKD.out; omega) a b
      clear hw hg'
      refine (side_udo HH.out [fixT C (.cells #[.int .u64 kd, .int .u64 0, .int .u64 4, .int .u64 a, .int .u64 b] 81), fixT B (.cells (kcV v y s x0) 81), kerT K k] S9.out (bufG_ok HG.out) TO.out WI.out D0.out HW.out (er := 0) (v := memV mg 1 0 4 kd) (mg' := memS mg 1 0 4 kd a b) rfl (by rw [if_pos rfl]; rfl) (by rw [if_pos rfl]; rfl)).mono ?_
      rintro x w9 ⟨rfl, h9⟩
      rw [(word_same HM.out a b HKD.out).1]
      obtain ⟨u, hu⟩ : ∃ u, u = wordT k 0 4 kd := ⟨_, rfl⟩
      rw [← hu]
      have S10 := Lib.hid ((h9.box (.cells #[.int .i64 0, .int .u64 u] 85)).boxAt (.cells #[.int .i64 0, .int .i64 0, .int .i64 0, .int .i64 3] 78) (w9.heap.size + 1) (by simp))
      have HU := Lib.hid hu
      clear h9 S9 hu
      go_wp2_with fail
      obtain ⟨W, hW⟩ : ∃ W, W = (w9.alloc (.cells #[.int .i64 0, .int .u64 u] 85)).alloc (.cells #[.int .i64 0, .int .i64 0, .int .i64 0, .int .i64 3] 78) := ⟨_, rfl⟩
      rw [← hW] at S10
      rw [← hW]
      clear hW
      obtain ⟨A, hA⟩ : ∃ A, A = w9.heap.size := ⟨_, rfl⟩
      rw [← hA] at S10
      rw [← hA]
      clear hA
      have SC := Lib.hid (S10.out.under (dn (Below.refl _ _) 1))
      clear S10
      have hS : W.drew.cell? ⟨A, 0, none⟩ = some (.int .i64 0) ∧ W.drew.cell? ⟨A, 1, none⟩ = some (.int .u64 u) ∧ W.drew.cell? ⟨A + 1, 3, none⟩ = some (.int .i64 3) ∧ W.drew.cell? ⟨C, 0, none⟩ = some (.int .u64 kd) ∧ W.drew.cell? ⟨C, 1, none⟩ = some (.int .u64 0) ∧ W.drew.cell? ⟨C, 2, none⟩ = some (.int .u64 4) ∧ W.drew.cell? ⟨C, 3, none⟩ = some (.int .u64 a) ∧ W.drew.cell? ⟨C, 4, none⟩ = some (.int .u64 b) := ⟨bk_cell SC.out.2.2.2.1 0, bk_cell SC.out.2.2.2.1 1, bk_cell SC.out.1 3, bk_cell SC.out.2.2.2.2.2.2.1 0, bk_cell SC.out.2.2.2.2.2.2.1 1, bk_cell SC.out.2.2.2.2.2.2.1 2, bk_cell SC.out.2.2.2.2.2.2.1 3, bk_cell SC.out.2.2.2.2.2.2.1 4⟩
      go_region_held3 (fun w' => w'.cell? ⟨A, 0, none⟩ = some (.int .i64 0) ∧ w'.cell? ⟨A, 1, none⟩ = some (.int .u64 u) ∧ w'.cell? ⟨A + 1, 3, none⟩ = some (.int .i64 3) ∧ w'.cell? ⟨C, 0, none⟩ = some (.int .u64 kd) ∧ w'.cell? ⟨C, 1, none⟩ = some (.int .u64 0) ∧ w'.cell? ⟨C, 2, none⟩ = some (.int .u64 4) ∧ w'.cell? ⟨C, 3, none⟩ = some (.int .u64 a) ∧ w'.cell? ⟨C, 4, none⟩ = some (.int .u64 b)) (exact hS) (first | (go_at_call 47; refine (side_kword (l1 := [_, _, _, _]) kd kd 0 a b SC.out).mono ?_; rintro e1 wn ⟨rfl, hd⟩; rw [← HU.out]; have SD := Lib.hid hd; clear hd; have hS : wn.cell? ⟨A, 0, none⟩ = some (.int .i64 0) ∧ wn.cell? ⟨A, 1, none⟩ = some (.int .u64 u) ∧ wn.cell? ⟨A + 1, 3, none⟩ = some (.int .i64 3) ∧ wn.cell? ⟨C, 0, none⟩ = some (.int .u64 kd) ∧ wn.cell? ⟨C, 1, none⟩ = some (.int .u64 0) ∧ wn.cell? ⟨C, 2, none⟩ = some (.int .u64 4) ∧ wn.cell? ⟨C, 3, none⟩ = some (.int .u64 a) ∧ wn.cell? ⟨C, 4, none⟩ = some (.int .u64 b) := ⟨bk_cell SD.out.2.2.2.1 0, bk_cell SD.out.2.2.2.1 1, bk_cell SD.out.1 3, bk_cell SD.out.2.2.2.2.2.2.1 0, bk_cell SD.out.2.2.2.2.2.2.1 1, bk_cell SD.out.2.2.2.2.2.2.1 2, bk_cell SD.out.2.2.2.2.2.2.1 3, bk_cell SD.out.2.2.2.2.2.2.1 4⟩))
      all_goals
        go_wp2_with fail
        go_roundw
        case rel => exact ⟨i + 1, g', _, _, by go_num, by omega, HG2.out, (word_same HM.out a b HKD.out).2, SD.out.2.2.2.2.2.2.2.2.2⟩
        case measure => simp [intOf]; omega
    · have i1 : ¬ (i : Int) < 8 := by omega
      go_wp2_with fail
      go_ret
      exact ⟨rfl, S8.out.below⟩
end Go.Proofs.YtmifcfkchnilmaaGreatDoor

