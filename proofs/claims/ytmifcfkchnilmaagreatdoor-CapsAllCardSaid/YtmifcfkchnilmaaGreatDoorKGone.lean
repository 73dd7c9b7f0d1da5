/- What is proved here: the statements' own gone (of messuagelaw11), over the document's kernel: what it tells and leaves is what a tree's Revoke and Drop tell and leave. Conditions: the kernel lies in the block that is named, its parents are places. -/
import Derived.Test.YtmifcfkchnilmaaGreatDoorGTree
import Derived.Test.YtmifcfkchnilmaaGreatDoorGKerE
import Derived.RegionTactic
import Derived.WalkArith
import Derived.Deep.QuietTactic
import Derived.BigQuiet
namespace Go.Proofs.YtmifcfkchnilmaaGreatDoor
open Go.RowKit Go.Extern.Stop Go.Stop Go.Extern Go.WalkArith
def goB (k : KernS) (q : Nat) (it : Bool) (p : Nat) : Bool := (it && decide (p = q)) || fromB k q 32 p
def goP (k : KernS) (q : Nat) (it : Bool) (n : Nat) : List Nat := (List.range n).filter (goB k q it)
theorem goP_yes {k : KernS} {q n : Nat} {it : Bool} (h : goB k q it n = true) : goP k q it (n + 1) = goP k q it n ++ [n] := by
  unfold goP
  rw [List.range_succ, List.filter_append]
  simp [h]
theorem goP_no {k : KernS} {q n : Nat} {it : Bool} (h : goB k q it n = false) : goP k q it (n + 1) = goP k q it n := by
  unfold goP
  rw [List.range_succ, List.filter_append]
  simp [h]
theorem goP_le (k : KernS) (q : Nat) (it : Bool) (n : Nat) : (goP k q it n).length ≤ n := by
  have h := List.length_filter_le (goB k q it) (List.range n)
  simpa [goP] using h
theorem goP_lt {k : KernS} {q : Nat} {it : Bool} {n j : Nat} (h : j ∈ goP k q it n) : j < n := by
  unfold goP at h
  exact List.mem_range.1 (List.mem_filter.1 h).1
def inV (k : KernS) (q : Nat) (it : Bool) (p i : Nat) : Bool := (it && decide (p = q)) || decide (p ∈ (belowL k q 32).take i)
theorem inV_zero (k : KernS) (q : Nat) (it : Bool) (p : Nat) : inV k q it p 0 = (it && decide (p = q)) := by simp [inV]
theorem inV_end {k : KernS} {q : Nat} {it : Bool} {p i : Nat} (hp : p < 32) (hi : i = (belowL k q 32).length) : inV k q it p i = goB k q it p := by
  unfold inV goB
  rw [hi, List.take_length]
  congr 1
  unfold belowL
  rw [Bool.eq_iff_iff, decide_eq_true_iff, List.mem_filter, List.mem_range]
  exact ⟨fun h => h.2, fun h => ⟨hp, h⟩⟩
theorem inV_on {k : KernS} {q : Nat} {it : Bool} {p i : Nat} (h : inV k q it p i = true) : inV k q it p (i + 1) = true := by
  unfold inV at h ⊢
  rw [Bool.or_eq_true] at h ⊢
  refine h.imp id fun h => ?_
  exact decide_eq_true ((List.take_subset_take_left _ (Nat.le_succ i)) (of_decide_eq_true h))
theorem inV_step {k : KernS} {q : Nat} {it : Bool} {p i : Nat} (hi : i < (belowL k q 32).length) (h : inV k q it p i = false) : inV k q it p (i + 1) = decide ((belowL k q 32).getD i 0 = p) := by
  unfold inV at h ⊢
  rw [Bool.or_eq_false_iff] at h
  rw [h.1, Bool.false_or, List.take_succ_eq_append_getElem hi, Bool.eq_iff_iff, decide_eq_true_iff, decide_eq_true_iff, List.mem_append, List.mem_singleton]
  have h2 : ¬ p ∈ (belowL k q 32).take i := of_decide_eq_false h.2
  simp only [List.getD_eq_getElem?_getD, List.getElem?_eq_getElem hi, Option.getD_some]
  exact ⟨fun h => (h.resolve_left h2).symm, fun h => Or.inr h.symm⟩
theorem below_32 (k : KernS) (q i : Nat) (hi : i < (belowL k q 32).length) : (belowL k q 32).getD i 0 < 32 := by
  simp only [List.getD_eq_getElem?_getD, List.getElem?_eq_getElem hi, Option.getD_some]
  have h := List.getElem_mem hi
  unfold belowL at h
  exact List.mem_range.1 (List.mem_filter.1 h).1
theorem placesG_at : ∀ (l : List Nat) (j : Nat), j < l.length → (placesV l)[j * 2]? = some (.int .i64 ((l.getD j 0 / 8 : Nat) : Int)) ∧ (placesV l)[j * 2 + 1]? = some (.int .i64 ((l.getD j 0 % 8 : Nat) : Int))
  | [], _, h => absurd h (Nat.not_lt_zero _)
  | _ :: _, 0, _ => ⟨rfl, rfl⟩
  | x :: l, j + 1, h => by
    have h2 := placesG_at l j (by simpa using h)
    have e : placesV (x :: l) = [Value.int .i64 ((x / 8 : Nat) : Int), Value.int .i64 ((x % 8 : Nat) : Int)] ++ placesV l := rfl
    rw [e, show (j + 1) * 2 = j * 2 + 2 by omega, show j * 2 + 2 + 1 = (j * 2 + 1) + 2 by omega]
    exact h2
theorem own_slice_off {w w' : World} {base n size : Nat} {e : TypeId} {v : Value} {xs : List Value} (h : w.ownsRow base e size v n xs) (hs : w.heap.size ≤ w'.heap.size) (hb : ∀ g, base ≤ g → g < w.heap.size → w'.heap[g]? = w.heap[g]?) : SliceIs w' v n xs := by
  obtain ⟨h1, ⟨rfl, h2⟩ | ⟨g, cap, cur, rfl, h3, h4, h5, h6, h7, h8⟩⟩ := h
  · subst h2
    exact ⟨none, 0, 0, rfl, fun h => absurd h (Nat.lt_irrefl 0)⟩
  · refine ⟨_, cap, g, rfl, fun _ => ⟨rfl, Nat.lt_of_lt_of_le (bk_lt h4) hs, fun i x hx => ?_⟩⟩
    rw [← h8, List.getElem?_take] at hx
    split at hx
    · rw [bk_cell ((hb g h3 (bk_lt h4)).trans h4)]
      simpa using hx
    · exact absurd hx (by simp)
set_option maxRecDepth 100000 in
set_option maxHeartbeats 8000000 in
theorem kgone_any (K : Nat) (k : KernS) (hk : Sound k) (e1 s1 : Nat) (he1 : e1 < 4) (hs1 : s1 < 8) (it : Bool) (w : World) (h : KernIs w K k) :
    Calls Tryz.prog 24 #[.pointer (some ⟨K, 0, none⟩), .agg #[.int .i64 (e1 : Int), .int .i64 (s1 : Int)], .bool it] w fun x w' => ∃ v, x = .returned v ∧ SliceIs w' v (goneL k (e1 * 8 + s1) it).length (placesV (goneL k (e1 * 8 + s1) it)) ∧ KernIs w' K (goneF k (goneL k (e1 * 8 + s1) it)) ∧ OnlyT K w w' := by
  obtain ⟨i0, hi, hz0, hz1, hz2⟩ := info_parts Tryz.placeInfo
  obtain ⟨q, hq⟩ : ∃ q, q = e1 * 8 + s1 := ⟨_, rfl⟩
  rw [← hq]
  have HQ8 := Lib.hid hq
  clear hq
  have HS := Lib.hid hk
  have H := Lib.hid h
  clear h hk
  go_enter Tryz.func24, Tryz.ntmps24
  go_wp2_with fail
  obtain ⟨w1, hw1⟩ : ∃ w1, w1 = w.alloc (.cells #[.int .i64 (e1 : Int), .int .i64 (s1 : Int)] 33) := ⟨_, rfl⟩
  obtain ⟨Q, hQ⟩ : ∃ Q, Q = w.heap.size := ⟨_, rfl⟩
  have Q1 : Hid (w1.heap[Q]? = some (.cells #[.int .i64 (e1 : Int), .int .i64 (s1 : Int)] 33 (0, 0))) := by rw [hw1, hQ]; exact heap_alloc_new w _
  have B1 : Hid (Below w.heap.size w w1) := by rw [hw1]; exact (Below.refl _ _).alloc (Nat.le_refl _) _
  rw [← hw1, ← hQ]
  clear hw1 hQ
  have K1 := Lib.hid (H.out.later B1.out)
  refine (kref_below K k HS.out e1 s1 he1 hs1 w1 K1.out).mono ?_
  rintro x w2 ⟨bv, rfl, ho, hb⟩
  have BS := Lib.hid (own_slice ho)
  have B2 := Lib.hid (bl_trans B1.out hb)
  have Q2 := Lib.hid (bk_below Q1.out hb)
  have K2 := Lib.hid (K1.out.later hb)
  clear ho hb Q1 K1 B1 H
  rw [← HQ8.out] at BS
  have hX := placesG_at (belowL k q 32)
  have h32 := below_32 k q
  have hEnd := fun (p i : Nat) (hp : p < 32) (hi : i = (belowL k q 32).length) => inV_end (k := k) (q := q) (it := it) hp hi
  have hStep := fun (p i : Nat) (hi : i < (belowL k q 32).length) (h : inV k q it p i = false) => inV_step (k := k) (q := q) (it := it) (p := p) hi h
  have hn32 := belowL_le k q 32
  have BS2 := BS.out
  clear BS
  generalize belowL k q 32 = BL at BS2 hX h32 hEnd hStep hn32
  obtain ⟨n, hn⟩ : ∃ n, n = BL.length := ⟨_, rfl⟩
  rw [← hn] at BS2 hX h32 hEnd hStep hn32
  obtain ⟨bo, bcap, bg, rfl, hbv⟩ := BS2
  have VB := Lib.hid hbv
  have HX := Lib.hid hX
  have H32 := Lib.hid h32
  have HEnd := Lib.hid hEnd
  have HStep := Lib.hid hStep
  clear hbv hX h32 hEnd hStep hn
  have hQ2 : Q < w2.heap.size := bk_lt Q2.out
  have hK2 : K < w2.heap.size := K2.out.lt
  go_wp2_with fail
  go_loopw [7, 9] (fun lv ev W => ∃ e : Nat, e ≤ 4 ∧ ev = .int .i64 e ∧ W.ownsRow w2.heap.size 33 2 lv (goP k q it (e * 8)).length (placesV (goP k q it (e * 8))) ∧ Below w2.heap.size w2 W) (fun _ ev _ => (4 - intOf ev).toNat)
  case atStart => exact ⟨0, by omega, rfl, World.ownsRow_nil _ _ _ _, Below.refl _ _⟩
  case round =>
    obtain ⟨e, he, rfl, hown, hb⟩ := hrel
    have HO := Lib.hid hown
    have HB := Lib.hid hb
    clear hown hb
    by_cases h1 : e < 4
    · have e1' : (e : Int) < 4 := by omega
      have e0' : (0 : Int) ≤ (e : Int) := by omega
      go_wp2_with fail
      go_loopw [7, 10] (fun lv sv W => ∃ s : Nat, s ≤ 8 ∧ sv = .int .i64 s ∧ W.ownsRow w2.heap.size 33 2 lv (goP k q it (e * 8 + s)).length (placesV (goP k q it (e * 8 + s))) ∧ Below w2.heap.size w2 W) (fun _ sv _ => (8 - intOf sv).toNat)
      case atStart => exact ⟨0, by omega, rfl, HO.out, HB.out⟩
      case round =>
        clear HO HB
        obtain ⟨s, hs, rfl, hown, hb⟩ := hrel
        have HO := Lib.hid hown
        have HB := Lib.hid hb
        clear hown hb
        by_cases h2 : s < 8
        · have s1' : (s : Int) < 8 := by omega
          have s0' : (0 : Int) ≤ (s : Int) := by omega
          have q0 := (HB.out.cell (p := ⟨Q, 0, none⟩) hQ2).trans (bk_cell Q2.out 0)
          have q1 := (HB.out.cell (p := ⟨Q, 1, none⟩) hQ2).trans (bk_cell Q2.out 1)
          have lQ : Q < wr.heap.size := Nat.lt_of_lt_of_le hQ2 HB.out.size
          go_upto_region 10 with (fail)
          obtain ⟨P, hP⟩ : ∃ P, P = wr.heap.size := ⟨_, rfl⟩
          obtain ⟨w4, hw4⟩ : ∃ w4, w4 = wr.alloc (.cells #[.int .i64 (e : Int), .int .i64 (s : Int)] 33) := ⟨_, rfl⟩
          have hbw : Below wr.heap.size wr w4 := by rw [hw4]; exact (Below.refl _ _).alloc (Nat.le_refl _) _
          have P4 : Hid (w4.heap[P]? = some (.cells #[.int .i64 (e : Int), .int .i64 (s : Int)] 33 (0, 0))) := by rw [hw4, hP]; exact heap_alloc_new wr _
          have O4 := Lib.hid (own_later HO.out hbw)
          have B4 := Lib.hid (bl_trans HB.out hbw)
          rw [← hw4, ← hP]
          clear hw4 hP hbw HO HB q0 q1 lQ
          have q0 := (B4.out.cell (p := ⟨Q, 0, none⟩) hQ2).trans (bk_cell Q2.out 0)
          have q1 := (B4.out.cell (p := ⟨Q, 1, none⟩) hQ2).trans (bk_cell Q2.out 1)
          have lQ : Q < w4.heap.size := Nat.lt_of_lt_of_le hQ2 B4.out.size
          have p0 := bk_cell P4.out 0
          have p1 := bk_cell P4.out 1
          have lP := bk_lt P4.out
          go_cut [12] (fun bv W => bv = .bool (it && decide (e * 8 + s = q)) ∧ Below w4.heap.size w4 W)
          case first =>
            cases it
            · go_wp2_with fail
              go_meet
              case rel => exact ⟨rfl, Below.refl _ _⟩
            · by_cases c2 : e = e1
              · subst c2
                by_cases c3 : s = s1
                · subst c3
                  have hd : (decide (e * 8 + s = q)) = true := decide_eq_true HQ8.out.symm
                  go_wp2_with fail
                  go_meet
                  case rel => exact ⟨by rw [hd]; rfl, Below.refl _ _⟩
                · have n3 : ¬ (s : Int) = (s1 : Int) := by omega
                  have hd : (decide (e * 8 + s = q)) = false := decide_eq_false (by rw [HQ8.out]; omega)
                  go_wp2_with fail
                  go_meet
                  case rel => exact ⟨by rw [hd]; rfl, Below.refl _ _⟩
              · have n2 : ¬ (e : Int) = (e1 : Int) := by omega
                have hd : (decide (e * 8 + s = q)) = false := decide_eq_false (by rw [HQ8.out]; omega)
                go_wp2_with fail
                go_meet
                case rel => exact ⟨by rw [hd]; rfl, Below.refl _ _⟩
          case rest =>
            clear q0 q1 lQ p0 p1 lP
            obtain ⟨rfl, hb⟩ := hcut
            have P5 := Lib.hid (bk_below P4.out hb)
            have O5 := Lib.hid (own_later O4.out hb)
            have B5 := Lib.hid (bl_trans B4.out hb)
            clear hb P4 O4 B4
            go_wp2_with fail
            go_loopw [12, 36] (fun bv iv W => ∃ i : Nat, i ≤ n ∧ iv = .int .i64 i ∧ bv = .bool (inV k q it (e * 8 + s) i) ∧ Below wc.heap.size wc W) (fun _ iv _ => (n - intOf iv).toNat)
            case atStart => exact ⟨0, by omega, rfl, by rw [inV_zero], Below.refl _ _⟩
            case round =>
              obtain ⟨i, hin, rfl, rfl, hb⟩ := hrel
              have HB6 := Lib.hid hb
              clear hb
              have ii0 : (0 : Int) ≤ (i : Int) := by omega
              by_cases h3 : i < n
              · have ii1 : (i : Int) < (n : Int) := by omega
                obtain ⟨rfl, lb, d1⟩ := VB.out (by omega)
                have hbb := bl_trans B5.out HB6.out
                have c0 := (hbb.cell (p := ⟨bg, i * 2, none⟩) lb).trans (d1 _ _ (HX.out i h3).1)
                have c1 := (hbb.cell (p := ⟨bg, i * 2 + 1, none⟩) lb).trans (d1 _ _ (HX.out i h3).2)
                have P6 := bk_below P5.out HB6.out
                have p0 := bk_cell P6 0
                have p1 := bk_cell P6 1
                have lP := bk_lt P6
                clear d1 hbb P6
                have hx32 := H32.out i h3
                have hst := fun h => HStep.out (e * 8 + s) i h3 h
                cases hv : inV k q it (e * 8 + s) i
                · have hst2 := hst hv
                  clear hst hv
                  generalize BL.getD i 0 = x at c0 c1 hx32 hst2
                  by_cases hx : x = e * 8 + s
                  · subst hx
                    rw [show (e * 8 + s) / 8 = e by omega] at c0
                    rw [show (e * 8 + s) % 8 = s by omega] at c1
                    have HT : Hid (inV k q it (e * 8 + s) (i + 1) = true) := hst2.trans (decide_eq_true rfl)
                    clear hst2
                    go_wp2_with fail
                    go_quiet (fail)
                    go_wp2_with fail
                    go_roundw
                    case rel => exact ⟨i + 1, by omega, by go_num, by rw [HT.out], dn HB6.out _⟩
                    case measure => simp [intOf]; omega
                  · have HT : Hid (inV k q it (e * 8 + s) (i + 1) = false) := hst2.trans (decide_eq_false hx)
                    clear hst2
                    by_cases hx8 : x / 8 = e
                    · have n8 : ¬ x % 8 = s := by omega
                      rw [hx8] at c0
                      have n9 : ¬ ((x % 8 : Nat) : Int) = (s : Int) := by omega
                      generalize ((x % 8 : Nat) : Int) = z at c1 n9
                      clear hx hx8 n8 hx32
                      go_wp2_with fail
                      go_quiet (fail)
                      go_wp2_with fail
                      go_roundw
                      case rel => exact ⟨i + 1, by omega, by go_num, by rw [HT.out], dn HB6.out _⟩
                      case measure => simp [intOf]; omega
                    · have n9 : ¬ ((x / 8 : Nat) : Int) = (e : Int) := by omega
                      generalize ((x / 8 : Nat) : Int) = z at c0 n9
                      generalize ((x % 8 : Nat) : Int) = z2 at c1
                      clear hx hx8 hx32
                      go_wp2_with fail
                      go_quiet (fail)
                      go_wp2_with fail
                      go_roundw
                      case rel => exact ⟨i + 1, by omega, by go_num, by rw [HT.out], dn HB6.out _⟩
                      case measure => simp [intOf]; omega
                · have HT := Lib.hid (inV_on hv)
                  clear hst hv hx32
                  generalize ((BL.getD i 0 / 8 : Nat) : Int) = z at c0
                  generalize ((BL.getD i 0 % 8 : Nat) : Int) = z2 at c1
                  go_wp2_with fail
                  go_quiet (fail)
                  go_wp2_with fail
                  go_roundw
                  case rel => exact ⟨i + 1, by omega, by go_num, by rw [HT.out], dn HB6.out _⟩
                  case measure => simp [intOf]; omega
              · have ii1 : ¬ (i : Int) < (n : Int) := by omega
                have he8 : e * 8 + s < 32 := by omega
                have hv := HEnd.out (e * 8 + s) i he8 (by omega)
                have P7 := Lib.hid (bk_below P5.out HB6.out)
                have O7 := Lib.hid (own_later O5.out HB6.out)
                have B7 := Lib.hid (bl_trans B5.out HB6.out)
                rw [hv]
                clear hv P5 O5 B5 HB6
                have p0 := bk_cell P7.out 0
                have p1 := bk_cell P7.out 1
                have lP := bk_lt P7.out
                have hle := goP_le k q it (e * 8 + s)
                have hsz := B7.out.size
                cases hg : goB k q it (e * 8 + s)
                · have HN := Lib.hid (goP_no hg)
                  clear hg
                  go_wp2_with fail
                  go_roundw
                  case rel => exact ⟨s + 1, by omega, by go_num, by rw [show e * 8 + (s + 1) = e * 8 + s + 1 by omega, HN.out]; exact O7.out, B7.out⟩
                  case measure => simp [intOf]; omega
                · have HN := Lib.hid (goP_yes hg)
                  clear hg
                  go_wp2_with (refine wpList_append_own (o := ⟨some 53, _, _, _, _, _⟩) _ rfl (.tmp 50) (.tmp 52) 54 rfl w2.heap.size 33 i0 (.agg #[.int .i64 0, .int .i64 0]) 2 16 Tryz.underlying54 hi hz0 hz1 hz2 rfl (by decide) _ _ _ rfl (O7.out.alloc _) ⟨wr.heap.size, 0, none⟩ 1 1 [.int .i64 (e : Int), .int .i64 (s : Int)] rfl rfl (pair_at _ _ _ _) (two_cell _ _) (by unfold maxLen; omega) (by omega) (by simp; omega) ?_)
                  intro v' w8 hown hgrow _
                  have B8 := Lib.hid (own_grow B7.out hgrow O7.out)
                  have O8 := Lib.hid hown
                  clear hown hgrow p0 p1
                  go_wp2_with fail
                  go_roundw
                  case rel => exact ⟨s + 1, by omega, by go_num, by rw [show e * 8 + (s + 1) = e * 8 + s + 1 by omega, HN.out, List.length_append, placesV_snoc _ h2]; exact O8.out, B8.out⟩
                  case measure => simp [intOf]; omega
        · obtain rfl : s = 8 := by omega
          go_wp2_with fail
          go_roundw
          case rel => exact ⟨e + 1, by omega, by go_num, by rw [show (e + 1) * 8 = e * 8 + 8 by omega]; exact HO.out, HB.out⟩
          case measure => simp [intOf]; omega
    · obtain rfl : e = 4 := by omega
      have K3 := Lib.hid (K2.out.later HB.out)
      have hle := goP_le k q it (4 * 8)
      go_wp2_with fail
      refine (kref_gone K w2.heap.size k (goP k q it (4 * 8)) _ (fun j hj => goP_lt hj) (by omega) hK2 wr K3.out HO.out).mono ?_
      rintro x w5 ⟨rfl, hk5, ho5⟩
      have K5 := Lib.hid hk5
      have OT := Lib.hid ho5
      have SL := Lib.hid (own_slice_off HO.out ho5.size (fun g hg hl => ho5.block g hl (fun e => by injection e with e; omega)))
      have OW := Lib.hid (tp_step (tp_below (bl_trans B2.out HB.out)) ho5)
      clear hk5 ho5 K3
      go_wp2_with fail
      go_ret
      exact ⟨_, rfl, SL.out, K5.out, OW.out⟩
end Go.Proofs.YtmifcfkchnilmaaGreatDoor

