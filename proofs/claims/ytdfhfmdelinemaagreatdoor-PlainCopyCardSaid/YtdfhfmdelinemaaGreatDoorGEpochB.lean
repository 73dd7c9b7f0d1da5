/- What is proved here: package epoch keeps its chapter. Conditions: those that each theorem names. -/
import Derived.Test.YtdfhfmdelinemaaGreatDoorGEpoch
import Derived.Test.YtdfhfmdelinemaaGreatDoorGMail
import Derived.Deep.RegionLaw
import Derived.RegionTactic
import Derived.StillTailTactics
namespace Go.Proofs.YtdfhfmdelinemaaGreatDoor
open Go.RowKit Go.Extern.Stop Go.Stop Go.Extern Go.WalkArith
def begL (k : EpS) (c m j i : Nat) : List Nat := if i < j ∧ ¬ i = c then rowE k i ++ [m] else rowE k i
theorem begL_all (k : EpS) (c : Nat) (hh : ∀ j, k.hr j ≤ k.fr.length) (i : Nat) (hi : i < k.n) : begL k c (k.fr.length + 1) k.n i = rowE (k.begin_ c) i := by
 unfold begL rowE
 rw [rowL_begin k c i (hh i)]
 by_cases hc : i = c
 ·rw [if_neg (fun h => h.2 hc), if_pos hc]
 ·rw [if_pos ⟨hi, hc⟩, if_neg hc, List.map_append]
  rfl
theorem begL_step (k : EpS) (c m j : Nat) (hj : ¬ j = c) (i : Nat) : upRow (begL k c m j) j (begL k c m j j ++ [m]) i = begL k c m (j + 1) i := by
 unfold upRow begL
 by_cases h : i = j
 ·subst h
  rw [if_pos rfl, if_neg (fun h => by omega), if_pos ⟨by omega, hj⟩]
 ·rw [if_neg h]
  by_cases h2 : i < j ∧ ¬ i = c
  ·rw [if_pos h2, if_pos ⟨by omega, h2.2⟩]
  ·rw [if_neg h2, if_neg (fun h3 => h2 ⟨by omega, h3.2⟩)]
theorem begL_skip (k : EpS) (c m : Nat) (i : Nat) : begL k c m c i = begL k c m (c + 1) i := by
 unfold begL
 by_cases h2 : i < c ∧ ¬ i = c
 ·rw [if_pos h2, if_pos ⟨by omega, h2.2⟩]
 ·rw [if_neg h2, if_neg (fun h3 => h2 ⟨by omega, h3.2⟩)]
theorem EpRows.congr {W : World} {P R n last : Nat} {vs : Nat → Value} {T : TypeId} {L L' : Nat → List Nat} (h : EpRows W P R vs n last T L) (he : ∀ i, i < n → L i = L' i) : EpRows W P R vs n last T L' := ⟨h.1, fun j hj => by rw [← he j hj]; exact h.2 j hj⟩
set_option maxRecDepth 100000 in
set_option maxHeartbeats 4000000 in
theorem ep_begin (P : Nat) (S : Nat → Prop) (k : EpS) (c : Nat) (w : World) (h : EpAt w S P k) (hc : c < k.n) (hl : k.fr.length < 1000) (h0 : ∀ j, k.hr j = 0) :
  Calls Tryz.prog 32 #[.pointer (some ⟨P, 0, none⟩), .int .i64 (c : Int)] w fun x w' => ∃ S', x = .returned (.tuple #[.int .u64 ((k.fr.length + 1 : Nat) : Int), .bool true]) ∧ EpAt w' S' P (k.begin_ c) ∧ (∀ i, S' i → S i ∨ w.heap.size ≤ i) ∧ Only S w w' := by
 obtain ⟨i0, hi0, hz0, hz1, hz2⟩ := info_parts Tryz.epInfo
 obtain ⟨R, vs, hb, _, hown, hhr, hS⟩ := h
 have HS := Lib.hid hS
 have HHR := Lib.hid hhr
 have HC := Lib.hid (ep_has P R k.n k.fr.length vs c hc w hb)
 have c0 := hb.last
 have c1 := hb.head
 have f0 := hb.fp 0
 have HR0 : Hid (EpRows w P R vs k.n k.fr.length 34 (begL k c (k.fr.length + 1) 0)) := ⟨hb, fun j hj => by
  have e1 : begL k c (k.fr.length + 1) 0 j = rowE k j := if_neg (fun h => by omega)
  rw [e1]
  exact hown h0 j hj⟩
 have HL := Lib.hid hl
 have HK := Lib.hid (fun j => rowE_len k j)
 have HB : Hid (∀ i, i < k.n → begL k c (k.fr.length + 1) k.n i = rowE (k.begin_ c) i) := begL_all k c hhr
 have hn8 := hb.nn
 have hZ : Hid (∀ j, (k.begin_ c).hr j = 0) := h0
 obtain ⟨la, hla⟩ : ∃ la, la = k.fr.length := ⟨_, rfl⟩
 obtain ⟨n, hn⟩ : ∃ n, n = k.n := ⟨_, rfl⟩
 obtain ⟨m, hm⟩ : ∃ m : Nat, m = la + 1 := ⟨_, rfl⟩
 rw [← hla] at c0 HR0 HL HB ⊢
 rw [← hm] at HR0 HB ⊢
 rw [← hn] at hc c1 HR0 HB hn8
 have HN := Lib.hid (And.intro hn (And.intro hla hm))
 have hl2 := HL.out
 have q0 : (la : Int) + 1 = (m : Int) := by omega
 clear hb hown hhr hS h0 hl hla hn hm
 go_enter Tryz.func32, Tryz.ntmps32
 go_wp2_with (refine HC.out.mono ?_; rintro e w' ⟨rfl, rfl⟩)
 have HR1 := Lib.hid (HR0.out.up m)
 have HO1 : Hid (Only S w (w.setCell ⟨P, 0, none⟩ (.int .u64 (m : Nat)))) := ⟨rfl, rfl, rfl, by simp, fun i hi hn => ep_far (fun e => hn ((HS.out i).2 (Or.inl e)))⟩
 generalize w.setCell ⟨P, 0, none⟩ (.int .u64 (m : Nat)) = w1 at HR1 HO1 ⊢
 clear c0 c1 f0 HR0
 go_loopw [23] (fun cv W => ∃ (j : Nat) (vs' : Nat → Value), cv = .int .i64 j ∧ j ≤ n ∧ EpRows W P R vs' n m 34 (begL k c m j) ∧ Only S w W ∧ ∀ i, EpBlk P R vs' n i → S i ∨ w.heap.size ≤ i) (fun cv _ => (n - intOf cv).toNat)
 case atStart => exact ⟨0, vs, rfl, by omega, HR1.out, HO1.out, fun i hi => Or.inl ((HS.out i).2 (by rw [← HN.out.1]; exact hi))⟩
 case round =>
  clear HR1 HO1
  obtain ⟨j, vs', rfl, hjn, hr, ho, hs⟩ := hrel
  have HR := Lib.hid hr
  have HO := Lib.hid ho
  have HT := Lib.hid hs
  clear hr ho hs
  by_cases hlt : j < n
  ·have hin : (j : Int) < (n : Int) := by omega
   by_cases hjc : j = c
   ·subst hjc
    go_wp2_with fail
    go_roundw
    case rel => exact ⟨j + 1, vs', by go_num, by omega, HR.out.congr (fun i _ => begL_skip k j m i), HO.out, HT.out⟩
    case measure => simp [intOf]; omega
   ·have q1 : ((j : Int) == (c : Int)) = false := beq_eq_false_iff_ne.2 (by omega)
    have HJ := Lib.hid hjc
    clear hjc
    have c0 := HR.out.1.last
    have c1 := HR.out.1.head
    have c2 := HR.out.1.row j hlt
    have d0 := cell_alloc c0 (.cells #[.int .u64 (m : Int)] 34)
    have d1 := cell_alloc c1 (.cells #[.int .u64 (m : Int)] 34)
    have d2 := cell_alloc c2 (.cells #[.int .u64 (m : Int)] 34)
    have e1 : begL k c m j j = rowE k j := if_neg (fun h => by omega)
    have hle : (begL k c m j j).length ≤ 1000 := by rw [e1]; have := HL.out; have := HK.out j; have := HN.out.2.1; omega
    clear e1
    go_wp2_with fail
    go_region_law
     (first
      | (refine step_append_where _ (by rfl) (.tmp 40) (.tmp 45) 63 (by rfl) 0 34 i0 (.int .u64 0) 1 8 Tryz.underlying63 hi0 hz0 hz1 hz2 (by rfl) (by decide) (vs' j) (begL k c m j j).length (numsV (begL k c m j j)) (by rfl) (by exact (HR.out.2 j hlt).alloc _) _ 1 1 [.int .u64 (m : Int)] (by rfl) (by rfl) (one_word (heap_alloc_new _ _)) (by simp [Value.oneCell']) (by unfold maxLen; omega) (by omega) (Nat.zero_le _) ?_; intro v1 w3 hown hg hat; obtain ⟨g1, cap1, rfl⟩ := own_open hown (Nat.succ_pos _); obtain ⟨a1, a2, a3, a4⟩ := HR.out.more (o := .cells #[.int .u64 (m : Int)] 34) (x := m) (W3 := w3) hlt ⟨hg.os, hg.tape, hg.output, hg.size, hg.block⟩ hown hat; have x0 := a4.last; have x1 := a4.head; have x2 := a4.row j hlt; have x3 := a4.fr j; have A1 := Lib.hid (And.intro a1 (And.intro a2 a3)); clear a1 a2 a3 a4 hown hg hat))
    all_goals
     clear c0 c1 c2 d0 d1 d2 x0 x1 x2 x3
     go_wp2_with fail
     go_roundw
     case rel => exact ⟨j + 1, _, by go_num, by omega, A1.out.1.congr (fun i _ => begL_step k c m j HJ.out i), HO.out.chain A1.out.2.1 HT.out, fun i hi => (A1.out.2.2 i hi).elim (HT.out i) fun h => Or.inr (Nat.le_trans HO.out.2.2.2.1 h)⟩
     case measure => simp [intOf]; omega
  ·obtain rfl : n = j := by omega
   have hin : ¬ (n : Int) < (n : Int) := by omega
   have c0 := HR.out.1.last
   have HF : Hid (EpAt wr (EpBlk P R vs' n) P (k.begin_ c)) := by
    have e0 : (k.begin_ c).fr.length = m := by rw [HN.out.2.2, HN.out.2.1]; show (k.fr ++ [c]).length = _; simp
    have e2 := HR.out.congr fun i hi => HB.out i hi
    have en : (k.begin_ c).n = n := HN.out.1.symm
    refine ⟨R, vs', by rw [en, e0]; exact e2.1, fun i hi => own_erow (e2.2 i (by rw [← en]; exact hi)), fun _ i hi => e2.2 i (by rw [← en]; exact hi), fun i => by rw [hZ.out i]; exact Nat.zero_le _, fun i => by rw [en]⟩
   go_wp2_with fail
   go_ret2
   exact ⟨rfl, EpBlk P R vs' n, HF.out, HT.out, HO.out⟩
end Go.Proofs.YtdfhfmdelinemaaGreatDoor
namespace Go.Proofs.YtdfhfmdelinemaaGreatDoor
open Go.RowKit Go.Extern.Stop Go.Stop Go.Extern Go.WalkArith
theorem own_foot {W W' : World} {T : TypeId} {v : Value} {m : Nat} {xs : List Value} (h : W.ownsRow 0 T 1 v m xs) (hb : ∀ g, v.ownBlock = some g → W'.heap[g]? = W.heap[g]?) : W'.ownsRow 0 T 1 v m xs := by
 obtain ⟨h1, h2 | ⟨g, cap, cur, rfl, a1, a2, a3⟩⟩ := h
 ·exact ⟨h1, .inl h2⟩
 ·exact ⟨h1, .inr ⟨g, cap, cur, rfl, a1, (hb g rfl).trans a2, a3⟩⟩
theorem ep_foot {W W' : World} {S : Nat → Prop} {P : Nat} {k : EpS} : EpAt W S P k → W.heap.size ≤ W'.heap.size → (∀ i, S i → W'.heap[i]? = W.heap[i]?) → EpAt W' S P k := fun ⟨R, vs, hb, hr, ho, hh, hS⟩ hs hk =>
 ⟨R, vs, hb.foot hs fun i hi => hk i ((hS i).2 hi), fun j hj => (hr j hj).foot hs fun g hg => hk g ((hS g).2 (Or.inr (Or.inr ⟨j, hj, hg⟩))), fun h0 j hj => own_foot (ho h0 j hj) fun g hg => hk g ((hS g).2 (Or.inr (Or.inr ⟨j, hj, hg⟩))), hh, hS⟩
theorem addr_block (a : Addr) (m : Nat) : (a.add m).block = a.block := by
 unfold Addr.add
 split <;> rfl
theorem ep_acked {W : World} {S : Nat → Prop} {P R c x m cap : Nat} {vs : Nat → Value} {k : EpS} {ao ao2 : Option Addr} (hb : EpBase W P R vs k.n k.fr.length) (hrow : ∀ j, j < k.n → ERow W (vs j) (rowE k j)) (hh : ∀ j, k.hr j ≤ k.fr.length) (hS : ∀ i, S i ↔ EpBlk P R vs k.n i) (hc : c < k.n) (h1 : 1 ≤ x) (hx : x ≤ k.fr.length)
  (hv : vs c = .slice ao (rowE k c).length cap) (hq : CutAt (rowL k c) x m) (ha : ao2 = ao.map (fun a => a.add m) ∨ (cap = m ∧ ao2 = ao)) :
  EpAt (W.setCell ⟨R, c, none⟩ (.slice ao2 ((rowE k c).length - m) (cap - m))) S P (k.ack c x) ∧ Only S W (W.setCell ⟨R, c, none⟩ (.slice ao2 ((rowE k c).length - m) (cap - m))) := by
 have hml : m ≤ (rowE k c).length := by unfold rowE; rw [List.length_map]; exact hq.1
 have hown : (Value.slice ao2 ((rowE k c).length - m) (cap - m)).ownBlock = (vs c).ownBlock := by
  rw [hv]
  rcases ha with rfl | ⟨_, rfl⟩
  ·cases ao with
   | none => rfl
   | some a => exact congrArg some (addr_block a m)
  ·cases ao2 <;> rfl
 have hput := hb.put hc (v := .slice ao2 ((rowE k c).length - m) (cap - m)) fun g hg => by
  rw [hown] at hg
  exact ⟨⟨(hb.off c hc g hg).2.2, (hb.off c hc g hg).1, (hb.off c hc g hg).2.1⟩, fun i hi hne e => hb.apart i c hi hc hne g e hg⟩
 have hrows : ∀ j, rowE (k.ack c x) j = if j = c then (rowE k c).drop m else rowE k j := fun j => by
  unfold rowE
  rw [rowL_ack k c x m (hh c) hq j]
  split
  ·rw [List.map_drop]
  ·rfl
 have hblk : ∀ i, EpBlk P R (upHead vs c (.slice ao2 ((rowE k c).length - m) (cap - m))) k.n i ↔ EpBlk P R vs k.n i := fun i => by
  have e : ∀ j, (upHead vs c (.slice ao2 ((rowE k c).length - m) (cap - m)) j).ownBlock = (vs j).ownBlock := fun j => by
   unfold upHead
   by_cases hj : j = c
   ·rw [if_pos hj, hown, hj]
   ·rw [if_neg hj]
  unfold EpBlk
  exact or_congr Iff.rfl (or_congr Iff.rfl (exists_congr fun j => by rw [e j]))
 refine ⟨⟨R, _, hput, fun j hj => ?_, fun h0 => absurd (h0 c) ?_, fun j => ?_, fun i => (hS i).trans (hblk i).symm⟩, rfl, rfl, rfl, by simp, fun i hi hn => ep_far fun e => hn ((hS i).2 (Or.inr (Or.inl e)))⟩
 ·rw [hrows j]
  have hfar : ∀ v l, ERow W v l → v.ownBlock ≠ some R → ERow (W.setCell ⟨R, c, none⟩ (.slice ao2 ((rowE k c).length - m) (cap - m))) v l := fun v l h hn => h.foot (by simp) fun g hg => ep_far fun e => hn (e ▸ hg)
  unfold upHead
  by_cases hjc : j = c
  ·rw [if_pos hjc, if_pos hjc]
   refine hfar _ _ ?_ (by rw [hown]; exact fun e => (hb.off c hc R e).2.1 rfl)
   obtain ⟨ao', cap', b, o, hv', h2, _, h4, h5⟩ := (hrow c hc).drop hml
   rw [hv] at hv'
   injection hv' with e1 e2 e3
   subst e1 e3
   refine h5 ao2 fun hlt => ?_
   rcases ha with rfl | ⟨hcm, _⟩
   ·rw [h4 (by omega), Option.map_some, add_at]
   ·omega
  ·rw [if_neg hjc, if_neg hjc]
   exact hfar _ _ (hrow j hj) fun e => (hb.off j hj R e).2.1 rfl
 ·have e : (k.ack c x).hr c = max (k.hr c) x := if_pos rfl
  rw [e]
  omega
 ·show (if j = c then max (k.hr c) x else k.hr j) ≤ k.fr.length
  have := hh j
  have := hh c
  split <;> omega
set_option maxRecDepth 100000 in
set_option maxHeartbeats 4000000 in
theorem ep_ack (P : Nat) (S : Nat → Prop) (k : EpS) (c x : Nat) (w : World) (h : EpAt w S P k) (hc : c < k.n) (h1 : 1 ≤ x) (h2 : x ≤ k.fr.length) (hl : k.fr.length < 1000) :
  Calls Tryz.prog 33 #[.pointer (some ⟨P, 0, none⟩), .int .i64 (c : Int), .int .u64 (x : Int)] w fun z w' => ∃ S', z = .returned (.bool true) ∧ EpAt w' S' P (k.ack c x) ∧ (∀ i, S' i → S i ∨ w.heap.size ≤ i) ∧ Only S w w' := by
 obtain ⟨R, vs, hb, hrow, hown, hhr, hS⟩ := h
 obtain ⟨ao, cap, b, o, hv, hlc, hcm, hao, hdrop⟩ := (hrow c hc).drop (Nat.zero_le _)
 have HC := Lib.hid (ep_has P R k.n k.fr.length vs c hc w hb)
 have HW := Lib.hid (ep_was P R k.n k.fr.length vs x w hb)
 rw [decide_eq_true (show 1 ≤ x ∧ x ≤ k.fr.length from ⟨h1, h2⟩)] at HW
 have HB := Lib.hid hb
 have HS := Lib.hid (erow_search (vs c) (rowE k c) (x + 1) w (by have := rowE_len k c; omega) (rowE_rise k c) (hrow c hc))
 rw [hv] at HS
 have c1 := hb.head
 have c2 := hb.row c hc
 rw [hv] at c2
 have f2 := hb.fr c
 have HR := Lib.hid hrow
 have HV := Lib.hid hv
 have HD := Lib.hid (hrow c hc)
 have HH := Lib.hid hhr
 have HI := Lib.hid hS
 have HX := Lib.hid (And.intro h1 h2)
 have hin : (c : Int) < (k.n : Int) := by omega
 obtain ⟨y, hy⟩ : ∃ y : Nat, y = x + 1 := ⟨_, rfl⟩
 rw [← hy] at HS
 have HY := Lib.hid hy
 have hx2 := rowE_len k c
 have q1 : (x : Int) + 1 = (y : Int) := by omega
 have q3 : x < 1000 := by omega
 have HCN := Lib.hid hc
 obtain ⟨n, hn⟩ : ∃ n, n = (rowE k c).length := ⟨_, rfl⟩
 rw [← hn] at HS c2 hlc HV hx2
 have HN := Lib.hid hn
 have q2 : n < 1000 := by omega
 have HM := Lib.hid hcm
 unfold maxLen at hcm
 clear hb hrow hown hhr hS hv hao hdrop hy hn hx2 hc h1 h2 hl
 go_enter Tryz.func33, Tryz.ntmps33
 go_wp2_with (first | (go_at_call 78; refine HC.out.mono ?_; rintro e w' ⟨rfl, rfl⟩) | (go_at_call 79; refine HW.out.mono ?_; rintro e w' ⟨rfl, rfl⟩))
 refine HS.out.mono ?_
 rintro e w' ⟨m, hcut, rfl, rfl⟩
 have hml : m ≤ n := by rw [HN.out]; exact hcut.1
 have hmc : m ≤ cap := by omega
 have HQ : Hid (CutAt (rowL k c) x m) := by
  have h := hcut
  rw [HY.out] at h
  exact cut_up h
 clear hcut
 by_cases hcap : cap = m
 ·subst hcap
  go_wp2_with fail
  go_still_tail 15, (by kernel_rfl)
  change wpList _ _ _ _ _ w.drew
  have c1 : w.drew.cell? ⟨P, 1, none⟩ = _ := c1
  have c2 : w.drew.cell? ⟨R, c, none⟩ = _ := c2
  have f2 : w.drew.frozen? ⟨R, c, none⟩ = false := f2
  go_wp2_with fail
  go_ret
  have hz := ep_acked (ao2 := ao) HB.out HR.out HH.out HI.out HCN.out HX.out.1 HX.out.2 (by rw [← HN.out]; exact HV.out) HQ.out (Or.inr ⟨rfl, rfl⟩)
  rw [← HN.out, show n - cap = 0 by omega, Nat.sub_self] at hz
  exact ⟨S, rfl, ep_foot hz.1 (Nat.le_refl _) fun _ _ => rfl, fun _ hi => Or.inl hi, hz.2⟩
 ·go_wp2_with fail
  go_still_tail 15, (by kernel_rfl)
  change wpList _ _ _ _ _ w.drew
  have c1 : w.drew.cell? ⟨P, 1, none⟩ = _ := c1
  have c2 : w.drew.cell? ⟨R, c, none⟩ = _ := c2
  have f2 : w.drew.frozen? ⟨R, c, none⟩ = false := f2
  go_wp2_with fail
  go_ret
  have hz := ep_acked (ao2 := ao.map (fun a => a.add m)) HB.out HR.out HH.out HI.out HCN.out HX.out.1 HX.out.2 (by rw [← HN.out]; exact HV.out) HQ.out (Or.inl rfl)
  rw [← HN.out] at hz
  exact ⟨S, rfl, ep_foot hz.1 (Nat.le_refl _) fun _ _ => rfl, fun _ hi => Or.inl hi, hz.2⟩
theorem epoch_keeps : EpochC EpAt where
 low := fun _ _ _ _ ⟨_, _, hb, _, _, _, hS⟩ i hi => hb.lt i ((hS i).1 hi)
 foot := fun _ _ _ _ _ h hs hk => ep_foot h hs hk
 new_ := fun n w h1 h8 => ep_new n w h1 h8
 begin_ := fun P S k c w h hc hl h0 => ep_begin P S k c w h hc hl h0
 ack_ := fun P S k c x w h hc h1 h2 hl => ep_ack P S k c x w h hc h1 h2 hl
 waits_ := fun P S k x w h hx hl => (ep_waits P S k x w h hx hl).mono fun _ _ ⟨v, h1, h2, _, h4⟩ => ⟨v, h1, own_slice h2, h4⟩
 done_ := fun P S k x w h hx hl => ep_done P S k x w h hx hl
end Go.Proofs.YtdfhfmdelinemaaGreatDoor
