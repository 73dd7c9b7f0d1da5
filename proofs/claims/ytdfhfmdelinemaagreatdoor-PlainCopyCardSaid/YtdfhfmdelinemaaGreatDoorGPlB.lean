/- What is proved here: contracts of package plain: maps, rights, frames, derivations. Conditions: those that each theorem names. -/
import Derived.Test.YtdfhfmdelinemaaGreatDoorGPlA
import Derived.StillTailTactics
import Derived.RegionTactic
import Derived.Deep.DeepCutAuto
import Derived.Test.YtdfhfmdelinemaaGreatDoorGTreeE
namespace Go.Proofs.YtdfhfmdelinemaaGreatDoor
open Go.RowKit Go.Extern.Stop Go.Stop Go.Extern Go.WalkArith
section
variable {B : Nat → Nat} {E N : Nat} {k : KernS} {W : World}
theorem pl_at {e s : Nat} (he : e < E) (hs : s < 8) (W : World) (h : KAt W B E N k) {x0 x1 x2 x3 : Int} {b : Bool} (h0 : capI (k.sl e s) 0 = x0) (h1 : capI (k.sl e s) 1 = x1) (h2 : capI (k.sl e s) 2 = x2) (h3 : capI (k.sl e s) 3 = x3) (hb : (k.sl e s).is = b) :
  Calls Tryz.prog 70 #[.pointer (some ⟨B 2, 0, none⟩), .int .i64 (e : Int), .int .i64 (s : Int)] W fun x w' => x = .returned (.tuple #[.agg #[.int .i64 x0, .int .i64 x1, .int .i64 x2, .int .i64 x3], .bool b]) ∧ Below W.heap.size W w' := by
 have h4 := cat_in he hs W h.lies.tree
 rw [h0, h1, h2, h3, hb] at h4
 exact h4
theorem pl_tat {e p : Nat} (he : e < E) (hp : p < 8) (W : World) (h : KAt W B E N k) {x0 x1 x2 : Int} (h0 : (k.pt e p).frame = x0) (h1 : (k.pt e p).slot = x1) (h2 : (k.pt e p).rights = x2) {b : Bool} (hb : b = decide (¬ x2 = 0)) :
  Calls Tryz.prog 112 #[.pointer (some ⟨B (8 + e), 0, none⟩), .int .i64 (p : Int)] W fun x w' => x = .returned (.tuple #[.agg #[.int .i64 x0, .int .i64 x1, .int .i64 x2], .bool b]) ∧ Below W.heap.size W w' := by
 obtain ⟨g0, g1, g2⟩ := pteG_at k e p
 by_cases hz : x2 = 0
 ·have hn := h.fit.neat e p (by rw [h2]; exact hz)
  rw [hn] at h0 h1 h2
  obtain rfl : (0 : Int) = x0 := h0
  obtain rfl : (0 : Int) = x1 := h1
  subst hz
  obtain rfl : b = false := by rw [hb]; decide
  exact tat_none W _ p _ hp (h.lies.tabs e he) (by rw [g2, hn]; rfl)
 ·obtain rfl : b = true := by rw [hb]; exact decide_eq_true hz
  have h4 := tat_ok W _ p _ hp (h.lies.tabs e he) (by rw [g2, h2]; exact hz)
  rw [g0, g1, g2, h0, h1, h2] at h4
  exact h4
theorem plenter_none {e p s : Nat} (he : e < E) (hs : s < 8) (r : Int) (hi : (k.sl e s).is = false) (w : World) (h : KAt w B E N k) :
  Calls Tryz.prog 103 #[.pointer (some ⟨B 0, 0, none⟩), .int .i64 (e : Int), .int .i64 (p : Int), .int .i64 (s : Int), .int .i64 r] w fun x w' => x = .returned (.int .i64 3) ∧ Below w.heap.size w w' := by
 have c1 := h.lies.c1
 have HA := Lib.hid (pl_at he hs w h (capI_no hi 0) (capI_no hi 1) (capI_no hi 2) (capI_no hi 3) hi)
 clear h
 go_enter Tryz.func103, Tryz.ntmps103
 go_wp2_with fail
 refine HA.out.mono ?_
 rintro x w1 ⟨rfl, hb⟩
 have B1 := Lib.hid hb
 clear hb
 go_wp2_with fail
 go_ret
 exact ⟨rfl, B1.out.alloc B1.out.size _⟩
theorem KAt.rowlt (h : KAt W B E N k) : B 0 < W.heap.size ∧ B 1 < W.heap.size := ⟨h.lies.lt 0 (by omega), h.lies.lt 1 (by have := h.lies.eE; omega)⟩
theorem plenter_busy {e p s : Nat} (he : e < E) (hp : p < 8) (hs : s < 8) (r : Int) (hi : (k.sl e s).is = true) (hr : ¬ (k.pt e p).rights = 0) (w : World) (h : KAt w B E N k) :
  Calls Tryz.prog 103 #[.pointer (some ⟨B 0, 0, none⟩), .int .i64 (e : Int), .int .i64 (p : Int), .int .i64 (s : Int), .int .i64 r] w fun x w' => x = .returned (.int .i64 4) ∧ Below w.heap.size w w' := by
 have c1 := h.lies.c1
 obtain ⟨y0, y1, y2, y3⟩ := capI_yes hi
 have HA := Lib.hid (pl_at he hs w h y0 y1 y2 y3 hi)
 have HT := Lib.hid (fun W (hW : KAt W B E N k) => pl_tat he hp W hW rfl rfl rfl (b := true) (decide_eq_true hr).symm)
 have HK := Lib.hid h
 have q1 : ¬ (e : Int) < 0 := by omega
 have q2 : (e : Int) < (E : Int) := by omega
 have q3 : ¬ (E : Int) ≤ (e : Int) := by omega
 have HEl := Lib.hid he
 clear h hr hi y0 y1 y2 y3 he hp hs
 go_enter Tryz.func103, Tryz.ntmps103
 go_wp2_with fail
 refine HA.out.mono ?_
 rintro x w1 ⟨rfl, hb⟩
 have B1 := Lib.hid hb
 have K1 := Lib.hid (HK.out.later hb)
 clear hb c1
 have c0 := K1.out.lies.c0
 have cr := K1.out.lies.row e HEl.out
 have l0 := K1.out.rowlt.1
 have l1 := K1.out.rowlt.2
 go_wp2_with fail
 refine (HT.out _ (K1.out.later ((Below.refl _ _).alloc (Nat.le_refl _) _))).mono ?_
 rintro x w2 ⟨rfl, hb⟩
 have B2 := Lib.hid (bl_alloc B1.out hb)
 clear hb c0 cr l0 l1
 go_wp2_with fail
 go_ret
 exact ⟨rfl, B2.out.alloc B2.out.size _⟩
theorem plenter_rights {e p s : Nat} (he : e < E) (hp : p < 8) (hs : s < 8) (r : Int) (hi : (k.sl e s).is = true) (hr : (k.pt e p).rights = 0) (hw : withinB r (k.sl e s).rights = false) (w : World) (h : KAt w B E N k) :
  Calls Tryz.prog 103 #[.pointer (some ⟨B 0, 0, none⟩), .int .i64 (e : Int), .int .i64 (p : Int), .int .i64 (s : Int), .int .i64 r] w fun x w' => x = .returned (.int .i64 5) ∧ Below w.heap.size w w' := by
 have c1 := h.lies.c1
 obtain ⟨y0, y1, y2, y3⟩ := capI_yes hi
 have HA := Lib.hid (pl_at he hs w h y0 y1 y2 y3 hi)
 have HT := Lib.hid (fun W (hW : KAt W B E N k) => pl_tat he hp W hW rfl rfl hr (b := false) (by decide))
 have HK := Lib.hid h
 have q1 : ¬ (e : Int) < 0 := by omega
 have q2 : (e : Int) < (E : Int) := by omega
 have q3 : ¬ (E : Int) ≤ (e : Int) := by omega
 have HEl := Lib.hid he
 have HW := Lib.hid (fun W => within_any r (k.sl e s).rights W)
 rw [hw] at HW
 clear h hr hi y0 y1 y2 y3 he hp hs hw
 go_enter Tryz.func103, Tryz.ntmps103
 go_wp2_with fail
 refine HA.out.mono ?_
 rintro x w1 ⟨rfl, hb⟩
 have B1 := Lib.hid hb
 have K1 := Lib.hid (HK.out.later hb)
 clear hb c1
 have c0 := K1.out.lies.c0
 have cr := K1.out.lies.row e HEl.out
 have l0 := K1.out.rowlt.1
 have l1 := K1.out.rowlt.2
 go_wp2_with fail
 refine (HT.out _ (K1.out.later ((Below.refl _ _).alloc (Nat.le_refl _) _))).mono ?_
 rintro x w2 ⟨rfl, hb⟩
 have B2 := Lib.hid (bl_alloc B1.out hb)
 have K2 := Lib.hid (K1.out.later (bl_alloc (Below.refl _ _) hb))
 have X2 := Lib.hid (bk_one hb)
 clear hb c0 cr l0 l1
 have d1 := bk_cell X2.out 1
 have dl := bk_lt X2.out
 go_wp2_with fail
 refine (HW.out _).mono ?_
 rintro x w3 ⟨rfl, rfl⟩
 go_wp2_with fail
 go_ret
 exact ⟨rfl, B2.out.alloc B2.out.size _⟩
theorem Fit.map (h : Fit k) {e p s : Nat} (hs : s < 8) {r : Int} (h0 : mapE k e p s r = 0) : Fit (mapS k e p s r) := by
 unfold mapS
 rw [if_pos h0]
 unfold mapE at h0
 split at h0
 ·exact absurd h0 (by decide)
 ·rename_i hi
  split at h0
  ·exact absurd h0 (by decide)
  ·split at h0
   ·exact absurd h0 (by decide)
   ·rename_i hw
    have hr := within_may (r := r) (a := (k.sl e s).rights) (by simpa using hw)
    exact h.entry (fun h1 => by have h1 : r = 0 := h1; omega) fun _ => ⟨hr, s, hs, rfl, by simpa using hi, rfl⟩
theorem KAt.entry {w w' : World} (h : KAt w B E N k) {e p : Nat} (he : e < E) (_hp : p < 8) {v : PteV} (hf : Fit (k.setPte e p v)) (ho : OnlyT (B (8 + e)) w w') {g : Nat → Int} (hg : TabIs w' (B (8 + e)) g) (h0 : g (p * 3) = v.frame) (h1 : g (p * 3 + 1) = v.slot) (h2 : g (p * 3 + 2) = v.rights) (h3 : ∀ j, j < 24 → j / 3 ≠ p → g j = pteG k e j) : KAt w' B E N (k.setPte e p v) := by
 have hE := h.lies.eE
 refine ⟨hf, h.envs, h.frames, ?_⟩
 have h4 : PAt w' B E N k (k.setPte e p v) (refsI k) (mmG k) := h.lies.tab_step he ho hg (fun j hj => ?_) (fun e' hne j hj => ?_)
 ·exact h4.congr hf.tree rfl (fun _ _ _ _ => rfl) (fun _ _ _ _ => rfl) (fun _ _ => rfl) (fun _ _ => rfl)
 ·by_cases hq : j / 3 = p
  ·obtain ⟨g0, g1, g2⟩ := pteG_at (k.setPte e p v) e p
   have e1 : (k.setPte e p v).pt e p = v := if_pos ⟨rfl, rfl⟩
   rw [e1] at g0 g1 g2
   rcases (show j = p * 3 ∨ j = p * 3 + 1 ∨ j = p * 3 + 2 by omega) with rfl | rfl | rfl
   ·rw [g0, h0]
   ·rw [g1, h1]
   ·rw [g2, h2]
  ·rw [h3 j hj hq]
   unfold pteG
   rw [show (k.setPte e p v).pt e (j / 3) = k.pt e (j / 3) from if_neg fun hc => hq hc.2]
 ·unfold pteG
  rw [show (k.setPte e p v).pt e' (j / 3) = k.pt e' (j / 3) from if_neg fun hc => hne hc.1]
theorem putG_is (g : Nat → Int) (p : Nat) (f s r : Int) : putG g p f s r (p * 3) = f ∧ putG g p f s r (p * 3 + 1) = s ∧ putG g p f s r (p * 3 + 2) = r ∧ ∀ j, j / 3 ≠ p → putG g p f s r j = g j := by
 unfold putG
 refine ⟨?_, ?_, ?_, fun j hj => ?_⟩
 ·rw [if_neg (by omega), if_neg (by omega), if_pos rfl]
 ·rw [if_neg (by omega), if_pos rfl]
 ·rw [if_pos rfl]
 ·rw [if_neg (by omega), if_neg (by omega), if_neg (by omega)]
set_option maxRecDepth 100000 in
theorem plenter_ok {e p s : Nat} (he : e < E) (hp : p < 8) (hs : s < 8) (r : Int) (hi : (k.sl e s).is = true) (hr : (k.pt e p).rights = 0) (hw : withinB r (k.sl e s).rights = true) (w : World) (h : KAt w B E N k) :
  Calls Tryz.prog 103 #[.pointer (some ⟨B 0, 0, none⟩), .int .i64 (e : Int), .int .i64 (p : Int), .int .i64 (s : Int), .int .i64 r] w fun x w' => x = .returned (.int .i64 0) ∧ KAt w' B E N (mapS k e p s r) ∧ Only (Blk B E) w w' := by
 have h0 : mapE k e p s r = 0 := by
  unfold mapE
  rw [if_neg (by rw [hi]; decide), if_neg (by rw [hr]; decide), if_neg (by rw [hw]; decide)]
 have hF := Lib.hid (h.fit.map hs h0)
 have hS : mapS k e p s r = k.setPte e p ⟨(k.sl e s).frame, (s : Int), r⟩ := if_pos h0
 rw [hS] at hF ⊢
 have hown := h.fit.own e s hs hi
 have hfr := h.fit.frames
 have hrr := within_may hw
 have hmay : mayIns (k.sl e s).frame (s : Int) r = true := by
  unfold mayIns
  rw [decide_eq_true (by omega), decide_eq_true (by omega), decide_eq_true (by omega)]
  rfl
 have c1 := h.lies.c1
 obtain ⟨y0, y1, y2, y3⟩ := capI_yes hi
 have HA := Lib.hid (pl_at he hs w h y0 y1 y2 y3 hi)
 have HT := Lib.hid (fun W (hW : KAt W B E N k) => pl_tat he hp W hW rfl rfl hr (b := false) (by decide))
 have HK := Lib.hid h
 have q1 : ¬ (e : Int) < 0 := by omega
 have q2 : (e : Int) < (E : Int) := by omega
 have q3 : ¬ (E : Int) ≤ (e : Int) := by omega
 have HEl := Lib.hid he
 have HW := Lib.hid (fun W => within_any r (k.sl e s).rights W)
 rw [hw] at HW
 have HI := Lib.hid (fun W (hW : KAt W B E N k) => tins_ok W (B (8 + e)) p (k.sl e s).frame (s : Int) r (pteG k e) hp hmay (hW.lies.tabs e he) ((pteG_at k e p).2.2.trans hr))
 have HP := Lib.hid hp
 clear h hr hi y0 y1 y2 y3 he hp hs hw hown hfr hrr hmay h0 hS
 go_enter Tryz.func103, Tryz.ntmps103
 go_wp2_with fail
 refine HA.out.mono ?_
 rintro x w1 ⟨rfl, hb⟩
 have B1 := Lib.hid hb
 have K1 := Lib.hid (HK.out.later hb)
 clear hb c1
 have c0 := K1.out.lies.c0
 have cr := K1.out.lies.row e HEl.out
 have l0 := K1.out.rowlt.1
 have l1 := K1.out.rowlt.2
 go_wp2_with fail
 refine (HT.out _ (K1.out.later ((Below.refl _ _).alloc (Nat.le_refl _) _))).mono ?_
 rintro x w2 ⟨rfl, hb⟩
 have B2 := Lib.hid (bl_alloc B1.out hb)
 have K2 := Lib.hid (K1.out.later (bl_alloc (Below.refl _ _) hb))
 have X2 := Lib.hid (bk_one hb)
 clear hb c0 cr l0 l1
 have d1 := bk_cell X2.out 1
 have dl := bk_lt X2.out
 go_wp2_with fail
 refine (HW.out _).mono ?_
 rintro x w3 ⟨rfl, rfl⟩
 have K3 := Lib.hid (K2.out.later ((Below.refl _ _).alloc (Nat.le_refl _) (.cells #[.int .i64 (k.pt e p).frame, .int .i64 (k.pt e p).slot, .int .i64 0] 83)))
 have X3 := Lib.hid (bk_below X2.out ((Below.refl w2.heap.size w2).alloc (Nat.le_refl _) (.cells #[.int .i64 (k.pt e p).frame, .int .i64 (k.pt e p).slot, .int .i64 0] 83)))
 have B3 := Lib.hid (B2.out.alloc B2.out.size (.cells #[.int .i64 (k.pt e p).frame, .int .i64 (k.pt e p).slot, .int .i64 0] 83))
 clear d1 dl
 go_wp2_with fail
 generalize w2.alloc (.cells #[.int .i64 (k.pt e p).frame, .int .i64 (k.pt e p).slot, .int .i64 0] 83) = wr at K3 X3 B3 ⊢
 have d0 := bk_cell X3.out 0
 have c0 := K3.out.lies.c0
 have cr := K3.out.lies.row e HEl.out
 go_still_tail 13, (by kernel_rfl)
 change wpList _ _ _ _ _ wr.drew
 go_wp2_with fail
 have K4 := Lib.hid (K3.out.later (dn (Below.refl _ _) 1))
 refine (HI.out _ K4.out).mono ?_
 rintro x w4 ⟨rfl, hg, ho⟩
 have hK := K4.out.entry HEl.out HP.out hF.out ho hg (putG_is _ _ _ _ _).1 (putG_is _ _ _ _ _).2.1 (putG_is _ _ _ _ _).2.2.1 (fun j _ hj => (putG_is _ _ _ _ _).2.2.2 j hj)
 have hO := only_then (Only.below (dn B3.out 1)) (only_blk (show 8 + e < 8 + E by have := HEl.out; omega) ho)
 have HH := Lib.hid hK
 have HO := Lib.hid hO
 clear hK hO hg ho
 go_wp2_with fail
 go_ret
 exact ⟨rfl, HH.out, HO.out⟩
end
end Go.Proofs.YtdfhfmdelinemaaGreatDoor
namespace Go.Proofs.YtdfhfmdelinemaaGreatDoor
open Go.RowKit Go.Extern.Stop Go.Stop Go.Extern Go.WalkArith
section
variable {B : Nat → Nat} {E N : Nat} {k : KernS} {W : World}
theorem plprot_none {e p : Nat} (he : e < E) (hp : p < 8) (r : Int) (hr : (k.pt e p).rights = 0) (w : World) (h : KAt w B E N k) :
  Calls Tryz.prog 105 #[.pointer (some ⟨B 0, 0, none⟩), .int .i64 (e : Int), .int .i64 (p : Int), .int .i64 r] w fun x w' => x = .returned (.int .i64 3) ∧ Below w.heap.size w w' := by
 have HT := Lib.hid (pl_tat he hp w h rfl rfl hr (b := false) (by decide))
 have c0 := h.lies.c0
 have cr := h.lies.row e he
 have l0 := h.rowlt.1
 have l1 := h.rowlt.2
 have q1 : ¬ (e : Int) < 0 := by omega
 have q2 : (e : Int) < (E : Int) := by omega
 have q3 : ¬ (E : Int) ≤ (e : Int) := by omega
 clear h hr he hp
 go_enter Tryz.func105, Tryz.ntmps105
 go_wp2_with fail
 refine HT.out.mono ?_
 rintro x w1 ⟨rfl, hb⟩
 have B1 := Lib.hid hb
 clear hb c0 cr l0 l1
 go_wp2_with fail
 go_ret
 exact ⟨rfl, B1.out.alloc B1.out.size _⟩
theorem Fit.prot (h : Fit k) {e p : Nat} (hp : p < 8) {r : Int} (h0 : protE k e p r = 0) : Fit (protS k e p r) := by
 unfold protS
 rw [if_pos h0]
 unfold protE at h0
 split at h0
 ·exact absurd h0 (by decide)
 ·rename_i hz
  split at h0
  ·exact absurd h0 (by decide)
  ·rename_i hw
   have hr := within_may (r := r) (by simpa using hw)
   obtain ⟨_, s, h1, h2, h3, h4⟩ := h.ent e p hp hz
   exact h.entry (fun h5 => by have h5 : r = 0 := h5; omega) fun _ => ⟨hr, s, h1, h2, h3, h4⟩
theorem protG_is (g : Nat → Int) (p : Nat) (r : Int) : protG g p r (p * 3) = g (p * 3) ∧ protG g p r (p * 3 + 1) = g (p * 3 + 1) ∧ protG g p r (p * 3 + 2) = r ∧ ∀ j, j / 3 ≠ p → protG g p r j = g j := by
 unfold protG
 refine ⟨?_, ?_, ?_, fun j hj => ?_⟩
 ·rw [if_neg (by omega)]
 ·rw [if_neg (by omega)]
 ·rw [if_pos rfl]
 ·rw [if_neg (by omega)]
set_option maxRecDepth 100000 in
set_option maxHeartbeats 1000000 in
theorem plprot_some {e p : Nat} (he : e < E) (hp : p < 8) (r : Int) (hr : ¬ (k.pt e p).rights = 0) (w : World) (h : KAt w B E N k) :
  Calls Tryz.prog 105 #[.pointer (some ⟨B 0, 0, none⟩), .int .i64 (e : Int), .int .i64 (p : Int), .int .i64 r] w fun x w' => x = .returned (.int .i64 (protE k e p r)) ∧ KAt w' B E N (protS k e p r) ∧ Only (Blk B E) w w' := by
 obtain ⟨hrr, s, hs, hsl, hi, hfr⟩ := h.fit.ent e p hp hr
 obtain ⟨x0, hx0⟩ : ∃ x0, (k.pt e p).frame = x0 := ⟨_, rfl⟩
 obtain ⟨x2, hx2⟩ : ∃ x2, (k.pt e p).rights = x2 := ⟨_, rfl⟩
 obtain ⟨y0, y1, y2, y3⟩ := capI_yes hi
 have hE5 : withinB r (k.sl e s).rights = false → protE k e p r = 5 ∧ protS k e p r = k := fun hw => by
  have h1 : protE k e p r = 5 := by
   unfold protE
   rw [if_neg hr, hsl, Int.toNat_natCast, if_pos hw]
  exact ⟨h1, if_neg (by rw [h1]; decide)⟩
 have hE0 : withinB r (k.sl e s).rights = true → protE k e p r = 0 ∧ protS k e p r = k.setPte e p ⟨x0, (s : Int), r⟩ := fun hw => by
  have h1 : protE k e p r = 0 := by
   unfold protE
   rw [if_neg hr, hsl, Int.toNat_natCast, if_neg (by rw [hw]; decide)]
  exact ⟨h1, by rw [← hx0, ← hsl]; exact if_pos h1⟩
 have HF := Lib.hid (fun hw : withinB r (k.sl e s).rights = true => h.fit.prot hp (hE0 hw).1)
 have HR := Lib.hid (fun hw : withinB r (k.sl e s).rights = true => within_may hw)
 have HA := Lib.hid (fun W (hW : KAt W B E N k) => pl_at he hs W hW y0 y1 y2 y3 hi)
 have HT := Lib.hid (pl_tat he hp w h hx0 hsl hx2 (b := true) (decide_eq_true (by rw [← hx2]; exact hr)).symm)
 have HW := Lib.hid (fun W => within_any r (k.sl e s).rights W)
 have HI := Lib.hid (fun W (hW : KAt W B E N k) hq => tprot_ok W (B (8 + e)) p (pteG k e) hp (hW.lies.tabs e he) r hq (by rw [(pteG_at k e p).2.2]; exact hr))
 have HG := Lib.hid ((pteG_at k e p).1.trans hx0)
 have HG1 := Lib.hid ((pteG_at k e p).2.1.trans hsl)
 obtain ⟨er, her⟩ : ∃ er, protE k e p r = er := ⟨_, rfl⟩
 obtain ⟨ks, hks⟩ : ∃ ks, protS k e p r = ks := ⟨_, rfl⟩
 obtain ⟨b, hbw⟩ : ∃ b, withinB r (k.sl e s).rights = b := ⟨_, rfl⟩
 rw [her, hks] at hE5 hE0 ⊢
 rw [hks] at HF
 rw [hbw] at hE5 hE0 HF HR HW
 have H5 := Lib.hid hE5
 have H0 := Lib.hid hE0
 generalize (k.sl e s).frame = z0 at HA
 generalize (k.sl e s).rights = z1 at HA HW hbw
 generalize (k.sl e s).env = z2 at HA
 generalize (k.sl e s).slot = z3 at HA
 have HK := Lib.hid h
 have c0 := h.lies.c0
 have cr := h.lies.row e he
 have l0 := h.rowlt.1
 have l1 := h.rowlt.2
 have q1 : ¬ (e : Int) < 0 := by omega
 have q2 : (e : Int) < (E : Int) := by omega
 have q3 : ¬ (E : Int) ≤ (e : Int) := by omega
 have HEl := Lib.hid he
 have HP := Lib.hid hp
 clear h hr he hp hE5 hE0 her hks hbw y0 y1 y2 y3 hx0 hx2 hsl hi hfr hrr hs
 go_enter Tryz.func105, Tryz.ntmps105
 go_wp2_with fail
 refine HT.out.mono ?_
 rintro x w1 ⟨rfl, hb⟩
 have B1 := Lib.hid (hb.alloc hb.size (.cells #[.int .i64 x0, .int .i64 (s : Int), .int .i64 x2] 83))
 have K1 := Lib.hid (HK.out.later B1.out)
 have X1 := Lib.hid (heap_alloc_new w1 (.cells #[.int .i64 x0, .int .i64 (s : Int), .int .i64 x2] 83))
 clear hb c0 cr l0 l1
 go_wp2_with fail
 generalize w1.heap.size = A at X1 ⊢
 generalize w1.alloc (.cells #[.int .i64 x0, .int .i64 (s : Int), .int .i64 x2] 83) = wr at K1 X1 B1 ⊢
 have c1 := K1.out.lies.c1
 have d1 := bk_cell X1.out 1
 have l0 := K1.out.rowlt.1
 have lA := bk_lt X1.out
 go_cut [11] (fun av W => ∃ b : Nat, av = .pointer (some ⟨b, 0, none⟩) ∧ Below w.heap.size w W ∧ W.heap[b]? = some (.cells #[.int .i64 z0, .int .i64 z1, .int .i64 z2, .int .i64 z3] 58 (0, 0)))
 case first =>
  have KD := Lib.hid (K1.out.later (dn (Below.refl _ _) 1))
  have BD := Lib.hid (dn B1.out 1)
  go_region_with ((go_at_call 70; first | (refine (HA.out _ KD.out).mono ?_; rintro e1 w9 ⟨rfl, hb⟩; have SB := Lib.hid (bl_trans BD.out hb); clear hb) | (refine (HA.out _ (KD.out.later ((Below.refl _ _).alloc (Nat.le_refl _) _))).mono ?_; rintro e1 w9 ⟨rfl, hb⟩; have SX := Lib.hid (show w9.heap[wr.heap.size]? = some (.cells #[.int .i64 0, .int .i64 0, .int .i64 0, .int .i64 0] 58 (0, 0)) from bk_one (w := wr.drew) hb); have SB := Lib.hid (bl_alloc BD.out hb); clear hb; have f0 := bk_free SX.out 0; have f1 := bk_free SX.out 1; have f2 := bk_free SX.out 2; have f3 := bk_free SX.out 3; have g0 := bk_cell SX.out 0; have g1 := bk_cell SX.out 1; have g2 := bk_cell SX.out 2; have g3 := bk_cell SX.out 3; have gl := bk_lt SX.out)))
  all_goals
   go_wp2_with fail
   go_meet
   case rel => first
    | exact ⟨_, rfl, SB.out.alloc SB.out.size _, heap_alloc_new _ _⟩
    | exact ⟨_, rfl, (((SB.out.setCell B1.out.size _).setCell B1.out.size _).setCell B1.out.size _).setCell B1.out.size _, set_block (set_block (set_block (set_block SX.out 0 _) 1 _) 2 _) 3 _⟩
 case rest =>
  obtain ⟨A2, rfl, h1, h2⟩ := hcut
  have B2 := Lib.hid h1
  have K2 := Lib.hid (HK.out.later h1)
  have d1 := bk_cell h2 1
  have l2 := bk_lt h2
  clear h1 h2 c1 l0 lA K1 B1 X1
  go_wp2_with fail
  refine (HW.out _).mono ?_
  rintro x w3 ⟨rfl, rfl⟩
  cases b
  ·obtain ⟨rfl, rfl⟩ := H5.out rfl
   go_wp2_with fail
   go_ret
   exact ⟨rfl, K2.out, Only.below B2.out⟩
  ·have R1 := Lib.hid (HR.out rfl)
   have F1 := Lib.hid (HF.out rfl)
   obtain ⟨rfl, rfl⟩ := H0.out rfl
   have c0 := K2.out.lies.c0
   have cr := K2.out.lies.row e HEl.out
   have l0 := K2.out.rowlt.1
   have l1 := K2.out.rowlt.2
   go_wp2_with fail
   refine (HI.out _ K2.out R1.out).mono ?_
   rintro x w4 ⟨rfl, hg, ho⟩
   have hq := protG_is (pteG k e) p r
   have hK := K2.out.entry HEl.out HP.out F1.out ho hg (hq.1.trans HG.out) (hq.2.1.trans HG1.out) hq.2.2.1 (fun j _ hj => hq.2.2.2 j hj)
   have HO := Lib.hid (only_then (Only.below B2.out) (only_blk (show 8 + e < 8 + E by have := HEl.out; omega) ho))
   have HH := Lib.hid hK
   clear hK hg ho hq
   go_wp2_with fail
   go_ret
   exact ⟨rfl, HH.out, HO.out⟩
end
end Go.Proofs.YtdfhfmdelinemaaGreatDoor
namespace Go.Proofs.YtdfhfmdelinemaaGreatDoor
open Go.RowKit Go.Extern.Stop Go.Stop Go.Extern Go.WalkArith
section
variable {B : Nat → Nat} {E N : Nat} {k : KernS} {W : World}
theorem freeK_is (h : KAt W B E N k) {f : Nat} {l : List Nat} (hf : freeK k k.frames.toNat = f :: l) : f < N ∧ refsI k f = 0 ∧ ∀ i, i < f → (refsI k i == 0) = false := by
 unfold freeK at hf
 obtain ⟨h1, h2, h3⟩ := filter_head _ _ _ _ hf
 rw [h.frames, Int.toNat_natCast] at h1
 refine ⟨h1, ?_, fun i hi => ?_⟩
 ·have h4 : refsN k (f : Int) 32 = 0 := of_decide_eq_true h2
  unfold refsI
  rw [h4]
  rfl
 ·have h4 : ¬ refsN k (i : Int) 32 = 0 := of_decide_eq_false (h3 i hi)
  unfold refsI
  exact beq_eq_false_iff_ne.2 (by omega)
theorem freeK_no_is (h : KAt W B E N k) (hf : freeK k k.frames.toNat = []) : ∀ i, i < N → (refsI k i == 0) = false := by
 unfold freeK at hf
 rw [h.frames, Int.toNat_natCast] at hf
 intro i hi
 have h4 : ¬ refsN k (i : Int) 32 = 0 := of_decide_eq_false (filter_none _ hf i hi)
 unfold refsI
 exact beq_eq_false_iff_ne.2 (by omega)
theorem plalloc_busy {e s : Nat} (he : e < E) (hs : s < 8) (hi : (k.sl e s).is = true) (w : World) (h : KAt w B E N k) :
  Calls Tryz.prog 99 #[.pointer (some ⟨B 0, 0, none⟩), .int .i64 (e : Int), .int .i64 (s : Int)] w fun x w' => x = .returned (.int .i64 4) ∧ Below w.heap.size w w' := by
 have c1 := h.lies.c1
 obtain ⟨y0, y1, y2, y3⟩ := capI_yes hi
 have HA := Lib.hid (pl_at he hs w h y0 y1 y2 y3 hi)
 clear h hi y0 y1 y2 y3 he hs
 go_enter Tryz.func99, Tryz.ntmps99
 go_wp2_with fail
 refine HA.out.mono ?_
 rintro x w1 ⟨rfl, hb⟩
 have B1 := Lib.hid hb
 clear hb c1
 go_wp2_with fail
 go_ret
 exact ⟨rfl, B1.out.alloc B1.out.size _⟩
theorem plalloc_full {e s : Nat} (he : e < E) (hs : s < 8) (hi : (k.sl e s).is = false) (hf : freeK k k.frames.toNat = []) (w : World) (h : KAt w B E N k) :
  Calls Tryz.prog 99 #[.pointer (some ⟨B 0, 0, none⟩), .int .i64 (e : Int), .int .i64 (s : Int)] w fun x w' => x = .returned (.int .i64 6) ∧ Below w.heap.size w w' := by
 have c1 := h.lies.c1
 have HA := Lib.hid (pl_at he hs w h (capI_no hi 0) (capI_no hi 1) (capI_no hi 2) (capI_no hi 3) hi)
 have HP := Lib.hid (fun W (hW : KAt W B E N k) => pool_take_no (B 4) (B 5) N (refsI k) hW.lies.nN.2 (freeK_no_is hW hf) W hW.lies.pool)
 have HK := Lib.hid h
 clear h hi he hs hf
 go_enter Tryz.func99, Tryz.ntmps99
 go_wp2_with fail
 refine HA.out.mono ?_
 rintro x w1 ⟨rfl, hb⟩
 have B1 := Lib.hid (hb.alloc hb.size (.cells #[.int .i64 0, .int .i64 0, .int .i64 0, .int .i64 0] 58))
 have K1 := Lib.hid (HK.out.later B1.out)
 have c2 := (HK.out.later hb).lies.c2
 have l0 := (HK.out.later hb).rowlt.1
 clear hb c1
 go_wp2_with fail
 refine (HP.out _ K1.out).mono ?_
 rintro x w2 ⟨rfl, rfl⟩
 go_wp2_with fail
 go_ret
 exact ⟨rfl, B1.out⟩
theorem Fit.alloc (h : Fit k) {e s f : Nat} {l : List Nat} (he : (e : Int) < k.envs) (hs : s < 8) (hi : (k.sl e s).is = false) (hf : (f : Int) < k.frames) (h0 : refsN k (f : Int) 32 = 0) (_ : l = l) : Fit (allocS k e s f) := by
 have h1 : Fit (k.clear f) := h.mem rfl rfl rfl rfl
 refine h1.put (v := ⟨true, (f : Int), 3, -1, 0⟩) he hs hi rfl ⟨by show 0 ≤ (f : Int); omega, hf⟩ ⟨by show (1 : Int) ≤ 3; decide, by show (3 : Int) ≤ 3; decide⟩ (Or.inl ⟨rfl, rfl, rfl⟩) ?_
 show refsN (k.clear f) (f : Int) 32 ≤ 6
 rw [refsN_sl (k := k) (k' := k.clear f) rfl, h0]
 omega
theorem refsI_put {e s : Nat} {v : SlotV} (he : e < 4) (hs : s < 8) (hi : (k.sl e s).is = false) (hv : v.is = true) (f : Nat) (hf : v.frame = (f : Int)) (j : Nat) : refsI (k.setSlot e s v) j = upR (refsI k) f (refsI k f + 1) j := by
 unfold upR refsI
 rw [refsN_put hs hi hv (j : Int) 32]
 by_cases hj : j = f
 ·subst hj
  rw [if_pos ⟨by omega, hf⟩, if_pos rfl]
  omega
 ·rw [if_neg (fun h => hj (by have := h.2; omega)), if_neg hj]
  omega
theorem clear_mm (k : KernS) (f : Nat) (g : Nat → Int) (hg : g = mmG k) (j : Nat) : mmG (k.clear f) j = if f * 16 ≤ j ∧ j < f * 16 + 16 then 0 else g j := by
 subst hg
 unfold mmG
 show (if j / 16 = f ∧ j % 16 < 16 then 0 else k.mm (j / 16) (j % 16)) = _
 by_cases h : f * 16 ≤ j ∧ j < f * 16 + 16
 ·rw [if_pos h, if_pos ⟨by omega, by omega⟩]
 ·rw [if_neg h, if_neg (fun h2 => h (by omega))]
theorem only_fill (w : World) (T o : Nat) : ∀ l : List Value, OnlyT T w (w.setCells T o l) := by
 intro l
 induction l generalizing o w with
 | nil => exact tp_below (Below.refl _ _)
 | cons v l ih => exact tp_trans (tp_set (tp_below (Below.refl _ _)) o v) (ih _ _)
theorem plalloc_ok {e s f : Nat} {l : List Nat} (he : e < E) (hs : s < 8) (hi : (k.sl e s).is = false) (hf : freeK k k.frames.toNat = f :: l) (w : World) (h : KAt w B E N k) :
  Calls Tryz.prog 99 #[.pointer (some ⟨B 0, 0, none⟩), .int .i64 (e : Int), .int .i64 (s : Int)] w fun x w' => x = .returned (.int .i64 0) ∧ KAt w' B E N (allocS k e s f) ∧ Only (Blk B E) w w' := by
 obtain ⟨f1, f2, f3⟩ := freeK_is h hf
 have hE := h.lies.eE
 have hn := h.lies.nN
 have hen := h.envs
 have hfr := h.frames
 have h0 : refsN k (f : Int) 32 = 0 := by unfold refsI at f2; omega
 have HF := Lib.hid (h.fit.alloc (l := l) (by rw [hen]; omega : (e : Int) < k.envs) hs hi (by rw [hfr]; omega) h0 rfl)
 have hr0 : rootE k (e : Int) (s : Int) (f : Int) = 0 := by
  unfold rootE
  rw [if_pos ⟨decide_eq_true ⟨by omega, by rw [hen]; omega, by omega, by omega⟩, by omega, by omega⟩, Int.toNat_natCast, Int.toNat_natCast, if_neg (by rw [hi]; decide)]
 have hrs : rootS k (e : Int) (s : Int) (f : Int) = k.setSlot e s ⟨true, (f : Int), 3, -1, 0⟩ := by
  unfold rootS
  rw [if_pos hr0, Int.toNat_natCast, Int.toNat_natCast]
 have c1 := h.lies.c1
 have HA := Lib.hid (pl_at he hs w h (capI_no hi 0) (capI_no hi 1) (capI_no hi 2) (capI_no hi 3) hi)
 have HP := Lib.hid (fun W (hW : KAt W B E N k) => pool_take (B 4) (B 5) N (refsI k) f hW.lies.nN.2 f1 f2 f3 W hW.lies.pool)
 have HZ := Lib.hid (fun W (hW : MemIs W (B 6) (B 7) N (mmG k)) => zero_any W (B 6) (B 7) N f (mmG k) hW f1 hn.2)
 have HR := Lib.hid (fun W (hW : TreeIs W (B 2) (B 3) E k) => croot_any (e : Int) (s : Int) (f : Int) W hW)
 rw [hr0, hrs] at HR
 have HK := Lib.hid h
 have HU := Lib.hid (fun j => refsI_put (k := k) (v := ⟨true, (f : Int), 3, -1, 0⟩) (by omega : e < 4) hs hi rfl f rfl j)
 rw [f2] at HU
 have HL := Lib.hid f1
 have H3 := Lib.hid hE
 clear h hi he hs hf f1 f2 f3 hE hn hen hfr h0 hr0 hrs
 go_enter Tryz.func99, Tryz.ntmps99
 go_wp2_with fail
 refine HA.out.mono ?_
 rintro x w1 ⟨rfl, hb⟩
 have B1 := Lib.hid (hb.alloc hb.size (.cells #[.int .i64 0, .int .i64 0, .int .i64 0, .int .i64 0] 58))
 have K1 := Lib.hid (HK.out.later B1.out)
 have c2 := (HK.out.later hb).lies.c2
 have l0 := (HK.out.later hb).rowlt.1
 clear hb c1
 go_wp2_with fail
 refine (HP.out _ K1.out).mono ?_
 rintro x w2 ⟨rfl, hp, ho⟩
 have P2 := Lib.hid (K1.out.lies.pool_step ho hp)
 have O2 := Lib.hid (only_then (Only.below B1.out) (only_blk (B := B) (E := E) (show 5 < 8 + E by omega) ho))
 clear hp ho c2 l0
 have c3 := P2.out.c3
 have l0 := P2.out.lt 0 (by omega)
 go_wp2_with fail
 refine (HZ.out _ P2.out.mem).mono ?_
 rintro x w3 ⟨rfl, hz⟩
 have hoz : OnlyT (B 7) w2 w3 := by rw [← hz]; exact only_fill _ _ _ _
 have hm := P2.out.mem.fill HL.out
 rw [hz] at hm
 have P3 := Lib.hid (P2.out.mem_step hoz hm)
 have O3 := Lib.hid (only_then O2.out (only_blk (B := B) (E := E) (show 7 < 8 + E by have := H3.out; omega) hoz))
 clear hz hm hoz c3 l0
 have c1 := P3.out.c1
 have l0 := P3.out.lt 0 (by omega)
 go_wp2_with fail
 refine (HR.out _ P3.out.tree).mono ?_
 rintro x w4 ⟨rfl, ht, ho⟩
 have P4 := Lib.hid (P3.out.tree_step ho ht)
 have O4 := Lib.hid (only_then O3.out (only_blk (B := B) (E := E) (show 3 < 8 + E by have := H3.out; omega) ho))
 clear ht ho c1 l0
 go_wp2_with fail
 go_ret
 exact ⟨rfl, KAt.of HF.out HK.out.envs HK.out.frames P4.out (fun _ _ _ _ => rfl) (fun _ _ _ _ => rfl) (fun j _ => HU.out j) (fun j _ => clear_mm k f (mmG k) rfl j), O4.out⟩
end
end Go.Proofs.YtdfhfmdelinemaaGreatDoor
namespace Go.Proofs.YtdfhfmdelinemaaGreatDoor
open Go.RowKit Go.Extern.Stop Go.Stop Go.Extern Go.WalkArith
section
variable {B : Nat → Nat} {E N : Nat} {k : KernS} {W : World}
theorem leaf_alone (hk : TreeOk k) {t d : Nat} (hi : (k.sl t d).is = false) (v : SlotV) : ∀ n a b : Nat, b < 8 → (k.sl a b).is = true → d < 8 → fromB (k.setSlot t d v) (t * 8 + d) n (a * 8 + b) = false
 | 0, _, _, _, _, _ => rfl
 | n + 1, a, b, hb, h, hd => by
  have hne : ∀ x y : Nat, (k.sl x y).is = true → ¬ (x = t ∧ y = d) := fun x y hx hc => by
   obtain ⟨rfl, rfl⟩ := hc
   rw [hi] at hx
   exact absurd hx (by decide)
  have hq := set_off k (e := t) (s := d) v (hne a b h)
  rcases hk.par a b hb h with h1 | ⟨x, y, h1, h2, h3, h4, h5⟩
  ·exact fromB_none hb (by rw [hq, h1]; rintro ⟨_, h⟩; exact absurd h (by decide))
  ·rw [fromB_some hb (by rw [hq]; exact h) (by rw [hq]; exact h1) (by rw [hq]; exact h2), leaf_alone hk hi v n x y h4 h5 hd, Bool.or_false]
   exact decide_eq_false fun hc => hne x y h5 (by omega)
theorem TreeIs.same2 {w : World} {P G : Nat} {k k' : KernS} (h : TreeIs w P G E k) (hk : TreeOk k') (hE : k'.envs = k.envs) (hs : ∀ e s, e < E → s < 8 → ∀ i, capI (k'.sl e s) i = capI (k.sl e s) i) : TreeIs w P G E k' :=
 ⟨hk, hE.trans h.envs, h.ne, h.top, ⟨fun j hj => by
  have e1 : treeG k' j = treeG k j := hs (j / 32) (j % 32 / 4) (by omega) (by omega) _
  rw [e1]
  exact h.nums.1 j hj, h.nums.2⟩, h.lp⟩
theorem put_gone {w : World} {P G : Nat} (hk : TreeOk k) (hE : k.envs = (E : Int)) {t d : Nat} {v : SlotV} (ht : t < E) (hd : d < 8) (hi : (k.sl t d).is = false) (hv : v.is = true) (h : TreeIs w P G E (tgoneS (k.setSlot t d v) (t : Int) (d : Int) true)) : TreeIs w P G E k := by
 have hin : inB (k.setSlot t d v) (t : Int) (d : Int) = true := decide_eq_true ⟨by omega, by show (t : Int) < k.envs; omega, by omega, by omega⟩
 have h0 : tgoneE (k.setSlot t d v) (t : Int) (d : Int) = 0 := by
  unfold tgoneE
  rw [if_pos hin, Int.toNat_natCast, Int.toNat_natCast, set_at, if_pos hv]
 have hS : tgoneS (k.setSlot t d v) (t : Int) (d : Int) true = goneF (k.setSlot t d v) (goneL (k.setSlot t d v) (t * 8 + d) true) := by
  unfold tgoneS tgoneL
  rw [if_pos h0, Int.toNat_natCast, Int.toNat_natCast]
 rw [hS] at h
 refine h.same2 hk (by rw [(goneF_sizes _ _).1]; rfl) fun a b ha hb i => ?_
 rw [goneF_sl _ _ a b hb]
 by_cases hc : a = t ∧ b = d
 ·obtain ⟨rfl, rfl⟩ := hc
  have hE4 := hk.envs
  rw [if_pos (goneL_mem.2 ⟨by omega, Or.inl ⟨rfl, rfl⟩⟩), capI_no hi, capI_no (show noSlot.is = false from rfl)]
 ·rw [set_off k v hc]
  cases hb2 : (k.sl a b).is
  ·split
   ·rw [capI_no hb2, capI_no (show noSlot.is = false from rfl)]
   ·rfl
  ·rw [if_neg fun hm => ?_]
   rw [goneL_mem] at hm
   rcases hm.2 with ⟨_, h5⟩ | h5
   ·exact hc (by omega)
   ·rw [leaf_alone hk hi v 32 a b hb hb2 hd] at h5
    exact absurd h5 (by decide)
theorem der_code {e s t d : Nat} {r : Int} (hE : k.envs = (E : Int)) (he : e < E) (hs : s < 8) (ht : t < E) (hd : d < 8) (hr : 1 ≤ r ∧ r ≤ 3) :
  tderE k (e : Int) (s : Int) (t : Int) (d : Int) r = if (k.sl e s).is = false then 3 else if (k.sl t d).is = true then 4 else if withinB r (k.sl e s).rights = false then 5 else 0 := by
 unfold tderE
 rw [if_pos ⟨decide_eq_true ⟨by omega, by omega, by omega, by omega⟩, decide_eq_true ⟨by omega, by omega, by omega, by omega⟩, by unfold mayB; rw [decide_eq_true hr.1, decide_eq_true hr.2]; rfl⟩, Int.toNat_natCast, Int.toNat_natCast, Int.toNat_natCast, Int.toNat_natCast]
theorem KAt.tree {w w' : World} (h : KAt w B E N k) (ho : OnlyT (B 3) w w') (ht : TreeIs w' (B 2) (B 3) E k) : KAt w' B E N k := ⟨h.fit, h.envs, h.frames, h.lies.tree_step ho ht⟩
theorem plderive_err {e s t d : Nat} {r n : Int} (he : e < E) (hs : s < 8) (ht : t < E) (hd : d < 8) (hr : 1 ≤ r ∧ r ≤ 3) (hn : n = 3 ∨ n = 4 ∨ n = 5) (hc : tderE k (e : Int) (s : Int) (t : Int) (d : Int) r = n) (w : World) (h : KAt w B E N k) :
  Calls Tryz.prog 100 #[.pointer (some ⟨B 0, 0, none⟩), .int .i64 (e : Int), .int .i64 (s : Int), .int .i64 (t : Int), .int .i64 (d : Int), .int .i64 r] w fun x w' => x = .returned (.int .i64 (deriveE k e s t d r)) ∧ KAt w' B E N (deriveS k e s t d r) ∧ Only (Blk B E) w w' := by
 have hq := (der_code h.envs he hs ht hd hr).symm.trans hc
 have hde : deriveE k e s t d r = n := by
  unfold deriveE
  split at hq
  ·rename_i h1
   rw [if_pos h1]
   exact hq
  ·rename_i h1
   rw [if_neg h1]
   split at hq
   ·rename_i h2
    rw [if_pos h2]
    exact hq
   ·rename_i h2
    rw [if_neg h2]
    split at hq
    ·rename_i h3
     rw [if_pos h3]
     exact hq
    ·omega
 have hds : deriveS k e s t d r = k := if_neg (by rw [hde]; omega)
 have hts : tderS k (e : Int) (s : Int) (t : Int) (d : Int) r = k := if_neg (by rw [hc]; omega)
 rw [hde, hds]
 have HD := Lib.hid (cderive_any (e : Int) (s : Int) (t : Int) (d : Int) r w h.lies.tree)
 rw [hc, hts] at HD
 have HK := Lib.hid h
 have c1 := h.lies.c1
 have H3 := Lib.hid h.lies.eE
 clear h hq hc hde hds hts he hs ht hd hr
 rcases hn with rfl | rfl | rfl
 all_goals
  go_enter Tryz.func100, Tryz.ntmps100
  go_wp2_with fail
  refine HD.out.mono ?_
  rintro x w1 ⟨rfl, ht, ho⟩
  have K1 := Lib.hid (HK.out.tree ho ht)
  have O1 := Lib.hid (only_blk (B := B) (E := E) (show 3 < 8 + E by have := H3.out; omega) ho)
  clear ht ho c1
  go_wp2_with fail
  go_ret
  exact ⟨rfl, K1.out, O1.out⟩
theorem der_ok {e s t d : Nat} {r : Int} (h : KAt W B E N k) (he : e < E) (hs : s < 8) (ht : t < E) (hd : d < 8) (hr : 1 ≤ r ∧ r ≤ 3) (hc : tderE k (e : Int) (s : Int) (t : Int) (d : Int) r = 0) :
  (k.sl e s).is = true ∧ (k.sl t d).is = false ∧ withinB r (k.sl e s).rights = true ∧ deriveE k e s t d r = (if 7 ≤ refsN k (k.sl e s).frame 32 then 6 else 0) ∧ tderS k (e : Int) (s : Int) (t : Int) (d : Int) r = k.setSlot t d ⟨true, (k.sl e s).frame, r, (e : Int), (s : Int)⟩ := by
 have hq := (der_code h.envs he hs ht hd hr).symm.trans hc
 have hts : tderS k (e : Int) (s : Int) (t : Int) (d : Int) r = k.setSlot t d ⟨true, (k.sl e s).frame, r, (e : Int), (s : Int)⟩ := by
  unfold tderS
  rw [if_pos hc, Int.toNat_natCast, Int.toNat_natCast, Int.toNat_natCast, Int.toNat_natCast]
 split at hq
 ·omega
 ·rename_i h1
  split at hq
  ·omega
  ·rename_i h2
   split at hq
   ·omega
   ·rename_i h3
    refine ⟨by simpa using h1, by simpa using h2, by simpa using h3, ?_, hts⟩
    unfold deriveE
    rw [if_neg h1, if_neg h2, if_neg h3]
set_option maxRecDepth 100000 in
theorem plderive_full {e s t d : Nat} {r : Int} (he : e < E) (hs : s < 8) (ht : t < E) (hd : d < 8) (hr : 1 ≤ r ∧ r ≤ 3) (hc : tderE k (e : Int) (s : Int) (t : Int) (d : Int) r = 0) (h7 : 7 ≤ refsN k (k.sl e s).frame 32) (w : World) (h : KAt w B E N k) :
  Calls Tryz.prog 100 #[.pointer (some ⟨B 0, 0, none⟩), .int .i64 (e : Int), .int .i64 (s : Int), .int .i64 (t : Int), .int .i64 (d : Int), .int .i64 r] w fun x w' => x = .returned (.int .i64 (deriveE k e s t d r)) ∧ KAt w' B E N (deriveS k e s t d r) ∧ Only (Blk B E) w w' := by
 obtain ⟨hi, hj, hw, hde, hts⟩ := der_ok h he hs ht hd hr hc
 rw [if_pos h7] at hde
 have hds : deriveS k e s t d r = k := if_neg (by rw [hde]; decide)
 rw [hde, hds]
 obtain ⟨f, hf, hfN, _⟩ := h.fit.lt hs hi
 rw [hf] at hts h7
 have hfn : f < N := by have := h.frames; omega
 have h77 : refsI k f = 7 := by
  have := h.fit.refs (f : Int)
  unfold refsI
  omega
 obtain ⟨v, hv⟩ : ∃ v : SlotV, v = ⟨true, (f : Int), r, (e : Int), (s : Int)⟩ := ⟨_, rfl⟩
 rw [← hv] at hts
 have hvi : v.is = true := by rw [hv]
 have HD := Lib.hid (cderive_any (e : Int) (s : Int) (t : Int) (d : Int) r w h.lies.tree)
 rw [hc, hts] at HD
 have HA := Lib.hid (fun W (hW : TreeIs W (B 2) (B 3) E (k.setSlot t d v)) => cat_in ht hd W hW)
 rw [set_at, hv] at HA
 have HA2 : Hid (∀ W : World, TreeIs W (B 2) (B 3) E (k.setSlot t d v) → Calls Tryz.prog 70 #[.pointer (some ⟨B 2, 0, none⟩), .int .i64 (t : Int), .int .i64 (d : Int)] W fun x w' => x = .returned (.tuple #[.agg #[.int .i64 (f : Int), .int .i64 r, .int .i64 (e : Int), .int .i64 (s : Int)], .bool true]) ∧ Below W.heap.size W w') := by
  rw [hv]
  exact HA
 clear HA
 have HH := Lib.hid (fun W (hW : PoolIs W (B 4) (B 5) N (refsI k)) => pool_hold_most (B 4) (B 5) N f (refsI k) h.lies.nN.2 hfn h77 W hW)
 have HG := Lib.hid (fun W (hW : TreeIs W (B 2) (B 3) E (k.setSlot t d v)) => cdrop_any (t : Int) (d : Int) W hW)
 have HB := Lib.hid (fun W (hW : TreeIs W (B 2) (B 3) E (tgoneS (k.setSlot t d v) (t : Int) (d : Int) true)) => put_gone (P := B 2) (G := B 3) h.fit.tree h.envs ht hd hj hvi hW)
 have HK := Lib.hid h
 have c1 := h.lies.c1
 have H3 := Lib.hid h.lies.eE
 clear h hc hde hds hts he hs ht hd hr hi hj hw hf hfN hfn h77 hv hvi h7
 go_enter Tryz.func100, Tryz.ntmps100
 go_wp2_with fail
 refine HD.out.mono ?_
 rintro x w1 ⟨rfl, ht, ho⟩
 have P1 := Lib.hid (HK.out.lies.tree_step ho ht)
 have O1 := Lib.hid (only_blk (B := B) (E := E) (show 3 < 8 + E by omega) ho)
 clear ht ho c1
 have c1 := P1.out.c1
 go_wp2_with fail
 refine (HA2.out _ P1.out.tree).mono ?_
 rintro x w2 ⟨rfl, hb⟩
 have P2 := Lib.hid (P1.out.later (hb.alloc hb.size (.cells #[.int .i64 (f : Int), .int .i64 r, .int .i64 (e : Int), .int .i64 (s : Int)] 58)))
 have O2 := Lib.hid (only_then O1.out (Only.below (hb.alloc hb.size (.cells #[.int .i64 (f : Int), .int .i64 r, .int .i64 (e : Int), .int .i64 (s : Int)] 58))))
 have X2 := Lib.hid (heap_alloc_new w2 (.cells #[.int .i64 (f : Int), .int .i64 r, .int .i64 (e : Int), .int .i64 (s : Int)] 58))
 clear hb c1
 go_wp2_with fail
 generalize w2.heap.size = A at X2 ⊢
 generalize w2.alloc (.cells #[.int .i64 (f : Int), .int .i64 r, .int .i64 (e : Int), .int .i64 (s : Int)] 58) = wr at P2 O2 X2 ⊢
 have c2 := P2.out.c2
 have d0 := bk_cell X2.out 0
 have l0 := P2.out.lt 0 (by omega)
 have lA := bk_lt X2.out
 go_still_tail 6, (by kernel_rfl)
 change wpList _ _ _ _ _ wr.drew
 go_wp2_with fail
 have P3 := Lib.hid (P2.out.later (dn (Below.refl _ _) 1))
 have O3 := Lib.hid (only_then O2.out (Only.below (dn (Below.refl wr.heap.size wr) 1)))
 refine (HH.out _ P3.out.pool).mono ?_
 rintro x w3 ⟨rfl, rfl⟩
 have c1 := P2.out.c1
 go_wp2_with fail
 refine (HG.out _ P3.out.tree).mono ?_
 rintro x w4 ⟨gv, rfl, _, ht, ho⟩
 have P4 := Lib.hid (P3.out.tree_step ho (HB.out _ ht))
 have O4 := Lib.hid (only_then O3.out (only_blk (B := B) (E := E) (show 3 < 8 + E by omega) ho))
 clear ht ho c1 c2 d0 l0 lA
 go_wp2_with fail
 go_ret
 exact ⟨rfl, ⟨HK.out.fit, HK.out.envs, HK.out.frames, P4.out⟩, O4.out⟩
theorem refs_some (hk : TreeOk k) {e s : Nat} (hs : s < 8) (hi : (k.sl e s).is = true) : 1 ≤ refsN k (k.sl e s).frame 32 := by
 have h4 := (hk.lt hi).2
 rcases Nat.eq_zero_or_pos (refsN k (k.sl e s).frame 32) with h | h
 ·exact absurd rfl (refs_none h h4 hs hi)
 ·omega
theorem refsI_upd {e s : Nat} {v : SlotV} (he : e < 4) (hs : s < 8) (hi : (k.sl e s).is = false) (hv : v.is = true) (f : Nat) (hf : v.frame = (f : Int)) (x : Int) (hx : refsI k f = x) (j : Nat) : refsI (k.setSlot e s v) j = upR (refsI k) f (x + 1) j := by
 subst hx
 exact refsI_put he hs hi hv f hf j
set_option maxRecDepth 100000 in
theorem plderive_ok {e s t d : Nat} {r : Int} (he : e < E) (hs : s < 8) (ht : t < E) (hd : d < 8) (hr : 1 ≤ r ∧ r ≤ 3) (hc : tderE k (e : Int) (s : Int) (t : Int) (d : Int) r = 0) (h7 : ¬ 7 ≤ refsN k (k.sl e s).frame 32) (w : World) (h : KAt w B E N k) :
  Calls Tryz.prog 100 #[.pointer (some ⟨B 0, 0, none⟩), .int .i64 (e : Int), .int .i64 (s : Int), .int .i64 (t : Int), .int .i64 (d : Int), .int .i64 r] w fun x w' => x = .returned (.int .i64 (deriveE k e s t d r)) ∧ KAt w' B E N (deriveS k e s t d r) ∧ Only (Blk B E) w w' := by
 obtain ⟨hi, hj, hw, hde, hts⟩ := der_ok h he hs ht hd hr hc
 rw [if_neg h7] at hde
 have hds : deriveS k e s t d r = k.setSlot t d ⟨true, (k.sl e s).frame, r, (e : Int), (s : Int)⟩ := if_pos hde
 rw [hde, hds]
 have hpos := refs_some h.fit.tree hs hi
 have hown := h.fit.own e s hs hi
 have hE4 := h.lies.eE
 have HF := Lib.hid (h.fit.put (e := t) (s := d) (v := ⟨true, (k.sl e s).frame, r, (e : Int), (s : Int)⟩) (by rw [h.envs]; omega) hd hj rfl hown hr (Or.inr ⟨e, s, rfl, rfl, by rw [h.envs]; omega, hs, hi, rfl, hw⟩) (by show refsN k (k.sl e s).frame 32 ≤ 6; omega))
 obtain ⟨f, hf, hfN, _⟩ := h.fit.lt hs hi
 rw [hf] at hts h7 hpos HF ⊢
 have hfn : f < N := by have := h.frames; omega
 obtain ⟨c, hcI⟩ : ∃ c, refsI k f = c := ⟨_, rfl⟩
 have hc1 : 1 ≤ refsI k f := by unfold refsI; omega
 have hc6 : refsI k f ≤ 6 := by unfold refsI; omega
 have HU := Lib.hid (fun j => refsI_upd (k := k) (v := ⟨true, (f : Int), r, (e : Int), (s : Int)⟩) (by omega : t < 4) hd hj rfl f rfl c hcI j)
 obtain ⟨v, hv⟩ : ∃ v : SlotV, v = ⟨true, (f : Int), r, (e : Int), (s : Int)⟩ := ⟨_, rfl⟩
 rw [← hv] at hts HU HF ⊢
 have hvi : v.is = true := by rw [hv]
 have HD := Lib.hid (cderive_any (e : Int) (s : Int) (t : Int) (d : Int) r w h.lies.tree)
 rw [hc, hts] at HD
 have HA := Lib.hid (fun W (hW : TreeIs W (B 2) (B 3) E (k.setSlot t d v)) => cat_in ht hd W hW)
 rw [set_at, hv] at HA
 have HA2 : Hid (∀ W : World, TreeIs W (B 2) (B 3) E (k.setSlot t d v) → Calls Tryz.prog 70 #[.pointer (some ⟨B 2, 0, none⟩), .int .i64 (t : Int), .int .i64 (d : Int)] W fun x w' => x = .returned (.tuple #[.agg #[.int .i64 (f : Int), .int .i64 r, .int .i64 (e : Int), .int .i64 (s : Int)], .bool true]) ∧ Below W.heap.size W w') := by
  rw [hv]
  exact HA
 clear HA
 have HH := Lib.hid (fun W (hW : PoolIs W (B 4) (B 5) N (refsI k)) => pool_hold (B 4) (B 5) N f (refsI k) h.lies.nN.2 hfn hc1 hc6 W hW)
 rw [hcI] at HH
 have HK := Lib.hid h
 have c1 := h.lies.c1
 have H3 := Lib.hid h.lies.eE
 clear h hc hde hds hts he hs ht hd hr hi hj hw hf hfN hfn hv hvi h7 hpos hown hE4 hcI hc1 hc6
 go_enter Tryz.func100, Tryz.ntmps100
 go_wp2_with fail
 refine HD.out.mono ?_
 rintro x w1 ⟨rfl, ht, ho⟩
 have P1 := Lib.hid (HK.out.lies.tree_step ho ht)
 have O1 := Lib.hid (only_blk (B := B) (E := E) (show 3 < 8 + E by omega) ho)
 clear ht ho c1
 have c1 := P1.out.c1
 go_wp2_with fail
 refine (HA2.out _ P1.out.tree).mono ?_
 rintro x w2 ⟨rfl, hb⟩
 have P2 := Lib.hid (P1.out.later (hb.alloc hb.size (.cells #[.int .i64 (f : Int), .int .i64 r, .int .i64 (e : Int), .int .i64 (s : Int)] 58)))
 have O2 := Lib.hid (only_then O1.out (Only.below (hb.alloc hb.size (.cells #[.int .i64 (f : Int), .int .i64 r, .int .i64 (e : Int), .int .i64 (s : Int)] 58))))
 have X2 := Lib.hid (heap_alloc_new w2 (.cells #[.int .i64 (f : Int), .int .i64 r, .int .i64 (e : Int), .int .i64 (s : Int)] 58))
 clear hb c1
 go_wp2_with fail
 generalize w2.heap.size = A at X2 ⊢
 generalize w2.alloc (.cells #[.int .i64 (f : Int), .int .i64 r, .int .i64 (e : Int), .int .i64 (s : Int)] 58) = wr at P2 O2 X2 ⊢
 have c2 := P2.out.c2
 have d0 := bk_cell X2.out 0
 have l0 := P2.out.lt 0 (by omega)
 have lA := bk_lt X2.out
 go_still_tail 6, (by kernel_rfl)
 change wpList _ _ _ _ _ wr.drew
 go_wp2_with fail
 have P3 := Lib.hid (P2.out.later (dn (Below.refl _ _) 1))
 have O3 := Lib.hid (only_then O2.out (Only.below (dn (Below.refl wr.heap.size wr) 1)))
 refine (HH.out _ P3.out.pool).mono ?_
 rintro x w3 ⟨rfl, hp, ho⟩
 have P4 := Lib.hid (P3.out.pool_step ho hp)
 have O4 := Lib.hid (only_then O3.out (only_blk (B := B) (E := E) (show 5 < 8 + E by omega) ho))
 clear hp ho c2 d0 l0 lA
 go_wp2_with fail
 go_ret
 exact ⟨rfl, KAt.of HF.out HK.out.envs HK.out.frames P4.out (fun _ _ _ _ => rfl) (fun _ _ _ _ => rfl) (fun j _ => HU.out j) (fun _ _ => rfl), O4.out⟩
theorem plderive_any {e s t d : Nat} {r : Int} (he : e < E) (hs : s < 8) (ht : t < E) (hd : d < 8) (hr : 1 ≤ r ∧ r ≤ 3) (w : World) (h : KAt w B E N k) :
  Calls Tryz.prog 100 #[.pointer (some ⟨B 0, 0, none⟩), .int .i64 (e : Int), .int .i64 (s : Int), .int .i64 (t : Int), .int .i64 (d : Int), .int .i64 r] w fun x w' => x = .returned (.int .i64 (deriveE k e s t d r)) ∧ KAt w' B E N (deriveS k e s t d r) ∧ Only (Blk B E) w w' := by
 have hq := der_code h.envs he hs ht hd hr
 by_cases h0 : tderE k (e : Int) (s : Int) (t : Int) (d : Int) r = 0
 ·by_cases h7 : 7 ≤ refsN k (k.sl e s).frame 32
  ·exact plderive_full he hs ht hd hr h0 h7 w h
  ·exact plderive_ok he hs ht hd hr h0 h7 w h
 ·refine plderive_err (n := tderE k (e : Int) (s : Int) (t : Int) (d : Int) r) he hs ht hd hr ?_ rfl w h
  rw [hq] at h0 ⊢
  split
  ·exact Or.inl rfl
  ·split
   ·exact Or.inr (Or.inl rfl)
   ·split
    ·exact Or.inr (Or.inr rfl)
    ·rename_i h1 h2 h3
     rw [if_neg h1, if_neg h2, if_neg h3] at h0
     exact absurd rfl h0
end
end Go.Proofs.YtdfhfmdelinemaaGreatDoor
