/- What is proved here: contracts of package plain: Copy. Conditions: those that each theorem names. -/
import Derived.Test.YtdfhfmdelinemaaGreatDoorGPlD
import Derived.Test.YtdfhfmdelinemaaGreatDoorGPlB
import Derived.IntWalk
import Derived.Test.YtdfhfmdelinemaaGreatDoorGPlC
import Derived.StillTailTactics
namespace Go.Proofs.YtdfhfmdelinemaaGreatDoor
open Go.RowKit Go.Extern.Stop Go.Stop Go.Extern Go.WalkArith
def upTo (g : Nat → Int) (i j : Nat) : Int := if j < i * 3 then g j else 0
theorem upTo_put (g : Nat → Int) (i j : Nat) : upTo g (i + 1) j = putG (upTo g i) i (g (i * 3)) (g (i * 3 + 1)) (g (i * 3 + 2)) j := by
 unfold upTo putG
 by_cases h2 : j = i * 3 + 2
 ·rw [if_pos (by omega), if_pos h2, h2]
 ·rw [if_neg h2]
  by_cases h1 : j = i * 3 + 1
  ·rw [if_pos (by omega), if_pos h1, h1]
  ·rw [if_neg h1]
   by_cases h0 : j = i * 3
   ·rw [if_pos (by omega), if_pos h0, h0]
   ·rw [if_neg h0]
    by_cases hj : j < i * 3
    ·rw [if_pos (by omega)]
     exact (if_pos hj).symm
    ·rw [if_neg (by omega)]
     exact (if_neg hj).symm
theorem upTo_none (g : Nat → Int) (i j : Nat) (h0 : g (i * 3) = 0) (h1 : g (i * 3 + 1) = 0) (h2 : g (i * 3 + 2) = 0) : upTo g (i + 1) j = upTo g i j := by
 unfold upTo
 by_cases hj : j < i * 3
 ·rw [if_pos hj, if_pos (by omega)]
 ·rw [if_neg hj]
  split
  ·rcases (show j = i * 3 ∨ j = i * 3 + 1 ∨ j = i * 3 + 2 by omega) with rfl | rfl | rfl
   ·exact h0
   ·exact h1
   ·exact h2
  ·rfl
theorem plcopy_entries {T T' : Nat} {g : Nat → Int} (hne : T ≠ T') (hz : ∀ p, p < 8 → g (p * 3 + 2) = 0 → g (p * 3) = 0 ∧ g (p * 3 + 1) = 0) (hm : ∀ p, p < 8 → ¬ g (p * 3 + 2) = 0 → mayIns (g (p * 3)) (g (p * 3 + 1)) (g (p * 3 + 2)) = true) (w : World) (h : TabIs w T g) (h' : TabIs w T' (fun _ => 0)) :
  Calls Tryz.prog 65 #[.pointer (some ⟨T', 0, none⟩), .pointer (some ⟨T, 0, none⟩)] w fun x w' => x = .returned (.tuple #[]) ∧ TabIs w' T' g ∧ OnlyT T' w w' := by
 have HS := Lib.hid h
 have HD := Lib.hid h'
 have HN := Lib.hid hne
 have HZ := Lib.hid hz
 have HM := Lib.hid hm
 clear h h' hne hz hm
 go_enter Tryz.func65, Tryz.ntmps65
 go_wp2_with fail
 go_loopw [7] (fun iv W => ∃ i : Nat, iv = .int .i64 i ∧ i ≤ 8 ∧ TabIs W T' (upTo g i) ∧ OnlyT T' w W) (fun iv _ => (8 - intOf iv).toNat)
 case atStart => exact ⟨0, rfl, by omega, HD.out.congr (fun j _ => by unfold upTo; rw [if_neg (by omega)]), tp_below (Below.refl _ _)⟩
 case round =>
  obtain ⟨i, rfl, hi8, hd, ho⟩ := hrel
  have D1 := Lib.hid hd
  have O1 := Lib.hid ho
  have S1 := Lib.hid (HS.out.only ho HN.out)
  clear hd ho
  by_cases hi : i < 8
  ·have i1 : (i : Int) < 8 := by omega
   by_cases hr : g (i * 3 + 2) = 0
   ·obtain ⟨r0, r1⟩ := HZ.out i hi hr
    have HT := Lib.hid (tat_none wr T i g hi S1.out hr)
    have HU := Lib.hid (fun j => upTo_none g i j r0 r1 hr)
    clear r0 r1 hr
    go_wp2_with fail
    refine HT.out.mono ?_
    rintro x w2 ⟨rfl, hb⟩
    have BB := Lib.hid (hb.alloc hb.size (.cells #[.int .i64 0, .int .i64 0, .int .i64 0] 83))
    clear hb
    go_wp2_with fail
    go_roundw
    case rel => exact ⟨i + 1, by go_num, by omega, (D1.out.later BB.out).congr (fun j _ => HU.out j), tp_trans O1.out (tp_below BB.out)⟩
    case measure => simp [intOf]; omega
   ·have HT := Lib.hid (tat_ok wr T i g hi S1.out hr)
    have HU := Lib.hid (fun j => upTo_put g i j)
    have h0 : upTo g i (i * 3 + 2) = 0 := by unfold upTo; rw [if_neg (by omega)]
    have HI := Lib.hid (fun W (hW : TabIs W T' (upTo g i)) => tins_ok W T' i (g (i * 3)) (g (i * 3 + 1)) (g (i * 3 + 2)) (upTo g i) hi (HM.out i hi hr) hW h0)
    generalize g (i * 3) = y0 at HT HU HI
    generalize g (i * 3 + 1) = y1 at HT HU HI
    generalize g (i * 3 + 2) = y2 at HT HU HI
    clear hr h0
    go_wp2_with fail
    refine HT.out.mono ?_
    rintro x w2 ⟨rfl, hb⟩
    have BB := Lib.hid (hb.alloc hb.size (.cells #[.int .i64 y0, .int .i64 y1, .int .i64 y2] 83))
    clear hb
    go_wp2_with fail
    refine (HI.out _ (D1.out.later BB.out)).mono ?_
    rintro x w3 ⟨rfl, hg, ho⟩
    have D3 := Lib.hid hg
    have O3 := Lib.hid (tp_trans (tp_trans O1.out (tp_below BB.out)) ho)
    clear hg ho
    go_wp2_with fail
    go_roundw
    case rel => exact ⟨i + 1, by go_num, by omega, D3.out.congr (fun j _ => HU.out j), O3.out⟩
    case measure => simp [intOf]; omega
  ·obtain rfl : i = 8 := by omega
   go_wp2_with fail
   go_end0
   exact ⟨rfl, D1.out.congr (fun j hj => by unfold upTo; rw [if_pos (by omega)]), O1.out⟩
structure SubK (d k : KernS) : Prop where
 ok : TreeOk d
 envs : d.envs = k.envs
 same : ∀ e s : Nat, s < 8 → (d.sl e s).is = true → d.sl e s = k.sl e s
def CapPost (C' G' E : Nat) (d k : KernS) (e s : Nat) (w : World) (x : Ending) (w' : World) : Prop :=
 x = .returned (.tuple #[]) ∧ OnlyT G' w w' ∧ ∃ d', TreeIs w' C' G' E d' ∧ SubK d' k ∧ (∀ a b : Nat, b < 8 → (d.sl a b).is = true → (d'.sl a b).is = true) ∧ ((k.sl e s).is = true → (d'.sl e s).is = true)
theorem SubK.put {d k : KernS} (h : SubK d k) (hk : TreeOk k) {e s : Nat} (hs : s < 8) (hi : (k.sl e s).is = true) (hd : (d.sl e s).is = false) (hp : ∀ a b : Nat, (k.sl e s).env = (a : Int) → (k.sl e s).slot = (b : Int) → (d.sl a b).is = true) : SubK (d.setSlot e s (k.sl e s)) k := by
 refine ⟨h.ok.put (by rw [h.envs]; exact (hk.lt hi).1) hs hd (hk.rights e s hi) ?_, h.envs, fun a b hb hab => ?_⟩
 ·rcases hk.par e s hs hi with h1 | ⟨a, b, h1, h2, h3, h4, h5⟩
  ·exact Or.inl h1
  ·exact Or.inr ⟨a, b, h1, h2, by rw [h.envs]; exact h3, h4, hp a b h1 h2⟩
 ·by_cases hc : a = e ∧ b = s
  ·obtain ⟨rfl, rfl⟩ := hc
   rw [set_at]
  ·rw [set_off d _ hc] at hab ⊢
   exact h.same a b hb hab
theorem sub_mono {d k : KernS} (e s : Nat) (hi : (k.sl e s).is = true) : ∀ a b : Nat, (d.sl a b).is = true → ((d.setSlot e s (k.sl e s)).sl a b).is = true := fun a b hab => by
 by_cases hc : a = e ∧ b = s
 ·obtain ⟨rfl, rfl⟩ := hc
  rw [set_at]
  exact hi
 ·rw [set_off d _ hc]
  exact hab
def MorePost (C' G' E : Nat) (d k : KernS) (e s : Nat) (w : World) (x : Ending) (w' : World) : Prop :=
 (∃ n : Int, x = .returned (.int .i64 n)) ∧ OnlyT G' w w' ∧ ∃ d', TreeIs w' C' G' E d' ∧ SubK d' k ∧ (∀ a b : Nat, b < 8 → (d.sl a b).is = true → (d'.sl a b).is = true) ∧ (d'.sl e s).is = true
theorem slot_eq {v : SlotV} {f r a b : Int} (h0 : v.is = true) (h1 : v.frame = f) (h2 : v.rights = r) (h3 : v.env = a) (h4 : v.slot = b) : v = ⟨true, f, r, a, b⟩ := by
 cases v
 dsimp only at h0 h1 h2 h3 h4
 subst h0 h1 h2 h3 h4
 rfl
theorem more_root {C' G' E : Nat} {d k : KernS} (hF : Fit k) (hE : k.envs = (E : Int)) {e s : Nat} (he : e < E) (hs : s < 8) (hi : (k.sl e s).is = true) (h1 : (k.sl e s).env = -1) (hsub : SubK d k) (w : World) (h : TreeIs w C' G' E d) :
  Calls Tryz.prog 30 #[.pointer (some ⟨C', 0, none⟩), .int .i64 (e : Int), .int .i64 (s : Int), .int .i64 (k.sl e s).frame] w (MorePost C' G' E d k e s w) := by
 have hfr := hF.own e s hs hi
 have hf := hF.frames
 have htop := hF.top e s hs hi h1
 have hin : inB d (e : Int) (s : Int) = true := by
  unfold inB
  exact decide_eq_true ⟨by omega, by rw [hsub.envs]; omega, by omega, by omega⟩
 have hval := slot_eq hi rfl htop.1 h1 htop.2
 refine (croot_any (e : Int) (s : Int) (k.sl e s).frame w h).mono ?_
 rintro x w' ⟨rfl, ht, ho⟩
 refine ⟨⟨_, rfl⟩, ho, ?_⟩
 have h0 : rootE d (e : Int) (s : Int) (k.sl e s).frame = if (d.sl e s).is = true then 4 else 0 := by
  unfold rootE
  rw [if_pos ⟨hin, hfr.1, by omega⟩, Int.toNat_natCast, Int.toNat_natCast]
 cases hd : (d.sl e s).is
 ·rw [hd, if_neg (by decide)] at h0
  have h2 : rootS d (e : Int) (s : Int) (k.sl e s).frame = d.setSlot e s (k.sl e s) := by
   unfold rootS
   rw [if_pos h0, Int.toNat_natCast, Int.toNat_natCast, ← hval]
  rw [h2] at ht
  exact ⟨_, ht, hsub.put hF.tree hs hi hd (fun a b h3 _ => by omega), fun a b _ hab => sub_mono e s hi a b hab, by rw [set_at]; exact hi⟩
 ·rw [hd, if_pos rfl] at h0
  have h2 : rootS d (e : Int) (s : Int) (k.sl e s).frame = d := if_neg (by rw [h0]; decide)
  rw [h2] at ht
  exact ⟨d, ht, hsub, fun _ _ _ h => h, hd⟩
theorem more_kid {C' G' E : Nat} {d k : KernS} (hF : Fit k) (hE : k.envs = (E : Int)) {e s a b : Nat} (he : e < E) (hs : s < 8) (hi : (k.sl e s).is = true) (h1 : (k.sl e s).env = (a : Int)) (h2 : (k.sl e s).slot = (b : Int)) (ha : a < E) (hb : b < 8) (hab : (d.sl a b).is = true) (hsub : SubK d k) (w : World) (h : TreeIs w C' G' E d) :
  Calls Tryz.prog 31 #[.pointer (some ⟨C', 0, none⟩), .int .i64 (a : Int), .int .i64 (b : Int), .int .i64 (e : Int), .int .i64 (s : Int), .int .i64 (k.sl e s).rights] w (MorePost C' G' E d k e s w) := by
 have hr := hF.tree.rights e s hi
 have hkid := hF.kid e s a b hs hi h1 h2
 have hdE : d.envs = (E : Int) := hsub.envs.trans hE
 have hsame := hsub.same a b hb hab
 have hval := slot_eq hi hkid.1 rfl h1 h2
 refine (cderive_any (a : Int) (b : Int) (e : Int) (s : Int) (k.sl e s).rights w h).mono ?_
 rintro x w' ⟨rfl, ht, ho⟩
 refine ⟨⟨_, rfl⟩, ho, ?_⟩
 have h0 := der_code (k := d) (r := (k.sl e s).rights) hdE ha hb he hs hr
 rw [if_neg (by rw [hab]; decide)] at h0
 cases hd : (d.sl e s).is
 ·rw [hd, if_neg (by decide), if_neg (by rw [hsame, hkid.2]; decide)] at h0
  have h3 : tderS d (a : Int) (b : Int) (e : Int) (s : Int) (k.sl e s).rights = d.setSlot e s (k.sl e s) := by
   unfold tderS
   rw [if_pos h0, Int.toNat_natCast, Int.toNat_natCast, Int.toNat_natCast, Int.toNat_natCast, hsame, ← hval]
  rw [h3] at ht
  exact ⟨_, ht, hsub.put hF.tree hs hi hd (fun x y h4 h5 => by
   obtain rfl : x = a := by omega
   obtain rfl : y = b := by omega
   exact hab), fun a b _ hab => sub_mono e s hi a b hab, by rw [set_at]; exact hi⟩
 ·rw [hd, if_pos rfl] at h0
  have h3 : tderS d (a : Int) (b : Int) (e : Int) (s : Int) (k.sl e s).rights = d := if_neg (by rw [h0]; decide)
  rw [h3] at ht
  exact ⟨d, ht, hsub, fun _ _ _ h => h, hd⟩
theorem TreeIs.only {w w' : World} {C G E T : Nat} {k : KernS} (h : TreeIs w C G E k) (ho : OnlyT T w w') (h1 : C ≠ T) (h2 : G ≠ T) : TreeIs w' C G E k :=
 h.foot ho.size (ho.block C h.lp fun e => h1 (by injection e)) (ho.block G h.lg fun e => h2 (by injection e))
theorem plcopy_cap_none {C G C' G' E : Nat} {k d : KernS} {e s : Nat} (he : e < E) (hs : s < 8) (hi : (k.sl e s).is = false) (w : World) (h : TreeIs w C G E k) (h' : TreeIs w C' G' E d) (hsub : SubK d k) :
  Calls Tryz.prog 66 #[.pointer (some ⟨C', 0, none⟩), .pointer (some ⟨C, 0, none⟩), .int .i64 (e : Int), .int .i64 (s : Int)] w (CapPost C' G' E d k e s w) := by
 have HA := Lib.hid (cat_in he hs w h)
 rw [capI_no hi, capI_no hi, capI_no hi, capI_no hi, hi] at HA
 have HD := Lib.hid h'
 have HS := Lib.hid hsub
 have HI := Lib.hid hi
 clear h h' hsub he hs hi
 go_enter Tryz.func66, Tryz.ntmps66
 go_wp2_with fail
 refine HA.out.mono ?_
 rintro x w1 ⟨rfl, hb⟩
 have BB := Lib.hid (hb.alloc hb.size (.cells #[.int .i64 0, .int .i64 0, .int .i64 0, .int .i64 0] 58))
 clear hb
 go_wp2_with fail
 refine bodyPost_ret (results_none rfl _ _ _) rfl ?_
 exact ⟨rfl, tp_below BB.out, d, HD.out.later BB.out, HS.out, fun _ _ _ h => h, fun h => by rw [HI.out] at h; exact absurd h (by decide)⟩
theorem plcopy_cap_root {C G C' G' E : Nat} {k d : KernS} (hF : Fit k) (hE : k.envs = (E : Int)) {e s : Nat} (he : e < E) (hs : s < 8) (hi : (k.sl e s).is = true) (h1 : (k.sl e s).env = -1) (w : World) (h : TreeIs w C G E k) (h' : TreeIs w C' G' E d) (hsub : SubK d k) :
  Calls Tryz.prog 66 #[.pointer (some ⟨C', 0, none⟩), .pointer (some ⟨C, 0, none⟩), .int .i64 (e : Int), .int .i64 (s : Int)] w (CapPost C' G' E d k e s w) := by
 obtain ⟨y0, y1, y2, y3⟩ := capI_yes hi
 have HA := Lib.hid (cat_in he hs w h)
 rw [y0, y1, y2, y3, hi, h1] at HA
 have HR := Lib.hid (fun W (hW : TreeIs W C' G' E d) => more_root hF hE he hs hi h1 hsub W hW)
 unfold MorePost at HR
 have HD := Lib.hid h'
 clear h h' hsub he hs hi hF hE h1 y0 y1 y2 y3
 generalize (k.sl e s).frame = z0 at HA HR
 generalize (k.sl e s).rights = z1 at HA
 generalize (k.sl e s).slot = z3 at HA
 go_enter Tryz.func66, Tryz.ntmps66
 go_wp2_with fail
 refine HA.out.mono ?_
 rintro x w1 ⟨rfl, hb⟩
 have BB := Lib.hid (hb.alloc hb.size (.cells #[.int .i64 z0, .int .i64 z1, .int .i64 (-1), .int .i64 z3] 58))
 clear hb
 go_wp2_with fail
 refine (HR.out _ (HD.out.later BB.out)).mono ?_
 rintro x w2 ⟨⟨n, rfl⟩, ho, d', ht, hs2, hm, hi2⟩
 have O2 := Lib.hid (tp_trans (tp_below BB.out) ho)
 have HP := Lib.hid (show ∃ d', TreeIs w2 C' G' E d' ∧ SubK d' k ∧ (∀ a b : Nat, b < 8 → (d.sl a b).is = true → (d'.sl a b).is = true) ∧ (d'.sl e s).is = true from ⟨d', ht, hs2, hm, hi2⟩)
 clear ho ht hs2 hm hi2
 go_wp2_with fail
 refine bodyPost_ret (results_none rfl _ _ _) rfl ?_
 obtain ⟨d'', ht, hs2, hm, hi2⟩ := HP.out
 exact ⟨rfl, O2.out, d'', ht, hs2, hm, fun _ => hi2⟩
set_option maxRecDepth 100000 in
theorem plcopy_cap_kid {C G C' G' E : Nat} {k d : KernS} (hF : Fit k) (hE : k.envs = (E : Int)) {e s a b : Nat} (he : e < E) (hs : s < 8) (hi : (k.sl e s).is = true) (h1 : (k.sl e s).env = (a : Int)) (h2 : (k.sl e s).slot = (b : Int)) (ha : a < E) (hb8 : b < 8) (hkab : (k.sl a b).is = true)
  (IH : ∀ w, TreeIs w C G E k → TreeIs w C' G' E d → Calls Tryz.prog 66 #[.pointer (some ⟨C', 0, none⟩), .pointer (some ⟨C, 0, none⟩), .int .i64 (a : Int), .int .i64 (b : Int)] w (CapPost C' G' E d k a b w))
  (w : World) (h : TreeIs w C G E k) (h' : TreeIs w C' G' E d) :
  Calls Tryz.prog 66 #[.pointer (some ⟨C', 0, none⟩), .pointer (some ⟨C, 0, none⟩), .int .i64 (e : Int), .int .i64 (s : Int)] w (CapPost C' G' E d k e s w) := by
 obtain ⟨y0, y1, y2, y3⟩ := capI_yes hi
 have HA := Lib.hid (cat_in he hs w h)
 rw [y0, y1, y2, y3, hi, h1, h2] at HA
 have HR := Lib.hid (fun d' (hs' : SubK d' k) (hab : (d'.sl a b).is = true) W (hW : TreeIs W C' G' E d') => more_kid hF hE he hs hi h1 h2 ha hb8 hab hs' W hW)
 unfold MorePost at HR
 have HI := Lib.hid IH
 unfold CapPost at HI
 have HD := Lib.hid h'
 have HS := Lib.hid h
 have HK := Lib.hid hkab
 have a0 : ¬ (a : Int) < 0 := by omega
 clear h h' he hs hi hF hE h1 h2 y0 y1 y2 y3 IH ha hb8 hkab
 generalize (k.sl e s).frame = z0 at HA
 generalize (k.sl e s).rights = z1 at HA HR
 go_enter Tryz.func66, Tryz.ntmps66
 go_wp2_with fail
 refine HA.out.mono ?_
 rintro x w1 ⟨rfl, hb⟩
 have BB := Lib.hid (hb.alloc hb.size (.cells #[.int .i64 z0, .int .i64 z1, .int .i64 (a : Int), .int .i64 (b : Int)] 58))
 have X1 := Lib.hid (heap_alloc_new w1 (.cells #[.int .i64 z0, .int .i64 z1, .int .i64 (a : Int), .int .i64 (b : Int)] 58))
 have HGs : Hid (G' < w1.heap.size) := Nat.lt_of_lt_of_le HD.out.lg hb.size
 clear hb
 go_wp2_with fail
 refine (HI.out _ (HS.out.later BB.out) (HD.out.later BB.out)).mono ?_
 rintro x w2 ⟨rfl, ho, d', ht, hs2, hm, hi2⟩
 have O2 := Lib.hid (tp_trans (tp_below BB.out) ho)
 have HRR := Lib.hid (HR.out d' hs2 (hi2 HK.out) w2 ht)
 have HM := Lib.hid hm
 have X2 := Lib.hid ((ho.block w1.heap.size (bk_lt X1.out) (fun e => by injection e with e; have := HGs.out; omega)).trans X1.out)
 clear ho ht hs2 hm hi2 HR
 have b1 := bk_cell X2.out 1
 have b2 := bk_cell X2.out 2
 have b3 := bk_cell X2.out 3
 have lb := bk_lt X2.out
 go_wp2_with fail
 refine HRR.out.mono ?_
 rintro x w3 ⟨⟨n, rfl⟩, ho, d'', ht, hs2, hm, hi2⟩
 have O3 := Lib.hid (tp_trans O2.out ho)
 have HP := Lib.hid (show ∃ d'', TreeIs w3 C' G' E d'' ∧ SubK d'' k ∧ (∀ a b : Nat, b < 8 → (d.sl a b).is = true → (d''.sl a b).is = true) ∧ (d''.sl e s).is = true from ⟨d'', ht, hs2, fun x y hy hxy => hm x y hy (HM.out x y hy hxy), hi2⟩)
 clear ho ht hs2 hm hi2
 go_wp2_with fail
 go_end0
 obtain ⟨d3, ht, hs2, hm, hi2⟩ := HP.out
 exact ⟨rfl, O3.out, d3, ht, hs2, hm, fun _ => hi2⟩
theorem plcopy_cap {C G C' G' E : Nat} {k : KernS} (hF : Fit k) (hE : k.envs = (E : Int)) : ∀ (n e s : Nat), e < E → s < 8 → ((k.sl e s).is = true → endB k n (e * 8 + s) = true) → ∀ (d : KernS) (w : World), TreeIs w C G E k → TreeIs w C' G' E d → SubK d k →
  Calls Tryz.prog 66 #[.pointer (some ⟨C', 0, none⟩), .pointer (some ⟨C, 0, none⟩), .int .i64 (e : Int), .int .i64 (s : Int)] w (CapPost C' G' E d k e s w)
 | 0, e, s, he, hs, hend, d, w, h, h', hsub => by
  have hi : (k.sl e s).is = false := by
   cases hi : (k.sl e s).is
   ·rfl
   ·exact Bool.noConfusion (show false = true from hend hi)
  exact plcopy_cap_none he hs hi w h h' hsub
 | n + 1, e, s, he, hs, hend, d, w, h, h', hsub => by
  cases hi : (k.sl e s).is
  ·exact plcopy_cap_none he hs hi w h h' hsub
  ·rcases hF.tree.par e s hs hi with h1 | ⟨a, b, h1, h2, h3, h4, h5⟩
   ·exact plcopy_cap_root hF hE he hs hi h1 w h h' hsub
   ·have h6 := hend hi
    rw [endB_up hs h1 h2] at h6
    exact plcopy_cap_kid hF hE he hs hi h1 h2 (by omega) h4 h5 (fun w hw hw' => plcopy_cap hF hE n a b (by omega) h4 (fun _ => h6) d w hw hw' hsub) w h h'
def takeR (i j : Nat) : Int := if j < i then 1 else 0
theorem takeR_step (i j : Nat) : takeR (i + 1) j = upR (takeR i) i 1 j := by
 unfold takeR upR
 by_cases h : j = i
 ·rw [if_pos (by omega), if_pos h]
 ·rw [if_neg h]
  by_cases h2 : j < i
  ·rw [if_pos (by omega)]
   exact (if_pos h2).symm
  ·rw [if_neg (by omega)]
   exact (if_neg h2).symm
def holdR (r : Nat → Int) (i j : Nat) : Int := if j < i ∧ 1 ≤ r j then r j else 1
theorem holdR_0 (r : Nat → Int) {N j : Nat} (hj : j < N) : holdR r 0 j = takeR N j := by
 unfold holdR takeR
 rw [if_neg (by omega), if_pos hj]
def midR (r : Nat → Int) (i m : Nat) (j : Nat) : Int := if j = i then (m : Int) + 1 else holdR r i j
theorem midR_0 (r : Nat → Int) (i j : Nat) : midR r i 0 j = holdR r i j := by
 unfold midR
 by_cases h : j = i
 ·rw [if_pos h]
  unfold holdR
  rw [if_neg (by omega)]
  rfl
 ·rw [if_neg h]
theorem midR_step (r : Nat → Int) (i m j : Nat) : midR r i (m + 1) j = upR (midR r i m) i (midR r i m i + 1) j := by
 unfold upR midR
 by_cases h : j = i
 ·rw [if_pos h, if_pos h, if_pos rfl]
  omega
 ·rw [if_neg h, if_neg h, if_neg h]
theorem midR_end (r : Nat → Int) (i m j : Nat) (h : (r i ≤ 1 ∧ m = 0) ∨ (m : Int) + 1 = r i) : midR r i m j = holdR r (i + 1) j := by
 unfold midR holdR
 by_cases hj : j = i
 ·subst hj
  rw [if_pos rfl]
  by_cases h1 : 1 ≤ r j
  ·rw [if_pos ⟨by omega, h1⟩]
   omega
  ·rw [if_neg (fun h2 => h1 h2.2)]
   omega
 ·rw [if_neg hj]
  by_cases h1 : j < i ∧ 1 ≤ r j
  ·rw [if_pos h1, if_pos ⟨by omega, h1.2⟩]
  ·rw [if_neg h1, if_neg (fun h2 => h1 ⟨by omega, h2.2⟩)]
def letR (r : Nat → Int) (N : Nat) (l : List Nat) (j : Nat) : Int := if j ∈ l then 0 else holdR r N j
theorem letR_0 (r : Nat → Int) (N : Nat) (l : List Nat) (j : Nat) : letR r N (l.take 0) j = holdR r N j := by
 unfold letR
 rw [List.take_zero, if_neg (by simp)]
theorem letR_step (r : Nat → Int) (N : Nat) (l : List Nat) {i : Nat} (hi : i < l.length) (h1 : letR r N (l.take i) l[i] = 1) (j : Nat) : letR r N (l.take (i + 1)) j = upR (letR r N (l.take i)) l[i] (letR r N (l.take i) l[i] - 1) j := by
 have hm : j ∈ l.take (i + 1) ↔ j ∈ l.take i ∨ j = l[i] := by
  rw [List.take_succ_eq_append_getElem hi, List.mem_append, List.mem_singleton]
 rw [h1]
 unfold upR
 by_cases hj : j = l[i]
 ·rw [if_pos hj]
  exact if_pos (hm.2 (Or.inr hj))
 ·rw [if_neg hj]
  unfold letR
  by_cases h2 : j ∈ l.take i
  ·rw [if_pos h2, if_pos (hm.2 (Or.inl h2))]
  ·rw [if_neg h2, if_neg (fun h3 => (hm.1 h3).elim h2 hj)]
theorem free_mem {r : Nat → Int} {N j : Nat} : j ∈ freeL r N ↔ j < N ∧ r j = 0 := by
 unfold freeL
 rw [List.mem_filter, List.mem_range, decide_eq_true_eq]
theorem free_nodup (r : Nat → Int) (N : Nat) : (freeL r N).Nodup := List.Pairwise.filter _ List.nodup_range
theorem let_one (r : Nat → Int) (N : Nat) {i : Nat} (hi : i < (freeL r N).length) : letR r N ((freeL r N).take i) (freeL r N)[i] = 1 := by
 have hm := free_mem.1 (List.getElem_mem hi)
 unfold letR
 rw [if_neg fun hc => ?_]
 ·unfold holdR
  rw [if_neg (by omega)]
 ·obtain ⟨j, hj, hjq⟩ := List.mem_take_iff_getElem.1 hc
  exact absurd hjq ((List.pairwise_iff_getElem.1 (free_nodup r N)) j i (by omega) hi (by omega))
theorem let_all (r : Nat → Int) {N j : Nat} (hj : j < N) (h0 : 0 ≤ r j) : letR r N (freeL r N) j = r j := by
 unfold letR
 by_cases h : r j = 0
 ·rw [if_pos (free_mem.2 ⟨hj, h⟩), h]
 ·rw [if_neg (fun h2 => h (free_mem.1 h2).2)]
  unfold holdR
  rw [if_pos ⟨hj, by omega⟩]
end Go.Proofs.YtdfhfmdelinemaaGreatDoor
namespace Go.Proofs.YtdfhfmdelinemaaGreatDoor
open Go.RowKit Go.Extern.Stop Go.Stop Go.Extern Go.WalkArith
theorem PoolIs.only {w w' : World} {Y Z n T : Nat} {r : Nat → Int} (h : PoolIs w Y Z n r) (ho : OnlyT T w w') (h1 : Y ≠ T) (h2 : Z ≠ T) : PoolIs w' Y Z n r :=
 h.foot ho.size (ho.block Y h.low.1 fun e => h1 (by injection e)) (ho.block Z h.low.2 fun e => h2 (by injection e))
set_option maxRecDepth 100000 in
set_option maxHeartbeats 1000000 in
theorem plcopy_refs {Y Z Y' Z' N : Nat} {r : Nat → Int} (hY : Y ≠ Z') (hZ : Z ≠ Z') (hN : N ≤ 16) (hr : ∀ j, j < N → 0 ≤ r j ∧ r j ≤ 7) (w : World) (h : PoolIs w Y Z N r) (h' : PoolIs w Y' Z' N (fun _ => 0)) :
  Calls Tryz.prog 67 #[.pointer (some ⟨Y', 0, none⟩), .pointer (some ⟨Y, 0, none⟩), .int .i64 (N : Int)] w fun x w' => x = .returned (.tuple #[]) ∧ PoolIs w' Y' Z' N r ∧ OnlyT Z' w w' := by
 have HS := Lib.hid h
 have HD := Lib.hid h'
 have H1 := Lib.hid hY
 have H2 := Lib.hid hZ
 have HR := Lib.hid hr
 have HN := Lib.hid hN
 clear h h' hY hZ hr hN
 go_enter Tryz.func67, Tryz.ntmps67
 go_wp2_with fail
 go_loopw [10] (fun iv W => ∃ i : Nat, iv = .int .i64 i ∧ i ≤ N ∧ PoolIs W Y' Z' N (takeR i) ∧ OnlyT Z' w W) (fun iv _ => (N - intOf iv).toNat)
 case atStart => exact ⟨0, rfl, by omega, HD.out.congr (fun j _ => by unfold takeR; rw [if_neg (by omega)]), tp_below (Below.refl _ _)⟩
 case round =>
  obtain ⟨i, rfl, hiN, hd, ho⟩ := hrel
  have D1 := Lib.hid hd
  have O1 := Lib.hid ho
  clear hd ho
  by_cases hi : i < N
  ·have h16 := HN.out
   have i1 : (i : Int) < (N : Int) := by omega
   have HT := Lib.hid (pool_take Y' Z' N (takeR i) i HN.out hi (by unfold takeR; rw [if_neg (by omega)]) (fun j hj => by unfold takeR; rw [if_pos hj]; decide) wr D1.out)
   go_wp2_with fail
   refine HT.out.mono ?_
   rintro x w2 ⟨rfl, hg, ho⟩
   have D2 := Lib.hid hg
   have O2 := Lib.hid (tp_trans O1.out ho)
   clear hg ho
   go_wp2_with fail
   go_roundw
   case rel => exact ⟨i + 1, by go_num, by omega, D2.out.congr (fun j _ => takeR_step i j), O2.out⟩
   case measure => simp [intOf]; omega
  ·obtain rfl : i = N := by omega
   go_wp2_with fail
   go_loopw [16] (fun iv W => ∃ j : Nat, iv = .int .i64 j ∧ j ≤ i ∧ PoolIs W Y' Z' i (holdR r j) ∧ OnlyT Z' w W) (fun iv _ => (i - intOf iv).toNat)
   case atStart => exact ⟨0, rfl, by omega, D1.out.congr (fun j hj => holdR_0 r hj), O1.out⟩
   case round =>
    clear D1 O1 hi
    obtain ⟨j, rfl, hjN, hd, ho⟩ := hrel
    have D1 := Lib.hid hd
    have O1 := Lib.hid ho
    clear hd ho
    by_cases hj : j < i
    ·have h16 := HN.out
     have i1 : (j : Int) < (i : Int) := by omega
     obtain ⟨x0, hx0⟩ : ∃ x0, r j = x0 := ⟨_, rfl⟩
     have hrj := HR.out j hj
     rw [hx0] at hrj
     have HX := Lib.hid hx0
     have HRF := Lib.hid (pool_refs_any Y Z i j r HN.out hj x0 hx0 wr (HS.out.only O1.out H1.out H2.out))
     clear hx0
     go_wp2_with fail
     refine HRF.out.mono ?_
     rintro x w2 ⟨rfl, rfl⟩
     go_wp2_with fail
     go_loopw [23] (fun mv W => ∃ m : Nat, mv = .int .i64 m ∧ (m = 0 ∨ (m : Int) + 1 ≤ x0) ∧ PoolIs W Y' Z' i (midR r j m) ∧ OnlyT Z' w W) (fun mv _ => (x0 - 1 - intOf mv).toNat)
     case atStart => exact ⟨0, rfl, Or.inl rfl, D1.out.congr (fun a _ => midR_0 r j a), O1.out⟩
     case round =>
      clear D1 O1
      obtain ⟨m, rfl, hm, hd, ho⟩ := hrel
      have D1 := Lib.hid hd
      have O1 := Lib.hid ho
      clear hd ho
      by_cases hmx : (m : Int) < x0 - 1
      ·have e1 : midR r j m j = (m : Int) + 1 := if_pos rfl
       have HH := Lib.hid (pool_hold Y' Z' i j (midR r j m) HN.out hj (by rw [e1]; omega) (by rw [e1]; omega) wr D1.out)
       clear e1
       go_wp2_with fail
       refine HH.out.mono ?_
       rintro x w3 ⟨rfl, hg, ho⟩
       have D2 := Lib.hid hg
       have O2 := Lib.hid (tp_trans O1.out ho)
       clear hg ho
       go_wp2_with fail
       go_roundw
       case rel => exact ⟨m + 1, by go_num, by omega, D2.out.congr (fun a _ => midR_step r j m a), O2.out⟩
       case measure => simp [intOf]; omega
      ·have HE := Lib.hid (show (r j ≤ 1 ∧ m = 0) ∨ (m : Int) + 1 = r j by rw [HX.out]; omega)
       go_wp2_with fail
       go_roundw
       case rel => exact ⟨j + 1, by go_num, by omega, D1.out.congr (fun a _ => (midR_end r j m a HE.out).symm), O1.out⟩
       case measure => simp [intOf]; omega
    ·obtain rfl : j = i := by omega
     have HF := Lib.hid (pool_free_own Y Z j r HN.out wr (HS.out.only O1.out H1.out H2.out))
     have hl16 := freeL_le r j
     have HZ' : Hid (Z' < wr.heap.size) := D1.out.low.2
     obtain ⟨l, hl⟩ : ∃ l, freeL r j = l := ⟨_, rfl⟩
     have HL1 := Lib.hid (fun (i : Nat) (hi : i < l.length) => (by
      subst hl
      exact let_one r j hi : letR r j (l.take i) l[i] = 1))
     have HL2 := Lib.hid (fun a (ha : a < j) => (by
      rw [← hl]
      exact let_all r ha (HR.out a ha).1 : letR r j l a = r a))
     have HL3 := Lib.hid (fun (i : Nat) (hi : i < l.length) => (by
      subst hl
      exact (free_mem.1 (List.getElem_mem hi)).1 : l[i] < j))
     rw [hl] at HF hl16
     clear hj hl
     have h16 := HN.out
     go_wp2_with fail
     refine HF.out.mono ?_
     rintro x w2 ⟨v, rfl, hrow, hb⟩
     have D2 := Lib.hid (D1.out.later hb)
     have O2 := Lib.hid (tp_trans O1.out (tp_below hb))
     have hbl := by_list hrow
     clear hrow hb
     rcases hbl with ⟨hnil, hv⟩ | ⟨b, cap, hv, hf, hbb⟩
     ·subst hnil
      subst hv
      clear HL1 HL3
      go_wp2_with fail
      go_loopw [33] (fun iv W => iv = .int .i64 0 ∧ W = w2) (fun _ _ => 0)
      case atStart => exact ⟨rfl, rfl⟩
      case round =>
       obtain ⟨rfl, rfl⟩ := hrel
       go_wp2_with fail
       go_end0
       exact ⟨rfl, D2.out.congr (fun a ha => by rw [← HL2.out a ha]; exact letR_0 r j [] a), O2.out⟩
     ·subst hv
      have F2 := Lib.hid hf
      have HB : Hid (b ≠ Z') := by have := HZ'.out; show b ≠ Z'; omega
      clear hf hbb
      go_wp2_with fail
      go_loopw [33] (fun iv W => ∃ i : Nat, iv = .int .i64 i ∧ i ≤ l.length ∧ PoolIs W Y' Z' j (letR r j (l.take i)) ∧ OnlyT Z' w W ∧ FreesAt W b l) (fun iv _ => (l.length - intOf iv).toNat)
      case atStart => exact ⟨0, rfl, by omega, D2.out.congr (fun a _ => letR_0 r j l a), O2.out, F2.out⟩
      case round =>
       clear D1 O1 D2 O2 F2
       obtain ⟨i, rfl, hil, hd, ho, hf⟩ := hrel
       have D1 := Lib.hid hd
       have O1 := Lib.hid ho
       have F1 := Lib.hid hf
       clear hd ho hf
       by_cases hi : i < l.length
       ·have i0 : (0 : Int) ≤ (i : Int) := by omega
        have i1 : (i : Int) < (l.length : Int) := by omega
        have i2 : ¬ (i : Int) < 0 := by omega
        have i3 : ¬ (l.length : Int) ≤ (i : Int) := by omega
        have hone := HL1.out i hi
        have hlt := HL3.out i hi
        have HST := Lib.hid (fun a => letR_step r j l hi hone a)
        have cf := F1.out.1 i hi
        have cl := F1.out.2
        obtain ⟨p, hp⟩ : ∃ p, l[i] = p := ⟨_, rfl⟩
        rw [hp] at hone hlt cf HST
        have HLET := Lib.hid (pool_let Y' Z' j p (letR r j (l.take i)) HN.out hlt (by rw [hone]; omega) (by rw [hone]; omega) wr D1.out)
        generalize letR r j (l.take i) p - 1 = left at HLET HST
        clear hone hlt hp
        go_wp2_with fail
        refine HLET.out.mono ?_
        rintro x w3 ⟨rfl, hg, ho⟩
        have D3 := Lib.hid hg
        have O3 := Lib.hid (tp_trans O1.out ho)
        have F3 : Hid (FreesAt w3 b l) := by
         have e1 := ho.block b F1.out.2 (fun e2 => HB.out (by injection e2))
         exact ⟨fun a ha => (World.cell?_of_block (a := ⟨b, a, none⟩) e1).trans (F1.out.1 a ha), Nat.lt_of_lt_of_le F1.out.2 ho.size⟩
        clear hg ho cf cl
        go_wp2_with fail
        go_roundw
        case rel => exact ⟨i + 1, by go_num, by omega, D3.out.congr (fun a _ => HST.out a), O3.out, F3.out⟩
        case measure => simp [intOf]; omega
       ·have i3 : ¬ (i : Int) < (l.length : Int) := by omega
        have KA : Hid (PoolIs wr Y' Z' j r) := by
         have h1 := D1.out
         rw [List.take_of_length_le (by omega)] at h1
         exact h1.congr (fun a ha => (HL2.out a ha).symm)
        go_wp2_with fail
        go_end0
        exact ⟨rfl, KA.out, O1.out⟩
def wordsTo (g : Nat → Int) (n j : Nat) : Int := if j < n then g j else 0
theorem wordsTo_step (g : Nat → Int) (n j : Nat) (v : Int) (hv : g n = v) : wordsTo g (n + 1) j = if j = n then v else wordsTo g n j := by
 unfold wordsTo
 by_cases h : j = n
 ·rw [if_pos (by omega), if_pos h, h, hv]
 ·rw [if_neg h]
  by_cases h2 : j < n
  ·rw [if_pos (by omega), if_pos h2]
  ·rw [if_neg (by omega), if_neg h2]
theorem MemIs.only {w w' : World} {M F n T : Nat} {g : Nat → Int} (h : MemIs w M F n g) (ho : OnlyT T w w') (h1 : M ≠ T) (h2 : F ≠ T) : MemIs w' M F n g :=
 h.foot ho.size (ho.block M h.2.2.2.2.1 fun e => h1 (by injection e)) (ho.block F h.2.2.2.2.2 fun e => h2 (by injection e))
set_option maxRecDepth 100000 in
set_option maxHeartbeats 1000000 in
theorem plcopy_words {M F M' F' N : Nat} {g : Nat → Int} (hM : M ≠ F') (hF : F ≠ F') (hN : N ≤ 16) (w : World) (h : MemIs w M F N g) (h' : MemIs w M' F' N (fun _ => 0)) :
  Calls Tryz.prog 68 #[.pointer (some ⟨M', 0, none⟩), .pointer (some ⟨M, 0, none⟩)] w fun x w' => x = .returned (.tuple #[]) ∧ MemIs w' M' F' N g ∧ OnlyT F' w w' := by
 have HS := Lib.hid h
 have HD := Lib.hid h'
 have H1 := Lib.hid hM
 have H2 := Lib.hid hF
 have HN := Lib.hid hN
 have HFR := Lib.hid (frames_any w M F N g h)
 clear h h' hM hF hN
 go_enter Tryz.func68, Tryz.ntmps68
 go_wp2_with fail
 refine HFR.out.mono ?_
 rintro x w1 ⟨rfl, rfl⟩
 go_wp2_with fail
 go_loopw [9] (fun iv W => ∃ i : Nat, iv = .int .i64 i ∧ i ≤ N ∧ MemIs W M' F' N (wordsTo g (i * 16)) ∧ OnlyT F' w W) (fun iv _ => (N - intOf iv).toNat)
 case atStart => exact ⟨0, rfl, by omega, HD.out.congr (fun j _ => by unfold wordsTo; rw [if_neg (by omega)]), tp_below (Below.refl _ _)⟩
 case round =>
  obtain ⟨i, rfl, hiN, hd, ho⟩ := hrel
  have D1 := Lib.hid hd
  have O1 := Lib.hid ho
  clear hd ho
  by_cases hi : i < N
  ·have h16 := HN.out
   have i1 : (i : Int) < (N : Int) := by omega
   have HI := Lib.hid hi
   have HT := Lib.hid (frame_any wr M F N i g (HS.out.only O1.out H1.out H2.out) hi HN.out)
   have HA := Lib.hid (fun a (ha : a < 16) => frame_at g i a ha)
   go_wp2_with fail
   refine HT.out.mono ?_
   rintro x w2 ⟨rfl, rfl⟩
   have BB := Lib.hid ((Below.refl wr.heap.size wr).alloc (Nat.le_refl _) (.cells (frameV g i) 218))
   have X2 := Lib.hid (heap_alloc_new wr (.cells (frameV g i) 218))
   have HFL : Hid (F' < wr.heap.size) := D1.out.2.2.2.2.2
   generalize wr.alloc (.cells (frameV g i) 218) = w2 at BB X2 ⊢
   generalize frameV g i = fv at X2 HA
   have D2 := Lib.hid (D1.out.later BB.out)
   have O2 := Lib.hid (tp_trans O1.out (tp_below BB.out))
   have HBN : Hid (wr.heap.size ≠ F') := by have := HFL.out; show wr.heap.size ≠ F'; omega
   clear HFL BB D1 O1
   generalize wr.heap.size = b at X2 HBN ⊢
   go_wp2_with fail
   go_loopw [16] (fun av W => ∃ a : Nat, av = .int .i64 a ∧ a ≤ 16 ∧ MemIs W M' F' N (wordsTo g (i * 16 + a)) ∧ OnlyT F' w W ∧ W.heap[b]? = some (.cells fv 218 (0, 0))) (fun av _ => (16 - intOf av).toNat)
   case atStart => exact ⟨0, rfl, by omega, D2.out, O2.out, X2.out⟩
   case round =>
    clear D2 O2 X2
    obtain ⟨a, rfl, ha16, hd, ho, hx⟩ := hrel
    have D1 := Lib.hid hd
    have O1 := Lib.hid ho
    have X1 := Lib.hid hx
    clear hd ho hx
    by_cases ha : a < 16
    ·have a0 : (0 : Int) ≤ (a : Int) := by omega
     have a1 : (a : Int) < 16 := by omega
     have a2 : ¬ (a : Int) < 0 := by omega
     have a3 : ¬ (16 : Int) ≤ (a : Int) := by omega
     have cx := (bk_cell X1.out a).trans (HA.out a ha)
     obtain ⟨v, hv⟩ : ∃ v, g (i * 16 + a) = v := ⟨_, rfl⟩
     rw [hv] at cx
     have cl := bk_lt X1.out
     have HW := Lib.hid (store_any wr M' F' N i a v (wordsTo g (i * 16 + a)) D1.out HI.out HN.out ha)
     have D2 := Lib.hid (D1.out.set (i := i * 16 + a) (by have := HI.out; omega) v)
     have HST := Lib.hid (fun j => wordsTo_step g (i * 16 + a) j v hv)
     have O2 := Lib.hid (tp_set O1.out (i * 16 + a) (.int .u64 v))
     have X2 := Lib.hid ((Below.heap_setCell wr ⟨F', i * 16 + a, none⟩ (.int .u64 v) b HBN.out).trans X1.out)
     clear hv
     go_wp2_with fail
     refine HW.out.mono ?_
     rintro x w4 ⟨rfl, rfl⟩
     go_wp2_with fail
     go_roundw
     case rel => exact ⟨a + 1, by go_num, by omega, D2.out.congr (fun j _ => HST.out j), O2.out, X2.out⟩
     case measure => simp [intOf]; omega
    ·have a3 : ¬ (a : Int) < 16 := by omega
     have D3 : Hid (MemIs wr M' F' N (wordsTo g ((i + 1) * 16))) := by
      have h1 := D1.out
      rw [show i * 16 + a = (i + 1) * 16 by omega] at h1
      exact h1
     have O3 := O1
     go_wp2_with fail
     go_roundw
     case rel => exact ⟨i + 1, by go_num, by omega, D3.out, O3.out⟩
     case measure => simp [intOf]; omega
  ·obtain rfl : i = N := by omega
   go_wp2_with fail
   go_end0
   exact ⟨rfl, D1.out.congr (fun j hj => by unfold wordsTo; rw [if_pos hj]), O1.out⟩
end Go.Proofs.YtdfhfmdelinemaaGreatDoor
namespace Go.Proofs.YtdfhfmdelinemaaGreatDoor
open Go.RowKit Go.Extern.Stop Go.Stop Go.Extern Go.WalkArith
def kpTo (k : KernS) (n : Nat) : KernS := { k with pt := fun e p => if e < n then k.pt e p else noPte }
theorem kpTo_pt (k : KernS) (n e p : Nat) : (kpTo k n).pt e p = if e < n then k.pt e p else noPte := rfl
structure CopyAt (w W : World) (B B' : Nat → Nat) (E N : Nat) (k d kp : KernS) (r g : Nat → Int) : Prop where
 src : KAt W B E N k
 dst : PAt W B' E N d kp r g
 sub : SubK d k
 low : ∀ i, i < 8 + E → w.heap.size ≤ B' i
 slow : ∀ i, i < 8 + E → B i < w.heap.size
 bel : Below w.heap.size w W
section
variable {w W W' : World} {B B' : Nat → Nat} {E N : Nat} {k d d' kp : KernS} {r g : Nat → Int}
theorem CopyAt.ne (h : CopyAt w W B B' E N k d kp r g) {i j : Nat} (hi : i < 8 + E) (hj : j < 8 + E) : B i ≠ B' j := by
 have h1 := h.slow i hi
 have h2 := h.low j hj
 omega
theorem CopyAt.keep (h : CopyAt w W B B' E N k d kp r g) {j : Nat} (hj : j < 8 + E) (ho : OnlyT (B' j) W W') : KAt W' B E N k ∧ Below w.heap.size w W' :=
 ⟨⟨h.src.fit, h.src.envs, h.src.frames, h.src.lies.foot ho.size fun i hi => ho.block _ (h.src.lies.lt i hi) fun e => h.ne hi hj (by injection e)⟩, tp_bl h.bel (h.low j hj) ho⟩
theorem CopyAt.under (h : CopyAt w W B B' E N k d kp r g) (hb : Below W.heap.size W W') : CopyAt w W' B B' E N k d kp r g := ⟨h.src.later hb, h.dst.later hb, h.sub, h.low, h.slow, bl_trans h.bel hb⟩
theorem CopyAt.cap (h : CopyAt w W B B' E N k d kp r g) (ho : OnlyT (B' 3) W W') (ht : TreeIs W' (B' 2) (B' 3) E d') (hs : SubK d' k) : CopyAt w W' B B' E N k d' kp r g := by
 obtain ⟨h1, h2⟩ := h.keep (by omega) ho
 exact ⟨h1, h.dst.tree_step ho ht, hs, h.low, h.slow, h2⟩
theorem pteG_to (k : KernS) (n e j : Nat) : pteG (kpTo k n) e j = if e < n then pteG k e j else 0 := by
 unfold pteG
 rw [kpTo_pt]
 by_cases h : e < n
 ·rw [if_pos h, if_pos h]
 ·rw [if_neg h, if_neg h]
  split
  ·rfl
  ·split <;> rfl
theorem CopyAt.tab {i : Nat} (h : CopyAt w W B B' E N k d (kpTo k i) r g) (hi : i < E) (ho : OnlyT (B' (8 + i)) W W') (ht : TabIs W' (B' (8 + i)) (pteG k i)) : CopyAt w W' B B' E N k d (kpTo k (i + 1)) r g := by
 obtain ⟨h1, h2⟩ := h.keep (by omega) ho
 refine ⟨h1, h.dst.tab_step hi ho ht (fun j _ => by rw [pteG_to, if_pos (by omega)]) (fun e' hne j _ => ?_), h.sub, h.low, h.slow, h2⟩
 rw [pteG_to, pteG_to]
 by_cases h3 : e' < i
 ·rw [if_pos h3, if_pos (by omega)]
 ·rw [if_neg h3, if_neg (by omega)]
theorem CopyAt.all (h : CopyAt w W B B' E N k d (kpTo k E) r g) (ha : ∀ a b : Nat, a < E → b < 8 → (k.sl a b).is = true → (d.sl a b).is = true) : CopyAt w W B B' E N k k k r g := by
 have ht : TreeIs W (B' 2) (B' 3) E k := h.dst.tree.same2 h.src.fit.tree h.sub.envs.symm fun a b hae hb i => by
  cases hk : (k.sl a b).is
  ·cases hd : (d.sl a b).is
   ·rw [capI_no hk, capI_no hd]
   ·rw [h.sub.same a b hb hd]
  ·rw [h.sub.same a b hb (ha a b hae hb hk)]
 have h2 : PAt W B' E N k (kpTo k E) r g := h.dst.tree_step (tp_below (Below.refl _ _)) ht
 exact ⟨h.src, h2.congr h.src.fit.tree rfl (fun _ _ _ _ => rfl) (fun e p he _ => by rw [kpTo_pt, if_pos he]) (fun _ _ => rfl) (fun _ _ => rfl), ⟨h.src.fit.tree, rfl, fun _ _ _ _ => rfl⟩, h.low, h.slow, h.bel⟩
theorem CopyAt.refs (h : CopyAt w W B B' E N k k k r g) (ho : OnlyT (B' 5) W W') (hp : PoolIs W' (B' 4) (B' 5) N (refsI k)) : CopyAt w W' B B' E N k k k (refsI k) g := by
 have hE := h.dst.eE
 obtain ⟨h1, h2⟩ := h.keep (by omega) ho
 exact ⟨h1, h.dst.pool_step ho hp, h.sub, h.low, h.slow, h2⟩
theorem CopyAt.words (h : CopyAt w W B B' E N k k k r g) (ho : OnlyT (B' 7) W W') (hp : MemIs W' (B' 6) (B' 7) N (mmG k)) : CopyAt w W' B B' E N k k k r (mmG k) := by
 have hE := h.dst.eE
 obtain ⟨h1, h2⟩ := h.keep (by omega) ho
 exact ⟨h1, h.dst.mem_step ho hp, h.sub, h.low, h.slow, h2⟩
theorem ent_zero (h : Fit k) (e : Nat) : ∀ p, p < 8 → pteG k e (p * 3 + 2) = 0 → pteG k e (p * 3) = 0 ∧ pteG k e (p * 3 + 1) = 0 := fun p _ h0 => by
 obtain ⟨g0, g1, g2⟩ := pteG_at k e p
 rw [g2] at h0
 rw [g0, g1, h.neat e p h0]
 exact ⟨rfl, rfl⟩
theorem ent_may (h : Fit k) (e : Nat) : ∀ p, p < 8 → ¬ pteG k e (p * 3 + 2) = 0 → mayIns (pteG k e (p * 3)) (pteG k e (p * 3 + 1)) (pteG k e (p * 3 + 2)) = true := fun p hp h0 => by
 obtain ⟨g0, g1, g2⟩ := pteG_at k e p
 rw [g2] at h0
 rw [g0, g1, g2]
 obtain ⟨hr, s, h1, h2, h3, h4⟩ := h.ent e p hp h0
 have h5 := h.own e s h1 h3
 have h6 := h.frames
 unfold mayIns
 rw [decide_eq_true (by omega), decide_eq_true (by omega), decide_eq_true (by omega)]
 rfl
theorem refsI_new (c e f : Int) (j : Nat) : refsI (newK c e f) j = 0 := by
 unfold refsI
 have : ∀ n, refsN (newK c e f) (j : Int) n = 0 := fun n => by
  induction n with
  | zero => rfl
  | succ n ih => rw [refsN_no (show ofB (newK c e f) (j : Int) n = false from rfl), ih]
 rw [this]
 rfl
theorem CopyAt.start {c e f : Int} (h : CopyAt w W B B' E N k (newK c e f) (newK c e f) (refsI (newK c e f)) (mmG (newK c e f))) : CopyAt w W B B' E N k (newK c e f) (kpTo k 0) (fun _ => 0) (fun _ => 0) :=
 ⟨h.src, h.dst.congr h.dst.tree.ok rfl (fun _ _ _ _ => rfl) (fun e p _ _ => by rw [kpTo_pt, if_neg (Nat.not_lt_zero _)]; rfl) (fun j _ => (refsI_new c e f j).symm) (fun _ _ => rfl), h.sub, h.low, h.slow, h.bel⟩
theorem refsI_in (h : Fit k) (j : Nat) : 0 ≤ refsI k j ∧ refsI k j ≤ 7 := by
 have := h.refs (j : Int)
 unfold refsI
 omega
set_option maxRecDepth 100000 in
set_option maxHeartbeats 2000000 in
theorem plcopy_walk (w : World) (h : KAt w B E N k) :
  Calls Tryz.prog 19 #[.pointer (some ⟨B 0, 0, none⟩)] w fun x w' => ∃ B' : Nat → Nat, x = .returned (.pointer (some ⟨B' 0, 0, none⟩)) ∧ KAt w' B' E N k ∧ (∀ i, i < 8 + E → w.heap.size ≤ B' i) ∧ Below w.heap.size w w' := by
 have hfit := h.fit
 have HFI := Lib.hid hfit
 have HK := Lib.hid h
 have HEN := Lib.hid h.envs
 have HE4 := Lib.hid h.lies.eE
 have HN16 := Lib.hid h.lies.nN
 have HFR := Lib.hid (fun W (hW : KAt W B E N k) => frames_any W (B 6) (B 7) N (mmG k) hW.lies.mem)
 have HNEW := Lib.hid (fun W => plfresh_any h.lies.eE h.lies.nN W)
 unfold FreshAt at HNEW
 clear h hfit
 go_enter Tryz.func19, Tryz.ntmps19
 go_wp2_with fail
 have KD : Hid (KAt w.drew B E N k) := HK.out.later (dn (Below.refl _ _) 1)
 have hS : w.drew.cell? ⟨B 0, 0, none⟩ = some (.slice (some ⟨B 1, 0, none⟩) E E) ∧ w.drew.cell? ⟨B 0, 3, none⟩ = some (.pointer (some ⟨B 6, 0, none⟩)) := ⟨KD.out.lies.c0, KD.out.lies.c3⟩
 go_region_held3 (fun w' => w'.cell? ⟨B 0, 0, none⟩ = some (.slice (some ⟨B 1, 0, none⟩) E E) ∧ w'.cell? ⟨B 0, 3, none⟩ = some (.pointer (some ⟨B 6, 0, none⟩))) (exact hS)
  (first
   | (go_at_call 64; refine (HFR.out _ KD.out).mono ?_; rintro e' wn ⟨rfl, rfl⟩)
   | (go_at_call 44; refine (HNEW.out _).mono ?_; rintro e' wn ⟨B', rfl, hk, hl, hb⟩; have KN := Lib.hid (KD.out.later hb); have C1 := Lib.hid (⟨KN.out, (hk k.cores).lies, ⟨(hk k.cores).fit.tree, by rw [HEN.out]; rfl, fun _ _ _ h => absurd (show false = true from h) (by decide)⟩, hl, HK.out.lies.lt, bl_trans (dn (Below.refl _ _) 1) hb⟩ : CopyAt w wn B B' E N k (newK k.cores (E : Int) (N : Int)) (newK k.cores (E : Int) (N : Int)) (refsI (newK k.cores (E : Int) (N : Int))) (mmG (newK k.cores (E : Int) (N : Int)))); have hS : wn.cell? ⟨B 0, 0, none⟩ = some (.slice (some ⟨B 1, 0, none⟩) E E) ∧ wn.cell? ⟨B 0, 3, none⟩ = some (.pointer (some ⟨B 6, 0, none⟩)) := ⟨KN.out.lies.c0, KN.out.lies.c3⟩; clear hk hl hb))
 have C2 := Lib.hid C1.out.start
 have HIN : Hid (∃ d, CopyAt w wn B B' E N k d (kpTo k 0) (fun _ => 0) (fun _ => 0)) := ⟨_, C2.out⟩
 clear C1 C2 hS
 have c0 := KN.out.lies.c0
 have l0 := KN.out.rowlt.1
 go_wp2_with fail
 go_loopw [25] (fun iv W => ∃ (i : Nat) (d : KernS), iv = .int .i64 i ∧ i ≤ E ∧ CopyAt w W B B' E N k d (kpTo k i) (fun _ => 0) (fun _ => 0) ∧ ∀ a b : Nat, a < i → b < 8 → (k.sl a b).is = true → (d.sl a b).is = true) (fun iv _ => (E - intOf iv).toNat)
 case atStart =>
  obtain ⟨d, hd⟩ := HIN.out
  exact ⟨0, d, rfl, by omega, hd, fun a b ha => absurd ha (Nat.not_lt_zero _)⟩
 case round =>
  clear HIN KN c0 l0
  obtain ⟨i, d, rfl, hiE, hc, ha⟩ := hrel
  have C1 := Lib.hid hc
  have A1 := Lib.hid ha
  clear hc ha
  by_cases hi : i < E
  ·have h4 := HE4.out
   have i0 : (0 : Int) ≤ (i : Int) := by omega
   have i1 : (i : Int) < (E : Int) := by omega
   have i2 : ¬ (i : Int) < 0 := by omega
   have i3 : ¬ (E : Int) ≤ (i : Int) := by omega
   have HI := Lib.hid hi
   have cr := C1.out.src.lies.row i hi
   have c0 := C1.out.dst.c0
   have cd := C1.out.dst.row i hi
   have l1 := C1.out.src.rowlt.2
   have m0 := C1.out.dst.lt 0 (by omega)
   have m1 := C1.out.dst.lt 1 (by omega)
   have HT := Lib.hid (plcopy_entries (C1.out.ne (show 8 + i < 8 + E by omega) (show 8 + i < 8 + E by omega)) (ent_zero HFI.out i) (ent_may HFI.out i) wr (C1.out.src.lies.tabs i hi) ((C1.out.dst.tabs i hi).congr fun j _ => by rw [pteG_to, if_neg (Nat.lt_irrefl i)]))
   go_wp2_with fail
   refine HT.out.mono ?_
   rintro x w2 ⟨rfl, hg, ho⟩
   have C2 := Lib.hid (C1.out.tab HI.out ho hg)
   clear hg ho cr c0 cd l1 m0 m1
   go_wp2_with fail
   go_loopw [39] (fun sv W => ∃ (s : Nat) (d : KernS), sv = .int .i64 s ∧ s ≤ 8 ∧ CopyAt w W B B' E N k d (kpTo k (i + 1)) (fun _ => 0) (fun _ => 0) ∧ (∀ a b : Nat, a < i → b < 8 → (k.sl a b).is = true → (d.sl a b).is = true) ∧ ∀ b : Nat, b < s → (k.sl i b).is = true → (d.sl i b).is = true) (fun sv _ => (8 - intOf sv).toNat)
   case atStart => exact ⟨0, d, rfl, by omega, C2.out, A1.out, fun b hb => absurd hb (Nat.not_lt_zero _)⟩
   case round =>
    clear C1 C2 A1
    obtain ⟨s, d1, rfl, hs8, hc, ha, hb⟩ := hrel
    have C1 := Lib.hid hc
    have A1 := Lib.hid ha
    have B1 := Lib.hid hb
    clear hc ha hb
    by_cases hs : s < 8
    ·have s1 : (s : Int) < 8 := by omega
     have c1 := C1.out.src.lies.c1
     have k1 := C1.out.dst.c1
     have l0 := C1.out.src.rowlt.1
     have m0 := C1.out.dst.lt 0 (by omega)
     have HC := Lib.hid (fun W (hW : CopyAt w W B B' E N k d1 (kpTo k (i + 1)) (fun _ => 0) (fun _ => 0)) => plcopy_cap (C' := B' 2) (G' := B' 3) HFI.out HEN.out 32 i s HI.out hs (fun hi2 => HFI.out.tree.end32 hs hi2) d1 W hW.src.lies.tree hW.dst.tree hW.sub)
     unfold CapPost at HC
     go_wp2_with fail
     go_still_tail 10, (by kernel_rfl)
     change wpList _ _ _ _ _ wr.drew
     go_wp2_with fail
     have C2 := Lib.hid (C1.out.under (dn (Below.refl _ _) 1))
     refine (HC.out _ C2.out).mono ?_
     rintro x w3 ⟨rfl, ho, d2, ht, hs2, hm, hi2⟩
     have C3 := Lib.hid (C2.out.cap ho ht hs2)
     have A2 : Hid (∀ a b : Nat, a < i → b < 8 → (k.sl a b).is = true → (d2.sl a b).is = true) := fun a b ha hb hk => hm a b hb (A1.out a b ha hb hk)
     have B2 : Hid (∀ b : Nat, b < s + 1 → (k.sl i b).is = true → (d2.sl i b).is = true) := fun b hb hk => by
      by_cases hbs : b = s
      ·subst hbs
       exact hi2 hk
      ·exact hm i b (by omega) (B1.out b (by omega) hk)
     clear ho ht hs2 hm hi2 c1 k1 l0 m0
     go_wp2_with fail
     go_roundw
     case rel => exact ⟨s + 1, d2, by go_num, by omega, C3.out, A2.out, B2.out⟩
     case measure => simp [intOf]; omega
    ·have A2 : Hid (∀ a b : Nat, a < i + 1 → b < 8 → (k.sl a b).is = true → (d1.sl a b).is = true) := fun a b ha hb hk => by
      by_cases hai : a = i
      ·subst hai
       exact B1.out b (by omega) hk
      ·exact A1.out a b (by omega) hb hk
     have s3 : ¬ (s : Int) < 8 := by omega
     go_wp2_with fail
     go_roundw
     case rel => exact ⟨i + 1, d1, by go_num, by omega, C1.out, A2.out⟩
     case measure => simp [intOf]; omega
  ·have h4 := HE4.out
   have i3 : ¬ (i : Int) < (E : Int) := by omega
   have hiE2 : i = E := by omega
   have C2 : Hid (CopyAt w wr B B' E N k k k (fun _ => 0) (fun _ => 0)) := by
    have h1 := C1.out
    rw [hiE2] at h1
    exact h1.all fun a b ha hb hk => A1.out a b (by omega) hb hk
   clear C1 A1 hiE2
   have c2 := C2.out.src.lies.c2
   have c3 := C2.out.src.lies.c3
   have k2 := C2.out.dst.c2
   have l0 := C2.out.src.rowlt.1
   have m0 := C2.out.dst.lt 0 (by omega)
   go_wp2_with fail
   have CD : Hid (CopyAt w wr.drew B B' E N k k k (fun _ => 0) (fun _ => 0)) := C2.out.under (dn (Below.refl _ _) 1)
   have hS : wr.drew.cell? ⟨B 0, 2, none⟩ = some (.pointer (some ⟨B 4, 0, none⟩)) ∧ wr.drew.cell? ⟨B 0, 3, none⟩ = some (.pointer (some ⟨B 6, 0, none⟩)) ∧ wr.drew.cell? ⟨B' 0, 2, none⟩ = some (.pointer (some ⟨B' 4, 0, none⟩)) := ⟨c2, c3, k2⟩
   have HCR := Lib.hid (fun W (hW : CopyAt w W B B' E N k k k (fun _ => 0) (fun _ => 0)) => plcopy_refs (hW.ne (show 4 < 8 + E by omega) (show 5 < 8 + E by omega)) (hW.ne (show 5 < 8 + E by omega) (show 5 < 8 + E by omega)) HN16.out.2 (fun j _ => refsI_in HFI.out j) W hW.src.lies.pool hW.dst.pool)
   clear c2 c3 k2 l0 m0
   go_region_held3 (fun w' => w'.cell? ⟨B 0, 2, none⟩ = some (.pointer (some ⟨B 4, 0, none⟩)) ∧ w'.cell? ⟨B 0, 3, none⟩ = some (.pointer (some ⟨B 6, 0, none⟩)) ∧ w'.cell? ⟨B' 0, 2, none⟩ = some (.pointer (some ⟨B' 4, 0, none⟩))) (exact hS)
    (first
     | (go_at_call 64; refine (HFR.out _ CD.out.src).mono ?_; rintro e' wm ⟨rfl, rfl⟩)
     | (go_at_call 67; refine (HCR.out _ CD.out).mono ?_; rintro e' wm ⟨rfl, hp, ho⟩; have C3 := Lib.hid (CD.out.refs ho hp); have hS : wm.cell? ⟨B 0, 2, none⟩ = some (.pointer (some ⟨B 4, 0, none⟩)) ∧ wm.cell? ⟨B 0, 3, none⟩ = some (.pointer (some ⟨B 6, 0, none⟩)) ∧ wm.cell? ⟨B' 0, 2, none⟩ = some (.pointer (some ⟨B' 4, 0, none⟩)) := ⟨C3.out.src.lies.c2, C3.out.src.lies.c3, C3.out.dst.c2⟩; clear hp ho))
   have c3 := C3.out.src.lies.c3
   have k3 := C3.out.dst.c3
   have l0 := C3.out.src.rowlt.1
   have m0 := C3.out.dst.lt 0 (by omega)
   have HCW := Lib.hid (fun W (hW : CopyAt w W B B' E N k k k (refsI k) (fun _ => 0)) => plcopy_words (hW.ne (show 6 < 8 + E by omega) (show 7 < 8 + E by omega)) (hW.ne (show 7 < 8 + E by omega) (show 7 < 8 + E by omega)) HN16.out.2 W hW.src.lies.mem hW.dst.mem)
   go_wp2_with fail
   go_still_tail 8, (by kernel_rfl)
   change wpList _ _ _ _ _ wm.drew
   go_wp2_with fail
   have C4 := Lib.hid (C3.out.under (dn (Below.refl _ _) 1))
   refine (HCW.out _ C4.out).mono ?_
   rintro x w5 ⟨rfl, hp, ho⟩
   have C5 := Lib.hid (C4.out.words ho hp)
   clear hp ho c3 k3 l0 m0
   go_wp2_with fail
   go_ret
   exact ⟨B', rfl, ⟨HFI.out, HEN.out, HK.out.frames, C5.out.dst⟩, C5.out.low, C5.out.bel⟩
end
end Go.Proofs.YtdfhfmdelinemaaGreatDoor
