/- What is proved here: kernels of package plain and the document's side by side. Conditions: those that each theorem names. -/
import Derived.Test.YtdfhfmdelinemaaGreatDoorGTree
import Derived.Test.YtdfhfmdelinemaaGreatDoorGTreeB
import Derived.RegionTactic
import Derived.WalkArith
import Derived.Deep.QuietTactic
import Derived.BigQuiet
import Derived.Test.YtdfhfmdelinemaaGreatDoorGKerE
import Derived.StillTailTactics
namespace Go.Proofs.YtdfhfmdelinemaaGreatDoor
open Go.RowKit Go.Extern.Stop Go.Stop Go.Extern Go.WalkArith
def PairAt (At : World → (Nat → Prop) → Nat → KernS → Prop) (w : World) (S : Nat → Prop) (P K : Nat) (k : KernS) (W : World) : Prop := At W S P k ∧ KernIs W K k ∧ Below w.heap.size w W
section
variable {At : World → (Nat → Prop) → Nat → KernS → Prop} {w W W' : World} {S : Nat → Prop} {P K : Nat} {k : KernS}
theorem PairAt.under (H : PlainC At) (h : PairAt At w S P K k W) (hb : Below W.heap.size W W') : PairAt At w S P K k W' :=
 ⟨H.foot _ _ _ _ _ h.1 hb.size fun i hi => hb.block i (H.low _ _ _ _ h.1 i hi), h.2.1.later hb, bl_trans h.2.2 hb⟩
theorem pair_cap (H : PlainC At) {e s : Nat} (h : PairAt At w S P K k W) (he : (e : Int) < k.envs) (hs : s < 8) :
  Calls Tryz.prog 22 #[.pointer (some ⟨P, 0, none⟩), .int .i64 (e : Int), .int .i64 (s : Int)] W fun x W' => ∃ v, x = .returned v ∧ (((k.sl e s).is = true ∧ CapIs (k.sl e s) v) ∨ ((k.sl e s).is = false ∧ v = noCapV)) ∧ PairAt At w S P K k W' := by
 refine (H.cap_ P S k e s W h.1 he hs).mono ?_
 rintro x W' ⟨v, rfl, h4, hb⟩
 exact ⟨v, rfl, h4, h.under H hb⟩
theorem pair_pte (H : PlainC At) {e p : Nat} (h : PairAt At w S P K k W) (hn : Neat k) (he : (e : Int) < k.envs) (hp : p < 8) :
  Calls Tryz.prog 60 #[.pointer (some ⟨P, 0, none⟩), .int .i64 (e : Int), .int .i64 (p : Int)] W fun x W' => x = .returned (pteT (k.pt e p) (!((k.pt e p).rights == 0))) ∧ PairAt At w S P K k W' := by
 refine (H.pte_ P S k e p W h.1 he hp).mono ?_
 rintro x W' ⟨v, rfl, h4 | h4, hb⟩
 ·obtain rfl := h4.2
  refine ⟨?_, h.under H hb⟩
  rw [beq_false_of_ne h4.1]
  rfl
 ·obtain rfl := h4.2
  refine ⟨?_, h.under H hb⟩
  rw [hn e p h4.1]
  rfl
theorem pair_free (H : PlainC At) (h : PairAt At w S P K k W) :
  Calls Tryz.prog 23 #[.pointer (some ⟨P, 0, none⟩)] W fun x W' => ∃ v, x = .returned v ∧ SliceIs W' v (freeK k k.frames.toNat).length (pagesV (freeK k k.frames.toNat)) ∧ PairAt At w S P K k W' := by
 refine (H.free_ P S k W h.1).mono ?_
 rintro x W' ⟨v, rfl, h4, hb⟩
 exact ⟨v, rfl, h4, h.under H hb⟩
set_option maxRecDepth 100000 in
set_option maxHeartbeats 8000000 in
theorem alike_any (H : PlainC At) (hn : Neat k) (w : World) (h : PairAt At w S P K k w) :
  Calls Tryz.prog 15 #[.pointer (some ⟨P, 0, none⟩), .pointer (some ⟨K, 0, none⟩)] w fun x w' => x = .returned (.bool true) ∧ Below w.heap.size w w' := by
 have HC := Lib.hid H
 have HN := Lib.hid hn
 have hs := H.sane _ _ _ _ h.1
 have he4 := hs.envs
 have hf16 := hs.frames
 have H0 := Lib.hid h
 clear h hn H hs
 obtain ⟨E, hE⟩ := nat_of (show 0 ≤ k.envs by omega)
 have hE4 : E ≤ 4 := by omega
 have HE := Lib.hid hE
 clear he4 hE
 go_enter Tryz.func15, Tryz.ntmps15
 go_wp2_with fail
 go_loopw [5] (fun ev W => ∃ e : Nat, ev = .int .i64 e ∧ e ≤ E ∧ PairAt At w S P K k W) (fun ev _ => (E - intOf ev).toNat)
 case atStart => exact ⟨0, rfl, by omega, H0.out⟩
 case round =>
  obtain ⟨e, rfl, he, hp⟩ := hrel
  have HP := Lib.hid hp
  clear hp H0
  have z1 := HP.out.2.1.sizes.2.1
  rw [HE.out] at z1
  by_cases h1 : e < E
  ·have e1 : (e : Int) < (E : Int) := by omega
   go_wp2_with fail
   go_loopw [6] (fun sv W => ∃ s : Nat, sv = .int .i64 s ∧ s ≤ 8 ∧ PairAt At w S P K k W) (fun sv _ => (8 - intOf sv).toNat)
   case atStart => exact ⟨0, rfl, by omega, HP.out⟩
   case round =>
    clear z1
    obtain ⟨s, rfl, hs, hp⟩ := hrel
    have HP2 := Lib.hid hp
    clear hp HP
    by_cases h2 : s < 8
    ·have s1 : (s : Int) < 8 := by omega
     go_wp2_with fail
     refine (pair_cap HC.out HP2.out (by rw [HE.out]; exact e1) h2).mono ?_
     rintro x W' ⟨v, rfl, hv, hp⟩
     have HP3 := Lib.hid hp
     clear hp
     obtain ⟨c0, c1, c2, c3, c4⟩ := HP3.out.2.1.slot (show e < 4 by omega) h2
     have lK := HP3.out.2.1.lt
     rcases hv with ⟨hi, hv⟩ | ⟨hi, rfl⟩
     ·obtain ⟨a, b, rfl, hlo, hhi⟩ := hv
      rw [hi] at c0
      clear hi
      generalize k.sl e s = q at c1 c2 c3 c4 hlo hhi ⊢
      obtain ⟨i0, fr, ri, en, sl⟩ := q
      dsimp only at c1 c2 c3 c4 hlo hhi ⊢
      clear i0
      by_cases hq : en < 0
      ·have hq2 := hlo hq
       have hq3 : ¬ 0 ≤ en := by omega
       clear hlo hhi
       go_wp2_with fail
       go_roundw
       case rel => exact ⟨s + 1, by go_num, by omega, HP3.out.under HC.out (((Below.refl _ _).alloc (Nat.le_refl _) _).alloc (by simp) _)⟩
       case measure => simp [intOf]; omega
      ·obtain ⟨ha, hb⟩ := hhi (by omega)
       subst ha
       subst hb
       clear hlo hhi
       have hq3 : 0 ≤ a := by omega
       go_wp2_with fail
       go_roundw
       case rel => exact ⟨s + 1, by go_num, by omega, HP3.out.under HC.out (((Below.refl _ _).alloc (Nat.le_refl _) _).alloc (by simp) _)⟩
       case measure => simp [intOf]; omega
     ·rw [hi] at c0
      clear hi
      generalize k.sl e s = q at c1 c2 c3 c4
      go_wp2_with fail
      go_roundw
      case rel => exact ⟨s + 1, by go_num, by omega, HP3.out.under HC.out (((Below.refl _ _).alloc (Nat.le_refl _) _).alloc (by simp) _)⟩
      case measure => simp [intOf]; omega
    ·obtain rfl : s = 8 := by omega
     go_wp2_with fail
     go_loopw [10] (fun pv W => ∃ p : Nat, pv = .int .i64 p ∧ p ≤ 8 ∧ PairAt At w S P K k W) (fun pv _ => (8 - intOf pv).toNat)
     case atStart => exact ⟨0, rfl, by omega, HP2.out⟩
     case round =>
      obtain ⟨p, rfl, hp8, hp⟩ := hrel
      have HP4 := Lib.hid hp
      clear hp HP2
      by_cases h3 : p < 8
      ·have p1 : (p : Int) < 8 := by omega
       go_wp2_with fail
       refine (pair_pte HC.out HP4.out HN.out (by rw [HE.out]; exact e1) h3).mono ?_
       rintro x W' ⟨rfl, hp⟩
       have HP3 := Lib.hid hp
       clear hp
       obtain ⟨c0, c1, c2⟩ := HP3.out.2.1.pte (show e < 4 by omega) h3
       have lK := HP3.out.2.1.lt
       generalize k.pt e p = q at c0 c1 c2 ⊢
       obtain ⟨fr, sl, ri⟩ := q
       dsimp only at c0 c1 c2 ⊢
       by_cases hr : ri = 0
       ·subst hr
        go_wp2_with fail
        go_quiet (fail)
        go_wp2_with fail
        go_roundw
        case rel => exact ⟨p + 1, by go_num, by omega, HP3.out.under HC.out (dn ((Below.refl _ _).alloc (Nat.le_refl _) _) _)⟩
        case measure => simp [intOf]; omega
       ·have hr1 : (ri == 0) = false := beq_eq_false_iff_ne.2 hr
        have hr2 : (ri != 0) = true := by rw [bne, hr1]; rfl
        clear hr
        go_wp2_with fail
        go_quiet (fail)
        go_wp2_with fail
        go_roundw
        case rel => exact ⟨p + 1, by go_num, by omega, HP3.out.under HC.out (dn ((Below.refl _ _).alloc (Nat.le_refl _) _) _)⟩
        case measure => simp [intOf]; omega
      ·obtain rfl : p = 8 := by omega
       go_wp2_with fail
       go_roundw
       case rel => exact ⟨e + 1, by go_num, by omega, HP4.out⟩
       case measure => simp [intOf]; omega
  ·obtain rfl : e = E := by omega
   go_wp2_with fail
   refine (pair_free HC.out HP.out).mono ?_
   rintro x W' ⟨v, rfl, hv, hp⟩
   have HV := Lib.hid hv
   have HP2 := Lib.hid hp
   clear hp hv
   obtain ⟨F, hF⟩ := nat_of hf16.1
   have HF := Lib.hid hF
   have hF16 : F ≤ 16 := by omega
   go_wp2_with fail
   refine (kref_free K k F hF (by omega) W' HP2.out.2.1).mono ?_
   rintro x W2 ⟨v2, rfl, ho, hb⟩
   have HV2 := own_slice ho
   have HV1 := HV.out.later hb
   rw [hF, Int.toNat_natCast] at HV1
   have B2 := Lib.hid (bl_trans HP2.out.2.2 hb)
   clear ho hb HV HP2 hF HF HP z1 hf16
   obtain ⟨L, hL⟩ : ∃ L, L = freeK k F := ⟨_, rfl⟩
   rw [← hL] at HV1 HV2
   have hX : ∀ j, j < L.length → (pagesV L)[j]? = some (.int .i64 ((L.getD j 0 : Nat) : Int)) := fun j hj => by
    unfold pagesV
    rw [List.getElem?_map, List.getElem?_eq_getElem hj]
    simp [List.getD_eq_getElem?_getD, List.getElem?_eq_getElem hj]
   have hL16 : L.length ≤ 16 := by
    have := List.length_filter_le (fun f : Nat => decide (refsN k f 32 = 0)) (List.range F)
    rw [List.length_range] at this
    rw [hL]
    exact Nat.le_trans this hF16
   obtain ⟨n, hn⟩ : ∃ n, n = L.length := ⟨_, rfl⟩
   rw [← hn] at HV1 HV2 hX hL16
   obtain ⟨a1, cap1, g1, rfl, hv1⟩ := HV1
   obtain ⟨a2, cap2, g2, rfl, hv2⟩ := HV2
   have V1 := Lib.hid hv1
   have V2 := Lib.hid hv2
   have HX := Lib.hid hX
   clear hv1 hv2 hX hL hn hF16
   go_wp2_with fail
   go_loopw [132] (fun jv W => ∃ j : Nat, jv = .int .i64 j ∧ j ≤ n ∧ Below W2.heap.size W2 W) (fun jv _ => (n - intOf jv).toNat)
   case atStart => exact ⟨0, rfl, by omega, Below.refl _ _⟩
   case round =>
    obtain ⟨j, rfl, hj, hb⟩ := hrel
    have HB := Lib.hid hb
    clear hb
    by_cases h1 : j < n
    ·have j1 : (j : Int) < (n : Int) := by omega
     obtain ⟨rfl, l1, d1⟩ := V1.out (by omega)
     obtain ⟨rfl, l2, d2⟩ := V2.out (by omega)
     have c1 := (HB.out.cell (p := ⟨g1, j, none⟩) l1).trans (d1 j _ (HX.out j h1))
     have c2 := (HB.out.cell (p := ⟨g2, j, none⟩) l2).trans (d2 j _ (HX.out j h1))
     generalize ((L.getD j 0 : Nat) : Int) = y at c1 c2
     clear d1 d2
     go_wp2_with fail
     go_quiet (fail)
     go_wp2_with fail
     go_roundw
     case rel => exact ⟨j + 1, by go_num, by omega, dn HB.out _⟩
     case measure => simp [intOf]; omega
    ·obtain rfl : j = n := by omega
     go_wp2_with fail
     go_ret
     exact ⟨rfl, bl_trans B2.out HB.out⟩
end
end Go.Proofs.YtdfhfmdelinemaaGreatDoor
namespace Go.Proofs.YtdfhfmdelinemaaGreatDoor
open Go.RowKit Go.Extern.Stop Go.Stop Go.Extern Go.WalkArith
section
variable {At : World → (Nat → Prop) → Nat → KernS → Prop} {w W W' : World} {S : Nat → Prop} {P K : Nat} {k : KernS}
theorem pair_frame (H : PlainC At) {f : Nat} (h : PairAt At w S P K k W) (hf : (f : Int) < k.frames) :
  Calls Tryz.prog 24 #[.pointer (some ⟨P, 0, none⟩), .int .i64 (f : Int)] W fun x W' => ∃ (g cap : Nat) (u : Nat → Int), x = .returned (.slice (some ⟨g, 0, none⟩) 16 cap) ∧ g < W'.heap.size ∧ (∀ i, i < 16 → W'.cell? ⟨g, i, none⟩ = some (.int .u64 (u i))) ∧ (0 < refsN k f 32 → ∀ i, i < 16 → u i = k.mm f i) ∧ PairAt At w S P K k W' := by
 refine (H.frame_ P S k f W h.1 hf).mono ?_
 rintro x W' ⟨g, cap, u, rfl, h1, h2, h3, hb⟩
 exact ⟨g, cap, u, rfl, h1, h2, h3, h.under H hb⟩
set_option maxRecDepth 100000 in
set_option maxHeartbeats 8000000 in
theorem words_any (H : PlainC At) (w : World) (h : PairAt At w S P K k w) :
  Calls Tryz.prog 16 #[.pointer (some ⟨P, 0, none⟩), .pointer (some ⟨K, 0, none⟩)] w fun x w' => x = .returned (.bool true) ∧ Below w.heap.size w w' := by
 have HC := Lib.hid H
 have hs := H.sane _ _ _ _ h.1
 have hf16 := hs.frames
 have H0 := Lib.hid h
 clear h H hs
 obtain ⟨F, hF⟩ := nat_of hf16.1
 have hF4 : F ≤ 16 := by omega
 have HF := Lib.hid hF
 clear hf16 hF
 go_enter Tryz.func16, Tryz.ntmps16
 go_wp2_with fail
 go_loopw [5] (fun ev W => ∃ e : Nat, ev = .int .i64 e ∧ e ≤ F ∧ PairAt At w S P K k W) (fun ev _ => (F - intOf ev).toNat)
 case atStart => exact ⟨0, rfl, by omega, H0.out⟩
 case round =>
  obtain ⟨f, rfl, hf, hp⟩ := hrel
  have HP := Lib.hid hp
  clear hp H0
  have z1 := HP.out.2.1.sizes.2.2
  rw [HF.out] at z1
  by_cases h1 : f < F
  ·have e1 : (f : Int) < (F : Int) := by omega
   go_wp2_with fail
   refine (pair_frame HC.out HP.out (by rw [HF.out]; exact e1)).mono ?_
   rintro x W' ⟨g, cap, u, rfl, hg, hc, hu, hp⟩
   have HP2 := Lib.hid hp
   have HG := Lib.hid hc
   have HU := Lib.hid hu
   have B2 : Hid (Below w.heap.size w W') := hp.2.2
   clear hp hc hu z1 HP
   go_wp2_with fail
   go_loopw [25] (fun jv W => ∃ j : Nat, jv = .int .i64 j ∧ j ≤ 16 ∧ Below W'.heap.size W' W) (fun jv _ => (16 - intOf jv).toNat)
   case atStart => exact ⟨0, rfl, by omega, Below.refl _ _⟩
   case round =>
    obtain ⟨j, rfl, hj, hb⟩ := hrel
    have HB := Lib.hid hb
    clear hb
    by_cases h2 : j < 16
    ·have j1 : (j : Int) < 16 := by omega
     have c1 := (HB.out.cell (p := ⟨g, j, none⟩) hg).trans (HG.out j h2)
     have HK := Lib.hid (HP2.out.2.1.later HB.out)
     have HR := Lib.hid (fun V (hV : KernIs V K k) => (kref_refs K k f V hV).mono (fun e w' (he : e = .returned (.int .i64 (refsN k f 32)) ∧ V = w') => (⟨he.1, he.2.symm⟩ : e = .returned (.int .i64 (refsN k f 32)) ∧ w' = V)))
     have c2 := HK.out.word (f := f) (a := j) (by omega) h2
     have lK := HK.out.lt
     by_cases hr : 0 < refsN k f 32
     ·have hr1 : (0 : Int) < (refsN k f 32 : Nat) := by omega
      rw [HU.out hr j h2] at c1
      generalize k.mm f j = y at c1 c2
      generalize refsN k f 32 = rr at hr hr1 HR
      go_wp2_with fail
      go_quiet ((go_at_call 61; exact Calls.quiet_of_same (HR.out _ (HK.out.drewN _))))
      go_wp2_with fail
      go_roundw
      case rel => exact ⟨j + 1, by go_num, by omega, dn HB.out _⟩
      case measure => simp [intOf]; omega
     ·have hr1 : decide ((0 : Int) < (refsN k f 32 : Nat)) = false := decide_eq_false (by omega)
      generalize refsN k f 32 = rr at hr hr1 HR
      go_wp2_with fail
      go_quiet ((go_at_call 61; exact Calls.quiet_of_same (HR.out _ (HK.out.drewN _))))
      go_wp2_with fail
      go_roundw
      case rel => exact ⟨j + 1, by go_num, by omega, dn HB.out _⟩
      case measure => simp [intOf]; omega
    ·obtain rfl : j = 16 := by omega
     go_wp2_with fail
     go_roundw
     case rel => exact ⟨f + 1, by go_num, by omega, HP2.out.under HC.out HB.out⟩
     case measure => simp [intOf]; omega
  ·obtain rfl : f = F := by omega
   go_wp2_with fail
   go_ret
   exact ⟨rfl, HP.out.2.2⟩
end
end Go.Proofs.YtdfhfmdelinemaaGreatDoor
namespace Go.Proofs.YtdfhfmdelinemaaGreatDoor
open Go.RowKit Go.Extern.Stop Go.Stop Go.Extern Go.WalkArith
def kernT (K : Nat) (k : KernS) : Thing := ⟨fun i => i = K, fun W => KernIs W K k, fun _ _ h hs hb => h.foot hs (hb K rfl h.lt), fun _ h i hi => by subst hi; exact h.lt⟩
def twoT (b t : Nat) (p q : Obj) : Thing := ⟨fun i => i = b ∨ i = t, fun W => W.heap[b]? = some p ∧ W.heap[t]? = some q, fun _ _ h _ hb => ⟨(hb b (Or.inl rfl) (bk_lt h.1)).trans h.1, (hb t (Or.inr rfl) (bk_lt h.2)).trans h.2⟩, fun _ h _ hi => hi.elim (fun e => e ▸ bk_lt h.1) (fun e => e ▸ bk_lt h.2)⟩
section
variable {At : World → (Nat → Prop) → Nat → KernS → Prop} {H : PlainC At} {w W W' : World} {S : Nat → Prop} {P K : Nat} {k k' : KernS} {l1 l2 : List Thing}
theorem Side.tail {o : Thing} {l : List Thing} (h : Side w W (o :: l)) : Side w W l := h.2.2.2
theorem side_new {c e f : Int} {l : List Thing} (H : PlainC At) (h : Side w W l) (hs : SizeOk c e f) :
  Calls Tryz.prog 8 #[sizeV c e f] W fun x W' => ∃ P S, x = .returned (.pointer (some ⟨P, 0, none⟩)) ∧ Side w W' (plainT H S P (newK c e f) :: l) := by
 refine (H.new_ c e f W hs).mono ?_
 rintro x W' ⟨P, S, rfl, h1, hl, hb⟩
 exact ⟨P, S, rfl, h.make hb (plainT H S P (newK c e f)) h1 hl⟩
theorem side_ref {c e f : Int} {l : List Thing} (h : Side w W l) :
  Calls Tryz.prog 10 #[sizeV c e f] W fun x W' => ∃ K, x = .returned (.pointer (some ⟨K, 0, none⟩)) ∧ Side w W' (kernT K (newK c e f) :: l) := by
 refine (kref_new c e f W).mono ?_
 rintro x W' ⟨K, rfl, h1, hb, hl⟩
 exact ⟨K, rfl, h.make hb (kernT K (newK c e f)) h1 (fun i hi => by have hi : i = K := hi; omega)⟩
theorem side_do (env x0 x1 x2 x3 x4 : Int) (h : Side w W (l1 ++ plainT H S P k :: l2)) (hx : wordsIn x0 x1 x2 x3 x4) :
  Calls Tryz.prog 12 #[.pointer (some ⟨P, 0, none⟩), .int .i64 env, callV x0 x1 x2 x3 x4] W fun x W' => ∃ S', x = .returned (ansV (kdo k env x0 x1 x2 x3 x4).2.1 (kdo k env x0 x1 x2 x3 x4).2.2.1 (kdo k env x0 x1 x2 x3 x4).2.2.2) ∧ Side w W' (l1 ++ plainT H S' P (kdo k env x0 x1 x2 x3 x4).1 :: l2) := by
 refine (H.do_ P S k env x0 x1 x2 x3 x4 W (Side.at l1 h) hx).mono ?_
 rintro x W' ⟨S', rfl, h4, h5, h6⟩
 exact ⟨S', rfl, Side.step (o := plainT H S P k) (plainT H S' P _) h4 h5 h6 l1 h⟩
theorem side_rdo (env x0 x1 x2 x3 x4 : Int) (hk : Sane k) (h : Side w W (l1 ++ kernT K k :: l2)) (hx : wordsIn x0 x1 x2 x3 x4) :
  Calls Tryz.prog 13 #[.pointer (some ⟨K, 0, none⟩), .int .i64 env, callV x0 x1 x2 x3 x4] W fun x W' => x = .returned (ansV (kdo k env x0 x1 x2 x3 x4).2.1 (kdo k env x0 x1 x2 x3 x4).2.2.1 (kdo k env x0 x1 x2 x3 x4).2.2.2) ∧ Side w W' (l1 ++ kernT K (kdo k env x0 x1 x2 x3 x4).1 :: l2) := by
 refine (kref_do K k hk env x0 x1 x2 x3 x4 hx W (Side.at (o := kernT K k) l1 h)).mono ?_
 rintro x W' ⟨rfl, h4, h5⟩
 exact ⟨rfl, Side.step (o := kernT K k) (kernT K _) h4 (fun _ h => Or.inl h) (only_T h5) l1 h⟩
theorem side_err0 {env x0 x1 x2 x3 x4 : Int} (h : Side w W (l1 ++ plainT H S P k :: l2)) (hx : wordsIn x0 x1 x2 x3 x4) (hg : Held W) (he : (kdo k env x0 x1 x2 x3 x4).2.1 = 0) :
  Calls Tryz.prog 11 #[.pointer (some ⟨P, 0, none⟩), .int .i64 env, callV x0 x1 x2 x3 x4] W fun x W' => x = .returned .nilIface ∧ Side w W' (l1 ++ plainT H S P k :: l2) := by
 refine (H.err_ P S k env x0 x1 x2 x3 x4 W (Side.at l1 h) hx hg).mono ?_
 rintro x W' ⟨v, rfl, h4 | h4, hb⟩
 ·obtain rfl := h4.2
  exact ⟨rfl, h.under hb⟩
 ·exact absurd he h4.1
def trapO (c env x0 x1 x2 x3 x4 : Int) (t : Nat) : Obj := .cells #[.int .i64 c, .int .i64 env, .int .u64 x0, .int .u64 x1, .int .u64 x2, .int .u64 x3, .int .u64 x4, ptrErr t] 50
def ofO (c : Int) : Obj := .cells #[.int .i64 c, .int .i64 (-1), .int .u64 0, .int .u64 0, .int .u64 0, .int .u64 0, .int .u64 0, .nilIface] 50
theorem side_err {env x0 x1 x2 x3 x4 : Int} (h : Side w W (l1 ++ plainT H S P k :: l2)) (hx : wordsIn x0 x1 x2 x3 x4) (hg : Held W) (he : (kdo k env x0 x1 x2 x3 x4).2.1 ≠ 0) :
  Calls Tryz.prog 11 #[.pointer (some ⟨P, 0, none⟩), .int .i64 env, callV x0 x1 x2 x3 x4] W fun x W' => ∃ b t, x = .returned (ptrErr b) ∧ t < b ∧ Side w W' (twoT b t (trapO (kdo k env x0 x1 x2 x3 x4).2.1 env x0 x1 x2 x3 x4 t) (ofO (kdo k env x0 x1 x2 x3 x4).2.1) :: (l1 ++ plainT H S P k :: l2)) := by
 refine (H.err_ P S k env x0 x1 x2 x3 x4 W (Side.at l1 h) hx hg).mono ?_
 rintro x W' ⟨v, rfl, h4 | h4, hb⟩
 ·exact absurd h4.1 he
 ·obtain ⟨b, t, rfl, h5, h6, h7, h8⟩ := h4.2
  refine ⟨b, t, rfl, h6, h.make hb (twoT b t _ _) ⟨h7, h8⟩ (fun i hi => ?_)⟩
  rcases hi with rfl | rfl
  ·exact Nat.le_of_lt (Nat.lt_of_le_of_lt h5 h6)
  ·exact h5
theorem err_chain {c env x0 x1 x2 x3 x4 : Int} {b t : Nat} (ht : t < b) (h : W.heap[b]? = some (trapO c env x0 x1 x2 x3 x4 t) ∧ W.heap[t]? = some (ofO c)) : Chain W c .nilIface 2 (b + 1) (ptrErr b) ∧ b + 1 ≤ W.heap.size :=
 ⟨⟨b, env, _, _, _, _, _, _, rfl, Nat.lt_succ_self _, h.1, t, -1, _, _, _, _, _, _, rfl, ht, h.2, rfl⟩, bk_lt h.1⟩
theorem side_pair (h : Side w W (l1 ++ plainT H S P k :: l2)) (h2 : KernIs W K k) : PairAt At W S P K k W := ⟨Side.at l1 h, h2, Below.refl _ _⟩
end
end Go.Proofs.YtdfhfmdelinemaaGreatDoor
namespace Go.Proofs.YtdfhfmdelinemaaGreatDoor
open Go.RowKit Go.Extern.Stop Go.Stop Go.Extern Go.WalkArith
set_option maxHeartbeats 1000000 in
theorem size_yes (c e f : Int) (h : SizeOk c e f) (w : World) : Calls Tryz.prog 9 #[sizeV c e f] w fun x w' => x = .returned (.bool true) ∧ Below w.heap.size w w' := by
 obtain ⟨⟨h1, h2⟩, ⟨h3, h4⟩, h5, h6⟩ := h
 go_enter Tryz.func9, Tryz.ntmps9
 go_wp2_with fail
 go_ret
 exact ⟨rfl, (Below.refl _ _).alloc (Nat.le_refl _) _⟩
set_option maxHeartbeats 2000000 in
theorem size_no (c e f : Int) (h : ¬ SizeOk c e f) (w : World) : Calls Tryz.prog 9 #[sizeV c e f] w fun x w' => x = .returned (.bool false) ∧ Below w.heap.size w w' := by
 unfold SizeOk at h
 by_cases h1 : 1 ≤ c
 ·by_cases h2 : c ≤ 8
  ·by_cases h3 : 1 ≤ e
   ·by_cases h4 : e ≤ 4
    ·by_cases h5 : 1 ≤ f
     ·have h6 : ¬ f ≤ 16 := by omega
      clear h
      go_enter Tryz.func9, Tryz.ntmps9
      go_wp2_with fail
      go_ret
      exact ⟨rfl, (Below.refl _ _).alloc (Nat.le_refl _) _⟩
     ·clear h
      go_enter Tryz.func9, Tryz.ntmps9
      go_wp2_with fail
      go_ret
      exact ⟨rfl, (Below.refl _ _).alloc (Nat.le_refl _) _⟩
    ·clear h
     go_enter Tryz.func9, Tryz.ntmps9
     go_wp2_with fail
     go_ret
     exact ⟨rfl, (Below.refl _ _).alloc (Nat.le_refl _) _⟩
   ·clear h
    go_enter Tryz.func9, Tryz.ntmps9
    go_wp2_with fail
    go_ret
    exact ⟨rfl, (Below.refl _ _).alloc (Nat.le_refl _) _⟩
  ·clear h
   go_enter Tryz.func9, Tryz.ntmps9
   go_wp2_with fail
   go_ret
   exact ⟨rfl, (Below.refl _ _).alloc (Nat.le_refl _) _⟩
 ·clear h
  go_enter Tryz.func9, Tryz.ntmps9
  go_wp2_with fail
  go_ret
  exact ⟨rfl, (Below.refl _ _).alloc (Nat.le_refl _) _⟩
structure AskAt (W : World) (b : Addr) (e x0 x1 x2 x3 x4 : Int) : Prop where
 env : W.cell? b = some (.int .i64 e)
 a0 : W.cell? ⟨b.block, b.off + 1, none⟩ = some (.int .u64 x0)
 a1 : W.cell? ⟨b.block, b.off + 2, none⟩ = some (.int .u64 x1)
 a2 : W.cell? ⟨b.block, b.off + 3, none⟩ = some (.int .u64 x2)
 a3 : W.cell? ⟨b.block, b.off + 4, none⟩ = some (.int .u64 x3)
 a4 : W.cell? ⟨b.block, b.off + 5, none⟩ = some (.int .u64 x4)
 words : wordsIn x0 x1 x2 x3 x4
theorem AskAt.later {W W' : World} {b : Addr} {e x0 x1 x2 x3 x4 : Int} (h : AskAt W b e x0 x1 x2 x3 x4) (hb : Below W.heap.size W W') : AskAt W' b e x0 x1 x2 x3 x4 := by
 have hl : b.block < W.heap.size := World.block_lt_of_cell? _ _ h.env
 exact ⟨(hb.cell (p := b) hl).trans h.env, (hb.cell (p := ⟨b.block, _, none⟩) hl).trans h.a0, (hb.cell (p := ⟨b.block, _, none⟩) hl).trans h.a1, (hb.cell (p := ⟨b.block, _, none⟩) hl).trans h.a2, (hb.cell (p := ⟨b.block, _, none⟩) hl).trans h.a3, (hb.cell (p := ⟨b.block, _, none⟩) hl).trans h.a4, h.words⟩
def AsksAt (W : World) (ao : Option Addr) (a : Addr) (len : Nat) : Prop := (0 < len → ao = some a) ∧ ∀ i, i < len → ∃ e x0 x1 x2 x3 x4, AskAt W (a.add (i * 6)) e x0 x1 x2 x3 x4
theorem AsksAt.later {W W' : World} {ao : Option Addr} {a : Addr} {len : Nat} (h : AsksAt W ao a len) (hb : Below W.heap.size W W') : AsksAt W' ao a len :=
 ⟨h.1, fun i hi => by obtain ⟨e, x0, x1, x2, x3, x4, ha⟩ := h.2 i hi; exact ⟨e, x0, x1, x2, x3, x4, ha.later hb⟩⟩
def SameOr (k : KernS) (r : KernS × Int × Int × Bool) : Prop := r.1 = k ∨ (r.2.1 = 0 ∧ r.2.2.2 = true)
theorem derive_same (k : KernS) (e s e' s' : Nat) (r : Int) : SameOr k (deriveS k e s e' s' r, deriveE k e s e' s' r, 0, true) := by
 unfold SameOr deriveS
 by_cases h : deriveE k e s e' s' r = 0
 ·exact Or.inr ⟨h, rfl⟩
 ·left
  dsimp only
  rw [if_neg h]
theorem kcall_same (k : KernS) (e : Nat) (x0 x1 x2 x3 x4 : Int) : SameOr k (kcall k e x0 x1 x2 x3 x4) := by
 unfold kcall
 by_cases c1 : x0 = 1
 ·rw [if_pos c1]
  by_cases d : (k.sl e x1.toNat).is = true
  ·rw [if_pos d]
   exact Or.inl rfl
  ·rw [if_neg d]
   cases freeK k k.frames.toNat with
   | nil => exact Or.inl rfl
   | cons f l => exact Or.inr ⟨rfl, rfl⟩
 rw [if_neg c1]
 by_cases c2 : x0 = 2
 ·rw [if_pos c2]
  exact derive_same _ _ _ _ _ _
 rw [if_neg c2]
 by_cases c3 : x0 = 3
 ·rw [if_pos c3]
  exact derive_same _ _ _ _ _ _
 rw [if_neg c3]
 by_cases c4 : x0 = 4
 ·rw [if_pos c4]
  by_cases d : (k.sl e x1.toNat).is = true
  ·rw [if_pos d]
   exact Or.inr ⟨rfl, rfl⟩
  ·rw [if_neg d]
   exact Or.inl rfl
 rw [if_neg c4]
 by_cases c5 : x0 = 5
 ·rw [if_pos c5]
  by_cases d : (k.sl e x1.toNat).is = true
  ·rw [if_pos d]
   exact Or.inr ⟨rfl, rfl⟩
  ·rw [if_neg d]
   exact Or.inl rfl
 rw [if_neg c5]
 by_cases c6 : x0 = 6
 ·rw [if_pos c6]
  unfold SameOr mapS
  by_cases h : mapE k e x1.toNat x2.toNat x3 = 0
  ·exact Or.inr ⟨h, rfl⟩
  ·left
   dsimp only
   rw [if_neg h]
 rw [if_neg c6]
 by_cases c7 : x0 = 7
 ·rw [if_pos c7]
  unfold SameOr unmapS unmapE
  by_cases h : (k.pt e x1.toNat).rights = 0
  ·left
   dsimp only
   rw [if_pos h]
  ·right
   dsimp only
   rw [if_neg h]
   exact ⟨rfl, rfl⟩
 rw [if_neg c7]
 by_cases c8 : x0 = 8
 ·rw [if_pos c8]
  unfold SameOr protS
  by_cases h : protE k e x1.toNat x2 = 0
  ·exact Or.inr ⟨h, rfl⟩
  ·left
   dsimp only
   rw [if_neg h]
 rw [if_neg c8]
 by_cases c9 : x0 = 9
 ·rw [if_pos c9]
  left
  by_cases d : (k.sl e x1.toNat).is = true
  ·rw [if_pos d]
   by_cases d2 : (k.sl e x1.toNat).rights % 2 = 0
   ·rw [if_pos d2]
   ·rw [if_neg d2]
    by_cases d3 : holdsB x3 (k.mm (k.sl e x1.toNat).frame.toNat x2.toNat) x4 = true
    ·rw [if_pos d3]
    ·rw [if_neg d3]
  ·rw [if_neg d]
 rw [if_neg c9]
 by_cases c10 : x0 = 10
 ·rw [if_pos c10]
  exact Or.inl rfl
 rw [if_neg c10]
 by_cases d : withinB (needN x0) (k.pt e x1.toNat).rights = true
 ·rw [if_pos d]
  exact Or.inr ⟨rfl, rfl⟩
 ·rw [if_neg d]
  exact Or.inl rfl
theorem kdo_same (k : KernS) (env x0 x1 x2 x3 x4 : Int) : SameOr k (kdo k env x0 x1 x2 x3 x4) := by
 unfold kdo
 by_cases c : env < 0 ∨ k.envs ≤ env
 ·rw [if_pos c]
  exact Or.inl rfl
 ·rw [if_neg c]
  by_cases d : chkN x0 x1 x2 x3 x4 k.envs = 0
  ·rw [if_pos d]
   exact kcall_same _ _ _ _ _ _ _
  ·rw [if_neg d]
   exact Or.inl rfl
end Go.Proofs.YtdfhfmdelinemaaGreatDoor
namespace Go.Proofs.YtdfhfmdelinemaaGreatDoor
open Go.RowKit Go.Stop Go.Extern.Stop Go.Extern Go.WalkArith
theorem tnear (x : Int) (n : Int) (h : 0 < n) : -n < x.tmod n ∧ x.tmod n < n := by
 refine ⟨?_, Int.tmod_lt_of_pos x h⟩
 rcases Int.lt_or_le x 0 with hx | hx
 ·have := Int.tmod_lt_of_pos (-x) h
  rw [Int.neg_tmod] at this
  omega
 ·have := Int.tmod_nonneg n hx
  omega
theorem tupm (x : Int) (n : Int) (h : 0 < n) : 0 ≤ (x.tmod n + n).tmod n ∧ (x.tmod n + n).tmod n < n := by
 have h1 := tnear x n h
 exact ⟨Int.tmod_nonneg n (by omega), Int.tmod_lt_of_pos _ h⟩
theorem u64_small (n : Nat) (h : n < 1000) : IntKind.u64.wrap (n : Int) = (n : Int) := by
 have : IntKind.u64.wrap (n : Int) = (n : Int) % 18446744073709551616 := by
  simp [IntKind.wrap, IntKind.signed, IntKind.bits]
 omega
end Go.Proofs.YtdfhfmdelinemaaGreatDoor
