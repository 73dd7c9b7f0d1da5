/- What is proved here: two of the document's plain kernels, of which the one has the calls of all environments, the other those of one alone, none of them a grant: what that one environment is told is the same, as long as nothing is full. Conditions: none. -/
import Derived.Test.YtdfhfmdelinemaaGreatDoorGTreeB
namespace Go.Proofs.YtdfhfmdelinemaaGreatDoor
structure OwnK (k : KernS) : Prop where
 envs : k.envs = 3
 frames : k.frames = 16
 out : ∀ e s : Nat, 3 ≤ e → (k.sl e s).is = false
 range : ∀ e s : Nat, s < 8 → (k.sl e s).is = true → 0 ≤ (k.sl e s).frame ∧ (k.sl e s).frame < 16
 par : ∀ e s : Nat, s < 8 → (k.sl e s).is = true → (k.sl e s).env < 0 ∨ ((k.sl e s).env = (e : Int) ∧ 0 ≤ (k.sl e s).slot ∧ (k.sl e s).slot < 8)
 apart : ∀ e s e' s' : Nat, s < 8 → s' < 8 → (k.sl e s).is = true → (k.sl e' s').is = true → (k.sl e s).frame = (k.sl e' s').frame → e = e'
 pte : ∀ e p : Nat, p < 8 → ¬ (k.pt e p).rights = 0 → ∃ s : Nat, s < 8 ∧ (k.pt e p).slot = (s : Int) ∧ (k.sl e s).is = true ∧ (k.sl e s).frame = (k.pt e p).frame
theorem OwnK.new (c : Int) : OwnK (newK c 3 16) :=
 ⟨rfl, rfl, fun _ _ _ => rfl, fun _ _ _ h => absurd (show false = true from h) (by decide), fun _ _ _ h => absurd (show false = true from h) (by decide), fun _ _ _ _ _ _ h => absurd (show false = true from h) (by decide), fun _ _ _ h => absurd rfl h⟩
theorem put_at (k : KernS) (e s : Nat) (v : SlotV) : (k.setSlot e s v).sl e s = v := by
 show (if e = e ∧ s = s then v else k.sl e s) = v
 rw [if_pos ⟨rfl, rfl⟩]
theorem put_off (k : KernS) {e s e' s' : Nat} (v : SlotV) (h : ¬ (e' = e ∧ s' = s)) : (k.setSlot e s v).sl e' s' = k.sl e' s' := by
 show (if e' = e ∧ s' = s then v else k.sl e' s') = k.sl e' s'
 rw [if_neg h]
theorem OwnK.put {k : KernS} (hk : OwnK k) {e s : Nat} {v : SlotV} (he : e < 3) (hs : s < 8) (hi : (k.sl e s).is = false) (hv : 0 ≤ v.frame ∧ v.frame < 16) (hp : v.env < 0 ∨ (v.env = (e : Int) ∧ 0 ≤ v.slot ∧ v.slot < 8))
  (ha : ∀ e' s' : Nat, s' < 8 → (k.sl e' s').is = true → v.frame = (k.sl e' s').frame → e = e') : OwnK (k.setSlot e s v) := by
 have hcase : ∀ a b : Nat, ((k.setSlot e s v).sl a b).is = true → (a = e ∧ b = s) ∨ (¬ (a = e ∧ b = s) ∧ (k.sl a b).is = true) := fun a b h => by
  by_cases hc : a = e ∧ b = s
  ·exact Or.inl hc
  ·rw [put_off k v hc] at h
   exact Or.inr ⟨hc, h⟩
 refine ⟨hk.envs, hk.frames, fun a b h => ?_, fun a b hb h => ?_, fun a b hb h => ?_, fun a b a' b' hb hb' h h' hf => ?_, fun a p hp hr => ?_⟩
 ·rw [put_off k v (by omega)]
  exact hk.out a b h
 ·rcases hcase a b h with ⟨rfl, rfl⟩ | ⟨hc, h⟩
  ·rw [put_at]
   exact hv
  ·rw [put_off k v hc]
   exact hk.range a b hb h
 ·rcases hcase a b h with ⟨rfl, rfl⟩ | ⟨hc, h⟩
  ·rw [put_at]
   exact hp
  ·rw [put_off k v hc]
   exact hk.par a b hb h
 ·rcases hcase a b h with ⟨rfl, rfl⟩ | ⟨hc, g⟩
  ·rcases hcase a' b' h' with ⟨rfl, rfl⟩ | ⟨hc', g'⟩
   ·rfl
   ·rw [put_at, put_off k v hc'] at hf
    exact ha a' b' hb' g' hf
  ·rcases hcase a' b' h' with ⟨rfl, rfl⟩ | ⟨hc', g'⟩
   ·rw [put_at, put_off k v hc] at hf
    exact (ha a b hb g hf.symm).symm
   ·rw [put_off k v hc, put_off k v hc'] at hf
    exact hk.apart a b a' b' hb hb' g g' hf
 ·obtain ⟨t, h1, h2, h3, h4⟩ := hk.pte a p hp hr
  refine ⟨t, h1, h2, ?_⟩
  rw [put_off k v (by rintro ⟨rfl, rfl⟩; rw [hi] at h3; exact absurd h3 (by decide))]
  exact ⟨h3, h4⟩
theorem OwnK.mem {k k' : KernS} (hk : OwnK k) (h1 : k'.envs = k.envs) (h2 : k'.frames = k.frames) (h3 : k'.sl = k.sl) (h4 : k'.pt = k.pt) : OwnK k' := by
 refine ⟨h1.trans hk.envs, h2.trans hk.frames, ?_, ?_, ?_, ?_, ?_⟩
 ·rw [h3]; exact hk.out
 ·rw [h3]; exact hk.range
 ·rw [h3]; exact hk.par
 ·rw [h3]; exact hk.apart
 ·rw [h3, h4]; exact hk.pte
theorem OwnK.entry {k : KernS} (hk : OwnK k) {e p : Nat} {v : PteV} (hv : ¬ v.rights = 0 → ∃ s : Nat, s < 8 ∧ v.slot = (s : Int) ∧ (k.sl e s).is = true ∧ (k.sl e s).frame = v.frame) : OwnK (k.setPte e p v) := by
 refine ⟨hk.envs, hk.frames, hk.out, hk.range, hk.par, hk.apart, fun a q hq hr => ?_⟩
 have e1 : (k.setPte e p v).pt a q = if a = e ∧ q = p then v else k.pt a q := rfl
 rw [e1] at hr ⊢
 by_cases hc : a = e ∧ q = p
 ·rw [if_pos hc] at hr ⊢
  obtain ⟨rfl, rfl⟩ := hc
  exact hv hr
 ·rw [if_neg hc] at hr ⊢
  exact hk.pte a q hq hr
def hitP (k : KernS) (l : List Nat) (e p : Nat) : Bool := l.any fun j => decide (j / 8 = e ∧ (k.pt e p).slot = ((j % 8 : Nat) : Int))
theorem goneF_pt : ∀ (l : List Nat) (k : KernS) (e p : Nat), p < 8 → (goneF k l).pt e p = if ¬ (k.pt e p).rights = 0 ∧ hitP k l e p = true then noPte else k.pt e p
 | [], k, e, p, _ => by
  rw [if_neg (fun h => Bool.noConfusion (show false = true from h.2))]
  rfl
 | j :: l, k, e, p, hp => by
  show (goneF (clr k (j / 8) (j % 8) 8) l).pt e p = _
  rw [goneF_pt l _ e p hp]
  have e2 : hitP k (j :: l) e p = (decide (j / 8 = e ∧ (k.pt e p).slot = ((j % 8 : Nat) : Int)) || hitP k l e p) := rfl
  by_cases hj : e = j / 8 ∧ ¬ (k.pt e p).rights = 0 ∧ (k.pt e p).slot = ((j % 8 : Nat) : Int)
  ·have e1 : (clr k (j / 8) (j % 8) 8).pt e p = noPte := if_pos ⟨hj.1, hp, hj.2⟩
   rw [e1, if_neg (fun h => h.1 rfl), if_pos ⟨hj.2.1, by rw [e2, decide_eq_true ⟨hj.1.symm, hj.2.2⟩, Bool.true_or]⟩]
  ·have e1 : (clr k (j / 8) (j % 8) 8).pt e p = k.pt e p := if_neg fun h => hj ⟨h.1, h.2.2⟩
   have e3 : hitP (clr k (j / 8) (j % 8) 8) l e p = hitP k l e p := by
    unfold hitP
    rw [e1]
   rw [e1, e3, e2]
   by_cases hr : (k.pt e p).rights = 0
   ·rw [if_neg (fun h => h.1 hr), if_neg (fun h => h.1 hr)]
   ·rw [decide_eq_false (fun h => hj ⟨h.1.symm, hr, h.2⟩), Bool.false_or]
theorem goneF_mm : ∀ (l : List Nat) (k : KernS), (goneF k l).mm = k.mm
 | [], _ => rfl
 | j :: l, k => goneF_mm l (clr k (j / 8) (j % 8) 8)
theorem goneF_is {k : KernS} {l : List Nat} {e s : Nat} (hs : s < 8) (h : ((goneF k l).sl e s).is = true) : ¬ e * 8 + s ∈ l ∧ (goneF k l).sl e s = k.sl e s ∧ (k.sl e s).is = true := by
 rw [goneF_sl l k e s hs] at h ⊢
 by_cases h1 : e * 8 + s ∈ l
 ·rw [if_pos h1] at h
  exact absurd (show false = true from h) (by decide)
 ·rw [if_neg h1] at h ⊢
  exact ⟨h1, rfl, h⟩
theorem goneF_out (l : List Nat) (k : KernS) (e s : Nat) (h : (k.sl e s).is = false) : ((goneF k l).sl e s).is = false := by
 induction l generalizing k with
 | nil => exact h
 | cons j l ih =>
  refine ih (clr k (j / 8) (j % 8) 8) ?_
  show (if e = j / 8 ∧ s = j % 8 then noSlot else k.sl e s).is = false
  by_cases hc : e = j / 8 ∧ s = j % 8
  ·rw [if_pos hc]
   rfl
  ·rw [if_neg hc]
   exact h
theorem OwnK.gone {k : KernS} (hk : OwnK k) (l : List Nat) : OwnK (goneF k l) := by
 have hz := goneF_sizes l k
 refine ⟨hz.1.trans hk.envs, hz.2.trans hk.frames, fun a b h => goneF_out l k a b (hk.out a b h), fun a b hb h => ?_, fun a b hb h => ?_, fun a b a' b' hb hb' h h' hf => ?_, fun a p hp hr => ?_⟩
 ·obtain ⟨_, h2, h3⟩ := goneF_is hb h
  rw [h2]
  exact hk.range a b hb h3
 ·obtain ⟨_, h2, h3⟩ := goneF_is hb h
  rw [h2]
  exact hk.par a b hb h3
 ·obtain ⟨_, h2, h3⟩ := goneF_is hb h
  obtain ⟨_, h4, h5⟩ := goneF_is hb' h'
  rw [h2, h4] at hf
  exact hk.apart a b a' b' hb hb' h3 h5 hf
 ·rw [goneF_pt l k a p hp] at hr ⊢
  by_cases hc : ¬ (k.pt a p).rights = 0 ∧ hitP k l a p = true
  ·rw [if_pos hc] at hr
   exact absurd rfl hr
  ·rw [if_neg hc] at hr ⊢
   obtain ⟨s, h1, h2, h3, h4⟩ := hk.pte a p hp hr
   refine ⟨s, h1, h2, ?_⟩
   rw [goneF_sl l k a s h1, if_neg (fun hm => hc ⟨hr, List.any_eq_true.2 ⟨_, hm, decide_eq_true ⟨by omega, by rw [h2]; congr 1; omega⟩⟩⟩)]
   exact ⟨h3, h4⟩
theorem OwnK.from {k : KernS} (hk : OwnK k) {q : Nat} : ∀ (n e s : Nat), s < 8 → fromB k q n (e * 8 + s) = true → q / 8 = e
 | 0, _, _, _, h => Bool.noConfusion (show false = true from h)
 | n + 1, e, s, hs, h => by
  by_cases hc : (k.sl e s).is = true ∧ 0 ≤ (k.sl e s).env
  ·rcases hk.par e s hs hc.1 with h1 | ⟨h1, h2, h3⟩
   ·omega
   ·have h4 : (k.sl e s).slot = (((k.sl e s).slot.toNat : Nat) : Int) := by omega
    rw [fromB_some hs hc.1 h1 h4, Bool.or_eq_true, decide_eq_true_eq] at h
    rcases h with h | h
    ·omega
    ·exact hk.from n e _ (by omega) h
  ·rw [fromB_none hs hc] at h
   exact absurd h (by decide)
theorem OwnK.below {k : KernS} (hk : OwnK k) {q p : Nat} (h : p ∈ belowL k q 32) : p / 8 = q / 8 := by
 unfold belowL at h
 have h2 := (List.mem_filter.1 h).2
 rw [show p = p / 8 * 8 + p % 8 by omega] at h2
 exact (hk.from 32 (p / 8) (p % 8) (by omega) h2).symm
structure AsOne (v : Nat) (a b : KernS) : Prop where
 oa : OwnK a
 ob : OwnK b
 sl : ∀ s : Nat, s < 8 → (a.sl v s).is = (b.sl v s).is ∧ ((a.sl v s).is = true → (a.sl v s).rights = (b.sl v s).rights ∧ (a.sl v s).env = (b.sl v s).env ∧ (a.sl v s).slot = (b.sl v s).slot)
 fr : ∀ s s' : Nat, s < 8 → s' < 8 → (a.sl v s).is = true → (a.sl v s').is = true → ((a.sl v s).frame = (a.sl v s').frame ↔ (b.sl v s).frame = (b.sl v s').frame)
 mm : ∀ s i : Nat, s < 8 → i < 16 → (a.sl v s).is = true → a.mm (a.sl v s).frame.toNat i = b.mm (b.sl v s).frame.toNat i
 pt : ∀ p : Nat, p < 8 → (a.pt v p).rights = (b.pt v p).rights ∧ (¬ (a.pt v p).rights = 0 → (a.pt v p).slot = (b.pt v p).slot)
 none : ∀ e s : Nat, ¬ e = v → (b.sl e s).is = false
section
variable {v : Nat} {a b : KernS}
theorem AsOne.new (v : Nat) (c c' : Int) : AsOne v (newK c 3 16) (newK c' 3 16) :=
 ⟨OwnK.new c, OwnK.new c', fun _ _ => ⟨rfl, fun h => absurd (show false = true from h) (by decide)⟩, fun _ _ _ _ h => absurd (show false = true from h) (by decide), fun _ _ _ _ h => absurd (show false = true from h) (by decide), fun _ _ => ⟨rfl, fun h => absurd rfl h⟩, fun _ _ _ => rfl⟩
theorem AsOne.bis (h : AsOne v a b) {s : Nat} (hs : s < 8) (hi : (a.sl v s).is = true) : (b.sl v s).is = true := (h.sl s hs).1.symm.trans hi
theorem AsOne.refs (h : AsOne v a b) {s : Nat} (hs : s < 8) (hi : (a.sl v s).is = true) : refsN a (a.sl v s).frame 32 = refsN b (b.sl v s).frame 32 := by
 unfold refsN
 congr 1
 refine List.filter_congr fun i _ => ?_
 unfold ofB
 have hm : i % 8 < 8 := by omega
 generalize i / 8 = e
 generalize i % 8 = t at hm
 by_cases he : e = v
 ·subst he
  rw [← (h.sl t hm).1]
  cases hj : (a.sl e t).is
  ·rfl
  ·simp only [Bool.true_and]
   exact decide_eq_decide.2 (h.fr t s hm hs hj hi)
 ·rw [h.none e t he, Bool.false_and]
  cases hj : (a.sl e t).is
  ·rfl
  ·rw [Bool.true_and]
   exact decide_eq_false fun hf => he (h.oa.apart e t v s hm hs hj hi hf)
theorem AsOne.from {v : Nat} {a b : KernS} (h : AsOne v a b) {q : Nat} (hq : q / 8 = v) : ∀ (n e s : Nat), s < 8 → fromB a q n (e * 8 + s) = fromB b q n (e * 8 + s)
 | 0, _, _, _ => rfl
 | n + 1, e, s, hs => by
  by_cases he : e = v
  ·subst he
   have h1 := h.sl s hs
   by_cases hc : (a.sl e s).is = true ∧ 0 ≤ (a.sl e s).env
   ·obtain ⟨_, h3, h4⟩ := h1.2 hc.1
    rcases h.oa.par e s hs hc.1 with h5 | ⟨h5, h6, h7⟩
    ·omega
    ·have h8 : (a.sl e s).slot = (((a.sl e s).slot.toNat : Nat) : Int) := by omega
     rw [fromB_some hs hc.1 h5 h8, fromB_some hs (h1.1.symm.trans hc.1) (h3.symm.trans h5) (h4.symm.trans h8), AsOne.from h hq n e _ (by omega)]
   ·rw [fromB_none hs hc, fromB_none hs (fun hd => hc ⟨h1.1.trans hd.1, by rw [(h1.2 (h1.1.trans hd.1)).2.1]; exact hd.2⟩)]
  ·rw [fromB_empty hs (h.none e s he)]
   cases hf : fromB a q (n + 1) (e * 8 + s)
   ·rfl
   ·exact absurd ((h.oa.from (n + 1) e s hs hf).symm.trans hq) he
theorem AsOne.below (h : AsOne v a b) {q : Nat} (hq : q / 8 = v) : belowL a q 32 = belowL b q 32 := by
 unfold belowL
 refine List.filter_congr fun i _ => ?_
 rw [show i = i / 8 * 8 + i % 8 by omega]
 exact AsOne.from h hq 32 _ _ (by omega)
theorem AsOne.put (h : AsOne v a b) {s : Nat} {x y : SlotV} (hx : x.is = y.is ∧ x.rights = y.rights ∧ x.env = y.env ∧ x.slot = y.slot) (ha : OwnK (a.setSlot v s x)) (hb : OwnK (b.setSlot v s y))
  (hf : ∀ t : Nat, t < 8 → (a.sl v t).is = true → (x.frame = (a.sl v t).frame ↔ y.frame = (b.sl v t).frame)) (hm : ∀ i : Nat, i < 16 → a.mm x.frame.toNat i = b.mm y.frame.toNat i) : AsOne v (a.setSlot v s x) (b.setSlot v s y) := by
 have hcase : ∀ t : Nat, (t = s ∧ (a.setSlot v s x).sl v t = x ∧ (b.setSlot v s y).sl v t = y) ∨ ((a.setSlot v s x).sl v t = a.sl v t ∧ (b.setSlot v s y).sl v t = b.sl v t) := fun t => by
  by_cases hc : t = s
  ·subst hc
   exact Or.inl ⟨rfl, put_at .., put_at ..⟩
  ·exact Or.inr ⟨put_off a x (fun e => hc e.2), put_off b y (fun e => hc e.2)⟩
 refine ⟨ha, hb, fun t ht => ?_, fun t t' ht ht' h1 h2 => ?_, fun t i ht hi h1 => ?_, h.pt, fun e t he => ?_⟩
 ·rcases hcase t with ⟨_, e1, e2⟩ | ⟨e1, e2⟩
  ·rw [e1, e2]
   exact ⟨hx.1, fun _ => hx.2⟩
  ·rw [e1, e2]
   exact h.sl t ht
 ·rcases hcase t with ⟨_, e1, e2⟩ | ⟨e1, e2⟩
  ·rcases hcase t' with ⟨_, e3, e4⟩ | ⟨e3, e4⟩
   ·rw [e1, e2, e3, e4]
    exact ⟨fun _ => rfl, fun _ => rfl⟩
   ·rw [e3] at h2
    rw [e1, e2, e3, e4]
    exact hf t' ht' h2
  ·rcases hcase t' with ⟨_, e3, e4⟩ | ⟨e3, e4⟩
   ·rw [e1] at h1
    rw [e1, e2, e3, e4]
    exact ⟨fun e => ((hf t ht h1).1 e.symm).symm, fun e => ((hf t ht h1).2 e.symm).symm⟩
   ·rw [e1] at h1
    rw [e3] at h2
    rw [e1, e2, e3, e4]
    exact h.fr t t' ht ht' h1 h2
 ·rcases hcase t with ⟨_, e1, e2⟩ | ⟨e1, e2⟩
  ·rw [e1, e2]
   exact hm i hi
  ·rw [e1] at h1
   rw [e1, e2]
   exact h.mm t i ht hi h1
 ·rw [put_off b y (fun e' => he e'.1)]
  exact h.none e t he
theorem AsOne.gone (h : AsOne v a b) (l : List Nat) : AsOne v (goneF a l) (goneF b l) := by
 have hcase : ∀ t : Nat, t < 8 → (t * 1 = t ∧ v * 8 + t ∈ l ∧ (goneF a l).sl v t = noSlot ∧ (goneF b l).sl v t = noSlot) ∨ ((goneF a l).sl v t = a.sl v t ∧ (goneF b l).sl v t = b.sl v t) := fun t ht => by
  rw [goneF_sl l a v t ht, goneF_sl l b v t ht]
  by_cases hc : v * 8 + t ∈ l
  ·rw [if_pos hc, if_pos hc]
   exact Or.inl ⟨by omega, hc, rfl, rfl⟩
  ·rw [if_neg hc, if_neg hc]
   exact Or.inr ⟨rfl, rfl⟩
 refine ⟨h.oa.gone l, h.ob.gone l, fun t ht => ?_, fun t t' ht ht' h1 h2 => ?_, fun t i ht hi h1 => ?_, fun p hp => ?_, fun e t he => goneF_out l b e t (h.none e t he)⟩
 ·rcases hcase t ht with ⟨_, _, e1, e2⟩ | ⟨e1, e2⟩
  ·rw [e1, e2]
   exact ⟨rfl, fun h => absurd (show false = true from h) (by decide)⟩
  ·rw [e1, e2]
   exact h.sl t ht
 ·obtain ⟨n1, e1, i1⟩ := goneF_is ht h1
  obtain ⟨n2, e2, i2⟩ := goneF_is ht' h2
  rcases hcase t ht with ⟨_, m, _⟩ | ⟨_, e3⟩
  ·exact absurd m n1
  ·rcases hcase t' ht' with ⟨_, m, _⟩ | ⟨_, e4⟩
   ·exact absurd m n2
   ·rw [e1, e2, e3, e4]
    exact h.fr t t' ht ht' i1 i2
 ·obtain ⟨n1, e1, i1⟩ := goneF_is ht h1
  rcases hcase t ht with ⟨_, m, _⟩ | ⟨_, e3⟩
  ·exact absurd m n1
  ·rw [e1, e3, goneF_mm, goneF_mm]
   exact h.mm t i ht hi i1
 ·obtain ⟨h1, h2⟩ := h.pt p hp
  rw [goneF_pt l a v p hp, goneF_pt l b v p hp]
  by_cases hr : (a.pt v p).rights = 0
  ·have hr2 : (b.pt v p).rights = 0 := h1.symm.trans hr
   rw [if_neg (fun h => h.1 hr), if_neg (fun h => h.1 hr2)]
   exact ⟨h1, h2⟩
  ·have hr2 : ¬ (b.pt v p).rights = 0 := fun h => hr (h1.trans h)
   have hh : hitP a l v p = hitP b l v p := by
    unfold hitP
    rw [h2 hr]
   rw [hh]
   by_cases hc : hitP b l v p = true
   ·rw [if_pos ⟨hr, hc⟩, if_pos ⟨hr2, hc⟩]
    exact ⟨rfl, fun h => absurd rfl h⟩
   ·rw [if_neg (fun h => hc h.2), if_neg (fun h => hc h.2)]
    exact ⟨h1, h2⟩
theorem AsOne.entry (h : AsOne v a b) {p : Nat} {x y : PteV} (hx : x.rights = y.rights ∧ x.slot = y.slot) (ha : OwnK (a.setPte v p x)) (hb : OwnK (b.setPte v p y)) : AsOne v (a.setPte v p x) (b.setPte v p y) := by
 refine ⟨ha, hb, h.sl, h.fr, h.mm, fun q hq => ?_, h.none⟩
 have e1 : ∀ (k : KernS) (z : PteV), (k.setPte v p z).pt v q = if v = v ∧ q = p then z else k.pt v q := fun _ _ => rfl
 rw [e1, e1]
 by_cases hc : v = v ∧ q = p
 ·rw [if_pos hc, if_pos hc]
  exact ⟨hx.1, fun _ => hx.2⟩
 ·rw [if_neg hc, if_neg hc]
  exact h.pt q hq
theorem AsOne.word (h : AsOne v a b) {s : Nat} (hs : s < 8) (hi : (a.sl v s).is = true) (i : Nat) (x : Int) : AsOne v (a.setWord (a.sl v s).frame.toNat i x) (b.setWord (b.sl v s).frame.toNat i x) := by
 refine ⟨h.oa.mem rfl rfl rfl rfl, h.ob.mem rfl rfl rfl rfl, h.sl, h.fr, fun t j ht hj h1 => ?_, h.pt, h.none⟩
 show (if (a.sl v t).frame.toNat = (a.sl v s).frame.toNat ∧ j = i then x else a.mm (a.sl v t).frame.toNat j) = (if (b.sl v t).frame.toNat = (b.sl v s).frame.toNat ∧ j = i then x else b.mm (b.sl v t).frame.toNat j)
 have h1' : (a.sl v t).is = true := h1
 have r1 := h.oa.range v t ht h1'
 have r2 := h.oa.range v s hs hi
 have r3 := h.ob.range v t ht (h.bis ht h1')
 have r4 := h.ob.range v s hs (h.bis hs hi)
 have hiff := h.fr t s ht hs h1' hi
 by_cases hc : (a.sl v t).frame.toNat = (a.sl v s).frame.toNat ∧ j = i
 ·have h2 := hiff.1 (by omega)
  rw [if_pos hc, if_pos ⟨by rw [h2], hc.2⟩]
 ·rw [if_neg hc, if_neg (fun hd => hc ⟨by rw [hiff.2 (by omega)], hd.2⟩)]
  exact h.mm t j ht hj h1'
end
theorem refs_none {k : KernS} {f : Int} (h : refsN k f 32 = 0) {e s : Nat} (he : e < 4) (hs : s < 8) (hi : (k.sl e s).is = true) : ¬ (k.sl e s).frame = f := by
 intro hf
 have h1 : e * 8 + s ∈ (List.range 32).filter (ofB k f) := by
  rw [List.mem_filter, List.mem_range]
  refine ⟨by omega, ?_⟩
  unfold ofB
  rw [(at_div hs).1, (at_div hs).2, hi, hf, Bool.true_and]
  exact decide_eq_true rfl
 unfold refsN at h
 rw [List.length_eq_zero_iff.1 h] at h1
 exact absurd h1 (by simp)
theorem free_far {k : KernS} (hk : OwnK k) {f : Nat} (h : refsN k f 32 = 0) {e s : Nat} (hs : s < 8) (hi : (k.sl e s).is = true) : ¬ (k.sl e s).frame = (f : Int) := by
 rcases Nat.lt_or_ge e 3 with h1 | h1
 ·exact refs_none h (by omega) hs hi
 ·rw [hk.out e s h1] at hi
  exact absurd hi (by decide)
end Go.Proofs.YtdfhfmdelinemaaGreatDoor

