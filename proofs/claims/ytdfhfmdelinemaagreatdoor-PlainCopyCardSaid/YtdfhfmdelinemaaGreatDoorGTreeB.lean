/- What is proved here: contracts of package caps: slots, roots, derivations, where a capability came from. Conditions: those that each theorem names. -/
import Derived.Test.YtdfhfmdelinemaaGreatDoorGKerE
import Derived.Test.YtdfhfmdelinemaaGreatDoorGTree
import Derived.Test.YtdfhfmdelinemaaGreatDoorGParts
import Derived.Laws.MakeOwn
import Derived.Laws.NewBlocks
import Derived.RegionTactic
import Derived.StillTailTactics
import Derived.Deep.QuietTactic
import Derived.BigQuiet
namespace Go.Proofs.YtdfhfmdelinemaaGreatDoor
def Neat (k : KernS) : Prop := ∀ e p, (k.pt e p).rights = 0 → k.pt e p = noPte
theorem Neat.new (c e f : Int) : Neat (newK c e f) := fun _ _ _ => rfl
theorem Neat.of {k k' : KernS} (h : Neat k) (e : k'.pt = k.pt) : Neat k' := fun a b hr => by rw [e] at hr ⊢; exact h a b hr
theorem Neat.setPte {k : KernS} (h : Neat k) {e p : Nat} {v : PteV} (hv : v.rights = 0 → v = noPte) : Neat (k.setPte e p v) := fun a b hr => by
 unfold KernS.setPte at hr ⊢
 dsimp only at hr ⊢
 by_cases hc : a = e ∧ b = p
 ·rw [if_pos hc] at hr ⊢
  exact hv hr
 ·rw [if_neg hc] at hr ⊢
  exact h a b hr
theorem Neat.clr {k : KernS} (h : Neat k) (e s n : Nat) : Neat (clr k e s n) := fun a b hr => by
 unfold Proofs.YtdfhfmdelinemaaGreatDoor.clr at hr ⊢
 dsimp only at hr ⊢
 by_cases hc : a = e ∧ b < n ∧ ¬ (k.pt a b).rights = 0 ∧ (k.pt a b).slot = (s : Int)
 ·rw [if_pos hc]
 ·rw [if_neg hc] at hr ⊢
  exact h a b hr
theorem Neat.gone {k : KernS} (h : Neat k) (l : List Nat) : Neat (goneF k l) := by
 induction l generalizing k with
 | nil => exact h
 | cons j l ih => exact ih (h.clr _ _ _)
theorem Neat.derive {k : KernS} (h : Neat k) (e s e' s' : Nat) (r : Int) : Neat (deriveS k e s e' s' r) := by
 unfold deriveS
 split
 ·exact h.of rfl
 ·exact h
theorem Neat.map {k : KernS} (h : Neat k) (e p s : Nat) (r : Int) : Neat (mapS k e p s r) := by
 unfold mapS
 split
 ·rename_i h0
  unfold mapE at h0
  split at h0
  ·exact absurd h0 (by decide)
  ·split at h0
   ·exact absurd h0 (by decide)
   ·split at h0
    ·exact absurd h0 (by decide)
    ·rename_i hw
     have hr := within_may (r := r) (a := (k.sl e s).rights) (by simpa using hw)
     exact h.setPte fun h1 => by have h1 : r = 0 := h1; omega
 ·exact h
theorem Neat.unmap {k : KernS} (h : Neat k) (e p : Nat) : Neat (unmapS k e p) := by
 unfold unmapS
 split
 ·exact h
 ·exact h.setPte fun _ => rfl
theorem Neat.prot {k : KernS} (h : Neat k) (e p : Nat) (r : Int) : Neat (protS k e p r) := by
 unfold protS
 split
 ·rename_i h0
  unfold protE at h0
  split at h0
  ·exact absurd h0 (by decide)
  ·split at h0
   ·exact absurd h0 (by decide)
   ·rename_i hw
    have hr := within_may (r := r) (by simpa using hw)
    exact h.setPte fun h1 => by have h1 : r = 0 := h1; omega
 ·exact h
theorem wordS_pt (k : KernS) (f a : Nat) (kind x3 x4 : Int) : (wordS k f a kind x3 x4).pt = k.pt := by
 unfold wordS
 split
 ·rfl
 ·split
  ·split <;> rfl
  ·split <;> rfl
theorem Neat.word {k : KernS} (h : Neat k) (f a : Nat) (kind x3 x4 : Int) : Neat (wordS k f a kind x3 x4) := h.of (wordS_pt k f a kind x3 x4)
theorem kcall_keeps (Q : KernS → Prop) (k : KernS) (e : Nat) (x0 x1 x2 x3 x4 : Int) (h0 : Q k) (h1 : ∀ s f, Q (allocS k e s f)) (h2 : ∀ s e' s' r, Q (deriveS k e s e' s' r)) (h4 : ∀ l, Q (goneF k l)) (h6 : ∀ p s r, Q (mapS k e p s r)) (h7 : ∀ p, Q (unmapS k e p)) (h8 : ∀ p r, Q (protS k e p r)) (hw : ∀ f a kind y z, Q (wordS k f a kind y z)) : Q (kcall k e x0 x1 x2 x3 x4).1 := by
 unfold kcall
 by_cases c1 : x0 = 1
 ·rw [if_pos c1]
  by_cases d : (k.sl e x1.toNat).is = true
  ·rw [if_pos d]
   exact h0
  ·rw [if_neg d]
   cases freeK k k.frames.toNat with
   | nil => exact h0
   | cons f l => exact h1 _ _
 rw [if_neg c1]
 by_cases c2 : x0 = 2
 ·rw [if_pos c2]
  exact h2 _ _ _ _
 rw [if_neg c2]
 by_cases c3 : x0 = 3
 ·rw [if_pos c3]
  exact h2 _ _ _ _
 rw [if_neg c3]
 by_cases c4 : x0 = 4
 ·rw [if_pos c4]
  by_cases d : (k.sl e x1.toNat).is = true
  ·rw [if_pos d]
   exact h4 _
  ·rw [if_neg d]
   exact h0
 rw [if_neg c4]
 by_cases c5 : x0 = 5
 ·rw [if_pos c5]
  by_cases d : (k.sl e x1.toNat).is = true
  ·rw [if_pos d]
   exact h4 _
  ·rw [if_neg d]
   exact h0
 rw [if_neg c5]
 by_cases c6 : x0 = 6
 ·rw [if_pos c6]
  exact h6 _ _ _
 rw [if_neg c6]
 by_cases c7 : x0 = 7
 ·rw [if_pos c7]
  exact h7 _
 rw [if_neg c7]
 by_cases c8 : x0 = 8
 ·rw [if_pos c8]
  exact h8 _ _
 rw [if_neg c8]
 by_cases c9 : x0 = 9
 ·rw [if_pos c9]
  by_cases d : (k.sl e x1.toNat).is = true
  ·rw [if_pos d]
   by_cases d2 : (k.sl e x1.toNat).rights % 2 = 0
   ·rw [if_pos d2]
    exact h0
   ·rw [if_neg d2]
    by_cases d3 : holdsB x3 (k.mm (k.sl e x1.toNat).frame.toNat x2.toNat) x4 = true
    ·rw [if_pos d3]
     exact h0
    ·rw [if_neg d3]
     exact h0
  ·rw [if_neg d]
   exact h0
 rw [if_neg c9]
 by_cases c10 : x0 = 10
 ·rw [if_pos c10]
  exact h0
 rw [if_neg c10]
 by_cases d : withinB (needN x0) (k.pt e x1.toNat).rights = true
 ·rw [if_pos d]
  exact hw _ _ _ _ _
 ·rw [if_neg d]
  exact h0
theorem kdo_keeps (Q : KernS → Prop) (k : KernS) (env x0 x1 x2 x3 x4 : Int) (h0 : Q k) (h1 : ∀ e s f, Q (allocS k e s f)) (h2 : ∀ e s e' s' r, Q (deriveS k e s e' s' r)) (h4 : ∀ l, Q (goneF k l)) (h6 : ∀ e p s r, Q (mapS k e p s r)) (h7 : ∀ e p, Q (unmapS k e p)) (h8 : ∀ e p r, Q (protS k e p r)) (hw : ∀ f a kind y z, Q (wordS k f a kind y z)) : Q (kdo k env x0 x1 x2 x3 x4).1 := by
 unfold kdo
 by_cases c : env < 0 ∨ k.envs ≤ env
 ·rw [if_pos c]
  exact h0
 ·rw [if_neg c]
  by_cases d : chkN x0 x1 x2 x3 x4 k.envs = 0
  ·rw [if_pos d]
   exact kcall_keeps Q k _ _ _ _ _ _ h0 (h1 _) (h2 _) h4 (h6 _) (h7 _) (h8 _) hw
  ·rw [if_neg d]
   exact h0
theorem Neat.do {k : KernS} (h : Neat k) (env x0 x1 x2 x3 x4 : Int) : Neat (kdo k env x0 x1 x2 x3 x4).1 :=
 kdo_keeps Neat k env x0 x1 x2 x3 x4 h (fun _ _ _ => h.of rfl) (fun _ _ _ _ _ => h.derive _ _ _ _ _) h.gone (fun _ _ _ _ => h.map _ _ _ _) (fun _ _ => h.unmap _ _) (fun _ _ _ => h.prot _ _ _) (fun _ _ _ _ _ => h.word _ _ _ _ _)
def SizesAs (k k' : KernS) : Prop := k'.envs = k.envs ∧ k'.frames = k.frames
theorem goneF_sizes (l : List Nat) (k : KernS) : SizesAs k (goneF k l) := by
 induction l generalizing k with
 | nil => exact ⟨rfl, rfl⟩
 | cons j l ih => exact ih (clr k (j / 8) (j % 8) 8)
theorem kdo_sizes (k : KernS) (env x0 x1 x2 x3 x4 : Int) : SizesAs k (kdo k env x0 x1 x2 x3 x4).1 :=
 kdo_keeps (SizesAs k) k env x0 x1 x2 x3 x4 ⟨rfl, rfl⟩ (fun _ _ _ => ⟨rfl, rfl⟩) (fun _ _ _ _ _ => by unfold deriveS; split <;> exact ⟨rfl, rfl⟩) (fun l => goneF_sizes l k)
  (fun _ _ _ _ => by unfold mapS; split <;> exact ⟨rfl, rfl⟩) (fun _ _ => by unfold unmapS; split <;> exact ⟨rfl, rfl⟩) (fun _ _ _ => by unfold protS; split <;> exact ⟨rfl, rfl⟩)
  (fun _ _ _ _ _ => by
   unfold wordS
   split
   ·exact ⟨rfl, rfl⟩
   ·split
    ·split <;> exact ⟨rfl, rfl⟩
    ·split <;> exact ⟨rfl, rfl⟩)
end Go.Proofs.YtdfhfmdelinemaaGreatDoor
namespace Go.Proofs.YtdfhfmdelinemaaGreatDoor
theorem in_of {k : KernS} {e s : Int} (h : inB k e s = true) : 0 ≤ e ∧ e < k.envs ∧ 0 ≤ s ∧ s < 8 := of_decide_eq_true h
theorem Sane.root {k : KernS} (h : Sane k) (e s f : Int) : Sane (rootS k e s f) := by
 unfold rootS
 split
 ·rename_i h0
  unfold rootE at h0
  split at h0
  ·rename_i h1
   exact h.setSlot (fun _ => ⟨h1.2.1, h1.2.2, by show (0 : Int) ≤ 3; decide, by show (3 : Int) ≤ 3; decide⟩) (fun _ h2 => absurd (show (0 : Int) ≤ -1 from h2) (by decide))
  ·exact absurd h0 (by decide)
 ·exact h
theorem Sane.tder {k : KernS} (h : Sane k) (e s t d r : Int) : Sane (tderS k e s t d r) := by
 unfold tderS
 split
 ·rename_i h0
  unfold tderE at h0
  split at h0
  ·rename_i h1
   have h2 := in_of h1.1
   have h4 := h.envs
   split at h0
   ·exact absurd h0 (by decide)
   ·rename_i hi
    split at h0
    ·exact absurd h0 (by decide)
    ·split at h0
     ·exact absurd h0 (by decide)
     ·rename_i hw
      have hsl := h.slot e.toNat s.toNat (by omega) (by omega) (by simpa using hi)
      have hr := within_may (r := r) (a := (k.sl e.toNat s.toNat).rights) (by simpa using hw)
      exact h.setSlot (fun _ => ⟨hsl.1, hsl.2.1, by show 0 ≤ r; omega, hr.2⟩) (fun _ _ => ⟨by show e < 4; omega, by show 0 ≤ s; omega, by show s < 8; omega⟩)
  ·exact absurd h0 (by decide)
 ·exact h
theorem tgone_no {k : KernS} {e s : Int} {it : Bool} (h : ¬ tgoneE k e s = 0) : tgoneL k e s it = [] ∧ tgoneS k e s it = k := by
 have e1 : tgoneL k e s it = [] := by
  unfold tgoneL
  rw [if_neg h]
 refine ⟨e1, ?_⟩
 unfold tgoneS
 rw [e1]
 rfl
end Go.Proofs.YtdfhfmdelinemaaGreatDoor
namespace Go.Proofs.YtdfhfmdelinemaaGreatDoor
def upN (s : SlotV) : Nat := s.env.toNat * 8 + s.slot.toNat
def endB (k : KernS) : Nat → Nat → Bool
 | 0, _ => false
 | n + 1, p => if 0 ≤ (k.sl (p / 8) (p % 8)).env then endB k n (upN (k.sl (p / 8) (p % 8))) else true
theorem endB_succ (k : KernS) (n p : Nat) : endB k (n + 1) p = if 0 ≤ (k.sl (p / 8) (p % 8)).env then endB k n (upN (k.sl (p / 8) (p % 8))) else true := rfl
theorem endB_mono (k : KernS) : ∀ n p, endB k n p = true → endB k (n + 1) p = true
 | 0, _, h => Bool.noConfusion (show false = true from h)
 | n + 1, p, h => by
  rw [endB_succ] at h ⊢
  by_cases h1 : 0 ≤ (k.sl (p / 8) (p % 8)).env
  ·rw [if_pos h1] at h ⊢
   exact endB_mono k n _ h
  ·rw [if_neg h1]
theorem endB_le (k : KernS) {n m p : Nat} (h : endB k n p = true) (hm : n ≤ m) : endB k m p = true := by
 induction m with
 | zero =>
  obtain rfl : n = 0 := by omega
  exact h
 | succ m ih =>
  rcases Nat.lt_or_ge m n with h1 | h1
  ·obtain rfl : n = m + 1 := by omega
   exact h
  ·exact endB_mono k m p (ih h1)
structure TreeOk (k : KernS) : Prop where
 envs : 1 ≤ k.envs ∧ k.envs ≤ 4
 out : ∀ e s : Nat, ¬ (e : Int) < k.envs → (k.sl e s).is = false
 rights : ∀ e s : Nat, (k.sl e s).is = true → 1 ≤ (k.sl e s).rights ∧ (k.sl e s).rights ≤ 3
 par : ∀ e s : Nat, s < 8 → (k.sl e s).is = true → (k.sl e s).env = -1 ∨ ∃ a b : Nat, (k.sl e s).env = (a : Int) ∧ (k.sl e s).slot = (b : Int) ∧ (a : Int) < k.envs ∧ b < 8 ∧ (k.sl a b).is = true
 ends : ∀ e s : Nat, s < 8 → (k.sl e s).is = true → ∃ n, endB k n (e * 8 + s) = true
theorem TreeOk.lt {k : KernS} (h : TreeOk k) {e s : Nat} (hi : (k.sl e s).is = true) : (e : Int) < k.envs ∧ e < 4 := by
 have h2 := h.envs
 by_cases h1 : (e : Int) < k.envs
 ·exact ⟨h1, by omega⟩
 ·rw [h.out e s h1] at hi
  exact absurd hi (by decide)
theorem at_div {e s : Nat} (hs : s < 8) : (e * 8 + s) / 8 = e ∧ (e * 8 + s) % 8 = s := by omega
theorem upN_of {v : SlotV} {a b : Nat} (h1 : v.env = (a : Int)) (h2 : v.slot = (b : Int)) : upN v = a * 8 + b := by
 unfold upN
 rw [h1, h2, Int.toNat_natCast, Int.toNat_natCast]
theorem endB_root {k : KernS} {e s n : Nat} (hs : s < 8) (h : (k.sl e s).env = -1) : endB k (n + 1) (e * 8 + s) = true := by
 rw [endB_succ, (at_div hs).1, (at_div hs).2, if_neg (by omega)]
theorem endB_up {k : KernS} {e s a b n : Nat} (hs : s < 8) (h1 : (k.sl e s).env = (a : Int)) (h2 : (k.sl e s).slot = (b : Int)) : endB k (n + 1) (e * 8 + s) = endB k n (a * 8 + b) := by
 rw [endB_succ, (at_div hs).1, (at_div hs).2, if_pos (by omega), upN_of h1 h2]
theorem pigeon : ∀ (n : Nat) (l : List Nat), l.Nodup → (∀ x, x ∈ l → x < n) → l.length ≤ n
 | 0, [], _, _ => Nat.le_refl 0
 | 0, x :: _, _, h => absurd (h x (List.mem_cons_self ..)) (Nat.not_lt_zero _)
 | n + 1, l, hd, h => by
  by_cases hm : n ∈ l
  ·have h2 := pigeon n (l.erase n) (hd.erase n) (fun x hx => by
    have h3 := h x (List.mem_of_mem_erase hx)
    have h4 : x ≠ n := fun e => by
     subst e
     exact (List.Nodup.not_mem_erase hd) hx
    omega)
   rw [List.length_erase_of_mem hm] at h2
   omega
  ·have h2 := pigeon n l hd (fun x hx => by
    have h3 := h x hx
    have h4 : x ≠ n := fun e => hm (e ▸ hx)
    omega)
   omega
def MinB (k : KernS) (n p : Nat) : Prop := endB k n p = true ∧ ∀ m, m < n → endB k m p = false
theorem min_one {k : KernS} {n m p : Nat} (h : MinB k n p) (h2 : MinB k m p) : n = m := by
 rcases Nat.lt_trichotomy n m with h3 | h3 | h3
 ·have := h2.2 n h3
  rw [h.1] at this
  exact absurd this (by decide)
 ·exact h3
 ·have := h.2 m h3
  rw [h2.1] at this
  exact absurd this (by decide)
theorem min_is {k : KernS} {p : Nat} : ∀ n, endB k n p = true → ∃ m, MinB k m p
 | 0, h => Bool.noConfusion (show false = true from h)
 | n + 1, h => by
  by_cases h1 : endB k n p = true
  ·exact min_is n h1
  ·refine ⟨n + 1, h, fun m hm => ?_⟩
   cases h2 : endB k m p
   ·rfl
   ·exact absurd (endB_le k h2 (show m ≤ n by omega)) h1
theorem min_row {k : KernS} (hk : TreeOk k) : ∀ (n e s : Nat), s < 8 → (k.sl e s).is = true → MinB k n (e * 8 + s) → ∃ l : List Nat, l.length = n ∧ l.Nodup ∧ ∀ x, x ∈ l → x < 32 ∧ ∃ m, m ≤ n ∧ MinB k m x
 | 0, _, _, _, _, h => Bool.noConfusion (show false = true from h.1)
 | n + 1, e, s, hs, hi, h => by
  have he := hk.lt hi
  rcases hk.par e s hs hi with h1 | ⟨a, b, h1, h2, h3, h4, h5⟩
  ·have h0 : n = 0 := by
    rcases Nat.eq_zero_or_pos n with h0 | h0
    ·exact h0
    ·have := h.2 1 (by omega)
     rw [endB_root hs h1] at this
     exact absurd this (by decide)
   subst h0
   refine ⟨[e * 8 + s], rfl, by simp, fun x hx => ?_⟩
   obtain rfl : x = e * 8 + s := by simpa using hx
   exact ⟨by omega, 1, by omega, h⟩
  ·have hm : MinB k n (a * 8 + b) := ⟨by rw [← endB_up hs h1 h2]; exact h.1, fun m hm => by rw [← endB_up hs h1 h2]; exact h.2 (m + 1) (by omega)⟩
   obtain ⟨l, hl, hd, hx⟩ := min_row hk n a b h4 h5 hm
   refine ⟨(e * 8 + s) :: l, by simp [hl], List.nodup_cons.2 ⟨fun hin => ?_, hd⟩, fun x hx2 => ?_⟩
   ·obtain ⟨_, m, hm1, hm2⟩ := hx _ hin
    have := min_one h hm2
    omega
   ·rcases List.mem_cons.1 hx2 with rfl | hx2
    ·exact ⟨by omega, n + 1, by omega, h⟩
    ·obtain ⟨h6, m, h7, h8⟩ := hx x hx2
     exact ⟨h6, m, by omega, h8⟩
theorem TreeOk.end32 {k : KernS} (hk : TreeOk k) {e s : Nat} (hs : s < 8) (hi : (k.sl e s).is = true) : endB k 32 (e * 8 + s) = true := by
 obtain ⟨n, hn⟩ := hk.ends e s hs hi
 obtain ⟨m, hm⟩ := min_is n hn
 obtain ⟨l, hl, hd, hx⟩ := min_row hk m e s hs hi hm
 have := pigeon 32 l hd fun x h => (hx x h).1
 exact endB_le k hm.1 (by omega)
def fromI (k : KernS) (a b : Int) : Nat → Nat → Bool
 | 0, _ => false
 | n + 1, p => if 0 ≤ (k.sl (p / 8) (p % 8)).env then decide ((k.sl (p / 8) (p % 8)).env = a ∧ (k.sl (p / 8) (p % 8)).slot = b) || fromI k a b n (upN (k.sl (p / 8) (p % 8))) else false
theorem fromI_root {k : KernS} {a b : Int} {e s n : Nat} (hs : s < 8) (h : (k.sl e s).env = -1) : fromI k a b n (e * 8 + s) = false := by
 cases n with
 | zero => rfl
 | succ n =>
  unfold fromI
  rw [(at_div hs).1, (at_div hs).2, if_neg (by omega)]
theorem fromI_up {k : KernS} {x y : Int} {e s a b n : Nat} (hs : s < 8) (h1 : (k.sl e s).env = (a : Int)) (h2 : (k.sl e s).slot = (b : Int)) : fromI k x y (n + 1) (e * 8 + s) = (decide ((a : Int) = x ∧ (b : Int) = y) || fromI k x y n (a * 8 + b)) := by
 show (if 0 ≤ (k.sl ((e * 8 + s) / 8) ((e * 8 + s) % 8)).env then _ else _) = _
 rw [(at_div hs).1, (at_div hs).2, if_pos (by omega), upN_of h1 h2, h1, h2]
theorem fromI_no {k : KernS} (hk : TreeOk k) {x y : Int} (hq : ¬ (inB k x y = true ∧ (k.sl x.toNat y.toNat).is = true)) : ∀ (n e s : Nat), s < 8 → (k.sl e s).is = true → fromI k x y n (e * 8 + s) = false
 | 0, _, _, _, _ => rfl
 | n + 1, e, s, hs, hi => by
  rcases hk.par e s hs hi with h1 | ⟨a, b, h1, h2, h3, h4, h5⟩
  ·exact fromI_root hs h1
  ·rw [fromI_up hs h1 h2, fromI_no hk hq n a b h4 h5, Bool.or_false]
   refine decide_eq_false fun h6 => hq ?_
   obtain ⟨rfl, rfl⟩ := h6
   refine ⟨decide_eq_true ⟨by omega, h3, by omega, by omega⟩, ?_⟩
   rw [Int.toNat_natCast, Int.toNat_natCast]
   exact h5
theorem fromI_yes {k : KernS} (hk : TreeOk k) {x y : Nat} (hy : y < 8) : ∀ (n e s : Nat), s < 8 → (k.sl e s).is = true → fromI k x y n (e * 8 + s) = fromB k (x * 8 + y) n (e * 8 + s)
 | 0, _, _, _, _ => rfl
 | n + 1, e, s, hs, hi => by
  rcases hk.par e s hs hi with h1 | ⟨a, b, h1, h2, h3, h4, h5⟩
  ·rw [fromI_root hs h1, fromB_none hs (by rw [h1]; rintro ⟨_, h⟩; exact absurd h (by decide))]
  ·rw [fromI_up hs h1 h2, fromB_some hs hi h1 h2, fromI_yes hk hy n a b h4 h5]
   congr 1
   refine decide_eq_decide.2 ⟨fun h => by omega, fun h => by omega⟩
theorem fromB_more {k : KernS} (hk : TreeOk k) (q : Nat) : ∀ (n m e s : Nat), s < 8 → (k.sl e s).is = true → endB k n (e * 8 + s) = true → n ≤ m → fromB k q m (e * 8 + s) = fromB k q n (e * 8 + s)
 | 0, _, _, _, _, _, h, _ => Bool.noConfusion (show false = true from h)
 | n + 1, 0, _, _, _, _, _, hm => absurd hm (by omega)
 | n + 1, m + 1, e, s, hs, hi, h, hm => by
  rcases hk.par e s hs hi with h1 | ⟨a, b, h1, h2, h3, h4, h5⟩
  ·rw [fromB_none hs (by rw [h1]; rintro ⟨_, h⟩; exact absurd h (by decide)), fromB_none hs (by rw [h1]; rintro ⟨_, h⟩; exact absurd h (by decide))]
  ·rw [fromB_some hs hi h1 h2, fromB_some hs hi h1 h2]
   rw [endB_up hs h1 h2] at h
   rw [fromB_more hk q n m a b h4 h5 h (by omega)]
theorem fromB_empty {k : KernS} {q n e s : Nat} (hs : s < 8) (hi : (k.sl e s).is = false) : fromB k q n (e * 8 + s) = false := by
 cases n with
 | zero => rfl
 | succ n => exact fromB_none hs (by rw [hi]; rintro ⟨h, _⟩; exact absurd h (by decide))
theorem fromB_par {k : KernS} (hk : TreeOk k) {q e s a b : Nat} (hs : s < 8) (hi : (k.sl e s).is = true) (h1 : (k.sl e s).env = (a : Int)) (h2 : (k.sl e s).slot = (b : Int)) (h4 : b < 8) (h5 : (k.sl a b).is = true) : fromB k q 32 (e * 8 + s) = (decide (a * 8 + b = q) || fromB k q 32 (a * 8 + b)) := by
 have h := hk.end32 hs hi
 rw [show (32 : Nat) = 31 + 1 from rfl, endB_up hs h1 h2] at h
 rw [fromB_more hk q 31 32 a b h4 h5 h (by omega), show (32 : Nat) = 31 + 1 from rfl, fromB_some hs hi h1 h2]
theorem TreeOk.new {n : Int} (h : 1 ≤ n ∧ n ≤ 4) : TreeOk (newK 1 n 16) :=
 ⟨h, fun _ _ _ => rfl, fun _ _ h => absurd (show false = true from h) (by decide), fun _ _ _ h => absurd (show false = true from h) (by decide), fun _ _ _ h => absurd (show false = true from h) (by decide)⟩
theorem set_at (k : KernS) (e s : Nat) (v : SlotV) : (k.setSlot e s v).sl e s = v := by
 show (if e = e ∧ s = s then v else k.sl e s) = v
 rw [if_pos ⟨rfl, rfl⟩]
theorem set_off (k : KernS) {e s e' s' : Nat} (v : SlotV) (h : ¬ (e' = e ∧ s' = s)) : (k.setSlot e s v).sl e' s' = k.sl e' s' := by
 show (if e' = e ∧ s' = s then v else k.sl e' s') = k.sl e' s'
 rw [if_neg h]
theorem endB_put {k : KernS} (hk : TreeOk k) {e s : Nat} (he : (k.sl e s).is = false) (v : SlotV) : ∀ (n a b : Nat), b < 8 → (k.sl a b).is = true → endB (k.setSlot e s v) n (a * 8 + b) = endB k n (a * 8 + b)
 | 0, _, _, _, _ => rfl
 | n + 1, a, b, hb, hi => by
  have hne : ¬ (a = e ∧ b = s) := by
   rintro ⟨rfl, rfl⟩
   rw [he] at hi
   exact absurd hi (by decide)
  have hq := set_off k (e := e) (s := s) v hne
  rcases hk.par a b hb hi with h1 | ⟨c, d, h1, h2, h3, h4, h5⟩
  ·rw [endB_root hb h1, endB_root hb (by rw [hq]; exact h1)]
  ·rw [endB_up hb h1 h2, endB_up hb (by rw [hq]; exact h1) (by rw [hq]; exact h2), endB_put hk he v n c d h4 h5]
theorem TreeOk.put {k : KernS} (hk : TreeOk k) {e s : Nat} {v : SlotV} (hE : (e : Int) < k.envs) (hs : s < 8) (he : (k.sl e s).is = false) (hr : 1 ≤ v.rights ∧ v.rights ≤ 3)
  (hp : v.env = -1 ∨ ∃ a b : Nat, v.env = (a : Int) ∧ v.slot = (b : Int) ∧ (a : Int) < k.envs ∧ b < 8 ∧ (k.sl a b).is = true) : TreeOk (k.setSlot e s v) := by
 have hold : ∀ a b : Nat, (k.sl a b).is = true → (k.setSlot e s v).sl a b = k.sl a b := fun a b h => set_off k v (by
  rintro ⟨rfl, rfl⟩
  rw [he] at h
  exact absurd h (by decide))
 have hcase : ∀ a b : Nat, ((k.setSlot e s v).sl a b).is = true → (a = e ∧ b = s) ∨ (¬ (a = e ∧ b = s) ∧ (k.sl a b).is = true) := fun a b h => by
  by_cases hc : a = e ∧ b = s
  ·exact Or.inl hc
  ·rw [set_off k v hc] at h
   exact Or.inr ⟨hc, h⟩
 refine ⟨hk.envs, fun a b h => ?_, fun a b h => ?_, fun a b hb h => ?_, fun a b hb h => ?_⟩
 ·rw [set_off k v (by rintro ⟨rfl, rfl⟩; exact h hE)]
  exact hk.out a b h
 ·rcases hcase a b h with ⟨rfl, rfl⟩ | ⟨hc, h⟩
  ·rw [set_at]
   exact hr
  ·rw [set_off k v hc]
   exact hk.rights a b h
 ·rcases hcase a b h with ⟨rfl, rfl⟩ | ⟨hc, h⟩
  ·rw [set_at]
   rcases hp with h1 | ⟨c, d, h1, h2, h3, h4, h5⟩
   ·exact Or.inl h1
   ·exact Or.inr ⟨c, d, h1, h2, h3, h4, by rw [hold c d h5]; exact h5⟩
  ·rw [set_off k v hc]
   rcases hk.par a b hb h with h1 | ⟨c, d, h1, h2, h3, h4, h5⟩
   ·exact Or.inl h1
   ·exact Or.inr ⟨c, d, h1, h2, h3, h4, by rw [hold c d h5]; exact h5⟩
 ·rcases hcase a b h with ⟨rfl, rfl⟩ | ⟨hc, h⟩
  ·rcases hp with h1 | ⟨c, d, h1, h2, h3, h4, h5⟩
   ·exact ⟨1, endB_root hb (by rw [set_at]; exact h1)⟩
   ·obtain ⟨n, hn⟩ := hk.ends c d h4 h5
    exact ⟨n + 1, by rw [endB_up hb (by rw [set_at]; exact h1) (by rw [set_at]; exact h2), endB_put hk he v n c d h4 h5]; exact hn⟩
  ·obtain ⟨n, hn⟩ := hk.ends a b hb h
   exact ⟨n, by rw [endB_put hk he v n a b hb h]; exact hn⟩
theorem goneF_sl : ∀ (l : List Nat) (k : KernS) (a b : Nat), b < 8 → (goneF k l).sl a b = if a * 8 + b ∈ l then noSlot else k.sl a b
 | [], _, _, _, _ => by rw [if_neg (by simp)]; rfl
 | j :: l, k, a, b, hb => by
  show (goneF (clr k (j / 8) (j % 8) 8) l).sl a b = _
  rw [goneF_sl l _ a b hb]
  show (if a * 8 + b ∈ l then noSlot else if a = j / 8 ∧ b = j % 8 then noSlot else k.sl a b) = _
  by_cases h1 : a * 8 + b ∈ l
  ·rw [if_pos h1, if_pos (List.mem_cons_of_mem _ h1)]
  ·rw [if_neg h1]
   by_cases h2 : a = j / 8 ∧ b = j % 8
   ·rw [if_pos h2, if_pos (by rw [show a * 8 + b = j by omega]; exact List.mem_cons_self ..)]
   ·rw [if_neg h2, if_neg (fun h3 => (List.mem_cons.1 h3).elim (fun h4 => h2 (by omega)) h1)]
theorem TreeOk.cut {k : KernS} (hk : TreeOk k) (l : List Nat) (hl : ∀ e s a b : Nat, s < 8 → (k.sl e s).is = true → (k.sl e s).env = (a : Int) → (k.sl e s).slot = (b : Int) → a * 8 + b ∈ l → e * 8 + s ∈ l) : TreeOk (goneF k l) := by
 have hE : (goneF k l).envs = k.envs := (goneF_sizes l k).1
 have hin : ∀ a b : Nat, b < 8 → ((goneF k l).sl a b).is = true → ¬ a * 8 + b ∈ l ∧ (goneF k l).sl a b = k.sl a b ∧ (k.sl a b).is = true := fun a b hb h => by
  rw [goneF_sl l k a b hb] at h ⊢
  by_cases h1 : a * 8 + b ∈ l
  ·rw [if_pos h1] at h
   exact absurd (show false = true from h) (by decide)
  ·rw [if_neg h1] at h ⊢
   exact ⟨h1, rfl, h⟩
 have hend : ∀ n a b : Nat, b < 8 → ¬ a * 8 + b ∈ l → (k.sl a b).is = true → endB (goneF k l) n (a * 8 + b) = endB k n (a * 8 + b) := by
  intro n
  induction n with
  | zero => exact fun _ _ _ _ _ => rfl
  | succ n ih =>
   intro a b hb h1 hi
   have hq : (goneF k l).sl a b = k.sl a b := by rw [goneF_sl l k a b hb, if_neg h1]
   rcases hk.par a b hb hi with h2 | ⟨c, d, h2, h3, h4, h5, h6⟩
   ·rw [endB_root hb h2, endB_root hb (by rw [hq]; exact h2)]
   ·rw [endB_up hb h2 h3, endB_up hb (by rw [hq]; exact h2) (by rw [hq]; exact h3)]
    exact ih c d h5 (fun hc => h1 (hl a b c d hb hi h2 h3 hc)) h6
 have hwide : ∀ a b : Nat, ((goneF k l).sl a b).is = true → (k.sl a b).is = true := by
  intro a b
  have : ∀ (l : List Nat) (k : KernS), ((goneF k l).sl a b).is = true → (k.sl a b).is = true := by
   intro l
   induction l with
   | nil => exact fun _ h => h
   | cons j l ih =>
    intro k h
    have h2 := ih _ (show ((goneF (clr k (j / 8) (j % 8) 8) l).sl a b).is = true from h)
    have h3 : (if a = j / 8 ∧ b = j % 8 then noSlot else k.sl a b).is = true := h2
    by_cases h4 : a = j / 8 ∧ b = j % 8
    ·rw [if_pos h4] at h3
     exact absurd (show false = true from h3) (by decide)
    ·rw [if_neg h4] at h3
     exact h3
  exact this l k
 have hsame : ∀ a b : Nat, ((goneF k l).sl a b).is = true → (goneF k l).sl a b = k.sl a b := by
  intro a b
  have : ∀ (l : List Nat) (k : KernS), ((goneF k l).sl a b).is = true → (goneF k l).sl a b = k.sl a b := by
   intro l
   induction l with
   | nil => exact fun _ _ => rfl
   | cons j l ih =>
    intro k h
    have h1 := ih (clr k (j / 8) (j % 8) 8) h
    have h2 : ((clr k (j / 8) (j % 8) 8).sl a b).is = true := by rw [← h1]; exact h
    have h3 : (clr k (j / 8) (j % 8) 8).sl a b = if a = j / 8 ∧ b = j % 8 then noSlot else k.sl a b := rfl
    rw [show goneF k (j :: l) = goneF (clr k (j / 8) (j % 8) 8) l from rfl, h1, h3]
    rw [h3] at h2
    by_cases h4 : a = j / 8 ∧ b = j % 8
    ·rw [if_pos h4] at h2
     exact absurd (show false = true from h2) (by decide)
    ·rw [if_neg h4]
  exact this l k
 refine ⟨by rw [hE]; exact hk.envs, fun a b h => ?_, fun a b h => ?_, fun a b hb h => ?_, fun a b hb h => ?_⟩
 ·rw [hE] at h
  cases hc : ((goneF k l).sl a b).is
  ·rfl
  ·have h2 := hwide a b hc
   rw [hk.out a b h] at h2
   exact absurd h2 (by decide)
 ·rw [hsame a b h]
  exact hk.rights a b (hwide a b h)
 ·obtain ⟨h1, h2, h3⟩ := hin a b hb h
  rw [h2, hE]
  rcases hk.par a b hb h3 with h4 | ⟨c, d, h4, h5, h6, h7, h8⟩
  ·exact Or.inl h4
  ·refine Or.inr ⟨c, d, h4, h5, h6, h7, ?_⟩
   rw [goneF_sl l k c d h7, if_neg fun hc => h1 (hl a b c d hb h3 h4 h5 hc)]
   exact h8
 ·obtain ⟨h1, h2, h3⟩ := hin a b hb h
  obtain ⟨n, hn⟩ := hk.ends a b hb h3
  exact ⟨n, by rw [hend n a b hb h1 h3]; exact hn⟩
theorem goneL_mem {k : KernS} {q p : Nat} {it : Bool} : p ∈ goneL k q it ↔ p < 32 ∧ ((it = true ∧ p = q) ∨ fromB k q 32 p = true) := by
 unfold goneL
 rw [List.mem_filter, List.mem_range]
 refine and_congr Iff.rfl ?_
 rw [Bool.or_eq_true, Bool.and_eq_true, decide_eq_true_eq]
theorem TreeOk.gone {k : KernS} (hk : TreeOk k) (q : Nat) (it : Bool) : TreeOk (goneF k (goneL k q it)) := by
 refine hk.cut _ fun e s a b hs hi h1 h2 hm => ?_
 have he := (hk.lt hi).2
 rcases hk.par e s hs hi with h3 | ⟨c, d, h3, h4, h5, h6, h7⟩
 ·omega
 ·obtain rfl : a = c := by omega
  obtain rfl : b = d := by omega
  rw [goneL_mem] at hm ⊢
  refine ⟨by omega, Or.inr ?_⟩
  rw [fromB_par hk hs hi h1 h2 h6 h7]
  rcases hm.2 with ⟨_, h8⟩ | h8
  ·rw [decide_eq_true h8, Bool.true_or]
  ·rw [h8, Bool.or_true]
theorem TreeOk.tgone {k : KernS} (hk : TreeOk k) (e s : Int) (it : Bool) : TreeOk (tgoneS k e s it) := by
 unfold tgoneS tgoneL
 split
 ·exact hk.gone _ it
 ·exact hk
theorem TreeOk.root {k : KernS} (hk : TreeOk k) (e s f : Int) : TreeOk (rootS k e s f) := by
 unfold rootS
 split
 ·rename_i h0
  unfold rootE at h0
  split at h0
  ·rename_i h1
   have h2 := in_of h1.1
   split at h0
   ·exact absurd h0 (by decide)
   ·rename_i hi
    exact hk.put (by omega) (by omega) (by simpa using hi) ⟨by show (1 : Int) ≤ 3; decide, by show (3 : Int) ≤ 3; decide⟩ (Or.inl rfl)
  ·exact absurd h0 (by decide)
 ·exact hk
theorem TreeOk.tder {k : KernS} (hk : TreeOk k) (e s t d r : Int) : TreeOk (tderS k e s t d r) := by
 unfold tderS
 split
 ·rename_i h0
  unfold tderE at h0
  split at h0
  ·rename_i h1
   have h2 := in_of h1.1
   have h3 := in_of h1.2.1
   split at h0
   ·exact absurd h0 (by decide)
   ·rename_i hi
    split at h0
    ·exact absurd h0 (by decide)
    ·rename_i hd
     split at h0
     ·exact absurd h0 (by decide)
     ·rename_i hw
      have hr := within_may (r := r) (a := (k.sl e.toNat s.toNat).rights) (by simpa using hw)
      exact hk.put (by omega) (by omega) (by simpa using hd) ⟨by show 1 ≤ r; omega, hr.2⟩ (Or.inr ⟨e.toNat, s.toNat, by show e = _; omega, by show s = _; omega, by omega, by omega, by simpa using hi⟩)
  ·exact absurd h0 (by decide)
 ·exact hk
end Go.Proofs.YtdfhfmdelinemaaGreatDoor
namespace Go.Proofs.YtdfhfmdelinemaaGreatDoor
open Go.RowKit Go.Extern.Stop Go.Stop Go.Extern Go.WalkArith
def capI (v : SlotV) (i : Nat) : Int := if v.is = true then (if i = 0 then v.frame else if i = 1 then v.rights else if i = 2 then v.env else v.slot) else 0
theorem capI_no {v : SlotV} (h : v.is = false) (i : Nat) : capI v i = 0 := if_neg (by rw [h]; decide)
theorem capI_yes {v : SlotV} (h : v.is = true) : capI v 0 = v.frame ∧ capI v 1 = v.rights ∧ capI v 2 = v.env ∧ capI v 3 = v.slot := ⟨if_pos h, if_pos h, if_pos h, if_pos h⟩
def treeG (k : KernS) (j : Nat) : Int := capI (k.sl (j / 32) (j % 32 / 4)) (j % 4)
theorem treeG_at (k : KernS) {e s i : Nat} (hs : s < 8) (hi : i < 4) : treeG k (e * 32 + s * 4 + i) = capI (k.sl e s) i := by
 unfold treeG
 rw [show (e * 32 + s * 4 + i) / 32 = e by omega, show (e * 32 + s * 4 + i) % 32 / 4 = s by omega, show (e * 32 + s * 4 + i) % 4 = i by omega]
structure TreeIs (w : World) (P G E : Nat) (k : KernS) : Prop where
 ok : TreeOk k
 envs : k.envs = (E : Int)
 ne : P ≠ G
 top : w.cell? ⟨P, 0, none⟩ = some (.slice (some ⟨G, 0, none⟩) E E)
 nums : NumsIs (E * 32) w G (treeG k)
 lp : P < w.heap.size
section
variable {w w' : World} {P G E : Nat} {k : KernS}
theorem TreeIs.lg (h : TreeIs w P G E k) : G < w.heap.size := h.nums.2.2
theorem TreeIs.e4 (h : TreeIs w P G E k) : 1 ≤ E ∧ E ≤ 4 := by
 have h1 := h.ok.envs
 have h2 := h.envs
 omega
theorem TreeIs.foot (h : TreeIs w P G E k) (hs : w.heap.size ≤ w'.heap.size) (hP : w'.heap[P]? = w.heap[P]?) (hG : w'.heap[G]? = w.heap[G]?) : TreeIs w' P G E k :=
 ⟨h.ok, h.envs, h.ne, (World.cell?_of_block (a := ⟨P, 0, none⟩) hP).trans h.top, ⟨fun j hj => (World.cell?_of_block (a := ⟨G, j, none⟩) hG).trans (h.nums.1 j hj), fun j => (World.frozen?_of_block (a := ⟨G, j, none⟩) hG).trans (h.nums.2.1 j), Nat.lt_of_lt_of_le h.lg hs⟩, Nat.lt_of_lt_of_le h.lp hs⟩
theorem TreeIs.later (h : TreeIs w P G E k) (hb : Below w.heap.size w w') : TreeIs w' P G E k := h.foot hb.size (hb.block _ h.lp) (hb.block _ h.lg)
theorem TreeIs.drewN (h : TreeIs w P G E k) (n : Nat) : TreeIs (w.drewN n) P G E k := ⟨h.ok, h.envs, h.ne, h.top, h.nums, h.lp⟩
theorem TreeIs.drew (h : TreeIs w P G E k) : TreeIs w.drew P G E k := h.drewN 1
theorem TreeIs.cap (h : TreeIs w P G E k) {e s : Nat} (he : e < E) (hs : s < 8) : w.cell? ⟨G, e * 32 + s * 4, none⟩ = some (.int .i64 (capI (k.sl e s) 0)) ∧ w.cell? ⟨G, e * 32 + s * 4 + 1, none⟩ = some (.int .i64 (capI (k.sl e s) 1)) ∧ w.cell? ⟨G, e * 32 + s * 4 + 2, none⟩ = some (.int .i64 (capI (k.sl e s) 2)) ∧ w.cell? ⟨G, e * 32 + s * 4 + 3, none⟩ = some (.int .i64 (capI (k.sl e s) 3)) := by
 have c := fun i (hi : i < 4) => (h.nums.1 (e * 32 + s * 4 + i) (by omega)).trans (congrArg (fun x => some (Value.int .i64 x)) (treeG_at k hs hi))
 exact ⟨c 0 (by omega), c 1 (by omega), c 2 (by omega), c 3 (by omega)⟩
theorem TreeIs.put (h : TreeIs w P G E k) {e s : Nat} (he : e < E) (hs : s < 8) {k' : KernS} (hk : TreeOk k') (hE : k'.envs = k.envs) {x0 x1 x2 x3 : Int} (h0 : capI (k'.sl e s) 0 = x0) (h1 : capI (k'.sl e s) 1 = x1) (h2 : capI (k'.sl e s) 2 = x2) (h3 : capI (k'.sl e s) 3 = x3)
  (hoff : ∀ a b : Nat, a < E → b < 8 → ¬ (a = e ∧ b = s) → k'.sl a b = k.sl a b) :
  TreeIs ((((w.setCell ⟨G, e * 32 + s * 4, none⟩ (.int .i64 x0)).setCell ⟨G, e * 32 + s * 4 + 1, none⟩ (.int .i64 x1)).setCell ⟨G, e * 32 + s * 4 + 2, none⟩ (.int .i64 x2)).setCell ⟨G, e * 32 + s * 4 + 3, none⟩ (.int .i64 x3)) P G E k' := by
 refine ⟨hk, hE.trans h.envs, h.ne, ?_, ?_, by simpa using h.lp⟩
 ·have hn : ∀ i : Nat, (⟨G, i, none⟩ : Addr) ≠ ⟨P, 0, none⟩ := fun i e => h.ne (congrArg Addr.block e).symm
  rw [World.cell?_setCell_other _ _ _ _ (hn _), World.cell?_setCell_other _ _ _ _ (hn _), World.cell?_setCell_other _ _ _ _ (hn _), World.cell?_setCell_other _ _ _ _ (hn _)]
  exact h.top
 ·have b3 : e * 32 + s * 4 + 3 < E * 32 := by omega
  have n0 := h.nums.set (i := e * 32 + s * 4) (by omega) x0
  have n1 := n0.set (i := e * 32 + s * 4 + 1) (by omega) x1
  have n2 := n1.set (i := e * 32 + s * 4 + 2) (by omega) x2
  have n3 := n2.set (i := e * 32 + s * 4 + 3) b3 x3
  refine n3.congr fun j hj => ?_
  clear n0 n1 n2 n3
  by_cases c3 : j = e * 32 + s * 4 + 3
  ·rw [if_pos c3, c3, treeG_at k' hs (by omega), h3]
  rw [if_neg c3]
  by_cases c2 : j = e * 32 + s * 4 + 2
  ·rw [if_pos c2, c2, treeG_at k' hs (by omega), h2]
  rw [if_neg c2]
  by_cases c1 : j = e * 32 + s * 4 + 1
  ·rw [if_pos c1, c1, treeG_at k' hs (by omega), h1]
  rw [if_neg c1]
  by_cases c0 : j = e * 32 + s * 4
  ·rw [if_pos c0, c0]
   clear c0 c1 c2 c3
   have h5 := treeG_at k' (e := e) hs (i := 0) (by omega)
   rw [Nat.add_zero] at h5
   rw [h5, h0]
  rw [if_neg c0]
  unfold treeG
  rw [hoff (j / 32) (j % 32 / 4) (by omega) (by omega) (by omega)]
end
theorem tk_four {w w' : World} {T : Nat} (h : OnlyT T w w') (i j l m : Nat) (a b c d : Value) : OnlyT T w ((((w'.setCell ⟨T, i, none⟩ a).setCell ⟨T, j, none⟩ b).setCell ⟨T, l, none⟩ c).setCell ⟨T, m, none⟩ d) := tp_set (tp_set (tp_set (tp_set h _ _) _ _) _ _) _ _
theorem camong (n m : Int) (w : World) : Calls Tryz.prog 74 #[.int .i64 n, .int .i64 m] w fun e w' => e = .returned (.bool (decide (0 ≤ n) && decide (n < m))) ∧ w = w' := by
 by_cases h1 : 0 ≤ n
 all_goals by_cases h2 : n < m
 all_goals
  go_enter Tryz.func74, Tryz.ntmps74
  go_wp2
  go_ret
  simp [h1, h2]
theorem camong_yes (n m : Int) (h1 : 0 ≤ n) (h2 : n < m) (w : World) : Calls Tryz.prog 74 #[.int .i64 n, .int .i64 m] w fun e w' => e = .returned (.bool true) ∧ w = w' :=
 (camong n m w).mono fun _ _ ⟨he, hw⟩ => ⟨by rw [he]; simp [h1, h2], hw⟩
theorem camong_no (n m : Int) (h : n < 0 ∨ m ≤ n) (w : World) : Calls Tryz.prog 74 #[.int .i64 n, .int .i64 m] w fun e w' => e = .returned (.bool false) ∧ w = w' :=
 (camong n m w).mono fun _ _ ⟨he, hw⟩ => ⟨by rw [he]; rcases h with h | h <;> simp <;> omega, hw⟩
theorem cthere_yes (f r c d : Int) (hr : ¬ r = 0) (w : World) : Calls Tryz.prog 75 #[.agg #[.int .i64 f, .int .i64 r, .int .i64 c, .int .i64 d]] w fun e w' => e = .returned (.bool true) ∧ Below w.heap.size w w' := by
 go_enter Tryz.func75, Tryz.ntmps75
 go_wp2
 go_ret
 exact ⟨by simp [hr], (Below.refl _ _).alloc (Nat.le_refl _) _⟩
theorem cthere_no (f c d : Int) (w : World) : Calls Tryz.prog 75 #[.agg #[.int .i64 f, .int .i64 0, .int .i64 c, .int .i64 d]] w fun e w' => e = .returned (.bool false) ∧ Below w.heap.size w w' := by
 go_enter Tryz.func75, Tryz.ntmps75
 go_wp2
 go_ret
 exact ⟨rfl, (Below.refl _ _).alloc (Nat.le_refl _) _⟩
theorem cthere_any {v : SlotV} (hr : v.is = true → 1 ≤ v.rights) (w : World) : Calls Tryz.prog 75 #[.agg #[.int .i64 (capI v 0), .int .i64 (capI v 1), .int .i64 (capI v 2), .int .i64 (capI v 3)]] w fun e w' => e = .returned (.bool v.is) ∧ Below w.heap.size w w' := by
 cases hi : v.is
 ·rw [capI_no hi 1]
  exact cthere_no _ _ _ w
 ·have := hr hi
  exact cthere_yes _ _ _ _ (by rw [(capI_yes hi).2.1]; omega) w
set_option maxHeartbeats 1000000 in
theorem cslot_in {P G E : Nat} {k : KernS} {e s : Nat} (he : e < E) (hs : s < 8) (w : World) (h : TreeIs w P G E k) :
  Calls Tryz.prog 73 #[.pointer (some ⟨P, 0, none⟩), .int .i64 (e : Int), .int .i64 (s : Int)] w fun x w' => x = .returned (.tuple #[.pointer (some ⟨G, e * 32 + s * 4, none⟩), .int .i64 0]) ∧ w = w' := by
 have c0 := h.top
 have lp := h.lp
 have e0 : (e : Int) < (E : Int) := by omega
 have s0 : (s : Int) < 8 := by omega
 clear h
 go_enter Tryz.func73, Tryz.ntmps73
 go_wp2_with (first | ((with_reducible refine (camong_yes (e : Int) (E : Int) (by omega) (by omega) _).mono ?_); rintro _ _ ⟨rfl, rfl⟩) | ((with_reducible refine (camong_yes (s : Int) 8 (by omega) (by omega) _).mono ?_); rintro _ _ ⟨rfl, rfl⟩))
 go_ret2
 exact ⟨by simp, rfl⟩
set_option maxHeartbeats 1000000 in
theorem cslot_out {P G E : Nat} {k : KernS} {e s : Int} (ho : ¬ inB k e s = true) (w : World) (h : TreeIs w P G E k) :
  Calls Tryz.prog 73 #[.pointer (some ⟨P, 0, none⟩), .int .i64 e, .int .i64 s] w fun x w' => x = .returned (.tuple #[.pointer none, .int .i64 2]) ∧ w = w' := by
 have c0 := h.top
 have lp := h.lp
 have hE := h.envs
 have ho2 : ¬ (0 ≤ e ∧ e < (E : Int) ∧ 0 ≤ s ∧ s < 8) := fun hc => ho (decide_eq_true (by rw [hE]; exact hc))
 clear h ho hE
 by_cases h1 : e < 0 ∨ (E : Int) ≤ e
 ·clear ho2
  have H1 := Lib.hid h1
  clear h1
  go_enter Tryz.func73, Tryz.ntmps73
  go_wp2_with ((with_reducible refine (camong_no e (E : Int) H1.out _).mono ?_); rintro _ _ ⟨rfl, rfl⟩)
  go_ret2
  exact ⟨rfl, rfl⟩
 ·have h2 : s < 0 ∨ 8 ≤ s := by omega
  have H2 := Lib.hid h2
  have e0 : 0 ≤ e := by omega
  have e1 : e < (E : Int) := by omega
  clear h1 h2 ho2
  go_enter Tryz.func73, Tryz.ntmps73
  go_wp2_with (first | ((with_reducible refine (camong_yes e (E : Int) e0 e1 _).mono ?_); rintro _ _ ⟨rfl, rfl⟩) | ((with_reducible refine (camong_no s 8 H2.out _).mono ?_); rintro _ _ ⟨rfl, rfl⟩))
  go_ret2
  exact ⟨rfl, rfl⟩
theorem Tryz.capRowInfo : (Tryz.prog.info? 219).map (fun i => (i.zero, i.size, i.bytes)) = some (some (.agg (Array.replicate 32 (.int .i64 0))), 32, 256) := by kernel_rfl
theorem make_caps (n : Nat) (hn : n ≤ 16) (cs : Array Value) (hcs : madeCells (Array.replicate 32 (.int .i64 0)) (n * 32) = cs) (w : World) :
  (Instr.makeSlice 138 (.int .i64 (n : Int)) (.int .i64 (n : Int))).run Tryz.prog w = .ok (.slice (some ⟨w.heap.size, 0, none⟩) n n) (w.alloc (.cells cs 219)) := by
 obtain ⟨i, hi, hz⟩ := Option.map_eq_some_iff.1 Tryz.capRowInfo
 simp only [Prod.mk.injEq] at hz
 obtain ⟨hz0, hz1, hz2⟩ := hz
 have h := run_make (P := Tryz.prog) w 138 219 i _ Tryz.underlying138 hi hz0 .i64 .i64 n n (by omega) (by omega) (by rw [hz2]; omega) (by omega)
 rw [hz1] at h
 simp only [Int.toNat_natCast] at h
 rw [h, ← hcs]
 rfl
theorem made_caps (n : Nat) : madeCells (Array.replicate 32 (.int .i64 0)) n = Array.replicate n (.int .i64 0) := by
 unfold madeCells
 apply Array.ext
 ·simp
 ·intro i h1 h2
  have h3 : i % 32 < 32 := Nat.mod_lt _ (by omega)
  simp [h3]
def NewTree (n : Int) (w : World) (x : Ending) (w' : World) : Prop := ∃ P G E, x = .returned (.pointer (some ⟨P, 0, none⟩)) ∧ TreeIs w' P G E (newK 1 n 16) ∧ w.heap.size ≤ P ∧ w.heap.size ≤ G ∧ Below w.heap.size w w'
theorem ctree_new {n : Int} (hn : 1 ≤ n ∧ n ≤ 4) (w : World) : Calls Tryz.prog 25 #[.int .i64 n] w (NewTree n w) := by
 obtain ⟨E, rfl⟩ : ∃ E : Nat, n = (E : Int) := ⟨n.toNat, by omega⟩
 obtain ⟨cs, hcs⟩ : ∃ cs : Array Value, cs = Array.replicate (E * 32) (.int .i64 0) := ⟨_, rfl⟩
 have hmk : ∀ W : World, (Instr.makeSlice 138 (.int .i64 (E : Int)) (.int .i64 (E : Int))).run Tryz.prog W = .ok (.slice (some ⟨W.heap.size, 0, none⟩) E E) (W.alloc (.cells cs 219)) := fun W => make_caps E (by omega) cs (by rw [hcs]; exact made_caps _) W
 have hat : ∀ j, j < E * 32 → cs[j]? = some (.int .i64 0) := fun j hj => by rw [hcs, Array.getElem?_replicate, if_pos hj]
 have HS := Lib.hid hat
 have HN := Lib.hid hn
 have n1 : ¬ (E : Int) < 1 := by omega
 have n2 : ¬ 4 < (E : Int) := by omega
 clear hcs hat hn
 go_enter Tryz.func25, Tryz.ntmps25
 go_wp2_with fail
 go_ret
 have h1 : ((w.alloc (.cells cs 219)).alloc (.cells #[.slice (some ⟨w.heap.size, 0, none⟩) E E] 140)).heap[w.heap.size + 1]? = some (.cells #[.slice (some ⟨w.heap.size, 0, none⟩) E E] 140 (0, 0)) := by
  have h := heap_alloc_new (w.alloc (.cells cs 219)) (.cells #[.slice (some ⟨w.heap.size, 0, none⟩) E E] 140)
  simpa using h
 have h2 : ((w.alloc (.cells cs 219)).alloc (.cells #[.slice (some ⟨w.heap.size, 0, none⟩) E E] 140)).heap[w.heap.size]? = some (.cells cs 219 (0, 0)) :=
  (Below.heap_alloc (w.alloc (.cells cs 219)) _ w.heap.size (by simp)).trans (heap_alloc_new w _)
 exact ⟨w.heap.size + 1, w.heap.size, E, rfl, ⟨TreeOk.new HN.out, rfl, by omega, bk_cell h1 0, ⟨fun j hj => (bk_cell h2 j).trans (HS.out j hj), fun j => bk_free h2 j, bk_lt h2⟩, bk_lt h1⟩, by omega, by omega, ((Below.refl _ _).alloc (Nat.le_refl _) _).alloc (by simp) _⟩
theorem ctree_no {n : Int} (hn : ¬ (1 ≤ n ∧ n ≤ 4)) (w : World) : Calls Tryz.prog 25 #[.int .i64 n] w fun x w' => x = .returned (.pointer none) ∧ Below w.heap.size w w' := by
 by_cases h1 : n < 1
 ·clear hn
  go_enter Tryz.func25, Tryz.ntmps25
  go_wp2_with fail
  go_ret
  exact ⟨rfl, Below.refl _ _⟩
 ·have h2 : 4 < n := by omega
  clear hn
  go_enter Tryz.func25, Tryz.ntmps25
  go_wp2_with fail
  go_ret
  exact ⟨rfl, Below.refl _ _⟩
theorem TreeOk.right {k : KernS} (h : TreeOk k) (e s : Nat) : (k.sl e s).is = true → 1 ≤ (k.sl e s).rights := fun hi => (h.rights e s hi).1
theorem ctaken_out {P G E : Nat} {k : KernS} {e s : Int} (ho : ¬ inB k e s = true) (w : World) (h : TreeIs w P G E k) :
  Calls Tryz.prog 125 #[.pointer (some ⟨P, 0, none⟩), .int .i64 e, .int .i64 s] w fun x w' => x = .returned (.tuple #[.agg #[.int .i64 0, .int .i64 0, .int .i64 0, .int .i64 0], .int .i64 2]) ∧ Below w.heap.size w w' := by
 have HT := Lib.hid h
 have HO := Lib.hid ho
 clear h ho
 go_enter Tryz.func125, Tryz.ntmps125
 go_wp2_with fail
 refine (cslot_out HO.out _ (HT.out.later ((Below.refl _ _).alloc (Nat.le_refl _) _))).mono ?_
 rintro x w1 ⟨rfl, hw⟩
 have K1 : Hid (w1.heap[w.heap.size]? = some (.cells #[.int .i64 0, .int .i64 0, .int .i64 0, .int .i64 0] 58 (0, 0))) := by rw [← hw]; exact heap_alloc_new w _
 have B1 : Hid (Below w.heap.size w w1) := by rw [← hw]; exact (Below.refl _ _).alloc (Nat.le_refl _) _
 clear hw
 have b0 := bk_cell K1.out 0
 have b1 := bk_cell K1.out 1
 have b2 := bk_cell K1.out 2
 have b3 := bk_cell K1.out 3
 have q0 := bk_free K1.out 0
 have q1 := bk_free K1.out 1
 have q2 := bk_free K1.out 2
 have q3 := bk_free K1.out 3
 have ql := bk_lt K1.out
 go_wp2_with fail
 refine bodyPost_ret (v := .tuple #[.agg #[.int .i64 0, .int .i64 0, .int .i64 0, .int .i64 0], .int .i64 2]) (by simp [results, Tryz.results125, go_sem, b0, b1, b2, b3]) rfl ⟨rfl, ?_⟩
 exact (((B1.out.setCell (Nat.le_refl _) _).setCell (Nat.le_refl _) _).setCell (Nat.le_refl _) _).setCell (Nat.le_refl _) _
def takenE (v : SlotV) : Int := if v.is = true then 0 else 3
theorem takenE_no {v : SlotV} (h : v.is = false) : takenE v = 3 := if_neg (by rw [h]; decide)
theorem takenE_yes {v : SlotV} (h : v.is = true) : takenE v = 0 := if_pos h
theorem ctaken_in {P G E : Nat} {k : KernS} {e s : Nat} (he : e < E) (hs : s < 8) (w : World) (h : TreeIs w P G E k) :
  Calls Tryz.prog 125 #[.pointer (some ⟨P, 0, none⟩), .int .i64 (e : Int), .int .i64 (s : Int)] w fun x w' => x = .returned (.tuple #[.agg #[.int .i64 (capI (k.sl e s) 0), .int .i64 (capI (k.sl e s) 1), .int .i64 (capI (k.sl e s) 2), .int .i64 (capI (k.sl e s) 3)], .int .i64 (takenE (k.sl e s))]) ∧ Below w.heap.size w w' := by
 have HT := Lib.hid h
 clear h
 cases hi : (k.sl e s).is
 ·have z := capI_no hi
  rw [z 0, z 1, z 2, z 3, takenE_no hi]
  have HI := Lib.hid hi
  have HZ := Lib.hid z
  clear hi z
  go_enter Tryz.func125, Tryz.ntmps125
  go_wp2_with fail
  refine (cslot_in he hs _ (HT.out.later ((Below.refl _ _).alloc (Nat.le_refl _) _))).mono ?_
  rintro x w1 ⟨rfl, hw⟩
  have K1 : Hid (w1.heap[w.heap.size]? = some (.cells #[.int .i64 0, .int .i64 0, .int .i64 0, .int .i64 0] 58 (0, 0))) := by rw [← hw]; exact heap_alloc_new w _
  have B1 : Hid (Below w.heap.size w w1) := by rw [← hw]; exact (Below.refl _ _).alloc (Nat.le_refl _) _
  have T1 := Lib.hid (HT.out.later B1.out)
  clear hw
  obtain ⟨d0, d1, d2, d3⟩ := T1.out.cap he hs
  have tl := T1.out.lg
  have HR := Lib.hid (T1.out.ok.right e s)
  go_wp2_with fail
  refine (cthere_any HR.out w1).mono ?_
  rintro x w2 ⟨rfl, hb⟩
  rw [HI.out]
  have K2 := Lib.hid (bk_below K1.out hb)
  have B2 := Lib.hid (bl_trans B1.out hb)
  have T2 := Lib.hid (T1.out.later hb)
  clear hb d0 d1 d2 d3 tl HT
  obtain ⟨d0, d1, d2, d3⟩ := T2.out.cap he hs
  have tl := T2.out.lg
  have b0 := bk_cell K2.out 0
  have b1 := bk_cell K2.out 1
  have b2 := bk_cell K2.out 2
  have b3 := bk_cell K2.out 3
  have q0 := bk_free K2.out 0
  have q1 := bk_free K2.out 1
  have q2 := bk_free K2.out 2
  have q3 := bk_free K2.out 3
  have ql := bk_lt K2.out
  rw [HZ.out 0] at d0
  rw [HZ.out 1] at d1
  rw [HZ.out 2] at d2
  rw [HZ.out 3] at d3
  go_wp2_with fail
  refine bodyPost_ret (v := .tuple #[.agg #[.int .i64 0, .int .i64 0, .int .i64 0, .int .i64 0], .int .i64 3]) (by simp [results, Tryz.results125, go_sem, b0, b1, b2, b3]) rfl ⟨rfl, ?_⟩
  exact (((B2.out.setCell (Nat.le_refl _) _).setCell (Nat.le_refl _) _).setCell (Nat.le_refl _) _).setCell (Nat.le_refl _) _
 ·rw [takenE_yes hi]
  have HI := Lib.hid hi
  clear hi
  obtain ⟨x0, hx0⟩ : ∃ x, capI (k.sl e s) 0 = x := ⟨_, rfl⟩
  obtain ⟨x1, hx1⟩ : ∃ x, capI (k.sl e s) 1 = x := ⟨_, rfl⟩
  obtain ⟨x2, hx2⟩ : ∃ x, capI (k.sl e s) 2 = x := ⟨_, rfl⟩
  obtain ⟨x3, hx3⟩ : ∃ x, capI (k.sl e s) 3 = x := ⟨_, rfl⟩
  rw [hx0, hx1, hx2, hx3]
  have HX := Lib.hid (And.intro hx0 (And.intro hx1 (And.intro hx2 hx3)))
  clear hx0 hx1 hx2 hx3
  go_enter Tryz.func125, Tryz.ntmps125
  go_wp2_with fail
  refine (cslot_in he hs _ (HT.out.later ((Below.refl _ _).alloc (Nat.le_refl _) _))).mono ?_
  rintro x w1 ⟨rfl, hw⟩
  have K1 : Hid (w1.heap[w.heap.size]? = some (.cells #[.int .i64 0, .int .i64 0, .int .i64 0, .int .i64 0] 58 (0, 0))) := by rw [← hw]; exact heap_alloc_new w _
  have B1 : Hid (Below w.heap.size w w1) := by rw [← hw]; exact (Below.refl _ _).alloc (Nat.le_refl _) _
  have T1 := Lib.hid (HT.out.later B1.out)
  clear hw
  obtain ⟨d0, d1, d2, d3⟩ := T1.out.cap he hs
  have tl := T1.out.lg
  have HR := Lib.hid (T1.out.ok.right e s)
  go_wp2_with fail
  refine (cthere_any HR.out w1).mono ?_
  rintro x w2 ⟨rfl, hb⟩
  rw [HI.out]
  have K2 := Lib.hid (bk_below K1.out hb)
  have B2 := Lib.hid (bl_trans B1.out hb)
  have T2 := Lib.hid (T1.out.later hb)
  clear hb d0 d1 d2 d3 tl HT
  obtain ⟨d0, d1, d2, d3⟩ := T2.out.cap he hs
  have tl := T2.out.lg
  have b0 := bk_cell K2.out 0
  have b1 := bk_cell K2.out 1
  have b2 := bk_cell K2.out 2
  have b3 := bk_cell K2.out 3
  have q0 := bk_free K2.out 0
  have q1 := bk_free K2.out 1
  have q2 := bk_free K2.out 2
  have q3 := bk_free K2.out 3
  have ql := bk_lt K2.out
  rw [HX.out.1] at d0
  rw [HX.out.2.1] at d1
  rw [HX.out.2.2.1] at d2
  rw [HX.out.2.2.2] at d3
  go_wp2_with fail
  refine bodyPost_ret (v := .tuple #[.agg #[.int .i64 x0, .int .i64 x1, .int .i64 x2, .int .i64 x3], .int .i64 0]) (by simp [results, Tryz.results125, go_sem, b0, b1, b2, b3]) rfl ⟨rfl, ?_⟩
  exact (((B2.out.setCell (Nat.le_refl _) _).setCell (Nat.le_refl _) _).setCell (Nat.le_refl _) _).setCell (Nat.le_refl _) _
theorem cat_in {P G E : Nat} {k : KernS} {e s : Nat} (he : e < E) (hs : s < 8) (w : World) (h : TreeIs w P G E k) :
  Calls Tryz.prog 70 #[.pointer (some ⟨P, 0, none⟩), .int .i64 (e : Int), .int .i64 (s : Int)] w fun x w' => x = .returned (.tuple #[.agg #[.int .i64 (capI (k.sl e s) 0), .int .i64 (capI (k.sl e s) 1), .int .i64 (capI (k.sl e s) 2), .int .i64 (capI (k.sl e s) 3)], .bool (k.sl e s).is]) ∧ Below w.heap.size w w' := by
 have HC := Lib.hid (fun W h => ctaken_in (k := k) (P := P) (G := G) he hs W h)
 have HT := Lib.hid h
 clear h
 obtain ⟨x0, hx0⟩ : ∃ x, capI (k.sl e s) 0 = x := ⟨_, rfl⟩
 obtain ⟨x1, hx1⟩ : ∃ x, capI (k.sl e s) 1 = x := ⟨_, rfl⟩
 obtain ⟨x2, hx2⟩ : ∃ x, capI (k.sl e s) 2 = x := ⟨_, rfl⟩
 obtain ⟨x3, hx3⟩ : ∃ x, capI (k.sl e s) 3 = x := ⟨_, rfl⟩
 rw [hx0, hx1, hx2, hx3] at HC
 rw [hx0, hx1, hx2, hx3]
 clear hx0 hx1 hx2 hx3
 cases hi : (k.sl e s).is
 ·rw [takenE_no hi] at HC
  clear hi
  go_enter Tryz.func70, Tryz.ntmps70
  go_wp2_with fail
  refine (HC.out _ (HT.out.later ((Below.refl _ _).alloc (Nat.le_refl _) _))).mono ?_
  rintro x w1 ⟨rfl, hb⟩
  have K1 := Lib.hid (bk_one hb)
  have B1 := Lib.hid (bl_alloc (Below.refl w.heap.size w) hb)
  clear hb HT
  have b0 := bk_cell K1.out 0
  have b1 := bk_cell K1.out 1
  have b2 := bk_cell K1.out 2
  have b3 := bk_cell K1.out 3
  have q0 := bk_free K1.out 0
  have q1 := bk_free K1.out 1
  have q2 := bk_free K1.out 2
  have q3 := bk_free K1.out 3
  have ql := bk_lt K1.out
  go_wp2_with fail
  refine bodyPost_ret (v := .tuple #[.agg #[.int .i64 x0, .int .i64 x1, .int .i64 x2, .int .i64 x3], .bool false]) (by simp [results, Tryz.results70, go_sem, b0, b1, b2, b3, ql, World.cell?_alloc_past]) rfl ⟨rfl, ?_⟩
  exact ((((B1.out.setCell (Nat.le_refl _) _).setCell (Nat.le_refl _) _).setCell (Nat.le_refl _) _).setCell (Nat.le_refl _) _).alloc (by simpa using B1.out.size) _
 ·rw [takenE_yes hi] at HC
  clear hi
  go_enter Tryz.func70, Tryz.ntmps70
  go_wp2_with fail
  refine (HC.out _ (HT.out.later ((Below.refl _ _).alloc (Nat.le_refl _) _))).mono ?_
  rintro x w1 ⟨rfl, hb⟩
  have K1 := Lib.hid (bk_one hb)
  have B1 := Lib.hid (bl_alloc (Below.refl w.heap.size w) hb)
  clear hb HT
  have b0 := bk_cell K1.out 0
  have b1 := bk_cell K1.out 1
  have b2 := bk_cell K1.out 2
  have b3 := bk_cell K1.out 3
  have q0 := bk_free K1.out 0
  have q1 := bk_free K1.out 1
  have q2 := bk_free K1.out 2
  have q3 := bk_free K1.out 3
  have ql := bk_lt K1.out
  go_wp2_with fail
  refine bodyPost_ret (v := .tuple #[.agg #[.int .i64 x0, .int .i64 x1, .int .i64 x2, .int .i64 x3], .bool true]) (by simp [results, Tryz.results70, go_sem, b0, b1, b2, b3, ql, World.cell?_alloc_past]) rfl ⟨rfl, ?_⟩
  exact ((((B1.out.setCell (Nat.le_refl _) _).setCell (Nat.le_refl _) _).setCell (Nat.le_refl _) _).setCell (Nat.le_refl _) _).alloc (by simpa using B1.out.size) _
set_option maxHeartbeats 1000000 in
theorem croot_any {P G E : Nat} {k : KernS} (e s f : Int) (w : World) (h : TreeIs w P G E k) :
  Calls Tryz.prog 30 #[.pointer (some ⟨P, 0, none⟩), .int .i64 e, .int .i64 s, .int .i64 f] w fun x w' => x = .returned (.int .i64 (rootE k e s f)) ∧ TreeIs w' P G E (rootS k e s f) ∧ OnlyT G w w' := by
 have HT := Lib.hid h
 clear h
 by_cases ho : inB k e s = true
 ·have hin := in_of ho
  have hE := HT.out.envs
  obtain ⟨e, rfl⟩ : ∃ n : Nat, e = (n : Int) := ⟨e.toNat, by omega⟩
  obtain ⟨s, rfl⟩ : ∃ n : Nat, s = (n : Int) := ⟨s.toNat, by omega⟩
  have he : e < E := by omega
  have hs : s < 8 := by omega
  have HO := Lib.hid ho
  clear hin hE ho
  by_cases hf : 0 ≤ f ∧ f < 16
  ·obtain ⟨hf0, hf1⟩ := hf
   have HR := Lib.hid (HT.out.ok.right e s)
   cases hi : (k.sl e s).is
   ·have eE : rootE k e s f = 0 := by
     unfold rootE
     rw [if_pos ⟨HO.out, hf0, hf1⟩, Int.toNat_natCast, Int.toNat_natCast, hi, if_neg (by decide)]
    have eS : rootS k e s f = k.setSlot e s ⟨true, f, 3, -1, 0⟩ := by
     unfold rootS
     rw [if_pos eE, Int.toNat_natCast, Int.toNat_natCast]
    have hk := HT.out.ok.root e s f
    rw [eS] at hk
    rw [eE, eS]
    have HK := Lib.hid hk
    have HI := Lib.hid hi
    clear eE eS hk hi
    go_enter Tryz.func30, Tryz.ntmps30
    go_wp2_with fail
    refine (cslot_in he hs _ HT.out).mono ?_
    rintro x w1 ⟨rfl, rfl⟩
    go_wp2_with ((with_reducible refine (camong_yes f 16 hf0 hf1 _).mono ?_); rintro _ _ ⟨rfl, rfl⟩; obtain ⟨d0, d1, d2, d3⟩ := HT.out.cap he hs; have tl := HT.out.lg)
    refine (cthere_any HR.out w).mono ?_
    rintro x w2 ⟨rfl, hb⟩
    rw [HI.out]
    have B2 := Lib.hid hb
    have T2 := Lib.hid (HT.out.later hb)
    clear hb d0 d1 d2 d3 tl HT
    obtain ⟨d0, d1, d2, d3⟩ := T2.out.cap he hs
    have tl := T2.out.lg
    have e0 := T2.out.nums.2.1 (e * 32 + s * 4)
    have e1 := T2.out.nums.2.1 (e * 32 + s * 4 + 1)
    have e2 := T2.out.nums.2.1 (e * 32 + s * 4 + 2)
    have e3 := T2.out.nums.2.1 (e * 32 + s * 4 + 3)
    generalize capI (k.sl e s) 0 = y0 at d0
    generalize capI (k.sl e s) 1 = y1 at d1
    generalize capI (k.sl e s) 2 = y2 at d2
    generalize capI (k.sl e s) 3 = y3 at d3
    go_wp2_with fail
    go_ret
    refine ⟨rfl, T2.out.put he hs HK.out rfl ?_ ?_ ?_ ?_ (fun a b _ _ hn => set_off k _ hn), tk_four (tp_below B2.out) _ _ _ _ _ _ _ _⟩
    all_goals
     rw [set_at]
     rfl
   ·have eE : rootE k e s f = 4 := by
     unfold rootE
     rw [if_pos ⟨HO.out, hf0, hf1⟩, Int.toNat_natCast, Int.toNat_natCast, hi, if_pos rfl]
    have eS : rootS k e s f = k := by
     unfold rootS
     rw [eE, if_neg (by decide)]
    rw [eE, eS]
    have HI := Lib.hid hi
    clear eE eS hi
    go_enter Tryz.func30, Tryz.ntmps30
    go_wp2_with fail
    refine (cslot_in he hs _ HT.out).mono ?_
    rintro x w1 ⟨rfl, rfl⟩
    go_wp2_with ((with_reducible refine (camong_yes f 16 hf0 hf1 _).mono ?_); rintro _ _ ⟨rfl, rfl⟩; obtain ⟨d0, d1, d2, d3⟩ := HT.out.cap he hs; have tl := HT.out.lg)
    refine (cthere_any HR.out w).mono ?_
    rintro x w2 ⟨rfl, hb⟩
    rw [HI.out]
    have B2 := Lib.hid hb
    clear hb d0 d1 d2 d3 tl
    go_wp2_with fail
    go_ret
    exact ⟨rfl, HT.out.later B2.out, tp_below B2.out⟩
  ·have eE : rootE k e s f = 2 := by
    unfold rootE
    rw [if_neg (fun hc => hf hc.2)]
   have eS : rootS k e s f = k := by
    unfold rootS
    rw [eE, if_neg (by decide)]
   rw [eE, eS]
   have hf2 : f < 0 ∨ 16 ≤ f := by omega
   have HF := Lib.hid hf2
   clear eE eS hf hf2
   go_enter Tryz.func30, Tryz.ntmps30
   go_wp2_with fail
   refine (cslot_in he hs _ HT.out).mono ?_
   rintro x w1 ⟨rfl, rfl⟩
   go_wp2_with ((with_reducible refine (camong_no f 16 HF.out _).mono ?_); rintro _ _ ⟨rfl, rfl⟩)
   go_ret
   exact ⟨rfl, HT.out, tp_below (Below.refl _ _)⟩
 ·have eE : rootE k e s f = 2 := by
   unfold rootE
   rw [if_neg (fun hc => ho hc.1)]
  have eS : rootS k e s f = k := by
   unfold rootS
   rw [eE, if_neg (by decide)]
  rw [eE, eS]
  have HO := Lib.hid ho
  clear eE eS ho
  go_enter Tryz.func30, Tryz.ntmps30
  go_wp2_with fail
  refine (cslot_out HO.out _ HT.out).mono ?_
  rintro x w1 ⟨rfl, rfl⟩
  go_wp2_with fail
  go_ret
  exact ⟨rfl, HT.out, tp_below (Below.refl _ _)⟩
set_option maxRecDepth 100000 in
set_option maxHeartbeats 2000000 in
theorem cderive_any {P G E : Nat} {k : KernS} (e s t d r : Int) (w : World) (h : TreeIs w P G E k) :
  Calls Tryz.prog 31 #[.pointer (some ⟨P, 0, none⟩), .int .i64 e, .int .i64 s, .int .i64 t, .int .i64 d, .int .i64 r] w fun x w' => x = .returned (.int .i64 (tderE k e s t d r)) ∧ TreeIs w' P G E (tderS k e s t d r) ∧ OnlyT G w w' := by
 have HT := Lib.hid h
 clear h
 have hbad : ∀ n : Int, ¬ n = 0 → tderE k e s t d r = n → tderS k e s t d r = k := fun n h0 h1 => by
  unfold tderS
  rw [if_neg (by rw [h1]; exact h0)]
 by_cases ho : inB k e s = true
 ·have hin := in_of ho
  have hE := HT.out.envs
  by_cases ho2 : inB k t d = true
  ·have hin2 := in_of ho2
   cases hm : mayB r
   ·have eE : tderE k e s t d r = 2 := by
     unfold tderE
     rw [if_neg (fun hc => by rw [hm] at hc; exact absurd hc.2.2 (by decide))]
    rw [hbad 2 (by decide) eE, eE]
    obtain ⟨e, rfl⟩ : ∃ n : Nat, e = (n : Int) := ⟨e.toNat, by omega⟩
    obtain ⟨s, rfl⟩ : ∃ n : Nat, s = (n : Int) := ⟨s.toNat, by omega⟩
    obtain ⟨t, rfl⟩ : ∃ n : Nat, t = (n : Int) := ⟨t.toNat, by omega⟩
    obtain ⟨d, rfl⟩ : ∃ n : Nat, d = (n : Int) := ⟨d.toNat, by omega⟩
    have he : e < E := by omega
    have hs : s < 8 := by omega
    have ht : t < E := by omega
    have hd : d < 8 := by omega
    have HM := Lib.hid hm
    clear hin hin2 hE ho ho2 hm hbad eE
    go_enter Tryz.func31, Tryz.ntmps31
    go_wp2_with fail
    refine (cslot_in he hs _ HT.out).mono ?_
    rintro x w1 ⟨rfl, rfl⟩
    go_wp2_with fail
    refine (cslot_in ht hd _ HT.out).mono ?_
    rintro x w1 ⟨rfl, rfl⟩
    go_wp2_with fail
    refine (may_any r _).mono ?_
    rintro x w1 ⟨rfl, rfl⟩
    rw [HM.out]
    go_wp2_with fail
    go_ret
    exact ⟨rfl, HT.out, tp_below (Below.refl _ _)⟩
   ·have e1 : tderE k e s t d r = if (k.sl e.toNat s.toNat).is = false then 3 else if (k.sl t.toNat d.toNat).is = true then 4 else if withinB r (k.sl e.toNat s.toNat).rights = false then 5 else 0 := by
     unfold tderE
     rw [if_pos ⟨ho, ho2, hm⟩]
    have hkk := HT.out.ok.tder e s t d r
    have eS : tderE k e s t d r = 0 → tderS k e s t d r = k.setSlot t.toNat d.toNat ⟨true, (k.sl e.toNat s.toNat).frame, r, e, s⟩ := fun h0 => by
     unfold tderS
     rw [if_pos h0]
    obtain ⟨e, rfl⟩ : ∃ n : Nat, e = (n : Int) := ⟨e.toNat, by omega⟩
    obtain ⟨s, rfl⟩ : ∃ n : Nat, s = (n : Int) := ⟨s.toNat, by omega⟩
    obtain ⟨t, rfl⟩ : ∃ n : Nat, t = (n : Int) := ⟨t.toNat, by omega⟩
    obtain ⟨d, rfl⟩ : ∃ n : Nat, d = (n : Int) := ⟨d.toNat, by omega⟩
    have he : e < E := by omega
    have hs : s < 8 := by omega
    have ht : t < E := by omega
    have hd : d < 8 := by omega
    have HM := Lib.hid hm
    simp only [Int.toNat_natCast] at e1 eS
    have HR := Lib.hid (HT.out.ok.right e s)
    have HR2 := Lib.hid (HT.out.ok.right t d)
    have HK := Lib.hid hkk
    have HS := Lib.hid eS
    have HB := Lib.hid hbad
    clear hin hin2 hE ho ho2 hm hbad hkk eS
    cases hi : (k.sl e s).is
    ·rw [hi, if_pos rfl] at e1
     rw [HB.out 3 (by decide) e1, e1]
     have HI := Lib.hid hi
     clear e1 hi
     go_enter Tryz.func31, Tryz.ntmps31
     go_wp2_with fail
     refine (cslot_in he hs _ HT.out).mono ?_
     rintro x w1 ⟨rfl, rfl⟩
     go_wp2_with fail
     refine (cslot_in ht hd _ HT.out).mono ?_
     rintro x w1 ⟨rfl, rfl⟩
     go_wp2_with fail
     refine (may_any r _).mono ?_
     rintro x w1 ⟨rfl, rfl⟩
     rw [HM.out]
     obtain ⟨d0, d1, d2, d3⟩ := HT.out.cap he hs
     have tl := HT.out.lg
     go_wp2_with fail
     refine (cthere_any HR.out w).mono ?_
     rintro x w2 ⟨rfl, hb⟩
     rw [HI.out]
     have B2 := Lib.hid hb
     clear hb d0 d1 d2 d3 tl
     go_wp2_with fail
     go_ret
     exact ⟨rfl, HT.out.later B2.out, tp_below B2.out⟩
    ·rw [hi, if_neg (by decide)] at e1
     have HI := Lib.hid hi
     cases hj : (k.sl t d).is
     ·rw [hj, if_neg (by decide)] at e1
      have HJ := Lib.hid hj
      cases hw : withinB r (k.sl e s).rights
      ·rw [if_pos hw] at e1
       rw [HB.out 5 (by decide) e1, e1]
       have HW := Lib.hid hw
       clear e1 hi hj hw
       go_enter Tryz.func31, Tryz.ntmps31
       go_wp2_with fail
       refine (cslot_in he hs _ HT.out).mono ?_
       rintro x w1 ⟨rfl, rfl⟩
       go_wp2_with fail
       refine (cslot_in ht hd _ HT.out).mono ?_
       rintro x w1 ⟨rfl, rfl⟩
       go_wp2_with fail
       refine (may_any r _).mono ?_
       rintro x w1 ⟨rfl, rfl⟩
       rw [HM.out]
       obtain ⟨d0, d1, d2, d3⟩ := HT.out.cap he hs
       have tl := HT.out.lg
       go_wp2_with fail
       refine (cthere_any HR.out w).mono ?_
       rintro x w2 ⟨rfl, hb⟩
       rw [HI.out]
       have B2 := Lib.hid hb
       have T2 := Lib.hid (HT.out.later hb)
       clear hb d0 d1 d2 d3 tl
       obtain ⟨d0, d1, d2, d3⟩ := T2.out.cap ht hd
       have tl := T2.out.lg
       go_wp2_with fail
       refine (cthere_any HR2.out w2).mono ?_
       rintro x w3 ⟨rfl, hb⟩
       rw [HJ.out]
       have B3 := Lib.hid (bl_trans B2.out hb)
       have T3 := Lib.hid (T2.out.later hb)
       clear hb d0 d1 d2 d3 tl
       obtain ⟨d0, d1, d2, d3⟩ := T3.out.cap he hs
       have HQ := Lib.hid (capI_yes HI.out).2.1
       have tl := T3.out.lg
       go_wp2_with fail
       refine (within_any r _ _).mono ?_
       rintro x w4 ⟨rfl, rfl⟩
       rw [HQ.out, HW.out]
       go_wp2_with fail
       go_ret
       exact ⟨rfl, T3.out, tp_below B3.out⟩
      ·rw [if_neg (by rw [hw]; decide)] at e1
       have eS := HS.out e1
       have hk := HK.out
       rw [eS] at hk
       rw [eS, e1]
       have HK2 := Lib.hid hk
       have HW := Lib.hid hw
       clear e1 eS hk hi hj hw HK
       go_enter Tryz.func31, Tryz.ntmps31
       go_wp2_with fail
       refine (cslot_in he hs _ HT.out).mono ?_
       rintro x w1 ⟨rfl, rfl⟩
       go_wp2_with fail
       refine (cslot_in ht hd _ HT.out).mono ?_
       rintro x w1 ⟨rfl, rfl⟩
       go_wp2_with fail
       refine (may_any r _).mono ?_
       rintro x w1 ⟨rfl, rfl⟩
       rw [HM.out]
       obtain ⟨d0, d1, d2, d3⟩ := HT.out.cap he hs
       have tl := HT.out.lg
       go_wp2_with fail
       refine (cthere_any HR.out w).mono ?_
       rintro x w2 ⟨rfl, hb⟩
       rw [HI.out]
       have B2 := Lib.hid hb
       have T2 := Lib.hid (HT.out.later hb)
       clear hb d0 d1 d2 d3 tl
       obtain ⟨d0, d1, d2, d3⟩ := T2.out.cap ht hd
       have tl := T2.out.lg
       go_wp2_with fail
       refine (cthere_any HR2.out w2).mono ?_
       rintro x w3 ⟨rfl, hb⟩
       rw [HJ.out]
       have B3 := Lib.hid (bl_trans B2.out hb)
       have T3 := Lib.hid (T2.out.later hb)
       clear hb d0 d1 d2 d3 tl
       obtain ⟨d0, d1, d2, d3⟩ := T3.out.cap he hs
       have HQ := Lib.hid (capI_yes HI.out).2.1
       have tl := T3.out.lg
       go_wp2_with fail
       refine (within_any r _ _).mono ?_
       rintro x w4 ⟨rfl, rfl⟩
       rw [HQ.out, HW.out]
       have HF := Lib.hid (capI_yes HI.out).1
       obtain ⟨d0, d1, d2, d3⟩ := T3.out.cap he hs
       obtain ⟨b0, b1, b2, b3⟩ := T3.out.cap ht hd
       have e0 := T3.out.nums.2.1 (t * 32 + d * 4)
       have e1 := T3.out.nums.2.1 (t * 32 + d * 4 + 1)
       have e2 := T3.out.nums.2.1 (t * 32 + d * 4 + 2)
       have e3 := T3.out.nums.2.1 (t * 32 + d * 4 + 3)
       clear d1 d2 d3
       generalize capI (k.sl t d) 0 = y0 at b0
       generalize capI (k.sl t d) 1 = y1 at b1
       generalize capI (k.sl t d) 2 = y2 at b2
       generalize capI (k.sl t d) 3 = y3 at b3
       have tl := T3.out.lg
       go_wp2_with fail
       go_ret
       refine ⟨rfl, T3.out.put ht hd HK2.out rfl ?_ ?_ ?_ ?_ (fun a b _ _ hn => set_off k _ hn), tk_four (tp_below B3.out) _ _ _ _ _ _ _ _⟩
       all_goals rw [set_at]
       ·exact HF.out.symm
       all_goals rfl
     ·rw [hj, if_pos rfl] at e1
      rw [HB.out 4 (by decide) e1, e1]
      have HJ := Lib.hid hj
      clear e1 hi hj
      go_enter Tryz.func31, Tryz.ntmps31
      go_wp2_with fail
      refine (cslot_in he hs _ HT.out).mono ?_
      rintro x w1 ⟨rfl, rfl⟩
      go_wp2_with fail
      refine (cslot_in ht hd _ HT.out).mono ?_
      rintro x w1 ⟨rfl, rfl⟩
      go_wp2_with fail
      refine (may_any r _).mono ?_
      rintro x w1 ⟨rfl, rfl⟩
      rw [HM.out]
      obtain ⟨d0, d1, d2, d3⟩ := HT.out.cap he hs
      have tl := HT.out.lg
      go_wp2_with fail
      refine (cthere_any HR.out w).mono ?_
      rintro x w2 ⟨rfl, hb⟩
      rw [HI.out]
      have B2 := Lib.hid hb
      have T2 := Lib.hid (HT.out.later hb)
      clear hb d0 d1 d2 d3 tl
      obtain ⟨d0, d1, d2, d3⟩ := T2.out.cap ht hd
      have tl := T2.out.lg
      go_wp2_with fail
      refine (cthere_any HR2.out w2).mono ?_
      rintro x w3 ⟨rfl, hb⟩
      rw [HJ.out]
      have B3 := Lib.hid (bl_trans B2.out hb)
      have T3 := Lib.hid (T2.out.later hb)
      clear hb d0 d1 d2 d3 tl
      go_wp2_with fail
      go_ret
      exact ⟨rfl, T3.out, tp_below B3.out⟩
  ·have eE : tderE k e s t d r = 2 := by
    unfold tderE
    rw [if_neg (fun hc => ho2 hc.2.1)]
   rw [hbad 2 (by decide) eE, eE]
   obtain ⟨e, rfl⟩ : ∃ n : Nat, e = (n : Int) := ⟨e.toNat, by omega⟩
   obtain ⟨s, rfl⟩ : ∃ n : Nat, s = (n : Int) := ⟨s.toNat, by omega⟩
   have he : e < E := by omega
   have hs : s < 8 := by omega
   have HO := Lib.hid ho2
   clear eE ho hin ho2 hbad hE
   go_enter Tryz.func31, Tryz.ntmps31
   go_wp2_with fail
   refine (cslot_in he hs _ HT.out).mono ?_
   rintro x w1 ⟨rfl, rfl⟩
   go_wp2_with fail
   refine (cslot_out HO.out _ HT.out).mono ?_
   rintro x w1 ⟨rfl, rfl⟩
   go_wp2_with fail
   go_ret
   exact ⟨rfl, HT.out, tp_below (Below.refl _ _)⟩
 ·have eE : tderE k e s t d r = 2 := by
   unfold tderE
   rw [if_neg (fun hc => ho hc.1)]
  rw [hbad 2 (by decide) eE, eE]
  have HO := Lib.hid ho
  clear eE ho hbad
  go_enter Tryz.func31, Tryz.ntmps31
  go_wp2_with fail
  refine (cslot_out HO.out _ HT.out).mono ?_
  rintro x w1 ⟨rfl, rfl⟩
  go_wp2_with fail
  go_ret
  exact ⟨rfl, HT.out, tp_below (Below.refl _ _)⟩
end Go.Proofs.YtdfhfmdelinemaaGreatDoor
namespace Go.Proofs.YtdfhfmdelinemaaGreatDoor
open Go.RowKit Go.Extern.Stop Go.Stop Go.Extern Go.WalkArith
def depthF (k : KernS) : Nat → Nat → Nat
 | 0, _ => 0
 | n + 1, p => if 0 ≤ (k.sl (p / 8) (p % 8)).env then 1 + depthF k n (upN (k.sl (p / 8) (p % 8))) else 1
theorem depthF_root {k : KernS} {e s n : Nat} (hs : s < 8) (h : (k.sl e s).env = -1) : depthF k (n + 1) (e * 8 + s) = 1 := by
 unfold depthF
 rw [(at_div hs).1, (at_div hs).2, if_neg (by omega)]
theorem depthF_up {k : KernS} {e s a b n : Nat} (hs : s < 8) (h1 : (k.sl e s).env = (a : Int)) (h2 : (k.sl e s).slot = (b : Int)) : depthF k (n + 1) (e * 8 + s) = 1 + depthF k n (a * 8 + b) := by
 show (if 0 ≤ (k.sl ((e * 8 + s) / 8) ((e * 8 + s) % 8)).env then _ else _) = _
 rw [(at_div hs).1, (at_div hs).2, if_pos (by omega), upN_of h1 h2]
theorem depthF_more {k : KernS} (hk : TreeOk k) : ∀ (n m e s : Nat), s < 8 → (k.sl e s).is = true → endB k n (e * 8 + s) = true → n ≤ m → depthF k m (e * 8 + s) = depthF k n (e * 8 + s)
 | 0, _, _, _, _, _, h, _ => Bool.noConfusion (show false = true from h)
 | n + 1, 0, _, _, _, _, _, hm => absurd hm (by omega)
 | n + 1, m + 1, e, s, hs, hi, h, hm => by
  rcases hk.par e s hs hi with h1 | ⟨a, b, h1, h2, _, h4, h5⟩
  ·rw [depthF_root hs h1, depthF_root hs h1]
  ·rw [depthF_up hs h1 h2, depthF_up hs h1 h2]
   rw [endB_up hs h1 h2] at h
   rw [depthF_more hk n m a b h4 h5 h (by omega)]
theorem depthF_par {k : KernS} (hk : TreeOk k) {e s a b : Nat} (hs : s < 8) (hi : (k.sl e s).is = true) (h1 : (k.sl e s).env = (a : Int)) (h2 : (k.sl e s).slot = (b : Int)) (h4 : b < 8) (h5 : (k.sl a b).is = true) : depthF k 32 (e * 8 + s) = 1 + depthF k 32 (a * 8 + b) := by
 have h := hk.end32 hs hi
 rw [show (32 : Nat) = 31 + 1 from rfl, endB_up hs h1 h2] at h
 rw [depthF_more hk 31 32 a b h4 h5 h (by omega), show (32 : Nat) = 31 + 1 from rfl, depthF_up hs h1 h2]
theorem fromI_more {k : KernS} (hk : TreeOk k) (x y : Int) : ∀ (n m e s : Nat), s < 8 → (k.sl e s).is = true → endB k n (e * 8 + s) = true → n ≤ m → fromI k x y m (e * 8 + s) = fromI k x y n (e * 8 + s)
 | 0, _, _, _, _, _, h, _ => Bool.noConfusion (show false = true from h)
 | n + 1, 0, _, _, _, _, _, hm => absurd hm (by omega)
 | n + 1, m + 1, e, s, hs, hi, h, hm => by
  rcases hk.par e s hs hi with h1 | ⟨a, b, h1, h2, _, h4, h5⟩
  ·rw [fromI_root hs h1, fromI_root hs h1]
  ·rw [fromI_up hs h1 h2, fromI_up hs h1 h2]
   rw [endB_up hs h1 h2] at h
   rw [fromI_more hk x y n m a b h4 h5 h (by omega)]
theorem fromI_par {k : KernS} (hk : TreeOk k) {x y : Int} {e s a b : Nat} (hs : s < 8) (hi : (k.sl e s).is = true) (h1 : (k.sl e s).env = (a : Int)) (h2 : (k.sl e s).slot = (b : Int)) (h4 : b < 8) (h5 : (k.sl a b).is = true) : fromI k x y 32 (e * 8 + s) = (decide ((a : Int) = x ∧ (b : Int) = y) || fromI k x y 32 (a * 8 + b)) := by
 have h := hk.end32 hs hi
 rw [show (32 : Nat) = 31 + 1 from rfl, endB_up hs h1 h2] at h
 rw [fromI_more hk x y 31 32 a b h4 h5 h (by omega), show (32 : Nat) = 31 + 1 from rfl, fromI_up hs h1 h2]
def numAt (W : World) (A i : Nat) : Int := match W.cell? ⟨A, i, none⟩ with
 | some (.int _ x) => x
 | _ => 0
theorem numAt_of {W : World} {A i : Nat} {x : Int} (h : W.cell? ⟨A, i, none⟩ = some (.int .i64 x)) : numAt W A i = x := by
 unfold numAt
 rw [h]
def capD (k : KernS) (A : Nat) (W : World) : Nat := if 0 ≤ numAt W A 2 then depthF k 32 ((numAt W A 2).toNat * 8 + (numAt W A 3).toNat) else 0
structure FromAt (w : World) (P G E A B : Nat) (k : KernS) (x y : Int) (p : Nat) (e s : Nat) (W : World) : Prop where
 tree : TreeIs W P G E k
 he : e < E
 hs : s < 8
 is : (k.sl e s).is = true
 same : fromI k x y 32 p = fromI k x y 32 (e * 8 + s)
 nums : NumsIs 4 W A (capI (k.sl e s))
 b0 : W.cell? ⟨B, 0, none⟩ = some (.int .i64 x)
 b1 : W.cell? ⟨B, 1, none⟩ = some (.int .i64 y)
 lb : B < W.heap.size
 hP : P < w.heap.size
 hG : G < w.heap.size
 hA : w.heap.size ≤ A
 hB : w.heap.size ≤ B
 below : Below w.heap.size w W
theorem FromAt.step {w : World} {P G E A B : Nat} {k : KernS} {x y : Int} {p e s a b : Nat} {W : World} (hf : FromAt w P G E A B k x y p e s W) (hAB : A ≠ B) (ha : a < E) (hb : b < 8) (hi : (k.sl a b).is = true) (hq : fromI k x y 32 p = fromI k x y 32 (a * 8 + b)) :
  FromAt w P G E A B k x y p a b ((((W.setCell ⟨A, 0, none⟩ (.int .i64 (capI (k.sl a b) 0))).setCell ⟨A, 1, none⟩ (.int .i64 (capI (k.sl a b) 1))).setCell ⟨A, 2, none⟩ (.int .i64 (capI (k.sl a b) 2))).setCell ⟨A, 3, none⟩ (.int .i64 (capI (k.sl a b) 3))).drew := by
 have hfar : ∀ j, j ≠ A → ((((W.setCell ⟨A, 0, none⟩ (.int .i64 (capI (k.sl a b) 0))).setCell ⟨A, 1, none⟩ (.int .i64 (capI (k.sl a b) 1))).setCell ⟨A, 2, none⟩ (.int .i64 (capI (k.sl a b) 2))).setCell ⟨A, 3, none⟩ (.int .i64 (capI (k.sl a b) 3))).drew.heap[j]? = W.heap[j]? := fun j hj =>
  (Below.heap_setCell _ _ _ j hj).trans ((Below.heap_setCell _ _ _ j hj).trans ((Below.heap_setCell _ _ _ j hj).trans (Below.heap_setCell _ _ _ j hj)))
 have hP := hf.hP
 have hG := hf.hG
 have hA := hf.hA
 have hB := hfar B (fun e => hAB e.symm)
 refine ⟨hf.tree.foot (by simp) (hfar P (by omega)) (hfar G (by omega)), ha, hb, hi, hq, ?_, (World.cell?_of_block (a := ⟨B, 0, none⟩) hB).trans hf.b0, (World.cell?_of_block (a := ⟨B, 1, none⟩) hB).trans hf.b1, by simpa using hf.lb, hP, hG, hA, hf.hB, ((((hf.below.setCell hA _).setCell hA _).setCell hA _).setCell hA _).drew⟩
 refine NumsIs.drewN (m := 1) ?_
 refine ((((hf.nums.set (i := 0) (by omega) _).set (i := 1) (by omega) _).set (i := 2) (by omega) _).set (i := 3) (by omega) _).congr fun j hj => ?_
 have hc : j = 0 ∨ j = 1 ∨ j = 2 ∨ j = 3 := by omega
 rcases hc with rfl | rfl | rfl | rfl <;> rfl
theorem FromAt.less {w : World} {P G E A B : Nat} {k : KernS} {x y : Int} {p e s : Nat} {W : World} (hf : FromAt w P G E A B k x y p e s W) : capD k A W < depthF k 32 (e * 8 + s) := by
 have hi := hf.is
 have c2 := hf.nums.1 2 (by omega)
 have c3 := hf.nums.1 3 (by omega)
 obtain ⟨_, _, y2, y3⟩ := capI_yes hi
 rw [y2] at c2
 rw [y3] at c3
 unfold capD
 rw [numAt_of c2, numAt_of c3]
 rcases hf.tree.ok.par e s hf.hs hi with h1 | ⟨a, b, h1, h2, h3, h4, h5⟩
 ·rw [h1, if_neg (by decide), show (32 : Nat) = 31 + 1 from rfl, depthF_root hf.hs h1]
  exact Nat.zero_lt_one
 ·rw [h1, h2, if_pos (by omega), Int.toNat_natCast, Int.toNat_natCast, depthF_par hf.tree.ok hf.hs hi h1 h2 h4 h5]
  omega
theorem num_four {w : World} {x0 x1 x2 x3 : Int} {t : TypeId} {W : World} {A : Nat} (h : W.heap[A]? = some (.cells #[.int .i64 x0, .int .i64 x1, .int .i64 x2, .int .i64 x3] t (0, 0))) {g : Nat → Int} (h0 : g 0 = x0) (h1 : g 1 = x1) (h2 : g 2 = x2) (h3 : g 3 = x3) (_ : w = w) : NumsIs 4 W A g := by
 refine ⟨fun j hj => ?_, fun j => bk_free h j, bk_lt h⟩
 rw [bk_cell h]
 have hc : j = 0 ∨ j = 1 ∨ j = 2 ∨ j = 3 := by omega
 rcases hc with rfl | rfl | rfl | rfl
 ·rw [h0]; rfl
 ·rw [h1]; rfl
 ·rw [h2]; rfl
 ·rw [h3]; rfl
set_option maxHeartbeats 4000000 in
theorem cfrom_any {P G E : Nat} {k : KernS} {e s : Nat} (he : e < E) (hs : s < 8) (hi : (k.sl e s).is = true) (x y : Int) (w : World) (h : TreeIs w P G E k) :
  Calls Tryz.prog 92 #[.pointer (some ⟨P, 0, none⟩), .agg #[.int .i64 (capI (k.sl e s) 0), .int .i64 (capI (k.sl e s) 1), .int .i64 (capI (k.sl e s) 2), .int .i64 (capI (k.sl e s) 3)], .agg #[.int .i64 x, .int .i64 y]] w fun z w' => z = .returned (.bool (fromI k x y 32 (e * 8 + s))) ∧ Below w.heap.size w w' := by
 obtain ⟨p, hp⟩ : ∃ p, p = e * 8 + s := ⟨_, rfl⟩
 rw [← hp]
 have HT := Lib.hid h
 have HP := Lib.hid hp
 have HI := Lib.hid hi
 clear h hp hi
 obtain ⟨x0, hx0⟩ : ∃ x, capI (k.sl e s) 0 = x := ⟨_, rfl⟩
 obtain ⟨x1, hx1⟩ : ∃ x, capI (k.sl e s) 1 = x := ⟨_, rfl⟩
 obtain ⟨x2, hx2⟩ : ∃ x, capI (k.sl e s) 2 = x := ⟨_, rfl⟩
 obtain ⟨x3, hx3⟩ : ∃ x, capI (k.sl e s) 3 = x := ⟨_, rfl⟩
 rw [hx0, hx1, hx2, hx3]
 have HX := Lib.hid (And.intro hx0 (And.intro hx1 (And.intro hx2 hx3)))
 clear hx0 hx1 hx2 hx3
 go_enter Tryz.func92, Tryz.ntmps92
 go_wp2_with fail
 obtain ⟨A, hA⟩ : ∃ A, A = w.heap.size := ⟨_, rfl⟩
 obtain ⟨B, hB⟩ : ∃ B, B = w.heap.size + 1 := ⟨_, rfl⟩
 obtain ⟨w1, hw1⟩ : ∃ w1, w1 = (w.alloc (.cells #[.int .i64 x0, .int .i64 x1, .int .i64 x2, .int .i64 x3] 58)).alloc (.cells #[.int .i64 x, .int .i64 y] 168) := ⟨_, rfl⟩
 have HA : Hid (w1.heap[A]? = some (.cells #[.int .i64 x0, .int .i64 x1, .int .i64 x2, .int .i64 x3] 58 (0, 0))) := by rw [hw1, hA]; exact bk_two (Below.refl _ _)
 have HB : Hid (w1.heap[B]? = some (.cells #[.int .i64 x, .int .i64 y] 168 (0, 0))) := by
  rw [hw1, hB]
  have h := heap_alloc_new (w.alloc (.cells #[.int .i64 x0, .int .i64 x1, .int .i64 x2, .int .i64 x3] 58)) (.cells #[.int .i64 x, .int .i64 y] 168)
  rw [show (w.alloc (.cells #[.int .i64 x0, .int .i64 x1, .int .i64 x2, .int .i64 x3] 58)).heap.size = w.heap.size + 1 by simp] at h
  exact h
 have B1 : Hid (Below w.heap.size w w1) := by rw [hw1]; exact ((Below.refl _ _).alloc (Nat.le_refl _) _).alloc (by simp) _
 have F1 : Hid (FromAt w P G E A B k x y p e s w1) := ⟨HT.out.later B1.out, he, hs, HI.out, by rw [HP.out], num_four (w := w) HA.out HX.out.1 HX.out.2.1 HX.out.2.2.1 HX.out.2.2.2 rfl, bk_cell HB.out 0, bk_cell HB.out 1, bk_lt HB.out, HT.out.lp, HT.out.lg, by omega, by omega, B1.out⟩
 have hAB : A ≠ B := by omega
 rw [← hw1, ← hB, ← hA]
 clear hw1 hA hB HA HB B1 HX HI HP HT
 go_loopw [6] (fun v W => v = .bool false ∧ ∃ e s : Nat, FromAt w P G E A B k x y p e s W) (fun _ W => capD k A W)
 case atStart => exact ⟨rfl, e, s, F1.out⟩
 case round =>
  clear F1
  obtain ⟨rfl, e, s, hf⟩ := hrel
  have HF := Lib.hid hf
  clear hf
  have hi := HF.out.is
  obtain ⟨y0, y1, y2, y3⟩ := capI_yes hi
  have c2 := HF.out.nums.1 2 (by omega)
  have c3 := HF.out.nums.1 3 (by omega)
  rw [y2] at c2
  rw [y3] at c3
  have d0 := HF.out.b0
  have d1 := HF.out.b1
  have lb := HF.out.lb
  have la := HF.out.nums.2.2
  rcases HF.out.tree.ok.par e s HF.out.hs hi with h1 | ⟨a, b, h1, h2, h3, h4, h5⟩
  ·rw [h1] at c2
   have HN := Lib.hid (fromI_root (a := x) (b := y) (n := 32) HF.out.hs h1)
   clear h1 hi y0 y1 y2 y3
   go_wp2_with fail
   go_ret
   exact ⟨by rw [HF.out.same, HN.out]; rfl, HF.out.below⟩
  ·rw [h1] at c2
   rw [h2] at c3
   have HN := Lib.hid (fromI_par HF.out.tree.ok (x := x) (y := y) HF.out.hs hi h1 h2 h4 h5)
   have HD : Hid (capD k A wr = depthF k 32 (a * 8 + b)) := by
    show capD k A wr = _
    unfold capD
    rw [numAt_of c2, numAt_of c3, if_pos (by omega), Int.toNat_natCast, Int.toNat_natCast]
   have HI5 := Lib.hid h5
   have haE : a < E := by have := HF.out.tree.envs; omega
   have a1 : ¬ (a : Int) = -1 := by omega
   clear h1 h2 hi y0 y1 y2 y3 h5
   by_cases hq : (a : Int) = x ∧ (b : Int) = y
   ·obtain ⟨rfl, rfl⟩ := hq
    have HT2 := Lib.hid (show fromI k (a : Int) (b : Int) 32 p = true by rw [HF.out.same, HN.out, decide_eq_true ⟨rfl, rfl⟩, Bool.true_or])
    clear HN HD
    go_wp2_with fail
    go_ret
    exact ⟨by rw [HT2.out]; rfl, HF.out.below⟩
   ·have HQ := Lib.hid (show fromI k x y 32 p = fromI k x y 32 (a * 8 + b) by rw [HF.out.same, HN.out, decide_eq_false hq, Bool.false_or])
    have t0 := HF.out.tree.top
    have tl := HF.out.tree.lp
    have gl := HF.out.tree.lg
    obtain ⟨g0, g1, g2, g3⟩ := HF.out.tree.cap haE h4
    have k0 := HF.out.nums.1 0 (by omega)
    have k1 := HF.out.nums.1 1 (by omega)
    have f0 := HF.out.nums.2.1 0
    have f1 := HF.out.nums.2.1 1
    have f2 := HF.out.nums.2.1 2
    have f3 := HF.out.nums.2.1 3
    have HA0 : Hid (a < E ∧ b < 8) := ⟨haE, h4⟩
    have a0 : (0 : Int) ≤ (a : Int) := by omega
    have a2 : (a : Int) < (E : Int) := by omega
    have b0 : (0 : Int) ≤ (b : Int) := by omega
    have b2 : (b : Int) < 8 := by omega
    generalize capI (k.sl e s) 0 = z0 at k0
    generalize capI (k.sl e s) 1 = z1 at k1
    rcases (show ((a : Int) = x ∧ ¬ (b : Int) = y) ∨ ¬ (a : Int) = x by omega) with ⟨rfl, hy⟩ | hx
    all_goals
     clear hq HN
     go_wp2_with fail
     go_region
     go_wp2_with fail
     go_roundw
     case rel => exact ⟨rfl, a, b, HF.out.step hAB HA0.out.1 HA0.out.2 HI5.out HQ.out⟩
     case measure =>
      rw [HD.out]
      exact (HF.out.step hAB HA0.out.1 HA0.out.2 HI5.out HQ.out).less
end Go.Proofs.YtdfhfmdelinemaaGreatDoor
