/- What is proved here: the document's plain kernel: frames that are taken, capabilities that go; each call by one plain function. Conditions: those that each theorem names. -/
import Derived.Test.YtbmekfjcpdbapaaGreatDoorGKerB
import Derived.Deep.MidRow
import Derived.Test.YtbmekfjcpdbapaaGreatDoorGParts
namespace Go.Proofs.YtbmekfjcpdbapaaGreatDoor
open Go.RowKit Go.Extern.Stop Go.Stop Go.Extern Go.WalkArith
def KernS.clearN (k : KernS) (f n : Nat) : KernS := { k with mm := fun f' a => if f' = f ∧ a < n then 0 else k.mm f' a }
def KernS.clear (k : KernS) (f : Nat) : KernS := k.clearN f 16
def allocS (k : KernS) (e s f : Nat) : KernS := (k.clear f).setSlot e s ⟨true, (f : Int), 3, -1, 0⟩
end Go.Proofs.YtbmekfjcpdbapaaGreatDoor
namespace Go.Proofs.YtbmekfjcpdbapaaGreatDoor
open Go.RowKit Go.Extern.Stop Go.Stop Go.Extern Go.WalkArith
theorem placesV_get : ∀ (l : List Nat) (i : Nat) (hi : i < l.length), (placesV l)[i * 2]? = some (.int .i64 ((l[i] / 8 : Nat) : Int)) ∧ (placesV l)[i * 2 + 1]? = some (.int .i64 ((l[i] % 8 : Nat) : Int))
  | [], _, hi => absurd hi (by simp)
  | j :: l, 0, _ => ⟨rfl, rfl⟩
  | j :: l, i + 1, hi => by
    have h := placesV_get l i (by simpa using hi)
    have e : placesV (j :: l) = Value.int .i64 ((j / 8 : Nat) : Int) :: Value.int .i64 ((j % 8 : Nat) : Int) :: placesV l := rfl
    rw [e, show (i + 1) * 2 = i * 2 + 1 + 1 by omega]
    simp only [List.getElem?_cons_succ, List.getElem_cons_succ]
    exact h
end Go.Proofs.YtbmekfjcpdbapaaGreatDoor
namespace Go.Proofs.YtbmekfjcpdbapaaGreatDoor
open Go.RowKit Go.Extern.Stop Go.Stop Go.Extern Go.WalkArith
theorem res4_zero {b0 b1 b2 b3 : Bool} (h : res4 b0 b1 b2 b3 = 0) : b0 = true ∧ b1 = true ∧ b2 = true ∧ b3 = true := by
  unfold res4 at h
  rw [pre_4] at h
  cases b0 <;> cases b1 <;> cases b2 <;> cases b3 <;> simp at h ⊢
theorem below_lt {x m : Int} (h : belowB x m = true) : x < m := (of_decide_eq_true h).2
theorem chk_kind {x0 x1 x2 x3 x4 envs : Int} (h : chkN x0 x1 x2 x3 x4 envs = 0) : isKind x0 = true := by
  unfold chkN at h
  cases hk : isKind x0
  · rw [hk, if_neg (by decide)] at h
    exact absurd h (by decide)
  · rfl
structure Sane (k : KernS) : Prop where
  envs : 1 ≤ k.envs ∧ k.envs ≤ 4
  frames : 0 ≤ k.frames ∧ k.frames ≤ 16
  slot : ∀ e s, e < 4 → s < 8 → (k.sl e s).is = true → 0 ≤ (k.sl e s).frame ∧ (k.sl e s).frame < 16 ∧ 0 ≤ (k.sl e s).rights ∧ (k.sl e s).rights ≤ 3
  par : Sound k
  pte : ∀ e p, e < 4 → p < 8 → ¬ (k.pt e p).rights = 0 → 0 ≤ (k.pt e p).frame ∧ (k.pt e p).frame < 16 ∧ 0 ≤ (k.pt e p).slot ∧ (k.pt e p).slot < 8
def kcall (k : KernS) (e : Nat) (x0 x1 x2 x3 x4 : Int) : KernS × Int × Int × Bool :=
  if x0 = 1 then
    if (k.sl e x1.toNat).is = true then (k, 4, 0, true)
    else match freeK k k.frames.toNat with
      | [] => (k, 6, 0, true)
      | f :: _ => (allocS k e x1.toNat f, 0, 0, true)
  else if x0 = 2 then (deriveS k e x1.toNat e x2.toNat x3, deriveE k e x1.toNat e x2.toNat x3, 0, true)
  else if x0 = 3 then (deriveS k e x1.toNat x2.toNat x3.toNat x4, deriveE k e x1.toNat x2.toNat x3.toNat x4, 0, true)
  else if x0 = 4 then
    if (k.sl e x1.toNat).is = true then (goneF k (belowL k (e * 8 + x1.toNat) 32), 0, ((belowL k (e * 8 + x1.toNat) 32).length : Nat), true) else (k, 3, 0, true)
  else if x0 = 5 then
    if (k.sl e x1.toNat).is = true then (goneF k (belowL k (e * 8 + x1.toNat) 32 ++ [e * 8 + x1.toNat]), 0, ((belowL k (e * 8 + x1.toNat) 32 ++ [e * 8 + x1.toNat]).length : Nat), true) else (k, 3, 0, true)
  else if x0 = 6 then (mapS k e x1.toNat x2.toNat x3, mapE k e x1.toNat x2.toNat x3, 0, true)
  else if x0 = 7 then (unmapS k e x1.toNat, unmapE k e x1.toNat, 0, true)
  else if x0 = 8 then (protS k e x1.toNat x2, protE k e x1.toNat x2, 0, true)
  else if x0 = 9 then
    if (k.sl e x1.toNat).is = true then
      if (k.sl e x1.toNat).rights % 2 = 0 then (k, 5, 0, true)
      else if holdsB x3 (k.mm (k.sl e x1.toNat).frame.toNat x2.toNat) x4 = true then (k, 0, k.mm (k.sl e x1.toNat).frame.toNat x2.toNat, true) else (k, 0, 0, false)
    else (k, 3, 0, true)
  else if x0 = 10 then (k, 0, 0, true)
  else if withinB (needN x0) (k.pt e x1.toNat).rights = true then (wordS k (k.pt e x1.toNat).frame.toNat x2.toNat x0 x3 x4, 0, wordT k (k.pt e x1.toNat).frame.toNat x2.toNat x0, true)
  else (k, 7, 0, true)
def kdo (k : KernS) (env x0 x1 x2 x3 x4 : Int) : KernS × Int × Int × Bool :=
  if env < 0 ∨ k.envs ≤ env then (k, 10, 0, true)
  else if chkN x0 x1 x2 x3 x4 k.envs = 0 then kcall k env.toNat x0 x1 x2 x3 x4
  else (k, chkN x0 x1 x2 x3 x4 k.envs, 0, true)
theorem nat_of {x : Int} (h : 0 ≤ x) : ∃ n : Nat, x = (n : Int) := ⟨x.toNat, by omega⟩
end Go.Proofs.YtbmekfjcpdbapaaGreatDoor
namespace Go.Proofs.YtbmekfjcpdbapaaGreatDoor
open Go.RowKit Go.Extern.Stop Go.Stop Go.Extern Go.WalkArith
def newK (c e f : Int) : KernS := ⟨c, e, f, fun _ _ => noSlot, fun _ _ => noPte, fun _ _ => 0⟩
end Go.Proofs.YtbmekfjcpdbapaaGreatDoor
namespace Go.Proofs.YtbmekfjcpdbapaaGreatDoor
open Go.RowKit Go.Extern.Stop Go.Stop Go.Extern Go.WalkArith
theorem within_may {r a : Int} (h : withinB r a = true) : 1 ≤ r ∧ r ≤ 3 := by
  unfold withinB mayB at h
  simp at h
  exact ⟨h.1.1.1, h.1.1.2⟩
theorem Sane.new {c e f : Int} (he : 1 ≤ e ∧ e ≤ 4) (hf : 0 ≤ f ∧ f ≤ 16) : Sane (newK c e f) :=
  ⟨he, hf, fun _ _ _ _ h => by simp [newK, noSlot] at h, fun _ _ _ _ h => by simp [newK, noSlot] at h, fun _ _ _ _ h => absurd rfl h⟩
theorem Sane.setSlot {k : KernS} (h : Sane k) {e s : Nat} {v : SlotV} (hv : v.is = true → 0 ≤ v.frame ∧ v.frame < 16 ∧ 0 ≤ v.rights ∧ v.rights ≤ 3) (hp : v.is = true → 0 ≤ v.env → v.env < 4 ∧ 0 ≤ v.slot ∧ v.slot < 8) : Sane (k.setSlot e s v) := by
  refine ⟨h.envs, h.frames, fun e' s' he hs hi => ?_, fun e' s' he hs hi => ?_, h.pte⟩
  · unfold KernS.setSlot at hi ⊢
    dsimp only at hi ⊢
    by_cases hc : e' = e ∧ s' = s
    · rw [if_pos hc] at hi ⊢
      exact hv hi
    · rw [if_neg hc] at hi ⊢
      exact h.slot e' s' he hs hi
  · unfold KernS.setSlot at hi ⊢
    dsimp only at hi ⊢
    by_cases hc : e' = e ∧ s' = s
    · rw [if_pos hc] at hi ⊢
      exact hp hi
    · rw [if_neg hc] at hi ⊢
      exact h.par e' s' he hs hi
theorem Sane.setPte {k : KernS} (h : Sane k) {e p : Nat} {v : PteV} (hv : ¬ v.rights = 0 → 0 ≤ v.frame ∧ v.frame < 16 ∧ 0 ≤ v.slot ∧ v.slot < 8) : Sane (k.setPte e p v) := by
  refine ⟨h.envs, h.frames, h.slot, h.par, fun e' p' he hp hr => ?_⟩
  unfold KernS.setPte at hr ⊢
  dsimp only at hr ⊢
  by_cases hc : e' = e ∧ p' = p
  · rw [if_pos hc] at hr ⊢
    exact hv hr
  · rw [if_neg hc] at hr ⊢
    exact h.pte e' p' he hp hr
theorem Sane.setWord {k : KernS} (h : Sane k) (f a : Nat) (v : Int) : Sane (k.setWord f a v) := ⟨h.envs, h.frames, h.slot, h.par, h.pte⟩
theorem Sane.clear {k : KernS} (h : Sane k) (f : Nat) : Sane (k.clear f) := ⟨h.envs, h.frames, h.slot, h.par, h.pte⟩
theorem Sane.clr {k : KernS} (h : Sane k) (e s n : Nat) : Sane (clr k e s n) := by
  refine ⟨h.envs, h.frames, fun e' s' he hs hi => ?_, fun e' s' he hs hi => ?_, fun e' p' he hp hr => ?_⟩
  · unfold Proofs.YtbmekfjcpdbapaaGreatDoor.clr at hi ⊢
    dsimp only at hi ⊢
    by_cases hc : e' = e ∧ s' = s
    · rw [if_pos hc] at hi
      exact absurd hi (by decide)
    · rw [if_neg hc] at hi ⊢
      exact h.slot e' s' he hs hi
  · unfold Proofs.YtbmekfjcpdbapaaGreatDoor.clr at hi ⊢
    dsimp only at hi ⊢
    by_cases hc : e' = e ∧ s' = s
    · rw [if_pos hc] at hi
      exact absurd hi (by decide)
    · rw [if_neg hc] at hi ⊢
      exact h.par e' s' he hs hi
  · unfold Proofs.YtbmekfjcpdbapaaGreatDoor.clr at hr ⊢
    dsimp only at hr ⊢
    by_cases hc : e' = e ∧ p' < n ∧ ¬ (k.pt e' p').rights = 0 ∧ (k.pt e' p').slot = (s : Int)
    · rw [if_pos hc] at hr
      exact absurd rfl hr
    · rw [if_neg hc] at hr ⊢
      exact h.pte e' p' he hp hr
theorem Sane.gone {k : KernS} (h : Sane k) (l : List Nat) : Sane (goneF k l) := by
  induction l generalizing k with
  | nil => exact h
  | cons j l ih => exact ih (h.clr _ _ _)
theorem Sane.word {k : KernS} (h : Sane k) (f a : Nat) (kind x3 x4 : Int) : Sane (wordS k f a kind x3 x4) := by
  unfold wordS
  split
  · exact h.setWord _ _ _
  · split
    · split
      · exact h.setWord _ _ _
      · exact h
    · split
      · exact h.setWord _ _ _
      · exact h
theorem Sane.derive {k : KernS} (h : Sane k) {e s e' s' : Nat} (he : e < 4) (hs : s < 8) (r : Int) : Sane (deriveS k e s e' s' r) := by
  unfold deriveS
  split
  · rename_i h0
    unfold deriveE at h0
    split at h0
    · exact absurd h0 (by decide)
    · rename_i hi
      split at h0
      · exact absurd h0 (by decide)
      · split at h0
        · exact absurd h0 (by decide)
        · rename_i hw
          have hsl := h.slot e s he hs (by simpa using hi)
          have hr := within_may (r := r) (a := (k.sl e s).rights) (by simpa using hw)
          exact h.setSlot (fun _ => ⟨hsl.1, hsl.2.1, by show 0 ≤ r; omega, hr.2⟩) (fun _ _ => ⟨by show (e : Int) < 4; omega, by show 0 ≤ (s : Int); omega, by show (s : Int) < 8; omega⟩)
  · exact h
theorem Sane.map {k : KernS} (h : Sane k) {e p s : Nat} (he : e < 4) (hs : s < 8) (r : Int) : Sane (mapS k e p s r) := by
  unfold mapS
  split
  · rename_i h0
    unfold mapE at h0
    split at h0
    · exact absurd h0 (by decide)
    · rename_i hi
      have hsl := h.slot e s he hs (by simpa using hi)
      exact h.setPte fun _ => ⟨hsl.1, hsl.2.1, by show 0 ≤ (s : Int); omega, by show (s : Int) < 8; omega⟩
  · exact h
theorem Sane.unmap {k : KernS} (h : Sane k) (e p : Nat) : Sane (unmapS k e p) := by
  unfold unmapS
  split
  · exact h
  · exact h.setPte fun hr => absurd rfl hr
theorem Sane.prot {k : KernS} (h : Sane k) {e p : Nat} (he : e < 4) (hp : p < 8) (r : Int) : Sane (protS k e p r) := by
  unfold protS
  split
  · rename_i h0
    unfold protE at h0
    split at h0
    · exact absurd h0 (by decide)
    · rename_i hr
      exact h.setPte fun _ => h.pte e p he hp hr
  · exact h
theorem Sane.call {k : KernS} (hk : Sane k) {e : Nat} (he4 : e < 4) {x0 x1 x2 x3 x4 : Int} (hx : wordsIn x0 x1 x2 x3 x4) (hc : chkN x0 x1 x2 x3 x4 k.envs = 0) : Sane (kcall k e x0 x1 x2 x3 x4).1 := by
  obtain ⟨s, rfl⟩ := nat_of hx.2.1.1
  obtain ⟨d, rfl⟩ := nat_of hx.2.2.1.1
  rcases kind_cases (chk_kind hc) with rfl | rfl | rfl | rfl | rfl | rfl | rfl | rfl | rfl | rfl | rfl | rfl | rfl | rfl
  · show Sane (if (k.sl e s).is = true then (k, 4, 0, true) else _ : KernS × Int × Int × Bool).1
    split
    · exact hk
    · rcases hf : freeK k k.frames.toNat with _ | ⟨f, r⟩
      · exact hk
      · have hm : f ∈ freeK k k.frames.toNat := by rw [hf]; exact List.mem_cons_self ..
        unfold freeK at hm
        have := List.mem_range.1 (List.mem_filter.1 hm).1
        have := hk.frames
        exact (hk.clear f).setSlot (fun _ => ⟨by show 0 ≤ (f : Int); omega, by show (f : Int) < 16; omega, by show (0 : Int) ≤ 3; decide, by show (3 : Int) ≤ 3; decide⟩) (fun _ h => absurd (show (0 : Int) ≤ -1 from h) (by decide))
  · obtain ⟨b0, b1, b2, _⟩ := res4_zero (show res4 (belowB (s : Int) 8) (belowB (d : Int) 8) (rightsB x3) true = 0 from hc)
    have h0 := below_lt b0
    exact hk.derive he4 (by show s < 8; omega) _
  · obtain ⟨b0, _⟩ := res4_zero (show res4 (belowB (s : Int) 8) (belowB (d : Int) k.envs) (belowB x3 8) (rightsB x4) = 0 from hc)
    have h0 := below_lt b0
    exact hk.derive he4 (by show s < 8; omega) _
  · show Sane (if (k.sl e s).is = true then _ else _ : KernS × Int × Int × Bool).1
    split
    · exact hk.gone _
    · exact hk
  · show Sane (if (k.sl e s).is = true then _ else _ : KernS × Int × Int × Bool).1
    split
    · exact hk.gone _
    · exact hk
  · obtain ⟨b0, b1, b2, _⟩ := res4_zero (show res4 (belowB (s : Int) 8) (belowB (d : Int) 8) (rightsB x3) true = 0 from hc)
    have h1 := below_lt b1
    exact hk.map he4 (by show d < 8; omega) _
  · exact hk.unmap _ _
  · obtain ⟨b0, b1, _⟩ := res4_zero (show res4 (belowB (s : Int) 8) (rightsB (d : Int)) true true = 0 from hc)
    have h0 := below_lt b0
    exact hk.prot he4 (by show s < 8; omega) _
  · show Sane (if (k.sl e s).is = true then _ else _ : KernS × Int × Int × Bool).1
    split
    · split
      · exact hk
      · split
        · exact hk
        · exact hk
    · exact hk
  · exact hk
  all_goals
    show Sane (if withinB _ (k.pt e s).rights = true then _ else _ : KernS × Int × Int × Bool).1
    split
    · dsimp only
      exact hk.word _ _ _ _ _
    · exact hk
end Go.Proofs.YtbmekfjcpdbapaaGreatDoor
namespace Go.Proofs.YtbmekfjcpdbapaaGreatDoor
open Go.RowKit Go.Extern.Stop Go.Stop Go.Extern Go.WalkArith
end Go.Proofs.YtbmekfjcpdbapaaGreatDoor
