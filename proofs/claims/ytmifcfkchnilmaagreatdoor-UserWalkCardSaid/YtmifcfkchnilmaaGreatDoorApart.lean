/- What is proved here: two of the document's plain kernels, of which the one has the calls of all environments, the other those of one alone, none of them a grant: what that one environment is told is the same, as long as nothing is full. Conditions: none. -/
import Derived.Test.YtmifcfkchnilmaaGreatDoorGTreeB
namespace Go.Proofs.YtmifcfkchnilmaaGreatDoor
def hitP (k : KernS) (l : List Nat) (e p : Nat) : Bool := l.any fun j => decide (j / 8 = e ∧ (k.pt e p).slot = ((j % 8 : Nat) : Int))
theorem goneF_pt : ∀ (l : List Nat) (k : KernS) (e p : Nat), p < 8 → (goneF k l).pt e p = if ¬ (k.pt e p).rights = 0 ∧ hitP k l e p = true then noPte else k.pt e p
  | [], k, e, p, _ => by
    rw [if_neg (fun h => Bool.noConfusion (show false = true from h.2))]
    rfl
  | j :: l, k, e, p, hp => by
    show (goneF (clr k (j / 8) (j % 8) 8) l).pt e p = _
    rw [goneF_pt l _ e p hp]
    have e2 : hitP k (j :: l) e p = (decide (j / 8 = e ∧ (k.pt e p).slot = ((j % 8 : Nat) : Int)) || hitP k l e p) := rfl
    by_cases hj : e = j / 8 ∧ ¬ (k.pt e p).rights = 0 ∧ (k.pt e p).slot = ((j % 8 : Nat) : Int)
    · have e1 : (clr k (j / 8) (j % 8) 8).pt e p = noPte := if_pos ⟨hj.1, hp, hj.2⟩
      rw [e1, if_neg (fun h => h.1 rfl), if_pos ⟨hj.2.1, by rw [e2, decide_eq_true ⟨hj.1.symm, hj.2.2⟩, Bool.true_or]⟩]
    · have e1 : (clr k (j / 8) (j % 8) 8).pt e p = k.pt e p := if_neg fun h => hj ⟨h.1, h.2.2⟩
      have e3 : hitP (clr k (j / 8) (j % 8) 8) l e p = hitP k l e p := by
        unfold hitP
        rw [e1]
      rw [e1, e3, e2]
      by_cases hr : (k.pt e p).rights = 0
      · rw [if_neg (fun h => h.1 hr), if_neg (fun h => h.1 hr)]
      · rw [decide_eq_false (fun h => hj ⟨h.1.symm, hr, h.2⟩), Bool.false_or]
theorem goneF_mm : ∀ (l : List Nat) (k : KernS), (goneF k l).mm = k.mm
  | [], _ => rfl
  | j :: l, k => goneF_mm l (clr k (j / 8) (j % 8) 8)
theorem goneF_is {k : KernS} {l : List Nat} {e s : Nat} (hs : s < 8) (h : ((goneF k l).sl e s).is = true) : ¬ e * 8 + s ∈ l ∧ (goneF k l).sl e s = k.sl e s ∧ (k.sl e s).is = true := by
  rw [goneF_sl l k e s hs] at h ⊢
  by_cases h1 : e * 8 + s ∈ l
  · rw [if_pos h1] at h
    exact absurd (show false = true from h) (by decide)
  · rw [if_neg h1] at h ⊢
    exact ⟨h1, rfl, h⟩
section
variable {v : Nat} {a b : KernS}
end
theorem refs_none {k : KernS} {f : Int} (h : refsN k f 32 = 0) {e s : Nat} (he : e < 4) (hs : s < 8) (hi : (k.sl e s).is = true) : ¬ (k.sl e s).frame = f := by
  intro hf
  have h1 : e * 8 + s ∈ (List.range 32).filter (ofB k f) := by
    rw [List.mem_filter, List.mem_range]
    refine ⟨by omega, ?_⟩
    unfold ofB
    rw [(at_div hs).1, (at_div hs).2, hi, hf, Bool.true_and]
    exact decide_eq_true rfl
  unfold refsN at h
  rw [List.length_eq_zero_iff.1 h] at h1
  exact absurd h1 (by simp)
end Go.Proofs.YtmifcfkchnilmaaGreatDoor

