/- What is proved here: the contract of messuageref2.GetPte: the entry whose word it is. Conditions: the word is one of 64 bits. -/
import Derived.Test.YtfpnpgpelncgeabGreatDoorGParts
namespace Go.Proofs.YtfpnpgpelncgeabGreatDoor
open Go.RowKit Go.Extern.Stop Go.Stop Go.Extern

/-- Behind the triple f, s, r: no word of a triple ahead of it is x. -/
def aheadOf (x f s r : Int) : Prop := okB x = true → 32768 + 256 * f + 16 * s + r ≤ x
theorem ahead_r {x f s r : Int} (h : aheadOf x f s r) (hn : ¬ 32768 + 256 * f + 16 * s + r = x) : aheadOf x f s (r + 1) := by
  intro hx
  have h1 : 32768 + 256 * f + 16 * s + r ≤ x := h hx
  show 32768 + 256 * f + 16 * s + (r + 1) ≤ x
  omega
theorem ahead_s {x f s : Int} (hf : 0 ≤ f) (hs : 0 ≤ s) (h : aheadOf x f s 4) : aheadOf x f (s + 1) 1 := by
  intro hx
  have h1 : 32768 + 256 * f + 16 * s + 4 ≤ x := h hx
  show 32768 + 256 * f + 16 * (s + 1) + 1 ≤ x
  simp only [okB, decide_eq_true_eq] at hx
  omega
theorem ahead_f {x f : Int} (hf : 0 ≤ f) (h : aheadOf x f 8 1) : aheadOf x (f + 1) 0 1 := by
  intro hx
  have h1 : 32768 + 256 * f + 16 * 8 + 1 ≤ x := h hx
  show 32768 + 256 * (f + 1) + 16 * 0 + 1 ≤ x
  simp only [okB, decide_eq_true_eq] at hx
  omega
theorem ahead_end {x : Int} (h : aheadOf x 16 0 1) : okB x = false := by
  rcases Bool.eq_false_or_eq_true (okB x) with hx | hx
  · have h1 := h hx
    simp only [okB, decide_eq_true_eq] at hx
    omega
  · exact hx
theorem hit {x f s r : Int} (hf : 0 ≤ f) (hf2 : f ≤ 15) (hs : 0 ≤ s) (hs2 : s ≤ 7) (hr : 1 ≤ r) (hr2 : r ≤ 3) (h : 32768 + 256 * f + 16 * s + r = x) : okB x = true ∧ gF x = f ∧ gS x = s ∧ gR x = r := by
  have hx : okB x = true := by simp only [okB, decide_eq_true_eq]; omega
  refine ⟨hx, ?_, ?_, ?_⟩
  · unfold gF; rw [if_pos hx]; omega
  · unfold gS; rw [if_pos hx]; omega
  · unfold gR; rw [if_pos hx]; omega

end Go.Proofs.YtfpnpgpelncgeabGreatDoor
