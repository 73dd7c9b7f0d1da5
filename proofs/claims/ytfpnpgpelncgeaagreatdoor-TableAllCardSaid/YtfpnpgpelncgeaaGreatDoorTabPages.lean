/- What is proved here: a slice that holds pages, read; what the list of pages by a slot is made of. Conditions: those that each theorem names. -/
import Derived.Test.YtfpnpgpelncgeaaGreatDoorGParts
namespace Go.Proofs.YtfpnpgpelncgeaaGreatDoor
open Go.RowKit Go.Extern.Stop Go.Stop Go.Extern

theorem cell_lt {w : World} {a : Addr} {v : Value} (h : w.cell? a = some v) : a.block < w.heap.size := by
  rcases Nat.lt_or_ge a.block w.heap.size with h1 | h1
  · exact h1
  · simp [World.cell?, Array.getElem?_eq_none h1] at h
/-- The slice at A holds the pages l. -/
def PagesAt (w : World) (A : Option Addr) (l : List Nat) : Prop := ∀ j, j < l.length → ∃ b, A = some ⟨b, 0, none⟩ ∧ b < w.heap.size ∧ w.cell? ⟨b, j, none⟩ = some (.int .i64 ((l.getD j 0 : Nat) : Int))
theorem PagesAt.later {w w' : World} {A : Option Addr} {l : List Nat} (h : PagesAt w A l) (hb : Below w.heap.size w w') : PagesAt w' A l := fun j hj => by
  obtain ⟨b, e, hl, hc⟩ := h j hj
  exact ⟨b, e, Nat.lt_of_lt_of_le hl hb.size, (hb.cell (p := ⟨b, j, none⟩) hl).trans hc⟩
theorem pages_at {w : World} {base : Nat} {e : TypeId} {v : Value} {l : List Nat} (h : w.ownsRow base e 1 v l.length (pagesV l)) : ∃ (A : Option Addr) (c : Nat), v = .slice A l.length c ∧ PagesAt w A l := by
  rcases h.2 with ⟨rfl, hx⟩ | ⟨g', cap, cur, rfl, _, hh, _⟩
  · obtain rfl : l = [] := List.eq_nil_of_length_eq_zero hx
    exact ⟨none, 0, rfl, fun j hj => absurd hj (Nat.not_lt_zero j)⟩
  · refine ⟨_, _, rfl, fun j hj => ⟨g', rfl, bk_lt hh, ?_⟩⟩
    have hc := h.cells (g := g') rfl j (.int .i64 ((l.getD j 0 : Nat) : Int)) (by unfold pagesV; rw [List.getElem?_map, List.getElem?_eq_getElem hj]; simp [hj])
    rwa [show (⟨g', 0, none⟩ : Addr).add j = ⟨g', j, none⟩ by unfold Addr.add; split <;> simp [*]] at hc
theorem byL_split (g : Nat → Int) (s : Int) (k d : Nat) : ∃ r, byL g s (k + d) = byL g s k ++ r := by
  induction d with
  | zero => exact ⟨[], by simp⟩
  | succ d ih =>
    obtain ⟨r, hr⟩ := ih
    by_cases h : ¬ g ((k + d) * 3 + 2) = 0 ∧ g ((k + d) * 3 + 1) = s
    · exact ⟨r ++ [k + d], by rw [← Nat.add_assoc, byL_yes g s (k + d) h, hr, List.append_assoc]⟩
    · exact ⟨r, by rw [← Nat.add_assoc, byL_no g s (k + d) h, hr]⟩
theorem byL_len (g : Nat → Int) (s : Int) (k : Nat) (h : ¬ g (k * 3 + 2) = 0 ∧ g (k * 3 + 1) = s) : (byL g s (k + 1)).length = (byL g s k).length + 1 := by
  rw [byL_yes g s k h]
  simp
theorem byL_hit (g : Nat → Int) (s : Int) (k : Nat) (hk : k < 8) (h : ¬ g (k * 3 + 2) = 0 ∧ g (k * 3 + 1) = s) : (byL g s k).length < (byL g s 8).length ∧ (byL g s 8).getD (byL g s k).length 0 = k := by
  obtain ⟨r, hr⟩ := byL_split g s (k + 1) (7 - k)
  rw [show k + 1 + (7 - k) = 8 by omega, byL_yes g s k h] at hr
  rw [hr]
  simp
theorem byL_congr {g h : Nat → Int} {s : Int} {k : Nat} (e : ∀ j, j < k → g (j * 3 + 2) = h (j * 3 + 2) ∧ g (j * 3 + 1) = h (j * 3 + 1)) : byL g s k = byL h s k := by
  unfold byL
  apply List.filter_congr
  intro j hj
  have hj := List.mem_range.1 hj
  rw [(e j hj).1, (e j hj).2]
end Go.Proofs.YtfpnpgpelncgeaaGreatDoor
