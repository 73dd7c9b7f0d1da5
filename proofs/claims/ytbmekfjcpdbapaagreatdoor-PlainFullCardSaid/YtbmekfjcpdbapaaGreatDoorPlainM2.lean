/- What is proved here: what the plain kernel (kdo) tells and leaves in the runs of the statements of package plain: plain mathematics. Conditions: those that each theorem names. -/
import Derived.Test.YtbmekfjcpdbapaaGreatDoorGKerE
namespace Go.Proofs.YtbmekfjcpdbapaaGreatDoor
open Go.RowKit
def fuL : List Nat → KernS
  | [] => (kdo (newK 1 2 2) 0 1 0 0 0 0).1
  | s :: l => (kdo (fuL l) 0 2 s (l.length + 1 : Nat) 3 0).1
def fuAll : Nat → List (List Nat)
  | 0 => [[]]
  | n + 1 => (fuAll n).flatMap fun l => (List.range (n + 1)).map fun s => s :: l
def fuStep (l : List Nat) : Bool := (List.range (l.length + 1)).all fun s => decide ((kdo (fuL l) 0 2 s (l.length + 1 : Nat) 3 0).2 = (0, 0, true))
def fuEnd (l : List Nat) : Bool := ((List.range 7).all fun s => decide (((fuL l).sl 0 s).is = true ∧ ((fuL l).sl 0 s).frame = 0 ∧ ((fuL l).sl 0 s).rights = 3)) && decide (((fuL l).sl 0 7).is = false ∧ ((fuL l).sl 1 0).is = false ∧ refsN (fuL l) 0 32 = 7 ∧ (fuL l).envs = 2) && decide ((kdo (fuL l) 0 5 0 0 0 0).2 = (0, 7, true) ∧ (freeK (kdo (fuL l) 0 5 0 0 0 0).1 2).length = 2 ∧ (kdo (fuL l) 0 5 0 0 0 0).1.frames = 2)
set_option maxRecDepth 100000 in
theorem full_steps : ((List.range 6).all fun n => (fuAll n).all fuStep) = true := by decide +kernel
set_option maxRecDepth 100000 in
theorem full_end : (fuAll 6).all fuEnd = true := by decide +kernel
theorem full_mem (n : Nat) (l : List Nat) (s : Nat) (h : l ∈ fuAll n) (hs : s ≤ n) : s :: l ∈ fuAll (n + 1) := by
  unfold fuAll
  exact List.mem_flatMap.2 ⟨l, h, List.mem_map.2 ⟨s, List.mem_range.2 (by omega), rfl⟩⟩
theorem full_len : ∀ (n : Nat) (l : List Nat), l ∈ fuAll n → l.length = n
  | 0, l, h => by
    unfold fuAll at h
    simp at h
    subst h
    rfl
  | n + 1, l, h => by
    unfold fuAll at h
    obtain ⟨l', h1, h2⟩ := List.mem_flatMap.1 h
    obtain ⟨s, _, rfl⟩ := List.mem_map.1 h2
    rw [List.length_cons, full_len n l' h1]
end Go.Proofs.YtbmekfjcpdbapaaGreatDoor

