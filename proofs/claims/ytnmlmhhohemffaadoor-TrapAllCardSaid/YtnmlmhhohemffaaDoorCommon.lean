/- What is proved here: errors.Unwrap of a trap is what it wraps; Error of a nil *trap.Trap is the empty text; errors.New makes a new errorString. Conditions: the trap's cells are there. -/
import Derived.Test.YtnmlmhhohemffaaDoorWalkOf
namespace Go.Proofs.YtnmlmhhohemffaaDoor
open Go.RowKit Go.Extern.Stop Go.Stop Go.Extern

theorem Unwrap_trap (b : Nat) (v : Value) (w : World) (hc : w.cell? ⟨b, 7, none⟩ = some v) :
    Calls Tryd.prog 22 #[ptrErr b] w fun e w' => e = .returned v ∧ w = w' := by
  have hU := Tryd.hasUnwrapP
  have mU := Tryd.methodUnwrapP
  go_enter Tryd.func22, Tryd.ntmps22
  go_wp2_with (go_at_call 25; refine (unwrap_some b v _ hc).mono ?_; rintro e w' ⟨rfl, rfl⟩)
  go_ret
  exact ⟨rfl, rfl⟩
theorem error_none (w : World) : Calls Tryd.prog 24 #[.pointer none] w fun e w' => e = .returned (.string ⟨#[]⟩) ∧ w = w' := by
  go_enter Tryd.func24, Tryd.ntmps24
  go_wp2
  go_ret
  exact ⟨rfl, rfl⟩
/-- The error that leads to the errorString at a. -/
abbrev strErr (a : Nat) : Value := .iface 63 (.pointer (some ⟨a, 0, none⟩))
theorem new_any (s : ByteArray) (w : World) : Calls Tryd.prog 20 #[.string s] w fun e w' => e = .returned (strErr w.heap.size) ∧ w.alloc (.cells #[.string s] 65) = w' := by
  go_enter Tryd.func20, Tryd.ntmps20
  go_wp2
  go_ret
  exact ⟨rfl, rfl⟩

/-- The block of a boxed call, read later. -/
theorem box_cells {w W : World} {x0 x1 x2 x3 x4 : Value} (h : Below (w.alloc (.cells #[x0, x1, x2, x3, x4] 25)).heap.size (w.alloc (.cells #[x0, x1, x2, x3, x4] 25)) W) (i : Nat) :
    W.cell? ⟨w.heap.size, i, none⟩ = #[x0, x1, x2, x3, x4][i]? := by
  rw [h.cell (p := ⟨w.heap.size, i, none⟩) (by simp), World.cell?_alloc_at _ _ _ _ rfl]
end Go.Proofs.YtnmlmhhohemffaaDoor
