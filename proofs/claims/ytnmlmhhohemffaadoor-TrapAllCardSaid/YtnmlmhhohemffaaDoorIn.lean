/- What is proved here: contracts of trap.In. Conditions: what trap.Code tells of the error is the premise. -/
import Derived.Test.YtnmlmhhohemffaaDoorTrap
import Derived.Deep.RegionWith
namespace Go.Proofs.YtnmlmhhohemffaaDoor
open Go.RowKit Go.Extern.Stop Go.Stop Go.Extern

/-- A new trap is handed back that wraps err. -/
def InPost (w : World) (c env : Int) (k0 k1 k2 k3 k4 err : Value) (e : Ending) (w' : World) : Prop :=
  ∃ b, e = .returned (.iface 34 (.pointer (some ⟨b, 0, none⟩))) ∧ w.heap.size ≤ b ∧ TrapAt w' b c env k0 k1 k2 k3 k4 err ∧ Below w.heap.size w w'

theorem trap_new (W : World) (cs : Array Value) : (W.alloc (.cells cs 38)).heap[W.heap.size]? = some (.cells cs 38 (0, 0)) := (MapKept.heap_alloc W _).1

theorem in_nil (env : Value) (k0 k1 k2 k3 k4 : Value) (w : World) :
    Calls Tryd.prog 15 #[env, .agg #[k0, k1, k2, k3, k4], .nilIface] w fun e w' => e = .returned .nilIface ∧ Below w.heap.size w w' := by
  go_enter Tryd.func15, Tryd.ntmps15
  go_wp2
  go_ret
  exact ⟨rfl, (Below.refl _ _).alloc (Nat.le_refl _) _⟩

theorem in_some (u : TypeId) (x : Value) (c env : Int) (x0 x1 x2 x3 x4 : Int) (w : World)
    (HC0 : ∀ W, Below w.heap.size w W → Calls Tryd.prog 17 #[.iface u x] W (fun e w' => e = .returned (.int .i64 c) ∧ Below W.heap.size W w')) :
    Calls Tryd.prog 15 #[.int .i64 env, .agg #[.int .u64 x0, .int .u64 x1, .int .u64 x2, .int .u64 x3, .int .u64 x4], .iface u x] w
      (InPost w c env (.int .u64 x0) (.int .u64 x1) (.int .u64 x2) (.int .u64 x3) (.int .u64 x4) (.iface u x)) := by
  have HC := Lib.hid HC0
  clear HC0
  have hne := fun w => run_eql_held_nil (P := Tryd.prog) w 30 u x (by kernel_rfl)
  go_enter Tryd.func15, Tryd.ntmps15
  go_wp2_with fail
  go_region_with (go_at_call 17; refine (HC.out _ ?_).mono ?_; exact ((Below.refl _ _).alloc (Nat.le_refl _) _).drew; rintro e w1 ⟨rfl, hb⟩; obtain ⟨hcc, hff⟩ := bcell hb; have hb0 := Lib.hid hb; clear hb)
  all_goals
    go_wp2
    go_ret
    have hb1 := ((((Below.refl w.heap.size w).alloc (Nat.le_refl _) (.cells #[.int .u64 x0, .int .u64 x1, .int .u64 x2, .int .u64 x3, .int .u64 x4] 25)).drew).trans (hb0.out.mono (by simp)))
    exact ⟨_, rfl, hb1.size, trap_new _ _, hb1.alloc hb1.size _⟩
end Go.Proofs.YtnmlmhhohemffaaDoor
