/- What is proved here: the statement CellSwap: whatever its word and its slice, the statement returns true and leaves what was there. Conditions: the slice's words are there and are words; the statements' own beginning returns true. -/
import Derived.Test.YtfpnpgpelncgeaaGreatDoorGCell
import Derived.OpenShut
namespace Go.Proofs.YtfpnpgpelncgeaaGreatDoor
open Go.RowKit Go.Extern.Stop Go.Stop Go.Extern

theorem wrap_next {v : Int} (h : (Lit.int .u64 v).wf = true) : (v == IntKind.u64.wrap (v + 1)) = false := by
  have hb := bounds_u64 h
  refine beq_eq_false_iff_ne.2 fun e => ?_
  have : IntKind.u64.wrap (v + 1) = (v + 1) % 18446744073709551616 := by
    simp [IntKind.wrap, IntKind.signed, IntKind.bits]
  rw [this] at e
  omega
end Go.Proofs.YtfpnpgpelncgeaaGreatDoor
