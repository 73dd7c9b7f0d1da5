/- What is proved here: trap.In of what trap.Of has just made is a chain of two traps. Conditions: the library's variable errors.errorType holds the type error from the given memory on. -/
import Derived.Test.YtnmlmhhohemffaaDoorCommon
namespace Go.Proofs.YtnmlmhhohemffaaDoor
open Go.RowKit Go.Extern.Stop Go.Stop Go.Extern

/-- What In of a new trap leaves: a chain of two. -/
def InOf (w : World) (c : Nat) (env : Int) (b : Nat) (W : World) : Prop :=
  ∃ k0 k1 k2 k3 k4 v, TrapAt W b c env k0 k1 k2 k3 k4 v ∧ Chain W c .nilIface 2 W.heap.size (ptrErr b) ∧ Below w.heap.size w W
theorem in_of {w w1 wo : World} {c o : Nat} (env x0 x1 x2 x3 x4 : Int) (HG : ∀ W, Below w.heap.size w W → Held W) (HB1 : Below w.heap.size w w1) (Hbo : Below w1.heap.size w1 wo) (hat : OfAt wo o c) (hs : wo.heap.size = o + 1) :
    Calls Tryd.prog 15 #[.int .i64 env, .agg #[.int .u64 x0, .int .u64 x1, .int .u64 x2, .int .u64 x3, .int .u64 x4], ptrErr o] wo fun e w' => ∃ b, e = .returned (ptrErr b) ∧ InOf w c env b w' ∧ Below wo.heap.size wo w' := by
  have hB : Below w.heap.size w wo := HB1.trans (Hbo.mono HB1.size)
  refine (in_chain (HG _ hB) hat.chain (Nat.le_of_eq hs.symm) env x0 x1 x2 x3 x4).mono ?_
  intro e wi hi
  obtain ⟨b, he, _, ht, hb, hch⟩ := chain_in hat.chain (Nat.le_of_eq hs.symm) hi
  exact ⟨b, he, ⟨_, _, _, _, _, _, ht, hch, hB.trans (hb.mono hB.size)⟩, hb⟩

/-- Two of whatever: a chain of two at b, a single trap at t behind it. -/
def TwoAt (w : World) (c d : Nat) (env : Int) (b t : Nat) (W : World) : Prop :=
  ∃ k0 k1 k2 k3 k4 v B, TrapAt W b c env k0 k1 k2 k3 k4 v ∧ Chain W c .nilIface 2 B (ptrErr b) ∧ B ≤ t ∧ OfAt W t d ∧ W.heap.size = t + 1 ∧ Below w.heap.size w W
theorem two_at {w wi wt : World} {c d : Nat} {env : Int} {b t : Nat} (hi : InOf w c env b wi) (ht : t = wi.heap.size) (hat : OfAt wt t d) (hs : wt.heap.size = t + 1) (hb : Below wi.heap.size wi wt) : TwoAt w c d env b t wt := by
  obtain ⟨k0, k1, k2, k3, k4, v, h1, h2, h3⟩ := hi
  exact ⟨k0, k1, k2, k3, k4, v, wi.heap.size, h1.later hb (lt_of_block h1), h2.later hb (Nat.le_refl _), by omega, hat, hs, h3.trans (hb.mono h3.size)⟩
end Go.Proofs.YtnmlmhhohemffaaDoor
