/- What is proved here: what Code, Depth, First, errors.Is and Error tell of a chain of traps, in whatever later memory; what In makes of one; and that the statements' own check begun answers true. Conditions: the library's variable errors.errorType holds the type error. -/
import Derived.Test.YtnmlmhhohemffaaDoorCode
import Derived.Test.YtnmlmhhohemffaaDoorIn
namespace Go.Proofs.YtnmlmhhohemffaaDoor
open Go.RowKit Go.Extern.Stop Go.Stop Go.Extern

/-- The error that leads to the trap at b. -/
abbrev ptrErr (b : Nat) : Value := .iface 34 (.pointer (some ⟨b, 0, none⟩))

theorem chain_trap {w : World} {c : Int} {z : Value} {n B b : Nat} (h : Chain w c z (n + 1) B (ptrErr b)) :
    ∃ env k0 k1 k2 k3 k4 v1, b < B ∧ TrapAt w b c env k0 k1 k2 k3 k4 v1 ∧ Chain w c z n b v1 := by
  obtain ⟨b1, env, k0, k1, k2, k3, k4, v1, e, hlt, ht, hr⟩ := h
  obtain rfl : b = b1 := by injection e with _ e; injection e with e; injection e with e; injection e with e
  exact ⟨env, k0, k1, k2, k3, k4, v1, hlt, ht, hr⟩

theorem chain_first {w : World} (hg : Held w) (b : Nat) :
    Calls Tryd.prog 16 #[ptrErr b] w fun e w' => e = .returned (.tuple #[.pointer (some ⟨b, 0, none⟩), .bool true]) ∧ Below w.heap.size w w' :=
  first_hit _ _ w (asHit_trap w hg _)
theorem chain_code {w : World} {c : Int} {z : Value} {n B b : Nat} (hg : Held w) (h : Chain w c z (n + 1) B (ptrErr b)) :
    Calls Tryd.prog 17 #[ptrErr b] w fun e w' => e = .returned (.int .i64 c) ∧ Below w.heap.size w w' := by
  obtain ⟨env, k0, k1, k2, k3, k4, v1, _, ht, _⟩ := chain_trap h
  exact code_hit _ _ b _ w (asHit_trap w hg _) (cell_of_block ht 0)
theorem chain_depth {w : World} {c : Int} {z : Value} {n B b : Nat} (hg : Held w) (h : Chain w c z (n + 1) B (ptrErr b)) (hB : B ≤ w.heap.size) (hz : ∀ W, Below w.heap.size w W → AsMiss W z) :
    Calls Tryd.prog 18 #[ptrErr b] w fun e w' => e = .returned (.int .i64 ((n + 1 : Nat) : Int)) ∧ Below w.heap.size w w' :=
  depth_hit _ n c z B b w hg (asHit_trap w hg _) hz h hB
theorem chain_is_yes {w : World} {c : Int} {z : Value} {n B b t : Nat} (hg : Held w) (h : Chain w c z (n + 1) B (ptrErr b)) (ht : OfAt w t c) (hne : b ≠ t) :
    Calls Tryd.prog 19 #[ptrErr b, ptrErr t] w fun e w' => e = .returned (.bool true) ∧ Below w.heap.size w w' := by
  obtain ⟨env, k0, k1, k2, k3, k4, v1, _, hb, _⟩ := chain_trap h
  refine Is_trap _ _ _ w ((is_same_code c b t env k0 k1 k2 k3 k4 v1 w hg hb ht hne).mono ?_)
  rintro e w' ⟨rfl, hb⟩
  exact ⟨true, rfl, rfl, hb⟩
theorem chain_is_no {w : World} {c d : Int} {n B b t : Nat} (hg : Held w) (h : Chain w c .nilIface (n + 1) B (ptrErr b)) (ht : OfAt w t d) (hd : (d == c) = false) (hBt : B ≤ t) :
    Calls Tryd.prog 19 #[ptrErr b, ptrErr t] w fun e w' => e = .returned (.bool false) ∧ Below w.heap.size w w' := by
  refine Is_trap _ _ _ w ((is_chain_no c d hd n B t _ w hg ht (fun i hi => by omega) h).mono ?_)
  rintro e w' ⟨rfl, hb⟩
  exact ⟨false, rfl, rfl, hb⟩
theorem chain_is {w : World} {c d : Int} {n B b t : Nat} (hg : Held w) (h : Chain w c .nilIface (n + 1) B (ptrErr b)) (ht : OfAt w t d) (hBt : B ≤ t) :
    Calls Tryd.prog 19 #[ptrErr b, ptrErr t] w fun e w' => e = .returned (.bool (d == c)) ∧ Below w.heap.size w w' := by
  obtain ⟨env, k0, k1, k2, k3, k4, v1, hlt, _, _⟩ := chain_trap h
  by_cases hd : d = c
  · subst hd
    rw [beq_self_eq_true]
    exact chain_is_yes hg h ht (by omega)
  · have hd' : (d == c) = false := beq_eq_false_iff_ne.2 hd
    rw [hd']
    exact chain_is_no hg h ht hd' hBt
theorem chain_error {w : World} {c n B b : Nat} (hg : Held w) (h : Chain w c .nilIface (n + 1) B (ptrErr b)) (hB : B ≤ w.heap.size) (hc : c < 100) (hn : n ≤ 1000) :
    Calls Tryd.prog 24 #[.pointer (some ⟨b, 0, none⟩)] w fun e w' => e = .returned (.string ⟨(repText c n ++ trapText c).toArray⟩) ∧ Below w.heap.size w w' :=
  error_any c n B b hc hn w hg hB .nilIface _ (Or.inl ⟨rfl, rfl⟩) h

/-- What In makes of a chain is one trap more. -/
theorem chain_in {w w' : World} {c : Int} {z v : Value} {n B : Nat} {env : Int} {k0 k1 k2 k3 k4 : Value} {e : Ending} (h : Chain w c z n B v) (hB : B ≤ w.heap.size) (hi : InPost w c env k0 k1 k2 k3 k4 v e w') :
    ∃ b, e = .returned (ptrErr b) ∧ w.heap.size ≤ b ∧ TrapAt w' b c env k0 k1 k2 k3 k4 v ∧ Below w.heap.size w w' ∧ Chain w' c z (n + 1) w'.heap.size (ptrErr b) := by
  obtain ⟨b, he, hb, ht, hbl⟩ := hi
  exact ⟨b, he, hb, ht, hbl, b, env, k0, k1, k2, k3, k4, v, rfl, lt_of_block ht, ht, (h.later hbl hB).mono (by omega)⟩
/-- In of a chain. -/
theorem in_chain {w : World} {c : Int} {z : Value} {n B b : Nat} (hg : Held w) (h : Chain w c z (n + 1) B (ptrErr b)) (hB : B ≤ w.heap.size) (env x0 x1 x2 x3 x4 : Int) :
    Calls Tryd.prog 15 #[.int .i64 env, .agg #[.int .u64 x0, .int .u64 x1, .int .u64 x2, .int .u64 x3, .int .u64 x4], ptrErr b] w
      (InPost w c env (.int .u64 x0) (.int .u64 x1) (.int .u64 x2) (.int .u64 x3) (.int .u64 x4) (ptrErr b)) :=
  in_some _ _ c env x0 x1 x2 x3 x4 w fun _ hW => chain_code (hg.below hW hg.pos) (h.later hW hB)

theorem of_at (w : World) (c : Int) : OfAt (w.alloc (.cells #[.int .i64 c, .int .i64 (-1), .int .u64 0, .int .u64 0, .int .u64 0, .int .u64 0, .int .u64 0, .nilIface] 38)) w.heap.size c := trap_new w _
theorem of_chain (w : World) (c : Int) : Chain (w.alloc (.cells #[.int .i64 c, .int .i64 (-1), .int .u64 0, .int .u64 0, .int .u64 0, .int .u64 0, .int .u64 0, .nilIface] 38)) c .nilIface 1 (w.heap.size + 1) (ptrErr w.heap.size) :=
  ⟨w.heap.size, -1, _, _, _, _, _, _, rfl, Nat.lt_succ_self _, trap_new w _, rfl⟩
/-- Of, told with what it makes. -/
def OfPost (w : World) (c : Int) (e : Ending) (w' : World) : Prop :=
  ∃ t, e = .returned (ptrErr t) ∧ t = w.heap.size ∧ OfAt w' t c ∧ w'.heap.size = t + 1 ∧ Below w.heap.size w w'
theorem of_post (c : Int) (hc : (c == 0) = false) (w : World) : Calls Tryd.prog 13 #[.int .i64 c] w (OfPost w c) := by
  refine (of_some c hc w).mono ?_
  rintro e w' ⟨rfl, rfl⟩
  exact ⟨_, rfl, rfl, of_at w c, by simp, (Below.refl _ _).alloc (Nat.le_refl _) _⟩
theorem OfAt.chain {w : World} {t : Nat} {c : Int} (h : OfAt w t c) : Chain w c .nilIface 1 (t + 1) (ptrErr t) :=
  ⟨t, -1, _, _, _, _, _, _, rfl, Nat.lt_succ_self _, h, rfl⟩
end Go.Proofs.YtnmlmhhohemffaaDoor
