/- What is proved here: chains of traps whose environments are a given list, the outermost first. Conditions: none. -/
import Derived.Test.YtnmlmhhohemffaaDoorInOf
namespace Go.Proofs.YtnmlmhhohemffaaDoor
open Go.RowKit Go.Extern.Stop Go.Stop Go.Extern

/-- From v on: traps of code c with these environments, behind them one that Of made. -/
def EC (w : World) (c : Nat) : List Int → Nat → Value → Prop
  | [], B, v => ∃ o, v = ptrErr o ∧ o < B ∧ OfAt w o c
  | en :: r, B, v => ∃ b k0 k1 k2 k3 k4 v1, v = ptrErr b ∧ b < B ∧ TrapAt w b c en k0 k1 k2 k3 k4 v1 ∧ EC w c r b v1

theorem EC.chain {w : World} {c : Nat} : ∀ {l : List Int} {B : Nat} {v : Value}, EC w c l B v → Chain w c .nilIface (l.length + 1) B v
  | [], _, _, ⟨o, e, hlt, ht⟩ => ⟨o, -1, _, _, _, _, _, _, e, hlt, ht, rfl⟩
  | en :: _, _, _, ⟨b, k0, k1, k2, k3, k4, v1, e, hlt, ht, hr⟩ => ⟨b, en, k0, k1, k2, k3, k4, v1, e, hlt, ht, EC.chain hr⟩
theorem EC.later {w w' : World} {c D : Nat} (hb : Below D w w') : ∀ {l : List Int} {B : Nat} {v : Value}, B ≤ D → EC w c l B v → EC w' c l B v
  | [], _, _, hB, ⟨o, e, hlt, ht⟩ => ⟨o, e, hlt, ht.later hb (Nat.lt_of_lt_of_le hlt hB)⟩
  | _ :: _, _, _, hB, ⟨b, k0, k1, k2, k3, k4, v1, e, hlt, ht, hr⟩ =>
    ⟨b, k0, k1, k2, k3, k4, v1, e, hlt, ht.later hb (Nat.lt_of_lt_of_le hlt hB), EC.later hb (Nat.le_of_lt (Nat.lt_of_lt_of_le hlt hB)) hr⟩
theorem EC.ptr {w : World} {c : Nat} : ∀ {l : List Int} {B : Nat} {v : Value}, EC w c l B v → ∃ b, v = ptrErr b ∧ b < B
  | [], _, _, ⟨o, e, hlt, _⟩ => ⟨o, e, hlt⟩
  | _ :: _, _, _, ⟨b, _, _, _, _, _, _, e, hlt, _, _⟩ => ⟨b, e, hlt⟩

/-- In of such a chain. -/
theorem in_envs {w : World} {c b : Nat} {l : List Int} {B : Nat} (hg : Held w) (h : EC w c l B (ptrErr b)) (hB : B ≤ w.heap.size) (env x0 x1 x2 x3 x4 : Int) :
    Calls Tryd.prog 15 #[.int .i64 env, .agg #[.int .u64 x0, .int .u64 x1, .int .u64 x2, .int .u64 x3, .int .u64 x4], ptrErr b] w fun e w' => ∃ b', e = .returned (ptrErr b') ∧ EC w' c (env :: l) w'.heap.size (ptrErr b') ∧
      TrapAt w' b' c env (.int .u64 x0) (.int .u64 x1) (.int .u64 x2) (.int .u64 x3) (.int .u64 x4) (ptrErr b) ∧ Below w.heap.size w w' := by
  refine (in_chain hg h.chain hB env x0 x1 x2 x3 x4).mono ?_
  rintro e w' ⟨b', rfl, hb', ht, hbl⟩
  refine ⟨b', rfl, ⟨b', _, _, _, _, _, _, rfl, lt_of_block ht, ht, ?_⟩, ht, hbl⟩
  have h1 := h.later hbl hB
  obtain ⟨b1, e1, hlt1⟩ := h1.ptr
  cases l with
  | nil =>
    obtain ⟨o, e, hlt, hat⟩ := h1
    exact ⟨o, e, by omega, hat⟩
  | cons en r =>
    obtain ⟨b2, k0, k1, k2, k3, k4, v1, e, hlt, ht2, hr⟩ := h1
    exact ⟨b2, k0, k1, k2, k3, k4, v1, e, by omega, ht2, hr⟩

theorem take_rev (zs : List Int) (k : Nat) (h : k < zs.length) : (zs.take (k + 1)).reverse = zs.getD k 0 :: (zs.take k).reverse := by
  rw [List.take_succ_eq_append_getElem h, List.reverse_append]
  simp [List.getD_eq_getElem?_getD, List.getElem?_eq_getElem h]
end Go.Proofs.YtnmlmhhohemffaaDoor
