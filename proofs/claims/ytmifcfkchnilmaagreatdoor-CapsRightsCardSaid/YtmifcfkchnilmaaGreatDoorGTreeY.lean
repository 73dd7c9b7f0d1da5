/- What is proved here: what the statements ask of packages plain and caps (more). Conditions: those that each theorem names. -/
import Derived.Test.YtmifcfkchnilmaaGreatDoorGTree
namespace Go.Proofs.YtmifcfkchnilmaaGreatDoor
open Go.RowKit Go.Extern.Stop Go.Stop Go.Extern Go.WalkArith
section
variable {At : World → (Nat → Prop) → Nat → KernS → Prop}
variable {H : TreeC At} {w W W' : World} {P : Nat} {k k' : KernS} {L : List Thing}
theorem tree_new {n : Int} {l : List Thing} (H : TreeC At) (h : Side w W l) (hn : 1 ≤ n ∧ n ≤ 4) :
    Calls Tryz.prog 17 #[.int .i64 n] W fun x W' => ∃ P S, x = .returned (.pointer (some ⟨P, 0, none⟩)) ∧ Side w W' (treeT H S P (newK 1 n 16) :: l) := by
  refine (H.new_ n W hn).mono ?_
  rintro x W' ⟨P, S, rfl, h1, hl, hb⟩
  exact ⟨P, S, rfl, h.make hb (treeT H S P (newK 1 n 16)) h1 hl⟩
theorem trun_new {n : Int} (H : TreeC At) (hb : Below w.heap.size w W) (hn : 1 ≤ n ∧ n ≤ 4) :
    Calls Tryz.prog 17 #[.int .i64 n] W fun x W' => ∃ P, x = .returned (.pointer (some ⟨P, 0, none⟩)) ∧ TRun H w P (newK 1 n 16) [] W' := by
  refine (tree_new H (show Side w W [] from hb) hn).mono ?_
  rintro x W' ⟨P, S, rfl, h⟩
  exact ⟨P, rfl, S, h⟩
theorem trun_root {e s f er : Int} (h : TRun H w P k L W) (h0 : rootE k e s f = er) (h1 : rootS k e s f = k') :
    Calls Tryz.prog 19 #[.pointer (some ⟨P, 0, none⟩), .int .i64 e, .int .i64 s, .int .i64 f] W fun x W' => x = .returned (.int .i64 er) ∧ TRun H w P k' L W' := by
  subst h0 h1
  obtain ⟨S, h⟩ := h
  refine (H.root_ P S k e s f W (Side.at L h)).mono ?_
  rintro x W' ⟨S', rfl, h4, h5, h6⟩
  exact ⟨rfl, TRun.step h h4 h5 h6⟩
theorem trun_derive {e s t d r er : Int} (h : TRun H w P k L W) (h0 : tderE k e s t d r = er) (h1 : tderS k e s t d r = k') :
    Calls Tryz.prog 21 #[.pointer (some ⟨P, 0, none⟩), .int .i64 e, .int .i64 s, .int .i64 t, .int .i64 d, .int .i64 r] W fun x W' => x = .returned (.int .i64 er) ∧ TRun H w P k' L W' := by
  subst h0 h1
  obtain ⟨S, h⟩ := h
  refine (H.derive_ P S k e s t d r W (Side.at L h)).mono ?_
  rintro x W' ⟨S', rfl, h4, h5, h6⟩
  exact ⟨rfl, TRun.step h h4 h5 h6⟩
theorem trun_cap {e s : Nat} (h : TRun H w P k L W) (he : (e : Int) < k.envs) (hs : s < 8) (hi : (k.sl e s).is = true) :
    Calls Tryz.prog 65 #[.pointer (some ⟨P, 0, none⟩), .int .i64 (e : Int), .int .i64 (s : Int)] W fun x W' => (∃ a b : Int, x = .returned (.tuple #[.agg #[.int .i64 (k.sl e s).frame, .int .i64 (k.sl e s).rights, .int .i64 a, .int .i64 b], .bool true])) ∧ TRun H w P k L W' := by
  obtain ⟨S, h1⟩ := h.at
  refine (H.at_ P S k e s W h1 he hs).mono ?_
  rintro x W' ⟨v, rfl, h4 | h4, hb⟩
  · obtain ⟨a, b, rfl, _⟩ := h4.2
    exact ⟨⟨a, b, rfl⟩, h.under hb⟩
  · rw [h4.1] at hi
    exact absurd hi (by decide)
theorem trun_has {e s : Nat} {b : Bool} (h : TRun H w P k L W) (he : (e : Int) < k.envs) (hs : s < 8) (hi : (k.sl e s).is = b) :
    Calls Tryz.prog 65 #[.pointer (some ⟨P, 0, none⟩), .int .i64 (e : Int), .int .i64 (s : Int)] W fun x W' => (∃ c1 c2 c3 c4 : Int, x = .returned (.tuple #[.agg #[.int .i64 c1, .int .i64 c2, .int .i64 c3, .int .i64 c4], .bool b])) ∧ TRun H w P k L W' := by
  obtain ⟨S, h1⟩ := h.at
  refine (H.at_ P S k e s W h1 he hs).mono ?_
  rintro x W' ⟨v, rfl, h4 | h4, hb⟩
  · obtain ⟨a, b', rfl, _⟩ := h4.2
    rw [h4.1] at hi
    subst hi
    exact ⟨⟨_, _, a, b', rfl⟩, h.under hb⟩
  · obtain rfl := h4.2
    rw [h4.1] at hi
    subst hi
    exact ⟨⟨_, _, _, _, rfl⟩, h.under hb⟩
theorem trun_below {e s : Int} {n : Nat} (h : TRun H w P k L W) (hn : (tbelowL k e s).length = n) :
    Calls Tryz.prog 27 #[.pointer (some ⟨P, 0, none⟩), .int .i64 e, .int .i64 s] W fun x W' => (∃ ao cap, x = .returned (.slice ao n cap)) ∧ TRun H w P k L W' := by
  subst hn
  obtain ⟨S, h1⟩ := h.at
  refine (H.below_ P S k e s W h1).mono ?_
  rintro x W' ⟨v, rfl, ⟨ao, cap, g, rfl, _⟩, hb⟩
  exact ⟨⟨ao, cap, rfl⟩, h.under hb⟩
theorem trun_of {f : Nat} {n : Nat} (h : TRun H w P k L W) (hf : f < 16) (hn : refsN k f 32 = n) :
    Calls Tryz.prog 64 #[.pointer (some ⟨P, 0, none⟩), .int .i64 (f : Int)] W fun x W' => (∃ ao cap, x = .returned (.slice ao n cap)) ∧ TRun H w P k L W' := by
  subst hn
  obtain ⟨S, h1⟩ := h.at
  refine (H.of_ P S k f W h1 hf).mono ?_
  rintro x W' ⟨⟨ao, cap, rfl⟩, hb⟩
  exact ⟨⟨ao, cap, rfl⟩, h.under hb⟩
theorem trun_revoke {e s er : Int} {n : Nat} (h : TRun H w P k L W) (h0 : tgoneE k e s = er) (hn : (tgoneL k e s false).length = n) :
    Calls Tryz.prog 22 #[.pointer (some ⟨P, 0, none⟩), .int .i64 e, .int .i64 s] W fun x W' => (∃ ao cap, x = .returned (.tuple #[.slice ao n cap, .int .i64 er])) ∧ TRun H w P (tgoneS k e s false) L W' := by
  subst h0 hn
  obtain ⟨S, h⟩ := h
  refine (H.revoke_ P S k e s W (Side.at L h)).mono ?_
  rintro x W' ⟨S', v, rfl, ⟨ao, cap, g, rfl, _⟩, _, h4, h5, h6⟩
  exact ⟨⟨ao, cap, rfl⟩, TRun.step h h4 h5 h6⟩
theorem trun_drop {e s er : Int} {n : Nat} (h : TRun H w P k L W) (h0 : tgoneE k e s = er) (hn : (tgoneL k e s true).length = n) :
    Calls Tryz.prog 23 #[.pointer (some ⟨P, 0, none⟩), .int .i64 e, .int .i64 s] W fun x W' => (∃ ao cap, x = .returned (.tuple #[.slice ao n cap, .int .i64 er])) ∧ TRun H w P (tgoneS k e s true) L W' := by
  subst h0 hn
  obtain ⟨S, h⟩ := h
  refine (H.drop_ P S k e s W (Side.at L h)).mono ?_
  rintro x W' ⟨S', v, rfl, ⟨ao, cap, g, rfl, _⟩, _, h4, h5, h6⟩
  exact ⟨⟨ao, cap, rfl⟩, TRun.step h h4 h5 h6⟩
end
def chK : Nat → KernS
  | 0 => rootS (newK 1 2 16) 0 0 3
  | i + 1 => tderS (chK i) ((i % 2 : Nat) : Int) (i : Nat) (((i + 1) % 2 : Nat) : Int) ((i + 1 : Nat) : Int) 3
theorem ch_up : ∀ i : Nat, i < 7 → tderE (chK i) ((i % 2 : Nat) : Int) (i : Nat) (((i + 1) % 2 : Nat) : Int) ((i + 1 : Nat) : Int) 3 = 0 := by decide +kernel
theorem ch_all : ∀ i : Nat, i < 7 → (tbelowL (chK i) 0 0).length = i ∧ refsN (chK i) 3 32 = i + 1 := by decide +kernel
theorem ch_rev : ∀ i : Nat, i < 7 → ∀ a : Nat, a < i + 1 → tgoneE (chK i) ((a % 2 : Nat) : Int) (a : Nat) = 0 ∧ (tgoneL (chK i) ((a % 2 : Nat) : Int) (a : Nat) false).length = i - a ∧ (tgoneL (chK i) ((a % 2 : Nat) : Int) (a : Nat) true).length = i - a + 1 := by decide +kernel
theorem ch_after : ∀ i : Nat, i < 7 → ∀ a : Nat, a < i + 1 → refsN (tgoneS (chK i) ((a % 2 : Nat) : Int) (a : Nat) false) 3 32 = a + 1 ∧ refsN (tgoneS (chK i) ((a % 2 : Nat) : Int) (a : Nat) true) 3 32 = a := by decide +kernel
theorem ch_has : ∀ i : Nat, i < 7 → ∀ a : Nat, a < i + 1 → ∀ j : Nat, j < i + 1 → ((tgoneS (chK i) ((a % 2 : Nat) : Int) (a : Nat) false).sl (j % 2) j).is = decide (j < a + 1) ∧ ((tgoneS (chK i) ((a % 2 : Nat) : Int) (a : Nat) true).sl (j % 2) j).is = decide (j < a) := by decide +kernel
theorem ch_envs : ∀ i : Nat, i < 7 → ∀ a : Nat, a < i + 1 → (tgoneS (chK i) ((a % 2 : Nat) : Int) (a : Nat) false).envs = 2 ∧ (tgoneS (chK i) ((a % 2 : Nat) : Int) (a : Nat) true).envs = 2 := by decide +kernel
end Go.Proofs.YtmifcfkchnilmaaGreatDoor
