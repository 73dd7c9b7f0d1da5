/- What is proved here: plain mathematics of TlbSets: what the lines count, and that it is what the pairs count. Conditions: those that each theorem names. -/
import Derived.Test.YtfpnpgpelncgeabGreatDoorTlbS
import Derived.Test.YtfpnpgpelncgeabGreatDoorTlbG
namespace Go.Proofs.YtfpnpgpelncgeabGreatDoor
open Go.RowKit Go.Extern.Stop Go.Stop Go.Extern

/-- How many of the first k places are filled and of the set s. -/
def nC (g : Nat → Int) (s : Nat) : Nat → Nat
  | 0 => 0
  | k + 1 => if ¬ g (k * 5 + 4) = 0 ∧ k / 2 = s then nC g s k + 1 else nC g s k
theorem nC_le (g : Nat → Int) (s : Nat) : ∀ k, nC g s k ≤ k
  | 0 => Nat.le_refl _
  | k + 1 => by
    have := nC_le g s k
    unfold nC
    split <;> omega
theorem nC_yes {g : Nat → Int} {s k : Nat} (h : ¬ g (k * 5 + 4) = 0 ∧ k / 2 = s) : nC g s (k + 1) = nC g s k + 1 := if_pos h
theorem nC_no {g : Nat → Int} {s k : Nat} (h : ¬ (¬ g (k * 5 + 4) = 0 ∧ k / 2 = s)) : nC g s (k + 1) = nC g s k := if_neg h
/-- How many places of the set s are filled. -/
def fullC (g : Nat → Int) (s : Nat) : Nat := (if g (s * 2 * 5 + 4) = 0 then 0 else 1) + (if g ((s * 2 + 1) * 5 + 4) = 0 then 0 else 1)
theorem nC_full (g : Nat → Int) (s : Nat) (hs : s < 4) : nC g s 8 = fullC g s := by
  have hc : s = 0 ∨ s = 1 ∨ s = 2 ∨ s = 3 := by omega
  unfold fullC
  rcases hc with rfl | rfl | rfl | rfl <;> simp [nC] <;> split <;> split <;> rfl
theorem sets_done {E P : Nat → Nat} {N : Nat} {g : Nat → Int} (hv : VU g) (hk : Kept E P N g) (hE : ∀ i, E i < 4) (hP : ∀ i, P i < 8) (s : Nat) (hs : s < 4) : fullC g s = min (unlike E P s N) 2 := by
  have at_ : ∀ k, k < 8 → k / 2 = s → ¬ g (k * 5 + 4) = 0 → ∃ c, c < 32 ∧ seen E P s N c = true ∧ g (k * 5) = ((c / 8 : Nat) : Int) ∧ g (k * 5 + 1) = ((c % 8 : Nat) : Int) := fun k hk8 hks hf => by
    obtain ⟨j, hj, a, b⟩ := hk.1 k hk8 hf
    have hpg := (hv.1 k hk8 hf).2.2.2.2
    have h1 := hE j
    have h2 := hP j
    refine ⟨E j * 8 + P j, by omega, decide_eq_true ⟨j, hj, by omega, rfl⟩, by rw [a]; congr 1; omega, by rw [b]; congr 1; omega⟩
  have back : ∀ m, m < 8 → m / 2 = s → g (m * 5 + 4) = 0 → ∀ c, seen E P s N c = true → ∃ k, k < 8 ∧ k / 2 = s ∧ ¬ g (k * 5 + 4) = 0 ∧ g (k * 5) = ((c / 8 : Nat) : Int) ∧ g (k * 5 + 1) = ((c % 8 : Nat) : Int) := fun m hm hms hf c hc => by
    obtain ⟨j, hj, a, b⟩ := of_decide_eq_true hc
    obtain ⟨k, hk8, hh⟩ := hk.2 m hm hf j hj (by omega)
    obtain ⟨x0, x1, x2⟩ := of_decide_eq_true hh
    have hpg := (hv.1 k hk8 x0).2.2.2.2
    have h1 := hE j
    have h2 := hP j
    exact ⟨k, hk8, by omega, x0, by rw [x1]; congr 1; omega, by rw [x2]; congr 1; omega⟩
  unfold fullC
  by_cases f0 : g (s * 2 * 5 + 4) = 0
  · by_cases f1 : g ((s * 2 + 1) * 5 + 4) = 0
    · rw [if_pos f0, if_pos f1]
      have : unlike E P s N = 0 := cntF_none 32 fun c _ => by
        cases hc : seen E P s N c
        · rfl
        · obtain ⟨k, hk8, hks, hf, _⟩ := back (s * 2) (by omega) (by omega) f0 c hc
          have hk2 : k = s * 2 ∨ k = s * 2 + 1 := by omega
          rcases hk2 with e | e
          · rw [e] at hf; exact absurd f0 hf
          · rw [e] at hf; exact absurd f1 hf
      omega
    · rw [if_pos f0, if_neg f1]
      obtain ⟨c, hc, hsc, a, b⟩ := at_ (s * 2 + 1) (by omega) (by omega) f1
      have : unlike E P s N = 1 := cntF_one hsc (fun d hd => by
        obtain ⟨k, hk8, hks, hf, a', b'⟩ := back (s * 2) (by omega) (by omega) f0 d hd
        have hk2 : k = s * 2 ∨ k = s * 2 + 1 := by omega
        rcases hk2 with e | e
        · rw [e] at hf; exact absurd f0 hf
        · rw [e, a] at a'
          rw [e, b] at b'
          omega) 32 hc
      omega
  · by_cases f1 : g ((s * 2 + 1) * 5 + 4) = 0
    · rw [if_neg f0, if_pos f1]
      obtain ⟨c, hc, hsc, a, b⟩ := at_ (s * 2) (by omega) (by omega) f0
      have : unlike E P s N = 1 := cntF_one hsc (fun d hd => by
        obtain ⟨k, hk8, hks, hf, a', b'⟩ := back (s * 2 + 1) (by omega) (by omega) f1 d hd
        have hk2 : k = s * 2 ∨ k = s * 2 + 1 := by omega
        rcases hk2 with e | e
        · rw [e, a] at a'
          rw [e, b] at b'
          omega
        · rw [e] at hf; exact absurd f1 hf) 32 hc
      omega
    · rw [if_neg f0, if_neg f1]
      obtain ⟨c, hc, hsc, a, b⟩ := at_ (s * 2) (by omega) (by omega) f0
      obtain ⟨c', hc', hsc', a', b'⟩ := at_ (s * 2 + 1) (by omega) (by omega) f1
      have hne : ¬ c = c' := fun e => by
        subst e
        have := hv.2 (s * 2) (s * 2 + 1) (by omega) (by omega) f0 f1 (by omega) (by omega)
        omega
      have : 2 ≤ unlike E P s N := by
        rcases Nat.lt_or_gt_of_ne hne with h | h
        · exact cntF_two hsc hsc' h 32 hc'
        · exact cntF_two hsc' hsc h 32 hc
      omega

/-- What the fills keep of the buffer. -/
def SetsAt (E P : Nat → Nat) (i : Nat) (g : Nat → Int) : Prop := VU g ∧ Kept E P i g ∧ 0 ≤ g 40 ∧ g 40 ≤ i ∧ ∀ q, q < 8 → 0 ≤ g (q * 5 + 4)
theorem SetsAt.start (E P : Nat → Nat) : SetsAt E P 0 (fun _ => 0) := ⟨VU.start, Kept.start E P, by simp, by simp, fun _ _ => by simp⟩
def SetsP (T : Nat) (E P : Nat → Nat) (i : Nat) (w : World) (e : Ending) (w' : World) : Prop :=
  ∃ g' : Nat → Int, e = .returned (.bool true) ∧ NumsIs 41 w' T g' ∧ SetsAt E P i g' ∧ OnlyT T w w'
theorem pos_fill {g : Nat → Int} (h40 : 0 ≤ g 40) (h : ∀ q, q < 8 → 0 ≤ g (q * 5 + 4)) (k : Nat) (e p f r : Int) : ∀ q, q < 8 → 0 ≤ fillG g k e p f r (q * 5 + 4) := fun q hq => by
  by_cases hqk : q = k
  · subst hqk
    rw [(fillG_own g q e p f r).2.2.2.2]
    omega
  · rw [fillG_far g k e p f r q 4 hqk (by omega) hq]
    exact h q hq
theorem tfill_sets (T : Nat) (g : Nat → Int) (E P : Nat → Nat) (i : Nat) (w : World) (ht : NumsIs 41 w T g) (hS : SetsAt E P i g) (hi : i ≤ 900) (hE : E i < 4) (hP : P i < 8) :
    Calls Tryz.prog 25 #[.pointer (some ⟨T, 0, none⟩), .agg #[.int .i64 (E i : Int), .int .i64 (P i : Int), .int .i64 0, .int .i64 1]] w (SetsP T E P (i + 1) w) := by
  obtain ⟨hv, hk, h0, h1, hpl⟩ := hS
  have hl : lineB (E i : Int) (P i : Int) 0 1 = true := decide_eq_true ⟨by omega, by omega, by omega, by omega⟩
  rcases first_or (hitB g (E i : Int) (P i : Int)) 8 with ⟨k, hk8, hit, hno⟩ | hno
  · have hp := (hv.page hk8 hit).2.2
    refine (tfill_hit T g _ _ 0 1 w ht ⟨h0, by omega⟩ hl k hk8 hp hit hno).mono ?_
    rintro e' w' ⟨rfl, hg, ho⟩
    have hw := fillG_now g k (E i : Int) (P i : Int) 0 1 hk8
    exact ⟨_, rfl, hg, ⟨hv.fill hk8 hl hp (hv.one hk8 hit), hk.fill hv h0 hpl hk8 (by omega) (.inl hit) 0 1, by omega, by omega, pos_fill h0 hpl k _ _ _ _⟩, ho⟩
  · have ho := old_in g (P i % 4) (by omega)
    refine (tfill_new T g _ _ 0 1 w ht ⟨h0, by omega⟩ hl hno (P i % 4) (by omega) (by omega)).mono ?_
    rintro e' w' ⟨rfl, hg, hoo⟩
    have hw := fillG_now g (old g (P i % 4)) (E i : Int) (P i : Int) 0 1 ho.1
    exact ⟨_, rfl, hg, ⟨hv.fill ho.1 hl (by rw [ho.2]; omega) (fun j hj _ => hno j hj), hk.fill hv h0 hpl ho.1 (by rw [ho.2]) (.inr ⟨hno, by rw [ho.2]⟩) 0 1, by omega, by omega, pos_fill h0 hpl _ _ _ _ _⟩, hoo⟩
end Go.Proofs.YtfpnpgpelncgeabGreatDoor
