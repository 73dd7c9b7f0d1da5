/- What is proved here: plain mathematics of TlbSets: of each set as many places are filled as unlike entries were put in, two at the most. Conditions: those that each theorem names. -/
import Derived.Test.YtfpnpgpelncgeabGreatDoorTlbF
namespace Go.Proofs.YtfpnpgpelncgeabGreatDoor

/-- How many of the first n numbers f holds of. -/
def cntF (f : Nat → Bool) : Nat → Nat
  | 0 => 0
  | n + 1 => cntF f n + if f n = true then 1 else 0
theorem cntF_le (f : Nat → Bool) : ∀ n, cntF f n ≤ n
  | 0 => Nat.le_refl _
  | n + 1 => by
    have := cntF_le f n
    unfold cntF
    split <;> omega
theorem cntF_none {f : Nat → Bool} : ∀ n, (∀ c, c < n → f c = false) → cntF f n = 0
  | 0, _ => rfl
  | n + 1, h => by
    unfold cntF
    rw [cntF_none n (fun c hc => h c (by omega)), h n (by omega)]
    rfl
theorem cntF_pos {f : Nat → Bool} {c : Nat} (hf : f c = true) : ∀ n, c < n → 1 ≤ cntF f n
  | n + 1, h => by
    unfold cntF
    by_cases hc : c = n
    · rw [← hc, hf]; simp
    · have := cntF_pos hf n (by omega)
      omega
theorem cntF_two {f : Nat → Bool} {c c' : Nat} (hf : f c = true) (hf' : f c' = true) (hlt : c < c') : ∀ n, c' < n → 2 ≤ cntF f n
  | n + 1, h => by
    unfold cntF
    by_cases hc : c' = n
    · have := cntF_pos hf n (by omega)
      rw [← hc, hf'] at *
      simp
      omega
    · have := cntF_two hf hf' hlt n (by omega)
      omega
theorem cntF_one {f : Nat → Bool} {c : Nat} (hf : f c = true) (ho : ∀ d, f d = true → d = c) : ∀ n, c < n → cntF f n = 1
  | n + 1, h => by
    unfold cntF
    by_cases hc : c = n
    · rw [cntF_none n (fun d hd => ?_), ← hc, hf]
      · rfl
      · cases hfd : f d
        · rfl
        · have := ho d hfd
          omega
    · rw [cntF_one hf ho n (by omega)]
      cases hfn : f n
      · rfl
      · exact absurd (ho n hfn) (by omega)
theorem cntF_same {f f' : Nat → Bool} : ∀ n, (∀ c, c < n → f' c = f c) → cntF f' n = cntF f n
  | 0, _ => rfl
  | n + 1, h => by
    unfold cntF
    rw [cntF_same n (fun c hc => h c (by omega)), h n (by omega)]
theorem cntF_step {f f' : Nat → Bool} {c : Nat} (h0 : f c = false) (h1 : f' c = true) (ho : ∀ d, ¬ d = c → f' d = f d) : ∀ n, c < n → cntF f' n = cntF f n + 1
  | n + 1, h => by
    unfold cntF
    by_cases hc : c = n
    · rw [cntF_same n (fun d hd => ho d (by omega)), ← hc, h0, h1]
      simp
    · rw [cntF_step h0 h1 ho n (by omega), ho n (by omega)]
      omega

/-- Whether the pair c (environment * 8 + page) of the set s is among the first i. -/
def seen (E P : Nat → Nat) (s i c : Nat) : Bool := decide (∃ j, j < i ∧ P j % 4 = s ∧ E j * 8 + P j = c)
theorem seen_zero (E P : Nat → Nat) (s c : Nat) : seen E P s 0 c = false := decide_eq_false fun ⟨_, h, _⟩ => absurd h (Nat.not_lt_zero _)
theorem seen_other (E P : Nat → Nat) (s i c : Nat) (h : ¬ (P i % 4 = s ∧ E i * 8 + P i = c)) : seen E P s (i + 1) c = seen E P s i c := by
  unfold seen
  rw [decide_eq_decide]
  constructor
  · rintro ⟨j, hj, a, b⟩
    by_cases hji : j = i
    · subst hji; exact absurd ⟨a, b⟩ h
    · exact ⟨j, by omega, a, b⟩
  · rintro ⟨j, hj, a, b⟩
    exact ⟨j, by omega, a, b⟩
theorem seen_own (E P : Nat → Nat) (s i : Nat) (h : P i % 4 = s) : seen E P s (i + 1) (E i * 8 + P i) = true := decide_eq_true ⟨i, by omega, h, rfl⟩
/-- How many unlike pairs of the set s are among the first i. -/
def unlike (E P : Nat → Nat) (s i : Nat) : Nat := cntF (seen E P s i) 32
theorem unlike_zero (E P : Nat → Nat) (s : Nat) : unlike E P s 0 = 0 := cntF_none 32 fun c _ => seen_zero E P s c
theorem unlike_not (E P : Nat → Nat) (s i : Nat) (h : ¬ P i % 4 = s) : unlike E P s (i + 1) = unlike E P s i := cntF_same 32 fun c _ => seen_other E P s i c fun hh => h hh.1
theorem unlike_put (E P : Nat → Nat) (s i : Nat) (h : P i % 4 = s) (hE : E i < 4) (hP : P i < 8) : unlike E P s (i + 1) = if seen E P s i (E i * 8 + P i) = true then unlike E P s i else unlike E P s i + 1 := by
  cases hs : seen E P s i (E i * 8 + P i)
  · rw [if_neg (by decide)]
    exact cntF_step hs (seen_own E P s i h) (fun d hd => seen_other E P s i d fun hh => hd hh.2.symm) 32 (by omega)
  · rw [if_pos rfl]
    refine cntF_same 32 fun c _ => ?_
    by_cases hc : E i * 8 + P i = c
    · subst hc
      rw [hs]
      exact seen_own E P s i h
    · exact seen_other E P s i c fun hh => hc hh.2
theorem unlike_le (E P : Nat → Nat) (s i : Nat) : unlike E P s i ≤ 32 := cntF_le _ 32

/-- What the fills keep: each entry is one that was put in; where a set has an empty place each one that was put in is there. -/
def Kept (E P : Nat → Nat) (i : Nat) (g : Nat → Int) : Prop :=
  (∀ k, k < 8 → ¬ g (k * 5 + 4) = 0 → ∃ j, j < i ∧ g (k * 5) = (E j : Int) ∧ g (k * 5 + 1) = (P j : Int)) ∧
  (∀ m, m < 8 → g (m * 5 + 4) = 0 → ∀ j, j < i → P j % 4 = m / 2 → ∃ k, k < 8 ∧ hitB g (E j : Int) (P j : Int) k = true)
theorem Kept.start (E P : Nat → Nat) : Kept E P 0 (fun _ => 0) := ⟨fun _ _ h => absurd rfl h, fun _ _ _ j hj => absurd hj (Nat.not_lt_zero j)⟩
theorem Kept.fill {E P : Nat → Nat} {i : Nat} {g : Nat → Int} (h : Kept E P i g) (hv : VU g) (h40 : 0 ≤ g 40) (hpl : ∀ q, q < 8 → 0 ≤ g (q * 5 + 4)) {k : Nat} (hk : k < 8) (hp : P i % 4 = k / 2)
    (hor : hitB g (E i : Int) (P i : Int) k = true ∨ ((∀ j, j < 8 → hitB g (E i : Int) (P i : Int) j = false) ∧ k = old g (k / 2))) (f r : Int) : Kept E P (i + 1) (fillG g k (E i : Int) (P i : Int) f r) := by
  have key : ∀ m, m < 8 → ¬ m = k → fillG g k (E i : Int) (P i : Int) f r (m * 5) = g (m * 5) ∧ fillG g k (E i : Int) (P i : Int) f r (m * 5 + 1) = g (m * 5 + 1) ∧ fillG g k (E i : Int) (P i : Int) f r (m * 5 + 4) = g (m * 5 + 4) := fun m hm hmk =>
    ⟨fillG_far g k _ _ f r m 0 hmk (by omega) hm, fillG_far g k _ _ f r m 1 hmk (by omega) hm, fillG_far g k _ _ f r m 4 hmk (by omega) hm⟩
  obtain ⟨o0, o1, _, _, o4⟩ := fillG_own g k (E i : Int) (P i : Int) f r
  have hown : hitB (fillG g k (E i : Int) (P i : Int) f r) (E i : Int) (P i : Int) k = true := decide_eq_true ⟨by rw [o4]; omega, o0, o1⟩
  refine ⟨fun m hm hf => ?_, fun m hm hf j hj hjp => ?_⟩
  · by_cases hmk : m = k
    · subst hmk
      exact ⟨i, by omega, o0, o1⟩
    · obtain ⟨k0, k1, k4⟩ := key m hm hmk
      rw [k4] at hf
      obtain ⟨j, hj, a, b⟩ := h.1 m hm hf
      exact ⟨j, by omega, by rw [k0]; exact a, by rw [k1]; exact b⟩
  · by_cases hmk : m = k
    · subst hmk
      rw [o4] at hf
      omega
    · obtain ⟨_, _, k4⟩ := key m hm hmk
      rw [k4] at hf
      by_cases hji : j = i
      · subst hji
        exact ⟨k, hk, hown⟩
      · obtain ⟨n, hn, hhit⟩ := h.2 m hm hf j (by omega) hjp
        by_cases hnk : n = k
        · subst hnk
          rcases hor with hit | ⟨hno, hold⟩
          · obtain ⟨_, a0, a1⟩ := of_decide_eq_true hit
            obtain ⟨_, b0, b1⟩ := of_decide_eq_true hhit
            exact ⟨n, hn, decide_eq_true ⟨by rw [o4]; omega, by rw [o0, ← a0, b0], by rw [o1, ← a1, b1]⟩⟩
          · exfalso
            obtain ⟨c0, _, c2⟩ := of_decide_eq_true hhit
            have hpg := (hv.1 n hn c0).2.2.2.2
            rw [c2] at hpg
            have hnm : n / 2 = m / 2 := by omega
            unfold old at hold
            rw [hnm] at hold
            have hm2 : m = m / 2 * 2 ∨ m = m / 2 * 2 + 1 := by omega
            split at hold
            · rename_i hlt
              rcases hm2 with e | e
              · have e4 : g (m / 2 * 2 * 5 + 4) = 0 := by rw [← e]; exact hf
                rw [e4] at hlt
                have c9 : g (n * 5 + 4) < 0 := by rw [hold]; exact hlt
                exact absurd c9 (Int.not_lt.2 (hpl n hn))
              · omega
            · rename_i hlt
              rcases hm2 with e | e
              · omega
              · have e4 : g ((m / 2 * 2 + 1) * 5 + 4) = 0 := by rw [← e]; exact hf
                rw [e4] at hlt
                have c9 : ¬ 0 < g (n * 5 + 4) := by rw [hold]; exact hlt
                exact c9 (by have := hpl n hn; omega)
        · obtain ⟨c0, c1, c2⟩ := of_decide_eq_true hhit
          obtain ⟨k0, k1, k4'⟩ := key n hn hnk
          exact ⟨n, hn, decide_eq_true ⟨by rw [k4']; exact c0, by rw [k0]; exact c1, by rw [k1]; exact c2⟩⟩
end Go.Proofs.YtfpnpgpelncgeabGreatDoor
