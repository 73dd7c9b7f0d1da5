/- What is proved here: plain mathematics of a buffer of eight places: of no environment's page there are two entries; what is left when one is flushed, and those of a frame. Conditions: those that each theorem names. -/
import Derived.Test.YtfpnpgpelncgeaaGreatDoorGParts
namespace Go.Proofs.YtfpnpgpelncgeaaGreatDoor

/-- Each entry is one that may be, in its own set; no two are of one environment's page. -/
def VU (g : Nat → Int) : Prop :=
  (∀ k, k < 8 → ¬ g (k * 5 + 4) = 0 → 0 ≤ g (k * 5) ∧ g (k * 5) < 4 ∧ 0 ≤ g (k * 5 + 1) ∧ g (k * 5 + 1) < 8 ∧ g (k * 5 + 1) % 4 = ((k / 2 : Nat) : Int)) ∧
  (∀ j k, j < 8 → k < 8 → ¬ g (j * 5 + 4) = 0 → ¬ g (k * 5 + 4) = 0 → g (j * 5) = g (k * 5) → g (j * 5 + 1) = g (k * 5 + 1) → j = k)
theorem VU.start : VU (fun _ => 0) := ⟨fun _ _ h => absurd rfl h, fun _ _ _ _ h => absurd rfl h⟩
theorem VU.page {g : Nat → Int} (h : VU g) {e p : Int} {k : Nat} (hk : k < 8) (hh : hitB g e p k = true) : 0 ≤ p ∧ p < 8 ∧ p % 4 = ((k / 2 : Nat) : Int) := by
  obtain ⟨h0, h1, h2⟩ := of_decide_eq_true hh
  have := h.1 k hk h0
  rw [h2] at this
  exact this.2.2
theorem VU.fill {g : Nat → Int} (h : VU g) {k : Nat} (hk : k < 8) {e p f r : Int} (hl : lineB e p f r = true) (hp : p % 4 = ((k / 2 : Nat) : Int)) (hno : ∀ j, j < 8 → ¬ j = k → hitB g e p j = false) : VU (fillG g k e p f r) := by
  obtain ⟨he, hpp, _, _⟩ := lineB_yes hl
  have key : ∀ m, m < 8 → ¬ m = k → fillG g k e p f r (m * 5) = g (m * 5) ∧ fillG g k e p f r (m * 5 + 1) = g (m * 5 + 1) ∧ fillG g k e p f r (m * 5 + 4) = g (m * 5 + 4) := fun m hm hmk =>
    ⟨fillG_far g k e p f r m 0 hmk (by omega) hm, fillG_far g k e p f r m 1 hmk (by omega) hm, fillG_far g k e p f r m 4 hmk (by omega) hm⟩
  obtain ⟨o0, o1, _, _, o4⟩ := fillG_own g k e p f r
  refine ⟨fun m hm => ?_, fun i j hi hj => ?_⟩
  · by_cases hmk : m = k
    · subst hmk
      rw [o0, o1]
      exact fun _ => ⟨he.1, he.2, hpp.1, hpp.2, hp⟩
    · obtain ⟨k0, k1, k4⟩ := key m hm hmk
      rw [k0, k1, k4]
      exact h.1 m hm
  · by_cases hik : i = k
    · subst hik
      by_cases hjk : j = i
      · exact fun _ _ _ _ => hjk.symm
      · obtain ⟨k0, k1, k4⟩ := key j hj hjk
        rw [o0, o1, o4, k0, k1, k4]
        intro _ a b c
        have := of_decide_eq_false (hno j hj hjk)
        exact absurd ⟨a, b.symm, c.symm⟩ this
    · by_cases hjk : j = k
      · subst hjk
        obtain ⟨k0, k1, k4⟩ := key i hi hik
        rw [o0, o1, o4, k0, k1, k4]
        intro a _ b c
        have := of_decide_eq_false (hno i hi hik)
        exact absurd ⟨a, b, c⟩ this
      · obtain ⟨k0, k1, k4⟩ := key i hi hik
        obtain ⟨m0, m1, m4⟩ := key j hj hjk
        rw [k0, k1, k4, m0, m1, m4]
        exact h.2 i j hi hj
theorem VU.one {g : Nat → Int} (h : VU g) {e p : Int} {k : Nat} (hk : k < 8) (hh : hitB g e p k = true) : ∀ j, j < 8 → ¬ j = k → hitB g e p j = false := fun j hj hjk => by
  obtain ⟨a0, a1, a2⟩ := of_decide_eq_true hh
  refine decide_eq_false fun ⟨b0, b1, b2⟩ => hjk (h.2 j k hj hk b0 a0 (by omega) (by omega))

/-- The entry of that environment's page is taken. -/
def TakenG (g G : Nat → Int) (e p : Int) : Prop := ∀ m, m < 8 → ∀ i, i < 5 → G (m * 5 + i) = if hitB g e p m = true then 0 else g (m * 5 + i)
theorem taken_no {g : Nat → Int} {e p : Int} (hn : ∀ k, k < 8 → hitB g e p k = false) : TakenG g g e p := fun m hm i _ => by
  rw [if_neg (by rw [hn m hm]; decide)]
theorem taken_hit {g : Nat → Int} (h : VU g) {e p : Int} {k : Nat} (hk : k < 8) (hh : hitB g e p k = true) : TakenG g (clearG g k) e p := fun m hm i hi => by
  by_cases hmk : m = k
  · subst hmk
    rw [if_pos hh]
    obtain ⟨o0, o1, o2, o3, o4⟩ := clearG_own g m
    have hc : i = 0 ∨ i = 1 ∨ i = 2 ∨ i = 3 ∨ i = 4 := by omega
    rcases hc with rfl | rfl | rfl | rfl | rfl
    · exact o0
    · exact o1
    · exact o2
    · exact o3
    · exact o4
  · rw [if_neg (by rw [h.one hk hh m hm hmk]; decide)]
    exact clearG_far g k m i hmk hi
theorem ffG_all (g : Nat → Int) (f : Int) (m i : Nat) (hi : i < 5) : ∀ k, ffG g f k (m * 5 + i) = if m < k ∧ ¬ g (m * 5 + 4) = 0 ∧ g (m * 5 + 2) = f then 0 else g (m * 5 + i)
  | 0 => by rw [if_neg (by omega)]; rfl
  | k + 1 => by
    have hi' := ffG_all g f m i hi k
    have h2 := ffG_all g f k 2 (by omega) k
    have h4 := ffG_all g f k 4 (by omega) k
    rw [if_neg (by omega)] at h2 h4
    unfold ffG
    rw [h2, h4]
    by_cases hc : ¬ g (k * 5 + 4) = 0 ∧ g (k * 5 + 2) = f
    · rw [if_pos hc]
      by_cases hmk : m = k
      · subst hmk
        rw [if_pos ⟨by omega, hc⟩]
        obtain ⟨o0, o1, o2, o3, o4⟩ := clearG_own (ffG g f m) m
        have hcc : i = 0 ∨ i = 1 ∨ i = 2 ∨ i = 3 ∨ i = 4 := by omega
        rcases hcc with rfl | rfl | rfl | rfl | rfl
        · exact o0
        · exact o1
        · exact o2
        · exact o3
        · exact o4
      · rw [clearG_far _ k m i hmk hi, hi']
        by_cases hl : m < k
        · have hl2 : m < k + 1 := by omega
          simp only [hl, hl2, true_and]
        · have hl2 : ¬ m < k + 1 := by omega
          simp only [hl, hl2, false_and]
    · rw [if_neg hc, hi']
      by_cases hmk : m = k
      · subst hmk
        rw [if_neg (by omega), if_neg (fun h => hc h.2)]
      · by_cases hl : m < k
        · have hl2 : m < k + 1 := by omega
          simp only [hl, hl2, true_and]
        · have hl2 : ¬ m < k + 1 := by omega
          simp only [hl, hl2, false_and]
/-- Whether the place k stays. -/
def stayB (g : Nat → Int) (e p f : Int) (k : Nat) : Bool := decide (¬ g (k * 5 + 4) = 0 ∧ hitB g e p k = false ∧ ¬ g (k * 5 + 2) = f)
theorem stays {g G : Nat → Int} {e p f : Int} (h : TakenG g G e p) {m i : Nat} (hm : m < 8) (hi : i < 5) (hf : ¬ g (m * 5 + 4) = 0) : ffG G f 8 (m * 5 + i) = if stayB g e p f m = true then g (m * 5 + i) else 0 := by
  rw [ffG_all G f m i hi 8, h m hm i hi, h m hm 4 (by omega), h m hm 2 (by omega)]
  unfold stayB
  cases hh : hitB g e p m
  · by_cases h2 : g (m * 5 + 2) = f
    · rw [if_pos (by simp [hm, hf, h2]), if_neg (by simp [h2])]
    · rw [if_neg (by simp [h2]), if_neg (by decide), if_pos (by simp [hf, h2])]
  · rw [if_neg (by simp), if_pos rfl, if_neg (by simp)]
theorem gone {g G : Nat → Int} {e p f : Int} (h : TakenG g G e p) {m : Nat} (hm : m < 8) (hf : g (m * 5 + 4) = 0) : ffG G f 8 (m * 5 + 4) = 0 := by
  rw [ffG_all G f m 4 (by omega) 8, h m hm 4 (by omega), hf]
  simp
/-- What is left: an entry that stays is found, where it was; no other one. -/
theorem left_hit {g G : Nat → Int} {e p f : Int} (hv : VU g) (h : TakenG g G e p) {k : Nat} (hk : k < 8) (hf : ¬ g (k * 5 + 4) = 0) (hs : stayB g e p f k = true) :
    hitB (ffG G f 8) (g (k * 5)) (g (k * 5 + 1)) k = true ∧ (∀ j, j < k → hitB (ffG G f 8) (g (k * 5)) (g (k * 5 + 1)) j = false) := by
  have s0 := stays (f := f) h hk (i := 0) (by omega) hf
  have s1 := stays (f := f) h hk (i := 1) (by omega) hf
  have s4 := stays (f := f) h hk (i := 4) (by omega) hf
  rw [if_pos hs] at s0 s1 s4
  refine ⟨decide_eq_true ⟨by rw [s4]; exact hf, s0, s1⟩, fun j hj => decide_eq_false fun ⟨b0, b1, b2⟩ => ?_⟩
  by_cases hjf : g (j * 5 + 4) = 0
  · exact b0 (gone h (by omega) hjf)
  · have t0 := stays (f := f) h (m := j) (by omega) (i := 0) (by omega) hjf
    have t1 := stays (f := f) h (m := j) (by omega) (i := 1) (by omega) hjf
    have t4 := stays (f := f) h (m := j) (by omega) (i := 4) (by omega) hjf
    cases hsj : stayB g e p f j
    · rw [hsj, if_neg (by decide)] at t4
      exact b0 t4
    · rw [hsj, if_pos rfl] at t0 t1
      have := hv.2 j k (by omega) hk hjf hf (by rw [← b1]; exact t0.symm) (by rw [← b2]; exact t1.symm)
      omega
theorem left_no {g G : Nat → Int} {e p f : Int} (hv : VU g) (h : TakenG g G e p) {k : Nat} (hk : k < 8) (hf : ¬ g (k * 5 + 4) = 0) (hs : stayB g e p f k = false) :
    ∀ j, j < 8 → hitB (ffG G f 8) (g (k * 5)) (g (k * 5 + 1)) j = false := fun j hj => decide_eq_false fun ⟨b0, b1, b2⟩ => by
  by_cases hjf : g (j * 5 + 4) = 0
  · exact b0 (gone h hj hjf)
  · have t0 := stays (f := f) h hj (i := 0) (by omega) hjf
    have t1 := stays (f := f) h hj (i := 1) (by omega) hjf
    have t4 := stays (f := f) h hj (i := 4) (by omega) hjf
    cases hsj : stayB g e p f j
    · rw [hsj, if_neg (by decide)] at t4
      exact b0 t4
    · rw [hsj, if_pos rfl] at t0 t1
      have := hv.2 j k hj hk hjf hf (by rw [← b1]; exact t0.symm) (by rw [← b2]; exact t1.symm)
      rw [this, hs] at hsj
      cases hsj
theorem left_none {g G : Nat → Int} {e p f : Int} (hv : VU g) (h : TakenG g G e p) : ∀ j, j < 8 → hitB (ffG G f 8) (-1) 0 j = false := fun j hj => decide_eq_false fun ⟨b0, b1, _⟩ => by
  by_cases hjf : g (j * 5 + 4) = 0
  · exact b0 (gone h hj hjf)
  · have t0 := stays (f := f) h hj (i := 0) (by omega) hjf
    have t4 := stays (f := f) h hj (i := 4) (by omega) hjf
    cases hsj : stayB g e p f j
    · rw [hsj, if_neg (by decide)] at t4
      exact b0 t4
    · rw [hsj, if_pos rfl, Nat.add_zero] at t0
      have := (hv.1 j hj hjf).1
      omega
/-- Behind k lines: whether one was flushed, how many were of the frame. -/
def hitN (g : Nat → Int) (e p : Int) : Nat → Bool
  | 0 => false
  | k + 1 => hitN g e p k || hitB g e p k
def cntN (g : Nat → Int) (e p f : Int) : Nat → Nat
  | 0 => 0
  | k + 1 => if ¬ g (k * 5 + 4) = 0 ∧ hitB g e p k = false ∧ g (k * 5 + 2) = f then cntN g e p f k + 1 else cntN g e p f k
theorem cntN_le (g : Nat → Int) (e p f : Int) : ∀ k, cntN g e p f k ≤ k
  | 0 => Nat.le_refl _
  | k + 1 => by
    have := cntN_le g e p f k
    unfold cntN
    split <;> omega
theorem hitN_no {g : Nat → Int} {e p : Int} : ∀ k, (∀ j, j < k → hitB g e p j = false) → hitN g e p k = false
  | 0, _ => rfl
  | k + 1, h => by
    unfold hitN
    rw [hitN_no k (fun j hj => h j (by omega)), h k (by omega)]
    rfl
theorem hitN_yes {g : Nat → Int} {e p : Int} {n : Nat} (hn : hitB g e p n = true) : ∀ k, n < k → hitN g e p k = true
  | k + 1, h => by
    unfold hitN
    by_cases hk : n = k
    · rw [← hk, hn, Bool.or_true]
    · rw [hitN_yes hn k (by omega)]
      rfl
theorem cntN_ff {g G : Nat → Int} {e p f : Int} (h : TakenG g G e p) : ∀ k, k ≤ 8 → ffN G f k = cntN g e p f k
  | 0, _ => rfl
  | k + 1, hk => by
    have h2 := ffG_all G f k 2 (by omega) k
    have h4 := ffG_all G f k 4 (by omega) k
    rw [if_neg (by omega)] at h2 h4
    unfold ffN cntN
    rw [h2, h4, cntN_ff h k (by omega), h k (by omega) 2 (by omega), h k (by omega) 4 (by omega)]
    cases hh : hitB g e p k
    · simp
    · simp
end Go.Proofs.YtfpnpgpelncgeaaGreatDoor
