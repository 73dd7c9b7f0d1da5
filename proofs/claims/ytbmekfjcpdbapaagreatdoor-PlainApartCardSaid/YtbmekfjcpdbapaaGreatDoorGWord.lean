/- What is proved here: the words of calls by the document's package, and a buffer that fills and flushes. Conditions: those that each theorem names. -/
import Derived.Test.YtbmekfjcpdbapaaGreatDoorGParts
import Derived.Test.YtbmekfjcpdbapaaGreatDoorTlb4
namespace Go.Proofs.YtbmekfjcpdbapaaGreatDoor
open Go.RowKit Go.Extern.Stop Go.Stop Go.Extern
def operB (x : Int) : Bool := decide (1 ≤ x ∧ x ≤ 4)
theorem Check_any (x0 x1 x2 x3 x4 envs : Int) (hx : wordsIn x0 x1 x2 x3 x4) (he : intIn envs) (w : World) :
    Calls Tryz.prog 63 #[callV x0 x1 x2 x3 x4, .int .i64 envs] w fun e w' => e = .returned (.int .i64 (chkN x0 x1 x2 x3 x4 envs)) ∧ Below w.heap.size w w' := by
  rcases Bool.eq_false_or_eq_true (isKind x0) with h | h
  · rw [show chkN x0 x1 x2 x3 x4 envs = res4 (mayW (mean x0 0) x1 envs) (mayW (mean x0 1) x2 envs) (mayW (mean x0 2) x3 envs) (mayW (mean x0 3) x4 envs) by simp [chkN, h]]
    refine check_of x0 x1 x2 x3 x4 envs _ _ _ _ _ _ _ _ h (fun W => ?_) (fun W => means_any _ x1 envs (mean_07 x0 0).1 (mean_07 x0 0).2 hx.2.1.1 hx.2.1.2 he.1 he.2 W) (fun W => means_any _ x2 envs (mean_07 x0 1).1 (mean_07 x0 1).2 hx.2.2.1.1 hx.2.2.1.2 he.1 he.2 W)
      (fun W => means_any _ x3 envs (mean_07 x0 2).1 (mean_07 x0 2).2 hx.2.2.2.1.1 hx.2.2.2.1.2 he.1 he.2 W) (fun W => means_any _ x4 envs (mean_07 x0 3).1 (mean_07 x0 3).2 hx.2.2.2.2.1 hx.2.2.2.2.2 he.1 he.2 W) w
    have H := shape_any x0 W
    rw [h] at H
    exact H
  · rw [show chkN x0 x1 x2 x3 x4 envs = 1 by simp [chkN, h]]
    exact Check_no x0 x1 x2 x3 x4 envs h hx w
end Go.Proofs.YtbmekfjcpdbapaaGreatDoor
namespace Go.Proofs.YtbmekfjcpdbapaaGreatDoor
def VU (g : Nat → Int) : Prop :=
  (∀ k, k < 8 → ¬ g (k * 5 + 4) = 0 → 0 ≤ g (k * 5) ∧ g (k * 5) < 4 ∧ 0 ≤ g (k * 5 + 1) ∧ g (k * 5 + 1) < 8 ∧ g (k * 5 + 1) % 4 = ((k / 2 : Nat) : Int)) ∧
  (∀ j k, j < 8 → k < 8 → ¬ g (j * 5 + 4) = 0 → ¬ g (k * 5 + 4) = 0 → g (j * 5) = g (k * 5) → g (j * 5 + 1) = g (k * 5 + 1) → j = k)
theorem VU.start : VU (fun _ => 0) := ⟨fun _ _ h => absurd rfl h, fun _ _ _ _ h => absurd rfl h⟩
theorem VU.page {g : Nat → Int} (h : VU g) {e p : Int} {k : Nat} (hk : k < 8) (hh : hitB g e p k = true) : 0 ≤ p ∧ p < 8 ∧ p % 4 = ((k / 2 : Nat) : Int) := by
  obtain ⟨h0, h1, h2⟩ := of_decide_eq_true hh
  have := h.1 k hk h0
  rw [h2] at this
  exact this.2.2
theorem VU.fill {g : Nat → Int} (h : VU g) {k : Nat} (hk : k < 8) {e p f r : Int} (hl : lineB e p f r = true) (hp : p % 4 = ((k / 2 : Nat) : Int)) (hno : ∀ j, j < 8 → ¬ j = k → hitB g e p j = false) : VU (fillG g k e p f r) := by
  obtain ⟨he, hpp, _, _⟩ := lineB_yes hl
  have key : ∀ m, m < 8 → ¬ m = k → fillG g k e p f r (m * 5) = g (m * 5) ∧ fillG g k e p f r (m * 5 + 1) = g (m * 5 + 1) ∧ fillG g k e p f r (m * 5 + 4) = g (m * 5 + 4) := fun m hm hmk =>
    ⟨fillG_far g k e p f r m 0 hmk (by omega) hm, fillG_far g k e p f r m 1 hmk (by omega) hm, fillG_far g k e p f r m 4 hmk (by omega) hm⟩
  obtain ⟨o0, o1, _, _, o4⟩ := fillG_own g k e p f r
  refine ⟨fun m hm => ?_, fun i j hi hj => ?_⟩
  · by_cases hmk : m = k
    · subst hmk
      rw [o0, o1]
      exact fun _ => ⟨he.1, he.2, hpp.1, hpp.2, hp⟩
    · obtain ⟨k0, k1, k4⟩ := key m hm hmk
      rw [k0, k1, k4]
      exact h.1 m hm
  · by_cases hik : i = k
    · subst hik
      by_cases hjk : j = i
      · exact fun _ _ _ _ => hjk.symm
      · obtain ⟨k0, k1, k4⟩ := key j hj hjk
        rw [o0, o1, o4, k0, k1, k4]
        intro _ a b c
        have := of_decide_eq_false (hno j hj hjk)
        exact absurd ⟨a, b.symm, c.symm⟩ this
    · by_cases hjk : j = k
      · subst hjk
        obtain ⟨k0, k1, k4⟩ := key i hi hik
        rw [o0, o1, o4, k0, k1, k4]
        intro a _ b c
        have := of_decide_eq_false (hno i hi hik)
        exact absurd ⟨a, b, c⟩ this
      · obtain ⟨k0, k1, k4⟩ := key i hi hik
        obtain ⟨m0, m1, m4⟩ := key j hj hjk
        rw [k0, k1, k4, m0, m1, m4]
        exact h.2 i j hi hj
theorem VU.one {g : Nat → Int} (h : VU g) {e p : Int} {k : Nat} (hk : k < 8) (hh : hitB g e p k = true) : ∀ j, j < 8 → ¬ j = k → hitB g e p j = false := fun j hj hjk => by
  obtain ⟨a0, a1, a2⟩ := of_decide_eq_true hh
  refine decide_eq_false fun ⟨b0, b1, b2⟩ => hjk (h.2 j k hj hk b0 a0 (by omega) (by omega))
def TakenG (g G : Nat → Int) (e p : Int) : Prop := ∀ m, m < 8 → ∀ i, i < 5 → G (m * 5 + i) = if hitB g e p m = true then 0 else g (m * 5 + i)
theorem ffG_all (g : Nat → Int) (f : Int) (m i : Nat) (hi : i < 5) : ∀ k, ffG g f k (m * 5 + i) = if m < k ∧ ¬ g (m * 5 + 4) = 0 ∧ g (m * 5 + 2) = f then 0 else g (m * 5 + i)
  | 0 => by rw [if_neg (by omega)]; rfl
  | k + 1 => by
    have hi' := ffG_all g f m i hi k
    have h2 := ffG_all g f k 2 (by omega) k
    have h4 := ffG_all g f k 4 (by omega) k
    rw [if_neg (by omega)] at h2 h4
    unfold ffG
    rw [h2, h4]
    by_cases hc : ¬ g (k * 5 + 4) = 0 ∧ g (k * 5 + 2) = f
    · rw [if_pos hc]
      by_cases hmk : m = k
      · subst hmk
        rw [if_pos ⟨by omega, hc⟩]
        obtain ⟨o0, o1, o2, o3, o4⟩ := clearG_own (ffG g f m) m
        have hcc : i = 0 ∨ i = 1 ∨ i = 2 ∨ i = 3 ∨ i = 4 := by omega
        rcases hcc with rfl | rfl | rfl | rfl | rfl
        · exact o0
        · exact o1
        · exact o2
        · exact o3
        · exact o4
      · rw [clearG_far _ k m i hmk hi, hi']
        by_cases hl : m < k
        · have hl2 : m < k + 1 := by omega
          simp only [hl, hl2, true_and]
        · have hl2 : ¬ m < k + 1 := by omega
          simp only [hl, hl2, false_and]
    · rw [if_neg hc, hi']
      by_cases hmk : m = k
      · subst hmk
        rw [if_neg (by omega), if_neg (fun h => hc h.2)]
      · by_cases hl : m < k
        · have hl2 : m < k + 1 := by omega
          simp only [hl, hl2, true_and]
        · have hl2 : ¬ m < k + 1 := by omega
          simp only [hl, hl2, false_and]
theorem gone {g G : Nat → Int} {e p f : Int} (h : TakenG g G e p) {m : Nat} (hm : m < 8) (hf : g (m * 5 + 4) = 0) : ffG G f 8 (m * 5 + 4) = 0 := by
  rw [ffG_all G f m 4 (by omega) 8, h m hm 4 (by omega), hf]
  simp
end Go.Proofs.YtbmekfjcpdbapaaGreatDoor
namespace Go.Proofs.YtbmekfjcpdbapaaGreatDoor
open Go.RowKit Go.Extern.Stop Go.Stop Go.Extern
theorem ln_off (a : Addr) (m j : Nat) (hj : 0 < j) : (⟨(a.add m).block, (a.add m).off + j, none⟩ : Addr) = a.add (m + j) := by
  unfold Addr.add
  by_cases hm : m = 0
  · subst hm
    rw [if_pos rfl, if_neg (by omega), Nat.zero_add]
  · rw [if_neg hm, if_neg (by omega), Nat.add_assoc]
end Go.Proofs.YtbmekfjcpdbapaaGreatDoor
