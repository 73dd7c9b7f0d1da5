/- What is proved here: what the calls of the statement PlainPages do to the document's plain kernel: plain mathematics. Conditions: none. -/
import Derived.Test.YtbmekfjcpdbapaaGreatDoorGKerE
namespace Go.Proofs.YtbmekfjcpdbapaaGreatDoor
open Go.RowKit Go.Extern.Stop Go.Stop Go.Extern
def pg1 : KernS := (kdo (newK 1 2 1) 0 1 0 0 0 0).1
def pg2 : KernS := (kdo pg1 0 2 0 3 3 0).1
def pg3 : KernS := (kdo pg2 0 6 7 0 1 0).1
def pgK (s : Nat → Bool) : KernS := { pg3 with pt := fun e p => if e = 0 ∧ p < 7 ∧ s p = true then ⟨0, 3, 1⟩ else pg3.pt e p }
theorem pg_start : kdo (newK 1 2 1) 0 1 0 0 0 0 = (pg1, 0, 0, true) ∧ kdo pg1 0 2 0 3 3 0 = (pg2, 0, 0, true) ∧ kdo pg2 0 6 7 0 1 0 = (pg3, 0, 0, true) := ⟨rfl, rfl, rfl⟩
theorem pg_none : pgK (fun _ => false) = pg3 := by
  unfold pgK
  have h : (fun e p => if e = 0 ∧ p < 7 ∧ (false : Bool) = true then (⟨0, 3, 1⟩ : PteV) else pg3.pt e p) = pg3.pt := by
    funext e p
    rw [if_neg (fun h => absurd h.2.2 (by decide))]
  rw [h]
theorem pg_slot : (pg3.sl 0 3).is = true ∧ (pg3.sl 0 3).frame = 0 ∧ (pg3.sl 0 3).rights = 3 := ⟨rfl, rfl, rfl⟩
theorem pg_free {p : Nat} (hp : p < 7) : (pg3.pt 0 p).rights = 0 := by
  rcases (show p = 0 ∨ p = 1 ∨ p = 2 ∨ p = 3 ∨ p = 4 ∨ p = 5 ∨ p = 6 by omega) with rfl | rfl | rfl | rfl | rfl | rfl | rfl <;> rfl
theorem pg_chk {p : Nat} (hp : p < 7) : chkN 6 (p : Int) 3 1 0 2 = 0 := by
  have b0 : belowB (p : Int) 8 = true := by simp [belowB]; omega
  unfold chkN
  rw [if_pos (by decide)]
  unfold res4
  rw [if_pos ?_]
  rw [pre_4]
  simp [mean, shp, mayW, b0]
  decide
theorem pg_map {p : Nat} (hp : p < 7) (s : Nat → Bool) : kdo (pgK s) 0 6 (p : Int) 3 1 0 = if s p = true then (pgK s, 4, 0, true) else (pgK fun q => s q || decide (q = p), 0, 0, true) := by
  have hs : (pgK s).sl 0 3 = pg3.sl 0 3 := rfl
  have he : (pgK s).envs = 2 := rfl
  have hp0 : (pgK s).pt 0 p = if s p = true then ⟨0, 3, 1⟩ else pg3.pt 0 p := by
    show (if (0 = 0 ∧ p < 7 ∧ s p = true) then (⟨0, 3, 1⟩ : PteV) else pg3.pt 0 p) = _
    by_cases h : s p = true
    · rw [if_pos ⟨rfl, hp, h⟩, if_pos h]
    · rw [if_neg (fun c => h c.2.2), if_neg h]
  have hm : mapE (pgK s) 0 p 3 1 = if s p = true then 4 else 0 := by
    unfold mapE
    rw [hs, if_neg (by rw [pg_slot.1]; decide), hp0]
    by_cases h : s p = true
    · rw [if_pos h, if_pos (by decide), if_pos h]
    · rw [if_neg h, if_neg (by rw [pg_free hp]; decide), pg_slot.2.2, if_neg (by decide), if_neg h]
  unfold kdo
  rw [he, if_neg (by decide), if_pos (pg_chk hp)]
  show (mapS (pgK s) 0 (p : Int).toNat 3 1, mapE (pgK s) 0 (p : Int).toNat 3 1, (0 : Int), true) = _
  rw [Int.toNat_natCast, hm]
  unfold mapS
  rw [hm]
  by_cases h : s p = true
  · rw [if_pos h, if_pos h, if_neg (by decide)]
  · rw [if_neg h, if_neg h, if_pos rfl, hs, pg_slot.2.1]
    have hk : (pgK s).setPte 0 p ⟨0, ((3 : Nat) : Int), 1⟩ = pgK fun q => s q || decide (q = p) := by
      unfold KernS.setPte pgK
      have hf : (fun e' p' => if e' = 0 ∧ p' = p then (⟨0, ((3 : Nat) : Int), 1⟩ : PteV) else if e' = 0 ∧ p' < 7 ∧ s p' = true then ⟨0, 3, 1⟩ else pg3.pt e' p') = fun e q => if e = 0 ∧ q < 7 ∧ (s q || decide (q = p)) = true then ⟨0, 3, 1⟩ else pg3.pt e q := by
        funext e q
        by_cases h1 : e = 0 ∧ q = p
        · obtain ⟨rfl, rfl⟩ := h1
          rw [if_pos ⟨rfl, rfl⟩, if_pos ⟨rfl, hp, by simp⟩]
          rfl
        · rw [if_neg h1]
          by_cases h2 : e = 0 ∧ q < 7 ∧ s q = true
          · rw [if_pos h2, if_pos ⟨h2.1, h2.2.1, by rw [h2.2.2]; rfl⟩]
          · rw [if_neg h2, if_neg]
            rintro ⟨a, b, c⟩
            rcases Bool.or_eq_true_iff.1 c with c | c
            · exact h2 ⟨a, b, c⟩
            · exact h1 ⟨a, of_decide_eq_true c⟩
      dsimp only
      rw [hf]
    exact congrArg (fun k => (k, (0 : Int), (0 : Int), true)) hk
def pgG (s : Nat → Bool) : KernS := clr (pgK s) 0 3 8
theorem pg_revoke (s : Nat → Bool) : kdo (pgK s) 0 4 0 0 0 0 = (pgG s, 0, 1, true) := by kernel_rfl
theorem pg_drop (s : Nat → Bool) : kdo (pgK s) 0 5 3 0 0 0 = (pgG s, 0, 1, true) := by kernel_rfl
theorem pg_gone {p : Nat} (hp : p < 7) (s : Nat → Bool) : ((pgG s).pt 0 p).rights = 0 := by
  show (if (0 = 0 ∧ p < 8 ∧ ¬ ((pgK s).pt 0 p).rights = 0 ∧ ((pgK s).pt 0 p).slot = ((3 : Nat) : Int)) then noPte else (pgK s).pt 0 p).rights = 0
  have hp0 : (pgK s).pt 0 p = if s p = true then ⟨0, 3, 1⟩ else pg3.pt 0 p := by
    show (if (0 = 0 ∧ p < 7 ∧ s p = true) then (⟨0, 3, 1⟩ : PteV) else pg3.pt 0 p) = _
    by_cases h : s p = true
    · rw [if_pos ⟨rfl, hp, h⟩, if_pos h]
    · rw [if_neg (fun c => h c.2.2), if_neg h]
  rw [hp0]
  by_cases h : s p = true
  · rw [if_pos h, if_pos ⟨rfl, by omega, by decide, rfl⟩]
    rfl
  · rw [if_neg h, if_neg (fun c => c.2.2.1 (pg_free hp))]
    exact pg_free hp
theorem pg_seven (s : Nat → Bool) : ¬ ((pgG s).pt 0 7).rights = 0 := by
  have h0 : (pgK s).pt 0 7 = pg3.pt 0 7 := by
    show (if (0 = 0 ∧ 7 < 7 ∧ s 7 = true) then (⟨0, 3, 1⟩ : PteV) else pg3.pt 0 7) = _
    exact if_neg (fun c => absurd c.2.1 (by decide))
  have h : (pgG s).pt 0 7 = pg3.pt 0 7 := by
    show (if (0 = 0 ∧ 7 < 8 ∧ ¬ ((pgK s).pt 0 7).rights = 0 ∧ ((pgK s).pt 0 7).slot = ((3 : Nat) : Int)) then noPte else (pgK s).pt 0 7) = _
    rw [h0]
    exact if_neg (fun c => absurd c.2.2.2 (by decide))
  rw [h]
  decide
theorem pg_envs (s : Nat → Bool) : (pgG s).envs = 2 ∧ (pgK s).envs = 2 := ⟨rfl, rfl⟩
end Go.Proofs.YtbmekfjcpdbapaaGreatDoor

