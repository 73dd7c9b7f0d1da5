/- What is proved here: the statements' own helpers code (a number from 1 to 11) and number (its decimal numeral). Conditions: the argument is an int; for number, from 1 to 11. -/
import Derived.Test.YtnmlmhhohemffaaDoorError
import Derived.IntWalk
namespace Go.Proofs.YtnmlmhhohemffaaDoor
open Go.RowKit Go.Extern.Stop Go.Stop Go.Extern

/-- The code of a number. -/
def cn (n : Int) : Nat := (n % 11).toNat + 1
theorem cn_range (n : Int) : 1 ≤ cn n ∧ cn n ≤ 11 := by unfold cn; omega
theorem cn_int (n : Int) : ((cn n : Nat) : Int) = n % 11 + 1 := by unfold cn; omega
theorem tmod_code (n : Int) : n.tmod 11 % 11 + 1 = n % 11 + 1 := by
  rw [Int.tmod_def]
  omega

theorem code_any (n : Int) (w : World) :
    Calls Tryd.prog 12 #[.int .i64 n] w fun e w' => e = .returned (.int .i64 (cn n)) ∧ w' = w := by
  have Hc := Lib.hid (tmod_code n)
  have Hcn := Lib.hid (cn_int n)
  have h2 : -11 < n.tmod 11 ∧ n.tmod 11 < 11 := by
    have h3 := Int.tmod_lt_of_pos n (b := 11) (by omega)
    have h4 := Int.tmod_lt_of_pos (-n) (b := 11) (by omega)
    rw [Int.neg_tmod] at h4
    omega
  go_enter Tryd.func12, Tryd.ntmps12
  go_wp2
  go_ret
  rw [Hcn.out, ← Hc.out]
  exact ⟨rfl, rfl⟩

theorem conv_one (c : Int) (u : UInt8) (hu : (u.toNat : Int) = c) (w : World) :
    (convert 55 9 (.slice (some ⟨w.heap.size, 0, none⟩) 1 1)).run Tryd.prog (w.alloc (.cells #[.int .u8 c] 5)) = .ok (.string ⟨#[u]⟩) (w.alloc (.cells #[.int .u8 c] 5)) :=
  run_convert_bytes_back (P := Tryd.prog) _ 55 9 5 ⟨w.heap.size, 0, none⟩ 1 [u] Tryd.underlying55 Tryd.underlying5 Tryd.underlying9 (by
    intro j hj
    obtain rfl : j = 0 := by simp at hj; exact hj
    simp [Addr.add, hu])

set_option maxRecDepth 100000 in
theorem number_small (c : Int) (u : UInt8) (hu : (u.toNat : Int) = 48 + c) (h0 : 0 ≤ c) (h1 : c < 10) (w : World) :
    Calls Tryd.prog 14 #[.int .i64 c] w fun e w' => e = .returned (.string ⟨#[u]⟩) ∧ Below w.heap.size w w' := by
  have hcv := conv_one (48 + c) u hu w
  clear hu
  go_enter Tryd.func14, Tryd.ntmps14
  go_wp2
  go_ret
  exact ⟨rfl, (Below.refl _ _).alloc (Nat.le_refl _) _⟩
set_option maxRecDepth 100000 in
theorem number_big (c : Int) (u : UInt8) (hu : (u.toNat : Int) = 38 + c) (h0 : 10 ≤ c) (h1 : c < 20) (w : World) :
    Calls Tryd.prog 14 #[.int .i64 c] w fun e w' => e = .returned (.string ⟨#[49, u]⟩) ∧ Below w.heap.size w w' := by
  have hcv := conv_one (48 + c - 10) u (by omega) w
  clear hu
  go_enter Tryd.func14, Tryd.ntmps14
  go_wp2
  go_ret
  exact ⟨rfl, (Below.refl _ _).alloc (Nat.le_refl _) _⟩

theorem decDigits_small (c : Nat) (h : c < 10) : Lib.decDigits c = [UInt8.ofNat (48 + c)] := by
  rw [Lib.decDigits, dif_pos h]
theorem decDigits_big (c : Nat) (h0 : 10 ≤ c) (h : c < 100) : Lib.decDigits c = [UInt8.ofNat (48 + c / 10), UInt8.ofNat (48 + c % 10)] := by
  rw [Lib.decDigits, dif_neg (by omega), decDigits_small _ (by omega)]
  rfl

theorem number_any (c : Nat) (h : 1 ≤ c ∧ c ≤ 11) (w : World) :
    Calls Tryd.prog 14 #[.int .i64 c] w fun e w' => e = .returned (.string ⟨(Lib.decDigits c).toArray⟩) ∧ Below w.heap.size w w' := by
  obtain rfl | rfl | rfl | rfl | rfl | rfl | rfl | rfl | rfl | rfl | rfl : c = 1 ∨ c = 2 ∨ c = 3 ∨ c = 4 ∨ c = 5 ∨ c = 6 ∨ c = 7 ∨ c = 8 ∨ c = 9 ∨ c = 10 ∨ c = 11 := by omega
  · rw [decDigits_small _ (by decide)]; exact number_small 1 49 (by decide) (by decide) (by decide) w
  · rw [decDigits_small _ (by decide)]; exact number_small 2 50 (by decide) (by decide) (by decide) w
  · rw [decDigits_small _ (by decide)]; exact number_small 3 51 (by decide) (by decide) (by decide) w
  · rw [decDigits_small _ (by decide)]; exact number_small 4 52 (by decide) (by decide) (by decide) w
  · rw [decDigits_small _ (by decide)]; exact number_small 5 53 (by decide) (by decide) (by decide) w
  · rw [decDigits_small _ (by decide)]; exact number_small 6 54 (by decide) (by decide) (by decide) w
  · rw [decDigits_small _ (by decide)]; exact number_small 7 55 (by decide) (by decide) (by decide) w
  · rw [decDigits_small _ (by decide)]; exact number_small 8 56 (by decide) (by decide) (by decide) w
  · rw [decDigits_small _ (by decide)]; exact number_small 9 57 (by decide) (by decide) (by decide) w
  · rw [decDigits_big _ (by decide) (by decide)]; exact number_big 10 48 (by decide) (by decide) (by decide) w
  · rw [decDigits_big _ (by decide) (by decide)]; exact number_big 11 49 (by decide) (by decide) (by decide) w
end Go.Proofs.YtnmlmhhohemffaaDoor
