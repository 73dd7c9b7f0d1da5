/- What is proved here: contracts of packages pte, word, mem, table and tlb, as far as the statements ask them (more). Conditions: those that each theorem names. -/
import Derived.Test.YtmifcfkchnilmaaGreatDoorGParts
namespace Go.Proofs.YtmifcfkchnilmaaGreatDoor
open Go.RowKit Go.Extern.Stop Go.Stop Go.Extern
theorem ref_within_yes (a b : Int) (ha : mayB a = true) (hb : mayB b = true) (w : World) : Calls Tryz.prog 67 #[.int .i64 a, .int .i64 b] w fun e w' => e = .returned (.bool (withinB a b)) ∧ w = w' := by
  rcases may_cases ha with rfl | rfl | rfl
  all_goals rcases may_cases hb with rfl | rfl | rfl
  all_goals
    clear ha hb
    go_enter Tryz.func67, Tryz.ntmps67
    go_wp2_with (go_at_call 66; refine (ref_may_yes _ (by omega) (by omega) _).mono ?_; rintro e w' ⟨rfl, rfl⟩)
    go_ret
    exact ⟨rfl, rfl⟩
theorem ref_within_any (a b : Int) (w : World) : Calls Tryz.prog 67 #[.int .i64 a, .int .i64 b] w fun e w' => e = .returned (.bool (withinB a b)) ∧ w = w' := by
  rcases Bool.eq_false_or_eq_true (mayB a) with ha | ha
  · rcases Bool.eq_false_or_eq_true (mayB b) with hb | hb
    · exact ref_within_yes a b ha hb w
    · rw [show withinB a b = false by simp [withinB, hb]]
      have HB := Lib.hid hb
      have H1 := may_cases ha
      have h1 : 1 ≤ a := by omega
      have h2 : a ≤ 3 := by omega
      clear ha hb H1
      go_enter Tryz.func67, Tryz.ntmps67
      go_wp2_with fail
      refine (ref_may_yes _ h1 h2 _).mono ?_
      rintro e w' ⟨rfl, rfl⟩
      go_wp2_with fail
      refine (ref_may_no _ HB.out _).mono ?_
      rintro e w' ⟨rfl, rfl⟩
      go_wp2_with fail
      go_ret
      exact ⟨rfl, rfl⟩
  · rw [show withinB a b = false by simp [withinB, ha]]
    have HB := Lib.hid ha
    clear ha
    go_enter Tryz.func67, Tryz.ntmps67
    go_wp2_with (go_at_call 66; refine (ref_may_no _ HB.out _).mono ?_; rintro e w' ⟨rfl, rfl⟩)
    go_ret
    exact ⟨rfl, rfl⟩
end Go.Proofs.YtmifcfkchnilmaaGreatDoor
