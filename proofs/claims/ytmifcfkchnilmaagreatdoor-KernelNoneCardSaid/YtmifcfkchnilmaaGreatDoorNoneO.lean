/- What is proved here: what packages plain, caps, epoch, pred and user tell of no object, of an environment that is not, of no operator (NoneC). Conditions: an error asks that the library's variable errors.errorType holds the type error. -/
import Derived.Test.YtmifcfkchnilmaaGreatDoorKerNone
import Derived.Test.YtmifcfkchnilmaaGreatDoorGTreeE
import Derived.Test.YtmifcfkchnilmaaGreatDoorGPlF
import Derived.Test.YtmifcfkchnilmaaGreatDoorGBegunB
import Derived.Test.YtmifcfkchnilmaaGreatDoorGEpoch
import Derived.Test.YtmifcfkchnilmaaGreatDoorUserD
namespace Go.Proofs.YtmifcfkchnilmaaGreatDoor
open Go.RowKit Go.Extern.Stop Go.Stop Go.Extern Go.WalkArith
theorem none_has (e : Int) (w : World) : Calls Tryz.prog 106 #[.pointer none, .int .i64 e] w fun x w' => x = .returned (.bool false) ∧ w = w' := by
  go_enter Tryz.func106, Tryz.ntmps106
  go_wp2_with fail
  go_ret
  exact ⟨rfl, rfl⟩
theorem none_do (w : World) : Calls Tryz.prog 52 #[.pointer none, .int .i64 0, .agg #[.int .u64 10, .int .u64 0, .int .u64 0, .int .u64 0, .int .u64 0]] w fun x w' => (∃ u : Int, x = .returned (.tuple #[.agg #[.int .i64 10, .int .u64 u], .bool true])) ∧ Below w.heap.size w w' := by
  have H := Lib.hid (fun W => none_has 0 W)
  go_enter Tryz.func52, Tryz.ntmps52
  go_wp2_with (refine (H.out _).mono ?_; rintro e w' ⟨rfl, rfl⟩)
  refine bodyPost_ret (v := .tuple #[.agg #[.int .i64 10, .int .u64 0], .bool true]) (by simp [results, Tryz.results52, go_sem]) rfl ⟨⟨0, rfl⟩, ?_⟩
  exact ((Below.refl _ _).alloc (Nat.le_refl _) _).alloc (by simp) _
theorem none_cap (w : World) : Calls Tryz.prog 53 #[.pointer none, .int .i64 0, .int .i64 0] w fun x w' => x = .returned (.tuple #[.agg #[.int .i64 0, .int .i64 0, .int .i64 0, .int .i64 0], .bool false]) ∧ Below w.heap.size w w' := by
  go_enter Tryz.func53, Tryz.ntmps53
  go_wp2_with fail
  refine bodyPost_ret (v := .tuple #[.agg #[.int .i64 0, .int .i64 0, .int .i64 0, .int .i64 0], .bool false]) (by simp [results, Tryz.results53, go_sem]) rfl ⟨rfl, ?_⟩
  exact (Below.refl _ _).alloc (Nat.le_refl _) _
theorem none_touch (w : World) : Calls Tryz.prog 54 #[.pointer none, .int .i64 0, .agg #[.int .u64 20, .int .u64 0, .int .u64 0, .int .u64 0, .int .u64 0]] w fun x w' => (∃ e u : Int, x = .returned (.tuple #[.agg #[.int .i64 e, .int .u64 u], .bool false])) ∧ Below w.heap.size w w' := by
  go_enter Tryz.func54, Tryz.ntmps54
  go_wp2_with fail
  refine bodyPost_ret (v := .tuple #[.agg #[.int .i64 0, .int .u64 0], .bool false]) (by simp [results, Tryz.results54, go_sem]) rfl ⟨⟨0, 0, rfl⟩, ?_⟩
  exact ((Below.refl _ _).alloc (Nat.le_refl _) _).alloc (by simp) _
theorem none_slot (e s : Int) (w : World) : Calls Tryz.prog 76 #[.pointer none, .int .i64 e, .int .i64 s] w fun x w' => x = .returned (.tuple #[.pointer none, .int .i64 10]) ∧ w = w' := by
  go_enter Tryz.func76, Tryz.ntmps76
  go_wp2_with fail
  go_ret2
  exact ⟨rfl, rfl⟩
theorem none_taken (e s : Int) (w : World) : Calls Tryz.prog 124 #[.pointer none, .int .i64 e, .int .i64 s] w fun x w' => x = .returned (.tuple #[.agg #[.int .i64 0, .int .i64 0, .int .i64 0, .int .i64 0], .int .i64 10]) ∧ Below w.heap.size w w' := by
  have H := Lib.hid (fun W => none_slot e s W)
  go_enter Tryz.func124, Tryz.ntmps124
  go_wp2_with (refine (H.out _).mono ?_; rintro e w' ⟨rfl, rfl⟩)
  refine bodyPost_ret (v := .tuple #[.agg #[.int .i64 0, .int .i64 0, .int .i64 0, .int .i64 0], .int .i64 10]) (by simp [results, Tryz.results124, go_sem]) rfl ⟨rfl, ?_⟩
  exact (Below.refl _ _).alloc (Nat.le_refl _) _
theorem none_begin (w : World) : Calls Tryz.prog 55 #[.pointer none, .int .i64 0] w fun x w' => (∃ v, x = .returned (.tuple #[v, .bool false])) ∧ Below w.heap.size w w' := by
  have H : Hid (∀ W, Calls Tryz.prog 110 #[.pointer none, .int .i64 0] W fun x w' => x = .returned (.bool false) ∧ W = w') := fun W => by
    go_enter Tryz.func110, Tryz.ntmps110
    go_wp2_with fail
    go_ret
    exact ⟨rfl, rfl⟩
  go_enter Tryz.func55, Tryz.ntmps55
  go_wp2_with (refine (H.out _).mono ?_; rintro e w' ⟨rfl, rfl⟩)
  go_ret2
  exact ⟨⟨_, rfl⟩, Below.refl _ _⟩
theorem none_ack (w : World) : Calls Tryz.prog 63 #[.pointer none, .int .i64 0, .int .u64 1] w fun x w' => x = .returned (.bool false) ∧ Below w.heap.size w w' := by
  have H : Hid (∀ W, Calls Tryz.prog 110 #[.pointer none, .int .i64 0] W fun x w' => x = .returned (.bool false) ∧ W = w') := fun W => by
    go_enter Tryz.func110, Tryz.ntmps110
    go_wp2_with fail
    go_ret
    exact ⟨rfl, rfl⟩
  go_enter Tryz.func63, Tryz.ntmps63
  go_wp2_with (refine (H.out _).mono ?_; rintro e w' ⟨rfl, rfl⟩)
  go_ret
  exact ⟨rfl, Below.refl _ _⟩
theorem none_now (w : World) : Calls Tryz.prog 62 #[.pointer none] w fun x w' => x = .returned (.int .u64 0) ∧ w = w' := by
  go_enter Tryz.func62, Tryz.ntmps62
  go_wp2_with fail
  go_ret
  exact ⟨rfl, rfl⟩
theorem none_done (w : World) : Calls Tryz.prog 61 #[.pointer none, .int .u64 1] w fun x w' => x = .returned (.bool false) ∧ Below w.heap.size w w' := by
  have H : Hid (∀ W, Calls Tryz.prog 121 #[.pointer none, .int .u64 1] W fun x w' => x = .returned (.bool false) ∧ W = w') := fun W => by
    have H0 := Lib.hid (fun V => none_now V)
    go_enter Tryz.func121, Tryz.ntmps121
    go_wp2_with (refine (H0.out _).mono ?_; rintro e w' ⟨rfl, rfl⟩)
    go_ret
    exact ⟨rfl, rfl⟩
  go_enter Tryz.func61, Tryz.ntmps61
  go_wp2_with (refine (H.out _).mono ?_; rintro e w' ⟨rfl, rfl⟩)
  go_ret
  exact ⟨rfl, Below.refl _ _⟩
theorem none_free (w : World) : Calls Tryz.prog 58 #[.pointer none] w fun x w' => (∃ o c, x = .returned (.slice o 0 c)) ∧ Below w.heap.size w w' := by
  go_enter Tryz.func58, Tryz.ntmps58
  go_wp2_with fail
  go_ret
  exact ⟨⟨_, _, rfl⟩, Below.refl _ _⟩
theorem none_frame (w : World) : Calls Tryz.prog 59 #[.pointer none, .int .i64 0] w fun x w' => x = .returned (.slice none 0 0) ∧ Below w.heap.size w w' := by
  go_enter Tryz.func59, Tryz.ntmps59
  go_wp2_with fail
  go_ret
  exact ⟨rfl, Below.refl _ _⟩
theorem none_copy (w : World) : Calls Tryz.prog 60 #[.pointer none] w fun x w' => x = .returned (.pointer none) ∧ Below w.heap.size w w' := by
  go_enter Tryz.func60, Tryz.ntmps60
  go_wp2_with fail
  go_ret
  exact ⟨rfl, Below.refl _ _⟩
theorem none_root (w : World) : Calls Tryz.prog 19 #[.pointer none, .int .i64 0, .int .i64 0, .int .i64 0] w fun x w' => x = .returned (.int .i64 10) ∧ Below w.heap.size w w' := by
  have H := Lib.hid (fun W => none_slot 0 0 W)
  go_enter Tryz.func19, Tryz.ntmps19
  go_wp2_with (refine (H.out _).mono ?_; rintro e w' ⟨rfl, rfl⟩)
  go_ret
  exact ⟨rfl, Below.refl _ _⟩
theorem none_err (w : World) (_hg : Held w) : Calls Tryz.prog 57 #[.pointer none, .int .i64 0, .agg #[.int .u64 0, .int .u64 0, .int .u64 0, .int .u64 0, .int .u64 0]] w fun x w' => (∃ v, x = .returned v ∧ ∀ W, Below w'.heap.size w' W → Calls Tryz.prog 56 #[v] W fun y W' => y = .returned (.int .i64 10) ∧ Below W.heap.size W W') ∧ Below w.heap.size w w' := by
  have HOF := Lib.hid (fun W => of_post 10 rfl W)
  have HG := Lib.hid _hg
  go_enter Tryz.func57, Tryz.ntmps57
  go_wp2_with fail
  refine (HOF.out _).mono ?_
  rintro e w1 ⟨t, rfl, ht, hat, hsz, hb⟩
  have HT := Lib.hid hat
  have HB := Lib.hid (bl_alloc (Below.refl w.heap.size w) hb)
  have HL := Lib.hid (show t < w1.heap.size by omega)
  clear hb hsz hat ht
  go_wp2_with fail
  go_ret
  refine ⟨⟨_, rfl, fun W hW => ?_⟩, HB.out⟩
  exact chain_code (HG.out.below (bl_trans HB.out hW) HG.out.pos) (HT.out.chain.later hW (by have := HL.out; omega))
theorem none_places (v : Value) (w : World) : Calls Tryz.prog 85 #[.pointer none, v] w fun x w' => x = .returned (.slice none 0 0) ∧ w = w' := by
  go_enter Tryz.func85, Tryz.ntmps85
  go_wp2_with fail
  go_ret
  exact ⟨rfl, rfl⟩
theorem none_below (w : World) : Calls Tryz.prog 27 #[.pointer none, .int .i64 0, .int .i64 0] w fun x w' => (∃ o c, x = .returned (.slice o 0 c)) ∧ Below w.heap.size w w' := by
  have H := Lib.hid (fun v W => none_places v W)
  go_enter Tryz.func27, Tryz.ntmps27
  go_wp2_with (refine (H.out _ _).mono ?_; rintro e w' ⟨rfl, rfl⟩)
  go_ret
  exact ⟨⟨_, _, rfl⟩, ((Below.refl _ _).alloc (Nat.le_refl _) _).alloc (by simp) _⟩
theorem none_empty (v : Value) (w : World) : Calls Tryz.prog 81 #[.pointer none, .int .i64 0, .int .i64 0, v] w fun x w' => (∃ u, x = .returned (.tuple #[u, .int .i64 10])) ∧ Below w.heap.size w w' := by
  have H := Lib.hid (fun W => none_taken 0 0 W)
  go_enter Tryz.func81, Tryz.ntmps81
  go_wp2_with fail
  refine (H.out _).mono ?_
  rintro x w1 ⟨rfl, hb⟩
  have B1 := Lib.hid hb
  clear hb
  go_wp2_with fail
  go_ret2
  exact ⟨⟨_, rfl⟩, B1.out.alloc B1.out.size _⟩
theorem none_drop (w : World) : Calls Tryz.prog 23 #[.pointer none, .int .i64 0, .int .i64 0] w fun x w' => (∃ v, x = .returned (.tuple #[v, .int .i64 10])) ∧ Below w.heap.size w w' := by
  have H := Lib.hid (fun v W => none_empty v W)
  go_enter Tryz.func23, Tryz.ntmps23
  go_wp2_with fail
  refine (H.out _ _).mono ?_
  rintro x w1 ⟨⟨u, rfl⟩, hb⟩
  have B1 := Lib.hid hb
  clear hb
  go_wp2_with fail
  go_ret2
  exact ⟨⟨_, rfl⟩, B1.out⟩
theorem none_keeps : NoneC Held where
  later := fun _ _ h hb => h.below hb h.pos
  do_ := none_do
  cap_ := none_cap
  touch_ := none_touch
  drop_ := none_drop
  begin_ := none_begin
  err_ := none_err
  free_ := none_free
  frame_ := none_frame
  copy_ := none_copy
  root_ := none_root
  below_ := none_below
  done_ := none_done
  now_ := fun w => (none_now w).mono fun _ _ h => ⟨h.1, h.2 ▸ Below.refl _ _⟩
  ack_ := none_ack
  may_ := fun w => (pred_keeps.may_ 0 w).mono fun _ _ h => ⟨h.1, h.2⟩
  user_ := fun T U M w => user_none user_keeps T U M w
end Go.Proofs.YtmifcfkchnilmaaGreatDoor

