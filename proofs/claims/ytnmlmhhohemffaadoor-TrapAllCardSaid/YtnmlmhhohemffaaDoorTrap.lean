/- What is proved here: contracts of trap.Of, trap.Code, trap.itself and the methods Unwrap and Is of *trap.Trap. Conditions: what errors.As finds in the error is the premise; a trap's cells are there. -/
import Derived.Test.YtnmlmhhohemffaaDoorFirst
import Derived.Deep.QuietTactic
import Derived.BigQuiet
namespace Go.Proofs.YtnmlmhhohemffaaDoor
open Go.RowKit Go.Extern.Stop Go.Stop Go.Extern

section
variable {P : Program} (w : World)
theorem run_neq_iface_ptr_same {ti tp te : TypeId} {ms : Array (String × TypeId)} {i j : TypeInfo} (a : Addr)
    (hi : P.underlying ti = some (.interface ms)) (hp : P.underlying tp = some (.pointer te)) (hinfo : P.info? tp = some i) (hcomp : i.comparable = true) (hte : P.info? te = some j) :
    (Go.binOp .neq ti (.iface tp (.pointer (some a))) (.iface tp (.pointer (some a)))).run P w = .ok (.bool false) w := by
  simp only [Go.binOp]
  simp [Op.equal, Op.maxDepth, run_equalIn_iface_ptr_same w 9998 a hi hp hinfo hcomp hte]
end

/-- Block b is a trap. -/
def TrapAt (w : World) (b : Nat) (c env : Int) (k0 k1 k2 k3 k4 v : Value) : Prop :=
  w.heap[b]? = some (.cells #[.int .i64 c, .int .i64 env, k0, k1, k2, k3, k4, v] 38 (0, 0))

theorem cell_of_block {w : World} {b : Nat} {cs : Array Value} {t : TypeId} (h : w.heap[b]? = some (.cells cs t (0, 0))) (i : Nat) : w.cell? ⟨b, i, none⟩ = cs[i]? := by
  simp [World.cell?, h]
theorem free_of_block {w : World} {b : Nat} {cs : Array Value} {t : TypeId} (h : w.heap[b]? = some (.cells cs t (0, 0))) (i : Nat) : w.frozen? ⟨b, i, none⟩ = false := by
  simp [World.frozen?, h]
theorem lt_of_block {w : World} {b : Nat} {o : Obj} (h : w.heap[b]? = some o) : b < w.heap.size := by
  rcases Nat.lt_or_ge b w.heap.size with h1 | h1
  · exact h1
  · simp [Array.getElem?_eq_none h1] at h
theorem TrapAt.later {w w' : World} {b B : Nat} {c env : Int} {k0 k1 k2 k3 k4 v : Value} (h : TrapAt w b c env k0 k1 k2 k3 k4 v) (hb : Below B w w') (hB : b < B) : TrapAt w' b c env k0 k1 k2 k3 k4 v := by
  unfold TrapAt at *
  rw [hb.block b hB]; exact h

theorem below_drewN (B : Nat) (w : World) (n : Nat) : Below B w (w.drewN n) := ⟨rfl, rfl, rfl, Nat.le_refl _, fun _ _ => rfl⟩

theorem of_zero (w : World) : Calls Tryd.prog 13 #[.int .i64 0] w fun e w' => e = .returned .nilIface ∧ w' = w := by
  go_enter Tryd.func13, Tryd.ntmps13
  go_wp2
  go_ret
  exact ⟨rfl, rfl⟩
theorem of_some (c : Int) (hc : (c == 0) = false) (w : World) :
    Calls Tryd.prog 13 #[.int .i64 c] w fun e w' => e = .returned (.iface 34 (.pointer (some ⟨w.heap.size, 0, none⟩))) ∧ w' = w.alloc (.cells #[.int .i64 c, .int .i64 (-1), .int .u64 0, .int .u64 0, .int .u64 0, .int .u64 0, .int .u64 0, .nilIface] 38) := by
  go_enter Tryd.func13, Tryd.ntmps13
  go_wp2
  go_ret
  exact ⟨rfl, rfl⟩

theorem code_nil (w : World) : Calls Tryd.prog 17 #[.nilIface] w fun e w' => e = .returned (.int .i64 0) ∧ w' = w := by
  go_enter Tryd.func17, Tryd.ntmps17
  go_wp2
  go_ret
  exact ⟨rfl, rfl⟩
theorem code_hit (u : TypeId) (x : Value) (b : Nat) (c : Value) (w : World) (H : AsHit w (.iface u x) ⟨b, 0, none⟩) (hc : w.cell? ⟨b, 0, none⟩ = some c) :
    Calls Tryd.prog 17 #[.iface u x] w fun e w' => e = .returned c ∧ Below w.heap.size w w' := by
  have hl := lt_of_cell hc
  have hne := fun w => run_eql_held_nil (P := Tryd.prog) w 30 u x (by kernel_rfl)
  go_enter Tryd.func17, Tryd.ntmps17
  go_wp2_with (go_at_call 16; refine (first_hit _ _ _ H).mono ?_; rintro e w1 ⟨rfl, hb⟩; have hc1 := (hb.cell (p := ⟨b, 0, none⟩) hl).trans hc)
  go_ret
  exact ⟨rfl, hb⟩
theorem code_miss (u : TypeId) (x : Value) (w : World) (H : AsMiss w (.iface u x)) :
    Calls Tryd.prog 17 #[.iface u x] w fun e w' => e = .returned (.int .i64 9) ∧ Below w.heap.size w w' := by
  have hne := fun w => run_eql_held_nil (P := Tryd.prog) w 30 u x (by kernel_rfl)
  go_enter Tryd.func17, Tryd.ntmps17
  go_wp2_with (go_at_call 16; refine (first_miss _ _ H).mono ?_; rintro e w1 ⟨rfl, hb⟩)
  go_ret
  exact ⟨rfl, hb⟩

theorem unwrap_some (b : Nat) (v : Value) (w : World) (hc : w.cell? ⟨b, 7, none⟩ = some v) :
    Calls Tryd.prog 25 #[.pointer (some ⟨b, 0, none⟩)] w fun e w' => e = .returned v ∧ w' = w := by
  go_enter Tryd.func25, Tryd.ntmps25
  go_wp2
  go_ret
  exact ⟨rfl, rfl⟩
theorem unwrap_nil (w : World) :
    Calls Tryd.prog 25 #[.pointer none] w fun e w' => e = .returned .nilIface ∧ w' = w := by
  go_enter Tryd.func25, Tryd.ntmps25
  go_wp2
  go_ret
  exact ⟨rfl, rfl⟩

theorem Tryd.isCompP : (Tryd.prog.info? 34).map (·.comparable) = some true := by kernel_rfl
theorem Tryd.isCompS : (Tryd.prog.info? 63).map (·.comparable) = some true := by kernel_rfl
theorem Tryd.isSizeP : (Tryd.prog.info? 38).map (·.size) = some 8 := by kernel_rfl
theorem Tryd.isSizeS : (Tryd.prog.info? 65).map (·.size) = some 1 := by kernel_rfl

theorem itself_trap (b : Nat) (w : World) (H : AsHit w (.iface 34 (.pointer (some ⟨b, 0, none⟩))) ⟨b, 0, none⟩) :
    Calls Tryd.prog 37 #[.iface 34 (.pointer (some ⟨b, 0, none⟩))] w fun e w' => e = .returned (.tuple #[.pointer (some ⟨b, 0, none⟩), .bool true]) ∧ Below w.heap.size w w' := by
  obtain ⟨i, hi, hcmp⟩ := Option.map_eq_some_iff.1 Tryd.isCompP
  obtain ⟨j, hj, _⟩ := Option.map_eq_some_iff.1 Tryd.isSizeP
  have hne := fun w => run_neq_iface_ptr_same (P := Tryd.prog) w ⟨b, 0, none⟩ Tryd.underlying30 Tryd.underlying34 hi hcmp hj
  go_enter Tryd.func37, Tryd.ntmps37
  go_wp2_with (go_at_call 16; refine (first_hit _ _ _ H).mono ?_; rintro e w1 ⟨rfl, hb⟩)
  go_ret2
  exact ⟨rfl, hb⟩
theorem itself_miss (err : Value) (w : World) (H : AsMiss w err) :
    Calls Tryd.prog 37 #[err] w fun e w' => e = .returned (.tuple #[.pointer none, .bool false]) ∧ Below w.heap.size w w' := by
  go_enter Tryd.func37, Tryd.ntmps37
  go_wp2_with (go_at_call 16; refine (first_miss _ _ H).mono ?_; rintro e w1 ⟨rfl, hb⟩)
  go_ret2
  exact ⟨rfl, hb⟩

theorem is_nil (target : Value) (w : World) :
    Calls Tryd.prog 26 #[.pointer none, target] w fun e w' => e = .returned (.bool false) ∧ w' = w := by
  go_enter Tryd.func26, Tryd.ntmps26
  go_wp2
  go_ret
  exact ⟨rfl, rfl⟩
theorem is_trap (a b : Nat) (c d : Int) (w : World) (H : AsHit w (.iface 34 (.pointer (some ⟨b, 0, none⟩))) ⟨b, 0, none⟩)
    (hc : w.cell? ⟨a, 0, none⟩ = some (.int .i64 c)) (hd : w.cell? ⟨b, 0, none⟩ = some (.int .i64 d)) :
    Calls Tryd.prog 26 #[.pointer (some ⟨a, 0, none⟩), .iface 34 (.pointer (some ⟨b, 0, none⟩))] w fun e w' => e = .returned (.bool (d == c)) ∧ Below w.heap.size w w' := by
  have hal := lt_of_cell hc
  have hbl := lt_of_cell hd
  go_enter Tryd.func26, Tryd.ntmps26
  go_wp2_with (go_at_call 37; refine (itself_trap _ _ H).mono ?_; rintro e w1 ⟨rfl, hb⟩; have hc1 := (hb.cell (p := ⟨a, 0, none⟩) hal).trans hc; have hd1 := (hb.cell (p := ⟨b, 0, none⟩) hbl).trans hd)
  have hb0 := Lib.hid hb
  clear hb
  go_quiet (fail)
  go_wp2
  go_ret
  exact ⟨rfl, hb0.out.trans (below_drewN _ _ _)⟩
theorem is_miss (a : Nat) (target : Value) (w : World) (H : AsMiss w target) :
    Calls Tryd.prog 26 #[.pointer (some ⟨a, 0, none⟩), target] w fun e w' => e = .returned (.bool false) ∧ Below w.heap.size w w' := by
  go_enter Tryd.func26, Tryd.ntmps26
  go_wp2_with (go_at_call 37; refine (itself_miss _ _ H).mono ?_; rintro e w1 ⟨rfl, hb⟩)
  have hb0 := Lib.hid hb
  clear hb
  go_quiet (fail)
  go_wp2
  go_ret
  exact ⟨rfl, hb0.out.trans (below_drewN _ _ _)⟩
end Go.Proofs.YtnmlmhhohemffaaDoor
