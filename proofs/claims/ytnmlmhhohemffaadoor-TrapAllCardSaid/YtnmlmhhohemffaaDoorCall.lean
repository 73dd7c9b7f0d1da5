/- What is proved here: two calls (arrays of five words) of the same words are equal. Conditions: none. -/
import Derived.Test.YtnmlmhhohemffaaDoorChain
namespace Go.Proofs.YtnmlmhhohemffaaDoor
open Go.RowKit Go.Extern.Stop Go.Stop Go.Extern

theorem part_call (w : World) (cs : Array Value) (i : Nat) (v : Value) (h : cs[i]? = some v) : (part 23 cs i).run Tryd.prog w = .ok v w := by
  simp [part, h]
theorem eq_word (d : Nat) (x : Int) (w : World) : (Op.equalIn (d + 1) 23 (.int .u64 x) (.int .u64 x)).run Tryd.prog w = .ok true w := by
  rw [run_equalIn_int w d 23 .u64 .u64 x x Tryd.underlying23, beq_self_eq_true]
theorem eq_call (x0 x1 x2 x3 x4 : Int) (d : Nat) (w : World) :
    (Op.equalIn (d + 2) 25 (.agg #[.int .u64 x0, .int .u64 x1, .int .u64 x2, .int .u64 x3, .int .u64 x4]) (.agg #[.int .u64 x0, .int .u64 x1, .int .u64 x2, .int .u64 x3, .int .u64 x4])).run Tryd.prog w = .ok true w := by
  have hr : List.range 5 = [0, 1, 2, 3, 4] := rfl
  have p := part_call w #[.int .u64 x0, .int .u64 x1, .int .u64 x2, .int .u64 x3, .int .u64 x4]
  rw [Op.equalIn]
  simp [run_underlying Tryd.underlying25, List.range'_eq_map_range, hr, p 0 _ rfl, p 1 _ rfl, p 2 _ rfl, p 3 _ rfl, p 4 _ rfl, eq_word, Result.andThen]
theorem eql_call (x0 x1 x2 x3 x4 : Int) (w : World) :
    (Go.binOp .eql 25 (.agg #[.int .u64 x0, .int .u64 x1, .int .u64 x2, .int .u64 x3, .int .u64 x4]) (.agg #[.int .u64 x0, .int .u64 x1, .int .u64 x2, .int .u64 x3, .int .u64 x4])).run Tryd.prog w = .ok (.bool true) w := by
  simp only [Go.binOp]
  simp [Op.equal, Op.maxDepth, eq_call x0 x1 x2 x3 x4 9998]
theorem neq_call (x0 x1 x2 x3 x4 : Int) (w : World) :
    (Go.binOp .neq 25 (.agg #[.int .u64 x0, .int .u64 x1, .int .u64 x2, .int .u64 x3, .int .u64 x4]) (.agg #[.int .u64 x0, .int .u64 x1, .int .u64 x2, .int .u64 x3, .int .u64 x4])).run Tryd.prog w = .ok (.bool false) w := by
  simp only [Go.binOp]
  simp [Op.equal, Op.maxDepth, eq_call x0 x1 x2 x3 x4 9998]
end Go.Proofs.YtnmlmhhohemffaaDoor
