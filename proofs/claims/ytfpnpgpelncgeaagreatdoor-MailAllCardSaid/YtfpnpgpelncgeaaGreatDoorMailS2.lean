/- What is proved here: what the statement MailAll begins with (a new Mail beside a new array of empty lists), and what becomes of its lists when the first number goes. Conditions: those that each theorem names. -/
import Derived.Test.YtfpnpgpelncgeaaGreatDoorMailSt
import Derived.Laws.MakeOwn
namespace Go.Proofs.YtfpnpgpelncgeaaGreatDoor
open Go.RowKit Go.Extern.Stop Go.Stop Go.Extern Go.Maps

theorem Tryz.rowInfo : (Tryz.prog.info? 53).map (fun i => (i.zero, i.size, i.bytes)) = some (some (.slice none 0 0), 1, 24) := by kernel_rfl
theorem make_rows (n : Nat) (hn : n ≤ 8) (cs : Array Value) (hcs : madeCells #[.slice none 0 0] n = cs) (w : World) :
    (Instr.makeSlice 82 (.int .i64 (n : Int)) (.int .i64 (n : Int))).run Tryz.prog w = .ok (.slice (some ⟨w.heap.size, 0, none⟩) n n) (w.alloc (.cells cs 53)) := by
  obtain ⟨i, hi, hz⟩ := Option.map_eq_some_iff.1 Tryz.rowInfo
  simp only [Prod.mk.injEq] at hz
  obtain ⟨hz0, hz1, hz2⟩ := hz
  have h := run_make (P := Tryz.prog) w 82 53 i _ Tryz.underlying82 hi hz0 .i64 .i64 n n (by omega) (by omega) (by rw [hz2]; omega) (by omega)
  rw [hz1] at h
  simp only [Int.toNat_natCast, Nat.mul_one] at h
  rw [h, ← hcs]
  rfl
theorem made_row (n c : Nat) (hc : c < n) : (madeCells #[.slice none 0 0] n)[c]? = some (.slice none 0 0) := by
  simp [madeCells, hc, Nat.mod_one]
theorem all_start {w w1 W : World} {M B C : Nat} (hb0 : Below w.heap.size w w1) (hm : MailAt W (Plus (fun _ => False) w1 W) M B C (fun _ => []) 0) (hb : Below w1.heap.size w1 W) (cs : Array Value) (t : TypeId) (hcs : ∀ c, c < C → cs[c]? = some (.slice none 0 0)) :
    AllAt w M B C W.heap.size (fun _ => .slice none 0 0) (fun _ => []) (fun _ => []) 0 (W.alloc (.cells cs t)) := by
  have h := heap_alloc_new W (.cells cs t)
  have h1 : Below W.heap.size W (W.alloc (.cells cs t)) := (Below.refl _ _).alloc (Nat.le_refl _) _
  have hs := hb0.size
  have hs2 := hb.size
  refine ⟨_, hm.below h1, ?_, bk_lt h, fun c hc => (bk_cell h c).trans (hcs c hc), fun c hc => .inl ⟨rfl, rfl⟩, fun i => bk_free h i, ?_, by omega, bl_trans (bl_trans hb0 hb) h1⟩
  · rintro (hi | hi)
    · exact hi
    · omega
  · rintro i (hi | hi)
    · exact hi.elim
    · omega
theorem mop_off (a : Addr) (m j : Nat) (hj : 0 < j) : (⟨(a.add m).block, (a.add m).off + j, none⟩ : Addr) = a.add (m + j) := by
  unfold Addr.add
  by_cases hm : m = 0
  · subst hm
    rw [if_pos rfl, if_neg (by omega), Nat.zero_add]
  · rw [if_neg hm, if_neg (by omega), Nat.add_assoc]
/-- A list that has a number: where it lies. -/
theorem ListAt.head {W : World} {S : Nat → Prop} {A : Nat} {v : Value} {x : Int} {l : List Int} (h : ListAt W S A v (x :: l)) : ∃ a cap, v = .slice (some a) (l.length + 1) cap ∧ l.length + 1 ≤ cap ∧ cap ≤ 9223372036854775807 ∧ W.cell? (a.add 0) = some (.int .u64 x) := by
  rcases h with ⟨_, h⟩ | ⟨a, cap, rfl, h1, h2, h3, _⟩
  · cases h
  · exact ⟨a, cap, rfl, h1, h2, h3 0 (by simp)⟩
theorem add_add_w (a : Addr) (i j : Nat) : (a.add i).add j = a.add (i + j) := Addr.add_add a i j
theorem ListAt.tail {W : World} {S : Nat → Prop} {A : Nat} {a : Addr} {n cap : Nat} {x : Int} {l : List Int} (h : ListAt W S A (.slice (some a) n cap) (x :: l)) (b : Addr) (hb : b = a.add 1 ∨ cap = 1 ∧ b = a) : ListAt W S A (.slice (some b) l.length (cap - 1)) l := by
  rcases h with ⟨h, _⟩ | ⟨a', cap', he, h1, h2, h3, h4, h5, h6⟩
  · cases h
  · injection he with he1 he2 he3
    injection he1 with he1
    subst he1 he2 he3
    have hblk : b.block = a.block := by
      rcases hb with rfl | ⟨_, rfl⟩
      · exact add_block a 1
      · rfl
    refine .inr ⟨b, cap - 1, rfl, by simp at h1; omega, by omega, fun i hi => ?_, by rw [hblk]; exact h4, by rw [hblk]; exact h5, by rw [hblk]; exact h6⟩
    rcases hb with rfl | ⟨hc, rfl⟩
    · rw [add_add_w, Nat.add_comm 1 i]
      exact h3 (i + 1) (by simp; omega)
    · simp at h1
      omega
theorem op_head {w W : World} {M B C A : Nat} {V : Nat → Value} {Lm Lw : Nat → List Int} {k O : Nat} {cs : Array Value} (h : OpAt w M B C A V Lm Lw k O cs W) (c : Nat) (hc : c < C) (x : Int) (l : List Int) (hl : Lw c = x :: l) : ∃ a cap, V c = .slice (some a) (l.length + 1) cap ∧ l.length + 1 ≤ cap ∧ cap ≤ 9223372036854775807 ∧ W.cell? (a.add 0) = some (.int .u64 x) := by
  obtain ⟨S, h, _⟩ := h
  have := h.lists c hc
  rw [hl] at this
  exact this.head
theorem op_tail {w W : World} {M B C A : Nat} {V : Nat → Value} {Lm Lw : Nat → List Int} {k O : Nat} {cs : Array Value} (h : OpAt w M B C A V Lm Lw k O cs W) (c : Nat) (hc : c < C) (x : Int) (l : List Int) (hl : Lw c = x :: l) (a b : Addr) (n cap : Nat) (hv : V c = .slice (some a) n cap) (hb : b = a.add 1 ∨ cap = 1 ∧ b = a) :
    OpAt w M B C A (upV V c (.slice (some b) l.length (cap - 1))) Lm (upL Lw c l) k O cs (W.setCell ⟨A, c, none⟩ (.slice (some b) l.length (cap - 1))) := by
  obtain ⟨S, h, h2, h3, h4⟩ := h
  have hL := h.lists c hc
  rw [hl, hv] at hL
  exact ⟨S, h.store hc (hL.tail b hb), (Below.heap_setCell _ _ _ O h4).trans h2, h3, h4⟩
end Go.Proofs.YtfpnpgpelncgeaaGreatDoor
