/- What is proved here: trap.Depth of an error in which errors.As finds a chain of n + 1 traps, behind which it finds none, is n + 1; where it finds none it is 0. Conditions: the chain lies in memory. -/
import Derived.Test.YtnmlmhhohemffaaDoorMap
import Derived.LoopTactic
namespace Go.Proofs.YtnmlmhhohemffaaDoor
open Go.RowKit Go.Extern.Stop Go.Stop Go.Extern

/-- The block that a pointer leads to, plus one; none: 0. -/
def ptrBlock : Value → Nat | .pointer (some a) => a.block + 1 | _ => 0

/-- What stands at the head of Depth's loop: k traps are counted, m are to come. -/
def DepthRel (w : World) (M n : Nat) (c : Int) (z t ok : Value) (wr : World) : Prop :=
  ∃ m C ps, ps.length + m = n ∧ PMap wr M ps ∧ (∀ p ∈ ps, C ≤ p ∧ p < w.heap.size ∧ IsRow w p) ∧ Below w.heap.size w wr ∧ M < wr.heap.size ∧
    ((m = 0 ∧ t = .pointer none ∧ ok = .bool false) ∨
      ∃ m1 b env k0 k1 k2 k3 k4 v1, m = m1 + 1 ∧ t = .pointer (some ⟨b, 0, none⟩) ∧ ok = .bool true ∧ b < C ∧ b < w.heap.size ∧ TrapAt w b c env k0 k1 k2 k3 k4 v1 ∧ Chain w c z m1 b v1)

theorem depth_miss (err : Value) (w : World) (H : AsMiss w err) :
    Calls Tryd.prog 18 #[err] w fun e w' => e = .returned (.int .i64 0) ∧ Below w.heap.size w w' := by
  have hmm := @run_makeMap Tryd.prog
  have H1 := Lib.hid (first_miss err (w.alloc (.map #[] 0)) (H.later ((Below.refl _ _).alloc (Nat.le_refl _) _)))
  clear H
  have hb0 := Lib.hid ((Below.refl w.heap.size w).alloc (Nat.le_refl _) (.map #[] 0))
  have hM := Lib.hid (PMap.new w)
  go_enter Tryd.func18, Tryd.ntmps18
  go_wp2_with fail
  refine H1.out.mono ?_; rintro e w1 ⟨rfl, hb⟩
  have hM1 := Lib.hid (hM.out.later hb (by simp))
  have hb1 := Lib.hid hb
  clear hb
  go_wp2_with fail
  refine wp_loop_rounds 1 ?_
  rw [rounds_succ]
  go_wp2_with (at_len; refine wpList_len_ptr _ rfl _ rfl _ _ rfl hM1.out ?_)
  go_ret
  exact ⟨rfl, hb0.out.trans (hb1.out.mono (by simp))⟩

theorem depth_hit (err : Value) (n : Nat) (c : Int) (z : Value) (B b0 : Nat) (w : World) (hg : Held w) (H : AsHit w err ⟨b0, 0, none⟩) (hz : ∀ W, Below w.heap.size w W → AsMiss W z)
    (hch : Chain w c z (n + 1) B (.iface 34 (.pointer (some ⟨b0, 0, none⟩)))) (hB : B ≤ w.heap.size) :
    Calls Tryd.prog 18 #[err] w fun e w' => e = .returned (.int .i64 ((n + 1 : Nat) : Int)) ∧ Below w.heap.size w w' := by
  have hmm := @run_makeMap Tryd.prog
  have H1 := Lib.hid (first_hit err _ (w.alloc (.map #[] 0)) (H.later ((Below.refl _ _).alloc (Nat.le_refl _) _)))
  clear H
  have hb0 := Lib.hid ((Below.refl w.heap.size w).alloc (Nat.le_refl _) (.map #[] 0))
  have hM := Lib.hid (PMap.new w)
  go_enter Tryd.func18, Tryd.ntmps18
  go_wp2_with fail
  refine H1.out.mono ?_; rintro e w1 ⟨rfl, hb⟩
  have hM1 := Lib.hid (hM.out.later hb (by simp))
  have hb1 := Lib.hid hb
  clear hb hM
  have Hz := Lib.hid hz
  clear hz
  go_wp2_with fail
  go_loopw [4, 5] (fun t ok wr => DepthRel w w.heap.size (n + 1) c z t ok wr) (fun t _ _ => ptrBlock t)
  case atStart =>
    obtain ⟨b, env, k0, k1, k2, k3, k4, v1, e, hlt, ht, hr⟩ := hch
    obtain rfl : b0 = b := by injection e with _ e; injection e with e; injection e with e; injection e with e
    refine ⟨n + 1, w.heap.size, [], by simp, hM1.out, by simp, hb0.out.trans (hb1.out.mono (by simp)), ?_, Or.inr ⟨n, b0, env, k0, k1, k2, k3, k4, v1, rfl, rfl, rfl, by omega, by omega, ht, hr⟩⟩
    have := hb1.out.size; simp at this; omega
  case round =>
    obtain ⟨m, C, ps, hlen, hP, hps, hbl, hML, hcase⟩ := hrel
    have HP := Lib.hid hP
    have Hbl := Lib.hid hbl
    have Hlen := Lib.hid hlen
    have Hps := Lib.hid hps
    clear hP hbl hlen hps hch
    rcases hcase with ⟨rfl, rfl, rfl⟩ | ⟨m1, b, env, k0, k1, k2, k3, k4, v1, rfl, rfl, rfl, hbC, hbw, htr, hr⟩
    · go_wp2_with (at_len; refine wpList_len_ptr _ rfl _ rfl _ _ rfl HP.out ?_)
      go_ret
      have hl : ps.length = n + 1 := by have := Hlen.out; omega
      rw [hl]
      exact ⟨rfl, Hbl.out⟩
    · have HR : Hid (IsRow wr b) := htr.row.later Hbl.out hbw
      have HPS : Hid (∀ p ∈ ps, p ≠ b ∧ IsRow wr p) := fun p hp => ⟨by have := (Hps.out p hp).1; omega, (Hps.out p hp).2.2.later Hbl.out (Hps.out p hp).2.1⟩
      have HA := Lib.hid ((Below.refl wr.heap.size wr).alloc (Nat.le_refl _) (.cells #[] 57))
      have HP2 := Lib.hid (HP.out.later HA.out hML)
      have HR2 : Hid (IsRow (wr.alloc (.cells #[] 57)) b) := HR.out.later HA.out (by have := Hbl.out.size; omega)
      have HPS2 : Hid (∀ p ∈ ps, p ≠ b ∧ IsRow (wr.alloc (.cells #[] 57)) p) := fun p hp => ⟨(HPS.out p hp).1, (HPS.out p hp).2.later HA.out (by have := Hbl.out.size; have := (Hps.out p hp).2.1; omega)⟩
      have HT := Lib.hid htr
      have Hr := Lib.hid hr
      have HG := Lib.hid hg
      have HW : Hid (∀ w2, (∀ i, i ≠ w.heap.size → w2.heap[i]? = (wr.alloc (.cells #[] 57)).heap[i]?) → Below w.heap.size (wr.alloc (.cells #[] 57)) w2 → Below w.heap.size w w2) := fun w2 _ h2 => (Hbl.out.alloc Hbl.out.size _).trans h2
      clear htr hr hg
      rcases m1 with _ | m2
      · obtain rfl : v1 = z := Hr.out
        have HF : Hid (∀ W, Below w.heap.size w W → Calls Tryd.prog 16 #[v1] W (fun e w' => e = .returned (.tuple #[.pointer none, .bool false]) ∧ Below W.heap.size W w')) := fun W hW => first_miss v1 W (Hz.out W hW)
        go_wp2_with (first
          | (at_lookup; refine wpList_lookup_ptr _ rfl _ _ rfl _ b ps rfl HP.out rfl HR.out HPS.out ?_)
          | (at_mapUpdate; refine wpList_mapUpdate_ptr _ rfl _ _ _ rfl _ b ps rfl HP2.out rfl rfl HR2.out HPS2.out ?_; intro w2 hP2 hb2 hsz2 hot2; have Hw2 := Lib.hid (HW.out w2 hot2 hb2); have HP3 := Lib.hid hP2; have Hsz2 := Lib.hid hsz2; have hc7 := cell_of_block (HT.out.later Hw2.out hbw) 7; clear hP2 hb2 hsz2 hot2)
          | (go_at_call 16; refine (HF.out _ Hw2.out).mono ?_; rintro e w3 ⟨rfl, hb3⟩; have Hb3 := Lib.hid hb3; clear hb3))
        go_roundw
        case rel =>
          have h0 := Hbl.out.size
          have h1 := Hsz2.out
          rw [World.size_alloc] at h1
          exact ⟨0, b, ps ++ [b], by have := Hlen.out; simp; omega, HP3.out.later Hb3.out (by omega), by
            intro p hp
            rcases List.mem_append.1 hp with hp | hp
            · exact ⟨by have := (Hps.out p hp).1; omega, (Hps.out p hp).2⟩
            · obtain rfl := List.mem_singleton.1 hp
              exact ⟨Nat.le_refl _, hbw, HT.out.row⟩, Hw2.out.trans (Hb3.out.mono (by omega)), by have := Hb3.out.size; omega, Or.inl ⟨rfl, rfl, rfl⟩⟩
        case measure => simp [ptrBlock]
      · obtain ⟨b2, env2, q0, q1, q2, q3, q4, v2, rfl, hlt2, htr2, hr2⟩ := Hr.out
        have HT2 := Lib.hid htr2
        have Hr2 := Lib.hid hr2
        clear htr2 hr2 Hr
        have HF : Hid (∀ W, Below w.heap.size w W → Calls Tryd.prog 16 #[.iface 34 (.pointer (some ⟨b2, 0, none⟩))] W (fun e w' => e = .returned (.tuple #[.pointer (some ⟨b2, 0, none⟩), .bool true]) ∧ Below W.heap.size W w')) :=
          fun W hW => first_hit _ _ W (asHit_trap W (HG.out.below hW HG.out.pos) _)
        go_wp2_with (first
          | (at_lookup; refine wpList_lookup_ptr _ rfl _ _ rfl _ b ps rfl HP.out rfl HR.out HPS.out ?_)
          | (at_mapUpdate; refine wpList_mapUpdate_ptr _ rfl _ _ _ rfl _ b ps rfl HP2.out rfl rfl HR2.out HPS2.out ?_; intro w2 hP2 hb2 hsz2 hot2; have Hw2 := Lib.hid (HW.out w2 hot2 hb2); have HP3 := Lib.hid hP2; have Hsz2 := Lib.hid hsz2; have hc7 := cell_of_block (HT.out.later Hw2.out hbw) 7; clear hP2 hb2 hsz2 hot2)
          | (go_at_call 16; refine (HF.out _ Hw2.out).mono ?_; rintro e w3 ⟨rfl, hb3⟩; have Hb3 := Lib.hid hb3; clear hb3))
        go_roundw
        case rel =>
          have h0 := Hbl.out.size
          have h1 := Hsz2.out
          rw [World.size_alloc] at h1
          exact ⟨m2 + 1, b, ps ++ [b], by have := Hlen.out; simp; omega, HP3.out.later Hb3.out (by omega), by
            intro p hp
            rcases List.mem_append.1 hp with hp | hp
            · exact ⟨by have := (Hps.out p hp).1; omega, (Hps.out p hp).2⟩
            · obtain rfl := List.mem_singleton.1 hp
              exact ⟨Nat.le_refl _, hbw, HT.out.row⟩, Hw2.out.trans (Hb3.out.mono (by omega)), by have := Hb3.out.size; omega, Or.inr ⟨m2, b2, env2, q0, q1, q2, q3, q4, v2, rfl, rfl, rfl, hlt2, by omega, HT2.out, Hr2.out⟩⟩
        case measure => simp [ptrBlock]; omega
end Go.Proofs.YtnmlmhhohemffaaDoor
