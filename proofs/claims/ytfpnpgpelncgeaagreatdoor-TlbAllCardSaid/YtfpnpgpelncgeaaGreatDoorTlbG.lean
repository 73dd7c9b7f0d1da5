/- What is proved here: contracts of package tlb's Fill and Flush by what they keep: of no environment's page there are two entries. Conditions: a buffer lies in the block that is named. -/
import Derived.Test.YtfpnpgpelncgeaaGreatDoorTlbF
import Derived.Test.YtfpnpgpelncgeaaGreatDoorTlb4
namespace Go.Proofs.YtfpnpgpelncgeaaGreatDoor
open Go.RowKit Go.Extern.Stop Go.Stop Go.Extern

/-- What Fill leaves: a buffer with no two entries of one environment's page, filled n times at the most. -/
def FillP (T : Nat) (n : Int) (w : World) (e : Ending) (w' : World) : Prop :=
  ∃ (b : Bool) (g' : Nat → Int), e = .returned (.bool b) ∧ NumsIs 41 w' T g' ∧ VU g' ∧ 0 ≤ g' 40 ∧ g' 40 ≤ n ∧ OnlyT T w w'
theorem tfill_vu (T : Nat) (g : Nat → Int) (e p f r n : Int) (w : World) (ht : NumsIs 41 w T g) (hv : VU g) (h40 : 0 ≤ g 40 ∧ g 40 ≤ n) (hn : n ≤ 1000) : Calls Tryz.prog 47 #[.pointer (some ⟨T, 0, none⟩), .agg #[.int .i64 e, .int .i64 p, .int .i64 f, .int .i64 r]] w (FillP T (n + 1) w) := by
  cases hl : lineB e p f r
  · refine (tfill_no T e p f r w hl).mono ?_
    rintro e' w' ⟨rfl, hb⟩
    exact ⟨false, g, rfl, ht.later hb, hv, h40.1, by omega, tp_below hb⟩
  · have hpp := (lineB_yes hl).2.1
    rcases first_or (hitB g e p) 8 with ⟨k, hk, hit, hno⟩ | hno
    · refine (tfill_hit T g e p f r w ht ⟨h40.1, by omega⟩ hl k hk (hv.page hk hit).2.2 hit hno).mono ?_
      rintro e' w' ⟨rfl, hg, ho⟩
      have hw := fillG_now g k e p f r hk
      exact ⟨true, _, rfl, hg, hv.fill hk hl (hv.page hk hit).2.2 (hv.one hk hit), by omega, by omega, ho⟩
    · have hs : ∃ s : Nat, s < 4 ∧ p % 4 = (s : Int) := ⟨(p % 4).toNat, by omega, by omega⟩
      obtain ⟨s, hs, hps⟩ := hs
      refine (tfill_new T g e p f r w ht ⟨h40.1, by omega⟩ hl hno s hs hps).mono ?_
      rintro e' w' ⟨rfl, hg, ho⟩
      have hk := old_in g s hs
      have hw := fillG_now g (old g s) e p f r hk.1
      exact ⟨true, _, rfl, hg, hv.fill hk.1 hl (by rw [hk.2]; exact hps) (fun j hj _ => hno j hj), by omega, by omega, ho⟩
/-- What Flush leaves. -/
def FlushP (T : Nat) (g : Nat → Int) (e p : Int) (w : World) (x : Ending) (w' : World) : Prop :=
  ∃ G : Nat → Int, x = .returned (.bool (hitN g e p 8)) ∧ NumsIs 41 w' T G ∧ TakenG g G e p ∧ OnlyT T w w'
theorem tflush_vu (T : Nat) (g : Nat → Int) (e p : Int) (w : World) (ht : NumsIs 41 w T g) (hv : VU g) : Calls Tryz.prog 51 #[.pointer (some ⟨T, 0, none⟩), .int .i64 e, .int .i64 p] w (FlushP T g e p w) := by
  rcases first_or (hitB g e p) 8 with ⟨k, hk, hit, hno⟩ | hno
  · refine (tflush_hit T g e p w ht k hk (hv.page hk hit) hit hno).mono ?_
    rintro e' w' ⟨rfl, hg, ho⟩
    exact ⟨_, by rw [hitN_yes hit 8 hk], hg, taken_hit hv hk hit, ho⟩
  · refine (tflush_no T g e p w ht hno).mono ?_
    rintro e' w' ⟨rfl, rfl⟩
    exact ⟨g, by rw [hitN_no 8 hno], ht, taken_no hno, tp_below (Below.refl _ _)⟩
theorem cell_low {w : World} {a : Addr} {v : Value} (h : w.cell? a = some v) : a.block < w.heap.size := World.block_lt_of_cell? w a h
theorem tfind_any (T : Nat) (g : Nat → Int) (e p : Int) (w : World) (ht : NumsIs 41 w T g) (n : Nat) (hn8 : n < 8) (hp : 0 ≤ p ∧ p < 8 ∧ p % 4 = ((n / 2 : Nat) : Int)) (hit : hitB g e p n = true) (hn : ∀ k, k < n → hitB g e p k = false) {x0 x1 x2 x3 : Int} (hL : g (n * 5) = x0 ∧ g (n * 5 + 1) = x1 ∧ g (n * 5 + 2) = x2 ∧ g (n * 5 + 3) = x3) : Calls Tryz.prog 45 #[.pointer (some ⟨T, 0, none⟩), .int .i64 e, .int .i64 p] w fun e w' => e = .returned (.tuple #[.agg #[.int .i64 x0, .int .i64 x1, .int .i64 x2, .int .i64 x3], .bool true]) ∧ Below w.heap.size w w' := by
  obtain ⟨rfl, rfl, rfl, rfl⟩ := hL
  exact tfind_hit T g e p w ht n hn8 hp hit hn
theorem ln_off (a : Addr) (m j : Nat) (hj : 0 < j) : (⟨(a.add m).block, (a.add m).off + j, none⟩ : Addr) = a.add (m + j) := by
  unfold Addr.add
  by_cases hm : m = 0
  · subst hm
    rw [if_pos rfl, if_neg (by omega), Nat.zero_add]
  · rw [if_neg hm, if_neg (by omega), Nat.add_assoc]
theorem hitN_succ (g : Nat → Int) (e p : Int) (k : Nat) : hitN g e p (k + 1) = (hitN g e p k || hitB g e p k) := rfl
theorem cntN_yes {g : Nat → Int} {e p f : Int} {k : Nat} (h : ¬ g (k * 5 + 4) = 0 ∧ hitB g e p k = false ∧ g (k * 5 + 2) = f) : cntN g e p f (k + 1) = cntN g e p f k + 1 := if_pos h
theorem cntN_no {g : Nat → Int} {e p f : Int} {k : Nat} (h : ¬ (¬ g (k * 5 + 4) = 0 ∧ hitB g e p k = false ∧ g (k * 5 + 2) = f)) : cntN g e p f (k + 1) = cntN g e p f k := if_neg h
end Go.Proofs.YtfpnpgpelncgeaaGreatDoor
