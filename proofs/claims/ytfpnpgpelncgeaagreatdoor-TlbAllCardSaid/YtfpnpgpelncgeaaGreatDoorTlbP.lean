/- What is proved here: the program's buffer and the reference's, side by side: what each call of one answers the other answers, too, and they stay side by side. Conditions: each lies in the block that is named. -/
import Derived.Test.YtfpnpgpelncgeaaGreatDoorTlbG
import Derived.Test.YtfpnpgpelncgeaaGreatDoorBref3
namespace Go.Proofs.YtfpnpgpelncgeaaGreatDoor
open Go.RowKit Go.Extern.Stop Go.Stop Go.Extern

/-- A call that answers v and leaves g' in block T, all else as it was. -/
def Ret (T : Nat) (v : Value) (g' : Nat → Int) (W : World) (e : Ending) (w' : World) : Prop := e = .returned v ∧ NumsIs 41 w' T g' ∧ OnlyT T W w'
theorem sim_first {g h : Nat → Int} {d : Int} (H : Sim g h d) (e p : Int) :
    (∃ k, k < 8 ∧ (0 ≤ p ∧ p < 8 ∧ p % 4 = ((k / 2 : Nat) : Int)) ∧ hitB g e p k = true ∧ (∀ j, j < k → hitB g e p j = false) ∧ rhitB h e p k = true ∧ ∀ j, j < k → rhitB h e p j = false) ∨
    ((∀ j, j < 8 → hitB g e p j = false) ∧ ∀ j, j < 8 → rhitB h e p j = false) := by
  rcases first_or (hitB g e p) 8 with ⟨k, hk, hit, hno⟩ | hno
  · exact .inl ⟨k, hk, H.page hk hit, hit, hno, by rw [← H.hit e p hk]; exact hit, fun j hj => by rw [← H.hit e p (by omega)]; exact hno j hj⟩
  · exact .inr ⟨hno, fun j hj => by rw [← H.hit e p hj]; exact hno j hj⟩
theorem pair_fill {g h : Nat → Int} {d : Int} (T R : Nat) (H : Sim g h d) (hb : h 40 ≤ 1000) (e p f r : Int) :
    ∃ (b : Bool) (g' h' : Nat → Int), (∀ W, NumsIs 41 W T g → Calls Tryz.prog 47 #[.pointer (some ⟨T, 0, none⟩), .agg #[.int .i64 e, .int .i64 p, .int .i64 f, .int .i64 r]] W (Ret T (.bool b) g' W)) ∧
      (∀ W, NumsIs 41 W R h → Calls Tryz.prog 48 #[.pointer (some ⟨R, 0, none⟩), .agg #[.int .i64 e, .int .i64 p, .int .i64 f, .int .i64 r]] W (Ret R (.bool b) h' W)) ∧ Sim g' h' d ∧ h' 40 ≤ h 40 + 1 := by
  have g40 : 0 ≤ g 40 ∧ g 40 ≤ 1000 := by have := H.1; have := H.2.1; have := H.2.2.1; omega
  have h40 : 0 ≤ h 40 ∧ h 40 ≤ 1000 := by have := H.1; have := H.2.1; have := H.2.2.1; omega
  cases hl : lineB e p f r
  · refine ⟨false, g, h, fun W ht => (tfill_no T e p f r W hl).mono ?_, fun W ht => (rfill_no R e p f r W hl).mono ?_, H, by omega⟩
    · rintro e' w' ⟨rfl, hb⟩
      exact ⟨rfl, ht.later hb, tp_below hb⟩
    · rintro e' w' ⟨rfl, hb⟩
      exact ⟨rfl, ht.later hb, tp_below hb⟩
  · have hpp := (lineB_yes hl).2.1
    rcases sim_first H e p with ⟨k, hk, hp, hit, hno, rhit, rno⟩ | ⟨hno, rno⟩
    · have n2 := fillH_now h k e p f r hk
      refine ⟨true, _, _, fun W ht => (tfill_hit T g e p f r W ht g40 hl k hk hp.2.2 hit hno).mono ?_, fun W ht => (rfill_hit R h e p f r W ht h40 hl k hk rhit rno).mono ?_, H.fill hk hl hp.2.2, by omega⟩
      · rintro e' w' ⟨rfl, hg, ho⟩
        exact ⟨rfl, hg, ho⟩
      · rintro e' w' ⟨rfl, hg, ho⟩
        exact ⟨rfl, hg, ho⟩
    · have hs : ∃ s : Nat, s < 4 ∧ p % 4 = (s : Int) := ⟨(p % 4).toNat, by omega, by omega⟩
      obtain ⟨s, hs, hps⟩ := hs
      have hk := old_in g s hs
      have n2 := fillH_now h (old g s) e p f r hk.1
      refine ⟨true, fillG g (old g s) e p f r, fillH h (old g s) e p f r, fun W ht => (tfill_new T g e p f r W ht g40 hl hno s hs hps).mono ?_, fun W ht => (rfill_new R h e p f r W ht h40 hl rno s hs hps).mono ?_, H.fill hk.1 hl (by rw [hk.2]; exact hps), by omega⟩
      · rintro e' w' ⟨rfl, hg, ho⟩
        exact ⟨rfl, hg, ho⟩
      · rintro e' w' ⟨rfl, hg, ho⟩
        rw [H.old hs] at hg
        exact ⟨rfl, hg, ho⟩
theorem Sim.full {g h : Nat → Int} {d : Int} (H : Sim g h d) {k : Nat} (hk : k < 8) : fullB g k = rfullB h k := by
  unfold fullB rfullB
  rcases H.2.2.2 k hk with ⟨h0, h1, _⟩ | ⟨h0, _, h1, _, _, _, _, h2, _⟩
  · rw [h0, h1]; simp
  · rw [h2]
    simp only [decide_eq_decide]
    constructor
    · intro _; exact h1
    · intro _; omega
theorem pair_evict {g h : Nat → Int} {d : Int} (T R : Nat) (H : Sim g h d) (s y : Int) :
    ∃ (b : Bool) (g' h' : Nat → Int), (∀ W, NumsIs 41 W T g → Calls Tryz.prog 49 #[.pointer (some ⟨T, 0, none⟩), .int .i64 s, .int .i64 y] W (Ret T (.bool b) g' W)) ∧
      (∀ W, NumsIs 41 W R h → Calls Tryz.prog 50 #[.pointer (some ⟨R, 0, none⟩), .int .i64 s, .int .i64 y] W (Ret R (.bool b) h' W)) ∧ Sim g' h' d ∧ h' 40 = h 40 := by
  by_cases ho : (s < 0 ∨ 4 ≤ s) ∨ (y < 0 ∨ 2 ≤ y)
  · refine ⟨false, g, h, fun W ht => (tevict_out T s y W ho).mono ?_, fun W ht => (revict_out R s y W ho).mono ?_, H, rfl⟩
    · rintro e' w' ⟨rfl, rfl⟩
      exact ⟨rfl, ht, tp_below (Below.refl _ _)⟩
    · rintro e' w' ⟨rfl, rfl⟩
      exact ⟨rfl, ht, tp_below (Below.refl _ _)⟩
  · obtain ⟨a, rfl⟩ : ∃ a : Nat, s = (a : Int) := ⟨s.toNat, by omega⟩
    obtain ⟨c, rfl⟩ : ∃ c : Nat, y = (c : Int) := ⟨y.toNat, by omega⟩
    have hk : a * 2 + c < 8 := by omega
    refine ⟨fullB g (a * 2 + c), _, _, fun W ht => (tevict_in T a c g W ht (by omega) (by omega)).mono ?_, fun W ht => (revict_in R a c h W ht (by omega) (by omega)).mono ?_, H.clear hk, noneH_now h _ hk⟩
    · rintro e' w' ⟨rfl, hg, ho⟩
      exact ⟨rfl, hg, ho⟩
    · rintro e' w' ⟨rfl, hg, ho⟩
      exact ⟨by rw [H.full hk], hg, ho⟩
theorem pair_flush {g h : Nat → Int} {d : Int} (T R : Nat) (H : Sim g h d) (e p : Int) :
    ∃ (b : Bool) (g' h' : Nat → Int), (∀ W, NumsIs 41 W T g → Calls Tryz.prog 51 #[.pointer (some ⟨T, 0, none⟩), .int .i64 e, .int .i64 p] W (Ret T (.bool b) g' W)) ∧
      (∀ W, NumsIs 41 W R h → Calls Tryz.prog 52 #[.pointer (some ⟨R, 0, none⟩), .int .i64 e, .int .i64 p] W (Ret R (.bool b) h' W)) ∧ Sim g' h' d ∧ h' 40 = h 40 := by
  rcases sim_first H e p with ⟨k, hk, hp, hit, hno, rhit, rno⟩ | ⟨hno, rno⟩
  · refine ⟨true, _, _, fun W ht => (tflush_hit T g e p W ht k hk hp hit hno).mono ?_, fun W ht => (rflush_hit R h e p W ht k hk rhit rno).mono ?_, H.clear hk, noneH_now h _ hk⟩
    · rintro e' w' ⟨rfl, hg, ho⟩
      exact ⟨rfl, hg, ho⟩
    · rintro e' w' ⟨rfl, hg, ho⟩
      exact ⟨rfl, hg, ho⟩
  · refine ⟨false, g, h, fun W ht => (tflush_no T g e p W ht hno).mono ?_, fun W ht => (rflush_no R h e p W ht rno).mono ?_, H, rfl⟩
    · rintro e' w' ⟨rfl, rfl⟩
      exact ⟨rfl, ht, tp_below (Below.refl _ _)⟩
    · rintro e' w' ⟨rfl, rfl⟩
      exact ⟨rfl, ht, tp_below (Below.refl _ _)⟩
theorem rfG_now (h : Nat → Int) (f : Int) : ∀ k, k ≤ 8 → rfG h f k 40 = h 40
  | 0, _ => rfl
  | k + 1, hk => by
    unfold rfG
    split
    · rw [noneH_now _ k (by omega), rfG_now h f k (by omega)]
    · exact rfG_now h f k (by omega)
theorem pair_ff {g h : Nat → Int} {d : Int} (T R : Nat) (H : Sim g h d) (f : Int) :
    ∃ (n : Nat) (g' h' : Nat → Int), (∀ W, NumsIs 41 W T g → Calls Tryz.prog 53 #[.pointer (some ⟨T, 0, none⟩), .int .i64 f] W (Ret T (.int .i64 (n : Int)) g' W)) ∧
      (∀ W, NumsIs 41 W R h → Calls Tryz.prog 54 #[.pointer (some ⟨R, 0, none⟩), .int .i64 f] W (Ret R (.int .i64 (n : Int)) h' W)) ∧ Sim g' h' d ∧ h' 40 = h 40 := by
  obtain ⟨h1, h2⟩ := H.ff f 8 (by omega)
  refine ⟨ffN g f 8, _, _, fun W ht => (tff_any T g f W ht).mono ?_, fun W ht => (rff_any R h f W ht).mono ?_, h1, rfG_now h f 8 (by omega)⟩
  · rintro e' w' ⟨rfl, hg, ho⟩
    exact ⟨rfl, hg, ho⟩
  · rintro e' w' ⟨rfl, hg, ho⟩
    exact ⟨by rw [h2], hg, ho⟩
theorem pair_find {g h : Nat → Int} {d : Int} (T R : Nat) (H : Sim g h d) (e p : Int) :
    ∃ (b : Bool) (x0 x1 x2 x3 : Int), (∀ W, NumsIs 41 W T g → Calls Tryz.prog 45 #[.pointer (some ⟨T, 0, none⟩), .int .i64 e, .int .i64 p] W fun e w' => e = .returned (.tuple #[.agg #[.int .i64 x0, .int .i64 x1, .int .i64 x2, .int .i64 x3], .bool b]) ∧ Below W.heap.size W w') ∧
      (∀ W, NumsIs 41 W R h → Calls Tryz.prog 46 #[.pointer (some ⟨R, 0, none⟩), .int .i64 e, .int .i64 p] W fun e w' => e = .returned (.tuple #[.agg #[.int .i64 x0, .int .i64 x1, .int .i64 x2, .int .i64 x3], .bool b]) ∧ Below W.heap.size W w') := by
  rcases sim_first H e p with ⟨k, hk, hp, hit, hno, rhit, rno⟩ | ⟨hno, rno⟩
  · refine ⟨true, g (k * 5), g (k * 5 + 1), g (k * 5 + 2), g (k * 5 + 3), fun W ht => tfind_hit T g e p W ht k hk hp hit hno, fun W ht => ?_⟩
    have hr := rFind_hit R h e p W ht k hk rhit rno
    have h0 := (of_decide_eq_true hit).1
    rcases H.2.2.2 k hk with ⟨a, _⟩ | ⟨_, _, _, _, _, _, _, a0, a1, a2, a3, _⟩
    · exact absurd a h0
    · rw [a0, a1, a2, a3] at hr
      exact hr
  · exact ⟨false, 0, 0, 0, 0, fun W ht => tfind_no T g e p W ht hno, fun W ht => rFind_no R h e p W ht rno⟩
end Go.Proofs.YtfpnpgpelncgeaaGreatDoor
