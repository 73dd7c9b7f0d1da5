/- What is proved here: the document's buffer beside the program's: what it does where the plain functions of a walk fill, flush or find; the document's words beside the program's. Conditions: the buffers lie in the blocks that are named. -/
import Derived.Test.YtmifcfkchnilmaaGreatDoorTlbP
import Derived.Test.YtmifcfkchnilmaaGreatDoorGUser
import Derived.Test.YtmifcfkchnilmaaGreatDoorGKerE
namespace Go.Proofs.YtmifcfkchnilmaaGreatDoor
open Go.RowKit Go.Extern.Stop Go.Stop Go.Extern
def LinesOk (g : Nat → Int) : Prop := ∀ k, k < 8 → ¬ g (k * 5 + 4) = 0 → lineB (g (k * 5)) (g (k * 5 + 1)) (g (k * 5 + 2)) (g (k * 5 + 3)) = true
theorem LinesOk.start : LinesOk fun _ => 0 := fun _ _ h => absurd rfl h
theorem LinesOk.fill {g : Nat → Int} (h : LinesOk g) {k : Nat} {e p f r : Int} (hl : lineB e p f r = true) : LinesOk (fillG g k e p f r) := by
  intro j hj h4
  by_cases hjk : j = k
  · subst hjk
    obtain ⟨o0, o1, o2, o3, _⟩ := fillG_own g j e p f r
    rw [o0, o1, o2, o3]
    exact hl
  · have e0 := fillG_far g k e p f r j 0 hjk (by omega) hj
    have e1 := fillG_far g k e p f r j 1 hjk (by omega) hj
    have e2 := fillG_far g k e p f r j 2 hjk (by omega) hj
    have e3 := fillG_far g k e p f r j 3 hjk (by omega) hj
    have e4 := fillG_far g k e p f r j 4 hjk (by omega) hj
    rw [Nat.add_zero] at e0
    rw [e4] at h4
    rw [e0, e1, e2, e3]
    exact h j hj h4
theorem LinesOk.clear {g : Nat → Int} (h : LinesOk g) (k : Nat) : LinesOk (clearG g k) := by
  intro j hj h4
  by_cases hjk : j = k
  · subst hjk
    exact absurd (clearG_own g j).2.2.2.2 h4
  · have e0 := clearG_far g k j 0 hjk (by omega)
    have e1 := clearG_far g k j 1 hjk (by omega)
    have e2 := clearG_far g k j 2 hjk (by omega)
    have e3 := clearG_far g k j 3 hjk (by omega)
    have e4 := clearG_far g k j 4 hjk (by omega)
    rw [Nat.add_zero] at e0
    rw [e4] at h4
    rw [e0, e1, e2, e3]
    exact h j hj h4
theorem ref_fill {g h : Nat → Int} {d : Int} (R : Nat) (H : Sim g h d) (hb : h 40 ≤ 1000) (hL : LinesOk g) (e p f r : Int) :
    ∃ (b : Bool) (h' : Nat → Int), (∀ W, NumsIs 41 W R h → Calls Tryz.prog 38 #[.pointer (some ⟨R, 0, none⟩), .agg #[.int .i64 e, .int .i64 p, .int .i64 f, .int .i64 r]] W (Ret R (.bool b) h' W)) ∧ Sim (fillS g e p f r) h' d ∧ h' 40 ≤ h 40 + 1 ∧ LinesOk (fillS g e p f r) := by
  have h40 : 0 ≤ h 40 ∧ h 40 ≤ 1000 := by have := H.1; have := H.2.1; have := H.2.2.1; omega
  unfold fillS
  cases hl : lineB e p f r
  · rw [if_neg (by decide)]
    refine ⟨false, h, fun W ht => (rfill_no R e p f r W hl).mono ?_, H, by omega, hL⟩
    rintro e' w' ⟨rfl, hb⟩
    exact ⟨rfl, ht.later hb, tp_below hb⟩
  · rw [if_pos rfl]
    have hpp := (lineB_yes hl).2.1
    rcases sim_first H e p with ⟨k, hk, hp, hit, hno, rhit, rno⟩ | ⟨hno, rno⟩
    · have n2 := fillH_now h k e p f r hk
      rw [where_hit hk hit hno, if_pos hk]
      refine ⟨true, _, fun W ht => (rfill_hit R h e p f r W ht h40 hl k hk rhit rno).mono ?_, H.fill hk hl hp.2.2, by omega, hL.fill hl⟩
      rintro e' w' ⟨rfl, hg, ho⟩
      exact ⟨rfl, hg, ho⟩
    · have hs : ∃ s : Nat, s < 4 ∧ p % 4 = (s : Int) := ⟨(p % 4).toNat, by omega, by omega⟩
      obtain ⟨s, hs, hps⟩ := hs
      have hk := old_in g s hs
      have n2 := fillH_now h (old g s) e p f r hk.1
      rw [where_no hno, if_neg (by omega), hps, Int.toNat_natCast]
      refine ⟨true, fillH h (old g s) e p f r, fun W ht => (rfill_new R h e p f r W ht h40 hl rno s hs hps).mono ?_, H.fill hk.1 hl (by rw [hk.2]; exact hps), by omega, hL.fill hl⟩
      rintro e' w' ⟨rfl, hg, ho⟩
      rw [H.old hs] at hg
      exact ⟨rfl, hg, ho⟩
theorem own_fill {g h : Nat → Int} {d : Int} (T : Nat) (H : Sim g h d) (hb : h 40 ≤ 1000) (e p f r : Int) :
    ∃ b : Bool, ∀ W, NumsIs 41 W T g → Calls Tryz.prog 37 #[.pointer (some ⟨T, 0, none⟩), .agg #[.int .i64 e, .int .i64 p, .int .i64 f, .int .i64 r]] W (Ret T (.bool b) (fillS g e p f r) W) := by
  have g40 : 0 ≤ g 40 ∧ g 40 ≤ 1000 := by have := H.1; have := H.2.1; have := H.2.2.1; omega
  unfold fillS
  cases hl : lineB e p f r
  · rw [if_neg (by decide)]
    refine ⟨false, fun W ht => (tfill_no T e p f r W hl).mono ?_⟩
    rintro e' w' ⟨rfl, hb⟩
    exact ⟨rfl, ht.later hb, tp_below hb⟩
  · rw [if_pos rfl]
    have hpp := (lineB_yes hl).2.1
    rcases sim_first H e p with ⟨k, hk, hp, hit, hno, _, _⟩ | ⟨hno, _⟩
    · rw [where_hit hk hit hno, if_pos hk]
      refine ⟨true, fun W ht => (tfill_hit T g e p f r W ht g40 hl k hk hp.2.2 hit hno).mono ?_⟩
      rintro e' w' ⟨rfl, hg, ho⟩
      exact ⟨rfl, hg, ho⟩
    · have hs : ∃ s : Nat, s < 4 ∧ p % 4 = (s : Int) := ⟨(p % 4).toNat, by omega, by omega⟩
      obtain ⟨s, hs, hps⟩ := hs
      rw [where_no hno, if_neg (by omega), hps, Int.toNat_natCast]
      refine ⟨true, fun W ht => (tfill_new T g e p f r W ht g40 hl hno s hs hps).mono ?_⟩
      rintro e' w' ⟨rfl, hg, ho⟩
      exact ⟨rfl, hg, ho⟩
theorem ref_flush {g h : Nat → Int} {d : Int} (R : Nat) (H : Sim g h d) (hL : LinesOk g) (e p : Int) :
    ∃ (b : Bool) (h' : Nat → Int), (∀ W, NumsIs 41 W R h → Calls Tryz.prog 46 #[.pointer (some ⟨R, 0, none⟩), .int .i64 e, .int .i64 p] W (Ret R (.bool b) h' W)) ∧ Sim (flushS g e p) h' d ∧ h' 40 = h 40 ∧ LinesOk (flushS g e p) := by
  unfold flushS
  rcases sim_first H e p with ⟨k, hk, hp, hit, hno, rhit, rno⟩ | ⟨hno, rno⟩
  · rw [where_hit hk hit hno, if_pos hk]
    refine ⟨true, _, fun W ht => (rflush_hit R h e p W ht k hk rhit rno).mono ?_, H.clear hk, noneH_now h _ hk, hL.clear k⟩
    rintro e' w' ⟨rfl, hg, ho⟩
    exact ⟨rfl, hg, ho⟩
  · rw [where_no hno, if_neg (by omega)]
    refine ⟨false, h, fun W ht => (rflush_no R h e p W ht rno).mono ?_, H, rfl, hL⟩
    rintro e' w' ⟨rfl, rfl⟩
    exact ⟨rfl, ht, tp_below (Below.refl _ _)⟩
theorem ref_find {g h : Nat → Int} {d : Int} (R : Nat) (H : Sim g h d) (hL : LinesOk g) (e p : Int) :
    ∃ (b : Bool) (x0 x1 x2 x3 : Int), (∀ W, NumsIs 41 W R h → Calls Tryz.prog 44 #[.pointer (some ⟨R, 0, none⟩), .int .i64 e, .int .i64 p] W fun e w' => e = .returned (.tuple #[.agg #[.int .i64 x0, .int .i64 x1, .int .i64 x2, .int .i64 x3], .bool b]) ∧ Below W.heap.size W w') ∧
      ((b = true ∧ whereN g e p < 8 ∧ g (whereN g e p * 5) = x0 ∧ g (whereN g e p * 5 + 1) = x1 ∧ g (whereN g e p * 5 + 2) = x2 ∧ g (whereN g e p * 5 + 3) = x3 ∧ 0 ≤ x2 ∧ x2 < 16) ∨ (b = false ∧ whereN g e p = 8 ∧ x3 = 0)) := by
  rcases sim_first H e p with ⟨k, hk, hp, hit, hno, rhit, rno⟩ | ⟨hno, rno⟩
  · have h0 := (of_decide_eq_true hit).1
    have hl := (lineB_yes (hL k hk h0)).2.2.1
    refine ⟨true, g (k * 5), g (k * 5 + 1), g (k * 5 + 2), g (k * 5 + 3), fun W ht => ?_, Or.inl ⟨rfl, ?_⟩⟩
    · have hr := rFind_hit R h e p W ht k hk rhit rno
      rcases H.2.2.2 k hk with ⟨a, _⟩ | ⟨_, _, _, _, _, _, _, a0, a1, a2, a3, _⟩
      · exact absurd a h0
      · rw [a0, a1, a2, a3] at hr
        exact hr
    · rw [where_hit hk hit hno]
      exact ⟨hk, rfl, rfl, rfl, rfl, hl.1, hl.2⟩
  · exact ⟨false, 0, 0, 0, 0, fun W ht => rFind_no R h e p W ht rno, Or.inr ⟨rfl, where_no hno, rfl⟩⟩
theorem Sim.buf {g h : Nat → Int} {d : Int} (H : Sim g h d) (h40 : h 40 ≤ 1000) : BufOk g :=
  ⟨fun _ _ _ hk hh => H.page hk hh, H.1, by have := H.2.1; have := H.2.2.1; omega⟩
def MemAs (mg : Nat → Int) (k : KernS) : Prop := ∀ f a : Nat, f < 16 → a < 16 → mg (f * 16 + a) = k.mm f a
theorem MemAs.word {mg : Nat → Int} {k : KernS} (h : MemAs mg k) {f a : Nat} (hf : f < 16) (ha : a < 16) {kind : Int} (hk : 20 ≤ kind ∧ kind ≤ 23) (x3 x4 : Int) : memV mg 16 (f : Int) a kind = wordT k f a kind ∧ MemAs (memS mg 16 (f : Int) a kind x3 x4) (wordS k f a kind x3 x4) := by
  have e0 := h f a hf ha
  constructor
  · unfold memV wordT
    rw [Int.toNat_natCast]
    by_cases h21 : kind = 21
    · rw [if_neg (fun hc => hc.2.2 h21), if_pos h21]
    · rw [if_pos ⟨by omega, by omega, h21⟩, if_neg h21, e0]
  · intro f' a' hf' ha'
    unfold memS
    rw [Int.toNat_natCast]
    have hset : ∀ v : Int, (k.setWord f a v).mm f' a' = if f' = f ∧ a' = a then v else k.mm f' a' := fun _ => rfl
    by_cases hc : f' = f ∧ a' = a
    · obtain ⟨rfl, rfl⟩ := hc
      rw [if_pos ⟨by omega, by omega, rfl⟩]
      unfold wordS
      rcases (show kind = 20 ∨ kind = 21 ∨ kind = 22 ∨ kind = 23 by omega) with rfl | rfl | rfl | rfl
      · simp [e0]
      · simp [hset]
      · by_cases h3 : k.mm f' a' = x3
        · simp [e0, h3, hset]
        · simp [e0, h3]
      · simp [e0, hset]
    · rw [if_neg (fun h2 => hc (by omega)), h f' a' hf' ha']
      unfold wordS
      rcases (show kind = 20 ∨ kind = 21 ∨ kind = 22 ∨ kind = 23 by omega) with rfl | rfl | rfl | rfl
      · simp
      · simp [hset, hc]
      · by_cases h3 : k.mm f a = x3
        · simp [h3, hset, hc]
        · simp [h3]
      · simp [hset, hc]
theorem MemAs.new (c e f : Int) : MemAs (fun _ => 0) (newK c e f) := fun _ _ _ _ => rfl
theorem walk_frame {g tg : Nat → Int} (hL : LinesOk g) (hT : TabOk tg) {e p : Nat} (hp : p < 8) {kind : Int} (hk : kind = 20 ∨ kind = 21 ∨ kind = 22 ∨ kind = 23) {g' : Nat → Int} {l0 l1 l2 l3 : Int} (hw : walkS g tg (e : Int) (p : Int) kind = (g', (l0, l1, l2, l3), true)) : ∃ f : Nat, l2 = (f : Int) ∧ f < 16 := by
  have hn : ∀ r, withinB (needN kind) r = true → ¬ r = 0 := by
    rintro r hr rfl
    rcases hk with rfl | rfl | rfl | rfl <;> exact absurd hr (by decide)
  unfold walkS at hw
  by_cases h1 : whereN g (e : Int) (p : Int) < 8 ∧ withinB (needN kind) (g (whereN g (e : Int) (p : Int) * 5 + 3)) = true
  · rw [if_pos h1] at hw
    injection hw with _ hw
    injection hw with hw _
    injection hw with _ hw
    injection hw with _ hw
    injection hw with hw _
    have hh : hitB g (e : Int) (p : Int) (whereN g (e : Int) (p : Int)) = true := by
      rcases first_or (hitB g (e : Int) (p : Int)) 8 with ⟨k, hk8, hit, hno⟩ | hno
      · rw [where_hit hk8 hit hno]
        exact hit
      · exact absurd h1.1 (by rw [where_no hno]; decide)
    have hl := (lineB_yes (hL _ h1.1 (of_decide_eq_true hh).1)).2.2.1
    exact ⟨l2.toNat, by omega, by omega⟩
  · rw [if_neg h1, Int.toNat_natCast] at hw
    cases hr : withinB (needN kind) (tg (p * 3 + 2))
    · rw [hr, if_neg (by decide)] at hw
      injection hw with _ hw
      injection hw with _ hw
      exact absurd hw (by decide)
    · rw [hr, if_pos rfl] at hw
      injection hw with _ hw
      injection hw with hw _
      injection hw with _ hw
      injection hw with _ hw
      injection hw with hw _
      rcases hT p hp with h0 | h0
      · exact absurd h0 (hn _ hr)
      · exact ⟨l2.toNat, by omega, by omega⟩
end Go.Proofs.YtmifcfkchnilmaaGreatDoor

