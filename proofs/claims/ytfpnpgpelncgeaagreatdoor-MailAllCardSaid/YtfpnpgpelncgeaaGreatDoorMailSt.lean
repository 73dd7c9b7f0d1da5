/- What is proved here: what the statement MailAll keeps beside a Mail: an array of its own lists; and what each call leaves of both. Conditions: those that each theorem names. -/
import Derived.Test.YtfpnpgpelncgeaaGreatDoorMailOrd
namespace Go.Proofs.YtfpnpgpelncgeaaGreatDoor
open Go.RowKit Go.Extern.Stop Go.Stop Go.Extern Go.Maps

/-- A list of the statement's own, outside of the Mail's blocks and of the array. -/
def ListAt (W : World) (S : Nat → Prop) (A : Nat) (v : Value) (l : List Int) : Prop :=
  (v = .slice none 0 0 ∧ l = []) ∨ ∃ a cap, v = .slice (some a) l.length cap ∧ l.length ≤ cap ∧ cap ≤ 9223372036854775807 ∧ (∀ i, i < l.length → W.cell? (a.add i) = some (.int .u64 (gz l i))) ∧ ¬ S a.block ∧ a.block ≠ A ∧ a.block < W.heap.size
theorem add_block (a : Addr) (i : Nat) : (a.add i).block = a.block := by
  unfold Addr.add
  split <;> rfl
theorem ListAt.out {W W' : World} {S S' : Nat → Prop} {A : Nat} {v : Value} {l : List Int} (h : ListAt W S A v l) (hs : W.heap.size ≤ W'.heap.size) (hb : ∀ g, g < W.heap.size → ¬ S g → g ≠ A → W'.heap[g]? = W.heap[g]?) (hS : ∀ g, g < W.heap.size → S' g → S g) : ListAt W' S' A v l := by
  rcases h with h | ⟨a, cap, rfl, h1, h2, h3, h4, h5, h6⟩
  · exact .inl h
  · exact .inr ⟨a, cap, rfl, h1, h2, fun i hi => (World.cell?_of_block (a := a.add i) (by rw [add_block]; exact hb _ h6 h4 h5)).trans (h3 i hi), fun x => h4 (hS _ h6 x), h5, Nat.lt_of_lt_of_le h6 hs⟩
theorem ListAt.of_own {W : World} {S : Nat → Prop} {A b : Nat} {v : Value} {l : List Int} (h : W.ownsRow b 22 1 v l.length (wordsV l)) (hS : ∀ i, S i → i < b) (hA : A < b) : ListAt W S A v l := by
  have h0 := h
  rcases h.2 with ⟨rfl, hn⟩ | ⟨g, cap, cur, rfl, hbg, hg, hnc, hcm, _⟩
  · exact .inl ⟨rfl, List.eq_nil_of_length_eq_zero hn⟩
  · refine .inr ⟨⟨g, 0, none⟩, cap, rfl, hnc, by unfold maxLen at hcm; omega, fun i hi => ?_, fun hs => by have := hS g hs; omega, by show g ≠ A; omega, bk_lt hg⟩
    refine h0.cells (g := g) rfl i _ ?_
    unfold wordsV
    rw [List.getElem?_map, gz_at hi]
    rfl
theorem own_low {W : World} {b b' n : Nat} {e : TypeId} {v : Value} {xs : List Value} (h : W.ownsRow b e 1 v n xs) (hb : b' ≤ b) : W.ownsRow b' e 1 v n xs := own_base h hb
/-- put on such a list. -/
theorem lput (S : Nat → Prop) (A : Nat) (v : Value) (l : List Int) (x : Int) (W : World) (hS : ∀ i, S i → i < W.heap.size) (hA : A < W.heap.size) (h : ListAt W S A v l) (hl : l.length ≤ 900) :
    Calls Tryz.prog 60 #[v, .int .u64 x] W fun r W' => ∃ ao n cap, r = .returned (.slice ao n cap) ∧ ListAt W' S A (.slice ao n cap) (putL l x) ∧ Below W.heap.size W W' := by
  have fin : ∀ {e : Ending} {W' : World} {v' : Value} {l' : List Int}, e = .returned v' → W'.ownsRow W.heap.size 22 1 v' l'.length (wordsV l') → l' = putL l x → Below W.heap.size W W' → ∃ ao n cap, e = .returned (.slice ao n cap) ∧ ListAt W' S A (.slice ao n cap) (putL l x) ∧ Below W.heap.size W W' := by
    intro e W' v' l' he ho hll hb
    subst hll
    have hL := ListAt.of_own (S := S) (A := A) ho hS hA
    rcases ho.2 with ⟨rfl, hn⟩ | ⟨g, cap, cur, rfl, _⟩
    · exact ⟨_, _, _, he, hL, hb⟩
    · exact ⟨_, _, _, he, hL, hb⟩
  rcases h with ⟨rfl, rfl⟩ | ⟨a, cap, rfl, h1, h2, h3, h4, h5, h6⟩
  · refine (put_nil x W).mono ?_
    rintro e w' ⟨v', he, ho, hb⟩
    exact fin (l' := [x]) he ho rfl hb
  · obtain ⟨k, hk, hlt, hn⟩ := put_place (gz l) x l.length
    have hr : (List.range l.length).map (gz l) = l := list_range l
    by_cases hf : k < l.length ∧ gz l k = x
    · refine (put_found a l.length cap (by omega) (gz l) x W h3 k hf.1 hf.2 hlt).mono ?_
      rintro e w' ⟨rfl, rfl⟩
      have hp := putL_found (gz l) x k l.length hf.1 hlt hf.2
      rw [hr] at hp
      exact ⟨_, _, _, rfl, by rw [hp]; exact .inr ⟨a, cap, rfl, h1, h2, h3, h4, h5, h6⟩, Below.refl _ _⟩
    · have hn' : k < l.length → x < gz l k := fun h => by
        have e1 := hn h
        have e2 : ¬ gz l k = x := fun e3 => hf ⟨h, e3⟩
        have e1' : x ≤ gz l k := e1
        omega
      refine (put_new a l.length cap h1 (by omega) h2 (gz l) x W h3 k hk hn' hlt).mono ?_
      rintro e w' ⟨v', he, ho, hb⟩
      have hp := putL_new (gz l) x k l.length hk hlt hn'
      rw [hr] at hp
      rw [← hp] at ho
      have hlen : (putL l x).length = l.length + 1 := by
        rw [hp]; simp; omega
      exact fin he (by rw [hlen]; exact ho) rfl hb
/-- The statement's Mail and its own array A of lists: the Mail holds Lm, the array Lw in the values V. -/
structure AllS (w : World) (S : Nat → Prop) (M B C A : Nat) (V : Nat → Value) (Lm Lw : Nat → List Int) (k : Nat) (W : World) : Prop where
  mail : MailAt W S M B C Lm k
  sA : ¬ S A
  al : A < W.heap.size
  arr : ∀ c, c < C → W.cell? ⟨A, c, none⟩ = some (V c)
  lists : ∀ c, c < C → ListAt W S A (V c) (Lw c)
  free : ∀ i, W.frozen? ⟨A, i, none⟩ = false
  low : ∀ i, S i → w.heap.size ≤ i
  lowA : w.heap.size ≤ A
  below : Below w.heap.size w W
theorem MailAt.sl {w : World} {S : Nat → Prop} {M B C : Nat} {L : Nat → List Int} {k : Nat} (h : MailAt w S M B C L k) : ∀ i, S i → i < w.heap.size := by
  obtain ⟨v, b, h⟩ := h
  exact h.sl
theorem AllS.mailed {w W W' : World} {S : Nat → Prop} {M B C A : Nat} {V : Nat → Value} {Lm Lm' Lw : Nat → List Int} {k k' : Nat} (h : AllS w S M B C A V Lm Lw k W) (hm : MailAt W' (Plus S W W') M B C Lm' k') (ho : Only S W W') : AllS w (Plus S W W') M B C A V Lm' Lw k' W' := by
  refine ⟨hm, fun hp => hp.elim h.sA fun hp => by have := h.al; omega, Nat.lt_of_lt_of_le h.al ho.2.2.2.1, fun c hc => ?_, fun c hc => (h.lists c hc).out ho.2.2.2.1 (fun g hg hs _ => ho.2.2.2.2 g hg hs) fun g hg hp => hp.elim id fun hp => by omega, fun i => ?_, plus_low h.below.size h.low, h.lowA, low_only h.below ho h.low⟩
  · exact (World.cell?_of_block (a := ⟨A, c, none⟩) (ho.2.2.2.2 A h.al h.sA)).trans (h.arr c hc)
  · exact (World.frozen?_of_block (a := ⟨A, i, none⟩) (ho.2.2.2.2 A h.al h.sA)).trans (h.free i)
theorem AllS.under {w W W' : World} {S : Nat → Prop} {M B C A : Nat} {V : Nat → Value} {Lm Lw : Nat → List Int} {k : Nat} (h : AllS w S M B C A V Lm Lw k W) (hb : Below W.heap.size W W') : AllS w S M B C A V Lm Lw k W' :=
  ⟨h.mail.below hb, h.sA, Nat.lt_of_lt_of_le h.al hb.size, fun c hc => (hb.cell (p := ⟨A, c, none⟩) h.al).trans (h.arr c hc), fun c hc => (h.lists c hc).out hb.size (fun g hg _ _ => hb.block g hg) fun _ _ x => x, fun i => (hb.frozen (p := ⟨A, i, none⟩) h.al).trans (h.free i), h.low, h.lowA, bl_trans h.below hb⟩
/-- One value of the array is another. -/
def upV (V : Nat → Value) (c : Nat) (v : Value) (d : Nat) : Value := if d = c then v else V d
theorem AllS.store {w W : World} {S : Nat → Prop} {M B C A c : Nat} {V : Nat → Value} {Lm Lw : Nat → List Int} {k : Nat} (h : AllS w S M B C A V Lm Lw k W) (hc : c < C) {v : Value} {l : List Int} (hl : ListAt W S A v l) : AllS w S M B C A (upV V c v) Lm (upL Lw c l) k (W.setCell ⟨A, c, none⟩ v) := by
  have hblk : ∀ i, i ≠ A → (W.setCell ⟨A, c, none⟩ v).heap[i]? = W.heap[i]? := fun i hi => Below.heap_setCell _ _ _ i hi
  have hsz : (W.setCell ⟨A, c, none⟩ v).heap.size = W.heap.size := by simp
  refine ⟨h.mail.out (Nat.le_of_eq hsz.symm) fun i hi => hblk i (fun e => h.sA (e ▸ hi)), h.sA, by rw [hsz]; exact h.al, fun d hd => ?_, fun d hd => ?_, fun i => by rw [World.frozen?_setCell]; exact h.free i, h.low, h.lowA, h.below.setCell (p := ⟨A, c, none⟩) h.lowA v⟩
  · by_cases hdc : d = c
    · subst hdc
      simp only [upV, if_pos]
      exact World.cell?_setCell_same _ _ _ (h.arr d hd)
    · simp only [upV, if_neg hdc]
      rw [World.cell?_setCell_other _ _ _ _ (fun e => hdc (congrArg Addr.off e).symm)]
      exact h.arr d hd
  · have hx : ListAt W S A (upV V c v d) (upL Lw c l d) := by
      unfold upV upL
      by_cases hdc : d = c
      · rw [if_pos hdc, if_pos hdc]
        exact hl
      · rw [if_neg hdc, if_neg hdc]
        exact h.lists d hd
    exact hx.out (Nat.le_of_eq hsz.symm) (fun g _ _ hg => hblk g hg) fun _ _ x => x
/-- With the operation at hand in block O. -/
def OpAt (w : World) (M B C A : Nat) (V : Nat → Value) (Lm Lw : Nat → List Int) (k O : Nat) (cs : Array Value) (W : World) : Prop :=
  ∃ S, AllS w S M B C A V Lm Lw k W ∧ W.heap[O]? = some (.cells cs 84 (0, 0)) ∧ ¬ S O ∧ O ≠ A
def AllAt (w : World) (M B C A : Nat) (V : Nat → Value) (Lm Lw : Nat → List Int) (k : Nat) (W : World) : Prop := ∃ S, AllS w S M B C A V Lm Lw k W
theorem AllAt.op {w W : World} {M B C A : Nat} {V : Nat → Value} {Lm Lw : Nat → List Int} {k : Nat} (h : AllAt w M B C A V Lm Lw k W) (cs : Array Value) : OpAt w M B C A V Lm Lw k W.heap.size cs (W.alloc (.cells cs 84)) := by
  obtain ⟨S, h⟩ := h
  exact ⟨S, h.under ((Below.refl _ _).alloc (Nat.le_refl _) _), heap_alloc_new _ _, fun hs => by have := h.mail.sl _ hs; omega, by have := h.al; omega⟩
theorem OpAt.all {w W : World} {M B C A : Nat} {V : Nat → Value} {Lm Lw : Nat → List Int} {k O : Nat} {cs : Array Value} (h : OpAt w M B C A V Lm Lw k O cs W) : AllAt w M B C A V Lm Lw k W := by
  obtain ⟨S, h, _⟩ := h
  exact ⟨S, h⟩
theorem OpAt.mailed {w W W' : World} {S : Nat → Prop} {M B C A : Nat} {V : Nat → Value} {Lm Lm' Lw : Nat → List Int} {k k' O : Nat} {cs : Array Value} (h : AllS w S M B C A V Lm Lw k W) (hO : W.heap[O]? = some (.cells cs 84 (0, 0))) (hs : ¬ S O) (hA : O ≠ A) (hm : MailAt W' (Plus S W W') M B C Lm' k') (ho : Only S W W') : OpAt w M B C A V Lm' Lw k' O cs W' :=
  ⟨_, h.mailed hm ho, (ho.2.2.2.2 O (bk_lt hO) hs).trans hO, fun hp => hp.elim hs fun hp => by have := bk_lt hO; omega, hA⟩
theorem OpAt.drewN {w W : World} {M B C A : Nat} {V : Nat → Value} {Lm Lw : Nat → List Int} {k O : Nat} {cs : Array Value} (h : OpAt w M B C A V Lm Lw k O cs W) (n : Nat) : OpAt w M B C A V Lm Lw k O cs (W.drewN n) := by
  obtain ⟨S, h, h2⟩ := h
  exact ⟨S, h.under (dn (Below.refl _ _) n), h2⟩
theorem AllAt.drewN {w W : World} {M B C A : Nat} {V : Nat → Value} {Lm Lw : Nat → List Int} {k : Nat} (h : AllAt w M B C A V Lm Lw k W) (n : Nat) : AllAt w M B C A V Lm Lw k (W.drewN n) := by
  obtain ⟨S, h⟩ := h
  exact ⟨S, h.under (dn (Below.refl _ _) n)⟩
theorem OpAt.cells {w W : World} {M B C A : Nat} {V : Nat → Value} {Lm Lw : Nat → List Int} {k O : Nat} {cs : Array Value} (h : OpAt w M B C A V Lm Lw k O cs W) (i : Nat) : W.cell? ⟨O, i, none⟩ = cs[i]? := by
  obtain ⟨S, h, h2, _⟩ := h
  exact bk_cell h2 i
theorem op_send {w W : World} {M B C A : Nat} {V : Nat → Value} {Lm Lw : Nat → List Int} {k O : Nat} {cs : Array Value} (h : OpAt w M B C A V Lm Lw k O cs W) (f t : Nat) (e : Int) (hf : f < C) (ht : t < C) (hne : ¬ t = f) (he : (Lit.int .u64 e).wf = true) (hk : k ≤ 800) : Calls Tryz.prog 59 #[.pointer (some ⟨M, 0, none⟩), .int .i64 f, .int .i64 t, .int .u64 e] W fun r W' => r = .returned (.bool true) ∧ OpAt w M B C A V (upL Lm t (putL (Lm t) e)) Lw (k + 1) O cs W' := by
  obtain ⟨S, h, h2, h3, h4⟩ := h
  refine (msend_ok M B C S Lm k f t e hf ht hne he hk W h.mail).mono ?_
  rintro r W' ⟨rfl, hm, ho⟩
  exact ⟨rfl, OpAt.mailed h h2 h3 h4 hm ho⟩
theorem op_send_no {w W : World} {M B C A : Nat} {V : Nat → Value} {Lm Lw : Nat → List Int} {k O : Nat} {cs : Array Value} (h : OpAt w M B C A V Lm Lw k O cs W) (f t e : Int) (hno : sendB C f t = false) : Calls Tryz.prog 59 #[.pointer (some ⟨M, 0, none⟩), .int .i64 f, .int .i64 t, .int .u64 e] W fun r W' => r = .returned (.bool false) ∧ W = W' := by
  obtain ⟨S, h, h2, h3, h4⟩ := h
  exact msend_no M B C f t e hno W h.mail.top
theorem op_all {w W : World} {M B C A : Nat} {V : Nat → Value} {Lm Lw : Nat → List Int} {k O : Nat} {cs : Array Value} (h : OpAt w M B C A V Lm Lw k O cs W) (f : Nat) (e : Int) (hf : f < C) (hC : C ≤ 8) (he : (Lit.int .u64 e).wf = true) (hk : k ≤ 700) : Calls Tryz.prog 61 #[.pointer (some ⟨M, 0, none⟩), .int .i64 f, .int .u64 e] W fun r W' => r = .returned (.int .i64 ((C - 1 : Nat) : Nat)) ∧ OpAt w M B C A V (LA Lm f e C) Lw (k + C) O cs W' := by
  obtain ⟨S, h, h2, h3, h4⟩ := h
  refine (mall_in M B C S Lm k f e hf hC he hk W h.mail).mono ?_
  rintro r W' ⟨rfl, hm, ho⟩
  exact ⟨rfl, OpAt.mailed h h2 h3 h4 hm ho⟩
theorem op_all_no {w W : World} {M B C A : Nat} {V : Nat → Value} {Lm Lw : Nat → List Int} {k O : Nat} {cs : Array Value} (h : OpAt w M B C A V Lm Lw k O cs W) (f e : Int) (hf : f < 0 ∨ (C : Int) ≤ f) (hC : C ≤ 8) : Calls Tryz.prog 61 #[.pointer (some ⟨M, 0, none⟩), .int .i64 f, .int .u64 e] W fun r W' => r = .returned (.int .i64 0) ∧ W = W' := by
  obtain ⟨S, h, h2, h3, h4⟩ := h
  exact mall_out M B C f e hf hC W h.mail.top
theorem op_take {w W : World} {M B C A : Nat} {V : Nat → Value} {Lm Lw : Nat → List Int} {k O : Nat} {cs : Array Value} (h : OpAt w M B C A V Lm Lw k O cs W) (c : Nat) (m : Int) (l : List Int) (hc : c < C) (hL : Lm c = m :: l) (hk : k ≤ 800) : Calls Tryz.prog 62 #[.pointer (some ⟨M, 0, none⟩), .int .i64 c] W fun r W' => r = .returned (.tuple #[.int .u64 m, .bool true]) ∧ OpAt w M B C A V (upL Lm c l) Lw k O cs W' := by
  obtain ⟨S, h, h2, h3, h4⟩ := h
  refine (mtake_some M B C S Lm k c m l hc hL hk W h.mail).mono ?_
  rintro r W' ⟨rfl, hm, ho⟩
  exact ⟨rfl, OpAt.mailed h h2 h3 h4 hm ho⟩
theorem op_take_none {w W : World} {M B C A : Nat} {V : Nat → Value} {Lm Lw : Nat → List Int} {k O : Nat} {cs : Array Value} (h : OpAt w M B C A V Lm Lw k O cs W) (c : Nat) (hc : c < C) (hL : Lm c = []) : Calls Tryz.prog 62 #[.pointer (some ⟨M, 0, none⟩), .int .i64 c] W fun r W' => r = .returned (.tuple #[.int .u64 0, .bool false]) ∧ W = W' := by
  obtain ⟨S, h, h2, h3, h4⟩ := h
  exact mtake_none M B C S Lm k c hc hL W h.mail
theorem op_take_out {w W : World} {M B C A : Nat} {V : Nat → Value} {Lm Lw : Nat → List Int} {k O : Nat} {cs : Array Value} (h : OpAt w M B C A V Lm Lw k O cs W) (x : Int) (hx : x < 0 ∨ (C : Int) ≤ x) : Calls Tryz.prog 62 #[.pointer (some ⟨M, 0, none⟩), .int .i64 x] W fun r W' => r = .returned (.tuple #[.int .u64 0, .bool false]) ∧ W = W' := by
  obtain ⟨S, h, h2, h3, h4⟩ := h
  exact mtake_out M B C x hx W h.mail.top
theorem op_waits {w W : World} {M B C A : Nat} {V : Nat → Value} {Lm Lw : Nat → List Int} {k : Nat} (h : AllAt w M B C A V Lm Lw k W) (c : Nat) (hc : c < C) : Calls Tryz.prog 63 #[.pointer (some ⟨M, 0, none⟩), .int .i64 c] W fun r W' => r = .returned (.int .i64 ((Lm c).length : Nat)) ∧ W = W' := by
  obtain ⟨S, h⟩ := h
  exact mwaits_in M B C S Lm k c hc W h.mail
theorem op_waits_out {w W : World} {M B C A : Nat} {V : Nat → Value} {Lm Lw : Nat → List Int} {k : Nat} (h : AllAt w M B C A V Lm Lw k W) : Calls Tryz.prog 63 #[.pointer (some ⟨M, 0, none⟩), .int .i64 C] W fun r W' => r = .returned (.int .i64 0) ∧ W = W' := by
  obtain ⟨S, h⟩ := h
  exact mwaits_out M B C S Lm k C (.inr (Int.le_refl _)) W h.mail
/-- put on a list of the array, and what the array is when it is stored. -/
theorem op_put {w W : World} {M B C A : Nat} {V : Nat → Value} {Lm Lw : Nat → List Int} {k O : Nat} {cs : Array Value} (h : OpAt w M B C A V Lm Lw k O cs W) (c : Nat) (x : Int) (hc : c < C) (hl : (Lw c).length ≤ 900) : Calls Tryz.prog 60 #[V c, .int .u64 x] W fun r W' => ∃ ao n cap, r = .returned (.slice ao n cap) ∧ OpAt w M B C A V Lm Lw k O cs W' ∧ OpAt w M B C A (upV V c (.slice ao n cap)) Lm (upL Lw c (putL (Lw c) x)) k O cs (W'.setCell ⟨A, c, none⟩ (.slice ao n cap)) := by
  obtain ⟨S, h, h2, h3, h4⟩ := h
  refine (lput S A (V c) (Lw c) x W h.mail.sl h.al (h.lists c hc) hl).mono ?_
  rintro r W' ⟨ao, n, cap, rfl, hL, hb⟩
  have h' := h.under hb
  have hO := (hb.block O (bk_lt h2)).trans h2
  exact ⟨ao, n, cap, rfl, ⟨S, h', hO, h3, h4⟩, S, h'.store hc hL, (Below.heap_setCell _ _ _ O h4).trans hO, h3, h4⟩
/-- The array's cells, and its values as slices. -/
theorem op_arr {w W : World} {M B C A : Nat} {V : Nat → Value} {Lm Lw : Nat → List Int} {k : Nat} (h : AllAt w M B C A V Lm Lw k W) (c : Nat) (hc : c < C) : W.cell? ⟨A, c, none⟩ = some (V c) ∧ W.frozen? ⟨A, c, none⟩ = false ∧ ∃ ao cap, V c = .slice ao (Lw c).length cap := by
  obtain ⟨S, h⟩ := h
  refine ⟨h.arr c hc, h.free c, ?_⟩
  rcases h.lists c hc with ⟨h1, h2⟩ | ⟨a, cap, h1, _⟩
  · exact ⟨none, 0, by rw [h2]; exact h1⟩
  · exact ⟨_, _, h1⟩
theorem all_below {w W : World} {M B C A : Nat} {V : Nat → Value} {Lm Lw : Nat → List Int} {k : Nat} (h : AllAt w M B C A V Lm Lw k W) : Below w.heap.size w W := by
  obtain ⟨S, h⟩ := h
  exact h.below
theorem all_good {w W : World} {M B C A : Nat} {V : Nat → Value} {Lm Lw : Nat → List Int} {k : Nat} (h : AllAt w M B C A V Lm Lw k W) (c : Nat) (hc : c < C) : (Lm c).length ≤ k := by
  obtain ⟨S, h⟩ := h
  obtain ⟨v, b, hm⟩ := h.mail
  exact (hm.good c hc).2.1
end Go.Proofs.YtfpnpgpelncgeaaGreatDoor
