/- What is proved here: objects side by side, each with blocks of its own, and what a call of one leaves of the others; the objects that the statements' beginning makes. Conditions: those that each theorem names. -/
import Derived.Test.YtfpnpgpelncgeaaGreatDoorGParts
import Derived.Test.YtfpnpgpelncgeaaGreatDoorGMail
import Derived.Test.YtfpnpgpelncgeaaGreatDoorGCell
namespace Go.Proofs.YtfpnpgpelncgeaaGreatDoor
open Go.RowKit Go.Extern.Stop Go.Stop Go.Extern Go.Maps

/-- An object: its blocks S, and what is known of it, P, which hangs on these blocks alone. -/
structure Thing where
  S : Nat → Prop
  P : World → Prop
  foot : ∀ W W', P W → W.heap.size ≤ W'.heap.size → (∀ i, S i → i < W.heap.size → W'.heap[i]? = W.heap[i]?) → P W'
  lt : ∀ W, P W → ∀ i, S i → i < W.heap.size
/-- Objects side by side in W, all of them made since w, which is there as it was. -/
def Side (w W : World) : List Thing → Prop
  | [] => Below w.heap.size w W
  | o :: l => o.P W ∧ (∀ i, o.S i → w.heap.size ≤ i) ∧ (∀ q, q ∈ l → ∀ i, o.S i → ¬ q.S i) ∧ Side w W l
theorem Side.below {w W : World} : ∀ {l : List Thing}, Side w W l → Below w.heap.size w W
  | [], h => h
  | _ :: _, h => Side.below h.2.2.2
theorem Side.lt {w W : World} : ∀ {l : List Thing}, Side w W l → ∀ q, q ∈ l → ∀ i, q.S i → i < W.heap.size
  | [], _, _, hq, _, _ => by cases hq
  | o :: l, h, q, hq, i, hi => by
    rcases List.mem_cons.1 hq with rfl | hq
    · exact q.lt W h.1 i hi
    · exact Side.lt h.2.2.2 q hq i hi
theorem Side.under {w W W' : World} (hb : Below W.heap.size W W') : ∀ {l : List Thing}, Side w W l → Side w W' l
  | [], h => bl_trans h hb
  | o :: _, h => ⟨o.foot W W' h.1 hb.size fun i _ hi => hb.block i hi, h.2.1, h.2.2.1, Side.under hb h.2.2.2⟩
theorem Side.make {w W W' : World} {l : List Thing} (h : Side w W l) (hb : Below W.heap.size W W') (o : Thing) (ho : o.P W') (hn : ∀ i, o.S i → W.heap.size ≤ i) : Side w W' (o :: l) :=
  ⟨ho, fun i hi => Nat.le_trans h.below.size (hn i hi), fun q hq i hi hqi => by have := h.lt q hq i hqi; have := hn i hi; omega, h.under hb⟩
theorem Side.only {w W W' : World} {S : Nat → Prop} (ho : Only S W W') (hS : ∀ i, S i → w.heap.size ≤ i) : ∀ {l : List Thing}, Side w W l → (∀ q, q ∈ l → ∀ i, S i → ¬ q.S i) → Side w W' l
  | [], h, _ => by
    obtain ⟨h1, h2, h3, h4, h5⟩ := ho
    have h : Below w.heap.size w W := h
    exact ⟨h1.trans h.os, h2.trans h.tape, h3.trans h.output, Nat.le_trans h.size h4, fun i hi => (h5 i (Nat.lt_of_lt_of_le hi h.size) (fun hs => by have := hS i hs; omega)).trans (h.block i hi)⟩
  | o :: l, h, hd => ⟨o.foot W W' h.1 ho.2.2.2.1 fun i hi hl => ho.2.2.2.2 i hl fun hs => hd o (List.mem_cons_self ..) i hs hi, h.2.1, h.2.2.1, Side.only ho hS h.2.2.2 fun q hq => hd q (List.mem_cons_of_mem _ hq)⟩
/-- A call of the object o, which leaves it as o', and makes blocks of its own. -/
theorem Side.step {w W W' : World} {o : Thing} (o' : Thing) {l2 : List Thing} (hp : o'.P W') (hn : ∀ i, o'.S i → o.S i ∨ W.heap.size ≤ i) (ho : Only o.S W W') : ∀ (l1 : List Thing), Side w W (l1 ++ o :: l2) → Side w W' (l1 ++ o' :: l2)
  | [], h => by
    obtain ⟨h1, h2, h3, h4⟩ := h
    refine ⟨hp, fun i hi => ?_, fun q hq i hi hqi => ?_, h4.only ho h2 h3⟩
    · rcases hn i hi with h | h
      · exact h2 i h
      · exact Nat.le_trans h4.below.size h
    · rcases hn i hi with h | h
      · exact h3 q hq i h hqi
      · have := h4.lt q hq i hqi
        omega
  | q :: l1, h => by
    obtain ⟨h1, h2, h3, h4⟩ := h
    have hqo : ∀ i, q.S i → ¬ o.S i := h3 o (List.mem_append_right _ (List.mem_cons_self ..))
    refine ⟨q.foot W W' h1 ho.2.2.2.1 fun i hi hl => ho.2.2.2.2 i hl (hqo i hi), h2, fun r hr i hi hri => ?_, Side.step o' hp hn ho l1 h4⟩
    rcases List.mem_append.1 hr with hr | hr
    · exact h3 r (List.mem_append_left _ hr) i hi hri
    · rcases List.mem_cons.1 hr with rfl | hr
      · rcases hn i hri with h | h
        · exact hqo i hi h
        · have := q.lt W h1 i hi
          omega
      · exact h3 r (List.mem_append_right _ (List.mem_cons_of_mem _ hr)) i hi hri
theorem Side.at {w W : World} {o : Thing} {l2 : List Thing} : ∀ (l1 : List Thing), Side w W (l1 ++ o :: l2) → o.P W
  | [], h => h.1
  | _ :: l1, h => Side.at l1 h.2.2.2
theorem only_T {W W' : World} {T : Nat} (h : OnlyT T W W') : Only (fun i => i = T) W W' := ⟨h.os, h.tape, h.output, h.size, fun i hi hn => h.block i hi fun e => hn (by injection e with e)⟩

/-- One block as it is. -/
def fixT (B : Nat) (o : Obj) : Thing := ⟨fun i => i = B, fun W => W.heap[B]? = some o, fun _ _ h _ hb => (hb B rfl (bk_lt h)).trans h, fun _ h i hi => by subst hi; exact bk_lt h⟩
def cellT (C : Nat) (v n : Int) : Thing := ⟨fun i => i = C, fun W => CellB W C 0 v n, fun _ _ h _ hb => (hb C rfl (bk_lt h)).trans h, fun _ h i hi => by subst hi; exact bk_lt h⟩
def memT (M F n : Nat) (g : Nat → Int) : Thing := ⟨fun i => i = M ∨ i = F, fun W => MemIs W M F n g, fun W W' h hs hb => by
    obtain ⟨h1, h2, h3, h4, h5, h6⟩ := h
    have hM := hb M (Or.inl rfl) h5
    have hF := hb F (Or.inr rfl) h6
    exact ⟨h1, (World.cell?_of_block (a := ⟨M, 0, none⟩) hM).trans h2, fun j hj => (World.cell?_of_block (a := ⟨F, j, none⟩) hF).trans (h3 j hj), fun j => (World.frozen?_of_block (a := ⟨F, j, none⟩) hF).trans (h4 j), Nat.lt_of_lt_of_le h5 hs, Nat.lt_of_lt_of_le h6 hs⟩,
  fun W h i hi => by
    rcases hi with rfl | rfl
    · exact h.2.2.2.2.1
    · exact h.2.2.2.2.2⟩
def tabT (T : Nat) (g : Nat → Int) : Thing := ⟨fun i => i = T, fun W => TabIs W T g, fun W W' h hs hb => by
    obtain ⟨h1, h2, h3⟩ := h
    have hT := hb T rfl h3
    exact ⟨fun j hj => (World.cell?_of_block (a := ⟨T, j, none⟩) hT).trans (h1 j hj), fun j => (World.frozen?_of_block (a := ⟨T, j, none⟩) hT).trans (h2 j), Nat.lt_of_lt_of_le h3 hs⟩,
  fun W h i hi => by subst hi; exact h.2.2⟩
def numT (n T : Nat) (g : Nat → Int) : Thing := ⟨fun i => i = T, fun W => NumsIs n W T g, fun W W' h hs hb => by
    obtain ⟨h1, h2, h3⟩ := h
    have hT := hb T rfl h3
    exact ⟨fun j hj => (World.cell?_of_block (a := ⟨T, j, none⟩) hT).trans (h1 j hj), fun j => (World.frozen?_of_block (a := ⟨T, j, none⟩) hT).trans (h2 j), Nat.lt_of_lt_of_le h3 hs⟩,
  fun W h i hi => by subst hi; exact h.2.2⟩
theorem MailAt.low {w : World} {S : Nat → Prop} {M B C : Nat} {L : Nat → List Int} {k : Nat} (h : MailAt w S M B C L k) : ∀ i, S i → i < w.heap.size := by
  obtain ⟨v, b, h⟩ := h
  exact h.sl
def mailT (S : Nat → Prop) (X B C : Nat) (L : Nat → List Int) (k : Nat) : Thing := ⟨S, fun W => MailAt W S X B C L k, fun _ _ h hs hb => h.out hs fun i hi => hb i hi (h.low i hi), fun _ h => h.low⟩
theorem only_mono {S S' : Nat → Prop} {w w' : World} (h : Only S w w') (hs : ∀ i, S i → S' i) : Only S' w w' := ⟨h.1, h.2.1, h.2.2.1, h.2.2.2.1, fun i hi hn => h.2.2.2.2 i hi fun h => hn (hs i h)⟩
def lockT (U A E : Nat) (d p q : Int) : Thing := ⟨fun i => i = U ∨ i = A ∨ i = E, fun W => LockAt W U A E d p q, fun _ _ h _ hb => by
    obtain ⟨n, m, h, h1⟩ := h
    exact ⟨n, m, ⟨(hb U (Or.inl rfl) (bk_lt h.top)).trans h.top, (hb A (Or.inr (Or.inl rfl)) (bk_lt h.one)).trans h.one, (hb E (Or.inr (Or.inr rfl)) (bk_lt h.two)).trans h.two, h.lc, h.ld, h.cd⟩, h1⟩,
  fun _ h i hi => by
    obtain ⟨n, m, h, _⟩ := h
    rcases hi with rfl | rfl | rfl
    · exact bk_lt h.top
    · exact bk_lt h.one
    · exact bk_lt h.two⟩
def poolT (Y Z n : Nat) (r : Nat → Int) : Thing := ⟨fun i => i = Y ∨ i = Z, fun W => PoolIs W Y Z n r, fun W W' h hs hb => h.foot hs (hb Y (Or.inl rfl) h.low.1) (hb Z (Or.inr rfl) h.low.2),
  fun W h i hi => by
    rcases hi with rfl | rfl
    · exact h.low.1
    · exact h.low.2⟩
/-- The objects of the statements' beginning. -/
def Objs (M F T R X B C : Nat) (S : Nat → Prop) (g h : Nat → Int) (L : Nat → List Int) (k : Nat) (v n : Int) (U A E : Nat) (d p q : Int) (Y Z : Nat) (r : Nat → Int) : List Thing := [poolT Y Z 2 r, lockT U A E d p q, cellT C v n, mailT S X B 3 L k, numT 41 R h, tabT T g, memT M F 2 (fun _ => 0)]
def Live (w : World) (M F T R X B C : Nat) (S : Nat → Prop) (g h : Nat → Int) (L : Nat → List Int) (k : Nat) (v n : Int) (U A E : Nat) (d p q : Int) (Y Z : Nat) (r : Nat → Int) (W : World) : Prop := Side w W (Objs M F T R X B C S g h L k v n U A E d p q Y Z r)
section
variable {w W W' : World} {M F T R X B C : Nat} {S : Nat → Prop} {g h : Nat → Int} {L : Nat → List Int} {k : Nat} {v n : Int} {U A E : Nat} {d p q : Int} {Y Z : Nat} {r : Nat → Int}
theorem Live.start {w1 w2 w3 w4 w5 w6 w7 : World} (h1 : Below w.heap.size w w1) (hm : MemIs w1 M F 2 (fun _ => 0)) (hl : w.heap.size ≤ M ∧ w.heap.size ≤ F) (h2 : Below w1.heap.size w1 w2) (ht : TabIs w2 T (fun _ => 0)) (hT : T = w1.heap.size) (h3 : Below w2.heap.size w2 w3) (hr : NumsIs 41 w3 R (fun _ => 0)) (hR : R = w2.heap.size)
    (h4 : Below w3.heap.size w3 w4) (hx : MailAt w4 (Plus (fun _ => False) w3 w4) X B 3 (fun _ => []) 0) (h5 : Below w4.heap.size w4 w5) (hc : CellB w5 C 0 5 0) (hC : w4.heap.size ≤ C)
    (h6 : Below w5.heap.size w5 w6) (hk : LockAt w6 U A E 0 0 0) (hU : w5.heap.size ≤ U) (hA : w5.heap.size ≤ A) (hE : w5.heap.size ≤ E) (h7 : Below w6.heap.size w6 w7) (hp : PoolIs w7 Y Z 2 (fun _ => 0)) (hY : w6.heap.size ≤ Y) (hZ : w6.heap.size ≤ Z) :
    Live w M F T R X B C (Plus (fun _ => False) w3 w4) (fun _ => 0) (fun _ => 0) (fun _ => []) 0 5 0 U A E 0 0 0 Y Z (fun _ => 0) w7 := by
  have a1 : Side w w1 [memT M F 2 (fun _ => 0)] := Side.make (l := []) (show Side w w [] from Below.refl _ _) h1 _ hm (fun i hi => hi.elim (fun h => h ▸ hl.1) (fun h => h ▸ hl.2))
  have a2 := a1.make h2 (tabT T (fun _ => 0)) ht (fun i hi => by have hi : i = T := hi; omega)
  have a3 := a2.make h3 (numT 41 R (fun _ => 0)) hr (fun i hi => by have hi : i = R := hi; omega)
  have a4 := a3.make h4 (mailT (Plus (fun _ => False) w3 w4) X B 3 (fun _ => []) 0) hx (fun i hi => hi.elim False.elim fun h => h.1)
  have a5 := a4.make h5 (cellT C 5 0) hc (fun i hi => by have hi : i = C := hi; omega)
  have a6 := a5.make h6 (lockT U A E 0 0 0) hk (fun i hi => by have hi : i = U ∨ i = A ∨ i = E := hi; omega)
  exact a6.make h7 (poolT Y Z 2 (fun _ => 0)) hp (fun i hi => by have hi : i = Y ∨ i = Z := hi; omega)
theorem Live.below (l : Live w M F T R X B C S g h L k v n U A E d p q Y Z r W) : Below w.heap.size w W := Side.below l
theorem Live.under (l : Live w M F T R X B C S g h L k v n U A E d p q Y Z r W) (hb : Below W.heap.size W W') : Live w M F T R X B C S g h L k v n U A E d p q Y Z r W' := Side.under hb l
theorem Live.pool (l : Live w M F T R X B C S g h L k v n U A E d p q Y Z r W) : PoolIs W Y Z 2 r := Side.at (o := poolT Y Z 2 r) [] l
theorem Live.lock (l : Live w M F T R X B C S g h L k v n U A E d p q Y Z r W) : LockAt W U A E d p q := Side.at (o := lockT U A E d p q) [poolT Y Z 2 r] l
theorem Live.cell (l : Live w M F T R X B C S g h L k v n U A E d p q Y Z r W) : CellB W C 0 v n := Side.at (o := cellT C v n) [poolT Y Z 2 r, lockT U A E d p q] l
theorem Live.mail (l : Live w M F T R X B C S g h L k v n U A E d p q Y Z r W) : MailAt W S X B 3 L k := Side.at (o := mailT S X B 3 L k) [poolT Y Z 2 r, lockT U A E d p q, cellT C v n] l
theorem Live.buf (l : Live w M F T R X B C S g h L k v n U A E d p q Y Z r W) : NumsIs 41 W R h := Side.at (o := numT 41 R h) [poolT Y Z 2 r, lockT U A E d p q, cellT C v n, mailT S X B 3 L k] l
theorem Live.tab (l : Live w M F T R X B C S g h L k v n U A E d p q Y Z r W) : TabIs W T g := Side.at (o := tabT T g) [poolT Y Z 2 r, lockT U A E d p q, cellT C v n, mailT S X B 3 L k, numT 41 R h] l
theorem Live.mem (l : Live w M F T R X B C S g h L k v n U A E d p q Y Z r W) : MemIs W M F 2 (fun _ => 0) := Side.at (o := memT M F 2 (fun _ => 0)) [poolT Y Z 2 r, lockT U A E d p q, cellT C v n, mailT S X B 3 L k, numT 41 R h, tabT T g] l
theorem Live.pooled {r' : Nat → Int} (l : Live w M F T R X B C S g h L k v n U A E d p q Y Z r W) (hp : PoolIs W' Y Z 2 r') (ho : OnlyT Z W W') : Live w M F T R X B C S g h L k v n U A E d p q Y Z r' W' := Side.step (o := poolT Y Z 2 r) (poolT Y Z 2 r') hp (fun _ h => Or.inl h) (only_mono (only_T ho) fun _ h => Or.inr h) [] l
theorem Live.locked {d' p' q' : Int} (l : Live w M F T R X B C S g h L k v n U A E d p q Y Z r W) (hp : LockAt W' U A E d' p' q') (ho : OnlyL A E W W') : Live w M F T R X B C S g h L k v n U A E d' p' q' Y Z r W' := Side.step (o := lockT U A E d p q) (lockT U A E d' p' q') hp (fun _ h => Or.inl h) (only_mono ho fun _ h => Or.inr h) [poolT Y Z 2 r] l
theorem Live.celled {v' n' : Int} (l : Live w M F T R X B C S g h L k v n U A E d p q Y Z r W) (hp : CellB W' C 0 v' n') (ho : OnlyT C W W') : Live w M F T R X B C S g h L k v' n' U A E d p q Y Z r W' := Side.step (o := cellT C v n) (cellT C v' n') hp (fun _ h => Or.inl h) (only_T ho) [poolT Y Z 2 r, lockT U A E d p q] l
theorem Live.mailed {L' : Nat → List Int} {k' : Nat} (l : Live w M F T R X B C S g h L k v n U A E d p q Y Z r W) (hp : MailAt W' (Plus S W W') X B 3 L' k') (ho : Only S W W') : Live w M F T R X B C (Plus S W W') g h L' k' v n U A E d p q Y Z r W' := Side.step (o := mailT S X B 3 L k) (mailT (Plus S W W') X B 3 L' k') hp (fun _ h => h.elim Or.inl fun h => Or.inr h.1) ho [poolT Y Z 2 r, lockT U A E d p q, cellT C v n] l
theorem Live.filled {h' : Nat → Int} (l : Live w M F T R X B C S g h L k v n U A E d p q Y Z r W) (hp : NumsIs 41 W' R h') (ho : OnlyT R W W') : Live w M F T R X B C S g h' L k v n U A E d p q Y Z r W' := Side.step (o := numT 41 R h) (numT 41 R h') hp (fun _ h => Or.inl h) (only_T ho) [poolT Y Z 2 r, lockT U A E d p q, cellT C v n, mailT S X B 3 L k] l
theorem Live.tabbed {g' : Nat → Int} (l : Live w M F T R X B C S g h L k v n U A E d p q Y Z r W) (hp : TabIs W' T g') (ho : OnlyT T W W') : Live w M F T R X B C S g' h L k v n U A E d p q Y Z r W' := Side.step (o := tabT T g) (tabT T g') hp (fun _ h => Or.inl h) (only_T ho) [poolT Y Z 2 r, lockT U A E d p q, cellT C v n, mailT S X B 3 L k, numT 41 R h] l
/-- A store into the memory: the table and the pool are as they were. -/
theorem Live.stored (l : Live w M F T R X B C S g h L k v n U A E d p q Y Z r W) {i : Nat} (hi : i < 32) (u : Int) : Below w.heap.size w (W.setCell ⟨F, i, none⟩ (.int .u64 u)) ∧ TabIs (W.setCell ⟨F, i, none⟩ (.int .u64 u)) T g ∧ PoolIs (W.setCell ⟨F, i, none⟩ (.int .u64 u)) Y Z 2 r := by
  have s := Side.step (W := W) (W' := W.setCell ⟨F, i, none⟩ (.int .u64 u)) (o := memT M F 2 (fun _ => 0)) (memT M F 2 (fun j => if j = i then u else 0)) (l.mem.set (i := i) (by omega) u) (fun _ h => Or.inl h) ⟨rfl, rfl, rfl, by simp, fun j _ hn => Below.heap_setCell W _ _ j (fun e => hn (Or.inr e))⟩ [poolT Y Z 2 r, lockT U A E d p q, cellT C v n, mailT S X B 3 L k, numT 41 R h, tabT T g] l
  exact ⟨s.below, Side.at (o := tabT T g) [poolT Y Z 2 r, lockT U A E d p q, cellT C v n, mailT S X B 3 L k, numT 41 R h] s, Side.at (o := poolT Y Z 2 r) [] s⟩
/-- A block that is made beside the objects stays as it is in calls of the Mail. -/
theorem Live.low (l : Live w M F T R X B C S g h L k v n U A E d p q Y Z r W) : ∀ i, S i → i < W.heap.size := l.mail.low
end

set_option maxRecDepth 100000 in
theorem new_2 (w : World) : Calls Tryz.prog 76 #[.int .i64 2] w fun e w' => ∃ M F, e = .returned (.pointer (some ⟨M, 0, none⟩)) ∧ Below w.heap.size w w' ∧ MemIs w' M F 2 (fun _ => 0) ∧ w.heap.size ≤ M ∧ w.heap.size ≤ F := by
  obtain ⟨cs, hcs⟩ : ∃ cs : Array Value, cs = Array.replicate 32 (.int .u64 0) := ⟨_, rfl⟩
  have hmk : ∀ W : World, (Instr.makeSlice 167 (.int .i64 2) (.int .i64 2)).run Tryz.prog W = .ok (.slice (some ⟨W.heap.size, 0, none⟩) 2 2) (W.alloc (.cells cs 175)) := fun W => by rw [hcs]; kernel_rfl
  have hat : ∀ j, j < 2 * 16 → cs[j]? = some (.int .u64 0) := fun j hj => by rw [hcs, Array.getElem?_replicate, if_pos hj]
  have HS := Lib.hid hat
  clear hcs hat
  go_enter Tryz.func76, Tryz.ntmps76
  go_wp2_with fail
  go_ret
  have h1 : ((w.alloc (.cells cs 175)).alloc (.cells #[.slice (some ⟨w.heap.size, 0, none⟩) 2 2] 169)).heap[w.heap.size + 1]? = some (.cells #[.slice (some ⟨w.heap.size, 0, none⟩) 2 2] 169 (0, 0)) := by
    have h := heap_alloc_new (w.alloc (.cells cs 175)) (.cells #[.slice (some ⟨w.heap.size, 0, none⟩) 2 2] 169)
    simpa using h
  have h2 : ((w.alloc (.cells cs 175)).alloc (.cells #[.slice (some ⟨w.heap.size, 0, none⟩) 2 2] 169)).heap[w.heap.size]? = some (.cells cs 175 (0, 0)) :=
    (Below.heap_alloc (w.alloc (.cells cs 175)) _ w.heap.size (by simp)).trans (heap_alloc_new w _)
  exact ⟨_, w.heap.size, rfl, ((Below.refl _ _).alloc (Nat.le_refl _) _).alloc (by simp) _, ⟨by omega, bk_cell h1 0, fun j hj => (bk_cell h2 j).trans (HS.out j hj), fun j => bk_free h2 j, bk_lt h1, bk_lt h2⟩, by omega, by omega⟩
end Go.Proofs.YtfpnpgpelncgeaaGreatDoor
