/- What is proved here: the beginning of the statements of messuagelaw2. Conditions: those that each theorem names. -/
import Derived.Test.YtdfhfmdelinemaaGreatDoorGParts
import Derived.Test.YtdfhfmdelinemaaGreatDoorGMail
import Derived.Test.YtdfhfmdelinemaaGreatDoorGCell
import Derived.Test.YtdfhfmdelinemaaGreatDoorGStage
namespace Go.Proofs.YtdfhfmdelinemaaGreatDoor
open Go.RowKit Go.Extern.Stop Go.Stop Go.Extern Go.Maps
def cellT (C : Nat) (v n : Int) : Thing := ⟨fun i => i = C, fun W => CellB W C 0 v n, fun _ _ h _ hb => (hb C rfl (bk_lt h)).trans h, fun _ h i hi => by subst hi; exact bk_lt h⟩
def memT (M F n : Nat) (g : Nat → Int) : Thing := ⟨fun i => i = M ∨ i = F, fun W => MemIs W M F n g, fun W W' h hs hb => by
  obtain ⟨h1, h2, h3, h4, h5, h6⟩ := h
  have hM := hb M (Or.inl rfl) h5
  have hF := hb F (Or.inr rfl) h6
  exact ⟨h1, (World.cell?_of_block (a := ⟨M, 0, none⟩) hM).trans h2, fun j hj => (World.cell?_of_block (a := ⟨F, j, none⟩) hF).trans (h3 j hj), fun j => (World.frozen?_of_block (a := ⟨F, j, none⟩) hF).trans (h4 j), Nat.lt_of_lt_of_le h5 hs, Nat.lt_of_lt_of_le h6 hs⟩,
 fun W h i hi => by
  rcases hi with rfl | rfl
  ·exact h.2.2.2.2.1
  ·exact h.2.2.2.2.2⟩
def tabT (T : Nat) (g : Nat → Int) : Thing := ⟨fun i => i = T, fun W => TabIs W T g, fun W W' h hs hb => by
  obtain ⟨h1, h2, h3⟩ := h
  have hT := hb T rfl h3
  exact ⟨fun j hj => (World.cell?_of_block (a := ⟨T, j, none⟩) hT).trans (h1 j hj), fun j => (World.frozen?_of_block (a := ⟨T, j, none⟩) hT).trans (h2 j), Nat.lt_of_lt_of_le h3 hs⟩,
 fun W h i hi => by subst hi; exact h.2.2⟩
def numT (n T : Nat) (g : Nat → Int) : Thing := ⟨fun i => i = T, fun W => NumsIs n W T g, fun W W' h hs hb => by
  obtain ⟨h1, h2, h3⟩ := h
  have hT := hb T rfl h3
  exact ⟨fun j hj => (World.cell?_of_block (a := ⟨T, j, none⟩) hT).trans (h1 j hj), fun j => (World.frozen?_of_block (a := ⟨T, j, none⟩) hT).trans (h2 j), Nat.lt_of_lt_of_le h3 hs⟩,
 fun W h i hi => by subst hi; exact h.2.2⟩
theorem MailAt.low {w : World} {S : Nat → Prop} {M B C : Nat} {L : Nat → List Int} {k : Nat} (h : MailAt w S M B C L k) : ∀ i, S i → i < w.heap.size := by
 obtain ⟨v, b, h⟩ := h
 exact h.sl
def mailT (S : Nat → Prop) (X B C : Nat) (L : Nat → List Int) (k : Nat) : Thing := ⟨S, fun W => MailAt W S X B C L k, fun _ _ h hs hb => h.out hs fun i hi => hb i hi (h.low i hi), fun _ h => h.low⟩
theorem only_mono {S S' : Nat → Prop} {w w' : World} (h : Only S w w') (hs : ∀ i, S i → S' i) : Only S' w w' := ⟨h.1, h.2.1, h.2.2.1, h.2.2.2.1, fun i hi hn => h.2.2.2.2 i hi fun h => hn (hs i h)⟩
def lockT (U A E : Nat) (d p q : Int) : Thing := ⟨fun i => i = U ∨ i = A ∨ i = E, fun W => LockAt W U A E d p q, fun _ _ h _ hb => by
  obtain ⟨n, m, h, h1⟩ := h
  exact ⟨n, m, ⟨(hb U (Or.inl rfl) (bk_lt h.top)).trans h.top, (hb A (Or.inr (Or.inl rfl)) (bk_lt h.one)).trans h.one, (hb E (Or.inr (Or.inr rfl)) (bk_lt h.two)).trans h.two, h.lc, h.ld, h.cd⟩, h1⟩,
 fun _ h i hi => by
  obtain ⟨n, m, h, _⟩ := h
  rcases hi with rfl | rfl | rfl
  ·exact bk_lt h.top
  ·exact bk_lt h.one
  ·exact bk_lt h.two⟩
def poolT (Y Z n : Nat) (r : Nat → Int) : Thing := ⟨fun i => i = Y ∨ i = Z, fun W => PoolIs W Y Z n r, fun W W' h hs hb => h.foot hs (hb Y (Or.inl rfl) h.low.1) (hb Z (Or.inr rfl) h.low.2),
 fun W h i hi => by
  rcases hi with rfl | rfl
  ·exact h.low.1
  ·exact h.low.2⟩
def Objs (M F T R X B C : Nat) (S : Nat → Prop) (g h : Nat → Int) (L : Nat → List Int) (k : Nat) (v n : Int) (U A E : Nat) (d p q : Int) (Y Z : Nat) (r : Nat → Int) : List Thing := [poolT Y Z 2 r, lockT U A E d p q, cellT C v n, mailT S X B 3 L k, numT 41 R h, tabT T g, memT M F 2 (fun _ => 0)]
def Live (w : World) (M F T R X B C : Nat) (S : Nat → Prop) (g h : Nat → Int) (L : Nat → List Int) (k : Nat) (v n : Int) (U A E : Nat) (d p q : Int) (Y Z : Nat) (r : Nat → Int) (W : World) : Prop := Side w W (Objs M F T R X B C S g h L k v n U A E d p q Y Z r)
section
variable {w W W' : World} {M F T R X B C : Nat} {S : Nat → Prop} {g h : Nat → Int} {L : Nat → List Int} {k : Nat} {v n : Int} {U A E : Nat} {d p q : Int} {Y Z : Nat} {r : Nat → Int}
theorem Live.start {w1 w2 w3 w4 w5 w6 w7 : World} (h1 : Below w.heap.size w w1) (hm : MemIs w1 M F 2 (fun _ => 0)) (hl : w.heap.size ≤ M ∧ w.heap.size ≤ F) (h2 : Below w1.heap.size w1 w2) (ht : TabIs w2 T (fun _ => 0)) (hT : T = w1.heap.size) (h3 : Below w2.heap.size w2 w3) (hr : NumsIs 41 w3 R (fun _ => 0)) (hR : R = w2.heap.size)
  (h4 : Below w3.heap.size w3 w4) (hx : MailAt w4 (Plus (fun _ => False) w3 w4) X B 3 (fun _ => []) 0) (h5 : Below w4.heap.size w4 w5) (hc : CellB w5 C 0 5 0) (hC : w4.heap.size ≤ C)
  (h6 : Below w5.heap.size w5 w6) (hk : LockAt w6 U A E 0 0 0) (hU : w5.heap.size ≤ U) (hA : w5.heap.size ≤ A) (hE : w5.heap.size ≤ E) (h7 : Below w6.heap.size w6 w7) (hp : PoolIs w7 Y Z 2 (fun _ => 0)) (hY : w6.heap.size ≤ Y) (hZ : w6.heap.size ≤ Z) :
  Live w M F T R X B C (Plus (fun _ => False) w3 w4) (fun _ => 0) (fun _ => 0) (fun _ => []) 0 5 0 U A E 0 0 0 Y Z (fun _ => 0) w7 := by
 have a1 : Side w w1 [memT M F 2 (fun _ => 0)] := Side.make (l := []) (show Side w w [] from Below.refl _ _) h1 _ hm (fun i hi => hi.elim (fun h => h ▸ hl.1) (fun h => h ▸ hl.2))
 have a2 := a1.make h2 (tabT T (fun _ => 0)) ht (fun i hi => by have hi : i = T := hi; omega)
 have a3 := a2.make h3 (numT 41 R (fun _ => 0)) hr (fun i hi => by have hi : i = R := hi; omega)
 have a4 := a3.make h4 (mailT (Plus (fun _ => False) w3 w4) X B 3 (fun _ => []) 0) hx (fun i hi => hi.elim False.elim fun h => h.1)
 have a5 := a4.make h5 (cellT C 5 0) hc (fun i hi => by have hi : i = C := hi; omega)
 have a6 := a5.make h6 (lockT U A E 0 0 0) hk (fun i hi => by have hi : i = U ∨ i = A ∨ i = E := hi; omega)
 exact a6.make h7 (poolT Y Z 2 (fun _ => 0)) hp (fun i hi => by have hi : i = Y ∨ i = Z := hi; omega)
theorem Live.below (l : Live w M F T R X B C S g h L k v n U A E d p q Y Z r W) : Below w.heap.size w W := Side.below l
theorem Live.under (l : Live w M F T R X B C S g h L k v n U A E d p q Y Z r W) (hb : Below W.heap.size W W') : Live w M F T R X B C S g h L k v n U A E d p q Y Z r W' := Side.under hb l
theorem Live.pool (l : Live w M F T R X B C S g h L k v n U A E d p q Y Z r W) : PoolIs W Y Z 2 r := Side.at (o := poolT Y Z 2 r) [] l
theorem Live.lock (l : Live w M F T R X B C S g h L k v n U A E d p q Y Z r W) : LockAt W U A E d p q := Side.at (o := lockT U A E d p q) [poolT Y Z 2 r] l
theorem Live.cell (l : Live w M F T R X B C S g h L k v n U A E d p q Y Z r W) : CellB W C 0 v n := Side.at (o := cellT C v n) [poolT Y Z 2 r, lockT U A E d p q] l
theorem Live.mail (l : Live w M F T R X B C S g h L k v n U A E d p q Y Z r W) : MailAt W S X B 3 L k := Side.at (o := mailT S X B 3 L k) [poolT Y Z 2 r, lockT U A E d p q, cellT C v n] l
theorem Live.buf (l : Live w M F T R X B C S g h L k v n U A E d p q Y Z r W) : NumsIs 41 W R h := Side.at (o := numT 41 R h) [poolT Y Z 2 r, lockT U A E d p q, cellT C v n, mailT S X B 3 L k] l
theorem Live.tab (l : Live w M F T R X B C S g h L k v n U A E d p q Y Z r W) : TabIs W T g := Side.at (o := tabT T g) [poolT Y Z 2 r, lockT U A E d p q, cellT C v n, mailT S X B 3 L k, numT 41 R h] l
theorem Live.mem (l : Live w M F T R X B C S g h L k v n U A E d p q Y Z r W) : MemIs W M F 2 (fun _ => 0) := Side.at (o := memT M F 2 (fun _ => 0)) [poolT Y Z 2 r, lockT U A E d p q, cellT C v n, mailT S X B 3 L k, numT 41 R h, tabT T g] l
theorem Live.pooled {r' : Nat → Int} (l : Live w M F T R X B C S g h L k v n U A E d p q Y Z r W) (hp : PoolIs W' Y Z 2 r') (ho : OnlyT Z W W') : Live w M F T R X B C S g h L k v n U A E d p q Y Z r' W' := Side.step (o := poolT Y Z 2 r) (poolT Y Z 2 r') hp (fun _ h => Or.inl h) (only_mono (only_T ho) fun _ h => Or.inr h) [] l
theorem Live.locked {d' p' q' : Int} (l : Live w M F T R X B C S g h L k v n U A E d p q Y Z r W) (hp : LockAt W' U A E d' p' q') (ho : OnlyL A E W W') : Live w M F T R X B C S g h L k v n U A E d' p' q' Y Z r W' := Side.step (o := lockT U A E d p q) (lockT U A E d' p' q') hp (fun _ h => Or.inl h) (only_mono ho fun _ h => Or.inr h) [poolT Y Z 2 r] l
theorem Live.celled {v' n' : Int} (l : Live w M F T R X B C S g h L k v n U A E d p q Y Z r W) (hp : CellB W' C 0 v' n') (ho : OnlyT C W W') : Live w M F T R X B C S g h L k v' n' U A E d p q Y Z r W' := Side.step (o := cellT C v n) (cellT C v' n') hp (fun _ h => Or.inl h) (only_T ho) [poolT Y Z 2 r, lockT U A E d p q] l
theorem Live.mailed {L' : Nat → List Int} {k' : Nat} (l : Live w M F T R X B C S g h L k v n U A E d p q Y Z r W) (hp : MailAt W' (Plus S W W') X B 3 L' k') (ho : Only S W W') : Live w M F T R X B C (Plus S W W') g h L' k' v n U A E d p q Y Z r W' := Side.step (o := mailT S X B 3 L k) (mailT (Plus S W W') X B 3 L' k') hp (fun _ h => h.elim Or.inl fun h => Or.inr h.1) ho [poolT Y Z 2 r, lockT U A E d p q, cellT C v n] l
theorem Live.filled {h' : Nat → Int} (l : Live w M F T R X B C S g h L k v n U A E d p q Y Z r W) (hp : NumsIs 41 W' R h') (ho : OnlyT R W W') : Live w M F T R X B C S g h' L k v n U A E d p q Y Z r W' := Side.step (o := numT 41 R h) (numT 41 R h') hp (fun _ h => Or.inl h) (only_T ho) [poolT Y Z 2 r, lockT U A E d p q, cellT C v n, mailT S X B 3 L k] l
theorem Live.tabbed {g' : Nat → Int} (l : Live w M F T R X B C S g h L k v n U A E d p q Y Z r W) (hp : TabIs W' T g') (ho : OnlyT T W W') : Live w M F T R X B C S g' h L k v n U A E d p q Y Z r W' := Side.step (o := tabT T g) (tabT T g') hp (fun _ h => Or.inl h) (only_T ho) [poolT Y Z 2 r, lockT U A E d p q, cellT C v n, mailT S X B 3 L k, numT 41 R h] l
theorem Live.stored (l : Live w M F T R X B C S g h L k v n U A E d p q Y Z r W) {i : Nat} (hi : i < 32) (u : Int) : Below w.heap.size w (W.setCell ⟨F, i, none⟩ (.int .u64 u)) ∧ TabIs (W.setCell ⟨F, i, none⟩ (.int .u64 u)) T g ∧ PoolIs (W.setCell ⟨F, i, none⟩ (.int .u64 u)) Y Z 2 r := by
 have s := Side.step (W := W) (W' := W.setCell ⟨F, i, none⟩ (.int .u64 u)) (o := memT M F 2 (fun _ => 0)) (memT M F 2 (fun j => if j = i then u else 0)) (l.mem.set (i := i) (by omega) u) (fun _ h => Or.inl h) ⟨rfl, rfl, rfl, by simp, fun j _ hn => Below.heap_setCell W _ _ j (fun e => hn (Or.inr e))⟩ [poolT Y Z 2 r, lockT U A E d p q, cellT C v n, mailT S X B 3 L k, numT 41 R h, tabT T g] l
 exact ⟨s.below, Side.at (o := tabT T g) [poolT Y Z 2 r, lockT U A E d p q, cellT C v n, mailT S X B 3 L k, numT 41 R h] s, Side.at (o := poolT Y Z 2 r) [] s⟩
theorem Live.low (l : Live w M F T R X B C S g h L k v n U A E d p q Y Z r W) : ∀ i, S i → i < W.heap.size := l.mail.low
end
set_option maxRecDepth 100000 in
theorem new_2 (w : World) : Calls Tryz.prog 29 #[.int .i64 2] w fun e w' => ∃ M F, e = .returned (.pointer (some ⟨M, 0, none⟩)) ∧ Below w.heap.size w w' ∧ MemIs w' M F 2 (fun _ => 0) ∧ w.heap.size ≤ M ∧ w.heap.size ≤ F := by
 obtain ⟨cs, hcs⟩ : ∃ cs : Array Value, cs = Array.replicate 32 (.int .u64 0) := ⟨_, rfl⟩
 have hmk : ∀ W : World, (Instr.makeSlice 151 (.int .i64 2) (.int .i64 2)).run Tryz.prog W = .ok (.slice (some ⟨W.heap.size, 0, none⟩) 2 2) (W.alloc (.cells cs 218)) := fun W => by rw [hcs]; kernel_rfl
 have hat : ∀ j, j < 2 * 16 → cs[j]? = some (.int .u64 0) := fun j hj => by rw [hcs, Array.getElem?_replicate, if_pos hj]
 have HS := Lib.hid hat
 clear hcs hat
 go_enter Tryz.func29, Tryz.ntmps29
 go_wp2_with fail
 go_ret
 have h1 : ((w.alloc (.cells cs 218)).alloc (.cells #[.slice (some ⟨w.heap.size, 0, none⟩) 2 2] 153)).heap[w.heap.size + 1]? = some (.cells #[.slice (some ⟨w.heap.size, 0, none⟩) 2 2] 153 (0, 0)) := by
  have h := heap_alloc_new (w.alloc (.cells cs 218)) (.cells #[.slice (some ⟨w.heap.size, 0, none⟩) 2 2] 153)
  simpa using h
 have h2 : ((w.alloc (.cells cs 218)).alloc (.cells #[.slice (some ⟨w.heap.size, 0, none⟩) 2 2] 153)).heap[w.heap.size]? = some (.cells cs 218 (0, 0)) :=
  (Below.heap_alloc (w.alloc (.cells cs 218)) _ w.heap.size (by simp)).trans (heap_alloc_new w _)
 exact ⟨_, w.heap.size, rfl, ((Below.refl _ _).alloc (Nat.le_refl _) _).alloc (by simp) _, ⟨by omega, bk_cell h1 0, fun j hj => (bk_cell h2 j).trans (HS.out j hj), fun j => bk_free h2 j, bk_lt h1, bk_lt h2⟩, by omega, by omega⟩
end Go.Proofs.YtdfhfmdelinemaaGreatDoor
namespace Go.Proofs.YtdfhfmdelinemaaGreatDoor
open Go.RowKit Go.Extern.Stop Go.Stop Go.Extern Go.Maps
theorem begun_one (w : World) (hg : Held w) : Calls Tryz.prog 145 #[] w fun e w' => e = .returned (.bool true) ∧ Below w.heap.size w w' := by
 have HH := Lib.hid (begun_any w hg)
 go_enter Tryz.func145, Tryz.ntmps145
 go_wp2_with fail
 refine HH.out.mono ?_
 rintro e w1 ⟨rfl, hb⟩
 go_wp2_with fail
 go_ret
 exact ⟨rfl, hb⟩
theorem begun_check (w : World) : Calls Tryz.prog 47 #[callV 6 8 0 1 0, .int .i64 2] w fun e w' => e = .returned (.int .i64 2) ∧ Below w.heap.size w w' :=
 check_of 6 8 0 1 0 2 2 1 5 0 false true true true (by decide) (shape_6) (fun W => means_any 2 8 2 (by omega) (by omega) (by omega) (by omega) (by omega) (by omega) W) (fun W => means_any 1 0 2 (by omega) (by omega) (by omega) (by omega) (by omega) (by omega) W) (fun W => means_any 5 1 2 (by omega) (by omega) (by omega) (by omega) (by omega) (by omega) W) (fun W => means_any 0 0 2 (by omega) (by omega) (by omega) (by omega) (by omega) (by omega) W) w
theorem begun_put (w : World) : Calls Tryz.prog 130 #[.agg #[.int .i64 1, .int .i64 2, .int .i64 3]] w fun e w' => e = .returned (.tuple #[.int .u64 33059, .bool true]) ∧ Below w.heap.size w w' := by
 have h := put_any 1 2 3 w
 rw [show putW 1 2 3 = 33059 by decide, show putB 1 2 3 = true by decide] at h
 exact h
theorem begun_args (w : World) : Calls Tryz.prog 148 #[.int .i64 3] w fun e w' => e = .returned (.int .i64 4) ∧ Below w.heap.size w w' := by
 have h := Args_any 3 w
 rw [show argsN 3 = 4 by decide] at h
 exact h
theorem begun_within (w : World) : Calls Tryz.prog 77 #[.int .i64 1, .int .i64 3] w fun e w' => e = .returned (.bool true) ∧ w = w' := by
 have h := within_any 1 3 w
 rw [show withinB 1 3 = true by decide] at h
 exact h
theorem begun_by {w w' : World} {e : Ending} (h : ByPost (putG (fun _ => 0) 1 1 2 3) 2 w e w') : ∃ ao cap, e = .returned (.slice ao 1 cap) ∧ Below w.heap.size w w' := by
 obtain ⟨v, rfl, hr, hb⟩ := h
 have hl : (byL (putG (fun _ => 0) 1 1 2 3) 2 8).length = 1 := by decide
 rw [hl] at hr
 rcases hr.2 with ⟨rfl, h0⟩ | ⟨g, cap, cur, rfl, _⟩
 ·omega
 ·exact ⟨_, _, rfl, hb⟩
set_option maxRecDepth 100000 in
set_option maxHeartbeats 2000000 in
theorem begun_at (w : World) (hg : Held w) : BegunAt w := by
 unfold BegunAt
 have HG := Lib.hid hg
 clear hg
 go_enter Tryz.func89, Tryz.ntmps89
 go_wp2_with fail
 refine (new_2 w).mono ?_
 rintro e w1 ⟨M, F, rfl, hb1, hm1, hl1⟩
 have B1 := Lib.hid hb1
 have M1 := Lib.hid hm1
 have L1 := Lib.hid hl1
 clear hb1 hm1 hl1
 go_wp2_with fail
 refine (tab_new w1).mono ?_
 rintro e w2 ⟨rfl, hb2, ht2⟩
 obtain ⟨T, hT⟩ : ∃ T, T = w1.heap.size := ⟨_, rfl⟩
 rw [← hT] at ht2
 rw [← hT]
 have B2 := Lib.hid hb2
 have T2 := Lib.hid ht2
 have HT := Lib.hid hT
 clear hb2 ht2 hT
 go_wp2_with fail
 refine (tlb_new w2).mono ?_
 rintro e w3 ⟨rfl, hb3, hr3⟩
 obtain ⟨R, hR⟩ : ∃ R, R = w2.heap.size := ⟨_, rfl⟩
 rw [← hR] at hr3
 rw [← hR]
 have B3 := Lib.hid hb3
 have R3 := Lib.hid hr3
 have HR := Lib.hid hR
 clear hb3 hr3 hR
 go_wp2_with fail
 refine (mnew_ok 3 (by omega) (by omega) w3).mono ?_
 rintro e w4a ⟨X, B, rfl, hx4, hb4⟩
 have X4 := Lib.hid hx4
 have B4 := Lib.hid hb4
 clear hx4 hb4
 go_wp2_with fail
 refine (cell_new 5 w4a).mono ?_
 rintro e w4b ⟨C, rfl, hc4, hb4, hl4⟩
 have C5 := Lib.hid hc4
 have B5 := Lib.hid hb4
 have N5 := Lib.hid hl4
 clear hc4 hb4 hl4
 go_wp2_with fail
 refine (tick_new w4b).mono ?_
 rintro e w4c ⟨U, A, E, rfl, hk6, hb6, hU, hA, hE⟩
 have K6 := Lib.hid hk6
 have B6 := Lib.hid hb6
 have N6 := Lib.hid (show w4b.heap.size ≤ U ∧ w4b.heap.size ≤ A ∧ w4b.heap.size ≤ E from ⟨hU, hA, hE⟩)
 clear hk6 hb6 hU hA hE
 go_wp2_with fail
 refine (pool_new 2 (by omega) (by omega) w4c).mono ?_
 rintro e w4 ⟨Y, Z, rfl, hp7, hb7, hY, hZ⟩
 have L4 := Lib.hid (Live.start B1.out M1.out L1.out B2.out T2.out HT.out B3.out R3.out HR.out B4.out X4.out B5.out C5.out N5.out B6.out K6.out N6.out.1 N6.out.2.1 N6.out.2.2 hb7 hp7 hY hZ)
 clear hp7 hb7 hY hZ X4 B4 B1 M1 L1 B2 T2 HT B3 R3 HR C5 B5 N5 K6 B6 N6
 go_wp2_with fail
 refine (tins_ok w4 T 1 1 2 3 (fun _ => 0) (by omega) (by decide) L4.out.tab rfl).mono ?_
 rintro e w5 ⟨rfl, ht5, ho5⟩
 have L5 := Lib.hid (L4.out.tabbed ht5 ho5)
 clear ht5 ho5 L4
 go_wp2_with fail
 refine (begun_put w5).mono ?_
 rintro e w6 ⟨rfl, hb6⟩
 have L6 := Lib.hid (L5.out.under hb6)
 clear hb6 L5
 go_wp2_with fail
 refine (tfill_new R (fun _ => 0) 1 5 1 1 w6 L6.out.buf (by decide) (by decide) (fun k _ => by simp [hitB]) 1 (by omega) (by decide)).mono ?_
 rintro e w7 ⟨rfl, hr7, ho7⟩
 have L7 := Lib.hid (L6.out.filled hr7 ho7)
 clear hr7 ho7 L6
 go_wp2_with fail
 refine (tfind_hit R _ 1 5 w7 L7.out.buf 2 (by omega) (by decide) (by decide) (by decide)).mono ?_
 rintro e w8 ⟨rfl, hb8⟩
 have L8 := Lib.hid (L7.out.under hb8)
 clear hb8 L7
 go_wp2_with fail
 obtain ⟨P, hP⟩ : ∃ P, P = w8.heap.size := ⟨_, rfl⟩
 have L8' := Lib.hid (L8.out.under ((Below.refl _ _).alloc (Nat.le_refl _) (.cells #[.int .i64 1, .int .i64 5, .int .i64 1, .int .i64 1] 85)))
 have K8 : Hid ((w8.alloc (.cells #[.int .i64 1, .int .i64 5, .int .i64 1, .int .i64 1] 85)).heap[P]? = some (.cells #[.int .i64 1, .int .i64 5, .int .i64 1, .int .i64 1] 85 (0, 0))) := by rw [hP]; exact heap_alloc_new w8 _
 have N8 := Lib.hid (fun h => by have := L8.out.mail.low P h; omega : ¬ Plus (fun _ => False) w3 w4a P)
 have NC : Hid (¬ P = C) := by have := bk_lt L8.out.cell; show ¬ P = C; omega
 have NL : Hid (¬ (P = A ∨ P = E)) := by obtain ⟨n, m, hk, _⟩ := L8.out.lock; have h1 := bk_lt hk.one; have h2 := bk_lt hk.two; show ¬ (P = A ∨ P = E); omega
 have NZ : Hid (¬ P = Z) := by have := L8.out.pool.low.2; show ¬ P = Z; omega
 rw [← hP]
 clear hP L8
 refine (mall_in X B 3 _ (fun _ => []) 0 0 4 (by omega) (by omega) (by decide) (by omega) _ L8'.out.mail).mono ?_
 rintro e w9 ⟨rfl, hx9, ho9⟩
 have K9 := Lib.hid ((ho9.2.2.2.2 P (bk_lt K8.out) N8.out).trans K8.out)
 have N9 := Lib.hid (fun h => h.elim N8.out fun h => by have := bk_lt K8.out; omega : ¬ Plus (Plus (fun _ => False) w3 w4a) (w8.alloc (.cells #[.int .i64 1, .int .i64 5, .int .i64 1, .int .i64 1] 85)) w9 P)
 have L9 := Lib.hid (L8'.out.mailed hx9 ho9)
 clear hx9 ho9 L8' K8 N8
 go_wp2_with fail
 refine (mtake_some X B 3 _ _ _ 2 4 [] (by omega) (by decide) (by omega) w9 L9.out.mail).mono ?_
 rintro e wa ⟨rfl, hxa, hoa⟩
 have La := Lib.hid (L9.out.mailed hxa hoa)
 have Ka := Lib.hid ((hoa.2.2.2.2 P (bk_lt K9.out) N9.out).trans K9.out)
 clear hxa hoa L9 K9 N9
 go_wp2_with fail
 refine (cell_up_yes C 5 0 9 wa La.out.cell (by omega) (by omega) (by omega) (by omega) (by omega)).mono ?_
 rintro e wa2 ⟨rfl, hca, hoa⟩
 have La2 := Lib.hid (La.out.celled hca hoa)
 have Ka2 := Lib.hid ((hoa.block P (bk_lt Ka.out) (fun e => NC.out (by injection e with e))).trans Ka.out)
 clear hca hoa La Ka
 go_wp2_with fail
 refine (tick_draw U A E 0 0 0 wa2 La2.out.lock (by omega) (by omega) (by omega)).mono ?_
 rintro e wa3 ⟨rfl, hca, hoa⟩
 have La3 := Lib.hid (La2.out.locked hca hoa)
 have Ka3 := Lib.hid ((hoa.2.2.2.2 P (bk_lt Ka2.out) NL.out).trans Ka2.out)
 clear hca hoa La2 Ka2
 go_wp2_with fail
 refine (pool_take Y Z 2 (fun _ => 0) 0 (by omega) (by omega) rfl (fun i h => by omega) wa3 La3.out.pool).mono ?_
 rintro e wa4 ⟨rfl, hca, hoa⟩
 have La4 := Lib.hid (La3.out.pooled hca hoa)
 have Ka4 := Lib.hid ((hoa.block P (bk_lt Ka3.out) (fun e => NZ.out (by injection e with e))).trans Ka3.out)
 clear hca hoa La3 Ka3
 go_wp2_with fail
 refine (Kind_yes 6 0 0 0 0 (by decide) wa4).mono ?_
 rintro e wb ⟨rfl, hbb⟩
 have Lb := Lib.hid (La4.out.under hbb)
 have Kb := Lib.hid (bk_below Ka4.out hbb)
 clear hbb La4 Ka4
 go_wp2_with fail
 refine (begun_one wb (HG.out.below Lb.out.below HG.out.pos)).mono ?_
 rintro e wc ⟨rfl, hbc⟩
 have Lc := Lib.hid (Lb.out.under hbc)
 have cP := bk_cell (bk_below Kb.out hbc) 2
 clear hbc Lb Kb
 go_wp2_with fail
 clear cP
 refine (tick_turn_yes U A E _ 0 _ (by omega) wc Lc.out.lock (by omega)).mono ?_
 rintro e wc2 ⟨rfl, hca, hoa⟩
 have Lc2 := Lib.hid (Lc.out.locked hca hoa)
 clear hca hoa Lc
 go_wp2_with fail
 refine (tick_pass_yes U A E _ 0 _ (by omega) (by omega) (by omega) wc2 Lc2.out.lock (by omega)).mono ?_
 rintro e wc3 ⟨rfl, hca, hoa⟩
 have Lc3 := Lib.hid (Lc2.out.locked hca hoa)
 clear hca hoa Lc2
 go_wp2_with fail
 refine (store_any wc3 M F 2 1 3 9 _ Lc3.out.mem (by omega) (by omega) (by omega)).mono ?_
 rintro e wd ⟨rfl, rfl⟩
 obtain ⟨hbd, htd, hpd⟩ := Lc3.out.stored (i := 1 * 16 + 3) (by omega) 9
 obtain ⟨wd, hwd⟩ : ∃ wd, wd = wc3.setCell ⟨F, 1 * 16 + 3, none⟩ (.int .u64 9) := ⟨_, rfl⟩
 rw [← hwd] at hbd htd hpd
 rw [← hwd]
 have Bd := Lib.hid hbd
 have Td := Lib.hid htd
 have Pd := Lib.hid hpd
 clear hbd htd hpd hwd Lc3
 go_wp2_with fail
 refine (begun_check wd).mono ?_
 rintro e we ⟨rfl, hbe⟩
 have Be := Lib.hid (bl_trans Bd.out hbe)
 have Te := Lib.hid (Td.out.later hbe)
 have Pe := Lib.hid (Pd.out.later hbe)
 clear hbe Bd Td Pd
 go_wp2_with fail
 refine (begun_args we).mono ?_
 rintro e wf ⟨rfl, hbf⟩
 have Bf := Lib.hid (bl_trans Be.out hbf)
 have Tf := Lib.hid (Te.out.later hbf)
 have Pf := Lib.hid (Pe.out.later hbf)
 clear hbf Be Te Pe
 go_wp2_with fail
 refine (begun_within wf).mono ?_
 rintro e wg ⟨rfl, rfl⟩
 go_wp2_with fail
 refine (tby_any wf T _ 2 Tf.out).mono ?_
 intro e wh hh
 obtain ⟨ao, cap, rfl, hbh⟩ := begun_by hh
 have Bh := Lib.hid (bl_trans Bf.out hbh)
 have Ph := Lib.hid (Pf.out.later hbh)
 clear hbh hh Pf
 go_wp2_with fail
 refine (pool_bits Y Z 2 _ (by omega) wh Ph.out).mono ?_
 rintro e wi ⟨rfl, hbi⟩
 have Bi := Lib.hid (bl_trans Bh.out hbi)
 have hv : bitsUp (upR (fun _ => 0) 0 1) 2 = 2 := by decide
 rw [hv]
 clear hbi hv
 go_wp2_with fail
 go_ret
 exact ⟨rfl, Bi.out⟩
end Go.Proofs.YtdfhfmdelinemaaGreatDoor
