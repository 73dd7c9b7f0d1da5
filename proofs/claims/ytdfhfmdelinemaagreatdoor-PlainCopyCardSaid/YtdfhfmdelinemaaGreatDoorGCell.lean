/- What is proved here: contracts of packages cell, ticket and pool, and that the program holds the library's lock. Conditions: those that each theorem names. -/
import Derived.Test.YtdfhfmdelinemaaGreatDoorProg
import Derived.Conc.MuLone
import Derived.Conc.MuData
import Derived.KernelRfl
import Derived.Test.YtdfhfmdelinemaaGreatDoorGParts
import Derived.Defers
import Derived.Laws.Rows
import Derived.Laws.MakeOwn
namespace Go.Proofs
abbrev Tryz.muLink : Go.Conc.Locks.MuLink := { lock := 185, unlock := 175, ilock := 189, iunlock := 186, lockSlow := 198, unlockSlow := 193, disable := 191, enable := 194, acquire := 197, relMerge := 190, cas32 := 196, add32 := 192, tMutex := 278, tIMutex := 276, tPMutex := 288, tPIMutex := 296, tPI32 := 299, tUP := 196, tNoCopy := 273, tU32 := 274 }
theorem Tryz.muLib : Go.Conc.Locks.MuLib Tryz.prog Tryz.muLink :=
 ⟨Tryz.func185, Tryz.func175, Tryz.func189, Tryz.func186, Tryz.func191, Tryz.func194, Tryz.func197, Tryz.func190, Tryz.func196, Tryz.func192, Tryz.underlying276, Tryz.runUnderlying276, Tryz.sizeOf276, Tryz.isAgg276, Tryz.zeroValue276, Tryz.underlying278, Tryz.runUnderlying278, Tryz.sizeOf278, Tryz.isAgg278, Tryz.zeroValue278, Tryz.underlying288, Tryz.runUnderlying288, Tryz.sizeOf288, Tryz.isAgg288, Tryz.zeroValue288, Tryz.underlying296, Tryz.runUnderlying296, Tryz.sizeOf296, Tryz.isAgg296, Tryz.zeroValue296, Tryz.underlying299, Tryz.runUnderlying299, Tryz.sizeOf299, Tryz.isAgg299, Tryz.zeroValue299, Tryz.underlying196, Tryz.runUnderlying196, Tryz.sizeOf196, Tryz.isAgg196, Tryz.zeroValue196, Tryz.underlying273, Tryz.runUnderlying273, Tryz.sizeOf273, Tryz.isAgg273, Tryz.zeroValue273, Tryz.underlying21, Tryz.runUnderlying21, Tryz.sizeOf21, Tryz.isAgg21, Tryz.zeroValue21, (by kernel_rfl)⟩
end Go.Proofs
namespace Go.Proofs.YtdfhfmdelinemaaGreatDoor
open Go.RowKit Go.Extern.Stop Go.Stop Go.Extern Go.MuLone
def CellB (w : World) (C : Nat) (s v n : Int) : Prop := w.heap[C]? = some (.cells #[.int .i32 s, .int .u32 0, .int .u64 v, .int .i64 n] 280 (0, 0))
theorem CellB.cells {w : World} {C : Nat} {s v n : Int} (h : CellB w C s v n) : w.cell? ⟨C, 0, none⟩ = some (.int .i32 s) ∧ w.cell? ⟨C, 2, none⟩ = some (.int .u64 v) ∧ w.cell? ⟨C, 3, none⟩ = some (.int .i64 n) ∧ w.frozen? ⟨C, 0, none⟩ = false ∧ w.frozen? ⟨C, 2, none⟩ = false ∧ w.frozen? ⟨C, 3, none⟩ = false :=
 ⟨bk_cell h 0, bk_cell h 2, bk_cell h 3, bk_free h 0, bk_free h 2, bk_free h 3⟩
theorem CellB.state {w : World} {C : Nat} {s v n : Int} (h : CellB w C s v n) (s' : Int) : CellB (w.setCell ⟨C, 0, none⟩ (.int .i32 s')) C s' v n := heap_setCell_same w C 0 _ _ _ h
theorem CellB.word {w : World} {C : Nat} {s v n : Int} (h : CellB w C s v n) (v' : Int) : CellB (w.setCell ⟨C, 2, none⟩ (.int .u64 v')) C s v' n := heap_setCell_same w C 2 _ _ _ h
theorem CellB.steps {w : World} {C : Nat} {s v n : Int} (h : CellB w C s v n) (n' : Int) : CellB (w.setCell ⟨C, 3, none⟩ (.int .i64 n')) C s v n' := heap_setCell_same w C 3 _ _ _ h
theorem CellB.only {w w' : World} {C T : Nat} {s v n : Int} (h : CellB w C s v n) (ho : OnlyT T w w') (hne : C ≠ T) : CellB w' C s v n := by
 unfold CellB at h ⊢
 rw [ho.block C (bk_lt h) (fun e => hne (by injection e))]
 exact h
theorem CellB.later {w w' : World} {C : Nat} {s v n : Int} (h : CellB w C s v n) (hb : Below w.heap.size w w') : CellB w' C s v n := bk_below h hb
theorem cell_enter (C : Nat) (v n : Int) (w : World) (h : CellB w C 0 v n) (h0 : 0 ≤ n) (h1 : n ≤ 1000000) :
  Calls Tryz.prog 174 #[.pointer (some ⟨C, 0, none⟩)] w fun e w' => e = .returned (.tuple #[]) ∧ CellB w' C 1 v (n + 1) ∧ OnlyT C w w' := by
 obtain ⟨c0, c2, c3, f0, f2, f3⟩ := h.cells
 have H := Lib.hid h
 clear h
 go_enter Tryz.func174, Tryz.ntmps174
 go_wp2_with (go_at_call 185; refine (lock_free Tryz.muLib ⟨C, 0, none⟩ _ c0 f0).mono ?_; rintro e w' ⟨rfl, rfl⟩)
 go_end0
 exact ⟨rfl, (H.out.state 1).steps (n + 1), tp_set (tp_set (tp_below (Below.refl _ _)) _ _) _ _⟩
theorem cell_new (v : Int) (w : World) : Calls Tryz.prog 139 #[.int .u64 v] w fun e w' => ∃ C, e = .returned (.pointer (some ⟨C, 0, none⟩)) ∧ CellB w' C 0 v 0 ∧ Below w.heap.size w w' ∧ w.heap.size ≤ C := by
 go_enter Tryz.func139, Tryz.ntmps139
 go_wp2
 go_ret
 exact ⟨w.heap.size, rfl, heap_alloc_new w _, (Below.refl _ _).alloc (Nat.le_refl _) _, Nat.le_refl _⟩
theorem cell_leave (C : Nat) (v n : Int) (w W : World) (h : CellB W C 1 v n) (ho : OnlyT C w W) (u : FrameMode) : CallsD Tryz.prog 175 #[.pointer (some ⟨C, 0, none⟩)] u W fun e u' w' => u' = u ∧ (e = .returned (.tuple #[]) ∧ CellB w' C 0 v n ∧ OnlyT C w w') := by
 obtain ⟨c0, c2, c3, f0, f2, f3⟩ := h.cells
 refine (unlock_deferred Tryz.muLib ⟨C, 0, none⟩ u W c0 f0).mono ?_
 rintro e u' w' ⟨rfl, rfl, rfl⟩
 exact ⟨rfl, rfl, h.state 0, tp_set ho _ _⟩
theorem cell_load (C : Nat) (v n : Int) (w : World) (h : CellB w C 0 v n) (h0 : 0 ≤ n) (h1 : n ≤ 1000000) :
  Calls Tryz.prog 178 #[.pointer (some ⟨C, 0, none⟩)] w fun e w' => e = .returned (.int .u64 v) ∧ CellB w' C 0 v (n + 1) ∧ OnlyT C w w' := by
 have HE := Lib.hid (cell_enter C v n w h h0 h1)
 clear h
 go_enter_defers Tryz.func178, Tryz.ntmps178
 go_wp2_with fail
 refine HE.out.mono ?_
 rintro e w1 ⟨rfl, hc, ho⟩
 obtain ⟨c0, c2, c3, f0, f2, f3⟩ := hc.cells
 have HL := Lib.hid (cell_leave C v (n + 1) w w1 hc ho .returning)
 clear hc ho
 go_wp2_with fail
 refine leaves_cons (f := 175) (args := #[.pointer (some ⟨C, 0, none⟩)]) (by simp) (by simp [go_sem]) ?_
 refine HL.out.mono ?_
 rintro e u' w'' ⟨rfl, rfl, hc, ho⟩
 exact ⟨_, results_tmp rfl _ _ _, rfl, hc, ho⟩
theorem cell_cas_yes (C : Nat) (v n : Int) (x : Int) (w : World) (h : CellB w C 0 v n) (h0 : 0 ≤ n) (h1 : n ≤ 1000000) :
  Calls Tryz.prog 179 #[.pointer (some ⟨C, 0, none⟩), .int .u64 v, .int .u64 x] w fun e w' => e = .returned (.bool true) ∧ CellB w' C 0 x (n + 1) ∧ OnlyT C w w' := by
 have HE := Lib.hid (cell_enter C v n w h h0 h1)
 clear h
 go_enter_defers Tryz.func179, Tryz.ntmps179
 go_wp2_with fail
 refine HE.out.mono ?_
 rintro e w1 ⟨rfl, hc, ho⟩
 obtain ⟨c0, c2, c3, f0, f2, f3⟩ := hc.cells
 have HL := Lib.hid (cell_leave C x (n + 1) w _ (hc.word (x)) (tp_set ho _ _) .returning)
 clear hc ho
 go_wp2_with fail
 refine leaves_cons (f := 175) (args := #[.pointer (some ⟨C, 0, none⟩)]) (by simp) (by simp [go_sem]) ?_
 refine HL.out.mono ?_
 rintro e u' w'' ⟨rfl, rfl, hc, ho⟩
 exact ⟨_, results_tmp rfl _ _ _, rfl, hc, ho⟩
theorem cell_up_yes (C : Nat) (v n : Int) (m : Int) (w : World) (h : CellB w C 0 v n) (h0 : 0 ≤ n) (h1 : n ≤ 1000000) (hv0 : 0 ≤ v) (hv : v < m) (hm : m ≤ 18446744073709551615) :
  Calls Tryz.prog 143 #[.pointer (some ⟨C, 0, none⟩), .int .u64 m] w fun e w' => e = .returned (.tuple #[.int .u64 (v + 1), .bool true]) ∧ CellB w' C 0 (v + 1) (n + 1) ∧ OnlyT C w w' := by
 have HE := Lib.hid (cell_enter C v n w h h0 h1)
 clear h
 have hb : ¬ m ≤ v := by omega
 go_enter_defers Tryz.func143, Tryz.ntmps143
 go_wp2_with fail
 refine HE.out.mono ?_
 rintro e w1 ⟨rfl, hc, ho⟩
 obtain ⟨c0, c2, c3, f0, f2, f3⟩ := hc.cells
 have HL := Lib.hid (cell_leave C (v + 1) (n + 1) w _ (hc.word (v + 1)) (tp_set ho _ _) .returning)
 clear hc ho
 go_wp2_with fail
 refine leaves_cons (f := 175) (args := #[.pointer (some ⟨C, 0, none⟩)]) (by simp) (by simp [go_sem]) ?_
 refine HL.out.mono ?_
 rintro e u' w'' ⟨rfl, rfl, hc, ho⟩
 exact ⟨_, results_tmp2 rfl _ _ _, rfl, hc, ho⟩
end Go.Proofs.YtdfhfmdelinemaaGreatDoor
namespace Go.Proofs.YtdfhfmdelinemaaGreatDoor
open Go.RowKit Go.Extern.Stop Go.Stop Go.Extern
structure LockB (w : World) (L C D : Nat) (d n p m : Int) : Prop where
 top : w.heap[L]? = some (.cells #[.pointer (some ⟨C, 0, none⟩), .pointer (some ⟨D, 0, none⟩)] 282 (0, 0))
 one : CellB w C 0 d n
 two : CellB w D 0 p m
 lc : L ≠ C
 ld : L ≠ D
 cd : C ≠ D
theorem LockB.cells {w : World} {L C D : Nat} {d n p m : Int} (h : LockB w L C D d n p m) : w.cell? ⟨L, 0, none⟩ = some (.pointer (some ⟨C, 0, none⟩)) ∧ w.cell? ⟨L, 1, none⟩ = some (.pointer (some ⟨D, 0, none⟩)) :=
 ⟨bk_cell h.top 0, bk_cell h.top 1⟩
def LockAt (w : World) (L C D : Nat) (d p k : Int) : Prop := ∃ n m, LockB w L C D d n p m ∧ 0 ≤ n ∧ n ≤ k ∧ 0 ≤ m ∧ m ≤ k
theorem LockB.later {w w' : World} {L C D : Nat} {d n p m : Int} (h : LockB w L C D d n p m) (hb : Below w.heap.size w w') : LockB w' L C D d n p m :=
 ⟨bk_below h.top hb, h.one.later hb, h.two.later hb, h.lc, h.ld, h.cd⟩
theorem LockAt.later {w w' : World} {L C D : Nat} {d p k : Int} (h : LockAt w L C D d p k) (hb : Below w.heap.size w w') : LockAt w' L C D d p k := by
 obtain ⟨n, m, h, h1⟩ := h
 exact ⟨n, m, h.later hb, h1⟩
theorem LockB.first {w w' : World} {L C D : Nat} {d n p m d' n' : Int} (h : LockB w L C D d n p m) (hc : CellB w' C 0 d' n') (ho : OnlyT C w w') : LockB w' L C D d' n' p m :=
 ⟨(ho.block L (bk_lt h.top) (fun e => h.lc (by injection e))).trans h.top, hc, h.two.only ho (Ne.symm h.cd), h.lc, h.ld, h.cd⟩
theorem LockB.second {w w' : World} {L C D : Nat} {d n p m p' m' : Int} (h : LockB w L C D d n p m) (hc : CellB w' D 0 p' m') (ho : OnlyT D w w') : LockB w' L C D d n p' m' :=
 ⟨(ho.block L (bk_lt h.top) (fun e => h.ld (by injection e))).trans h.top, h.one.only ho h.cd, hc, h.lc, h.ld, h.cd⟩
def OnlyL (C D : Nat) (w w' : World) : Prop := Only (fun i => i = C ∨ i = D) w w'
theorem ol_refl (C D : Nat) (w : World) : OnlyL C D w w := Only.refl _ _
theorem ol_one {C D : Nat} {a w w' : World} (h : OnlyL C D a w) (ho : OnlyT C w w') : OnlyL C D a w' :=
 ⟨ho.os.trans h.1, ho.tape.trans h.2.1, ho.output.trans h.2.2.1, Nat.le_trans h.2.2.2.1 ho.size, fun i hi hn => (ho.block i (Nat.lt_of_lt_of_le hi h.2.2.2.1) (fun e => hn (by injection e with e; exact Or.inl e))).trans (h.2.2.2.2 i hi hn)⟩
theorem ol_two {C D : Nat} {a w w' : World} (h : OnlyL C D a w) (ho : OnlyT D w w') : OnlyL C D a w' :=
 ⟨ho.os.trans h.1, ho.tape.trans h.2.1, ho.output.trans h.2.2.1, Nat.le_trans h.2.2.2.1 ho.size, fun i hi hn => (ho.block i (Nat.lt_of_lt_of_le hi h.2.2.2.1) (fun e => hn (by injection e with e; exact Or.inr e))).trans (h.2.2.2.2 i hi hn)⟩
theorem tick_new (w : World) : Calls Tryz.prog 140 #[] w fun e w' => ∃ L C D, e = .returned (.pointer (some ⟨L, 0, none⟩)) ∧ LockAt w' L C D 0 0 0 ∧ Below w.heap.size w w' ∧ w.heap.size ≤ L ∧ w.heap.size ≤ C ∧ w.heap.size ≤ D := by
 go_enter Tryz.func140, Tryz.ntmps140
 go_wp2_with fail
 refine (cell_new 0 w).mono ?_
 rintro e w1 ⟨C, rfl, hc, hb1, hC⟩
 go_wp2_with fail
 refine (cell_new 0 w1).mono ?_
 rintro e w2 ⟨D, rfl, hd, hb2, hD⟩
 go_wp2_with fail
 go_ret
 have h1 := bk_lt hc
 have h2 := bk_lt hd
 have s1 := hb1.size
 have s2 := hb2.size
 have hB : Below w2.heap.size w2 (w2.alloc (.cells #[.pointer (some ⟨C, 0, none⟩), .pointer (some ⟨D, 0, none⟩)] 282 (0, 0))) := (Below.refl _ _).alloc (Nat.le_refl _) _
 exact ⟨w2.heap.size, C, D, rfl, ⟨0, 0, ⟨heap_alloc_new w2 _, (hc.later hb2).later hB, hd.later hB, by omega, by omega, by omega⟩, by omega, by omega, by omega, by omega⟩, bl_trans (bl_trans hb1 hb2) hB, by omega, by omega, by omega⟩
theorem tick_draw (L C D : Nat) (d p k : Int) (w : World) (h : LockAt w L C D d p k) (hk : k ≤ 1000000) (hd0 : 0 ≤ d) (hd : d < 1000000) :
  Calls Tryz.prog 144 #[.pointer (some ⟨L, 0, none⟩)] w fun e w' => e = .returned (.int .u64 d) ∧ LockAt w' L C D (d + 1) p (k + 1) ∧ OnlyL C D w w' := by
 obtain ⟨n, m, h, n0, n1, m0, m1⟩ := h
 obtain ⟨c0, c1⟩ := h.cells
 have HU := Lib.hid (cell_up_yes C d n 18446744073709551615 w h.one n0 (by omega) hd0 (by omega) (by omega))
 have HL := Lib.hid h
 clear h
 go_enter Tryz.func144, Tryz.ntmps144
 go_wp2_with fail
 refine HU.out.mono ?_
 rintro e w1 ⟨rfl, hc, ho⟩
 go_wp2_with fail
 go_ret
 exact ⟨rfl, ⟨n + 1, m, HL.out.first hc ho, by omega, by omega, by omega, by omega⟩, ol_one (ol_refl _ _ _) ho⟩
theorem tick_has_yes (L C D : Nat) (d n p m t : Int) (ht : t < d) (w : World) (h : LockB w L C D d n p m) (hn : 0 ≤ n) (hk : n ≤ 1000000) :
  Calls Tryz.prog 177 #[.pointer (some ⟨L, 0, none⟩), .int .u64 t] w fun e w' => e = .returned (.bool true) ∧ LockB w' L C D d (n + 1) p m ∧ OnlyL C D w w' := by
 obtain ⟨c0, c1⟩ := h.cells
 have HU := Lib.hid (cell_load C d n w h.one hn hk)
 have HL := Lib.hid h
 clear h
 go_enter Tryz.func177, Tryz.ntmps177
 go_wp2_with fail
 refine HU.out.mono ?_
 rintro e w1 ⟨rfl, hc, ho⟩
 go_wp2_with fail
 go_ret
 exact ⟨rfl, HL.out.first hc ho, ol_one (ol_refl _ _ _) ho⟩
theorem tick_turn_yes (L C D : Nat) (d p k : Int) (hp : p < d) (w : World) (h : LockAt w L C D d p k) (hk : k ≤ 1000000) :
  Calls Tryz.prog 146 #[.pointer (some ⟨L, 0, none⟩), .int .u64 p] w fun e w' => e = .returned (.bool true) ∧ LockAt w' L C D d p (k + 1) ∧ OnlyL C D w w' := by
 obtain ⟨n, m, h, n0, n1, m0, m1⟩ := h
 have HH := Lib.hid (tick_has_yes L C D d n p m p hp w h n0 (by omega))
 clear h
 go_enter Tryz.func146, Tryz.ntmps146
 go_wp2_with fail
 refine HH.out.mono ?_
 rintro e w1 ⟨rfl, hl, ho⟩
 obtain ⟨c0, c1⟩ := hl.cells
 have HL := Lib.hid hl
 have HO := Lib.hid ho
 clear hl ho
 go_wp2_with fail
 refine (cell_load D p m w1 HL.out.two m0 (by omega)).mono ?_
 rintro e w2 ⟨rfl, hc, ho⟩
 go_wp2_with fail
 go_ret
 exact ⟨rfl, ⟨n + 1, m + 1, HL.out.second hc ho, by omega, by omega, by omega, by omega⟩, ol_two HO.out ho⟩
theorem tick_pass_yes (L C D : Nat) (d p k : Int) (hp0 : 0 ≤ p) (hp : p < d) (hd : d ≤ 1000000) (w : World) (h : LockAt w L C D d p k) (hk : k ≤ 1000000) :
  Calls Tryz.prog 147 #[.pointer (some ⟨L, 0, none⟩), .int .u64 p] w fun e w' => e = .returned (.bool true) ∧ LockAt w' L C D d (p + 1) (k + 1) ∧ OnlyL C D w w' := by
 obtain ⟨n, m, h, n0, n1, m0, m1⟩ := h
 have HH := Lib.hid (tick_has_yes L C D d n p m p hp w h n0 (by omega))
 clear h
 go_enter Tryz.func147, Tryz.ntmps147
 go_wp2_with fail
 refine HH.out.mono ?_
 rintro e w1 ⟨rfl, hl, ho⟩
 obtain ⟨c0, c1⟩ := hl.cells
 have HL := Lib.hid hl
 have HO := Lib.hid ho
 clear hl ho
 go_wp2_with fail
 refine (cell_cas_yes D p m (p + 1) w1 HL.out.two m0 (by omega)).mono ?_
 rintro e w2 ⟨rfl, hc, ho⟩
 go_wp2_with fail
 go_ret
 exact ⟨rfl, ⟨n + 1, m + 1, HL.out.second hc ho, by omega, by omega, by omega, by omega⟩, ol_two HO.out ho⟩
end Go.Proofs.YtdfhfmdelinemaaGreatDoor
namespace Go.Proofs.YtdfhfmdelinemaaGreatDoor
open Go.RowKit Go.Extern.Stop Go.Stop Go.Extern
def PoolIs (w : World) (Y Z n : Nat) (r : Nat → Int) : Prop :=
 Y ≠ Z ∧ w.cell? ⟨Y, 0, none⟩ = some (.slice (some ⟨Z, 0, none⟩) n n) ∧ (∀ j, j < n → w.cell? ⟨Z, j, none⟩ = some (.int .i64 (r j))) ∧ (∀ j, w.frozen? ⟨Z, j, none⟩ = false) ∧ Y < w.heap.size ∧ Z < w.heap.size
theorem PoolIs.low {w : World} {Y Z n : Nat} {r : Nat → Int} (h : PoolIs w Y Z n r) : Y < w.heap.size ∧ Z < w.heap.size := h.2.2.2.2
theorem PoolIs.foot {w w' : World} {Y Z n : Nat} {r : Nat → Int} (h : PoolIs w Y Z n r) (hs : w.heap.size ≤ w'.heap.size) (hY : w'.heap[Y]? = w.heap[Y]?) (hZ : w'.heap[Z]? = w.heap[Z]?) : PoolIs w' Y Z n r := by
 obtain ⟨h1, h2, h3, h4, h5, h6⟩ := h
 exact ⟨h1, (World.cell?_of_block (a := ⟨Y, 0, none⟩) hY).trans h2, fun j hj => (World.cell?_of_block (a := ⟨Z, j, none⟩) hZ).trans (h3 j hj), fun j => (World.frozen?_of_block (a := ⟨Z, j, none⟩) hZ).trans (h4 j), Nat.lt_of_lt_of_le h5 hs, Nat.lt_of_lt_of_le h6 hs⟩
theorem PoolIs.later {w w' : World} {Y Z n : Nat} {r : Nat → Int} (h : PoolIs w Y Z n r) (hb : Below w.heap.size w w') : PoolIs w' Y Z n r :=
 h.foot hb.size (hb.block _ h.low.1) (hb.block _ h.low.2)
def upR (r : Nat → Int) (i : Nat) (u : Int) (j : Nat) : Int := if j = i then u else r j
theorem PoolIs.set {w : World} {Y Z n i : Nat} {r : Nat → Int} (h : PoolIs w Y Z n r) (hi : i < n) (u : Int) : PoolIs (w.setCell ⟨Z, i, none⟩ (.int .i64 u)) Y Z n (upR r i u) := by
 obtain ⟨h1, h2, h3, h4, h5, h6⟩ := h
 refine ⟨h1, ?_, fun j hj => ?_, fun j => ?_, by simpa using h5, by simpa using h6⟩
 ·rw [World.cell?_setCell_other _ _ _ _ (fun e => h1 (congrArg Addr.block e).symm)]
  exact h2
 ·unfold upR
  by_cases he : j = i
  ·subst he
   rw [World.cell?_setCell_same _ _ _ (h3 j hj), if_pos rfl]
  ·rw [World.cell?_setCell_other _ _ _ _ (fun e => he (congrArg Addr.off e).symm), if_neg he]
   exact h3 j hj
 ·rw [World.frozen?_setCell]
  exact h4 j
theorem PoolIs.congr {w : World} {Y Z n : Nat} {r r' : Nat → Int} (h : PoolIs w Y Z n r) (he : ∀ j, j < n → r' j = r j) : PoolIs w Y Z n r' :=
 ⟨h.1, h.2.1, fun j hj => by rw [he j hj]; exact h.2.2.1 j hj, h.2.2.2⟩
theorem Tryz.intRow : (Tryz.prog.info? 3).map (fun i => (i.zero, i.size, i.bytes)) = some (some (.int .i64 0), 1, 8) := by kernel_rfl
theorem made_noughts (n : Nat) : madeCells (#[.int .i64 0] : Array Value) n = Array.replicate n (.int .i64 0) := by
 unfold madeCells
 apply Array.ext
 ·simp
 ·intro i h1 h2
  simp [Nat.mod_one]
theorem make_noughts (n : Nat) (hn : n ≤ 16) (w : World) :
  (Instr.makeSlice 61 (.int .i64 (n : Int)) (.int .i64 (n : Int))).run Tryz.prog w = .ok (.slice (some ⟨w.heap.size, 0, none⟩) n n) (w.alloc (.cells (Array.replicate n (.int .i64 0)) 3)) := by
 obtain ⟨i, hi, hz⟩ := Option.map_eq_some_iff.1 Tryz.intRow
 simp only [Prod.mk.injEq] at hz
 obtain ⟨hz0, hz1, hz2⟩ := hz
 have h := run_make (P := Tryz.prog) w 61 3 i _ Tryz.underlying61 hi hz0 .i64 .i64 n n (by omega) (by omega) (by rw [hz2]; omega) (by omega)
 rw [hz1] at h
 simp only [Int.toNat_natCast, Nat.mul_one] at h
 rw [h, ← made_noughts]
 rfl
theorem pool_new (n : Nat) (h1 : 1 ≤ n) (h16 : n ≤ 16) (w : World) : Calls Tryz.prog 95 #[.int .i64 (n : Int)] w fun e w' => ∃ Y Z, e = .returned (.pointer (some ⟨Y, 0, none⟩)) ∧ PoolIs w' Y Z n (fun _ => 0) ∧ Below w.heap.size w w' ∧ w.heap.size ≤ Y ∧ w.heap.size ≤ Z := by
 obtain ⟨cs, hcs⟩ : ∃ cs : Array Value, cs = Array.replicate n (.int .i64 0) := ⟨_, rfl⟩
 have hmk : ∀ W : World, (Instr.makeSlice 61 (.int .i64 (n : Int)) (.int .i64 (n : Int))).run Tryz.prog W = .ok (.slice (some ⟨W.heap.size, 0, none⟩) n n) (W.alloc (.cells cs 3)) := fun W => by rw [hcs]; exact make_noughts n h16 W
 have hat : ∀ j, j < n → cs[j]? = some (.int .i64 0) := fun j hj => by rw [hcs, Array.getElem?_replicate, if_pos hj]
 have HS := Lib.hid hat
 clear hcs hat
 go_enter Tryz.func95, Tryz.ntmps95
 go_wp2_with fail
 go_ret
 have k1 : ((w.alloc (.cells cs 3)).alloc (.cells #[.slice (some ⟨w.heap.size, 0, none⟩) n n] 215)).heap[w.heap.size + 1]? = some (.cells #[.slice (some ⟨w.heap.size, 0, none⟩) n n] 215 (0, 0)) := by
  have h := heap_alloc_new (w.alloc (.cells cs 3)) (.cells #[.slice (some ⟨w.heap.size, 0, none⟩) n n] 215)
  simpa using h
 have k2 : ((w.alloc (.cells cs 3)).alloc (.cells #[.slice (some ⟨w.heap.size, 0, none⟩) n n] 215)).heap[w.heap.size]? = some (.cells cs 3 (0, 0)) :=
  (Below.heap_alloc (w.alloc (.cells cs 3)) _ w.heap.size (by simp)).trans (heap_alloc_new w _)
 exact ⟨_, w.heap.size, rfl, ⟨by omega, bk_cell k1 0, fun j hj => (bk_cell k2 j).trans (HS.out j hj), fun j => bk_free k2 j, bk_lt k1, bk_lt k2⟩, ((Below.refl _ _).alloc (Nat.le_refl _) _).alloc (by simp) _, by omega, by omega⟩
theorem sl_index (Y Z n : Nat) (r : Nat → Int) (j : Nat) (hn : n ≤ 16) (hj : j < n) (h0 : r j = 0) (hl : ∀ i, i < j → (r i == 0) = false) (w : World) (h : PoolIs w Y Z n r) :
  Calls Tryz.prog 159 #[.slice (some ⟨Z, 0, none⟩) n n, .int .i64 0] w fun e w' => e = .returned (.int .i64 j) ∧ w = w' := by
 have H := Lib.hid h
 have HL := Lib.hid hl
 clear h hl
 go_enter Tryz.func159, Tryz.ntmps159
 go_wp2_with fail
 go_loop [8] (fun iv => ∃ i : Nat, i ≤ j ∧ iv = .int .i64 i) (fun iv => (16 - intOf iv).toNat)
 case atStart => exact ⟨0, by omega, rfl⟩
 case round =>
  obtain ⟨i, hi, rfl⟩ := hrel
  have hin : (i : Int) < (n : Int) := by omega
  have c1 := H.out.2.2.1 i (by omega)
  rcases Nat.lt_or_ge i j with hij | hij
  ·have hr := HL.out i hij
   have hr2 : (0 == r i) = false := by rw [beq_eq_false_iff_ne] at hr ⊢; exact fun e => hr e.symm
   go_wp2_with fail
   go_round
   case rel => exact ⟨i + 1, by omega, by go_num⟩
   case measure => simp [intOf]; omega
  ·obtain rfl : i = j := by omega
   rw [h0] at c1
   go_wp2_with fail
   go_ret
   exact ⟨rfl, rfl⟩
theorem sl_index_no (Y Z n : Nat) (r : Nat → Int) (hn : n ≤ 16) (hl : ∀ i, i < n → (r i == 0) = false) (w : World) (h : PoolIs w Y Z n r) :
  Calls Tryz.prog 159 #[.slice (some ⟨Z, 0, none⟩) n n, .int .i64 0] w fun e w' => e = .returned (.int .i64 (-1)) ∧ w = w' := by
 have H := Lib.hid h
 have HL := Lib.hid hl
 clear h hl
 go_enter Tryz.func159, Tryz.ntmps159
 go_wp2_with fail
 go_loop [8] (fun iv => ∃ i : Nat, i ≤ n ∧ iv = .int .i64 i) (fun iv => (16 - intOf iv).toNat)
 case atStart => exact ⟨0, by omega, rfl⟩
 case round =>
  obtain ⟨i, hi, rfl⟩ := hrel
  rcases Nat.lt_or_ge i n with hij | hij
  ·have hin : (i : Int) < (n : Int) := by omega
   have c1 := H.out.2.2.1 i (by omega)
   have hr := HL.out i hij
   have hr2 : (0 == r i) = false := by rw [beq_eq_false_iff_ne] at hr ⊢; exact fun e => hr e.symm
   go_wp2_with fail
   go_round
   case rel => exact ⟨i + 1, by omega, by go_num⟩
   case measure => simp [intOf]; omega
  ·obtain rfl : n = i := by omega
   have hin : ¬ (n : Int) < (n : Int) := by omega
   go_wp2_with fail
   go_ret
   exact ⟨rfl, rfl⟩
theorem pool_take (Y Z n : Nat) (r : Nat → Int) (j : Nat) (hn : n ≤ 16) (hj : j < n) (h0 : r j = 0) (hl : ∀ i, i < j → (r i == 0) = false) (w : World) (h : PoolIs w Y Z n r) :
  Calls Tryz.prog 117 #[.pointer (some ⟨Y, 0, none⟩)] w fun e w' => e = .returned (.tuple #[.int .i64 j, .bool true]) ∧ PoolIs w' Y Z n (upR r j 1) ∧ OnlyT Z w w' := by
 have c0 := h.2.1
 have c1 := h.2.2.1 j hj
 have f1 := h.2.2.2.1 j
 have H := Lib.hid h
 have HX := Lib.hid (sl_index Y Z n r j hn hj h0 hl w h)
 have hin : (j : Int) < (n : Int) := by omega
 clear h hl h0
 go_enter Tryz.func117, Tryz.ntmps117
 go_wp2_with (refine HX.out.mono ?_; rintro e w' ⟨rfl, rfl⟩)
 go_ret2
 exact ⟨rfl, H.out.set hj 1, tp_set (tp_below (Below.refl _ _)) _ _⟩
theorem pool_take_no (Y Z n : Nat) (r : Nat → Int) (hn : n ≤ 16) (hl : ∀ i, i < n → (r i == 0) = false) (w : World) (h : PoolIs w Y Z n r) :
  Calls Tryz.prog 117 #[.pointer (some ⟨Y, 0, none⟩)] w fun e w' => e = .returned (.tuple #[.int .i64 0, .bool false]) ∧ w = w' := by
 have c0 := h.2.1
 have HX := Lib.hid (sl_index_no Y Z n r hn hl w h)
 clear h hl
 go_enter Tryz.func117, Tryz.ntmps117
 go_wp2_with (refine HX.out.mono ?_; rintro e w' ⟨rfl, rfl⟩)
 go_ret2
 exact ⟨rfl, rfl⟩
theorem pool_refs_any (Y Z n f : Nat) (r : Nat → Int) (_hn : n ≤ 16) (hf : f < n) (x : Int) (hx : r f = x) (w : World) (h : PoolIs w Y Z n r) :
  Calls Tryz.prog 118 #[.pointer (some ⟨Y, 0, none⟩), .int .i64 f] w fun e w' => e = .returned (.int .i64 x) ∧ w = w' := by
 have c0 := h.2.1
 have c1 := h.2.2.1 f hf
 rw [hx] at c1
 have q0 : ¬ (f : Int) < 0 := by omega
 have q1 : ¬ (n : Int) ≤ (f : Int) := by omega
 have q2 : (f : Int) < (n : Int) := by omega
 clear h hx
 go_enter Tryz.func118, Tryz.ntmps118
 go_wp2_with fail
 go_ret
 exact ⟨rfl, rfl⟩
theorem pool_hold (Y Z n f : Nat) (r : Nat → Int) (hn : n ≤ 16) (hf : f < n) (h1 : 1 ≤ r f) (h6 : r f ≤ 6) (w : World) (h : PoolIs w Y Z n r) :
  Calls Tryz.prog 119 #[.pointer (some ⟨Y, 0, none⟩), .int .i64 f] w fun e w' => e = .returned (.bool true) ∧ PoolIs w' Y Z n (upR r f (r f + 1)) ∧ OnlyT Z w w' := by
 have H := Lib.hid h
 have HT := Lib.hid (pool_refs_any Y Z n f r hn hf (r f) rfl w h)
 have c0 := h.2.1
 have c1 := h.2.2.1 f hf
 have f1 := h.2.2.2.1 f
 have q2 : (f : Int) < (n : Int) := by omega
 clear h
 obtain ⟨x, hx⟩ : ∃ x, r f = x := ⟨_, rfl⟩
 rw [hx] at c1 h1 h6 HT ⊢
 clear hx
 have q0 : (x == 0) = false := beq_eq_false_iff_ne.2 (by omega)
 have q7 : ¬ 7 ≤ x := by omega
 go_enter Tryz.func119, Tryz.ntmps119
 go_wp2_with (refine HT.out.mono ?_; rintro e w' ⟨rfl, rfl⟩)
 go_ret
 exact ⟨rfl, H.out.set hf _, tp_set (tp_below (Below.refl _ _)) _ _⟩
theorem pool_hold_most (Y Z n f : Nat) (r : Nat → Int) (hn : n ≤ 16) (hf : f < n) (h7 : r f = 7) (w : World) (h : PoolIs w Y Z n r) :
  Calls Tryz.prog 119 #[.pointer (some ⟨Y, 0, none⟩), .int .i64 f] w fun e w' => e = .returned (.bool false) ∧ w = w' := by
 have HT := Lib.hid (pool_refs_any Y Z n f r hn hf 7 h7 w h)
 clear h h7
 go_enter Tryz.func119, Tryz.ntmps119
 go_wp2_with (refine HT.out.mono ?_; rintro e w' ⟨rfl, rfl⟩)
 go_ret
 exact ⟨rfl, rfl⟩
theorem pool_let (Y Z n f : Nat) (r : Nat → Int) (hn : n ≤ 16) (hf : f < n) (h1 : 1 ≤ r f) (h7 : r f ≤ 7) (w : World) (h : PoolIs w Y Z n r) :
  Calls Tryz.prog 120 #[.pointer (some ⟨Y, 0, none⟩), .int .i64 f] w fun e w' => e = .returned (.tuple #[.int .i64 (r f - 1), .bool true]) ∧ PoolIs w' Y Z n (upR r f (r f - 1)) ∧ OnlyT Z w w' := by
 have H := Lib.hid h
 have HT := Lib.hid (pool_refs_any Y Z n f r hn hf (r f) rfl w h)
 have c0 := h.2.1
 have c1 := h.2.2.1 f hf
 have f1 := h.2.2.2.1 f
 have hne := h.1
 have q2 : (f : Int) < (n : Int) := by omega
 clear h
 obtain ⟨x, hx⟩ : ∃ x, r f = x := ⟨_, rfl⟩
 rw [hx] at c1 h1 h7 HT ⊢
 clear hx
 have q0 : (x == 0) = false := beq_eq_false_iff_ne.2 (by omega)
 go_enter Tryz.func120, Tryz.ntmps120
 go_wp2_with (refine HT.out.mono ?_; rintro e w' ⟨rfl, rfl⟩)
 go_ret2
 exact ⟨rfl, H.out.set hf _, tp_set (tp_below (Below.refl _ _)) _ _⟩
def freeL (r : Nat → Int) (k : Nat) : List Nat := (List.range k).filter (fun j => decide (r j = 0))
theorem freeL_yes (r : Nat → Int) (k : Nat) (h : r k = 0) : freeL r (k + 1) = freeL r k ++ [k] := by
 unfold freeL
 rw [List.range_succ, List.filter_append]
 simp [h]
theorem freeL_no (r : Nat → Int) (k : Nat) (h : ¬ r k = 0) : freeL r (k + 1) = freeL r k := by
 unfold freeL
 rw [List.range_succ, List.filter_append]
 simp [h]
theorem freeL_le (r : Nat → Int) (k : Nat) : (freeL r k).length ≤ k := by
 have h := List.length_filter_le (fun j => decide (r j = 0)) (List.range k)
 simpa [freeL] using h
set_option maxRecDepth 20000 in
set_option maxHeartbeats 1000000 in
theorem pool_free_own (Y Z n : Nat) (r : Nat → Int) (hn : n ≤ 16) (w : World) (h : PoolIs w Y Z n r) :
  Calls Tryz.prog 71 #[.pointer (some ⟨Y, 0, none⟩)] w fun e w' => ∃ v, e = .returned v ∧ w'.ownsRow w.heap.size 3 1 v (freeL r n).length (pagesV (freeL r n)) ∧ Below w.heap.size w w' := by
 obtain ⟨i0, hi, hz0, hz1, hz2⟩ := info_parts Tryz.intInfo
 have c0 := h.2.1
 have H := Lib.hid h
 clear h
 go_enter Tryz.func71, Tryz.ntmps71
 go_wp2_with fail
 clear c0
 go_loopw [3, 13] (fun v c W => ∃ k : Nat, k ≤ n ∧ c = .int .i64 k ∧ W.ownsRow w.heap.size 3 1 v (freeL r k).length (pagesV (freeL r k)) ∧ Below w.heap.size w W) (fun _ c _ => (n - intOf c).toNat)
 case atStart => exact ⟨0, by omega, rfl, by rw [show freeL r 0 = [] from rfl]; exact World.ownsRow_nil _ _ _ _, Below.refl _ _⟩
 case round =>
  obtain ⟨k, hk, rfl, hown, hb⟩ := hrel
  have HO := Lib.hid hown
  have HB := Lib.hid hb
  have HP := Lib.hid (H.out.later hb)
  clear hown hb
  by_cases hlt : k < n
  ·have c1 := HP.out.2.2.1 k hlt
   have hin : (k : Int) < (n : Int) := by omega
   by_cases hr : r k = 0
   ·have hbl := freeL_yes r k hr
    have hle := freeL_le r k
    have HL := Lib.hid hbl
    rw [hr] at c1
    clear hbl hr
    go_wp2_with (refine wpList_append_own (o := ⟨some 23, _, _, _, _, _⟩) _ rfl (.tmp 20) (.tmp 22) 61 rfl w.heap.size 3 i0 (.int .i64 0) 1 8 Tryz.underlying61 hi hz0 hz1 hz2 rfl (by decide) _ _ _ rfl (HO.out.alloc _) ⟨wr.heap.size, 0, none⟩ 1 1 [.int .i64 (k : Int)] rfl rfl (one_at _ _ _) (one_cell k) (by unfold maxLen; omega) (by omega) (by have := HB.out.size; simp; omega) ?_)
    intro v' w3 hown hgrow _
    have B3 := Lib.hid (own_grown HB.out hgrow HO.out)
    have O3 := Lib.hid hown
    clear hown hgrow c1
    go_wp2_with fail
    go_roundw
    case rel => exact ⟨k + 1, by omega, by go_num, by rw [HL.out, List.length_append]; unfold pagesV at O3 ⊢; rw [List.map_append]; exact O3.out, B3.out⟩
    case measure => simp [intOf]; omega
   ·have hbl := freeL_no r k hr
    have HL := Lib.hid hbl
    have hr2 : (r k == 0) = false := by simpa using hr
    clear hbl hr
    go_wp2_with fail
    go_roundw
    case rel => exact ⟨k + 1, by omega, by go_num, by rw [HL.out]; exact HO.out, HB.out⟩
    case measure => simp [intOf]; omega
  ·obtain rfl : n = k := by omega
   have hin : ¬ (n : Int) < (n : Int) := by omega
   go_wp2_with fail
   go_ret
   exact ⟨_, rfl, HO.out, HB.out⟩
def FreesAt (w : World) (g : Nat) (l : List Nat) : Prop :=
 (∀ i (hi : i < l.length), w.cell? ⟨g, i, none⟩ = some (.int .i64 (l[i] : Nat))) ∧ g < w.heap.size
theorem pagesV_get (l : List Nat) (i : Nat) (hi : i < l.length) : (pagesV l)[i]? = some (.int .i64 (l[i] : Nat)) := by
 unfold pagesV
 rw [List.getElem?_map, List.getElem?_eq_getElem hi]
 rfl
theorem row_frees {w : World} {base : Nat} {v : Value} {l : List Nat} (h : w.ownsRow base 3 1 v l.length (pagesV l)) : (l = [] ∧ v = .slice none 0 0) ∨ ∃ g cap, v = .slice (some ⟨g, 0, none⟩) l.length cap ∧ FreesAt w g l := by
 obtain ⟨h1, ⟨rfl, h2⟩ | ⟨g, cap, cur, rfl, h3, h4, h5, h6, h7, h8⟩⟩ := h
 ·exact Or.inl ⟨List.length_eq_zero_iff.1 h2, rfl⟩
 ·refine Or.inr ⟨g, cap, rfl, fun i hi => ?_, bk_lt h4⟩
  have p0 := pagesV_get l i hi
  rw [← h8, List.getElem?_take] at p0
  rw [if_pos (by omega)] at p0
  rw [bk_cell h4]
  simp only [Array.getElem?_toList] at p0
  exact p0
def bitsUp (r : Nat → Int) : Nat → Int
 | 0 => 0
 | k + 1 => if r k = 0 then bits .or .u64 (bitsUp r k) (IntKind.u64.wrap (2 ^ k)) else bitsUp r k
def bitsL (l : List Nat) : Int := l.foldl (fun b f => bits .or .u64 b (IntKind.u64.wrap (2 ^ f))) 0
theorem bitsL_snoc (l : List Nat) (f : Nat) : bitsL (l ++ [f]) = bits .or .u64 (bitsL l) (IntKind.u64.wrap (2 ^ f)) := by
 unfold bitsL
 rw [List.foldl_append]
 rfl
theorem bitsL_free (r : Nat → Int) : ∀ n : Nat, bitsL (freeL r n) = bitsUp r n
 | 0 => rfl
 | n + 1 => by
  unfold bitsUp
  by_cases h : r n = 0
  ·rw [freeL_yes r n h, bitsL_snoc, bitsL_free r n, if_pos h]
  ·rw [freeL_no r n h, bitsL_free r n, if_neg h]
theorem bitsL_take (l : List Nat) (i : Nat) (hi : i < l.length) : bitsL (l.take (i + 1)) = bits .or .u64 (bitsL (l.take i)) (IntKind.u64.wrap (2 ^ l[i])) := by
 rw [show l.take (i + 1) = l.take i ++ [l[i]] from (List.take_append_getElem hi).symm, bitsL_snoc]
theorem freeL_lt {r : Nat → Int} {n i : Nat} (hi : i < (freeL r n).length) : (freeL r n)[i] < n := by
 have h : (freeL r n)[i] ∈ freeL r n := List.getElem_mem hi
 generalize (freeL r n)[i] = x at h ⊢
 unfold freeL at h
 exact List.mem_range.1 (List.mem_filter.1 h).1
theorem pool_bits (Y Z n : Nat) (r : Nat → Int) (hn : n ≤ 16) (w : World) (h : PoolIs w Y Z n r) :
  Calls Tryz.prog 150 #[.pointer (some ⟨Y, 0, none⟩)] w fun e w' => e = .returned (.int .u64 (bitsUp r n)) ∧ Below w.heap.size w w' := by
 have HF := Lib.hid (pool_free_own Y Z n r hn w h)
 have HU := Lib.hid (bitsL_free r n)
 have hlt : ∀ i (hi : i < (freeL r n).length), (freeL r n)[i] < n := fun i hi => freeL_lt hi
 have hle := freeL_le r n
 generalize hL : freeL r n = L at HU hlt hle
 generalize hU : bitsUp r n = U at HU ⊢
 have HLT := Lib.hid hlt
 clear h hlt
 go_enter Tryz.func150, Tryz.ntmps150
 go_wp2_with fail
 refine HF.out.mono ?_
 rintro e w1 ⟨v, rfl, ho, hb⟩
 rw [hL] at ho
 have HB := Lib.hid hb
 clear hb HF hL hU
 rcases row_frees ho with ⟨rfl, rfl⟩ | ⟨g, cap, rfl, ha⟩
 ·clear ho hle
  go_wp2_with fail
  go_loop [3, 9] (fun v c => v = .int .u64 0 ∧ c = .int .i64 0) (fun _ _ => 0)
  case atStart => exact ⟨rfl, rfl⟩
  case round =>
   obtain ⟨rfl, rfl⟩ := hrel
   go_wp2_with fail
   go_ret
   exact ⟨by rw [← HU.out]; rfl, HB.out⟩
 ·have HA := Lib.hid ha
  clear ha ho
  obtain ⟨m, hm⟩ : ∃ m, m = L.length := ⟨_, rfl⟩
  rw [← hm] at hle ⊢
  go_wp2_with fail
  go_loop [3, 9] (fun v c => ∃ k : Nat, k ≤ m ∧ c = .int .i64 k ∧ v = .int .u64 (bitsL (L.take k))) (fun _ c => (m - intOf c).toNat)
  case atStart => exact ⟨0, by omega, rfl, rfl⟩
  case round =>
   obtain ⟨k, hk, rfl, rfl⟩ := hrel
   by_cases hlt : k < m
   ·have hin : (k : Int) < (m : Int) := by omega
    have c1 := HA.out.1 k (by omega)
    have HS := Lib.hid (bitsL_take L k (by omega))
    have hx := HLT.out k (by omega)
    generalize L[k] = x at c1 HS hx
    generalize hbk : bitsL (L.take k) = bk at HS ⊢
    have x0 : ¬ (x : Int) < 0 := by omega
    go_wp2_with fail
    go_round
    case rel => exact ⟨k + 1, by omega, by go_num, by rw [HS.out]⟩
    case measure => simp [intOf]; omega
   ·obtain rfl : m = k := by omega
    have hin : ¬ (m : Int) < (m : Int) := by omega
    go_wp2_with fail
    go_ret
    exact ⟨by rw [← HU.out]; rfl, HB.out⟩
end Go.Proofs.YtdfhfmdelinemaaGreatDoor
