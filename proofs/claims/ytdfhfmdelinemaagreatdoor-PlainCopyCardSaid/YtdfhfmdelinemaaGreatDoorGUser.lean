/- What is proved here: what the statements ask of package user. Conditions: those that each theorem names. -/
import Derived.Test.YtdfhfmdelinemaaGreatDoorGTree
import Derived.Test.YtdfhfmdelinemaaGreatDoorGWord
import Derived.Test.YtdfhfmdelinemaaGreatDoorGParts
namespace Go.Proofs.YtdfhfmdelinemaaGreatDoor
open Go.RowKit Go.Extern.Stop Go.Stop Go.Extern Go.WalkArith
def fstN (b : Nat → Bool) : Nat → Nat
  | 0 => 0
  | n + 1 => if fstN b n < n then fstN b n else if b n = true then n else n + 1
theorem fstN_none {b : Nat → Bool} : ∀ n, (∀ j, j < n → b j = false) → fstN b n = n
  | 0, _ => rfl
  | n + 1, h => by
    have h1 := fstN_none n fun j hj => h j (by omega)
    unfold fstN
    rw [h1, if_neg (by omega), h n (by omega), if_neg (by decide)]
theorem fstN_hit {b : Nat → Bool} {k : Nat} (hb : b k = true) (hn : ∀ j, j < k → b j = false) : ∀ n, k < n → fstN b n = k
  | 0, h => absurd h (Nat.not_lt_zero _)
  | n + 1, h => by
    unfold fstN
    rcases Nat.lt_or_ge k n with h1 | h1
    · rw [fstN_hit hb hn n h1, if_pos h1]
    · obtain rfl : k = n := by omega
      rw [fstN_none k hn, if_neg (by omega), if_pos hb]
def whereN (g : Nat → Int) (e p : Int) : Nat := fstN (hitB g e p) 8
theorem where_hit {g : Nat → Int} {e p : Int} {k : Nat} (hk : k < 8) (hit : hitB g e p k = true) (hno : ∀ j, j < k → hitB g e p j = false) : whereN g e p = k := fstN_hit hit hno 8 hk
theorem where_no {g : Nat → Int} {e p : Int} (hno : ∀ j, j < 8 → hitB g e p j = false) : whereN g e p = 8 := fstN_none 8 hno
def fillS (g : Nat → Int) (e p f r : Int) : Nat → Int :=
  if lineB e p f r = true then fillG g (if whereN g e p < 8 then whereN g e p else old g (p % 4).toNat) e p f r else g
def flushS (g : Nat → Int) (e p : Int) : Nat → Int := if whereN g e p < 8 then clearG g (whereN g e p) else g
def walkS (g tg : Nat → Int) (e p kind : Int) : (Nat → Int) × (Int × Int × Int × Int) × Bool :=
  if whereN g e p < 8 ∧ withinB (needN kind) (g (whereN g e p * 5 + 3)) = true then (g, (g (whereN g e p * 5), g (whereN g e p * 5 + 1), g (whereN g e p * 5 + 2), g (whereN g e p * 5 + 3)), true)
  else if withinB (needN kind) (tg (p.toNat * 3 + 2)) = true then (fillS g e p (tg (p.toNat * 3)) (tg (p.toNat * 3 + 2)), (e, p, tg (p.toNat * 3), tg (p.toNat * 3 + 2)), true)
  else (flushS g e p, (0, 0, 0, 0), false)
abbrev lineV (l : Int × Int × Int × Int) : Value := .agg #[.int .i64 l.1, .int .i64 l.2.1, .int .i64 l.2.2.1, .int .i64 l.2.2.2]
def BufOk (g : Nat → Int) : Prop := (∀ (e p : Int) (k : Nat), k < 8 → hitB g e p k = true → 0 ≤ p ∧ p < 8 ∧ p % 4 = ((k / 2 : Nat) : Int)) ∧ 0 ≤ g 40 ∧ g 40 ≤ 1000
def TabOk (tg : Nat → Int) : Prop := ∀ p : Nat, p < 8 → tg (p * 3 + 2) = 0 ∨ ((0 ≤ tg (p * 3) ∧ tg (p * 3) < 16) ∧ 1 ≤ tg (p * 3 + 2) ∧ tg (p * 3 + 2) ≤ 3)
def doE (env x0 x1 x2 x3 x4 : Int) : Int := if env < 0 ∨ 4 ≤ env then 10 else if userB (kindN x0) = true then chkN x0 x1 x2 x3 x4 4 else 1
theorem doE_inv {env x0 x1 x2 x3 x4 : Int} (h1 : 0 ≤ x1) (h2 : 0 ≤ x2) (hd : doE env x0 x1 x2 x3 x4 = 0) : (x0 = 20 ∨ x0 = 21 ∨ x0 = 22 ∨ x0 = 23) ∧ (∃ e : Nat, env = (e : Int) ∧ e < 4) ∧ (∃ p : Nat, x1 = (p : Int) ∧ p < 8) ∧ ∃ a : Nat, x2 = (a : Int) ∧ a < 16 := by
  unfold doE at hd
  by_cases he : env < 0 ∨ 4 ≤ env
  · rw [if_pos he] at hd
    exact absurd hd (by decide)
  rw [if_neg he] at hd
  cases hu : userB (kindN x0)
  · rw [hu, if_neg (by decide)] at hd
    exact absurd hd (by decide)
  rw [hu, if_pos rfl] at hd
  have hk : x0 = 20 ∨ x0 = 21 ∨ x0 = 22 ∨ x0 = 23 := by
    unfold userB kindN at hu
    by_cases hi : isKind x0 = true
    · rw [if_pos hi] at hu
      simp only [Bool.and_eq_true, decide_eq_true_eq] at hu
      omega
    · rw [if_neg hi] at hu
      exact absurd hu (by decide)
  refine ⟨hk, ⟨env.toNat, by omega, by omega⟩, ?_⟩
  have hb : belowB x1 8 = true ∧ belowB x2 16 = true := by
    cases b0 : belowB x1 8
    all_goals cases b1 : belowB x2 16
    all_goals
      first
      | exact ⟨rfl, rfl⟩
      | (exfalso
         unfold chkN at hd
         rcases hk with rfl | rfl | rfl | rfl
         all_goals
           rw [if_pos (by decide)] at hd
           simp [mean, shp, mayW, b0, b1, res4, pre] at hd)
  simp only [belowB, decide_eq_true_eq] at hb
  exact ⟨⟨x1.toNat, by omega, by omega⟩, x2.toNat, by omega, by omega⟩
def memS (mg : Nat → Int) (n : Nat) (f : Int) (a : Nat) (kind x3 x4 : Int) (j : Nat) : Int :=
  if 0 ≤ f ∧ f < (n : Int) ∧ j = f.toNat * 16 + a then
    (if kind = 21 then x3 else if kind = 22 then (if mg j = x3 then x4 else mg j) else if kind = 23 then IntKind.u64.wrap (mg j + x3) else mg j)
  else mg j
def memV (mg : Nat → Int) (n : Nat) (f : Int) (a : Nat) (kind : Int) : Int := if 0 ≤ f ∧ f < (n : Int) ∧ ¬ kind = 21 then mg (f.toNat * 16 + a) else 0
structure UserC : Prop where
  walk_ : ∀ (T U : Nat) (g tg : Nat → Int) (e p kind : Int) (w : World), NumsIs 41 w T g → BufOk g → TabIs w U tg → TabOk tg → T ≠ U → 0 ≤ e ∧ e < 4 → 0 ≤ p ∧ p < 8 →
    Calls Tryz.prog 87 #[.pointer (some ⟨T, 0, none⟩), .pointer (some ⟨U, 0, none⟩), .int .i64 e, .int .i64 p, .int .i64 kind] w fun x w' => x = .returned (.tuple #[lineV (walkS g tg e p kind).2.1, .bool (walkS g tg e p kind).2.2]) ∧ NumsIs 41 w' T (walkS g tg e p kind).1 ∧ OnlyT T w w'
  err_ : ∀ (T U M : Nat) (env x0 x1 x2 x3 x4 : Int) (w : World), wordsIn x0 x1 x2 x3 x4 → ¬ doE env x0 x1 x2 x3 x4 = 0 →
    Calls Tryz.prog 35 #[.pointer (some ⟨T, 0, none⟩), .pointer (some ⟨U, 0, none⟩), .pointer (some ⟨M, 0, none⟩), .int .i64 env, callV x0 x1 x2 x3 x4] w fun x w' => x = .returned (.tuple #[.agg #[.int .i64 (doE env x0 x1 x2 x3 x4), .int .u64 0], lineV (0, 0, 0, 0)]) ∧ Below w.heap.size w w'
  do_ : ∀ (T U M F n : Nat) (g tg mg : Nat → Int) (env x0 x1 x2 x3 x4 : Int) (w : World), NumsIs 41 w T g → BufOk g → TabIs w U tg → TabOk tg → MemIs w M F n mg → T ≠ U → T ≠ M → T ≠ F → U ≠ F → n ≤ 16 → wordsIn x0 x1 x2 x3 x4 → doE env x0 x1 x2 x3 x4 = 0 →
    Calls Tryz.prog 35 #[.pointer (some ⟨T, 0, none⟩), .pointer (some ⟨U, 0, none⟩), .pointer (some ⟨M, 0, none⟩), .int .i64 env, callV x0 x1 x2 x3 x4] w fun x w' =>
      x = .returned (.tuple #[.agg #[.int .i64 (if (walkS g tg env x1 x0).2.2 = true then 0 else 7), .int .u64 (if (walkS g tg env x1 x0).2.2 = true then memV mg n (walkS g tg env x1 x0).2.1.2.2.1 x2.toNat x0 else 0)], lineV (walkS g tg env x1 x0).2.1]) ∧
      NumsIs 41 w' T (walkS g tg env x1 x0).1 ∧ MemIs w' M F n (if (walkS g tg env x1 x0).2.2 = true then memS mg n (walkS g tg env x1 x0).2.1.2.2.1 x2.toNat x0 x3 x4 else mg) ∧ Only (fun i => i = T ∨ i = F) w w'
end Go.Proofs.YtdfhfmdelinemaaGreatDoor
namespace Go.Proofs.YtdfhfmdelinemaaGreatDoor
open Go.RowKit Go.Extern.Stop Go.Stop Go.Extern
theorem tput_at (tg : Nat → Int) (q : Nat) (f s r : Int) (p : Nat) : putG tg q f s r (p * 3 + 2) = (if p = q then r else tg (p * 3 + 2)) ∧ putG tg q f s r (p * 3) = if p = q then f else tg (p * 3) := by
  constructor
  · unfold putG
    by_cases hc : p = q
    · rw [if_pos (by omega), if_pos hc]
    · rw [if_neg (by omega), if_neg (by omega), if_neg (by omega), if_neg hc]
  · unfold putG
    by_cases hc : p = q
    · rw [if_neg (by omega), if_neg (by omega), if_pos (by omega), if_pos hc]
    · rw [if_neg (by omega), if_neg (by omega), if_neg (by omega), if_neg hc]
theorem tab_ok_new : TabOk fun _ => 0 := fun _ _ => Or.inl rfl
theorem tab_ok_put {tg : Nat → Int} (h : TabOk tg) {q : Nat} {f s r : Int} (hm : mayIns f s r = true) : TabOk (putG tg q f s r) := by
  simp only [mayIns, Bool.and_eq_true, decide_eq_true_eq] at hm
  intro p hp
  rw [(tput_at tg q f s r p).1, (tput_at tg q f s r p).2]
  by_cases hc : p = q
  · rw [if_pos hc, if_pos hc]
    right
    omega
  · rw [if_neg hc, if_neg hc]
    exact h p hp
theorem nums_keep {n : Nat} {W W' : World} {T : Nat} {g : Nat → Int} (h : NumsIs n W T g) (hs : W.heap.size ≤ W'.heap.size) (hb : W'.heap[T]? = W.heap[T]?) : NumsIs n W' T g :=
  ⟨fun j hj => (World.cell?_of_block (a := ⟨T, j, none⟩) hb).trans (h.1 j hj), fun j => (World.frozen?_of_block (a := ⟨T, j, none⟩) hb).trans (h.2.1 j), Nat.lt_of_lt_of_le h.2.2 hs⟩
theorem tab_keep {W W' : World} {T : Nat} {g : Nat → Int} (h : TabIs W T g) (hs : W.heap.size ≤ W'.heap.size) (hb : W'.heap[T]? = W.heap[T]?) : TabIs W' T g :=
  ⟨fun j hj => (World.cell?_of_block (a := ⟨T, j, none⟩) hb).trans (h.1 j hj), fun j => (World.frozen?_of_block (a := ⟨T, j, none⟩) hb).trans (h.2.1 j), Nat.lt_of_lt_of_le h.2.2 hs⟩
theorem mem_keep {W W' : World} {M F n : Nat} {g : Nat → Int} (h : MemIs W M F n g) (hs : W.heap.size ≤ W'.heap.size) (hM : W'.heap[M]? = W.heap[M]?) (hF : W'.heap[F]? = W.heap[F]?) : MemIs W' M F n g :=
  ⟨h.1, (World.cell?_of_block (a := ⟨M, 0, none⟩) hM).trans h.2.1, fun j hj => (World.cell?_of_block (a := ⟨F, j, none⟩) hF).trans (h.2.2.1 j hj), fun j => (World.frozen?_of_block (a := ⟨F, j, none⟩) hF).trans (h.2.2.2.1 j), Nat.lt_of_lt_of_le h.2.2.2.2.1 hs, Nat.lt_of_lt_of_le h.2.2.2.2.2 hs⟩
def userT (T U M F n : Nat) (g tg mg : Nat → Int) : Thing :=
  ⟨fun i => i = T ∨ i = U ∨ i = M ∨ i = F, fun W => NumsIs 41 W T g ∧ TabIs W U tg ∧ MemIs W M F n mg ∧ (T ≠ U ∧ T ≠ M ∧ T ≠ F ∧ U ≠ M ∧ U ≠ F),
    fun _ _ h hs hb => ⟨nums_keep h.1 hs (hb T (Or.inl rfl) h.1.2.2), tab_keep h.2.1 hs (hb U (Or.inr (Or.inl rfl)) h.2.1.2.2), mem_keep h.2.2.1 hs (hb M (Or.inr (Or.inr (Or.inl rfl))) h.2.2.1.2.2.2.2.1) (hb F (Or.inr (Or.inr (Or.inr rfl))) h.2.2.1.2.2.2.2.2), h.2.2.2⟩,
    fun W h i hi => by
      rcases hi with rfl | rfl | rfl | rfl
      · exact h.1.2.2
      · exact h.2.1.2.2
      · exact h.2.2.1.2.2.2.2.1
      · exact h.2.2.1.2.2.2.2.2⟩
section
variable {w W W' : World} {T U M F n : Nat} {g tg mg : Nat → Int} {l2 : List Thing}
theorem side_uU {tg' : Nat → Int} (l1 : List Thing) (h : Side w W (l1 ++ userT T U M F n g tg mg :: l2)) (hn : TabIs W' U tg') (ho : OnlyT U W W') : Side w W' (l1 ++ userT T U M F n g tg' mg :: l2) := by
  have o := only_T ho
  have h0 := Side.at l1 h
  obtain ⟨h1, h2, h3, d⟩ := h0
  obtain ⟨d1, d2, d3, d4, d5⟩ := d
  refine Side.step (o := userT T U M F n g tg mg) (userT T U M F n g tg' mg) ⟨nums_keep h1 o.2.2.2.1 (o.2.2.2.2 T h1.2.2 d1), hn, mem_keep h3 o.2.2.2.1 (o.2.2.2.2 M h3.2.2.2.2.1 fun e => d4 e.symm) (o.2.2.2.2 F h3.2.2.2.2.2 fun e => d5 e.symm), d1, d2, d3, d4, d5⟩ (fun _ hi => Or.inl hi) ⟨o.1, o.2.1, o.2.2.1, o.2.2.2.1, fun i hi hs => o.2.2.2.2 i hi fun e => hs (Or.inr (Or.inl e))⟩ l1 h
def UDoP (w : World) (l1 l2 : List Thing) (T U M F n : Nat) (g' tg mg' : Nat → Int) (er v e p f r : Int) (x : Ending) (W' : World) : Prop :=
  x = .returned (.tuple #[.agg #[.int .i64 er, .int .u64 v], .agg #[.int .i64 e, .int .i64 p, .int .i64 f, .int .i64 r]]) ∧ Side w W' (l1 ++ userT T U M F n g' tg mg' :: l2)
theorem side_udo (H : UserC) (l1 : List Thing) (h : Side w W (l1 ++ userT T U M F n g tg mg :: l2)) (hb : BufOk g) (ht : TabOk tg) {env x0 x1 x2 x3 x4 : Int} (hw : wordsIn x0 x1 x2 x3 x4) (hd : doE env x0 x1 x2 x3 x4 = 0) {g' mg' : Nat → Int} {er v e p f r : Int} {ok : Bool} (hs : walkS g tg env x1 x0 = (g', (e, p, f, r), ok))
    (he : er = if ok = true then 0 else 7) (hv : v = if ok = true then memV mg n f x2.toNat x0 else 0) (hm : mg' = if ok = true then memS mg n f x2.toNat x0 x3 x4 else mg) (hn : n ≤ 16 := by omega) :
    Calls Tryz.prog 35 #[.pointer (some ⟨T, 0, none⟩), .pointer (some ⟨U, 0, none⟩), .pointer (some ⟨M, 0, none⟩), .int .i64 env, callV x0 x1 x2 x3 x4] W (UDoP w l1 l2 T U M F n g' tg mg' er v e p f r) := by
  obtain ⟨h1, h2, h3, d⟩ := Side.at l1 h
  obtain ⟨d1, d2, d3, d4, d5⟩ := d
  have hc := H.do_ T U M F n g tg mg env x0 x1 x2 x3 x4 W h1 hb h2 ht h3 d1 d2 d3 d5 hn hw hd
  rw [hs] at hc
  dsimp only at hc
  refine hc.mono ?_
  rintro x W' ⟨rfl, c1, c2, o⟩
  subst he hv hm
  refine ⟨rfl, Side.step (o := userT T U M F n g tg mg) (userT T U M F n g' tg _) ⟨c1, tab_keep h2 o.2.2.2.1 (o.2.2.2.2 U h2.2.2 fun e => e.elim (fun e => d1 e.symm) d5), c2, d1, d2, d3, d4, d5⟩ (fun _ hi => Or.inl hi) ⟨o.1, o.2.1, o.2.2.1, o.2.2.2.1, fun i hi hs => o.2.2.2.2 i hi fun e => hs (e.elim Or.inl fun e => Or.inr (Or.inr (Or.inr e)))⟩ l1 h⟩
end
theorem walk_fill {g tg : Nat → Int} {e p : Nat} {kind f r : Int} (hn : ∀ j, j < 8 → hitB g (e : Int) (p : Int) j = false) (hl : withinB (needN kind) r = true) (hf : tg (p * 3) = f) (hr : tg (p * 3 + 2) = r) (hb : lineB (e : Int) (p : Int) f r = true) :
    walkS g tg (e : Int) (p : Int) kind = (fillG g (old g ((p : Int) % 4).toNat) (e : Int) (p : Int) f r, ((e : Int), (p : Int), f, r), true) := by
  have hw : whereN g (e : Int) (p : Int) = 8 := fstN_none 8 hn
  unfold walkS
  rw [if_neg (fun hc => by have := hc.1; omega), Int.toNat_natCast, hf, hr, if_pos hl]
  unfold fillS
  rw [if_pos hb, if_neg (by omega)]
theorem zero_no (e p : Int) (j : Nat) : hitB (fun _ => 0) e p j = false := by unfold hitB; simp
theorem mem_new2 (w : World) : Calls Tryz.prog 29 #[.int .i64 2] w fun e w' => e = .returned (.pointer (some ⟨w.heap.size + 1, 0, none⟩)) ∧ Below w.heap.size w w' ∧ MemIs w' (w.heap.size + 1) w.heap.size 2 (fun _ => 0) := by
  obtain ⟨cs, hcs⟩ : ∃ cs : Array Value, cs = Array.replicate 32 (.int .u64 0) := ⟨_, rfl⟩
  have hmk : ∀ W : World, (Instr.makeSlice 151 (.int .i64 2) (.int .i64 2)).run Tryz.prog W = .ok (.slice (some ⟨W.heap.size, 0, none⟩) 2 2) (W.alloc (.cells cs 218)) := fun W => make_words 2 (by omega) cs (by rw [hcs]; exact made_zero 32) W
  have hat : ∀ j, j < 2 * 16 → cs[j]? = some (.int .u64 0) := fun j hj => by rw [hcs, Array.getElem?_replicate, if_pos hj]
  have HS := Lib.hid hat
  clear hcs hat
  go_enter Tryz.func29, Tryz.ntmps29
  go_wp2_with fail
  go_ret
  have h1 : ((w.alloc (.cells cs 218)).alloc (.cells #[.slice (some ⟨w.heap.size, 0, none⟩) 2 2] 153)).heap[w.heap.size + 1]? = some (.cells #[.slice (some ⟨w.heap.size, 0, none⟩) 2 2] 153 (0, 0)) := by
    have h := heap_alloc_new (w.alloc (.cells cs 218)) (.cells #[.slice (some ⟨w.heap.size, 0, none⟩) 2 2] 153)
    simpa using h
  have h2 : ((w.alloc (.cells cs 218)).alloc (.cells #[.slice (some ⟨w.heap.size, 0, none⟩) 2 2] 153)).heap[w.heap.size]? = some (.cells cs 218 (0, 0)) :=
    (Below.heap_alloc (w.alloc (.cells cs 218)) _ w.heap.size (by simp)).trans (heap_alloc_new w _)
  exact ⟨rfl, ((Below.refl _ _).alloc (Nat.le_refl _) _).alloc (by simp) _, by omega, bk_cell h1 0, fun j hj => (bk_cell h2 j).trans (HS.out j hj), fun j => bk_free h2 j, bk_lt h1, bk_lt h2⟩
end Go.Proofs.YtdfhfmdelinemaaGreatDoor
