/- What is proved here: the objects of the statement UserAll side by side: the array of entries, the document's kernel, its buffer, and the program's buffer, table and memory; what each call of one leaves. Conditions: those that each theorem names. -/
import Derived.Test.YtmifcfkchnilmaaGreatDoorUAllM
namespace Go.Proofs.YtmifcfkchnilmaaGreatDoor
open Go.RowKit Go.Extern.Stop Go.Stop Go.Extern
def ntT (P : Nat) (tg : Nat → Int) : Thing := ⟨fun i => i = P, fun W => TabIs W P tg, fun _ _ h hs hb => tab_keep h hs (hb P rfl h.2.2), fun _ h i hi => by subst hi; exact h.2.2⟩
def nbT (R : Nat) (h : Nat → Int) : Thing := ⟨fun i => i = R, fun W => NumsIs 41 W R h, fun _ _ h hs hb => nums_keep h hs (hb R rfl h.2.2), fun _ h i hi => by subst hi; exact h.2.2⟩
def kkT (K : Nat) (k : KernS) : Thing := ⟨fun i => i = K, fun W => KernIs W K k, fun _ _ h hs hb => h.foot hs (hb K rfl h.lt), fun _ h i hi => by subst hi; exact h.lt⟩
abbrev uaL (P K R T U M F : Nat) (g h tg mg : Nat → Int) (k : KernS) : List Thing := [ntT P tg, kkT K k, nbT R h, userT T U M F 16 g tg mg]
structure UAOk (n : Int) (g h tg mg : Nat → Int) (k : KernS) : Prop where
  sim : ∃ d, Sim g h d
  cnt : h 40 ≤ n
  lines : LinesOk g
  tab : TabOk tg
  mem : MemAs mg k
section
variable {w W W' : World} {P K R T U M F : Nat} {g h tg mg : Nat → Int} {k : KernS} {n : Int}
theorem side_nb {h' : Nat → Int} {l2 : List Thing} (l1 : List Thing) (hh : Side w W (l1 ++ nbT R h :: l2)) (hn : NumsIs 41 W' R h') (ho : OnlyT R W W') : Side w W' (l1 ++ nbT R h' :: l2) :=
  Side.step (o := nbT R h) (nbT R h') hn (fun _ hi => Or.inl hi) (only_T ho) l1 hh
theorem side_nt {tg' : Nat → Int} {l2 : List Thing} (l1 : List Thing) (hh : Side w W (l1 ++ ntT P tg :: l2)) (hn : TabIs W' P tg') (ho : OnlyT P W W') : Side w W' (l1 ++ ntT P tg' :: l2) :=
  Side.step (o := ntT P tg) (ntT P tg') hn (fun _ hi => Or.inl hi) (only_T ho) l1 hh
theorem side_kk {k' : KernS} {l2 : List Thing} (l1 : List Thing) (hh : Side w W (l1 ++ kkT K k :: l2)) (hn : KernIs W' K k') (ho : OnlyT K W W') : Side w W' (l1 ++ kkT K k' :: l2) :=
  Side.step (o := kkT K k) (kkT K k') hn (fun _ hi => Or.inl hi) (only_T ho) l1 hh
theorem ua_buf (H : UAOk n g h tg mg k) (hn : n ≤ 900) : BufOk g := by
  obtain ⟨d, hs⟩ := H.sim
  exact hs.buf (by have := H.cnt; omega)
theorem ua_fill (H : UAOk n g h tg mg k) (hn : n ≤ 900) (hh : Side w W (uaL P K R T U M F g h tg mg k)) (e p f r : Int) :
    Calls Tryz.prog 37 #[.pointer (some ⟨T, 0, none⟩), .agg #[.int .i64 e, .int .i64 p, .int .i64 f, .int .i64 r]] W fun x W' => ∃ b, x = .returned (.bool b) ∧ Side w W' (uaL P K R T U M F (fillS g e p f r) h tg mg k) := by
  obtain ⟨d, hs⟩ := H.sim
  obtain ⟨b, hb⟩ := own_fill T hs (by have := H.cnt; omega) e p f r
  refine (hb W (Side.at [ntT P tg, kkT K k, nbT R h] hh).1).mono ?_
  rintro x W' ⟨rfl, h1, h2⟩
  exact ⟨b, rfl, side_uT [ntT P tg, kkT K k, nbT R h] hh h1 h2⟩
theorem ua_rfill {g1 mg1 : Nat → Int} (l1 : List Thing) (H : UAOk n g h tg mg k) (hn : n ≤ 900) (hh : Side w W (l1 ++ uaL P K R T U M F g1 h tg mg1 k)) (e p f r : Int) :
    Calls Tryz.prog 38 #[.pointer (some ⟨R, 0, none⟩), .agg #[.int .i64 e, .int .i64 p, .int .i64 f, .int .i64 r]] W fun x W' => ∃ b h', x = .returned (.bool b) ∧ UAOk (n + 1) (fillS g e p f r) h' tg mg k ∧ Side w W' (l1 ++ uaL P K R T U M F g1 h' tg mg1 k) := by
  obtain ⟨d, hs⟩ := H.sim
  obtain ⟨b, h', hb, s1, s2, s3⟩ := ref_fill R hs (by have := H.cnt; omega) H.lines e p f r
  have e1 : l1 ++ uaL P K R T U M F g1 h tg mg1 k = (l1 ++ [ntT P tg, kkT K k]) ++ nbT R h :: [userT T U M F 16 g1 tg mg1] := by simp [uaL]
  have e2 : l1 ++ uaL P K R T U M F g1 h' tg mg1 k = (l1 ++ [ntT P tg, kkT K k]) ++ nbT R h' :: [userT T U M F 16 g1 tg mg1] := by simp [uaL]
  rw [e1] at hh
  refine (hb W (Side.at _ hh)).mono ?_
  rintro x W' ⟨rfl, h1, h2⟩
  exact ⟨b, h', rfl, ⟨⟨d, s1⟩, by have := H.cnt; omega, s3, H.tab, H.mem⟩, e2 ▸ side_nb _ hh h1 h2⟩
theorem ua_rflush {g1 mg1 : Nat → Int} (l1 : List Thing) (H : UAOk n g h tg mg k) (hh : Side w W (l1 ++ uaL P K R T U M F g1 h tg mg1 k)) (e p : Int) :
    Calls Tryz.prog 46 #[.pointer (some ⟨R, 0, none⟩), .int .i64 e, .int .i64 p] W fun x W' => ∃ b h', x = .returned (.bool b) ∧ UAOk n (flushS g e p) h' tg mg k ∧ Side w W' (l1 ++ uaL P K R T U M F g1 h' tg mg1 k) := by
  obtain ⟨d, hs⟩ := H.sim
  obtain ⟨b, h', hb, s1, s2, s3⟩ := ref_flush R hs H.lines e p
  have e1 : l1 ++ uaL P K R T U M F g1 h tg mg1 k = (l1 ++ [ntT P tg, kkT K k]) ++ nbT R h :: [userT T U M F 16 g1 tg mg1] := by simp [uaL]
  have e2 : l1 ++ uaL P K R T U M F g1 h' tg mg1 k = (l1 ++ [ntT P tg, kkT K k]) ++ nbT R h' :: [userT T U M F 16 g1 tg mg1] := by simp [uaL]
  rw [e1] at hh
  refine (hb W (Side.at _ hh)).mono ?_
  rintro x W' ⟨rfl, h1, h2⟩
  exact ⟨b, h', rfl, ⟨⟨d, s1⟩, by have := H.cnt; omega, s3, H.tab, H.mem⟩, e2 ▸ side_nb _ hh h1 h2⟩
theorem ua_insert {q : Nat} (hq : q < 8) (f s r : Int) (H : UAOk n g h tg mg k) {l2 : List Thing} (l1 : List Thing) (hh : Side w W (l1 ++ userT T U M F 16 g tg mg :: l2)) :
    Calls Tryz.prog 39 #[.pointer (some ⟨U, 0, none⟩), .int .i64 (q : Int), .agg #[.int .i64 f, .int .i64 s, .int .i64 r]] W fun x W' => ∃ m tg', x = .returned (.int .i64 m) ∧ ((m = 0 ∧ tg' = putG tg q f s r ∧ TabOk tg') ∨ ((m = 2 ∨ m = 4) ∧ tg' = tg)) ∧ Side w W' (l1 ++ userT T U M F 16 g tg' mg :: l2) := by
  have hu := (Side.at l1 hh).2.1
  cases hm : mayIns f s r
  · refine (tins_may W U q f s r hq hm).mono ?_
    rintro x W' ⟨rfl, hb⟩
    exact ⟨2, tg, rfl, Or.inr ⟨Or.inl rfl, rfl⟩, hh.under hb⟩
  · by_cases hz : tg (q * 3 + 2) = 0
    · refine (tins_ok W U q f s r tg hq hm hu hz).mono ?_
      rintro x W' ⟨rfl, h1, h2⟩
      exact ⟨0, _, rfl, Or.inl ⟨rfl, rfl, tab_ok_put H.tab hm⟩, side_uU l1 hh h1 h2⟩
    · refine (tins_busy W U q f s r tg hq hm hu hz).mono ?_
      rintro x W' ⟨rfl, hb⟩
      exact ⟨4, tg, rfl, Or.inr ⟨Or.inr rfl, rfl⟩, hh.under hb⟩
theorem ua_ref {l : List Thing} (hh : Side w W l) :
    Calls Tryz.prog 36 #[] W fun x W' => ∃ R, x = .returned (.pointer (some ⟨R, 0, none⟩)) ∧ Side w W' (nbT R (noneK (fun _ => 0) 8) :: l) := by
  refine (rnew_any W).mono ?_
  rintro x W' ⟨rfl, hb, hn⟩
  exact ⟨_, rfl, hh.make hb (nbT _ _) hn fun i hi => by have hi : i = W.heap.size := hi; omega⟩
theorem ua_kref (c e f : Int) {l : List Thing} (hh : Side w W l) :
    Calls Tryz.prog 18 #[.agg #[.int .i64 c, .int .i64 e, .int .i64 f]] W fun x W' => ∃ K, x = .returned (.pointer (some ⟨K, 0, none⟩)) ∧ Side w W' (kkT K (newK c e f) :: l) := by
  refine (kref_new c e f W).mono ?_
  rintro x W' ⟨K, rfl, h1, hb, hl⟩
  exact ⟨K, rfl, hh.make hb (kkT K (newK c e f)) h1 fun i hi => by have hi : i = K := hi; omega⟩
theorem ua_start : UAOk 0 (fun _ => 0) (noneK (fun _ => 0) 8) (fun _ => 0) (fun _ => 0) (newK 1 4 16) :=
  ⟨⟨_, sim_none (fun _ => 0) (by decide)⟩, by decide, LinesOk.start, tab_ok_new, MemAs.new 1 4 16⟩
theorem UAOk.more {m : Int} (H : UAOk n g h tg mg k) (hm : n ≤ m) : UAOk m g h tg mg k := ⟨H.sim, by have := H.cnt; omega, H.lines, H.tab, H.mem⟩
theorem UAOk.put {tg' : Nat → Int} (H : UAOk n g h tg mg k) (ht : TabOk tg') : UAOk n g h tg' mg k := ⟨H.sim, H.cnt, H.lines, ht, H.mem⟩
theorem ua_put {l2 : List Thing} (hh : Side w W (ntT P tg :: l2)) {q : Nat} (hq : q < 8) (f s r : Int) :
    Side w (((W.setCell ⟨P, q * 3, none⟩ (.int .i64 f)).setCell ⟨P, q * 3 + 1, none⟩ (.int .i64 s)).setCell ⟨P, q * 3 + 2, none⟩ (.int .i64 r)) (ntT P (putG tg q f s r) :: l2) :=
  side_nt [] hh (hh.1.put hq f s r) (tp_put (tp_below (Below.refl _ _)) q _ _ _)
theorem ua_found (R : Nat) (H : UAOk n g h tg mg k) {e p : Nat} {kind : Int} {g' : Nat → Int} {l0 l1 l2 l3 : Int} {ok : Bool} (hs : walkS g tg (e : Int) (p : Int) kind = (g', (l0, l1, l2, l3), ok)) :
    ∃ (b : Bool) (x0 x1 x2 x3 : Int), (∀ W, NumsIs 41 W R h → Calls Tryz.prog 44 #[.pointer (some ⟨R, 0, none⟩), .int .i64 (e : Int), .int .i64 (p : Int)] W fun x w' => x = .returned (.tuple #[.agg #[.int .i64 x0, .int .i64 x1, .int .i64 x2, .int .i64 x3], .bool b]) ∧ Below W.heap.size W w') ∧
      ((b = true ∧ withinB (needN kind) x3 = true ∧ g' = g ∧ l0 = x0 ∧ l1 = x1 ∧ l2 = x2 ∧ l3 = x3 ∧ ok = true) ∨
       ((b = false ∨ (b = true ∧ withinB (needN kind) x3 = false)) ∧
        ((withinB (needN kind) (tg (p * 3 + 2)) = true ∧ g' = fillS g (e : Int) (p : Int) (tg (p * 3)) (tg (p * 3 + 2)) ∧ l0 = (e : Int) ∧ l1 = (p : Int) ∧ l2 = tg (p * 3) ∧ l3 = tg (p * 3 + 2) ∧ ok = true) ∨
         (withinB (needN kind) (tg (p * 3 + 2)) = false ∧ g' = flushS g (e : Int) (p : Int) ∧ l0 = 0 ∧ l1 = 0 ∧ l2 = 0 ∧ l3 = 0 ∧ ok = false)))) := by
  obtain ⟨d, hd⟩ := H.sim
  obtain ⟨b, x0, x1, x2, x3, hf, hc⟩ := ref_find R hd H.lines (e : Int) (p : Int)
  refine ⟨b, x0, x1, x2, x3, hf, ?_⟩
  have hno : ¬ (whereN g (e : Int) (p : Int) < 8 ∧ withinB (needN kind) (g (whereN g (e : Int) (p : Int) * 5 + 3)) = true) → ((withinB (needN kind) (tg (p * 3 + 2)) = true ∧ g' = fillS g (e : Int) (p : Int) (tg (p * 3)) (tg (p * 3 + 2)) ∧ l0 = (e : Int) ∧ l1 = (p : Int) ∧ l2 = tg (p * 3) ∧ l3 = tg (p * 3 + 2) ∧ ok = true) ∨
         (withinB (needN kind) (tg (p * 3 + 2)) = false ∧ g' = flushS g (e : Int) (p : Int) ∧ l0 = 0 ∧ l1 = 0 ∧ l2 = 0 ∧ l3 = 0 ∧ ok = false)) := by
    intro hn
    unfold walkS at hs
    rw [if_neg hn, Int.toNat_natCast] at hs
    cases hl : withinB (needN kind) (tg (p * 3 + 2))
    · rw [hl, if_neg (by decide)] at hs
      simp only [Prod.mk.injEq] at hs
      obtain ⟨a0, ⟨a1, a2, a3, a4⟩, a5⟩ := hs
      exact Or.inr ⟨rfl, a0.symm, a1.symm, a2.symm, a3.symm, a4.symm, a5.symm⟩
    · rw [hl, if_pos rfl] at hs
      simp only [Prod.mk.injEq] at hs
      obtain ⟨a0, ⟨a1, a2, a3, a4⟩, a5⟩ := hs
      exact Or.inl ⟨rfl, a0.symm, a1.symm, a2.symm, a3.symm, a4.symm, a5.symm⟩
  rcases hc with ⟨rfl, hw, h0, h1, h2, h3, _, _⟩ | ⟨rfl, hw, _⟩
  · cases hl : withinB (needN kind) x3
    · exact Or.inr ⟨Or.inr ⟨rfl, rfl⟩, hno fun hn => by rw [h3, hl] at hn; exact absurd hn.2 (by decide)⟩
    · left
      unfold walkS at hs
      rw [if_pos ⟨hw, by rw [h3]; exact hl⟩, h0, h1, h2, h3] at hs
      simp only [Prod.mk.injEq] at hs
      obtain ⟨a0, ⟨a1, a2, a3, a4⟩, a5⟩ := hs
      exact ⟨rfl, rfl, a0.symm, a1.symm, a2.symm, a3.symm, a4.symm, a5.symm⟩
  · exact Or.inr ⟨Or.inl rfl, hno fun hn => by omega⟩
theorem ua_word {mg1 : Nat → Int} {l2 : List Thing} (l1 : List Thing) (hm : MemAs mg k) (hh : Side w W (l1 ++ kkT K k :: l2)) {f a : Nat} (hf : f < 16) (ha : a < 16) {kind : Int} (hk : kind = 20 ∨ kind = 21 ∨ kind = 22 ∨ kind = 23) (x1 x3 x4 : Int) {v : Int} (hv : v = memV mg 16 (f : Int) a kind) (hmg : mg1 = memS mg 16 (f : Int) a kind x3 x4) :
    Calls Tryz.prog 47 #[.pointer (some ⟨K, 0, none⟩), .int .i64 (f : Int), .int .i64 kind, .agg #[.int .u64 kind, .int .u64 x1, .int .u64 (a : Int), .int .u64 x3, .int .u64 x4]] W fun x W' => x = .returned (.int .u64 v) ∧ MemAs mg1 (wordS k f a kind x3 x4) ∧ Side w W' (l1 ++ kkT K (wordS k f a kind x3 x4) :: l2) := by
  obtain ⟨e1, e2⟩ := hm.word hf ha (by omega : 20 ≤ kind ∧ kind ≤ 23) x3 x4
  refine (kref_word K k f a hf ha kind kind x1 x3 x4 W (Side.at (o := kkT K k) l1 hh)).mono ?_
  rintro x W' ⟨rfl, h1, h2⟩
  exact ⟨by rw [hv, e1], by rw [hmg]; exact e2, side_kk l1 hh h1 h2⟩
theorem UAOk.line (H : UAOk n g h tg mg k) {j : Nat} (hj : j < 32) : lnG g j = h j := by
  obtain ⟨d, hd⟩ := H.sim
  exact hd.line hj
end
end Go.Proofs.YtmifcfkchnilmaaGreatDoor

