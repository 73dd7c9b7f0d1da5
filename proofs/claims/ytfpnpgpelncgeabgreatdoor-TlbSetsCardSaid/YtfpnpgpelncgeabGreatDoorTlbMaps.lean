/- What is proved here: the two maps of TlbSets: how many lines of each set there are; which pairs were put in. Conditions: those that each theorem names. -/
import Derived.Test.YtfpnpgpelncgeabGreatDoorTlbT
import Derived.Test.YtfpnpgpelncgeabGreatDoorSlices
import Derived.Maps.OwnOps
import Derived.Maps.OwnSet
import Derived.Maps.Views
import Derived.DeepKeys4
namespace Go.Proofs.YtfpnpgpelncgeabGreatDoor
open Go.RowKit Go.Extern.Stop Go.Stop Go.Extern Go.Maps

theorem ilaw : Keyed Tryz.prog 3 := int_keyed Tryz.underlying3
theorem int_wf (n : Nat) (h : n < 1000) : (Lit.int .i64 (n : Int)).wf = true := by
  have h1 : IntKind.i64.min ≤ 0 := by decide
  have h2 : (1000 : Int) ≤ IntKind.i64.max := by decide
  simp only [Lit.wf, Bool.and_eq_true, decide_eq_true_eq]
  omega
theorem ikey (n : Nat) (h : n < 1000) : keyOf Tryz.prog 3 (.int .i64 (n : Int)) = some (.int .i64 (n : Int)) := keyOf_int_mk Tryz.underlying3 (int_wf n h)
theorem pairRow : (49 : TypeId) < Tryz.prog.types.size := of_decide_eq_true (by kernel_rfl)
theorem pairWide : (match Tryz.prog.underlying 49 with | some (.array _ _) | some (.struct _) => true | _ => false) = true := by rw [Tryz.underlying49]
set_option maxRecDepth 100000 in
theorem plaw : Keyed Tryz.prog 49 := Keyed.of_law (deep_law_laid Tryz.laidOut (m := 2) (by omega) pairRow (by kernel_rfl) pairWide)
/-- A pair as a key, as the map's datum has it. -/
def pairV (e p : Nat) : Value := .agg #[.int .i64 (e : Int), .int .i64 (p : Int)]
noncomputable def klit (e p : Nat) : Lit := (keyOf Tryz.prog 49 (pairV e p)).getD (.int .i64 0)
set_option maxRecDepth 100000 in
theorem pair_is : ∀ e < 4, ∀ p < 8, (keyOf Tryz.prog 49 (pairV e p)).isSome = true := by decide +kernel
theorem klit_some {e p : Nat} (he : e < 4) (hp : p < 8) : keyOf Tryz.prog 49 (pairV e p) = some (klit e p) := by
  have h := pair_is e he p hp
  unfold klit
  obtain ⟨l, hl⟩ := Option.isSome_iff_exists.1 h
  rw [hl]
  rfl
theorem klit_inj {e p e' p' : Nat} (he : e < 4) (hp : p < 8) (he' : e' < 4) (hp' : p' < 8) (h : klit e p = klit e' p') : e = e' ∧ p = p' := by
  have h2 := plaw.inj (klit_some he hp) (by rw [h]; exact klit_some he' hp')
  unfold pairV at h2
  simp only [Value.agg.injEq, Array.mk.injEq, List.cons.injEq, Value.int.injEq, true_and, and_true] at h2
  omega
/-- The pairs of the set s among the first i, as a map. -/
def WantIs (w : World) (b : Nat) (E P : Nat → Nat) (s i : Nat) : Prop :=
  ∃ D : DataW Unit, w.ownsMap Tryz.prog 49 (plainElem Tryz.prog 4) b i D ∧ Tidy D ∧ size D = unlike E P s i ∧ ∀ e, e < 4 → ∀ p, p < 8 → has D (klit e p) = seen E P s i (e * 8 + p)
theorem WantIs.new (w : World) (E P : Nat → Nat) (s : Nat) : WantIs (w.alloc (.map #[] 0)) w.heap.size E P s 0 :=
  ⟨.map [], World.ownsMap_made _ _ _ _, tidy_empty, by rw [unlike_zero]; rfl, fun e _ p _ => by rw [seen_zero]; rfl⟩
theorem WantIs.kept {w w' : World} {b : Nat} {E P : Nat → Nat} {s i : Nat} (h : WantIs w b E P s i) {row : Option Nat} (hg : w.grownBy w' row) (hne : some b ≠ row) : WantIs w' b E P s i := by
  obtain ⟨D, h1, h2⟩ := h
  exact ⟨D, h1.kept hg hne, h2⟩
theorem WantIs.more {w : World} {b : Nat} {E P : Nat → Nat} {s i : Nat} (h : WantIs w b E P s i) (hn : ¬ P i % 4 = s) : WantIs w b E P s (i + 1) := by
  obtain ⟨D, h1, h2, h3, h4⟩ := h
  exact ⟨D, h1.mono (by omega), h2, by rw [unlike_not E P s i hn]; exact h3, fun e he p hp => by rw [h4 e he p hp]; exact (seen_other E P s i _ fun hh => hn hh.1).symm⟩
set_option maxRecDepth 100000 in
theorem want_put {D : DataW Unit} {E P : Nat → Nat} {s i : Nat} (h2 : Tidy D) (h3 : size D = unlike E P s i) (h4 : ∀ e, e < 4 → ∀ p, p < 8 → has D (klit e p) = seen E P s i (e * 8 + p)) (hs : P i % 4 = s) (hE : E i < 4) (hP : P i < 8) (d : DataW Unit) (ht : Tidy (D.put (klit (E i) (P i)) d)) :
    Tidy (D.put (klit (E i) (P i)) d) ∧ size (D.put (klit (E i) (P i)) d) = unlike E P s (i + 1) ∧ ∀ e, e < 4 → ∀ p, p < 8 → has (D.put (klit (E i) (P i)) d) (klit e p) = seen E P s (i + 1) (e * 8 + p) := by
  refine ⟨ht, by rw [size_put h2, h4 _ hE _ hP, h3, unlike_put E P s i hs hE hP], fun e he p hp => ?_⟩
  by_cases hk : klit e p = klit (E i) (P i)
  · obtain ⟨rfl, rfl⟩ := klit_inj he hp hE hP hk
    rw [has_put_same h2.isMap (plaw.key (klit_some hE hP))]
    exact (seen_own E P s i hs).symm
  · rw [has_put_other hk, h4 e he p hp]
    exact (seen_other E P s i _ fun hh => hk (by rw [show e = E i by omega, show p = P i by omega])).symm
/-- How many of the first k lines are of each set, as a map. -/
def CntIs (w : World) (b : Nat) (g : Nat → Int) (k : Nat) : Prop :=
  ∃ D : DataW Unit, w.ownsMap Tryz.prog 3 (plainElem Tryz.prog 3) b k D ∧ IsMap D ∧ ∀ s : Nat, s < 4 → D.atKey (.int .i64 (s : Int)) (.lit (.int .i64 0)) = .lit (.int .i64 (nC g s k : Nat))
theorem CntIs.new (w : World) (g : Nat → Int) : CntIs (w.alloc (.map #[] 0)) w.heap.size g 0 :=
  ⟨.map [], World.ownsMap_made _ _ _ _, isMap_empty, fun s _ => by rw [atKey_of_not_has rfl]; rfl⟩
theorem CntIs.kept {w w' : World} {b : Nat} {g : Nat → Int} {k : Nat} (h : CntIs w b g k) {row : Option Nat} (hg : w.grownBy w' row) (hne : some b ≠ row) : CntIs w' b g k := by
  obtain ⟨D, h1, h2⟩ := h
  exact ⟨D, h1.kept hg hne, h2⟩
theorem CntIs.more {w : World} {b : Nat} {g : Nat → Int} {k : Nat} (h : CntIs w b g k) (hz : g (k * 5 + 4) = 0) : CntIs w b g (k + 1) := by
  obtain ⟨D, h1, h2, h3⟩ := h
  exact ⟨D, h1.mono (by omega), h2, fun s hs => by rw [nC_no (fun hh => hh.1 hz)]; exact h3 s hs⟩
theorem cnt_put {D : DataW Unit} {g : Nat → Int} {k s : Nat} (h2 : IsMap D) (h3 : ∀ s : Nat, s < 4 → D.atKey (.int .i64 (s : Int)) (.lit (.int .i64 0)) = .lit (.int .i64 (nC g s k : Nat))) (hf : ¬ g (k * 5 + 4) = 0) (hs : k / 2 = s) (hs4 : s < 4) :
    IsMap (D.put (.int .i64 (s : Int)) (.lit (.int .i64 ((nC g s k : Nat) + 1)))) ∧ ∀ r : Nat, r < 4 → (D.put (.int .i64 (s : Int)) (.lit (.int .i64 ((nC g s k : Nat) + 1)))).atKey (.int .i64 (r : Int)) (.lit (.int .i64 0)) = .lit (.int .i64 (nC g r (k + 1) : Nat)) := by
  refine ⟨h2.put _ _, fun r hr => ?_⟩
  by_cases hrs : r = s
  · subst hrs
    rw [atKey_put_same h2 (ilaw.key (ikey r (by omega))), nC_yes ⟨hf, hs⟩]
    simp
  · rw [atKey_put_other (fun e => hrs (by injection e with _ e; omega)), nC_no (fun hh => hrs (by omega))]
    exact h3 r hr
/-- A remainder that is made not to be below 0, as a number. -/
def modN (b : Int) (n : Nat) : Nat := ((wrap64 (b.tmod n + n)).tmod n).toNat
end Go.Proofs.YtfpnpgpelncgeabGreatDoor
