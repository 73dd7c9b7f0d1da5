/- What is proved here: the statements' own checks same and places: of a tree and the document's kernel that hold the same capabilities same answers true; places, of two slices of the same places. Conditions: package caps keeps its contracts; the tree and the kernel lie in their blocks. -/
import Derived.Test.YtmifcfkchnilmaaGreatDoorGTree
import Derived.RegionTactic
import Derived.WalkArith
import Derived.Deep.QuietTactic
import Derived.BigQuiet
namespace Go.Proofs.YtmifcfkchnilmaaGreatDoor
open Go.RowKit Go.Extern.Stop Go.Stop Go.Extern Go.WalkArith
theorem places_at : ∀ (l : List Nat) (j : Nat), j < l.length → (placesV l)[j * 2]? = some (.int .i64 ((l.getD j 0 / 8 : Nat) : Int)) ∧ (placesV l)[j * 2 + 1]? = some (.int .i64 ((l.getD j 0 % 8 : Nat) : Int))
  | [], _, h => absurd h (Nat.not_lt_zero _)
  | _ :: _, 0, _ => ⟨rfl, rfl⟩
  | x :: l, j + 1, h => by
    have h2 := places_at l j (by simpa using h)
    have e : placesV (x :: l) = [Value.int .i64 ((x / 8 : Nat) : Int), Value.int .i64 ((x % 8 : Nat) : Int)] ++ placesV l := rfl
    rw [e, show (j + 1) * 2 = j * 2 + 2 by omega, show j * 2 + 2 + 1 = (j * 2 + 1) + 2 by omega]
    exact h2
def TwinAt (At : World → (Nat → Prop) → Nat → KernS → Prop) (w : World) (S : Nat → Prop) (P K : Nat) (k : KernS) (W : World) : Prop := At W S P k ∧ KernIs W K k ∧ Below w.heap.size w W
section
variable {At : World → (Nat → Prop) → Nat → KernS → Prop} {w W W' : World} {S : Nat → Prop} {P K : Nat} {k : KernS}
theorem TwinAt.under (H : TreeC At) (h : TwinAt At w S P K k W) (hb : Below W.heap.size W W') : TwinAt At w S P K k W' :=
  ⟨H.foot _ _ _ _ _ h.1 hb.size fun i hi => hb.block i (H.low _ _ _ _ h.1 i hi), h.2.1.later hb, bl_trans h.2.2 hb⟩
theorem twin_cap (H : TreeC At) {e s : Nat} (h : TwinAt At w S P K k W) (he : (e : Int) < k.envs) (hs : s < 8) :
    Calls Tryz.prog 65 #[.pointer (some ⟨P, 0, none⟩), .int .i64 (e : Int), .int .i64 (s : Int)] W fun x W' => ∃ v, x = .returned v ∧ (((k.sl e s).is = true ∧ CapIs (k.sl e s) v) ∨ ((k.sl e s).is = false ∧ v = noCapV)) ∧ TwinAt At w S P K k W' := by
  refine (H.at_ P S k e s W h.1 he hs).mono ?_
  rintro x W' ⟨v, rfl, h4, hb⟩
  exact ⟨v, rfl, h4, h.under H hb⟩
theorem twin_of (H : TreeC At) {f : Nat} (h : TwinAt At w S P K k W) (hf : f < 16) :
    Calls Tryz.prog 64 #[.pointer (some ⟨P, 0, none⟩), .int .i64 (f : Int)] W fun x W' => (∃ ao cap, x = .returned (.slice ao (refsN k f 32) cap)) ∧ TwinAt At w S P K k W' := by
  refine (H.of_ P S k f W h.1 hf).mono ?_
  rintro x W' ⟨h4, hb⟩
  exact ⟨h4, h.under H hb⟩
set_option maxRecDepth 100000 in
set_option maxHeartbeats 8000000 in
theorem same_any (H : TreeC At) (E : Nat) (hE : k.envs = (E : Int)) (hE4 : E ≤ 4) (w : World) (h : TwinAt At w S P K k w) :
    Calls Tryz.prog 28 #[.pointer (some ⟨P, 0, none⟩), .pointer (some ⟨K, 0, none⟩), .int .i64 (E : Int)] w fun x w' => x = .returned (.bool true) ∧ Below w.heap.size w w' := by
  have HC := Lib.hid H
  have H0 := Lib.hid h
  have HE := Lib.hid hE
  clear h H hE
  go_enter Tryz.func28, Tryz.ntmps28
  go_wp2_with fail
  go_loopw [7] (fun ev W => ∃ e : Nat, ev = .int .i64 e ∧ e ≤ E ∧ TwinAt At w S P K k W) (fun ev _ => (E - intOf ev).toNat)
  case atStart => exact ⟨0, rfl, by omega, H0.out⟩
  case round =>
    obtain ⟨e, rfl, he, hp⟩ := hrel
    have HP := Lib.hid hp
    clear hp H0
    by_cases h1 : e < E
    · have e1 : (e : Int) < (E : Int) := by omega
      go_wp2_with fail
      go_loopw [8] (fun sv W => ∃ s : Nat, sv = .int .i64 s ∧ s ≤ 8 ∧ TwinAt At w S P K k W) (fun sv _ => (8 - intOf sv).toNat)
      case atStart => exact ⟨0, rfl, by omega, HP.out⟩
      case round =>
        obtain ⟨s, rfl, hs, hp⟩ := hrel
        have HP2 := Lib.hid hp
        clear hp HP
        by_cases h2 : s < 8
        · have s1 : (s : Int) < 8 := by omega
          go_wp2_with fail
          refine (twin_cap HC.out HP2.out (by rw [HE.out]; exact e1) h2).mono ?_
          rintro x W' ⟨v, rfl, hv, hp⟩
          have HP3 := Lib.hid hp
          clear hp
          obtain ⟨c0, c1, c2, c3, c4⟩ := HP3.out.2.1.slot (show e < 4 by omega) h2
          have lK := HP3.out.2.1.lt
          rcases hv with ⟨hi, hv⟩ | ⟨hi, rfl⟩
          · obtain ⟨a, b, rfl, hlo, hhi⟩ := hv
            rw [hi] at c0
            clear hi
            generalize k.sl e s = q at c1 c2 c3 c4 hlo hhi ⊢
            obtain ⟨i0, fr, ri, en, sl⟩ := q
            dsimp only at c1 c2 c3 c4 hlo hhi ⊢
            clear i0
            by_cases hq : en < 0
            · have hq2 := hlo hq
              have hq3 : ¬ 0 ≤ en := by omega
              clear hlo hhi
              go_wp2_with fail
              go_roundw
              case rel => exact ⟨s + 1, by go_num, by omega, HP3.out.under HC.out (((Below.refl _ _).alloc (Nat.le_refl _) _).alloc (by simp) _)⟩
              case measure => simp [intOf]; omega
            · obtain ⟨ha, hb⟩ := hhi (by omega)
              subst ha
              subst hb
              clear hlo hhi
              have hq3 : 0 ≤ a := by omega
              go_wp2_with fail
              go_roundw
              case rel => exact ⟨s + 1, by go_num, by omega, HP3.out.under HC.out (((Below.refl _ _).alloc (Nat.le_refl _) _).alloc (by simp) _)⟩
              case measure => simp [intOf]; omega
          · rw [hi] at c0
            clear hi
            generalize k.sl e s = q at c1 c2 c3 c4
            go_wp2_with fail
            go_roundw
            case rel => exact ⟨s + 1, by go_num, by omega, HP3.out.under HC.out (((Below.refl _ _).alloc (Nat.le_refl _) _).alloc (by simp) _)⟩
            case measure => simp [intOf]; omega
        · obtain rfl : s = 8 := by omega
          go_wp2_with fail
          go_roundw
          case rel => exact ⟨e + 1, by go_num, by omega, HP2.out⟩
          case measure => simp [intOf]; omega
    · have e1 : ¬ (e : Int) < (E : Int) := by omega
      go_wp2_with fail
      go_loopw [12] (fun fv W => ∃ f : Nat, fv = .int .i64 f ∧ f ≤ 4 ∧ TwinAt At w S P K k W) (fun fv _ => (4 - intOf fv).toNat)
      case atStart => exact ⟨0, rfl, by omega, HP.out⟩
      case round =>
        clear HP
        obtain ⟨f, rfl, hf, hp⟩ := hrel
        have HP2 := Lib.hid hp
        clear hp
        by_cases h2 : f < 4
        · have f1 : (f : Int) < 4 := by omega
          go_wp2_with fail
          refine (twin_of HC.out HP2.out (by omega)).mono ?_
          rintro x W' ⟨⟨ao, cap, rfl⟩, hp⟩
          have HP3 := Lib.hid hp
          clear hp HP2
          go_wp2_with fail
          refine (kref_refs K k f W' HP3.out.2.1).mono ?_
          rintro x W2 ⟨rfl, rfl⟩
          go_wp2_with fail
          go_roundw
          case rel => exact ⟨f + 1, by go_num, by omega, HP3.out⟩
          case measure => simp [intOf]; omega
        · have f1 : ¬ (f : Int) < 4 := by omega
          go_wp2_with fail
          go_ret
          exact ⟨rfl, HP2.out.2.2⟩
set_option maxRecDepth 100000 in
set_option maxHeartbeats 8000000 in
theorem places_any (l : List Nat) (hl : l.length ≤ 32) (a b : Value) (w : World) (ha : SliceIs w a l.length (placesV l)) (hb : SliceIs w b l.length (placesV l)) :
    Calls Tryz.prog 25 #[a, b] w fun x w' => x = .returned (.bool true) ∧ Below w.heap.size w w' := by
  have hX : ∀ j, j < l.length → (placesV l)[j * 2]? = some (.int .i64 ((l.getD j 0 / 8 : Nat) : Int)) ∧ (placesV l)[j * 2 + 1]? = some (.int .i64 ((l.getD j 0 % 8 : Nat) : Int)) := places_at l
  obtain ⟨n, hn⟩ : ∃ n, n = l.length := ⟨_, rfl⟩
  rw [← hn] at ha hb hX hl
  obtain ⟨a1, cap1, g1, rfl, hv1⟩ := ha
  obtain ⟨a2, cap2, g2, rfl, hv2⟩ := hb
  have V1 := Lib.hid hv1
  have V2 := Lib.hid hv2
  have HX := Lib.hid hX
  clear hv1 hv2 hX hn
  go_enter Tryz.func25, Tryz.ntmps25
  go_wp2_with fail
  go_loopw [13] (fun jv W => ∃ j : Nat, jv = .int .i64 j ∧ j ≤ n ∧ Below w.heap.size w W) (fun jv _ => (n - intOf jv).toNat)
  case atStart => exact ⟨0, rfl, by omega, Below.refl _ _⟩
  case round =>
    obtain ⟨j, rfl, hj, hb⟩ := hrel
    have HB := Lib.hid hb
    clear hb
    by_cases h1 : j < n
    · have j1 : (j : Int) < (n : Int) := by omega
      obtain ⟨rfl, l1, d1⟩ := V1.out (by omega)
      obtain ⟨rfl, l2, d2⟩ := V2.out (by omega)
      have c1 := (HB.out.cell (p := ⟨g1, j * 2, none⟩) l1).trans (d1 _ _ (HX.out j h1).1)
      have c2 := (HB.out.cell (p := ⟨g1, j * 2 + 1, none⟩) l1).trans (d1 _ _ (HX.out j h1).2)
      have c3 := (HB.out.cell (p := ⟨g2, j * 2, none⟩) l2).trans (d2 _ _ (HX.out j h1).1)
      have c4 := (HB.out.cell (p := ⟨g2, j * 2 + 1, none⟩) l2).trans (d2 _ _ (HX.out j h1).2)
      generalize ((l.getD j 0 / 8 : Nat) : Int) = y1 at c1 c3
      generalize ((l.getD j 0 % 8 : Nat) : Int) = y2 at c2 c4
      clear d1 d2
      go_wp2_with fail
      go_quiet (fail)
      go_wp2_with fail
      go_roundw
      case rel => exact ⟨j + 1, by go_num, by omega, dn HB.out _⟩
      case measure => simp [intOf]; omega
    · obtain rfl : j = n := by omega
      go_wp2_with fail
      go_ret
      exact ⟨rfl, HB.out⟩
end
end Go.Proofs.YtmifcfkchnilmaaGreatDoor

