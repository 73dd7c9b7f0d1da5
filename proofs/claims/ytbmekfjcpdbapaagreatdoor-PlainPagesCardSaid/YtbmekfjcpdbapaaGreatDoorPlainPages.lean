/- What is proved here: the statement PlainPages: whatever its pages, the statement returns true and leaves what was there. Conditions: package plain keeps its contracts; the pages are there; the statements' own beginning returns true. -/
import Derived.Test.YtbmekfjcpdbapaaGreatDoorPagesM
import Derived.Test.YtbmekfjcpdbapaaGreatDoorGTree
import Derived.Test.YtbmekfjcpdbapaaGreatDoorGPair
import Derived.Maps.OwnOps
import Derived.Maps.OwnSet
import Derived.Maps.Views
import Derived.RegionTactic
import Derived.WalkArith
import Derived.Deep.CutBlock
import Derived.Deep.DeepCutAuto
import Derived.Deep.RegionHeld3
namespace Go.Proofs.YtbmekfjcpdbapaaGreatDoor
open Go.RowKit Go.Extern.Stop Go.Stop Go.Extern Go.WalkArith Go.Maps
theorem pg_law : Keyed Tryz.prog 3 := int_keyed Tryz.underlying3
theorem pg_wf (n : Nat) (h : n < 1000) : (Lit.int .i64 (n : Int)).wf = true := by
  have h1 : IntKind.i64.min ≤ 0 := by decide
  have h2 : (1000 : Int) ≤ IntKind.i64.max := by decide
  simp only [Lit.wf, Bool.and_eq_true, decide_eq_true_eq]
  omega
theorem pg_key (n : Nat) (h : n < 1000) : keyOf Tryz.prog 3 (.int .i64 (n : Int)) = some (.int .i64 (n : Int)) := keyOf_int_mk Tryz.underlying3 (pg_wf n h)
theorem pg_zero (w : World) : (zeroValue 4).run Tryz.prog w = .ok (.bool false) w := by kernel_rfl
theorem bool_inv {P : Program} {e : TypeId} (he : P.underlying e = some .bool) {v : Value} {x : Bool} {ps : List MemPlace} (h : plainElem (H := Unit) P e v = some (.lit (.bool x), ps)) : v = .bool x := by
  unfold plainElem at h
  rw [he] at h
  cases v <;> simp at h
  rw [h.1]
theorem pg_inv {v : Value} {x : Bool} {ps : List MemPlace} (h : plainElem (H := Unit) Tryz.prog 4 v = some (.lit (.bool x), ps)) : v = .bool x := bool_inv Tryz.underlying4 h
def PgMap (w : World) (b : Nat) (s : Nat → Bool) (i : Nat) : Prop :=
  ∃ D : DataW Unit, w.ownsMap Tryz.prog 3 (plainElem Tryz.prog 4) b i D ∧ IsMap D ∧ ∀ p : Nat, p < 7 → D.atKey (.int .i64 (p : Int)) (.lit (.bool false)) = .lit (.bool (s p))
theorem PgMap.new (w : World) : PgMap (w.alloc (.map #[] 0)) w.heap.size (fun _ => false) 0 :=
  ⟨.map [], World.ownsMap_made _ _ _ _, isMap_empty, fun s _ => by rw [atKey_of_not_has rfl]⟩
theorem PgMap.like {w w' : World} {b i : Nat} {s : Nat → Bool} (h : PgMap w b s i) (hh : w'.heap[b]? = w.heap[b]?) : PgMap w' b s i := by
  obtain ⟨D, ⟨es, clock, h1, h2⟩, h3⟩ := h
  exact ⟨D, ⟨es, clock, hh.trans h1, h2⟩, h3⟩
theorem PgMap.lt {w : World} {b i : Nat} {s : Nat → Bool} (h : PgMap w b s i) : b < w.heap.size := by
  obtain ⟨D, h, _⟩ := h
  exact h.lt
theorem PgMap.get {w : World} {b i p : Nat} {s : Nat → Bool} (h : PgMap w b s i) (hp : p < 7) : (Instr.lookup 85 (.map (some b)) (.int .i64 (p : Int)) false).run Tryz.prog w = .ok (.bool (s p)) w := by
  obtain ⟨D, h1, h2, h3⟩ := h
  obtain ⟨v, ps, hrun, hv⟩ := h1.lookup pg_law Tryz.underlying85 (pg_zero w) (plainElem_bool Tryz.underlying4 false) (pg_key p (by omega))
  rw [h3 p hp] at hv
  rw [hrun, pg_inv hv]
theorem pg_put {D : DataW Unit} {s : Nat → Bool} {p : Nat} (h2 : IsMap D) (h3 : ∀ p : Nat, p < 7 → D.atKey (.int .i64 (p : Int)) (.lit (.bool false)) = .lit (.bool (s p))) (hp : p < 7) :
    IsMap (D.put (.int .i64 (p : Int)) (.lit (.bool true))) ∧ ∀ q : Nat, q < 7 → (D.put (.int .i64 (p : Int)) (.lit (.bool true))).atKey (.int .i64 (q : Int)) (.lit (.bool false)) = .lit (.bool (s q || decide (q = p))) := by
  refine ⟨h2.put _ _, fun q hq => ?_⟩
  by_cases hqp : q = p
  · subst hqp
    rw [atKey_put_same h2 (pg_law.key (pg_key q (by omega)))]
    simp
  · rw [atKey_put_other (fun e => hqp (by injection e with _ e; omega)), h3 q hq, decide_eq_false hqp, Bool.or_false]
def pgT (b : Nat) (s : Nat → Bool) (i : Nat) : Thing := ⟨fun j => j = b, fun W => PgMap W b s i, fun _ _ h _ hb => h.like (hb b rfl h.lt), fun _ h j hj => by subst hj; exact h.lt⟩
theorem pg_map2 {p : Nat} (hp : p < 7) (s : Nat → Bool) : kdo (pgK s) 0 6 (p : Int) 3 1 0 = (pgK fun q => s q || decide (q = p), if s p = true then 4 else 0, 0, true) := by
  rw [pg_map hp s]
  by_cases h : s p = true
  · rw [if_pos h, if_pos h]
    have hf : (fun q => s q || decide (q = p)) = s := by
      funext q
      by_cases hq : q = p
      · rw [hq, h]
        rfl
      · rw [decide_eq_false hq, Bool.or_false]
    rw [hf]
  · rw [if_neg h, if_neg h]
set_option maxRecDepth 100000 in
set_option maxHeartbeats 8000000 in
theorem ppages_any {At : World → (Nat → Prop) → Nat → KernS → Prop} (H : PlainC At) (ao : Option Addr) (a : Addr) (len cap : Nat) (dr : Bool) (hao : 0 < len → ao = some a) (E : Nat → Int) (w : World) (hz : ∀ i, i < len → w.cell? (a.add i) = some (.int .i64 (E i))) (hbeg : BegunAt11 w) :
    Calls Tryz.prog 16 #[.slice ao len cap, .bool dr] w fun e w' => e = .returned (.bool true) ∧ Below w.heap.size w w' := by
  have HB := Lib.hid hbeg
  have HH := Lib.hid H
  have HA := Lib.hid hao
  have HZ := Lib.hid hz
  clear hbeg H hao hz
  have hmk : ∀ W : World, (Instr.makeMap 85 none).run Tryz.prog W = .ok (.map (some W.heap.size)) (W.alloc (.map #[] 0)) := fun W => by kernel_rfl
  go_enter Tryz.func16, Tryz.ntmps16
  go_wp2_with fail
  refine HB.out.mono ?_
  rintro e w1 ⟨rfl, hb1⟩
  have B1 := Lib.hid hb1
  clear hb1 HB
  go_wp2_with fail
  refine (small_any HH.out 1 B1.out (by omega)).mono ?_
  rintro e w2 ⟨P, rfl, hr⟩
  have R2 := Lib.hid hr
  clear hr B1
  go_wp2_with fail
  refine (ok_yes R2.out (by unfold wordsIn; omega) pg_start.1).mono ?_
  rintro e w3 ⟨rfl, hr⟩
  have R3 := Lib.hid hr
  clear hr R2
  go_wp2_with fail
  refine (ok_yes R3.out (by unfold wordsIn; omega) pg_start.2.1).mono ?_
  rintro e w4 ⟨rfl, hr⟩
  have R4 := Lib.hid hr
  clear hr R3
  go_wp2_with fail
  refine (ok_yes R4.out (by unfold wordsIn; omega) pg_start.2.2).mono ?_
  rintro e w5 ⟨rfl, hr⟩
  have R5 : Hid (KRun HH.out w P (pgK fun _ => false) [] w5) := pg_none ▸ hr
  clear hr R4
  go_upto_block 0 with (fail)
  obtain ⟨Q, hQ⟩ : ∃ Q, Q = w5.heap.size := ⟨_, rfl⟩
  have R6 : Hid (KRun HH.out w P (pgK fun _ => false) [pgT Q (fun _ => false) 0] (w5.alloc (.map #[] 0))) := by
    obtain ⟨S, h⟩ := R5.out
    exact ⟨S, h.make ((Below.refl _ _).alloc (Nat.le_refl _) _) (pgT Q (fun _ => false) 0) (hQ ▸ PgMap.new w5) (fun i hi => by have hi : i = Q := hi; omega)⟩
  rw [← hQ]
  clear hQ R5 hmk
  go_cut [8] (fun _ W => ∃ (s : Nat → Bool) (n : Nat), KRun HH.out w P (pgK s) [pgT Q s n] W)
  case first =>
    go_wp2_with fail
    go_loopw [8] (fun iv W => ∃ (i : Nat) (s : Nat → Bool), iv = .int .i64 i ∧ i ≤ len ∧ i ≤ 12 ∧ KRun HH.out w P (pgK s) [pgT Q s i] W) (fun iv _ => (12 - intOf iv).toNat)
    case atStart => exact ⟨0, _, rfl, by omega, by omega, R6.out⟩
    case round =>
      clear R6
      obtain ⟨i, s, rfl, hil, hi12, hr⟩ := hrel
      have HR := Lib.hid hr
      clear hr
      have i0 : (0 : Int) ≤ (i : Int) := by omega
      rcases (show (i < len ∧ i < 12) ∨ ¬ i < len ∨ (i < len ∧ ¬ i < 12) by omega) with ⟨h1, h2⟩ | h1 | ⟨h1, h2⟩
      · obtain rfl : ao = some a := HA.out (by omega)
        have i1 : (i : Int) < (len : Int) := by omega
        have i2 : (i : Int) < 12 := by omega
        have z := HZ.out i h1
        have z1 := (HR.out.below.cell (p := a.add i) (World.block_lt_of_cell? _ _ z)).trans z
        clear z
        generalize E i = q at z1
        have m1 := Int.lt_tmod_of_pos q (show (0 : Int) < 7 by omega)
        have m2 := Int.tmod_lt_of_pos q (show (0 : Int) < 7 by omega)
        obtain ⟨p, hp⟩ : ∃ p : Nat, (q.tmod 7 + 7) % 7 = (p : Int) := ⟨((q.tmod 7 + 7) % 7).toNat, by omega⟩
        have hp7 : p < 7 := by omega
        go_upto_region 12 with (fail)
        simp only [hp]
        generalize q.tmod 7 + 7 = y1
        generalize q.tmod 7 = y2
        clear m1 m2 hp z1
        have HR1 := Lib.hid (HR.out.under (dn (Below.refl _ _) 1))
        clear HR
        have hw1 : IntKind.u64.wrap (p : Int) = (p : Int) := u64_small p (by omega)
        cases hs : s p
        · have HK : Hid (kdo (pgK s) 0 6 (p : Int) 3 1 0 = (pgK fun q => s q || decide (q = p), 0, 0, true)) := (pg_map2 hp7 s).trans (by rw [hs]; rfl)
          have hL : (Instr.lookup 85 (.map (some Q)) (.int .i64 (p : Int)) false).run Tryz.prog wr.drew = .ok (.bool false) wr.drew := (PgMap.get (HR1.out.mem (pgT Q s i) (List.mem_singleton.2 rfl)) hp7).trans (by rw [hs]; rfl)
          go_region_with ((go_at_call 36; refine (ok_yes HR1.out (by unfold wordsIn; omega) HK.out).mono ?_; rintro e1 wn ⟨rfl, hr⟩; have HR2 := Lib.hid hr; clear hr; have hL2 : (Instr.lookup 85 (.map (some Q)) (.int .i64 (p : Int)) false).run Tryz.prog wn = .ok (.bool false) wn := (PgMap.get (HR2.out.mem (pgT Q s i) (List.mem_singleton.2 rfl)) hp7).trans (by rw [hs])))
          all_goals
            obtain ⟨D, hown, hD, hat⟩ := HR2.out.mem (pgT Q s i) (List.mem_singleton.2 rfl)
            have HO := Lib.hid hown
            have HP := Lib.hid (pg_put hD hat hp7)
            clear hown hD hat
            go_wp2_with (at_mapUpdate; refine wpList_mapUpdate_own _ rfl _ _ _ 85 rfl 3 4 pg_law Tryz.underlying85 (plainElem Tryz.prog 4) Q i D rfl HO.out (by unfold maxLen; omega) _ _ (.int .i64 (p : Int)) rfl rfl (pg_key p (by omega)) _ [] (plainElem_bool Tryz.underlying4 true) ?_; intro w6 hown6 hgrow6)
            have HR3 : Hid (KRun HH.out w P (pgK fun q => s q || decide (q = p)) [pgT Q (fun q => s q || decide (q = p)) (i + 1)] w6) := HR2.out.elim fun S h => ⟨S, Side.step (o := pgT Q s i) (pgT Q (fun q => s q || decide (q = p)) (i + 1)) ⟨_, hown6, HP.out⟩ (fun _ h => Or.inl h) (only_T hgrow6) [] h⟩
            clear hown6 hgrow6
            go_roundw
            case rel => exact ⟨i + 1, _, by go_num, by omega, by omega, HR3.out⟩
            case measure => simp [intOf]; omega
        · have HK : Hid (kdo (pgK s) 0 6 (p : Int) 3 1 0 = (pgK fun q => s q || decide (q = p), 4, 0, true)) := (pg_map2 hp7 s).trans (by rw [hs]; rfl)
          have hL : (Instr.lookup 85 (.map (some Q)) (.int .i64 (p : Int)) false).run Tryz.prog wr.drew = .ok (.bool true) wr.drew := (PgMap.get (HR1.out.mem (pgT Q s i) (List.mem_singleton.2 rfl)) hp7).trans (by rw [hs]; rfl)
          go_region_with ((go_at_call 36; refine (ok_no HR1.out (by unfold wordsIn; omega) HK.out (by decide)).mono ?_; rintro e1 wn ⟨rfl, hr⟩; have HR2 := Lib.hid hr; clear hr; have hL2 : (Instr.lookup 85 (.map (some Q)) (.int .i64 (p : Int)) false).run Tryz.prog wn = .ok (.bool true) wn := (PgMap.get (HR2.out.mem (pgT Q s i) (List.mem_singleton.2 rfl)) hp7).trans (by rw [hs])))
          all_goals
            obtain ⟨D, hown, hD, hat⟩ := HR2.out.mem (pgT Q s i) (List.mem_singleton.2 rfl)
            have HO := Lib.hid hown
            have HP := Lib.hid (pg_put hD hat hp7)
            clear hown hD hat
            go_wp2_with (at_mapUpdate; refine wpList_mapUpdate_own _ rfl _ _ _ 85 rfl 3 4 pg_law Tryz.underlying85 (plainElem Tryz.prog 4) Q i D rfl HO.out (by unfold maxLen; omega) _ _ (.int .i64 (p : Int)) rfl rfl (pg_key p (by omega)) _ [] (plainElem_bool Tryz.underlying4 true) ?_; intro w6 hown6 hgrow6)
            have HR3 : Hid (KRun HH.out w P (pgK fun q => s q || decide (q = p)) [pgT Q (fun q => s q || decide (q = p)) (i + 1)] w6) := HR2.out.elim fun S h => ⟨S, Side.step (o := pgT Q s i) (pgT Q (fun q => s q || decide (q = p)) (i + 1)) ⟨_, hown6, HP.out⟩ (fun _ h => Or.inl h) (only_T hgrow6) [] h⟩
            clear hown6 hgrow6
            go_roundw
            case rel => exact ⟨i + 1, _, by go_num, by omega, by omega, HR3.out⟩
            case measure => simp [intOf]; omega
      · have i1 : ¬ (i : Int) < (len : Int) := by omega
        go_wp2_with fail
        go_meet
        case rel => exact ⟨s, i, HR.out⟩
      · have i1 : (i : Int) < (len : Int) := by omega
        have i2 : ¬ (i : Int) < 12 := by omega
        go_wp2_with fail
        go_meet
        case rel => exact ⟨s, i, HR.out⟩
  case rest =>
    obtain ⟨s, n, hr⟩ := hcut
    have R7 := Lib.hid hr
    clear hr R6
    cases dr
    · go_wp2_with fail
      refine (run_do (R7.out.alloc (.cells #[.int .u64 4, .int .u64 0, .int .u64 0, .int .u64 0, .int .u64 0] 36)) (by unfold wordsIn; omega) (pg_revoke s)).mono ?_
      rintro e1 w8 ⟨rfl, hr⟩
      have R8 := Lib.hid (hr.box (.cells #[.int .i64 0, .int .u64 1] 41))
      clear hr R7
      go_wp2_with fail
      generalize hwA : w8.heap.size = A at R8 ⊢
      generalize w8.alloc (.cells #[.int .i64 0, .int .u64 1] 41) = w9 at R8 ⊢
      clear hwA
      go_loopw [13] (fun iv W => ∃ p : Nat, iv = .int .i64 p ∧ p ≤ 7 ∧ KRun HH.out w P (pgG s) [fixT A (.cells #[.int .i64 0, .int .u64 1] 41 (0, 0)), pgT Q s n] W) (fun iv _ => (7 - intOf iv).toNat)
      case atStart => exact ⟨0, rfl, by omega, R8.out⟩
      case round =>
        clear R8
        obtain ⟨p, rfl, hp7, hr⟩ := hrel
        have R9 := Lib.hid hr
        clear hr
        by_cases hp : p < 7
        · have p1 : (p : Int) < 7 := by omega
          have HN := Lib.hid (run_nopte R9.out (e := 0) (by rw [(pg_envs s).1]; decide) (show p < 8 by omega) (pg_gone hp s))
          go_wp2_with fail
          refine HN.out.mono ?_
          rintro e1 wm ⟨rfl, hr⟩
          have R10 := Lib.hid (hr.alloc (.cells #[.int .i64 0, .int .i64 0, .int .i64 0] 70))
          clear hr
          go_wp2_with fail
          go_roundw
          case rel => exact ⟨p + 1, by go_num, by omega, R10.out⟩
          case measure => simp [intOf]; omega
        · have p1 : ¬ (p : Int) < 7 := by omega
          have HN := Lib.hid (run_pte R9.out (e := 0) (p := 7) (by rw [(pg_envs s).1]; decide) (by omega) (pg_seven s))
          unfold pteT at HN
          generalize (pgG s).pt 0 7 = e7 at HN
          go_wp2_with fail
          refine HN.out.mono ?_
          rintro e1 wm ⟨rfl, hr⟩
          have R10 := Lib.hid (hr.alloc (.cells #[.int .i64 e7.frame, .int .i64 e7.slot, .int .i64 e7.rights] 70))
          have kA := hr.read (List.mem_cons_self ..)
          have a0 := bk_cell kA 0
          have a1 := bk_cell kA 1
          have la := bk_lt kA
          clear hr kA
          go_wp2_with fail
          go_ret
          exact ⟨rfl, R10.out.below⟩
    · go_wp2_with fail
      refine (run_do (R7.out.alloc (.cells #[.int .u64 5, .int .u64 3, .int .u64 0, .int .u64 0, .int .u64 0] 36)) (by unfold wordsIn; omega) (pg_drop s)).mono ?_
      rintro e1 w8 ⟨rfl, hr⟩
      have R8 := Lib.hid (hr.box (.cells #[.int .i64 0, .int .u64 1] 41))
      clear hr R7
      go_wp2_with fail
      generalize hwA : w8.heap.size = A at R8 ⊢
      generalize w8.alloc (.cells #[.int .i64 0, .int .u64 1] 41) = w9 at R8 ⊢
      clear hwA
      go_loopw [13] (fun iv W => ∃ p : Nat, iv = .int .i64 p ∧ p ≤ 7 ∧ KRun HH.out w P (pgG s) [fixT A (.cells #[.int .i64 0, .int .u64 1] 41 (0, 0)), pgT Q s n] W) (fun iv _ => (7 - intOf iv).toNat)
      case atStart => exact ⟨0, rfl, by omega, R8.out⟩
      case round =>
        clear R8
        obtain ⟨p, rfl, hp7, hr⟩ := hrel
        have R9 := Lib.hid hr
        clear hr
        by_cases hp : p < 7
        · have p1 : (p : Int) < 7 := by omega
          have HN := Lib.hid (run_nopte R9.out (e := 0) (by rw [(pg_envs s).1]; decide) (show p < 8 by omega) (pg_gone hp s))
          go_wp2_with fail
          refine HN.out.mono ?_
          rintro e1 wm ⟨rfl, hr⟩
          have R10 := Lib.hid (hr.alloc (.cells #[.int .i64 0, .int .i64 0, .int .i64 0] 70))
          clear hr
          go_wp2_with fail
          go_roundw
          case rel => exact ⟨p + 1, by go_num, by omega, R10.out⟩
          case measure => simp [intOf]; omega
        · have p1 : ¬ (p : Int) < 7 := by omega
          have HN := Lib.hid (run_pte R9.out (e := 0) (p := 7) (by rw [(pg_envs s).1]; decide) (by omega) (pg_seven s))
          unfold pteT at HN
          generalize (pgG s).pt 0 7 = e7 at HN
          go_wp2_with fail
          refine HN.out.mono ?_
          rintro e1 wm ⟨rfl, hr⟩
          have R10 := Lib.hid (hr.alloc (.cells #[.int .i64 e7.frame, .int .i64 e7.slot, .int .i64 e7.rights] 70))
          have kA := hr.read (List.mem_cons_self ..)
          have a0 := bk_cell kA 0
          have a1 := bk_cell kA 1
          have la := bk_lt kA
          clear hr kA
          go_wp2_with fail
          go_ret
          exact ⟨rfl, R10.out.below⟩
end Go.Proofs.YtbmekfjcpdbapaaGreatDoor

