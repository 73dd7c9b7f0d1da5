/- What is proved here: (*trap.Trap).Error of a chain of n + 1 traps of one code below 100 tells that code n + 1 times, each behind the text trap, with a colon between, and behind the last one the text of an error of errors.New where one stands there. Conditions: the chain lies in memory; n is at most 1000; the text behind is at most 1000 bytes long. -/
import Derived.Test.YtnmlmhhohemffaaDoorText
namespace Go.Proofs.YtnmlmhhohemffaaDoor
open Go.RowKit Go.Extern.Stop Go.Stop Go.Extern

/-- What a trap of code c tells. -/
def trapText (c : Nat) : List UInt8 := [116, 114, 97, 112, 32] ++ Lib.decDigits c
/-- .. k times, a colon and a blank behind each. -/
def repText (c : Nat) : Nat → List UInt8
  | 0 => []
  | k + 1 => repText c k ++ (trapText c ++ [58, 32])

theorem decDigits_length (c : Nat) (hc : c < 100) : (Lib.decDigits c).length ≤ 2 := by
  rw [Lib.decDigits]
  split
  · simp
  · rw [Lib.decDigits, dif_pos (by omega)]
    simp
theorem repText_length (c : Nat) (hc : c < 100) : ∀ k, (repText c k).length ≤ 9 * k
  | 0 => by simp [repText]
  | k + 1 => by
    have h1 := repText_length c hc k
    have h2 := decDigits_length c hc
    simp [repText, trapText]
    omega

theorem trapText_length (c : Nat) : (trapText c).length = 5 + (Lib.decDigits c).length := by simp [trapText]; omega

theorem isB_cells {B b : Nat} {bs : List Value} {w w' : World} (h : IsB B b bs w) (hs : ∀ (i : Nat) (c : Array Value) (t : TypeId) (f : Nat × Nat), w.heap[i]? = some (.cells c t f) → w'.heap[i]? = some (.cells c t f)) : IsB B b bs w' := by
  have key : ∀ p, Lib.BuilderAtF 84 5 B b p bs w → Lib.BuilderAtF 84 5 B b p bs w' := by
    rintro p ⟨hB, v, hb, ⟨hl, hr⟩, hne⟩
    refine ⟨hB, v, hs _ _ _ _ hb, ⟨hl, ?_⟩, hne⟩
    rcases hr with hr | ⟨g, cap, cur, fz, h1, h2, h3, h4⟩
    · exact Or.inl hr
    · exact Or.inr ⟨g, cap, cur, fz, h1, h2, hs _ _ _ _ h3, h4⟩
  exact h.elim (fun x => .inl (key _ x)) (fun x => .inr (key _ x))
theorem isB_below {B b : Nat} {bs : List Value} {w w' : World} (h : IsB B b bs w) (hb : Below w.heap.size w w') : IsB B b bs w' :=
  isB_cells h fun i c t f hi => by rw [hb.block i (lt_of_block hi)]; exact hi
theorem isB_beside {B b M : Nat} {bs : List Value} {ps : List Nat} {w w' : World} (h : IsB B b bs w) (hM : PMap w M ps) (hs : ∀ i, i ≠ M → w'.heap[i]? = w.heap[i]?) : IsB B b bs w' :=
  isB_cells h fun i c t f hi => by
    obtain ⟨es, clock, h1, _⟩ := hM
    by_cases he : i = M
    · subst he; rw [h1] at hi; cases hi
    · rw [hs i he]; exact hi
theorem PMap.kept {w w' : World} {M b : Nat} {ps : List Nat} (h : PMap w M ps) (hk : Keeps b w w') (hM : M ≠ b) : PMap w' M ps := by
  obtain ⟨es, clock, h1, h2⟩ := h
  exact ⟨es, clock, hk M _ h1 (fun e => hM (Option.some.inj e)) (fun _ _ e => by cases e), h2⟩

/-- Behind a write the builder at B holds l; what was below B stands, and so do the maps. -/
def Wrote (B : Nat) (l : List UInt8) (w w' : World) : Prop := IsB B B (Lib.byteCells l) w' ∧ Below B w w' ∧ Keeps B w w'

theorem write_k (B : Nat) (l : List UInt8) (s : ByteArray) (w : World) (h : IsB B B (Lib.byteCells l) w) (hl : l.length + s.size ≤ 100000) (hBw : B ≤ w.heap.size) :
    Calls Tryd.prog 34 #[.pointer (some ⟨B, 0, none⟩), .string s] w fun e w' => e = .returned (.tuple #[.int .i64 s.size, .nilIface]) ∧ Wrote B (l ++ s.data.toList) w w' := by
  refine (writeString_k B B _ s w h (by rw [Lib.byteCells_length]; omega) hBw).mono ?_
  rintro e w' ⟨rfl, h1, h2, h3⟩
  refine ⟨rfl, ?_, h2, h3⟩
  rw [Lib.byteCells_append]
  exact h1
theorem string_k (B : Nat) (l : List UInt8) (w : World) (h : IsB B B (Lib.byteCells l) w) (hBw : B ≤ w.heap.size) :
    Calls Tryd.prog 36 #[.pointer (some ⟨B, 0, none⟩)] w fun e w' => e = .returned (.string ⟨l.toArray⟩) ∧ Below B w w' := by
  refine (Tryd.Builder_String_any_k B B l w h hBw).mono ?_
  rintro e w' ⟨rfl, _, h2, _⟩
  exact ⟨rfl, h2⟩

theorem upd_pack {w w4 w5 : World} {b : Nat} {c env : Int} {k0 k1 k2 k3 k4 v1 : Value} {bs : List Value} {ps ps' : List Nat} (hbw : b < w.heap.size) (HT : TrapAt w b c env k0 k1 k2 k3 k4 v1)
    (Hb4 : Below w.heap.size w w4) (HI4 : IsB w.heap.size w.heap.size bs w4) (HP4 : PMap w4 (w.heap.size + 1) ps)
    (hP5 : PMap w5 (w.heap.size + 1) ps') (hb5 : Below (w.heap.size + 1) w4 w5) (hsz5 : w5.heap.size = w4.heap.size) (hot5 : ∀ i, i ≠ w.heap.size + 1 → w5.heap[i]? = w4.heap[i]?) :
    Hid (Below w.heap.size w w5) ∧ Hid (IsB w.heap.size w.heap.size bs w5) ∧ Hid (PMap w5 (w.heap.size + 1) ps') ∧ w4.heap.size ≤ w5.heap.size ∧ w5.cell? ⟨b, 7, none⟩ = some v1 := by
  have Hb5 : Below w.heap.size w w5 := Hb4.trans (hb5.mono (by omega))
  exact ⟨Hb5, isB_beside HI4 HP4 hot5, hP5, by omega, cell_of_block (HT.later Hb5 hbw) 7⟩

/-- What stands at the head of Error's loop: k traps are told, m + 1 are to come. -/
def ErrorRel (w : World) (n : Nat) (c : Nat) (z t : Value) (wr : World) : Prop :=
  ∃ k m C ps b env k0 k1 k2 k3 k4 v1, k + m = n ∧ IsB w.heap.size w.heap.size (Lib.byteCells (repText c k)) wr ∧ PMap wr (w.heap.size + 1) ps ∧ (∀ p ∈ ps, C ≤ p ∧ p < w.heap.size ∧ IsRow w p) ∧
    Below w.heap.size w wr ∧ w.heap.size + 1 < wr.heap.size ∧ t = .pointer (some ⟨b, 0, none⟩) ∧ b < C ∧ b < w.heap.size ∧ TrapAt w b c env k0 k1 k2 k3 k4 v1 ∧ Chain w c z m b v1

set_option maxHeartbeats 4000000 in
theorem error_any (c n B b0 : Nat) (hc : c < 100) (hn : n ≤ 1000) (w : World) (hg : Held w) (hB : B ≤ w.heap.size) (z : Value) (T : List UInt8)
    (hz : (z = .nilIface ∧ T = repText c n ++ trapText c) ∨
      ∃ a s, z = .iface 63 (.pointer (some ⟨a, 0, none⟩)) ∧ w.cell? ⟨a, 0, none⟩ = some (.string s) ∧ s.size ≤ 1000 ∧ T = repText c (n + 1) ++ s.data.toList)
    (hch : Chain w c z (n + 1) B (.iface 34 (.pointer (some ⟨b0, 0, none⟩)))) :
    Calls Tryd.prog 24 #[.pointer (some ⟨b0, 0, none⟩)] w fun e w' => e = .returned (.string ⟨T.toArray⟩) ∧ Below w.heap.size w w' := by
  have hmm := @run_makeMap Tryd.prog
  have hI0 := Lib.hid ((Lib.IsBuilderF.of (Lib.fresh_isBuilder 84 5 w)).alloc (.map #[] 0))
  have hb0 := Lib.hid (((Below.refl w.heap.size w).alloc (Nat.le_refl _) (.cells #[.pointer none, .slice none 0 0] 84)).alloc (by simp) (.map #[] 0))
  have hM0 : Hid (PMap ((w.alloc (.cells #[.pointer none, .slice none 0 0] 84)).alloc (.map #[] 0)) (w.heap.size + 1) []) := by
    have h := PMap.new (w.alloc (.cells #[.pointer none, .slice none 0 0] 84))
    rw [World.size_alloc] at h
    exact h
  have Hz := Lib.hid hz
  clear hz
  go_enter Tryd.func24, Tryd.ntmps24
  go_wp2_with fail
  go_loopw [0] (fun t wr => ErrorRel w n c z t wr) (fun t _ => ptrBlock t)
  case atStart =>
    obtain ⟨b, env, k0, k1, k2, k3, k4, v1, e, hlt, ht, hr⟩ := hch
    obtain rfl : b0 = b := by injection e with _ e; injection e with e; injection e with e; injection e with e
    exact ⟨0, n, w.heap.size, [], b0, env, k0, k1, k2, k3, k4, v1, by omega, hI0.out, hM0.out, by simp, hb0.out, by simp, rfl, by omega, by omega, ht, hr⟩
  case round =>
    obtain ⟨k, m, C, ps, b, env, k0, k1, k2, k3, k4, v1, hkm, hI, hP, hps, hbl, hML, rfl, hbC, hbw, htr, hr⟩ := hrel
    have HI := Lib.hid hI
    have HP := Lib.hid hP
    have Hps := Lib.hid hps
    have Hbl := Lib.hid hbl
    have HT := Lib.hid htr
    have Hr := Lib.hid hr
    have HG := Lib.hid hg
    have hk := repText_length c hc k
    have hd := decDigits_length c hc
    have ht5 := trapText_length c
    have Hkm := Lib.hid hkm
    have hkn : k ≤ 1000 := by omega
    have hmn : m + 1 ≤ 1001 := by omega
    clear hI hP hps hbl htr hr hg hch hkm hI0 hb0 hM0
    rcases m with _ | m
    · obtain rfl : v1 = z := Hr.out
      obtain rfl : k = n := Hkm.out
      rcases Hz.out with ⟨rfl, rfl⟩ | ⟨a, s, rfl, hca, hsz, rfl⟩
      · clear Hr
        go_wp2_with fail
        refine (write_k _ _ _ _ HI.out (by simp [ByteArray.size]; omega) Hbl.out.size).mono ?_
        rintro e w1 ⟨rfl, hW1⟩
        have HI1 : Hid (IsB w.heap.size w.heap.size (Lib.byteCells (repText c k ++ [116, 114, 97, 112, 32])) w1) := hW1.1
        have Hb1 : Hid (Below w.heap.size w w1) := Hbl.out.trans hW1.2.1
        have HP1 : Hid (PMap w1 (w.heap.size + 1) ps) := HP.out.kept hW1.2.2 (by omega)
        have hs1 : wr.heap.size ≤ w1.heap.size := hW1.2.1.size
        have hc1 : w1.cell? ⟨b, 0, none⟩ = some (.int .i64 c) := cell_of_block (HT.out.later Hb1.out hbw) 0
        clear hW1
        go_wp2_with fail
        refine (Tryd.strconv_Itoa_small c hc _).mono ?_
        rintro e w2 ⟨rfl, rfl⟩
        go_wp2_with fail
        refine (write_k _ _ _ _ HI1.out (by simp [ByteArray.size]; omega) Hb1.out.size).mono ?_
        rintro e w3 ⟨rfl, hW3⟩
        have HI3 : Hid (IsB w.heap.size w.heap.size (Lib.byteCells (repText c k ++ trapText c)) w3) := by have h := hW3.1; rw [List.append_assoc] at h; exact h
        have Hb3 : Hid (Below w.heap.size w w3) := Hb1.out.trans hW3.2.1
        have HP3 : Hid (PMap w3 (w.heap.size + 1) ps) := HP1.out.kept hW3.2.2 (by omega)
        have hs3 : w2.heap.size ≤ w3.heap.size := hW3.2.1.size
        have hc3 : w3.cell? ⟨b, 7, none⟩ = some .nilIface := cell_of_block (HT.out.later Hb3.out hbw) 7
        clear hW3 hc1
        go_wp2_with fail
        refine (string_k _ _ _ HI3.out Hb3.out.size).mono ?_
        rintro e w4 ⟨rfl, hb4⟩
        have Hb4 := Lib.hid hb4
        clear hb4
        go_wp2_with fail
        go_ret
        exact ⟨rfl, Hb3.out.trans Hb4.out⟩
      · have HA := Lib.hid hca
        have hal := lt_of_cell hca
        have hne := fun W => run_eql_held_nil (P := Tryd.prog) W 30 63 (.pointer (some ⟨a, 0, none⟩)) (by kernel_rfl)
        clear hca Hr
        go_wp2_with fail
        refine (write_k _ _ _ _ HI.out (by simp [ByteArray.size]; omega) Hbl.out.size).mono ?_
        rintro e w1 ⟨rfl, hW1⟩
        have HI1 : Hid (IsB w.heap.size w.heap.size (Lib.byteCells (repText c k ++ [116, 114, 97, 112, 32])) w1) := hW1.1
        have Hb1 : Hid (Below w.heap.size w w1) := Hbl.out.trans hW1.2.1
        have HP1 : Hid (PMap w1 (w.heap.size + 1) ps) := HP.out.kept hW1.2.2 (by omega)
        have hs1 : wr.heap.size ≤ w1.heap.size := hW1.2.1.size
        have hc1 : w1.cell? ⟨b, 0, none⟩ = some (.int .i64 c) := cell_of_block (HT.out.later Hb1.out hbw) 0
        clear hW1
        go_wp2_with fail
        refine (Tryd.strconv_Itoa_small c hc _).mono ?_
        rintro e w2 ⟨rfl, rfl⟩
        go_wp2_with fail
        refine (write_k _ _ _ _ HI1.out (by simp [ByteArray.size]; omega) Hb1.out.size).mono ?_
        rintro e w3 ⟨rfl, hW3⟩
        have HI3 : Hid (IsB w.heap.size w.heap.size (Lib.byteCells (repText c k ++ trapText c)) w3) := by have h := hW3.1; rw [List.append_assoc] at h; exact h
        have Hb3 : Hid (Below w.heap.size w w3) := Hb1.out.trans hW3.2.1
        have HP3 : Hid (PMap w3 (w.heap.size + 1) ps) := HP1.out.kept hW3.2.2 (by omega)
        have hs3 : w2.heap.size ≤ w3.heap.size := hW3.2.1.size
        have hc3 : w3.cell? ⟨b, 7, none⟩ = some (.iface 63 (.pointer (some ⟨a, 0, none⟩))) := cell_of_block (HT.out.later Hb3.out hbw) 7
        clear hW3 hc1
        go_wp2_with fail
        refine (write_k _ _ _ _ HI3.out (by rw [List.length_append]; show _ + 2 ≤ 100000; omega) Hb3.out.size).mono ?_
        rintro e w4 ⟨rfl, hW4⟩
        have HI4 : Hid (IsB w.heap.size w.heap.size (Lib.byteCells (repText c (k + 1))) w4) := by have h := hW4.1; rw [List.append_assoc] at h; exact h
        have Hb4 : Hid (Below w.heap.size w w4) := Hb3.out.trans hW4.2.1
        have HP4 : Hid (PMap w4 (w.heap.size + 1) ps) := HP3.out.kept hW4.2.2 (by omega)
        have hs4 : w3.heap.size ≤ w4.heap.size := hW4.2.1.size
        have HR4 : Hid (IsRow w4 b) := HT.out.row.later Hb4.out hbw
        have HPS4 : Hid (∀ p ∈ ps, p ≠ b ∧ IsRow w4 p) := fun p hp => ⟨by have := (Hps.out p hp).1; omega, (Hps.out p hp).2.2.later Hb4.out (Hps.out p hp).2.1⟩
        clear hW4 hc3
        go_wp2_with (at_mapUpdate; refine wpList_mapUpdate_ptr _ rfl _ _ _ rfl _ b ps rfl HP4.out rfl rfl HR4.out HPS4.out ?_; intro w5 hP5 hb5 hsz5 hot5; obtain ⟨Hb5, HI5, HP5, hs5, hc5⟩ := upd_pack hbw HT.out Hb4.out HI4.out HP4.out hP5 hb5 hsz5 hot5; clear hP5 hb5 hsz5 hot5)
        refine (itself_miss _ _ (asMiss_other _ (HG.out.below Hb5.out HG.out.pos) _)).mono ?_
        rintro e w6 ⟨rfl, hb6⟩
        have Hb6 : Hid (Below w.heap.size w w6) := Hb5.out.trans (hb6.mono (by omega))
        have HI6 : Hid (IsB w.heap.size w.heap.size (Lib.byteCells (repText c (k + 1))) w6) := isB_below HI5.out hb6
        have hs6 : w5.heap.size ≤ w6.heap.size := hb6.size
        have hc6 : w6.cell? ⟨b, 7, none⟩ = some (.iface 63 (.pointer (some ⟨a, 0, none⟩))) := cell_of_block (HT.out.later Hb6.out hbw) 7
        have hca6 : w6.cell? ⟨a, 0, none⟩ = some (.string s) := (Hb6.out.cell (p := ⟨a, 0, none⟩) hal).trans HA.out
        clear hb6 hc5
        go_wp2_with fail
        refine (text_str a s _ hca6).mono ?_
        rintro e w7 ⟨rfl, rfl⟩
        have HI7 := Lib.hid (HI6.out.alloc (.cells #[.string s] 9))
        have Hb7 := Lib.hid (Hb6.out.alloc Hb6.out.size (.cells #[.string s] 9))
        go_wp2_with fail
        refine (write_k _ _ _ _ HI7.out ?_ Hb7.out.size).mono ?_
        · have := repText_length c hc (k + 1)
          omega
        rintro e w8 ⟨rfl, hW8⟩
        have HI8 := Lib.hid hW8.1
        have Hb8 := Lib.hid (Hb7.out.trans hW8.2.1)
        clear hW8
        go_wp2_with fail
        refine (string_k _ _ _ HI8.out Hb8.out.size).mono ?_
        rintro e w9 ⟨rfl, hb9⟩
        have Hb9 := Lib.hid hb9
        clear hb9
        go_wp2_with fail
        go_ret
        exact ⟨rfl, Hb8.out.trans Hb9.out⟩
    · obtain ⟨b2, env2, q0, q1, q2, q3, q4, v2, rfl, hlt2, htr2, hr2⟩ := Hr.out
      have HT2 := Lib.hid htr2
      have Hr2 := Lib.hid hr2
      have hne := fun W => run_eql_held_nil (P := Tryd.prog) W 30 34 (.pointer (some ⟨b2, 0, none⟩)) (by kernel_rfl)
      clear htr2 hr2 Hr
      go_wp2_with fail
      refine (write_k _ _ _ _ HI.out (by simp [ByteArray.size]; omega) Hbl.out.size).mono ?_
      rintro e w1 ⟨rfl, hW1⟩
      have HI1 : Hid (IsB w.heap.size w.heap.size (Lib.byteCells (repText c k ++ [116, 114, 97, 112, 32])) w1) := hW1.1
      have Hb1 : Hid (Below w.heap.size w w1) := Hbl.out.trans hW1.2.1
      have HP1 : Hid (PMap w1 (w.heap.size + 1) ps) := HP.out.kept hW1.2.2 (by omega)
      have hs1 : wr.heap.size ≤ w1.heap.size := hW1.2.1.size
      have hc1 : w1.cell? ⟨b, 0, none⟩ = some (.int .i64 c) := cell_of_block (HT.out.later Hb1.out hbw) 0
      clear hW1
      go_wp2_with fail
      refine (Tryd.strconv_Itoa_small c hc _).mono ?_
      rintro e w2 ⟨rfl, rfl⟩
      go_wp2_with fail
      refine (write_k _ _ _ _ HI1.out (by simp [ByteArray.size]; omega) Hb1.out.size).mono ?_
      rintro e w3 ⟨rfl, hW3⟩
      have HI3 : Hid (IsB w.heap.size w.heap.size (Lib.byteCells (repText c k ++ trapText c)) w3) := by have h := hW3.1; rw [List.append_assoc] at h; exact h
      have Hb3 : Hid (Below w.heap.size w w3) := Hb1.out.trans hW3.2.1
      have HP3 : Hid (PMap w3 (w.heap.size + 1) ps) := HP1.out.kept hW3.2.2 (by omega)
      have hs3 : w2.heap.size ≤ w3.heap.size := hW3.2.1.size
      have hc3 : w3.cell? ⟨b, 7, none⟩ = some (.iface 34 (.pointer (some ⟨b2, 0, none⟩))) := cell_of_block (HT.out.later Hb3.out hbw) 7
      clear hW3 hc1
      go_wp2_with fail
      refine (write_k _ _ _ _ HI3.out (by rw [List.length_append]; show _ + 2 ≤ 100000; omega) Hb3.out.size).mono ?_
      rintro e w4 ⟨rfl, hW4⟩
      have HI4 : Hid (IsB w.heap.size w.heap.size (Lib.byteCells (repText c (k + 1))) w4) := by have h := hW4.1; rw [List.append_assoc] at h; exact h
      have Hb4 : Hid (Below w.heap.size w w4) := Hb3.out.trans hW4.2.1
      have HP4 : Hid (PMap w4 (w.heap.size + 1) ps) := HP3.out.kept hW4.2.2 (by omega)
      have hs4 : w3.heap.size ≤ w4.heap.size := hW4.2.1.size
      have HR4 : Hid (IsRow w4 b) := HT.out.row.later Hb4.out hbw
      have HPS4 : Hid (∀ p ∈ ps, p ≠ b ∧ IsRow w4 p) := fun p hp => ⟨by have := (Hps.out p hp).1; omega, (Hps.out p hp).2.2.later Hb4.out (Hps.out p hp).2.1⟩
      clear hW4 hc3
      go_wp2_with (at_mapUpdate; refine wpList_mapUpdate_ptr _ rfl _ _ _ rfl _ b ps rfl HP4.out rfl rfl HR4.out HPS4.out ?_; intro w5 hP5 hb5 hsz5 hot5; obtain ⟨Hb5, HI5, HP5, hs5, hc5⟩ := upd_pack hbw HT.out Hb4.out HI4.out HP4.out hP5 hb5 hsz5 hot5; clear hP5 hb5 hsz5 hot5)
      refine (itself_trap b2 _ (asHit_trap _ (HG.out.below Hb5.out HG.out.pos) _)).mono ?_
      rintro e w6 ⟨rfl, hb6⟩
      have Hb6 : Hid (Below w.heap.size w w6) := Hb5.out.trans (hb6.mono (by omega))
      have HI6 : Hid (IsB w.heap.size w.heap.size (Lib.byteCells (repText c (k + 1))) w6) := isB_below HI5.out hb6
      have HP6 : Hid (PMap w6 (w.heap.size + 1) (ps ++ [b])) := HP5.out.later hb6 (by omega)
      have hs6 : w5.heap.size ≤ w6.heap.size := hb6.size
      have HR6 : Hid (IsRow w6 b2) := HT2.out.row.later Hb6.out (by omega)
      have HPS6 : Hid (∀ p ∈ ps ++ [b], p ≠ b2 ∧ IsRow w6 p) := by
        intro p hp
        rcases List.mem_append.1 hp with hp | hp
        · exact ⟨by have := (Hps.out p hp).1; omega, (Hps.out p hp).2.2.later Hb6.out (Hps.out p hp).2.1⟩
        · obtain rfl := List.mem_singleton.1 hp
          exact ⟨by omega, HT.out.row.later Hb6.out hbw⟩
      clear hb6 hc5
      go_wp2_with (at_lookup; refine wpList_lookup_ptr _ rfl _ _ rfl _ b2 (ps ++ [b]) rfl HP6.out rfl HR6.out HPS6.out ?_)
      go_roundw
      case rel =>
        exact ⟨k + 1, m, b, ps ++ [b], b2, env2, q0, q1, q2, q3, q4, v2, by have := Hkm.out; omega, HI6.out.alloc _, HP6.out.later ((Below.refl _ _).alloc (Nat.le_refl _) _) (by omega), by
          intro p hp
          rcases List.mem_append.1 hp with hp | hp
          · exact ⟨by have := (Hps.out p hp).1; omega, (Hps.out p hp).2⟩
          · obtain rfl := List.mem_singleton.1 hp
            exact ⟨Nat.le_refl _, hbw, HT.out.row⟩, Hb6.out.alloc Hb6.out.size _, by simp; omega, rfl, hlt2, by omega, HT2.out, Hr2.out⟩
      case measure => simp [ptrBlock]; omega
end Go.Proofs.YtnmlmhhohemffaaDoor
