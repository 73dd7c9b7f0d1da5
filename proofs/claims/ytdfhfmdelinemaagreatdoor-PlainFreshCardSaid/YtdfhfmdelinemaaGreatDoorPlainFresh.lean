/- What is proved here: the statement PlainFresh: whatever its size, its asks and its numbers, the statement returns true and leaves what was there. Conditions: package plain keeps its contracts; the asks are there, their words are words; the statements' own beginning returns true. -/
import Derived.Test.YtdfhfmdelinemaaGreatDoorGPair
import Derived.RegionTactic
import Derived.Deep.QuietTactic
import Derived.BigQuiet
namespace Go.Proofs.YtdfhfmdelinemaaGreatDoor
open Go.RowKit Go.Extern.Stop Go.Stop Go.Extern Go.WalkArith
theorem refs_pos {k : KernS} {e s f : Nat} (he : e < 4) (hs : s < 8) (hi : (k.sl e s).is = true) (hf : (k.sl e s).frame = (f : Int)) : 0 < refsN k f 32 := by
  unfold refsN
  refine List.length_pos_of_mem (a := e * 8 + s) (List.mem_filter.2 ⟨List.mem_range.2 (by omega), ?_⟩)
  rw [ofB_at k f hs, hi, hf]
  simp
theorem kdo_alloc_busy {k : KernS} {E s : Nat} (hE : (E : Int) < k.envs) (hs : s < 8) (hi : (k.sl E s).is = true) : kdo k E 1 s 0 0 0 = (k, 4, 0, true) := by
  unfold kdo
  rw [if_neg (by omega), if_pos (by rcases (show s = 0 ∨ s = 1 ∨ s = 2 ∨ s = 3 ∨ s = 4 ∨ s = 5 ∨ s = 6 ∨ s = 7 by omega) with rfl | rfl | rfl | rfl | rfl | rfl | rfl | rfl <;> rfl)]
  simp [kcall, hi]
theorem kdo_alloc_full {k : KernS} {E s : Nat} (hE : (E : Int) < k.envs) (hs : s < 8) (hi : (k.sl E s).is = false) (hf : freeK k k.frames.toNat = []) : kdo k E 1 s 0 0 0 = (k, 6, 0, true) := by
  unfold kdo
  rw [if_neg (by omega), if_pos (by rcases (show s = 0 ∨ s = 1 ∨ s = 2 ∨ s = 3 ∨ s = 4 ∨ s = 5 ∨ s = 6 ∨ s = 7 by omega) with rfl | rfl | rfl | rfl | rfl | rfl | rfl | rfl <;> rfl)]
  simp [kcall, hi, hf]
theorem kdo_alloc_free {k : KernS} {E s f : Nat} {r : List Nat} (hE : (E : Int) < k.envs) (hs : s < 8) (hi : (k.sl E s).is = false) (hf : freeK k k.frames.toNat = f :: r) : kdo k E 1 s 0 0 0 = (allocS k E s f, 0, 0, true) := by
  unfold kdo
  rw [if_neg (by omega), if_pos (by rcases (show s = 0 ∨ s = 1 ∨ s = 2 ∨ s = 3 ∨ s = 4 ∨ s = 5 ∨ s = 6 ∨ s = 7 by omega) with rfl | rfl | rfl | rfl | rfl | rfl | rfl | rfl <;> rfl)]
  simp [kcall, hi, hf]
theorem alloc_slot (k : KernS) (E s f : Nat) : (allocS k E s f).sl E s = ⟨true, (f : Int), 3, -1, 0⟩ := by
  show (if E = E ∧ s = s then _ else _ : SlotV) = _
  rw [if_pos ⟨rfl, rfl⟩]
theorem alloc_mem (k : KernS) (E s f i : Nat) (hi : i < 16) : (allocS k E s f).mm f i = 0 := by
  show (if f = f ∧ i < 16 then (0 : Int) else _) = 0
  rw [if_pos ⟨rfl, hi⟩]
theorem side_swap2 {w W : World} {o p : Thing} (h : Side w W [o, p]) : Side w W [p, o] := by
  obtain ⟨a1, a2, a3, a4, a5, _, a7⟩ := h
  exact ⟨a4, a5, (fun q hq i hi hi2 => by rw [List.mem_singleton.1 hq] at hi2; exact a3 p (List.mem_singleton.2 rfl) i hi2 hi), a1, a2, (fun _ hq => nomatch hq), a7⟩
section
variable {At : World → (Nat → Prop) → Nat → KernS → Prop} {H : PlainC At} {w W W' : World} {P : Nat} {k k' : KernS} {L : List Thing}
theorem run_touch {f a : Nat} {kind x1 x3 x4 : Int} (h : KRun H w P k L W) (hf : (f : Int) < k.frames) (ha : a < 16) (hk : 20 ≤ kind ∧ kind ≤ 23) (hx : wordsIn kind x1 a x3 x4) :
    Calls Tryz.prog 21 #[.pointer (some ⟨P, 0, none⟩), .int .i64 (f : Int), callV kind x1 a x3 x4] W fun x W' => ∃ v, x = .returned (.tuple #[.agg #[.int .i64 0, .int .u64 v], .bool true]) ∧ KRun H w P (wordS k f a kind x3 x4) L W' := by
  obtain ⟨S, h⟩ := h
  refine (H.touch_ P S k f a kind x1 x3 x4 W (Side.at L h) hf ha hk hx).mono ?_
  rintro x W' ⟨S', v, rfl, _, h4, h5, h6⟩
  exact ⟨v, rfl, KRun.step h h4 h5 h6⟩
theorem run_frame {f : Nat} (h : KRun H w P k L W) (hf : (f : Int) < k.frames) (hr : 0 < refsN k f 32) (hz : ∀ i, i < 16 → k.mm f i = 0) :
    Calls Tryz.prog 24 #[.pointer (some ⟨P, 0, none⟩), .int .i64 (f : Int)] W fun x W' => (∃ g cap : Nat, x = .returned (.slice (some ⟨g, 0, none⟩) 16 cap) ∧ g < W'.heap.size ∧ ∀ i, i < 16 → W'.cell? ⟨g, i, none⟩ = some (.int .u64 0)) ∧ KRun H w P k L W' := by
  obtain ⟨S, h1⟩ := h.at
  refine (H.frame_ P S k f W h1 hf).mono ?_
  rintro x W' ⟨g, cap, u, rfl, h2, h3, h4, hb⟩
  exact ⟨⟨g, cap, rfl, h2, fun i hi => by rw [h3 i hi, h4 hr i hi, hz i hi]⟩, h.under hb⟩
end
theorem word_sizes (k : KernS) (f a : Nat) (kind x3 x4 : Int) : SizesAs k (wordS k f a kind x3 x4) := by
  unfold wordS
  split
  · exact ⟨rfl, rfl⟩
  · split
    · split <;> exact ⟨rfl, rfl⟩
    · split <;> exact ⟨rfl, rfl⟩
set_option maxRecDepth 100000 in
set_option maxHeartbeats 8000000 in
theorem pfresh_any {At : World → (Nat → Prop) → Nat → KernS → Prop} (H : PlainC At) (c e f : Int) (ao : Option Addr) (a : Addr) (len cap : Nat) (v env slot : Int) (hv : 0 ≤ v ∧ v < 18446744073709551616) (w : World) (ha : AsksAt w ao a len) (hbeg : ∀ V, Below w.heap.size w V → BegunAt11 V) :
    Calls Tryz.prog 6 #[sizeV c e f, .slice ao len cap, .int .u64 v, .int .i64 env, .int .i64 slot] w fun e w' => e = .returned (.bool true) ∧ Below w.heap.size w w' := by
  have HB := Lib.hid hbeg
  have HH := Lib.hid H
  have HA := Lib.hid ha
  clear hbeg H ha
  go_enter Tryz.func6, Tryz.ntmps6
  go_wp2_with fail
  have S0 := (Side.start w).boxAt (.cells #[.int .i64 c, .int .i64 e, .int .i64 f] 23) _ rfl
  refine (HB.out _ S0.below).mono ?_
  rintro e1 w1 ⟨rfl, hb1⟩
  have S1 := Lib.hid (S0.under hb1)
  clear hb1 HB S0
  have k1 := S1.out.1
  have z0 := bk_cell k1 0
  have z1 := bk_cell k1 1
  have z2 := bk_cell k1 2
  have lz := bk_lt k1
  clear k1
  by_cases hs : SizeOk c e f
  · have HS := Lib.hid hs
    obtain ⟨hs1, hs2, hs3⟩ := hs
    obtain ⟨E0, rfl⟩ := nat_of (show 0 ≤ e by omega)
    obtain ⟨F, rfl⟩ := nat_of (show 0 ≤ f by omega)
    have hE1 : 1 ≤ E0 := by omega
    have hE4 : E0 ≤ 4 := by omega
    have hF1 : 1 ≤ F := by omega
    have hF16 : F ≤ 16 := by omega
    clear hs1 hs2 hs3
    go_wp2_with fail
    refine (side_new HH.out S1.out HS.out).mono ?_
    rintro e1 w2 ⟨P, S, rfl, h⟩
    have R2 : Hid (KRun HH.out w P (newK c E0 F) [fixT w.heap.size (.cells #[.int .i64 c, .int .i64 (E0 : Int), .int .i64 (F : Int)] 23)] w2) := by
      exact ⟨S, side_swap2 h⟩
    clear h S1 z0 z1 z2 lz
    go_wp2_with fail
    go_loopw [13] (fun iv W => ∃ (i : Nat) (k : KernS), iv = .int .i64 i ∧ i ≤ len ∧ i ≤ 40 ∧ (k.envs = (E0 : Int) ∧ k.frames = (F : Int)) ∧ KRun HH.out w P k [fixT w.heap.size (.cells #[.int .i64 c, .int .i64 (E0 : Int), .int .i64 (F : Int)] 23)] W) (fun iv _ => (40 - intOf iv).toNat)
    case atStart => exact ⟨0, newK c E0 F, rfl, by omega, by omega, ⟨rfl, rfl⟩, R2.out⟩
    case round =>
      obtain ⟨i, k, rfl, hil, hi40, hn, h⟩ := hrel
      have HN := Lib.hid hn
      have R4 := Lib.hid h
      clear h hn R2
      rcases (show (i < len ∧ i < 40) ∨ ¬ i < len ∨ (i < len ∧ i = 40) by omega) with ⟨h1, h2⟩ | h1 | ⟨h1, h2⟩
      · obtain rfl : ao = some a := HA.out.1 (by omega)
        have i0 : (0 : Int) ≤ (i : Int) := by omega
        have i1 : (i : Int) < (len : Int) := by omega
        have i2 : (i : Int) < 40 := by omega
        obtain ⟨q, x0, x1, x2, x3, x4, hq⟩ := HA.out.2 i h1
        have HQ := Lib.hid hq
        clear hq
        have hq := HQ.out.later R4.out.below
        have q0 := hq.env
        have q1 := hq.a0
        have q2 := hq.a1
        have q3 := hq.a2
        have q4 := hq.a3
        have q5 := hq.a4
        clear hq
        go_wp2_with fail
        go_still_tail 11, (by kernel_rfl)
        change wpList _ _ _ _ _ wr.drew
        go_wp2_with fail
        refine (run_any q x0 x1 x2 x3 x4 (R4.out.under (dn (Below.refl _ _) 1)) HQ.out.words).mono ?_
        rintro e1 w4 ⟨rfl, h⟩
        have HZ := kdo_sizes k q x0 x1 x2 x3 x4
        generalize kdo k q x0 x1 x2 x3 x4 = r at h HZ ⊢
        obtain ⟨k', er, va, bo⟩ := r
        dsimp only at h HZ ⊢
        have R5 := Lib.hid h
        have HN2 : Hid (k'.envs = (E0 : Int) ∧ k'.frames = (F : Int)) := ⟨HZ.1.trans HN.out.1, HZ.2.trans HN.out.2⟩
        clear h HZ R4 q0 q1 q2 q3 q4 q5
        unfold ansV
        have k1 := R5.out.read (List.mem_cons_self ..)
        have z0 := bk_cell k1 0
        have z1 := bk_cell k1 1
        have z2 := bk_cell k1 2
        have lz := bk_lt k1
        clear k1
        obtain ⟨m, hm⟩ : ∃ m : Nat, (i : Int) % (F : Int) = (m : Int) := ⟨i % F, by omega⟩
        obtain ⟨n, hn⟩ : ∃ n : Nat, (i : Int) % 16 = (n : Int) := ⟨i % 16, by omega⟩
        have hm2 : m < F := by
          have := Int.emod_lt_of_pos (i : Int) (show (0 : Int) < (F : Int) by omega)
          omega
        have hn2 : n < 16 := by omega
        have hnw : IntKind.u64.wrap (n : Int) = (n : Int) := u64_small n (by omega)
        go_wp2_with fail
        refine (run_touch (f := m) (a := n) (kind := 21) (x1 := 0) (x3 := v) (x4 := 0) R5.out (by rw [HN2.out.2]; omega) hn2 (by omega) (by unfold wordsIn; omega)).mono ?_
        rintro e1 w5 ⟨v1, rfl, h⟩
        have R6 := Lib.hid h
        have HZ := word_sizes k' m n 21 v 0
        have HN3 : Hid ((wordS k' m n 21 v 0).envs = (E0 : Int) ∧ (wordS k' m n 21 v 0).frames = (F : Int)) := ⟨HZ.1.trans HN2.out.1, HZ.2.trans HN2.out.2⟩
        clear h HZ R5 z0 z1 z2 lz
        go_wp2_with fail
        go_roundw
        case rel => exact ⟨i + 1, _, by go_num, by omega, by omega, HN3.out, R6.out⟩
        case measure => simp [intOf]; omega
      all_goals
        have p0 : (0 : Int) < (E0 : Int) := by omega
        have m1 := tnear env (E0 : Int) p0
        have m2 := tupm env (E0 : Int) p0
        have m3 := tnear slot 8 (by omega)
        have m4 := tupm slot 8 (by omega)
        have e1 : IntKind.i64.wrap (env.tmod (E0 : Int) + (E0 : Int)) = env.tmod (E0 : Int) + (E0 : Int) := Go.IntWalk.i64_in _ (by omega)
        have e2 : IntKind.i64.wrap (slot.tmod 8 + 8) = slot.tmod 8 + 8 := Go.IntWalk.i64_in _ (by omega)
        obtain ⟨E, hE⟩ : ∃ E : Nat, (env.tmod (E0 : Int) + (E0 : Int)).tmod (E0 : Int) = (E : Int) := ⟨((env.tmod (E0 : Int) + (E0 : Int)).tmod (E0 : Int)).toNat, by omega⟩
        obtain ⟨s, hs⟩ : ∃ s : Nat, (slot.tmod 8 + 8).tmod 8 = (s : Int) := ⟨((slot.tmod 8 + 8).tmod 8).toNat, by omega⟩
        have hE2 : E < E0 := by omega
        have hs2 : s < 8 := by omega
        have k1 := R4.out.read (List.mem_cons_self ..)
        have z0 := bk_cell k1 0
        have z1 := bk_cell k1 1
        have z2 := bk_cell k1 2
        have lz := bk_lt k1
        clear k1
        first
          | (have i1 : ¬ (i : Int) < (len : Int) := by omega
             go_wp2_with fail)
          | (have i1 : (i : Int) < (len : Int) := by omega
             have i2 : ¬ (i : Int) < 40 := by omega
             go_wp2_with fail)
        clear h1 hil hi40
        go_quiet (fail)
        go_wp2_with fail
        have he : (E : Int) < k.envs := by rw [HN.out.1]; omega
        have hf16 : k.frames.toNat = F := by rw [HN.out.2, Int.toNat_natCast]
        clear z0 z1 z2 lz m1 m2 m3 m4 e1 e2 hE hs
        cases hi : (k.sl E s).is
        · rcases hf : freeK k k.frames.toNat with _ | ⟨f0, r⟩
          · have HK := Lib.hid (kdo_alloc_full he hs2 hi hf)
            have HF : Hid ((freeK k k.frames.toNat).length = 0) := by rw [hf]; rfl
            have HI := Lib.hid hi
            have HE := Lib.hid he
            clear hi hf he hf16
            refine (run_do (R4.out.under (dn (Below.refl _ _) _)) (by unfold wordsIn; omega) HK.out).mono ?_
            rintro e1 w5 ⟨rfl, h⟩
            have R5 := Lib.hid h
            clear h R4
            go_wp2_with fail
            refine (run_nocap (R5.out.box _) HE.out hs2 HI.out).mono ?_
            rintro e1 w6 ⟨rfl, h⟩
            have R6 := Lib.hid h
            clear h R5
            have k1 := R6.out.read (List.mem_cons_self ..)
            have z0 := bk_cell k1 0
            have z1 := bk_cell k1 1
            have lz := bk_lt k1
            clear k1
            go_wp2_with fail
            refine (run_free (R6.out.alloc _)).mono ?_
            rintro e1 w7 ⟨⟨ao7, cap7, rfl⟩, h⟩
            have R7 := Lib.hid h
            clear h R6
            rw [HF.out]
            go_wp2_with fail
            go_ret
            exact ⟨rfl, R7.out.below⟩
          · have hf0 : f0 < F := by
              have hm : f0 ∈ freeK k k.frames.toNat := by rw [hf]; exact List.mem_cons_self ..
              unfold freeK at hm
              have := List.mem_range.1 (List.mem_filter.1 hm).1
              omega
            have HK := Lib.hid (kdo_alloc_free he hs2 hi hf)
            have HS2 := Lib.hid (alloc_slot k E s f0)
            have HI : Hid (((allocS k E s f0).sl E s).is = true) := congrArg SlotV.is HS2.out
            have HE : Hid ((E : Int) < (allocS k E s f0).envs) := he
            have HFr : Hid ((f0 : Int) < (allocS k E s f0).frames) := by show (f0 : Int) < k.frames; rw [HN.out.2]; omega
            have HR := Lib.hid (refs_pos (k := allocS k E s f0) (e := E) (s := s) (f := f0) (by omega) hs2 HI.out (congrArg SlotV.frame HS2.out))
            have HM := Lib.hid (fun i hi => alloc_mem k E s f0 i hi)
            clear hi hf he hf16
            refine (run_do (R4.out.under (dn (Below.refl _ _) _)) (by unfold wordsIn; omega) HK.out).mono ?_
            rintro e1 w5 ⟨rfl, h⟩
            have R5 := Lib.hid h
            clear h R4
            go_wp2_with fail
            refine (run_cap (R5.out.box _) HE.out hs2 HI.out).mono ?_
            rintro e1 w6 ⟨⟨ca, cb, rfl, hc⟩, h⟩
            rw [HS2.out] at hc ⊢
            dsimp only at hc ⊢
            have hca : ca < 0 := hc (by decide)
            have R6 := Lib.hid h
            clear h R5 hc
            have k1 := R6.out.read (List.mem_cons_self ..)
            have z0 := bk_cell k1 0
            have z1 := bk_cell k1 1
            have lz := bk_lt k1
            clear k1
            go_wp2_with fail
            refine (run_frame (R6.out.box _) HFr.out HR.out HM.out).mono ?_
            rintro e1 w7 ⟨⟨g, cap7, rfl, hg, hz⟩, h⟩
            have R7 := Lib.hid h
            have HZ := Lib.hid hz
            clear h R6 hz z0 z1 lz
            go_wp2_with fail
            go_loopw [118] (fun jv W => ∃ j : Nat, jv = .int .i64 j ∧ j ≤ 16 ∧ Below w7.heap.size w7 W) (fun jv _ => (16 - intOf jv).toNat)
            case atStart => exact ⟨0, rfl, by omega, Below.refl _ _⟩
            case round =>
              obtain ⟨j, rfl, hj, hb⟩ := hrel
              have HB2 := Lib.hid hb
              clear hb
              by_cases h2 : j < 16
              · have j1 : (j : Int) < 16 := by omega
                have c1 := (HB2.out.cell (p := ⟨g, j, none⟩) hg).trans (HZ.out j h2)
                go_wp2_with fail
                go_roundw
                case rel => exact ⟨j + 1, by go_num, by omega, HB2.out⟩
                case measure => simp [intOf]; omega
              · obtain rfl : j = 16 := by omega
                have R8 := Lib.hid (R7.out.under HB2.out)
                have k1 := R8.out.read (List.mem_cons_self ..)
                have z0 := bk_cell k1 0
                have z1 := bk_cell k1 1
                have z2 := bk_cell k1 2
                have lz := bk_lt k1
                clear k1 R7
                go_wp2_with fail
                refine (run_frame R8.out HFr.out HR.out HM.out).mono ?_
                rintro e1 w9 ⟨⟨g2, cap9, rfl, hg2, hz2⟩, h⟩
                have R9 := Lib.hid h
                clear h R8 hz2 z0 z1 z2 lz
                go_wp2_with fail
                go_ret
                exact ⟨rfl, R9.out.below⟩
        · have HK := Lib.hid (kdo_alloc_busy he hs2 hi)
          have HI := Lib.hid hi
          have HE := Lib.hid he
          clear hi he hf16
          refine (run_do (R4.out.under (dn (Below.refl _ _) _)) (by unfold wordsIn; omega) HK.out).mono ?_
          rintro e1 w5 ⟨rfl, h⟩
          have R5 := Lib.hid h
          clear h R4
          go_wp2_with fail
          refine (run_cap (R5.out.box _) HE.out hs2 HI.out).mono ?_
          rintro e1 w6 ⟨⟨ca, cb, rfl, hc⟩, h⟩
          have R6 := Lib.hid h
          clear h R5 hc
          have k1 := R6.out.read (List.mem_cons_self ..)
          have z0 := bk_cell k1 0
          have z1 := bk_cell k1 1
          have lz := bk_lt k1
          clear k1
          go_wp2_with fail
          go_ret
          exact ⟨rfl, (R6.out.alloc _).below⟩
  · have HS := Lib.hid hs
    clear hs
    go_wp2_with fail
    refine (HH.out.no_ c e f w1 HS.out).mono ?_
    rintro e1 w2 ⟨rfl, hb⟩
    have S2 := Lib.hid (S1.out.under hb)
    clear hb S1 z0 z1 z2 lz
    have k1 := S2.out.1
    have z0 := bk_cell k1 0
    have z1 := bk_cell k1 1
    have z2 := bk_cell k1 2
    have lz := bk_lt k1
    clear k1
    go_wp2_with fail
    refine (size_no c e f HS.out w2).mono ?_
    rintro e1 w3 ⟨rfl, hb⟩
    have S3 := Lib.hid (S2.out.under hb)
    clear hb
    go_wp2_with fail
    go_ret
    exact ⟨rfl, S3.out.below⟩
end Go.Proofs.YtdfhfmdelinemaaGreatDoor

