/- What is proved here: the statement PlainAll: whatever its size and its asks, the statement returns true and leaves what was there. Conditions: package plain keeps its contracts; the asks are there, their words are words; the statements' own beginning returns true; the library's variable errors.errorType holds the type error. -/
import Derived.Test.YtdfhfmdelinemaaGreatDoorPair2
import Derived.Deep.CutBlock
import Derived.Deep.DeepCutAuto
import Derived.Deep.RegionWith
namespace Go.Proofs.YtdfhfmdelinemaaGreatDoor
open Go.RowKit Go.Extern.Stop Go.Stop Go.Extern Go.WalkArith
set_option maxRecDepth 100000 in
set_option maxHeartbeats 8000000 in
theorem pall_any {At : World → (Nat → Prop) → Nat → KernS → Prop} (H : PlainC At) (c e f : Int) (ao : Option Addr) (a : Addr) (len cap : Nat) (w : World) (ha : AsksAt w ao a len) (hg : Held w) (hbeg : ∀ V, Below w.heap.size w V → BegunAt11 V) :
    Calls Tryz.prog 3 #[sizeV c e f, .slice ao len cap] w fun e w' => e = .returned (.bool true) ∧ Below w.heap.size w w' := by
  have HB := Lib.hid hbeg
  have HH := Lib.hid H
  have HA := Lib.hid ha
  have HG : Hid (∀ W, Below w.heap.size w W → Held W) := fun W hW => hg.below hW hg.pos
  clear hbeg H ha hg
  go_enter Tryz.func3, Tryz.ntmps3
  go_wp2_with fail
  have S0 := (Side.start w).boxAt (.cells #[.int .i64 c, .int .i64 e, .int .i64 f] 23) _ rfl
  refine (HB.out _ S0.below).mono ?_
  rintro e1 w1 ⟨rfl, hb1⟩
  have S1 := Lib.hid (S0.under hb1)
  clear hb1 HB S0
  have k1 := S1.out.1
  have z0 := bk_cell k1 0
  have z1 := bk_cell k1 1
  have z2 := bk_cell k1 2
  have lz := bk_lt k1
  clear k1
  by_cases hs : SizeOk c e f
  · have HS := Lib.hid hs
    clear hs
    go_wp2_with fail
    refine (side_new HH.out S1.out HS.out).mono ?_
    rintro e1 w2 ⟨P, S, rfl, h⟩
    have S2 := Lib.hid h
    clear h S1 z0 z1 z2 lz
    have k1 := S2.out.tail.1
    have z0 := bk_cell k1 0
    have z1 := bk_cell k1 1
    have z2 := bk_cell k1 2
    have lz := bk_lt k1
    clear k1
    go_wp2_with fail
    refine (size_yes c e f HS.out w2).mono ?_
    rintro e1 w2' ⟨rfl, hb⟩
    have S2b := Lib.hid (S2.out.under hb)
    clear hb S2 z0 z1 z2 lz
    have k1 := S2b.out.tail.1
    have z0 := bk_cell k1 0
    have z1 := bk_cell k1 1
    have z2 := bk_cell k1 2
    have lz := bk_lt k1
    clear k1
    go_wp2_with fail
    refine (side_ref S2b.out).mono ?_
    rintro e1 w3 ⟨K, rfl, h⟩
    have S3 := Lib.hid h
    clear h S2b z0 z1 z2 lz
    go_wp2_with fail
    go_loopw [8] (fun iv W => ∃ (i : Nat) (k : KernS) (S : Nat → Prop), iv = .int .i64 i ∧ i ≤ len ∧ i ≤ 80 ∧ Neat k ∧ Side w W [kernT K k, plainT HH.out S P k, fixT w.heap.size (.cells #[.int .i64 c, .int .i64 e, .int .i64 f] 23)]) (fun iv _ => (80 - intOf iv).toNat)
    case atStart => exact ⟨0, newK c e f, S, rfl, by omega, by omega, Neat.new _ _ _, S3.out⟩
    case round =>
      obtain ⟨i, k, S', rfl, hil, hi60, hn, h⟩ := hrel
      have HN := Lib.hid hn
      have S4 := Lib.hid h
      clear h hn S3
      have HK : Hid (Sane k) := HH.out.sane _ _ _ _ (Side.at (o := plainT HH.out S' P k) [kernT K k] S4.out)
      rcases (show (i < len ∧ i < 80) ∨ ¬ i < len ∨ (i < len ∧ i = 80) by omega) with ⟨h1, h2⟩ | h1 | ⟨h1, h2⟩
      · obtain rfl : ao = some a := HA.out.1 (by omega)
        have i0 : (0 : Int) ≤ (i : Int) := by omega
        have i1 : (i : Int) < (len : Int) := by omega
        have i2 : (i : Int) < 80 := by omega
        obtain ⟨q, x0, x1, x2, x3, x4, hq⟩ := HA.out.2 i h1
        have HQ := Lib.hid hq
        clear hq
        obtain ⟨⟨k', er, va, bo⟩, hr⟩ : ∃ r, kdo k q x0 x1 x2 x3 x4 = r := ⟨_, rfl⟩
        have HR := Lib.hid hr
        have HN2 : Hid (Neat k') := by
          have h := HN.out.do q x0 x1 x2 x3 x4
          rw [hr] at h
          exact h
        clear hr
        have hq := HQ.out.later S4.out.below
        have q0 := hq.env
        have q1 := hq.a0
        have q2 := hq.a1
        have q3 := hq.a2
        have q4 := hq.a3
        have q5 := hq.a4
        clear hq
        go_wp2_with fail
        go_still_tail 11, (by kernel_rfl)
        change wpList _ _ _ _ _ wr.drew
        go_wp2_with fail
        refine (side_errV (l1 := [kernT K k]) (S4.out.under (dn (Below.refl _ _) 1)) HQ.out.words (HG.out _ (dn S4.out.below 1)) HR.out).mono ?_
        rintro e1 w4 ⟨ev, E, rfl, hv, h⟩
        have HV := Lib.hid hv
        have S5 := Lib.hid h
        clear h hv S4 q0 q1 q2 q3 q4 q5
        have hq := HQ.out.later S5.out.below
        have q0 := hq.env
        have q1 := hq.a0
        have q2 := hq.a1
        have q3 := hq.a2
        have q4 := hq.a3
        have q5 := hq.a4
        clear hq
        go_wp2_with fail
        go_cut [10, 11] (fun av bv W => ∃ (A : Nat) (S6 : Nat → Prop), av = .pointer (some ⟨A, 0, none⟩) ∧ bv = .bool bo ∧ Side w W [fixT A (.cells #[.int .i64 er, .int .u64 va] 41), E, kernT K k, plainT HH.out S6 P k', fixT w.heap.size (.cells #[.int .i64 c, .int .i64 e, .int .i64 f] 23)])
        case first =>
          have la : (a.add (i * 6)).block < w4.heap.size := World.block_lt_of_cell? _ _ q0
          have SD := Lib.hid (S5.out.under (dn (Below.refl _ _) 1))
          go_region_with ((go_at_call 12; first | (refine (side_doE (l1 := [E, kernT K k]) SD.out HQ.out.words HR.out).mono ?_; rintro e1 w5 ⟨S6, rfl, h⟩; have SN := Lib.hid h; clear h) | (refine (side_doE (l1 := [fixT _ _, E, kernT K k]) (SD.out.boxAt _ w4.heap.size rfl) HQ.out.words HR.out).mono ?_; rintro e1 w5 ⟨S6, rfl, h⟩; have SN := Lib.hid h; clear h; have kb := SN.out.1; have b0 := bk_cell kb 0; have b1 := bk_cell kb 1; have f0 := bk_free kb 0; have f1 := bk_free kb 1; have lb := bk_lt kb; clear kb)))
          all_goals
            go_wp2_with fail
            go_meet
            case rel => first | exact ⟨_, _, rfl, rfl, SN.out.box _⟩ | exact ⟨_, _, rfl, rfl, Side.store (l1 := []) (Side.store (l1 := []) SN.out 0 _) 1 _⟩
        case rest =>
          clear S5 q0 q1 q2 q3 q4 q5
          obtain ⟨A, S6, rfl, rfl, h⟩ := hcut
          have S7 := Lib.hid h
          clear h
          have hq := HQ.out.later S7.out.below
          have q0 := hq.env
          have q1 := hq.a0
          have q2 := hq.a1
          have q3 := hq.a2
          have q4 := hq.a3
          have q5 := hq.a4
          clear hq
          go_wp2_with fail
          go_cut [12, 13] (fun bv dv W => ∃ (B : Nat), bv = .pointer (some ⟨B, 0, none⟩) ∧ dv = .bool bo ∧ Side w W [fixT B (.cells #[.int .i64 er, .int .u64 va] 41), fixT A (.cells #[.int .i64 er, .int .u64 va] 41), E, kernT K k', plainT HH.out S6 P k', fixT w.heap.size (.cells #[.int .i64 c, .int .i64 e, .int .i64 f] 23)])
          case first =>
            have la : (a.add (i * 6)).block < wc.heap.size := World.block_lt_of_cell? _ _ q0
            have SD := Lib.hid (S7.out.under (dn (Below.refl _ _) 1))
            go_region_with ((go_at_call 13; first | (refine (side_rdoE (l1 := [fixT A (.cells #[.int .i64 er, .int .u64 va] 41), E]) HK.out SD.out HQ.out.words HR.out).mono ?_; rintro e1 w6 ⟨rfl, h⟩; have SN := Lib.hid h; clear h) | (refine (side_rdoE (l1 := [fixT _ _, fixT A (.cells #[.int .i64 er, .int .u64 va] 41), E]) HK.out (SD.out.boxAt _ wc.heap.size rfl) HQ.out.words HR.out).mono ?_; rintro e1 w6 ⟨rfl, h⟩; have SN := Lib.hid h; clear h; have kb := SN.out.1; have b0 := bk_cell kb 0; have b1 := bk_cell kb 1; have f0 := bk_free kb 0; have f1 := bk_free kb 1; have lb := bk_lt kb; clear kb)))
            all_goals
              go_wp2_with fail
              go_meet
              case rel => first | exact ⟨_, rfl, rfl, SN.out.box _⟩ | exact ⟨_, rfl, rfl, Side.store (l1 := []) (Side.store (l1 := []) SN.out 0 _) 1 _⟩
          case rest =>
            clear S7 q0 q1 q2 q3 q4 q5
            obtain ⟨B, rfl, rfl, h⟩ := hcut
            have S9 := Lib.hid h
            clear h
            have hv := HV.out
            clear HV
            unfold ErrV at hv
            rcases hv with hv | hv
            · obtain ⟨rfl, rfl, rfl⟩ := hv
              go_wp2_with fail
              have SC := Lib.hid (S9.out.under (dn (Below.refl _ _) 1))
              clear S9
              have hS : wc.drew.cell? ⟨A, 0, none⟩ = some (.int .i64 0) ∧ wc.drew.cell? ⟨A, 1, none⟩ = some (.int .u64 va) ∧ wc.drew.cell? ⟨B, 0, none⟩ = some (.int .i64 0) ∧ wc.drew.cell? ⟨B, 1, none⟩ = some (.int .u64 va) := ⟨bk_cell SC.out.2.2.2.1 0, bk_cell SC.out.2.2.2.1 1, bk_cell SC.out.1 0, bk_cell SC.out.1 1⟩
              go_region_held3 (fun w' => w'.cell? ⟨A, 0, none⟩ = some (.int .i64 0) ∧ w'.cell? ⟨A, 1, none⟩ = some (.int .u64 va) ∧ w'.cell? ⟨B, 0, none⟩ = some (.int .i64 0) ∧ w'.cell? ⟨B, 1, none⟩ = some (.int .u64 va)) (exact hS) (first | (go_at_call 14; refine (code_nil _).mono ?_; rintro e1 wn ⟨rfl, hwn⟩; replace SC := Lib.hid (SC.out.under (W' := wn) (by rw [hwn]; exact Below.refl _ _)); clear hwn; have hS : wn.cell? ⟨A, 0, none⟩ = some (.int .i64 0) ∧ wn.cell? ⟨A, 1, none⟩ = some (.int .u64 va) ∧ wn.cell? ⟨B, 0, none⟩ = some (.int .i64 0) ∧ wn.cell? ⟨B, 1, none⟩ = some (.int .u64 va) := ⟨bk_cell SC.out.2.2.2.1 0, bk_cell SC.out.2.2.2.1 1, bk_cell SC.out.1 0, bk_cell SC.out.1 1⟩) | (go_at_call 15; refine (alike_any HH.out HN2.out _ (side_pair (l1 := [fixT B _, fixT A _, _, kernT K k']) SC.out SC.out.2.2.2.2.2.2.2.2.2.1)).mono ?_; rintro e1 wn ⟨rfl, hb⟩; replace SC := Lib.hid (SC.out.under hb); clear hb; have hS : wn.cell? ⟨A, 0, none⟩ = some (.int .i64 0) ∧ wn.cell? ⟨A, 1, none⟩ = some (.int .u64 va) ∧ wn.cell? ⟨B, 0, none⟩ = some (.int .i64 0) ∧ wn.cell? ⟨B, 1, none⟩ = some (.int .u64 va) := ⟨bk_cell SC.out.2.2.2.1 0, bk_cell SC.out.2.2.2.1 1, bk_cell SC.out.1 0, bk_cell SC.out.1 1⟩) | (go_at_call 16; refine (words_any HH.out _ (side_pair (l1 := [fixT B _, fixT A _, _, kernT K k']) SC.out SC.out.2.2.2.2.2.2.2.2.2.1)).mono ?_; rintro e1 wn ⟨rfl, hb⟩; replace SC := Lib.hid (SC.out.under hb); clear hb; have hS : wn.cell? ⟨A, 0, none⟩ = some (.int .i64 0) ∧ wn.cell? ⟨A, 1, none⟩ = some (.int .u64 va) ∧ wn.cell? ⟨B, 0, none⟩ = some (.int .i64 0) ∧ wn.cell? ⟨B, 1, none⟩ = some (.int .u64 va) := ⟨bk_cell SC.out.2.2.2.1 0, bk_cell SC.out.2.2.2.1 1, bk_cell SC.out.1 0, bk_cell SC.out.1 1⟩))
              all_goals
                go_wp2_with fail
                refine (first_miss .nilIface wn (asMiss_nil wn)).mono ?_
                rintro e1 w8 ⟨rfl, hb⟩
                replace SC := Lib.hid (SC.out.under hb)
                clear hb hS
                go_wp2_with fail
                go_quiet (fail)
                go_wp2_with fail
                go_roundw
                case rel => exact ⟨i + 1, k', S6, by go_num, by omega, by omega, HN2.out, (SC.out.under (dn (Below.refl _ _) _)).tail.tail.tail⟩
                case measure => simp [intOf]; omega
            · obtain ⟨her, b, t, rfl, ht, rfl⟩ := hv
              have he0 : (er == 0) = false := beq_eq_false_iff_ne.2 her
              clear her
              go_wp2_with fail
              have SC := Lib.hid (S9.out.under (dn (Below.refl _ _) 1))
              clear S9
              have hS : wc.drew.cell? ⟨A, 0, none⟩ = some (.int .i64 er) ∧ wc.drew.cell? ⟨A, 1, none⟩ = some (.int .u64 va) ∧ wc.drew.cell? ⟨B, 0, none⟩ = some (.int .i64 er) ∧ wc.drew.cell? ⟨B, 1, none⟩ = some (.int .u64 va) := ⟨bk_cell SC.out.2.2.2.1 0, bk_cell SC.out.2.2.2.1 1, bk_cell SC.out.1 0, bk_cell SC.out.1 1⟩
              go_region_held3 (fun w' => w'.cell? ⟨A, 0, none⟩ = some (.int .i64 er) ∧ w'.cell? ⟨A, 1, none⟩ = some (.int .u64 va) ∧ w'.cell? ⟨B, 0, none⟩ = some (.int .i64 er) ∧ w'.cell? ⟨B, 1, none⟩ = some (.int .u64 va)) (exact hS) (first | (go_at_call 14; refine (chain_code (HG.out _ SC.out.below) (err_chain ht SC.out.2.2.2.2.2.2.1).1).mono ?_; rintro e1 wn ⟨rfl, hb⟩; replace SC := Lib.hid (SC.out.under hb); clear hb; have hS : wn.cell? ⟨A, 0, none⟩ = some (.int .i64 er) ∧ wn.cell? ⟨A, 1, none⟩ = some (.int .u64 va) ∧ wn.cell? ⟨B, 0, none⟩ = some (.int .i64 er) ∧ wn.cell? ⟨B, 1, none⟩ = some (.int .u64 va) := ⟨bk_cell SC.out.2.2.2.1 0, bk_cell SC.out.2.2.2.1 1, bk_cell SC.out.1 0, bk_cell SC.out.1 1⟩) | (go_at_call 15; refine (alike_any HH.out HN2.out _ (side_pair (l1 := [fixT B _, fixT A _, _, kernT K k']) SC.out SC.out.2.2.2.2.2.2.2.2.2.1)).mono ?_; rintro e1 wn ⟨rfl, hb⟩; replace SC := Lib.hid (SC.out.under hb); clear hb; have hS : wn.cell? ⟨A, 0, none⟩ = some (.int .i64 er) ∧ wn.cell? ⟨A, 1, none⟩ = some (.int .u64 va) ∧ wn.cell? ⟨B, 0, none⟩ = some (.int .i64 er) ∧ wn.cell? ⟨B, 1, none⟩ = some (.int .u64 va) := ⟨bk_cell SC.out.2.2.2.1 0, bk_cell SC.out.2.2.2.1 1, bk_cell SC.out.1 0, bk_cell SC.out.1 1⟩) | (go_at_call 16; refine (words_any HH.out _ (side_pair (l1 := [fixT B _, fixT A _, _, kernT K k']) SC.out SC.out.2.2.2.2.2.2.2.2.2.1)).mono ?_; rintro e1 wn ⟨rfl, hb⟩; replace SC := Lib.hid (SC.out.under hb); clear hb; have hS : wn.cell? ⟨A, 0, none⟩ = some (.int .i64 er) ∧ wn.cell? ⟨A, 1, none⟩ = some (.int .u64 va) ∧ wn.cell? ⟨B, 0, none⟩ = some (.int .i64 er) ∧ wn.cell? ⟨B, 1, none⟩ = some (.int .u64 va) := ⟨bk_cell SC.out.2.2.2.1 0, bk_cell SC.out.2.2.2.1 1, bk_cell SC.out.1 0, bk_cell SC.out.1 1⟩))
              all_goals
                go_wp2_with fail
                refine (chain_first (HG.out _ SC.out.below) b).mono ?_
                rintro e1 w8 ⟨rfl, hb⟩
                replace SC := Lib.hid (SC.out.under hb)
                clear hb hS
                have hq := HQ.out.later SC.out.below
                have q0 := hq.env
                have q1 := hq.a0
                have q2 := hq.a1
                have q3 := hq.a2
                have q4 := hq.a3
                have q5 := hq.a4
                clear hq
                have kb := SC.out.2.2.2.2.2.2.1.1
                unfold trapO at kb
                have t1 := bk_cell kb 1
                have t2 := bk_cell kb 2
                have t3 := bk_cell kb 3
                have t4 := bk_cell kb 4
                have t5 := bk_cell kb 5
                have t6 := bk_cell kb 6
                have lb := bk_lt kb
                clear kb
                have hnc := fun W => neq_call x0 x1 x2 x3 x4 W
                go_wp2_with fail
                go_still_tail 35, (by kernel_rfl)
                change wpList _ _ _ _ _ w8.drew
                go_wp2_with fail
                have hz := SC.out.under (dn (Below.refl _ _) 1)
                have hcn := err_chain ht hz.2.2.2.2.2.2.1
                have hd := chain_depth (HG.out _ hz.below) hcn.1 hcn.2 (fun W _ => asMiss_nil W)
                rw [show ((1 + 1 : Nat) : Int) = 2 from rfl] at hd
                refine hd.mono ?_
                clear hd hcn hz
                rintro e1 w9 ⟨rfl, hb⟩
                have SE := Lib.hid ((SC.out.under (dn (Below.refl _ _) 1)).under hb)
                clear hb SC
                go_wp2_with fail
                go_roundw
                case rel => exact ⟨i + 1, k', S6, by go_num, by omega, by omega, HN2.out, SE.out.tail.tail.tail⟩
                case measure => simp [intOf]; omega
      all_goals
        first
          | (have i1 : ¬ (i : Int) < (len : Int) := by omega
             go_wp2_with fail)
          | (have i1 : (i : Int) < (len : Int) := by omega
             have i2 : ¬ (i : Int) < 80 := by omega
             go_wp2_with fail)
        go_ret
        exact ⟨rfl, S4.out.below⟩
  · have HS := Lib.hid hs
    clear hs
    go_wp2_with fail
    refine (HH.out.no_ c e f w1 HS.out).mono ?_
    rintro e1 w2 ⟨rfl, hb⟩
    have S2 := Lib.hid (S1.out.under hb)
    clear hb S1 z0 z1 z2 lz
    have k1 := S2.out.1
    have z0 := bk_cell k1 0
    have z1 := bk_cell k1 1
    have z2 := bk_cell k1 2
    have lz := bk_lt k1
    clear k1
    go_wp2_with fail
    refine (size_no c e f HS.out w2).mono ?_
    rintro e1 w3 ⟨rfl, hb⟩
    have S3 := Lib.hid (S2.out.under hb)
    clear hb
    go_wp2_with fail
    go_ret
    exact ⟨rfl, S3.out.below⟩
end Go.Proofs.YtdfhfmdelinemaaGreatDoor

