/- What is proved here: the walk of the statement WordEdge: it answers true and leaves the memory that was there as it was. Conditions: the statements' beginning does so in every later world. -/
import Derived.Test.YtfpnpgpelncgeaaGreatDoorEdgeMap
import Derived.Test.YtfpnpgpelncgeaaGreatDoorGParts
import Derived.Deep.RegionHeld3
import Derived.Deep.DeepCutAuto
import Derived.Carry
namespace Go.Proofs.YtfpnpgpelncgeaaGreatDoor
open Go.RowKit Go.Extern.Stop Go.Stop Go.Extern Go.ChangeMaps Go.MapKept

/-- What a drawn region keeps: the words of the call in block b, and the memory that was there. -/
def KB (w W : World) (b : Nat) (x0 x1 x2 x3 x4 : Value) : Prop := W.cell? ⟨b, 0, none⟩ = some x0 ∧ W.cell? ⟨b, 1, none⟩ = some x1 ∧ W.cell? ⟨b, 2, none⟩ = some x2 ∧ W.cell? ⟨b, 3, none⟩ = some x3 ∧ W.cell? ⟨b, 4, none⟩ = some x4 ∧ b < W.heap.size ∧ Below w.heap.size w W
theorem keepB {w W w1 : World} {b : Nat} {x0 x1 x2 x3 x4 : Value} (h : KB w W b x0 x1 x2 x3 x4) (hb : Below W.heap.size W w1) :
    w1.cell? ⟨b, 0, none⟩ = some x0 ∧ w1.cell? ⟨b, 1, none⟩ = some x1 ∧ w1.cell? ⟨b, 2, none⟩ = some x2 ∧ w1.cell? ⟨b, 3, none⟩ = some x3 ∧ w1.cell? ⟨b, 4, none⟩ = some x4 ∧ b < w1.heap.size ∧ Below w.heap.size w w1 := by
  obtain ⟨c0, c1, c2, c3, c4, hl, hB⟩ := h
  exact ⟨(hb.cell (p := ⟨b, 0, none⟩) hl).trans c0, (hb.cell (p := ⟨b, 1, none⟩) hl).trans c1, (hb.cell (p := ⟨b, 2, none⟩) hl).trans c2, (hb.cell (p := ⟨b, 3, none⟩) hl).trans c3, (hb.cell (p := ⟨b, 4, none⟩) hl).trans c4, Nat.lt_of_lt_of_le hl hb.size, bl_trans hB hb⟩
/-- A call at the edge lies in block g: its number, its words, each the greatest that may be. -/
def EdgeAt (W : World) (g : Nat) (k : Int) : Prop := ∃ y1 y2 y3 y4 : Int, W.heap[g]? = some (.cells #[.int .u64 k, .int .u64 y1, .int .u64 y2, .int .u64 y3, .int .u64 y4] 24 (0, 0)) ∧ chkN k y1 y2 y3 y4 4 = 0 ∧ (1 ≤ k ∧ k ≤ 23) ∧ (0 ≤ y1 ∧ y1 ≤ 15) ∧ (0 ≤ y2 ∧ y2 ≤ 15) ∧ (0 ≤ y3 ∧ y3 ≤ 15) ∧ (0 ≤ y4 ∧ y4 ≤ 15)
theorem kb_new {w w4 : World} (hB : Below w.heap.size w w4) (t : TypeId) (z0 z1 z2 z3 z4 : Value) : KB w (w4.alloc (.cells #[z0, z1, z2, z3, z4] t)) w4.heap.size z0 z1 z2 z3 z4 := by
  have h := heap_alloc_new w4 (.cells #[z0, z1, z2, z3, z4] t)
  exact ⟨bk_cell h 0, bk_cell h 1, bk_cell h 2, bk_cell h 3, bk_cell h 4, bk_lt h, hB.alloc hB.size _⟩
theorem edge_look (k : Int) (hk : k ∈ EdgeKinds) : ∃ y1 y2 y3 y4 : Int, (∀ (M : Nat) (W : World), W.heap[M]? = some (.map edgeMap13 13) → (Instr.lookup 107 (.map (some M)) (.int .i64 k) false).run Tryz.prog W = .ok (.agg #[.int .u64 k, .int .u64 y1, .int .u64 y2, .int .u64 y3, .int .u64 y4]) W) ∧
    chkN k y1 y2 y3 y4 4 = 0 ∧ (1 ≤ k ∧ k ≤ 23) ∧ (0 ≤ y1 ∧ y1 ≤ 15) ∧ (0 ≤ y2 ∧ y2 ≤ 15) ∧ (0 ≤ y3 ∧ y3 ≤ 15) ∧ (0 ≤ y4 ∧ y4 ≤ 15) := by
  obtain ⟨h0, h⟩ := edge_ok k hk
  refine ⟨_, _, _, _, fun M W hM => ?_, h⟩
  have e := edgeLook k hk M W hM
  unfold edgeV at e
  rw [h0] at e
  exact e
theorem edge_step {M c c' : Nat} {es es' : Array MapEntry} {w : World} {x : Result Unit} (hrun : x = .ok () (setBlock w M (.map es' c'))) (h : w.heap[M]? = some (.map es c)) :
    ∃ w', x = .ok () w' ∧ w'.heap[M]? = some (.map es' c') ∧ Below M w w' :=
  ⟨_, hrun, heap_setBlock_same h _, ⟨rfl, rfl, rfl, by simp [setBlock], fun i hi => heap_setBlock_other h _ (by omega)⟩⟩

theorem wpList_look (w : World) {ops : Array Oper} {rest : List Oper} {o : Oper} {a : Act} {Q : Exit → Act → World → Prop}
    (hg : o.guard = none) (t : TypeId) (m x : Operand) (hop : o.op = Op.lookup t m x false)
    (M : Nat) (key val : Value) (hm : a.eval m = .map (some M)) (hx : a.eval x = key)
    (hrun : (Instr.lookup t (.map (some M)) key false).run Tryz.prog w = .ok val w)
    (hK : wpList Tryz.prog ops Q rest (a.put o.dst val) w) :
    wpList Tryz.prog ops Q (o :: rest) a w := by
  refine wpList_plain hg fun K' hK' => ?_
  unfold Oper.wp
  simp [execOp, hop, hm, hx, hrun, Result.andThen]
  exact hK' _ _ hK

set_option maxRecDepth 100000 in
set_option maxHeartbeats 16000000 in
theorem wordEdge_walk (k0 a0 : Int) (over : Bool) (w : World) (hbeg : ∀ W, Below w.heap.size w W → BegunAt W) :
    Calls Tryz.prog 11 #[.int .i64 k0, .int .i64 a0, .bool over] w fun e w' => e = .returned (.bool true) ∧ Below w.heap.size w w' := by
  have HG := Lib.hid hbeg
  clear hbeg
  obtain ⟨mk, hk, hk13⟩ := pmod k0 13 (by omega) (by omega)
  obtain ⟨ma, ha, ha4⟩ := pmod a0 4 (by omega) (by omega)
  have hk : (wrap64 (k0.tmod 13 + 13)).tmod 13 = (mk : Int) := hk
  have ha : (wrap64 (a0.tmod 4 + 4)).tmod 4 = (ma : Int) := ha
  obtain ⟨mi, hmi⟩ : ∃ z : Int, z = (mk : Int) := ⟨_, rfl⟩
  rw [← hmi] at hk
  have hc : mi = 0 ∨ mi = 1 ∨ mi = 2 ∨ mi = 3 ∨ mi = 4 ∨ mi = 5 ∨ mi = 6 ∨ mi = 7 ∨ mi = 8 ∨ mi = 9 ∨ mi = 10 ∨ mi = 11 ∨ mi = 12 := by omega
  obtain ⟨mj, hmj⟩ : ∃ z : Int, z = (ma : Int) := ⟨_, rfl⟩
  rw [← hmj] at ha
  have hd : mj = 0 ∨ mj = 1 ∨ mj = 2 ∨ mj = 3 := by omega
  clear hmi hk13 hmj ha4
  have HD := Lib.hid hd
  have HC := Lib.hid hc
  have HK := Lib.hid hk
  clear hc hd hk
  go_enter Tryz.func11, Tryz.ntmps11
  go_wp2_with fail
  refine Calls.mono (HG.out _ (Below.refl _ _)) ?_
  rintro e w1 ⟨rfl, hb1⟩
  have B1 := Lib.hid hb1
  clear hb1 HG
  go_upto_region 4 with (fail)
  go_cut [0] (fun v W => ∃ k : Int, k ∈ EdgeKinds ∧ v = .int .i64 k ∧ Below w1.heap.size w1 W)
  case first =>
    clear B1 ha HD
    have hk := HK.out
    rcases HC.out with rfl | rfl | rfl | rfl | rfl | rfl | rfl | rfl | rfl | rfl | rfl | rfl | rfl
    all_goals
      clear HC HK
      go_wp2_with fail
      go_meet
      case rel =>
        refine ⟨_, ?_, rfl, (Below.refl _ _).alloc (Nat.le_refl _) _⟩
        decide
  case rest =>
  obtain ⟨k, hmem, rfl, hbc⟩ := hcut
  have B2 := Lib.hid (bl_trans B1.out hbc)
  clear hbc HK HC B1
  obtain ⟨w2, rfl⟩ : ∃ z, z = wc := ⟨_, rfl⟩
  have HM := Lib.hid hmem
  clear hmem
  go_upto_region 5 with (fail)
  go_cut [8] (fun v W => ∃ g : Nat, v = .pointer (some ⟨g, 0, none⟩) ∧ EdgeAt W g k ∧ Below w2.heap.size w2 W)
  case first =>
    clear B2 ha HD
    have hmk := run_makeMap (P := Tryz.prog) 107
    have EM0 : (w2.alloc (.map #[] 0)).heap[w2.heap.size]? = some (.map edgeMap0 0) := heap_alloc_new w2 _
    have BE0 : Hid (Below w2.heap.size w2 (w2.alloc (.map #[] 0))) := (Below.refl _ _).alloc (Nat.le_refl _) _
    obtain ⟨v1, hin0, EM1, hb0⟩ := edge_step (edgeIns0 _ _ EM0) EM0
    have BE1 := Lib.hid (BE0.out.trans hb0)
    clear EM0 hb0 BE0
    obtain ⟨v2, hin1, EM2, hb1⟩ := edge_step (edgeIns1 _ _ EM1) EM1
    have BE2 := Lib.hid (BE1.out.trans hb1)
    clear EM1 hb1 BE1
    obtain ⟨v3, hin2, EM3, hb2⟩ := edge_step (edgeIns2 _ _ EM2) EM2
    have BE3 := Lib.hid (BE2.out.trans hb2)
    clear EM2 hb2 BE2
    obtain ⟨v4, hin3, EM4, hb3⟩ := edge_step (edgeIns3 _ _ EM3) EM3
    have BE4 := Lib.hid (BE3.out.trans hb3)
    clear EM3 hb3 BE3
    obtain ⟨v5, hin4, EM5, hb4⟩ := edge_step (edgeIns4 _ _ EM4) EM4
    have BE5 := Lib.hid (BE4.out.trans hb4)
    clear EM4 hb4 BE4
    obtain ⟨v6, hin5, EM6, hb5⟩ := edge_step (edgeIns5 _ _ EM5) EM5
    have BE6 := Lib.hid (BE5.out.trans hb5)
    clear EM5 hb5 BE5
    obtain ⟨v7, hin6, EM7, hb6⟩ := edge_step (edgeIns6 _ _ EM6) EM6
    have BE7 := Lib.hid (BE6.out.trans hb6)
    clear EM6 hb6 BE6
    obtain ⟨v8, hin7, EM8, hb7⟩ := edge_step (edgeIns7 _ _ EM7) EM7
    have BE8 := Lib.hid (BE7.out.trans hb7)
    clear EM7 hb7 BE7
    obtain ⟨v9, hin8, EM9, hb8⟩ := edge_step (edgeIns8 _ _ EM8) EM8
    have BE9 := Lib.hid (BE8.out.trans hb8)
    clear EM8 hb8 BE8
    obtain ⟨v10, hin9, EM10, hb9⟩ := edge_step (edgeIns9 _ _ EM9) EM9
    have BE10 := Lib.hid (BE9.out.trans hb9)
    clear EM9 hb9 BE9
    obtain ⟨v11, hin10, EM11, hb10⟩ := edge_step (edgeIns10 _ _ EM10) EM10
    have BE11 := Lib.hid (BE10.out.trans hb10)
    clear EM10 hb10 BE10
    obtain ⟨v12, hin11, EM12, hb11⟩ := edge_step (edgeIns11 _ _ EM11) EM11
    have BE12 := Lib.hid (BE11.out.trans hb11)
    clear EM11 hb11 BE11
    obtain ⟨v13, hin12, EM13, hb12⟩ := edge_step (edgeIns12 _ _ EM12) EM12
    have BE13 := Lib.hid (BE12.out.trans hb12)
    clear EM12 hb12 BE12
    obtain ⟨y1, y2, y3, y4, hl, hok⟩ := edge_look k HM.out
    have hlook := hl _ _ EM13
    have HOK := Lib.hid hok
    clear EM13 hl hok
    go_wp2_with fail
    go_meet
    case rel => exact ⟨_, rfl, ⟨y1, y2, y3, y4, heap_alloc_new _ _, HOK.out⟩, BE13.out.alloc BE13.out.size _⟩
  case rest =>
  obtain ⟨g, rfl, ⟨y1, y2, y3, y4, hE, hchk, ⟨k1, k2⟩, ⟨p1, q1⟩, ⟨p2, q2⟩, ⟨p3, q3⟩, p4, q4⟩, hbc⟩ := hcut
  have B3 := Lib.hid (bl_trans B2.out hbc)
  have K3 := Lib.hid hE
  clear hbc hE B2
  have HC1 := fun W => Check_any k y1 y2 y3 y4 4 ⟨⟨by omega, by omega⟩, ⟨by omega, by omega⟩, ⟨by omega, by omega⟩, ⟨by omega, by omega⟩, by omega, by omega⟩ ⟨by omega, by omega⟩ W
  rw [hchk] at HC1
  have HC := Lib.hid HC1
  clear HC1 hchk
  have c0 := bk_cell K3.out 0
  have c1 := bk_cell K3.out 1
  have c2 := bk_cell K3.out 2
  have c3 := bk_cell K3.out 3
  have c4 := bk_cell K3.out 4
  go_wp2_with fail
  refine (HC.out _).mono ?_
  rintro e w4 ⟨rfl, hb4⟩
  have B4 := Lib.hid (bl_trans B3.out hb4)
  have K4 := Lib.hid (bk_below K3.out hb4)
  clear hb4 c0 c1 c2 c3 c4 B3 K3 HC HM
  have c0 := bk_cell K4.out 0
  have c1 := bk_cell K4.out 1
  have c2 := bk_cell K4.out 2
  have c3 := bk_cell K4.out 3
  have c4 := bk_cell K4.out 4
  have lt4 := bk_lt K4.out
  rcases HD.out with rfl | rfl | rfl | rfl
  · clear HD
    cases over
    · have hS := kb_new B4.out 24 (.int .u64 k) (.int .u64 0) (.int .u64 y2) (.int .u64 y3) (.int .u64 y4)
      have HX := Lib.hid (fun W => Check_any k 0 y2 y3 y4 4 ⟨⟨by omega, by omega⟩, ⟨by omega, by omega⟩, ⟨by omega, by omega⟩, ⟨by omega, by omega⟩, by omega, by omega⟩ ⟨by omega, by omega⟩ W)
      have HY := Lib.hid (fun W => ref_Check_any k 0 y2 y3 y4 4 ⟨⟨by omega, by omega⟩, ⟨by omega, by omega⟩, ⟨by omega, by omega⟩, ⟨by omega, by omega⟩, by omega, by omega⟩ ⟨by omega, by omega⟩ W)
      have HS := Lib.hid hS
      clear hS
      go_wp2_with fail
      clear c0 c1 c2 c3 c4
      have hS := HS.out
      unfold KB at hS
      go_region_held3 (fun w' => w'.cell? ⟨w4.heap.size, 0, none⟩ = some (.int .u64 k) ∧ w'.cell? ⟨w4.heap.size, 1, none⟩ = some (.int .u64 0) ∧ w'.cell? ⟨w4.heap.size, 2, none⟩ = some (.int .u64 y2) ∧ w'.cell? ⟨w4.heap.size, 3, none⟩ = some (.int .u64 y3) ∧ w'.cell? ⟨w4.heap.size, 4, none⟩ = some (.int .u64 y4) ∧ w4.heap.size < w'.heap.size ∧ Below w.heap.size w w')
        (first | exact hS | (exact ⟨hS.1, hS.2.1, hS.2.2.1, hS.2.2.2.1, hS.2.2.2.2.1, hS.2.2.2.2.2.1, hS.2.2.2.2.2.2.drew⟩))
        (first
          | (go_at_call 24; refine (HX.out _).mono ?_; rintro e wn ⟨rfl, hb⟩; have hS := keepB (w := w) (b := w4.heap.size) (x0 := .int .u64 k) (x1 := .int .u64 0) (x2 := .int .u64 y2) (x3 := .int .u64 y3) (x4 := .int .u64 y4) (by unfold KB; assumption) hb; clear hb)
          | (go_at_call 25; refine (HY.out _).mono ?_; rintro e wn ⟨rfl, hb⟩; have hS := keepB (w := w) (b := w4.heap.size) (x0 := .int .u64 k) (x1 := .int .u64 0) (x2 := .int .u64 y2) (x3 := .int .u64 y3) (x4 := .int .u64 y4) (by unfold KB; assumption) hb; clear hb))
      all_goals
        go_wp2_with fail
        go_ret
        exact ⟨rfl, hS.2.2.2.2.2.2⟩
    · have hS := kb_new B4.out 24 (.int .u64 k) (.int .u64 (y1 + 1)) (.int .u64 y2) (.int .u64 y3) (.int .u64 y4)
      have HX := Lib.hid (fun W => Check_any k (y1 + 1) y2 y3 y4 4 ⟨⟨by omega, by omega⟩, ⟨by omega, by omega⟩, ⟨by omega, by omega⟩, ⟨by omega, by omega⟩, by omega, by omega⟩ ⟨by omega, by omega⟩ W)
      have HY := Lib.hid (fun W => ref_Check_any k (y1 + 1) y2 y3 y4 4 ⟨⟨by omega, by omega⟩, ⟨by omega, by omega⟩, ⟨by omega, by omega⟩, ⟨by omega, by omega⟩, by omega, by omega⟩ ⟨by omega, by omega⟩ W)
      have HS := Lib.hid hS
      clear hS
      go_wp2_with fail
      clear c0 c1 c2 c3 c4
      have hS := HS.out
      unfold KB at hS
      go_region_held3 (fun w' => w'.cell? ⟨w4.heap.size, 0, none⟩ = some (.int .u64 k) ∧ w'.cell? ⟨w4.heap.size, 1, none⟩ = some (.int .u64 (y1 + 1)) ∧ w'.cell? ⟨w4.heap.size, 2, none⟩ = some (.int .u64 y2) ∧ w'.cell? ⟨w4.heap.size, 3, none⟩ = some (.int .u64 y3) ∧ w'.cell? ⟨w4.heap.size, 4, none⟩ = some (.int .u64 y4) ∧ w4.heap.size < w'.heap.size ∧ Below w.heap.size w w')
        (first | exact hS | (exact ⟨hS.1, hS.2.1, hS.2.2.1, hS.2.2.2.1, hS.2.2.2.2.1, hS.2.2.2.2.2.1, hS.2.2.2.2.2.2.drew⟩))
        (first
          | (go_at_call 24; refine (HX.out _).mono ?_; rintro e wn ⟨rfl, hb⟩; have hS := keepB (w := w) (b := w4.heap.size) (x0 := .int .u64 k) (x1 := .int .u64 (y1 + 1)) (x2 := .int .u64 y2) (x3 := .int .u64 y3) (x4 := .int .u64 y4) (by unfold KB; assumption) hb; clear hb)
          | (go_at_call 25; refine (HY.out _).mono ?_; rintro e wn ⟨rfl, hb⟩; have hS := keepB (w := w) (b := w4.heap.size) (x0 := .int .u64 k) (x1 := .int .u64 (y1 + 1)) (x2 := .int .u64 y2) (x3 := .int .u64 y3) (x4 := .int .u64 y4) (by unfold KB; assumption) hb; clear hb))
      all_goals
        go_wp2_with fail
        go_ret
        exact ⟨rfl, hS.2.2.2.2.2.2⟩
  · clear HD
    cases over
    · have hS := kb_new B4.out 24 (.int .u64 k) (.int .u64 y1) (.int .u64 0) (.int .u64 y3) (.int .u64 y4)
      have HX := Lib.hid (fun W => Check_any k y1 0 y3 y4 4 ⟨⟨by omega, by omega⟩, ⟨by omega, by omega⟩, ⟨by omega, by omega⟩, ⟨by omega, by omega⟩, by omega, by omega⟩ ⟨by omega, by omega⟩ W)
      have HY := Lib.hid (fun W => ref_Check_any k y1 0 y3 y4 4 ⟨⟨by omega, by omega⟩, ⟨by omega, by omega⟩, ⟨by omega, by omega⟩, ⟨by omega, by omega⟩, by omega, by omega⟩ ⟨by omega, by omega⟩ W)
      have HS := Lib.hid hS
      clear hS
      go_wp2_with fail
      clear c0 c1 c2 c3 c4
      have hS := HS.out
      unfold KB at hS
      go_region_held3 (fun w' => w'.cell? ⟨w4.heap.size, 0, none⟩ = some (.int .u64 k) ∧ w'.cell? ⟨w4.heap.size, 1, none⟩ = some (.int .u64 y1) ∧ w'.cell? ⟨w4.heap.size, 2, none⟩ = some (.int .u64 0) ∧ w'.cell? ⟨w4.heap.size, 3, none⟩ = some (.int .u64 y3) ∧ w'.cell? ⟨w4.heap.size, 4, none⟩ = some (.int .u64 y4) ∧ w4.heap.size < w'.heap.size ∧ Below w.heap.size w w')
        (first | exact hS | (exact ⟨hS.1, hS.2.1, hS.2.2.1, hS.2.2.2.1, hS.2.2.2.2.1, hS.2.2.2.2.2.1, hS.2.2.2.2.2.2.drew⟩))
        (first
          | (go_at_call 24; refine (HX.out _).mono ?_; rintro e wn ⟨rfl, hb⟩; have hS := keepB (w := w) (b := w4.heap.size) (x0 := .int .u64 k) (x1 := .int .u64 y1) (x2 := .int .u64 0) (x3 := .int .u64 y3) (x4 := .int .u64 y4) (by unfold KB; assumption) hb; clear hb)
          | (go_at_call 25; refine (HY.out _).mono ?_; rintro e wn ⟨rfl, hb⟩; have hS := keepB (w := w) (b := w4.heap.size) (x0 := .int .u64 k) (x1 := .int .u64 y1) (x2 := .int .u64 0) (x3 := .int .u64 y3) (x4 := .int .u64 y4) (by unfold KB; assumption) hb; clear hb))
      all_goals
        go_wp2_with fail
        go_ret
        exact ⟨rfl, hS.2.2.2.2.2.2⟩
    · have hS := kb_new B4.out 24 (.int .u64 k) (.int .u64 y1) (.int .u64 (y2 + 1)) (.int .u64 y3) (.int .u64 y4)
      have HX := Lib.hid (fun W => Check_any k y1 (y2 + 1) y3 y4 4 ⟨⟨by omega, by omega⟩, ⟨by omega, by omega⟩, ⟨by omega, by omega⟩, ⟨by omega, by omega⟩, by omega, by omega⟩ ⟨by omega, by omega⟩ W)
      have HY := Lib.hid (fun W => ref_Check_any k y1 (y2 + 1) y3 y4 4 ⟨⟨by omega, by omega⟩, ⟨by omega, by omega⟩, ⟨by omega, by omega⟩, ⟨by omega, by omega⟩, by omega, by omega⟩ ⟨by omega, by omega⟩ W)
      have HS := Lib.hid hS
      clear hS
      go_wp2_with fail
      clear c0 c1 c2 c3 c4
      have hS := HS.out
      unfold KB at hS
      go_region_held3 (fun w' => w'.cell? ⟨w4.heap.size, 0, none⟩ = some (.int .u64 k) ∧ w'.cell? ⟨w4.heap.size, 1, none⟩ = some (.int .u64 y1) ∧ w'.cell? ⟨w4.heap.size, 2, none⟩ = some (.int .u64 (y2 + 1)) ∧ w'.cell? ⟨w4.heap.size, 3, none⟩ = some (.int .u64 y3) ∧ w'.cell? ⟨w4.heap.size, 4, none⟩ = some (.int .u64 y4) ∧ w4.heap.size < w'.heap.size ∧ Below w.heap.size w w')
        (first | exact hS | (exact ⟨hS.1, hS.2.1, hS.2.2.1, hS.2.2.2.1, hS.2.2.2.2.1, hS.2.2.2.2.2.1, hS.2.2.2.2.2.2.drew⟩))
        (first
          | (go_at_call 24; refine (HX.out _).mono ?_; rintro e wn ⟨rfl, hb⟩; have hS := keepB (w := w) (b := w4.heap.size) (x0 := .int .u64 k) (x1 := .int .u64 y1) (x2 := .int .u64 (y2 + 1)) (x3 := .int .u64 y3) (x4 := .int .u64 y4) (by unfold KB; assumption) hb; clear hb)
          | (go_at_call 25; refine (HY.out _).mono ?_; rintro e wn ⟨rfl, hb⟩; have hS := keepB (w := w) (b := w4.heap.size) (x0 := .int .u64 k) (x1 := .int .u64 y1) (x2 := .int .u64 (y2 + 1)) (x3 := .int .u64 y3) (x4 := .int .u64 y4) (by unfold KB; assumption) hb; clear hb))
      all_goals
        go_wp2_with fail
        go_ret
        exact ⟨rfl, hS.2.2.2.2.2.2⟩
  · clear HD
    cases over
    · have hS := kb_new B4.out 24 (.int .u64 k) (.int .u64 y1) (.int .u64 y2) (.int .u64 0) (.int .u64 y4)
      have HX := Lib.hid (fun W => Check_any k y1 y2 0 y4 4 ⟨⟨by omega, by omega⟩, ⟨by omega, by omega⟩, ⟨by omega, by omega⟩, ⟨by omega, by omega⟩, by omega, by omega⟩ ⟨by omega, by omega⟩ W)
      have HY := Lib.hid (fun W => ref_Check_any k y1 y2 0 y4 4 ⟨⟨by omega, by omega⟩, ⟨by omega, by omega⟩, ⟨by omega, by omega⟩, ⟨by omega, by omega⟩, by omega, by omega⟩ ⟨by omega, by omega⟩ W)
      have HS := Lib.hid hS
      clear hS
      go_wp2_with fail
      clear c0 c1 c2 c3 c4
      have hS := HS.out
      unfold KB at hS
      go_region_held3 (fun w' => w'.cell? ⟨w4.heap.size, 0, none⟩ = some (.int .u64 k) ∧ w'.cell? ⟨w4.heap.size, 1, none⟩ = some (.int .u64 y1) ∧ w'.cell? ⟨w4.heap.size, 2, none⟩ = some (.int .u64 y2) ∧ w'.cell? ⟨w4.heap.size, 3, none⟩ = some (.int .u64 0) ∧ w'.cell? ⟨w4.heap.size, 4, none⟩ = some (.int .u64 y4) ∧ w4.heap.size < w'.heap.size ∧ Below w.heap.size w w')
        (first | exact hS | (exact ⟨hS.1, hS.2.1, hS.2.2.1, hS.2.2.2.1, hS.2.2.2.2.1, hS.2.2.2.2.2.1, hS.2.2.2.2.2.2.drew⟩))
        (first
          | (go_at_call 24; refine (HX.out _).mono ?_; rintro e wn ⟨rfl, hb⟩; have hS := keepB (w := w) (b := w4.heap.size) (x0 := .int .u64 k) (x1 := .int .u64 y1) (x2 := .int .u64 y2) (x3 := .int .u64 0) (x4 := .int .u64 y4) (by unfold KB; assumption) hb; clear hb)
          | (go_at_call 25; refine (HY.out _).mono ?_; rintro e wn ⟨rfl, hb⟩; have hS := keepB (w := w) (b := w4.heap.size) (x0 := .int .u64 k) (x1 := .int .u64 y1) (x2 := .int .u64 y2) (x3 := .int .u64 0) (x4 := .int .u64 y4) (by unfold KB; assumption) hb; clear hb))
      all_goals
        go_wp2_with fail
        go_ret
        exact ⟨rfl, hS.2.2.2.2.2.2⟩
    · have hS := kb_new B4.out 24 (.int .u64 k) (.int .u64 y1) (.int .u64 y2) (.int .u64 (y3 + 1)) (.int .u64 y4)
      have HX := Lib.hid (fun W => Check_any k y1 y2 (y3 + 1) y4 4 ⟨⟨by omega, by omega⟩, ⟨by omega, by omega⟩, ⟨by omega, by omega⟩, ⟨by omega, by omega⟩, by omega, by omega⟩ ⟨by omega, by omega⟩ W)
      have HY := Lib.hid (fun W => ref_Check_any k y1 y2 (y3 + 1) y4 4 ⟨⟨by omega, by omega⟩, ⟨by omega, by omega⟩, ⟨by omega, by omega⟩, ⟨by omega, by omega⟩, by omega, by omega⟩ ⟨by omega, by omega⟩ W)
      have HS := Lib.hid hS
      clear hS
      go_wp2_with fail
      clear c0 c1 c2 c3 c4
      have hS := HS.out
      unfold KB at hS
      go_region_held3 (fun w' => w'.cell? ⟨w4.heap.size, 0, none⟩ = some (.int .u64 k) ∧ w'.cell? ⟨w4.heap.size, 1, none⟩ = some (.int .u64 y1) ∧ w'.cell? ⟨w4.heap.size, 2, none⟩ = some (.int .u64 y2) ∧ w'.cell? ⟨w4.heap.size, 3, none⟩ = some (.int .u64 (y3 + 1)) ∧ w'.cell? ⟨w4.heap.size, 4, none⟩ = some (.int .u64 y4) ∧ w4.heap.size < w'.heap.size ∧ Below w.heap.size w w')
        (first | exact hS | (exact ⟨hS.1, hS.2.1, hS.2.2.1, hS.2.2.2.1, hS.2.2.2.2.1, hS.2.2.2.2.2.1, hS.2.2.2.2.2.2.drew⟩))
        (first
          | (go_at_call 24; refine (HX.out _).mono ?_; rintro e wn ⟨rfl, hb⟩; have hS := keepB (w := w) (b := w4.heap.size) (x0 := .int .u64 k) (x1 := .int .u64 y1) (x2 := .int .u64 y2) (x3 := .int .u64 (y3 + 1)) (x4 := .int .u64 y4) (by unfold KB; assumption) hb; clear hb)
          | (go_at_call 25; refine (HY.out _).mono ?_; rintro e wn ⟨rfl, hb⟩; have hS := keepB (w := w) (b := w4.heap.size) (x0 := .int .u64 k) (x1 := .int .u64 y1) (x2 := .int .u64 y2) (x3 := .int .u64 (y3 + 1)) (x4 := .int .u64 y4) (by unfold KB; assumption) hb; clear hb))
      all_goals
        go_wp2_with fail
        go_ret
        exact ⟨rfl, hS.2.2.2.2.2.2⟩
  · clear HD
    cases over
    · have hS := kb_new B4.out 24 (.int .u64 k) (.int .u64 y1) (.int .u64 y2) (.int .u64 y3) (.int .u64 0)
      have HX := Lib.hid (fun W => Check_any k y1 y2 y3 0 4 ⟨⟨by omega, by omega⟩, ⟨by omega, by omega⟩, ⟨by omega, by omega⟩, ⟨by omega, by omega⟩, by omega, by omega⟩ ⟨by omega, by omega⟩ W)
      have HY := Lib.hid (fun W => ref_Check_any k y1 y2 y3 0 4 ⟨⟨by omega, by omega⟩, ⟨by omega, by omega⟩, ⟨by omega, by omega⟩, ⟨by omega, by omega⟩, by omega, by omega⟩ ⟨by omega, by omega⟩ W)
      have HS := Lib.hid hS
      clear hS
      go_wp2_with fail
      clear c0 c1 c2 c3 c4
      have hS := HS.out
      unfold KB at hS
      go_region_held3 (fun w' => w'.cell? ⟨w4.heap.size, 0, none⟩ = some (.int .u64 k) ∧ w'.cell? ⟨w4.heap.size, 1, none⟩ = some (.int .u64 y1) ∧ w'.cell? ⟨w4.heap.size, 2, none⟩ = some (.int .u64 y2) ∧ w'.cell? ⟨w4.heap.size, 3, none⟩ = some (.int .u64 y3) ∧ w'.cell? ⟨w4.heap.size, 4, none⟩ = some (.int .u64 0) ∧ w4.heap.size < w'.heap.size ∧ Below w.heap.size w w')
        (first | exact hS | (exact ⟨hS.1, hS.2.1, hS.2.2.1, hS.2.2.2.1, hS.2.2.2.2.1, hS.2.2.2.2.2.1, hS.2.2.2.2.2.2.drew⟩))
        (first
          | (go_at_call 24; refine (HX.out _).mono ?_; rintro e wn ⟨rfl, hb⟩; have hS := keepB (w := w) (b := w4.heap.size) (x0 := .int .u64 k) (x1 := .int .u64 y1) (x2 := .int .u64 y2) (x3 := .int .u64 y3) (x4 := .int .u64 0) (by unfold KB; assumption) hb; clear hb)
          | (go_at_call 25; refine (HY.out _).mono ?_; rintro e wn ⟨rfl, hb⟩; have hS := keepB (w := w) (b := w4.heap.size) (x0 := .int .u64 k) (x1 := .int .u64 y1) (x2 := .int .u64 y2) (x3 := .int .u64 y3) (x4 := .int .u64 0) (by unfold KB; assumption) hb; clear hb))
      all_goals
        go_wp2_with fail
        go_ret
        exact ⟨rfl, hS.2.2.2.2.2.2⟩
    · have hS := kb_new B4.out 24 (.int .u64 k) (.int .u64 y1) (.int .u64 y2) (.int .u64 y3) (.int .u64 (y4 + 1))
      have HX := Lib.hid (fun W => Check_any k y1 y2 y3 (y4 + 1) 4 ⟨⟨by omega, by omega⟩, ⟨by omega, by omega⟩, ⟨by omega, by omega⟩, ⟨by omega, by omega⟩, by omega, by omega⟩ ⟨by omega, by omega⟩ W)
      have HY := Lib.hid (fun W => ref_Check_any k y1 y2 y3 (y4 + 1) 4 ⟨⟨by omega, by omega⟩, ⟨by omega, by omega⟩, ⟨by omega, by omega⟩, ⟨by omega, by omega⟩, by omega, by omega⟩ ⟨by omega, by omega⟩ W)
      have HS := Lib.hid hS
      clear hS
      go_wp2_with fail
      clear c0 c1 c2 c3 c4
      have hS := HS.out
      unfold KB at hS
      go_region_held3 (fun w' => w'.cell? ⟨w4.heap.size, 0, none⟩ = some (.int .u64 k) ∧ w'.cell? ⟨w4.heap.size, 1, none⟩ = some (.int .u64 y1) ∧ w'.cell? ⟨w4.heap.size, 2, none⟩ = some (.int .u64 y2) ∧ w'.cell? ⟨w4.heap.size, 3, none⟩ = some (.int .u64 y3) ∧ w'.cell? ⟨w4.heap.size, 4, none⟩ = some (.int .u64 (y4 + 1)) ∧ w4.heap.size < w'.heap.size ∧ Below w.heap.size w w')
        (first | exact hS | (exact ⟨hS.1, hS.2.1, hS.2.2.1, hS.2.2.2.1, hS.2.2.2.2.1, hS.2.2.2.2.2.1, hS.2.2.2.2.2.2.drew⟩))
        (first
          | (go_at_call 24; refine (HX.out _).mono ?_; rintro e wn ⟨rfl, hb⟩; have hS := keepB (w := w) (b := w4.heap.size) (x0 := .int .u64 k) (x1 := .int .u64 y1) (x2 := .int .u64 y2) (x3 := .int .u64 y3) (x4 := .int .u64 (y4 + 1)) (by unfold KB; assumption) hb; clear hb)
          | (go_at_call 25; refine (HY.out _).mono ?_; rintro e wn ⟨rfl, hb⟩; have hS := keepB (w := w) (b := w4.heap.size) (x0 := .int .u64 k) (x1 := .int .u64 y1) (x2 := .int .u64 y2) (x3 := .int .u64 y3) (x4 := .int .u64 (y4 + 1)) (by unfold KB; assumption) hb; clear hb))
      all_goals
        go_wp2_with fail
        go_ret
        exact ⟨rfl, hS.2.2.2.2.2.2⟩
end Go.Proofs.YtfpnpgpelncgeaaGreatDoor
