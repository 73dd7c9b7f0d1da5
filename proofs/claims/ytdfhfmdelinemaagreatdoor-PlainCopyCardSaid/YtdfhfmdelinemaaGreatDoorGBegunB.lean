/- What is proved here: the beginning of the statements of messuagelaw11. Conditions: those that each theorem names. -/
import Derived.Test.YtdfhfmdelinemaaGreatDoorGTree
import Derived.Test.YtdfhfmdelinemaaGreatDoorGKer
import Derived.Test.YtdfhfmdelinemaaGreatDoorGWord
import Derived.Test.YtdfhfmdelinemaaGreatDoorGPlC
import Derived.Test.YtdfhfmdelinemaaGreatDoorGBegun
import Derived.Test.YtdfhfmdelinemaaGreatDoorGEpoch
import Derived.Test.YtdfhfmdelinemaaGreatDoorGUser
import Derived.Test.YtdfhfmdelinemaaGreatDoorGPlF
import Derived.Test.YtdfhfmdelinemaaGreatDoorGTreeE
import Derived.Test.YtdfhfmdelinemaaGreatDoorGEpochB
import Derived.Test.YtdfhfmdelinemaaGreatDoorUserD
namespace Go.Proofs.YtdfhfmdelinemaaGreatDoor
open Go.RowKit Go.Extern.Stop Go.Stop Go.Extern Go.WalkArith
structure PredC : Prop where
 holds_ : ∀ (op a b : Int) (w : World), Calls Tryz.prog 40 #[.int .i64 op, .int .u64 a, .int .u64 b] w fun x w' => x = .returned (.bool (holdsB op a b)) ∧ Below w.heap.size w w'
end Go.Proofs.YtdfhfmdelinemaaGreatDoor
namespace Go.Proofs.YtdfhfmdelinemaaGreatDoor
open Go.RowKit Go.Extern.Stop Go.Stop Go.Extern Go.WalkArith
theorem pred_same {w w' : World} (h : w = w') : Below w.heap.size w w' := h ▸ Below.refl _ _
theorem pred_keeps : PredC :=
 ⟨fun op a b w => (pholds_any op a b w).mono fun _ _ h => ⟨h.1, pred_same h.2⟩⟩
end Go.Proofs.YtdfhfmdelinemaaGreatDoor
namespace Go.Proofs.YtdfhfmdelinemaaGreatDoor
open Go.RowKit Go.Extern.Stop Go.Stop Go.Extern Go.WalkArith
def b4K0 : KernS := newK 1 2 2
def b4K1 : KernS := (kdo b4K0 0 1 1 0 0 0).1
def b4K2 : KernS := (kdo b4K1 0 6 2 1 3 0).1
def b4K3 : KernS := (kdo b4K2 0 21 2 5 77 0).1
theorem b4_alloc : kdo b4K0 0 1 1 0 0 0 = (b4K1, 0, 0, true) := by kernel_rfl
theorem b4_map : kdo b4K1 0 6 2 1 3 0 = (b4K2, 0, 0, true) := by kernel_rfl
theorem b4_store : kdo b4K2 0 21 2 5 77 0 = (b4K3, 0, 0, true) := by kernel_rfl
theorem b4_load : kdo b4K3 0 20 2 5 0 0 = (b4K3, 0, 77, true) := by kernel_rfl
theorem b4_err : kdo b4K3 0 7 5 0 0 0 = (b4K3, 3, 0, true) := by kernel_rfl
theorem b4_free : (freeK b4K3 b4K3.frames.toNat).length = 1 := by decide +kernel
def b4T : KernS := tderS (rootS (newK 1 2 16) 0 1 1) 0 1 1 3 1
theorem b4_root : rootE (newK 1 2 16) 0 1 1 = 0 := by decide +kernel
theorem b4_derive : tderE (rootS (newK 1 2 16) 0 1 1) 0 1 1 3 1 = 0 := by decide +kernel
theorem b4_below : (tbelowL b4T 0 1).length = 1 := by decide +kernel
def b4E : EpS := ((newE 3).begin_ 0).ack 1 1
theorem b4_done : doneB b4E 1 = false ∧ (waitsL b4E 1).length = 1 := by decide
def b4G : Nat → Int := putG (fun _ => 0) 2 1 1 1
def b4B : Nat → Int := fillG (fun _ => 0) (old (fun _ => 0) ((2 : Int) % 4).toNat) 0 2 1 1
theorem b4_walk : walkS (fun _ => 0) b4G 0 2 20 = (b4B, (0, 2, 1, 1), true) :=
 walk_fill (e := 0) (p := 2) (f := 1) (r := 1) (fun j _ => zero_no 0 2 j) (by decide) (by decide) (by decide) (by decide)
theorem b4_words (x0 x1 x2 x3 x4 : Nat) (h : x0 < 100 ∧ x1 < 100 ∧ x2 < 100 ∧ x3 < 100 ∧ x4 < 100) : wordsIn (x0 : Int) (x1 : Int) (x2 : Int) (x3 : Int) (x4 : Int) := by unfold wordsIn; omega
theorem begun_two (w : World) (h : BegunAt w) : Calls Tryz.prog 36 #[] w fun e w' => e = .returned (.bool true) ∧ Below w.heap.size w w' := by
 have HH := Lib.hid h
 clear h
 go_enter Tryz.func36, Tryz.ntmps36
 go_wp2_with fail
 refine HH.out.mono ?_
 rintro e w1 ⟨rfl, hb⟩
 go_wp2_with fail
 go_ret
 exact ⟨rfl, hb⟩
section
variable {AtP : World → (Nat → Prop) → Nat → KernS → Prop} {AtT : World → (Nat → Prop) → Nat → KernS → Prop} {AtE : World → (Nat → Prop) → Nat → EpS → Prop}
variable {w W : World} {S : Nat → Prop} {P : Nat} {k k' : KernS} {l1 l2 : List Thing}
theorem b4_do (H : PlainC AtP) {x0 x1 x2 x3 x4 e v : Int} (l1 : List Thing) (h : Side w W (l1 ++ plainT H S P k :: l2)) (hx : wordsIn x0 x1 x2 x3 x4) (hk : kdo k 0 x0 x1 x2 x3 x4 = (k', e, v, true)) :
  Calls Tryz.prog 12 #[.pointer (some ⟨P, 0, none⟩), .int .i64 0, callV x0 x1 x2 x3 x4] W fun x W' => ∃ S', x = .returned (.tuple #[.agg #[.int .i64 e, .int .u64 v], .bool true]) ∧ Side w W' (l1 ++ plainT H S' P k' :: l2) := by
 have hc := H.do_ P S k 0 x0 x1 x2 x3 x4 W (Side.at l1 h) hx
 rw [hk] at hc
 refine hc.mono ?_
 rintro x W' ⟨S', rfl, h4, h5, h6⟩
 exact ⟨S', rfl, Side.step (o := plainT H S P k) (plainT H S' P k') h4 h5 h6 l1 h⟩
theorem b4_errs (H : PlainC AtP) {x0 x1 x2 x3 x4 e v : Int} (l1 : List Thing) (h : Side w W (l1 ++ plainT H S P k :: l2)) (hx : wordsIn x0 x1 x2 x3 x4) (hg : Held W) (hk : kdo k 0 x0 x1 x2 x3 x4 = (k', e, v, true)) (he : e ≠ 0) :
  Calls Tryz.prog 11 #[.pointer (some ⟨P, 0, none⟩), .int .i64 0, callV x0 x1 x2 x3 x4] W fun x W' => (∃ b, x = .returned (ptrErr b) ∧ Chain W' e .nilIface 2 (b + 1) (ptrErr b) ∧ b < W'.heap.size) ∧ Side w W' (l1 ++ plainT H S P k :: l2) := by
 have hc := H.err_ P S k 0 x0 x1 x2 x3 x4 W (Side.at l1 h) hx hg
 rw [hk] at hc
 refine hc.mono ?_
 rintro x W' ⟨u, rfl, h4 | h4, hb⟩
 ·exact absurd h4.1 he
 ·obtain ⟨b, t, rfl, h5, h6, h7, h8⟩ := h4.2
  exact ⟨⟨b, rfl, ⟨b, 0, _, _, _, _, _, _, rfl, Nat.lt_succ_self _, h7, t, -1, _, _, _, _, _, _, rfl, h6, h8, rfl⟩, bk_lt h7⟩, h.under hb⟩
theorem b4_step {o : Thing} (o' : Thing) {W' : World} (l1 : List Thing) (h : Side w W (l1 ++ o :: l2)) (hp : o'.P W') (hn : ∀ i, o'.S i → o.S i ∨ W.heap.size ≤ i) (ho : Only o.S W W') : Side w W' (l1 ++ o' :: l2) := Side.step o' hp hn ho l1 h
end
set_option maxRecDepth 100000 in
set_option maxHeartbeats 8000000 in
theorem begun11 {AtP : World → (Nat → Prop) → Nat → KernS → Prop} {AtT : World → (Nat → Prop) → Nat → KernS → Prop} {AtE : World → (Nat → Prop) → Nat → EpS → Prop}
  (HP : PlainC AtP) (HT : TreeC AtT) (HE : EpochC AtE) (HR : PredC) (HU : UserC) (w : World) (hg : Held w) : BegunAt11 w := by
 unfold BegunAt11
 have GP := Lib.hid HP
 have GT := Lib.hid HT
 have GE := Lib.hid HE
 have GR := Lib.hid HR
 have GU := Lib.hid HU
 have HG : Hid (∀ W, Below w.heap.size w W → Held W) := fun W hW => hg.below hW hg.pos
 have S0 := Lib.hid (Side.start w)
 clear hg
 go_enter Tryz.func7, Tryz.ntmps7
 go_wp2_with fail
 refine (HP.new_ 1 2 2 w ⟨by omega, by omega, by omega⟩).mono ?_
 rintro x w1 ⟨P, SP, rfl, h1, h2, hb⟩
 have S1 := Lib.hid (S0.out.make hb (plainT HP SP P b4K0) h1 h2)
 clear hb h1 h2 S0
 go_wp2_with fail
 refine (HT.new_ 2 w1 ⟨by omega, by omega⟩).mono ?_
 rintro x w2 ⟨T, ST, rfl, h1, h2, hb⟩
 have S2 := Lib.hid (S1.out.make hb (treeT HT ST T (newK 1 2 16)) h1 h2)
 clear hb h1 h2 S1
 go_wp2_with fail
 refine (HE.new_ 3 w2 (by omega) (by omega)).mono ?_
 rintro x w3 ⟨E, SE, rfl, h1, h2, hb⟩
 have S3 := Lib.hid (S2.out.make hb (epT HE SE E (newE 3)) h1 h2)
 clear hb h1 h2 S2
 go_wp2_with fail
 refine (tlb_new w3).mono ?_
 rintro x w4 ⟨rfl, hb2, hn2⟩
 obtain ⟨B, hB⟩ : ∃ B, B = w3.heap.size := ⟨_, rfl⟩
 rw [← hB] at hn2 ⊢
 have tT : Hid (w3.heap.size ≤ B ∧ B < w4.heap.size) := ⟨by omega, hn2.2.2⟩
 have N2 := Lib.hid (And.intro hb2 hn2)
 clear hB hb2 hn2
 go_wp2_with fail
 refine (tab_new w4).mono ?_
 rintro x w5 ⟨rfl, hb3, ht3⟩
 obtain ⟨U, hU⟩ : ∃ U, U = w4.heap.size := ⟨_, rfl⟩
 rw [← hU] at ht3 ⊢
 have tU : Hid (w4.heap.size ≤ U ∧ U < w5.heap.size) := ⟨by omega, ht3.2.2⟩
 have N3 := Lib.hid (And.intro hb3 ht3)
 clear hU hb3 ht3
 go_wp2_with fail
 refine (mem_new2 w5).mono ?_
 rintro x w6 ⟨rfl, hb4, hm4⟩
 obtain ⟨F, hF⟩ : ∃ F, F = w5.heap.size := ⟨_, rfl⟩
 rw [← hF] at hm4 ⊢
 obtain ⟨M, hM⟩ : ∃ M, M = F + 1 := ⟨_, rfl⟩
 rw [← hM] at hm4 ⊢
 have tM : Hid (w5.heap.size ≤ F ∧ F < M) := ⟨by omega, by omega⟩
 have N4 := Lib.hid (And.intro hb4 hm4)
 clear hM hF hb4 hm4
 have S6 : Hid (Side w w6 (userT B U M F 2 (fun _ => 0) (fun _ => 0) (fun _ => 0) :: [epT HE SE E (newE 3), treeT HT ST T (newK 1 2 16), plainT HP SP P b4K0])) := by
  obtain ⟨hb2, hn2⟩ := N2.out
  obtain ⟨hb3, ht3⟩ := N3.out
  obtain ⟨hb4, hm4⟩ := N4.out
  have l1 := tT.out
  have l2 := tU.out
  have l3 := tM.out
  have s1 := hb2.size
  have s2 := hb3.size
  refine Side.make S3.out (bl_trans (bl_trans hb2 hb3) hb4) _ ⟨(hn2.later hb3).later hb4, ht3.later hb4, hm4, by omega, by omega, by omega, by omega, by omega⟩ fun i hi => ?_
  rcases hi with rfl | rfl | rfl | rfl <;> omega
 clear N2 N3 N4 tT tU tM S3
 go_wp2_with fail
 refine (b4_do HP [_, _, _] S6.out (b4_words 1 1 0 0 0 (by omega)) b4_alloc).mono ?_
 rintro x w7 ⟨SP, rfl, hs⟩
 have S7 := Lib.hid (hs.box (.cells #[.int .i64 0, .int .u64 0] 41))
 clear hs S6
 go_wp2_with fail
 refine (b4_do HP [_, _, _, _] S7.out (b4_words 6 2 1 3 0 (by omega)) b4_map).mono ?_
 rintro x w8 ⟨SP, rfl, hs⟩
 have S8 := Lib.hid (hs.box (.cells #[.int .i64 0, .int .u64 0] 41))
 clear hs S7
 go_wp2_with fail
 refine (b4_do HP [_, _, _, _, _] S8.out (b4_words 21 2 5 77 0 (by omega)) b4_store).mono ?_
 rintro x w9 ⟨SP, rfl, hs⟩
 have S9 := Lib.hid hs
 clear hs S8
 go_wp2_with fail
 refine (b4_do HP [_, _, _, _, _] S9.out (b4_words 20 2 5 0 0 (by omega)) b4_load).mono ?_
 rintro x w10 ⟨SP, rfl, hs⟩
 have S10 := Lib.hid (hs.box (.cells #[.int .i64 0, .int .u64 77] 41))
 clear hs S9
 go_wp2_with fail
 refine (HT.root_ T ST (newK 1 2 16) 0 1 1 _ (Side.at [_, _, _, _, _] S10.out)).mono ?_
 rintro x w11 ⟨ST2, rfl, h1, h2, h3⟩
 rw [b4_root]
 have S11 := Lib.hid (b4_step (treeT HT ST2 T (rootS (newK 1 2 16) 0 1 1)) [_, _, _, _, _] S10.out h1 h2 h3)
 clear h1 h2 h3 S10
 go_wp2_with fail
 refine (HT.derive_ T ST2 (rootS (newK 1 2 16) 0 1 1) 0 1 1 3 1 _ (Side.at [_, _, _, _, _] S11.out)).mono ?_
 rintro x w12 ⟨ST3, rfl, h1, h2, h3⟩
 rw [b4_derive]
 have S12 := Lib.hid (b4_step (treeT HT ST3 T b4T) [_, _, _, _, _] S11.out h1 h2 h3)
 clear h1 h2 h3 S11
 go_wp2_with fail
 refine (HE.begin_ E SE (newE 3) 0 _ (Side.at [_, _, _, _] S12.out) (by decide) (by decide) (fun _ => rfl)).mono ?_
 rintro x w13 ⟨SE2, rfl, h1, h2, h3⟩
 have S13 := Lib.hid (b4_step (epT HE SE2 E ((newE 3).begin_ 0)) [_, _, _, _] S12.out h1 h2 h3)
 clear h1 h2 h3 S12
 go_wp2_with fail
 refine (HE.ack_ E SE2 ((newE 3).begin_ 0) 1 1 _ (Side.at [_, _, _, _] S13.out) (by decide) (by decide) (by decide) (by decide)).mono ?_
 rintro x w14 ⟨SE3, rfl, h1, h2, h3⟩
 have S14 := Lib.hid (b4_step (epT HE SE3 E b4E) [_, _, _, _] S13.out h1 h2 h3)
 clear h1 h2 h3 S13
 go_wp2_with fail
 refine (tins_ok _ U 2 1 1 1 (fun _ => 0) (by omega) (by decide) (Side.at [_, _, _] S14.out).2.1 rfl).mono ?_
 rintro x w15 ⟨rfl, h1, h2⟩
 have S15 := Lib.hid (side_uU [_, _, _] S14.out h1 h2)
 clear h1 h2 S14
 go_wp2_with fail
 refine (side_udo HU [_, _, _] S15.out ?_ ?_ (b4_words 20 2 3 0 0 (by omega)) (by decide) b4_walk rfl rfl rfl).mono ?_
 ·exact ⟨fun e p j _ hh => by rw [zero_no] at hh; exact absurd hh (by decide), by decide, by decide⟩
 ·exact tab_ok_put tab_ok_new (by decide)
 rintro x w16 ⟨rfl, hs⟩
 have S16 := Lib.hid ((hs.box (.cells #[.int .i64 0, .int .u64 0] 41)).boxAt (.cells #[.int .i64 0, .int .i64 2, .int .i64 1, .int .i64 1] 85) (w16.heap.size + 1) (by simp))
 clear hs S15
 go_wp2_with fail
 refine (b4_errs HP [_, _, _, _, _, _, _, _] S16.out (b4_words 7 5 0 0 0 (by omega)) (HG.out _ S16.out.below) b4_err (by decide)).mono ?_
 rintro x w17 ⟨⟨b, rfl, hch, hbl⟩, hs⟩
 have S17 := Lib.hid hs
 have HBL : Hid (b < w17.heap.size) := hbl
 have C17 : Hid (∀ V, Below w17.heap.size w17 V → Chain V 3 .nilIface 2 (b + 1) (ptrErr b)) := fun V hV => hch.later hV hbl
 clear hs S16 hch hbl
 go_wp2_with fail
 refine (begun_two _ (begun_at _ (HG.out _ S17.out.below))).mono ?_
 rintro x w18 ⟨rfl, hb⟩
 have S18 := Lib.hid (S17.out.under hb)
 have B18 := Lib.hid hb
 clear hb S17
 have cx := bk_cell (Side.at [_, _, _, _] S18.out) 0
 have cy := bk_cell (Side.at [_, _, _] S18.out) 0
 have cz := bk_cell (Side.at [_, _] S18.out) 1
 go_wp2_with fail
 clear cx cy cz
 refine (HT.below_ T ST3 b4T 0 1 _ (Side.at [_, _, _, _, _, _, _] S18.out)).mono ?_
 rintro x w19 ⟨v, rfl, ⟨ao, cap, g, rfl, _⟩, hb⟩
 rw [b4_below]
 have S19 := Lib.hid (S18.out.under hb)
 have B19 := Lib.hid (bl_trans B18.out hb)
 clear hb S18 B18
 go_wp2_with fail
 refine (HE.done_ E SE3 b4E 1 _ (Side.at [_, _, _, _, _, _] S19.out) (by omega) (by decide)).mono ?_
 rintro x w20 ⟨rfl, hb⟩
 rw [b4_done.1]
 have S20 := Lib.hid (S19.out.under hb)
 have B20 := Lib.hid (bl_trans B19.out hb)
 clear hb S19 B19
 go_wp2_with fail
 refine (HE.waits_ E SE3 b4E 1 _ (Side.at [_, _, _, _, _, _] S20.out) (by omega) (by decide)).mono ?_
 rintro x w21 ⟨v, rfl, ⟨ao2, cap2, g2, rfl, _⟩, hb⟩
 rw [b4_done.2]
 have S21 := Lib.hid (S20.out.under hb)
 have B21 := Lib.hid (bl_trans B20.out hb)
 clear hb S20 B20
 have ca := bk_cell (Side.at [_] S21.out) 0
 have cl := bk_cell S21.out.1 2
 go_wp2_with fail
 clear ca cl
 refine (HR.holds_ 3 3 4 w21).mono ?_
 rintro x w22 ⟨rfl, hb⟩
 have hh : holdsB 3 3 4 = true := by decide
 rw [hh]
 have S22 := Lib.hid (S21.out.under hb)
 have B22 := Lib.hid (bl_trans B21.out hb)
 clear hb S21 B21 hh
 go_wp2_with fail
 refine (of_post 3 rfl w22).mono ?_
 rintro x w23 ⟨t, rfl, ht, hat, _, hb⟩
 have S23 := Lib.hid (S22.out.under hb)
 have B23 := Lib.hid (bl_trans B22.out hb)
 have HAT := Lib.hid hat
 have HBT : Hid (b + 1 ≤ t) := by have := B22.out.size; have := HBL.out; show b + 1 ≤ t; omega
 clear hb hat ht S22 B22
 go_wp2_with fail
 refine (chain_is (HG.out _ S23.out.below) (C17.out _ B23.out) HAT.out HBT.out).mono ?_
 rintro x w24 ⟨rfl, hb⟩
 have S24 := Lib.hid (S23.out.under hb)
 clear hb S23 B23 HAT HBT C17
 go_wp2_with fail
 refine (HP.free_ P SP b4K3 _ (Side.at [_, _, _, _, _, _, _, _] S24.out)).mono ?_
 rintro x w25 ⟨v, rfl, ⟨ao3, cap3, g3, rfl, _⟩, hb⟩
 rw [b4_free]
 have S25 := Lib.hid (S24.out.under hb)
 clear hb S24
 go_wp2_with fail
 go_ret
 exact ⟨rfl, S25.out.below⟩
end Go.Proofs.YtdfhfmdelinemaaGreatDoor
namespace Go.Proofs.YtdfhfmdelinemaaGreatDoor
open Go.RowKit Go.Extern.Stop Go.Stop Go.Extern
theorem begun_at11 (w : World) (hg : Held w) : BegunAt11 w := begun11 plain_keeps tree_keeps epoch_keeps pred_keeps user_keeps w hg
theorem begun_all11 (w : World) (hg : Held w) : ∀ V, Below w.heap.size w V → BegunAt11 V := fun V hV => begun_at11 V (hg.below hV hg.pos)
end Go.Proofs.YtdfhfmdelinemaaGreatDoor
