/- What is proved here: a slice of asks that comes in lies at an address whose cells hold numbers, or is empty; and reads behind a call as before. Conditions: those that each theorem names. -/
import Derived.Test.YtdfhfmdelinemaaGreatDoorLists11
import Derived.Test.YtdfhfmdelinemaaGreatDoorGPair
namespace Go.Proofs.YtdfhfmdelinemaaGreatDoor
open Go.ChangeShapes Go.WideShapes Go.RowKit Go.Joins Go.Deep
set_option maxRecDepth 100000 in
theorem ask_cells {H : Type} {enc : TypeId × Value → H} {W : World} {base fuel : Nat} {spare : Nat → Bool} {held : Bool} {cs : List Value} {x : DataW H × List MemPlace} (h : DataW.trod enc Tryz.prog W base spare held fuel 38 cs = some x) :
  ∃ e x0 x1 x2 x3 x4 : Int, cs = [.int .i64 e, .int .u64 x0, .int .u64 x1, .int .u64 x2, .int .u64 x3, .int .u64 x4] ∧ wordsIn x0 x1 x2 x3 x4 := by
 obtain ⟨xs, n, _, _, hlen, hxl, hi⟩ := DataW.trod_struct Tryz.underlying38 h
 have hl : cs.length = 6 := hlen.trans (show Tryz.prog.cellsOf 38 = 6 by kernel_rfl)
 have hx : xs.length = 2 := hxl
 match xs, hx with
 | [y0, y1], _ =>
  match cs, hl with
  | [c0, c1, c2, c3, c4, c5], _ =>
   have e1 : Tryz.prog.cellsOf 3 = 1 := by kernel_rfl
   have e5 : Tryz.prog.cellsOf 36 = 5 := by kernel_rfl
   have ew : Tryz.prog.cellsOf 34 = 1 := by kernel_rfl
   have h0 : DataW.trod enc Tryz.prog W base spare held n 3 (List.take (Tryz.prog.cellsOf 3) (List.drop 0 [c0, c1, c2, c3, c4, c5])) = some y0 := hi 0 _ rfl
   rw [e1] at h0
   obtain ⟨e, g0, _⟩ := DataW.trod_int Tryz.underlying3 h0
   have r0 : c0 = .int .i64 e := by simpa using g0
   have h1 : DataW.trod enc Tryz.prog W base spare held n 36 (List.take (Tryz.prog.cellsOf 36) (List.drop 1 [c0, c1, c2, c3, c4, c5])) = some y1 := hi 1 _ rfl
   rw [e5] at h1
   obtain ⟨zs, m, _, _, _, hzl, hj⟩ := DataW.trod_array Tryz.underlying36 h1
   have key : ∀ (j : Nat) (c : Value), j < 5 → (List.take 5 (List.drop 1 [c0, c1, c2, c3, c4, c5]))[j]? = some c → ∃ x0 : Int, c = .int .u64 x0 ∧ 0 ≤ x0 ∧ x0 < 18446744073709551616 := by
    intro j c h5 hc
    have hz := hj j h5
    rw [ew, List.getElem?_eq_getElem (show j < zs.length by omega)] at hz
    have ht : List.take 1 (List.drop (j * 1) (List.take 5 (List.drop 1 [c0, c1, c2, c3, c4, c5]))) = [c] := by
     have hc2 : j = 0 ∨ j = 1 ∨ j = 2 ∨ j = 3 ∨ j = 4 := by omega
     rcases hc2 with rfl | rfl | rfl | rfl | rfl <;> simpa using hc
    rw [ht] at hz
    obtain ⟨x0, e0, _, _⟩ := DataW.trod_int Tryz.underlying34 hz
    have e0 : [c] = [.int .u64 x0] := e0
    injection e0 with e0
    subst e0
    exact ⟨x0, rfl, word_of hz⟩
   obtain ⟨x0, q0, w0⟩ := key 0 c1 (by omega) rfl
   obtain ⟨x1, q1, w1⟩ := key 1 c2 (by omega) rfl
   obtain ⟨x2, q2, w2⟩ := key 2 c3 (by omega) rfl
   obtain ⟨x3, q3, w3⟩ := key 3 c4 (by omega) rfl
   obtain ⟨x4, q4, w4⟩ := key 4 c5 (by omega) rfl
   subst r0 q0 q1 q2 q3 q4
   exact ⟨e, x0, x1, x2, x3, x4, rfl, w0, w1, w2, w3, w4⟩
set_option maxRecDepth 100000 in
theorem asks_open {H : Type} {enc : TypeId × Value → H} {W : World} {base : Nat} {v : Value} {d : DataW H} {p : List MemPlace} (h : DataW.Trod enc Tryz.prog W 0 (fun _ => true) true 24 v d p) (hv : Value.okWide Tryz.prog W .any base 24 v) :
  ∃ (ao : Option Addr) (a : Addr) (len cap : Nat), v = .slice ao len cap ∧ AsksAt W ao a len := by
 obtain ⟨ao, a, len, cap, rfl, hao, hi⟩ := recs_open (m := 6) Tryz.underlying24 (by kernel_rfl) h hv
 refine ⟨ao, a, len, cap, rfl, hao, fun i hil => ?_⟩
 obtain ⟨fuel, cs, x, ht, hc⟩ := hi i hil
 obtain ⟨e, x0, x1, x2, x3, x4, rfl, hw⟩ := ask_cells ht
 exact ⟨e, x0, x1, x2, x3, x4, hc 0 (by omega), rec_at (by omega) (hc 1 (by omega)), rec_at (by omega) (hc 2 (by omega)), rec_at (by omega) (hc 3 (by omega)), rec_at (by omega) (hc 4 (by omega)), rec_at (by omega) (hc 5 (by omega)), hw⟩
theorem trod_asks {H : Type} {enc : TypeId × Value → H} {W W' : World} {v : Value} {d : DataW H} {p : List MemPlace} (h : DataW.Trod enc Tryz.prog W 0 (fun _ => true) true 24 v d p) (hb : Below W.heap.size W W') (hlt : ∀ x ∈ p, x.block < W.heap.size) :
  DataW.Trod enc Tryz.prog W' 0 (fun b => decide (b < W.heap.size)) true 24 v d p :=
 Below.trod Tryz.laidOut (by kernel_rfl) (of_decide_eq_true (by kernel_rfl)) h hb hlt
end Go.Proofs.YtdfhfmdelinemaaGreatDoor

