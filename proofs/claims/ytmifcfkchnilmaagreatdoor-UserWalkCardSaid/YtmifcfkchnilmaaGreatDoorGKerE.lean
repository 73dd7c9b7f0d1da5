/- What is proved here: the document's plain kernel: frames that are taken, capabilities that go; each call by one plain function. Conditions: those that each theorem names. -/
import Derived.Test.YtmifcfkchnilmaaGreatDoorGKerB
import Derived.Deep.MidRow
import Derived.Test.YtmifcfkchnilmaaGreatDoorGParts
namespace Go.Proofs.YtmifcfkchnilmaaGreatDoor
open Go.RowKit Go.Extern.Stop Go.Stop Go.Extern Go.WalkArith
def KernS.clearN (k : KernS) (f n : Nat) : KernS := { k with mm := fun f' a => if f' = f ∧ a < n then 0 else k.mm f' a }
def KernS.clear (k : KernS) (f : Nat) : KernS := k.clearN f 16
def allocS (k : KernS) (e s f : Nat) : KernS := (k.clear f).setSlot e s ⟨true, (f : Int), 3, -1, 0⟩
end Go.Proofs.YtmifcfkchnilmaaGreatDoor
namespace Go.Proofs.YtmifcfkchnilmaaGreatDoor
open Go.RowKit Go.Extern.Stop Go.Stop Go.Extern Go.WalkArith
theorem placesV_get : ∀ (l : List Nat) (i : Nat) (hi : i < l.length), (placesV l)[i * 2]? = some (.int .i64 ((l[i] / 8 : Nat) : Int)) ∧ (placesV l)[i * 2 + 1]? = some (.int .i64 ((l[i] % 8 : Nat) : Int))
  | [], _, hi => absurd hi (by simp)
  | j :: l, 0, _ => ⟨rfl, rfl⟩
  | j :: l, i + 1, hi => by
    have h := placesV_get l i (by simpa using hi)
    have e : placesV (j :: l) = Value.int .i64 ((j / 8 : Nat) : Int) :: Value.int .i64 ((j % 8 : Nat) : Int) :: placesV l := rfl
    rw [e, show (i + 1) * 2 = i * 2 + 1 + 1 by omega]
    simp only [List.getElem?_cons_succ, List.getElem_cons_succ]
    exact h
theorem row_places {w : World} {base : Nat} {v : Value} {l : List Nat} (h : w.ownsRow base 33 2 v l.length (placesV l)) : (l = [] ∧ v = .slice none 0 0) ∨ ∃ g cap, v = .slice (some ⟨g, 0, none⟩) l.length cap ∧ base ≤ g ∧ PlacesAt w g l := by
  obtain ⟨h1, ⟨rfl, h2⟩ | ⟨g, cap, cur, rfl, h3, h4, h5, h6, h7, h8⟩⟩ := h
  · exact Or.inl ⟨List.length_eq_zero_iff.1 h2, rfl⟩
  · refine Or.inr ⟨g, cap, rfl, h3, fun i hi => ?_, bk_lt h4⟩
    obtain ⟨p0, p1⟩ := placesV_get l i hi
    rw [← h8, List.getElem?_take] at p0 p1
    rw [if_pos (by omega)] at p0 p1
    rw [bk_cell h4, bk_cell h4]
    simp only [Array.getElem?_toList] at p0 p1
    exact ⟨p0, p1⟩
theorem kref_gone_nil (K : Nat) (k : KernS) (w : World) (h : KernIs w K k) :
    Calls Tryz.prog 83 #[.pointer (some ⟨K, 0, none⟩), .slice none 0 0] w fun e w' => e = .returned (.tuple #[]) ∧ KernIs w' K (goneF k []) ∧ OnlyT K w w' := by
  have H := Lib.hid h
  clear h
  go_enter Tryz.func83, Tryz.ntmps83
  go_wp2_with fail
  go_loopw [4] (fun iv W => iv = .int .i64 0 ∧ w = W) (fun _ _ => 0)
  case atStart => exact ⟨rfl, rfl⟩
  case round =>
    obtain ⟨rfl, rfl⟩ := hrel
    go_wp2_with fail
    go_end0
    exact ⟨rfl, H.out, tp_below (Below.refl _ _)⟩
theorem kref_gone (K base : Nat) (k : KernS) (l : List Nat) (v : Value) (hl : ∀ j, j ∈ l → j < 32) (hlen : l.length ≤ 1000) (hKb : K < base) (w : World) (h : KernIs w K k) (hr : w.ownsRow base 33 2 v l.length (placesV l)) :
    Calls Tryz.prog 83 #[.pointer (some ⟨K, 0, none⟩), v] w fun e w' => e = .returned (.tuple #[]) ∧ KernIs w' K (goneF k l) ∧ OnlyT K w w' := by
  rcases row_places hr with ⟨rfl, rfl⟩ | ⟨g, cap, rfl, hg, ha⟩
  · exact kref_gone_nil K k w h
  · exact kref_gone_some K g cap k l hl hlen (by omega) w h ha
end Go.Proofs.YtmifcfkchnilmaaGreatDoor
namespace Go.Proofs.YtmifcfkchnilmaaGreatDoor
open Go.RowKit Go.Extern.Stop Go.Stop Go.Extern Go.WalkArith
theorem res4_zero {b0 b1 b2 b3 : Bool} (h : res4 b0 b1 b2 b3 = 0) : b0 = true ∧ b1 = true ∧ b2 = true ∧ b3 = true := by
  unfold res4 at h
  rw [pre_4] at h
  cases b0 <;> cases b1 <;> cases b2 <;> cases b3 <;> simp at h ⊢
theorem below_lt {x m : Int} (h : belowB x m = true) : x < m := (of_decide_eq_true h).2
theorem chk_kind {x0 x1 x2 x3 x4 envs : Int} (h : chkN x0 x1 x2 x3 x4 envs = 0) : isKind x0 = true := by
  unfold chkN at h
  cases hk : isKind x0
  · rw [hk, if_neg (by decide)] at h
    exact absurd h (by decide)
  · rfl
structure Sane (k : KernS) : Prop where
  envs : 1 ≤ k.envs ∧ k.envs ≤ 4
  frames : 0 ≤ k.frames ∧ k.frames ≤ 16
  slot : ∀ e s, e < 4 → s < 8 → (k.sl e s).is = true → 0 ≤ (k.sl e s).frame ∧ (k.sl e s).frame < 16 ∧ 0 ≤ (k.sl e s).rights ∧ (k.sl e s).rights ≤ 3
  par : Sound k
  pte : ∀ e p, e < 4 → p < 8 → ¬ (k.pt e p).rights = 0 → 0 ≤ (k.pt e p).frame ∧ (k.pt e p).frame < 16 ∧ 0 ≤ (k.pt e p).slot ∧ (k.pt e p).slot < 8
def kcall (k : KernS) (e : Nat) (x0 x1 x2 x3 x4 : Int) : KernS × Int × Int × Bool :=
  if x0 = 1 then
    if (k.sl e x1.toNat).is = true then (k, 4, 0, true)
    else match freeK k k.frames.toNat with
      | [] => (k, 6, 0, true)
      | f :: _ => (allocS k e x1.toNat f, 0, 0, true)
  else if x0 = 2 then (deriveS k e x1.toNat e x2.toNat x3, deriveE k e x1.toNat e x2.toNat x3, 0, true)
  else if x0 = 3 then (deriveS k e x1.toNat x2.toNat x3.toNat x4, deriveE k e x1.toNat x2.toNat x3.toNat x4, 0, true)
  else if x0 = 4 then
    if (k.sl e x1.toNat).is = true then (goneF k (belowL k (e * 8 + x1.toNat) 32), 0, ((belowL k (e * 8 + x1.toNat) 32).length : Nat), true) else (k, 3, 0, true)
  else if x0 = 5 then
    if (k.sl e x1.toNat).is = true then (goneF k (belowL k (e * 8 + x1.toNat) 32 ++ [e * 8 + x1.toNat]), 0, ((belowL k (e * 8 + x1.toNat) 32 ++ [e * 8 + x1.toNat]).length : Nat), true) else (k, 3, 0, true)
  else if x0 = 6 then (mapS k e x1.toNat x2.toNat x3, mapE k e x1.toNat x2.toNat x3, 0, true)
  else if x0 = 7 then (unmapS k e x1.toNat, unmapE k e x1.toNat, 0, true)
  else if x0 = 8 then (protS k e x1.toNat x2, protE k e x1.toNat x2, 0, true)
  else if x0 = 9 then
    if (k.sl e x1.toNat).is = true then
      if (k.sl e x1.toNat).rights % 2 = 0 then (k, 5, 0, true)
      else if holdsB x3 (k.mm (k.sl e x1.toNat).frame.toNat x2.toNat) x4 = true then (k, 0, k.mm (k.sl e x1.toNat).frame.toNat x2.toNat, true) else (k, 0, 0, false)
    else (k, 3, 0, true)
  else if x0 = 10 then (k, 0, 0, true)
  else if withinB (needN x0) (k.pt e x1.toNat).rights = true then (wordS k (k.pt e x1.toNat).frame.toNat x2.toNat x0 x3 x4, 0, wordT k (k.pt e x1.toNat).frame.toNat x2.toNat x0, true)
  else (k, 7, 0, true)
def kdo (k : KernS) (env x0 x1 x2 x3 x4 : Int) : KernS × Int × Int × Bool :=
  if env < 0 ∨ k.envs ≤ env then (k, 10, 0, true)
  else if chkN x0 x1 x2 x3 x4 k.envs = 0 then kcall k env.toNat x0 x1 x2 x3 x4
  else (k, chkN x0 x1 x2 x3 x4 k.envs, 0, true)
theorem nat_of {x : Int} (h : 0 ≤ x) : ∃ n : Nat, x = (n : Int) := ⟨x.toNat, by omega⟩
end Go.Proofs.YtmifcfkchnilmaaGreatDoor
namespace Go.Proofs.YtmifcfkchnilmaaGreatDoor
open Go.RowKit Go.Extern.Stop Go.Stop Go.Extern Go.WalkArith
def newK (c e f : Int) : KernS := ⟨c, e, f, fun _ _ => noSlot, fun _ _ => noPte, fun _ _ => 0⟩
theorem zero_kern : Tryz.zeroCells46.toList = (List.range 515).map (kv (newK 0 0 0)) := by kernel_rfl
theorem newK_far (c e f : Int) (i : Nat) (h : 3 ≤ i) : kv (newK c e f) i = kv (newK 0 0 0) i := by
  unfold kv
  simp only [if_neg (show ¬ i < 3 by omega)]
  rfl
theorem new_cells (c e f : Int) (i : Nat) (hi : i < 515) : (((Tryz.zeroCells46.setIfInBounds 0 (.int .i64 c)).setIfInBounds 1 (.int .i64 e)).setIfInBounds 2 (.int .i64 f))[i]? = some (kv (newK c e f) i) := by
  have hz : ∀ j, j < 515 → Tryz.zeroCells46[j]? = some (kv (newK 0 0 0) j) := fun j hj => by
    rw [← Array.getElem?_toList, zero_kern, List.getElem?_map, List.getElem?_range hj]
    rfl
  have hsz : Tryz.zeroCells46.size = 515 := by simp
  rcases (show i = 0 ∨ i = 1 ∨ i = 2 ∨ 3 ≤ i by omega) with rfl | rfl | rfl | h3
  · simp [hsz]
    rfl
  · simp [hsz]
    rfl
  · simp [hsz]
    rfl
  · rw [Array.getElem?_setIfInBounds_ne (by omega), Array.getElem?_setIfInBounds_ne (by omega), Array.getElem?_setIfInBounds_ne (by omega), hz i hi, newK_far c e f i h3]
set_option maxRecDepth 100000 in
set_option maxHeartbeats 4000000 in
theorem kref_new (c e f : Int) (w : World) : Calls Tryz.prog 18 #[.agg #[.int .i64 c, .int .i64 e, .int .i64 f]] w fun x w' => ∃ K, x = .returned (.pointer (some ⟨K, 0, none⟩)) ∧ KernIs w' K (newK c e f) ∧ Below w.heap.size w w' ∧ w.heap.size ≤ K := by
  go_enter Tryz.func18, Tryz.ntmps18
  go_wp2_with fail
  obtain ⟨cs, hcs⟩ : ∃ cs, cs = ((Tryz.zeroCells46.setIfInBounds 0 (.int .i64 c)).setIfInBounds 1 (.int .i64 e)).setIfInBounds 2 (.int .i64 f) := ⟨_, rfl⟩
  have hc := new_cells c e f
  rw [← hcs] at hc ⊢
  clear hcs
  go_ret
  have h := heap_alloc_new (w.alloc (.cells #[.int .i64 c, .int .i64 e, .int .i64 f] 29)) (.cells cs 46)
  rw [show (w.alloc (.cells #[.int .i64 c, .int .i64 e, .int .i64 f] 29)).heap.size = w.heap.size + 1 by simp] at h
  exact ⟨w.heap.size + 1, rfl, ⟨fun i hi => (bk_cell h i).trans (hc i hi), fun i => bk_free h i, bk_lt h⟩, ((Below.refl _ _).alloc (Nat.le_refl _) _).alloc (by simp) _, by omega⟩
end Go.Proofs.YtmifcfkchnilmaaGreatDoor
namespace Go.Proofs.YtmifcfkchnilmaaGreatDoor
open Go.RowKit Go.Extern.Stop Go.Stop Go.Extern Go.WalkArith
theorem within_may {r a : Int} (h : withinB r a = true) : 1 ≤ r ∧ r ≤ 3 := by
  unfold withinB mayB at h
  simp at h
  exact ⟨h.1.1.1, h.1.1.2⟩
theorem Sane.new {c e f : Int} (he : 1 ≤ e ∧ e ≤ 4) (hf : 0 ≤ f ∧ f ≤ 16) : Sane (newK c e f) :=
  ⟨he, hf, fun _ _ _ _ h => by simp [newK, noSlot] at h, fun _ _ _ _ h => by simp [newK, noSlot] at h, fun _ _ _ _ h => absurd rfl h⟩
theorem Sane.setSlot {k : KernS} (h : Sane k) {e s : Nat} {v : SlotV} (hv : v.is = true → 0 ≤ v.frame ∧ v.frame < 16 ∧ 0 ≤ v.rights ∧ v.rights ≤ 3) (hp : v.is = true → 0 ≤ v.env → v.env < 4 ∧ 0 ≤ v.slot ∧ v.slot < 8) : Sane (k.setSlot e s v) := by
  refine ⟨h.envs, h.frames, fun e' s' he hs hi => ?_, fun e' s' he hs hi => ?_, h.pte⟩
  · unfold KernS.setSlot at hi ⊢
    dsimp only at hi ⊢
    by_cases hc : e' = e ∧ s' = s
    · rw [if_pos hc] at hi ⊢
      exact hv hi
    · rw [if_neg hc] at hi ⊢
      exact h.slot e' s' he hs hi
  · unfold KernS.setSlot at hi ⊢
    dsimp only at hi ⊢
    by_cases hc : e' = e ∧ s' = s
    · rw [if_pos hc] at hi ⊢
      exact hp hi
    · rw [if_neg hc] at hi ⊢
      exact h.par e' s' he hs hi
theorem Sane.clr {k : KernS} (h : Sane k) (e s n : Nat) : Sane (clr k e s n) := by
  refine ⟨h.envs, h.frames, fun e' s' he hs hi => ?_, fun e' s' he hs hi => ?_, fun e' p' he hp hr => ?_⟩
  · unfold Proofs.YtmifcfkchnilmaaGreatDoor.clr at hi ⊢
    dsimp only at hi ⊢
    by_cases hc : e' = e ∧ s' = s
    · rw [if_pos hc] at hi
      exact absurd hi (by decide)
    · rw [if_neg hc] at hi ⊢
      exact h.slot e' s' he hs hi
  · unfold Proofs.YtmifcfkchnilmaaGreatDoor.clr at hi ⊢
    dsimp only at hi ⊢
    by_cases hc : e' = e ∧ s' = s
    · rw [if_pos hc] at hi
      exact absurd hi (by decide)
    · rw [if_neg hc] at hi ⊢
      exact h.par e' s' he hs hi
  · unfold Proofs.YtmifcfkchnilmaaGreatDoor.clr at hr ⊢
    dsimp only at hr ⊢
    by_cases hc : e' = e ∧ p' < n ∧ ¬ (k.pt e' p').rights = 0 ∧ (k.pt e' p').slot = (s : Int)
    · rw [if_pos hc] at hr
      exact absurd rfl hr
    · rw [if_neg hc] at hr ⊢
      exact h.pte e' p' he hp hr
theorem Sane.gone {k : KernS} (h : Sane k) (l : List Nat) : Sane (goneF k l) := by
  induction l generalizing k with
  | nil => exact h
  | cons j l ih => exact ih (h.clr _ _ _)
end Go.Proofs.YtmifcfkchnilmaaGreatDoor
namespace Go.Proofs.YtmifcfkchnilmaaGreatDoor
open Go.RowKit Go.Extern.Stop Go.Stop Go.Extern Go.WalkArith
end Go.Proofs.YtmifcfkchnilmaaGreatDoor
