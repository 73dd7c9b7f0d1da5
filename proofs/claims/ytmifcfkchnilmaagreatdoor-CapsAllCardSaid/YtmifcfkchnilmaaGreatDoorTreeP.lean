/- What is proved here: a tree of package caps and the document's kernel side by side: what a call of each leaves of the other; a slice that is kept beside them. Conditions: package caps keeps its contracts. -/
import Derived.Test.YtmifcfkchnilmaaGreatDoorSame
import Derived.Test.YtmifcfkchnilmaaGreatDoorKDer
import Derived.Test.YtmifcfkchnilmaaGreatDoorKGone
import Derived.Test.YtmifcfkchnilmaaGreatDoorGTreeB
import Derived.Test.YtmifcfkchnilmaaGreatDoorGPair
namespace Go.Proofs.YtmifcfkchnilmaaGreatDoor
open Go.RowKit Go.Extern.Stop Go.Stop Go.Extern Go.WalkArith
section
variable {At : World → (Nat → Prop) → Nat → KernS → Prop} {H : TreeC At} {w W W' : World} {S : Nat → Prop} {P K : Nat} {k k' : KernS} {l1 l2 : List Thing}
theorem SliceIs.off {v : Value} {n : Nat} {cs : List Value} (h : SliceIs W v n cs) (ho : OnlyT K W W') (hg : ∀ g c, v = .slice (some ⟨g, 0, none⟩) n c → 0 < n → g ≠ K) : SliceIs W' v n cs := by
  obtain ⟨ao, cap, g, rfl, h2⟩ := h
  refine ⟨ao, cap, g, rfl, fun hn => ?_⟩
  obtain ⟨rfl, h3, h4⟩ := h2 hn
  have hne := hg g cap rfl hn
  exact ⟨rfl, Nat.lt_of_lt_of_le h3 ho.size, fun i x hx => (World.cell?_of_block (a := ⟨g, i, none⟩) (ho.block g h3 (fun e => by injection e with e; exact hne e))).trans (h4 i x hx)⟩
theorem tside_root (e s f : Int) (h : Side w W (l1 ++ treeT H S P k :: l2)) :
    Calls Tryz.prog 19 #[.pointer (some ⟨P, 0, none⟩), .int .i64 e, .int .i64 s, .int .i64 f] W fun x W' => ∃ S', x = .returned (.int .i64 (rootE k e s f)) ∧ Side w W' (l1 ++ treeT H S' P (rootS k e s f) :: l2) := by
  refine (H.root_ P S k e s f W (Side.at l1 h)).mono ?_
  rintro x W' ⟨S', rfl, h4, h5, h6⟩
  exact ⟨S', rfl, Side.step (o := treeT H S P k) (treeT H S' P _) h4 h5 h6 l1 h⟩
theorem tside_derive (e s t d r : Int) (h : Side w W (l1 ++ treeT H S P k :: l2)) :
    Calls Tryz.prog 21 #[.pointer (some ⟨P, 0, none⟩), .int .i64 e, .int .i64 s, .int .i64 t, .int .i64 d, .int .i64 r] W fun x W' => ∃ S', x = .returned (.int .i64 (tderE k e s t d r)) ∧ Side w W' (l1 ++ treeT H S' P (tderS k e s t d r) :: l2) := by
  refine (H.derive_ P S k e s t d r W (Side.at l1 h)).mono ?_
  rintro x W' ⟨S', rfl, h4, h5, h6⟩
  exact ⟨S', rfl, Side.step (o := treeT H S P k) (treeT H S' P _) h4 h5 h6 l1 h⟩
theorem tside_revoke (e s : Int) (h : Side w W (l1 ++ treeT H S P k :: l2)) :
    Calls Tryz.prog 22 #[.pointer (some ⟨P, 0, none⟩), .int .i64 e, .int .i64 s] W fun x W' => ∃ S' v, x = .returned (.tuple #[v, .int .i64 (tgoneE k e s)]) ∧ SliceIs W' v (tgoneL k e s false).length (placesV (tgoneL k e s false)) ∧ (∀ g c, v = .slice (some ⟨g, 0, none⟩) (tgoneL k e s false).length c → 0 < (tgoneL k e s false).length → W.heap.size ≤ g) ∧ Side w W' (l1 ++ treeT H S' P (tgoneS k e s false) :: l2) := by
  refine (H.revoke_ P S k e s W (Side.at l1 h)).mono ?_
  rintro x W' ⟨S', v, rfl, hs, hg, h4, h5, h6⟩
  exact ⟨S', v, rfl, hs, fun g c hv hn => (hg g c hv hn).1, Side.step (o := treeT H S P k) (treeT H S' P _) h4 h5 h6 l1 h⟩
theorem tside_drop (e s : Int) (h : Side w W (l1 ++ treeT H S P k :: l2)) :
    Calls Tryz.prog 23 #[.pointer (some ⟨P, 0, none⟩), .int .i64 e, .int .i64 s] W fun x W' => ∃ S' v, x = .returned (.tuple #[v, .int .i64 (tgoneE k e s)]) ∧ SliceIs W' v (tgoneL k e s true).length (placesV (tgoneL k e s true)) ∧ (∀ g c, v = .slice (some ⟨g, 0, none⟩) (tgoneL k e s true).length c → 0 < (tgoneL k e s true).length → W.heap.size ≤ g) ∧ Side w W' (l1 ++ treeT H S' P (tgoneS k e s true) :: l2) := by
  refine (H.drop_ P S k e s W (Side.at l1 h)).mono ?_
  rintro x W' ⟨S', v, rfl, hs, hg, h4, h5, h6⟩
  exact ⟨S', v, rfl, hs, fun g c hv hn => (hg g c hv hn).1, Side.step (o := treeT H S P k) (treeT H S' P _) h4 h5 h6 l1 h⟩
theorem tside_gone (hk : Sound k) (e s : Nat) (he : e < 4) (hs : s < 8) (it : Bool) (h : Side w W (l1 ++ kernT K k :: l2)) :
    Calls Tryz.prog 24 #[.pointer (some ⟨K, 0, none⟩), .agg #[.int .i64 (e : Int), .int .i64 (s : Int)], .bool it] W fun x W' => ∃ v, x = .returned v ∧ SliceIs W' v (goneL k (e * 8 + s) it).length (placesV (goneL k (e * 8 + s) it)) ∧ OnlyT K W W' ∧ Side w W' (l1 ++ kernT K (goneF k (goneL k (e * 8 + s) it)) :: l2) := by
  refine (kgone_any K k hk e s he hs it W (Side.at (o := kernT K k) l1 h)).mono ?_
  rintro x W' ⟨v, rfl, h1, h2, h3⟩
  exact ⟨v, rfl, h1, h3, Side.step (o := kernT K k) (kernT K _) h2 (fun _ h => Or.inl h) (only_T h3) l1 h⟩
theorem tside_rbelow (hk : Sound k) (e s : Nat) (he : e < 4) (hs : s < 8) (h : Side w W (l1 ++ kernT K k :: l2)) :
    Calls Tryz.prog 26 #[.pointer (some ⟨K, 0, none⟩), .agg #[.int .i64 (e : Int), .int .i64 (s : Int)]] W fun x W' => ∃ v, x = .returned v ∧ SliceIs W' v (belowL k (e * 8 + s) 32).length (placesV (belowL k (e * 8 + s) 32)) ∧ Below W.heap.size W W' ∧ Side w W' (l1 ++ kernT K k :: l2) := by
  refine (kref_below K k hk e s he hs W (Side.at (o := kernT K k) l1 h)).mono ?_
  rintro x W' ⟨v, rfl, h1, hb⟩
  exact ⟨v, rfl, own_slice h1, hb, h.under hb⟩
theorem tside_same (E : Nat) (hE : k.envs = (E : Int)) (hE4 : E ≤ 4) (h : Side w W (l1 ++ treeT H S P k :: l2)) (hK : KernIs W K k) :
    Calls Tryz.prog 28 #[.pointer (some ⟨P, 0, none⟩), .pointer (some ⟨K, 0, none⟩), .int .i64 (E : Int)] W fun x W' => x = .returned (.bool true) ∧ Side w W' (l1 ++ treeT H S P k :: l2) := by
  refine (same_any H E hE hE4 W ⟨Side.at l1 h, hK, Below.refl _ _⟩).mono ?_
  rintro x W' ⟨rfl, hb⟩
  exact ⟨rfl, h.under hb⟩
end
end Go.Proofs.YtmifcfkchnilmaaGreatDoor

