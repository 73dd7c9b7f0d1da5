/- What is proved here: a kernel of package plain in its blocks, and its small functions. Conditions: those that each theorem names. -/
import Derived.Test.YtdfhfmdelinemaaGreatDoorApart
import Derived.Test.YtdfhfmdelinemaaGreatDoorGTreeB
import Derived.Test.YtdfhfmdelinemaaGreatDoorGCell
import Derived.Test.YtdfhfmdelinemaaGreatDoorGParts
namespace Go.Proofs.YtdfhfmdelinemaaGreatDoor
structure Fit (k : KernS) : Prop where
  tree : TreeOk k
  frames : 1 ≤ k.frames ∧ k.frames ≤ 16
  own : ∀ e s : Nat, s < 8 → (k.sl e s).is = true → 0 ≤ (k.sl e s).frame ∧ (k.sl e s).frame < k.frames
  top : ∀ e s : Nat, s < 8 → (k.sl e s).is = true → (k.sl e s).env = -1 → (k.sl e s).rights = 3 ∧ (k.sl e s).slot = 0
  kid : ∀ e s a b : Nat, s < 8 → (k.sl e s).is = true → (k.sl e s).env = (a : Int) → (k.sl e s).slot = (b : Int) → (k.sl e s).frame = (k.sl a b).frame ∧ withinB (k.sl e s).rights (k.sl a b).rights = true
  neat : Neat k
  ent : ∀ e p : Nat, p < 8 → ¬ (k.pt e p).rights = 0 → (1 ≤ (k.pt e p).rights ∧ (k.pt e p).rights ≤ 3) ∧ ∃ s : Nat, s < 8 ∧ (k.pt e p).slot = (s : Int) ∧ (k.sl e s).is = true ∧ (k.pt e p).frame = (k.sl e s).frame
  refs : ∀ f : Int, refsN k f 32 ≤ 7
section
variable {k : KernS}
theorem Fit.sane (h : Fit k) : Sane k := by
  refine ⟨h.tree.envs, ⟨by have := h.frames; omega, h.frames.2⟩, fun e s he hs hi => ?_, fun e s he hs hi h0 => ?_, fun e p he hp hr => ?_⟩
  · have h1 := h.own e s hs hi
    have h2 := h.tree.rights e s hi
    have h3 := h.frames
    exact ⟨by omega, by omega, by omega, by omega⟩
  · have h4 := h.tree.envs
    rcases h.tree.par e s hs hi with h1 | ⟨a, b, h1, h2, h3, h5, _⟩
    · omega
    · omega
  · obtain ⟨_, s, h1, h2, h3, h4⟩ := h.ent e p hp hr
    have h5 := h.own e s h1 h3
    have h6 := h.frames
    exact ⟨by omega, by omega, by omega, by omega⟩
theorem Fit.lt (h : Fit k) {e s : Nat} (hs : s < 8) (hi : (k.sl e s).is = true) : ∃ f : Nat, (k.sl e s).frame = (f : Int) ∧ (f : Int) < k.frames ∧ f < 16 := by
  have h1 := h.own e s hs hi
  have h2 := h.frames
  exact ⟨(k.sl e s).frame.toNat, by omega, by omega, by omega⟩
theorem ofB_pl (k : KernS) (f : Int) {e s : Nat} (hs : s < 8) : ofB k f (e * 8 + s) = ((k.sl e s).is && decide ((k.sl e s).frame = f)) := by
  unfold ofB
  rw [(at_div hs).1, (at_div hs).2]
theorem refsN_put {e s : Nat} {v : SlotV} (hs : s < 8) (hi : (k.sl e s).is = false) (hv : v.is = true) (f : Int) : ∀ n : Nat, refsN (k.setSlot e s v) f n = refsN k f n + if e * 8 + s < n ∧ v.frame = f then 1 else 0
  | 0 => by rw [if_neg (by omega)]; rfl
  | n + 1 => by
    have ih := refsN_put hs hi hv f n
    by_cases hn : n = e * 8 + s
    · subst hn
      have h1 : ofB (k.setSlot e s v) f (e * 8 + s) = decide (v.frame = f) := by
        rw [ofB_pl _ _ hs, set_at, hv, Bool.true_and]
      have h2 : ofB k f (e * 8 + s) = false := by
        rw [ofB_pl _ _ hs, hi, Bool.false_and]
      rw [if_neg (by omega)] at ih
      rw [refsN_no h2]
      by_cases hf : v.frame = f
      · rw [refsN_yes (by rw [h1]; exact decide_eq_true hf), ih, if_pos ⟨by omega, hf⟩]
      · rw [refsN_no (by rw [h1]; exact decide_eq_false hf), ih, if_neg (fun h => hf h.2)]
    · have h1 : ofB (k.setSlot e s v) f n = ofB k f n := by
        unfold ofB
        rw [set_off k v (by omega)]
      have h3 : (if e * 8 + s < n + 1 ∧ v.frame = f then 1 else 0) = if e * 8 + s < n ∧ v.frame = f then 1 else 0 := by
        by_cases h4 : e * 8 + s < n ∧ v.frame = f
        · rw [if_pos h4, if_pos ⟨by omega, h4.2⟩]
        · rw [if_neg h4, if_neg (fun h5 => h4 ⟨by omega, h5.2⟩)]
      rw [h3]
      cases h2 : ofB k f n
      · rw [refsN_no (by rw [h1]; exact h2), refsN_no h2, ih]
      · rw [refsN_yes (by rw [h1]; exact h2), refsN_yes h2, ih]
        omega
theorem refsN_clr {e s : Nat} (hs : s < 8) (hi : (k.sl e s).is = true) (f : Int) : ∀ n : Nat, refsN (clr k e s 8) f n + (if e * 8 + s < n ∧ (k.sl e s).frame = f then 1 else 0) = refsN k f n
  | 0 => by rw [if_neg (by omega)]; rfl
  | n + 1 => by
    have ih := refsN_clr hs hi f n
    by_cases hn : n = e * 8 + s
    · subst hn
      have h1 : ofB (clr k e s 8) f (e * 8 + s) = false := by
        rw [ofB_pl _ _ hs, show (clr k e s 8).sl e s = noSlot from if_pos ⟨rfl, rfl⟩]
        rfl
      have h2 : ofB k f (e * 8 + s) = decide ((k.sl e s).frame = f) := by
        rw [ofB_pl _ _ hs, hi, Bool.true_and]
      rw [if_neg (by omega)] at ih
      rw [refsN_no h1]
      by_cases hf : (k.sl e s).frame = f
      · rw [refsN_yes (by rw [h2]; exact decide_eq_true hf), if_pos ⟨by omega, hf⟩]
        omega
      · rw [refsN_no (by rw [h2]; exact decide_eq_false hf), if_neg (fun h => hf h.2)]
        omega
    · have h1 : ofB (clr k e s 8) f n = ofB k f n := by
        unfold ofB
        rw [show (clr k e s 8).sl (n / 8) (n % 8) = k.sl (n / 8) (n % 8) from if_neg (by omega)]
      have h3 : (if e * 8 + s < n + 1 ∧ (k.sl e s).frame = f then 1 else 0) = if e * 8 + s < n ∧ (k.sl e s).frame = f then 1 else 0 := by
        by_cases h4 : e * 8 + s < n ∧ (k.sl e s).frame = f
        · rw [if_pos h4, if_pos ⟨by omega, h4.2⟩]
        · rw [if_neg h4, if_neg (fun h5 => h4 ⟨by omega, h5.2⟩)]
      rw [h3]
      cases h2 : ofB k f n
      · rw [refsN_no (by rw [h1]; exact h2), refsN_no h2]
        omega
      · rw [refsN_yes (by rw [h1]; exact h2), refsN_yes h2]
        omega
theorem refsN_gone (f0 f : Int) : ∀ (l : List Nat) (k : KernS), l.Nodup → (∀ j, j ∈ l → j < 32 ∧ (k.sl (j / 8) (j % 8)).is = true ∧ (k.sl (j / 8) (j % 8)).frame = f0) → refsN (goneF k l) f 32 + (if f0 = f then l.length else 0) = refsN k f 32
  | [], k, _, _ => by
    show refsN k f 32 + _ = _
    split <;> rfl
  | j :: l, k, hd, hl => by
    obtain ⟨h1, h2, h3⟩ := hl j (List.mem_cons_self ..)
    have hd2 := List.nodup_cons.1 hd
    have ih := refsN_gone f0 f l (clr k (j / 8) (j % 8) 8) hd2.2 fun i hi => by
      obtain ⟨h4, h5, h6⟩ := hl i (List.mem_cons_of_mem _ hi)
      have hne : ¬ (i / 8 = j / 8 ∧ i % 8 = j % 8) := fun h => hd2.1 (by rw [show j = i by omega]; exact hi)
      rw [show (clr k (j / 8) (j % 8) 8).sl (i / 8) (i % 8) = k.sl (i / 8) (i % 8) from if_neg hne]
      exact ⟨h4, h5, h6⟩
    have h7 := refsN_clr (k := k) (e := j / 8) (s := j % 8) (by omega) h2 f 32
    show refsN (goneF (clr k (j / 8) (j % 8) 8) l) f 32 + _ = _
    rw [List.length_cons]
    by_cases hf : f0 = f
    · rw [if_pos hf] at ih ⊢
      rw [if_pos ⟨by omega, h3.trans hf⟩] at h7
      omega
    · rw [if_neg hf] at ih ⊢
      rw [if_neg (fun h => hf (h3.symm.trans h.2))] at h7
      omega
theorem Fit.from_frame (h : Fit k) {x y : Nat} (hy : y < 8) : ∀ (n e s : Nat), s < 8 → (k.sl e s).is = true → fromB k (x * 8 + y) n (e * 8 + s) = true → (k.sl e s).frame = (k.sl x y).frame
  | 0, _, _, _, _, hf => Bool.noConfusion (show false = true from hf)
  | n + 1, e, s, hs, hi, hf => by
    rcases h.tree.par e s hs hi with h1 | ⟨a, b, h1, h2, h3, h4, h5⟩
    · rw [fromB_none hs (by rw [h1]; rintro ⟨_, h⟩; exact absurd h (by decide))] at hf
      exact absurd hf (by decide)
    · rw [fromB_some hs hi h1 h2, Bool.or_eq_true, decide_eq_true_eq] at hf
      have h6 := (h.kid e s a b hs hi h1 h2).1
      rcases hf with h7 | h7
      · obtain rfl : a = x := by omega
        obtain rfl : b = y := by omega
        exact h6
      · exact h6.trans (h.from_frame hy n a b h4 h5 h7)
theorem Fit.gone_of (h : Fit k) {x y : Nat} (hy : y < 8) (hi : (k.sl x y).is = true) (it : Bool) : ∀ j, j ∈ goneL k (x * 8 + y) it → j < 32 ∧ (k.sl (j / 8) (j % 8)).is = true ∧ (k.sl (j / 8) (j % 8)).frame = (k.sl x y).frame := by
  intro j hj
  rw [goneL_mem] at hj
  obtain ⟨h1, h2⟩ := hj
  have hj8 : j = j / 8 * 8 + j % 8 := by omega
  rcases h2 with ⟨_, h2⟩ | h2
  · subst h2
    rw [(at_div hy).1, (at_div hy).2]
    exact ⟨h1, hi, rfl⟩
  · cases h3 : (k.sl (j / 8) (j % 8)).is
    · rw [hj8, fromB_empty (by omega) h3] at h2
      exact absurd h2 (by decide)
    · rw [hj8] at h2
      exact ⟨h1, rfl, h.from_frame hy 32 _ _ (by omega) h3 h2⟩
theorem goneL_nodup (k : KernS) (q : Nat) (it : Bool) : (goneL k q it).Nodup := List.Pairwise.filter _ List.nodup_range
theorem goneF_sl8 : ∀ (l : List Nat) (k : KernS) (a b : Nat), 8 ≤ b → (goneF k l).sl a b = k.sl a b
  | [], _, _, _, _ => rfl
  | j :: l, k, a, b, hb => by
    show (goneF (clr k (j / 8) (j % 8) 8) l).sl a b = _
    rw [goneF_sl8 l _ a b hb]
    exact if_neg (by omega)
theorem goneF_pt8 : ∀ (l : List Nat) (k : KernS) (a p : Nat), 8 ≤ p → (goneF k l).pt a p = k.pt a p
  | [], _, _, _, _ => rfl
  | j :: l, k, a, p, hp => by
    show (goneF (clr k (j / 8) (j % 8) 8) l).pt a p = _
    rw [goneF_pt8 l _ a p hp]
    exact if_neg (by omega)
theorem goneF_cores (l : List Nat) : ∀ k : KernS, (goneF k l).cores = k.cores := by
  induction l with
  | nil => exact fun _ => rfl
  | cons j l ih => exact fun k => ih (clr k (j / 8) (j % 8) 8)
theorem hitP_ext {l l' : List Nat} (h : ∀ x, x ∈ l ↔ x ∈ l') (e p : Nat) : hitP k l e p = hitP k l' e p := by
  unfold hitP
  rw [Bool.eq_iff_iff, List.any_eq_true, List.any_eq_true]
  exact ⟨fun ⟨x, hx, h1⟩ => ⟨x, (h x).1 hx, h1⟩, fun ⟨x, hx, h1⟩ => ⟨x, (h x).2 hx, h1⟩⟩
theorem KernS.ext' {a b : KernS} (h1 : a.cores = b.cores) (h2 : a.envs = b.envs) (h3 : a.frames = b.frames) (h4 : a.sl = b.sl) (h5 : a.pt = b.pt) (h6 : a.mm = b.mm) : a = b := by
  cases a
  cases b
  dsimp only at h1 h2 h3 h4 h5 h6
  subst h1 h2 h3 h4 h5 h6
  rfl
theorem goneF_ext {l l' : List Nat} (h : ∀ x, x ∈ l ↔ x ∈ l') : goneF k l = goneF k l' := by
  refine KernS.ext' ((goneF_cores l k).trans (goneF_cores l' k).symm) ((goneF_sizes l k).1.trans (goneF_sizes l' k).1.symm) ((goneF_sizes l k).2.trans (goneF_sizes l' k).2.symm) ?_ ?_ ((goneF_mm l k).trans (goneF_mm l' k).symm)
  · funext a b
    rcases Nat.lt_or_ge b 8 with hb | hb
    · rw [goneF_sl l k a b hb, goneF_sl l' k a b hb]
      by_cases h1 : a * 8 + b ∈ l
      · rw [if_pos h1, if_pos ((h _).1 h1)]
      · rw [if_neg h1, if_neg (fun h2 => h1 ((h _).2 h2))]
    · rw [goneF_sl8 l k a b hb, goneF_sl8 l' k a b hb]
  · funext a p
    rcases Nat.lt_or_ge p 8 with hp | hp
    · rw [goneF_pt l k a p hp, goneF_pt l' k a p hp, hitP_ext h]
    · rw [goneF_pt8 l k a p hp, goneF_pt8 l' k a p hp]
theorem gone_below (q : Nat) : goneL k q false = belowL k q 32 := by
  unfold goneL belowL
  refine congrArg (fun g => List.filter g (List.range 32)) (funext fun p => ?_)
  rw [Bool.false_and, Bool.false_or]
theorem gone_drop {q : Nat} (hq : q < 32) : goneF k (belowL k q 32 ++ [q]) = goneF k (goneL k q true) := by
  refine goneF_ext fun x => ?_
  rw [List.mem_append, List.mem_singleton, goneL_mem]
  unfold belowL
  rw [List.mem_filter, List.mem_range]
  constructor
  · rintro (⟨h1, h2⟩ | rfl)
    · exact ⟨h1, Or.inr h2⟩
    · exact ⟨hq, Or.inl ⟨rfl, rfl⟩⟩
  · rintro ⟨h1, ⟨_, rfl⟩ | h2⟩
    · exact Or.inr rfl
    · exact Or.inl ⟨h1, h2⟩
theorem TreeOk.not_self (h : TreeOk k) {x y : Nat} (hy : y < 8) (hi : (k.sl x y).is = true) : fromB k (x * 8 + y) 32 (x * 8 + y) = false := by
  obtain ⟨n, hn⟩ := h.ends x y hy hi
  obtain ⟨m, hm⟩ := min_is n hn
  have key : ∀ (n e s : Nat), s < 8 → (k.sl e s).is = true → fromB k (x * 8 + y) n (e * 8 + s) = true → ∀ m, endB k m (e * 8 + s) = true → ∃ m', m' < m ∧ endB k m' (x * 8 + y) = true := by
    intro n
    induction n with
    | zero => exact fun _ _ _ _ h => Bool.noConfusion (show false = true from h)
    | succ n ih =>
      intro e s hs hi hf m hm
      rcases h.par e s hs hi with h1 | ⟨a, b, h1, h2, h3, h4, h5⟩
      · rw [fromB_none hs (by rw [h1]; rintro ⟨_, h⟩; exact absurd h (by decide))] at hf
        exact absurd hf (by decide)
      · cases m with
        | zero => exact Bool.noConfusion (show false = true from hm)
        | succ m =>
          rw [endB_up hs h1 h2] at hm
          rw [fromB_some hs hi h1 h2, Bool.or_eq_true, decide_eq_true_eq] at hf
          rcases hf with h6 | h6
          · exact ⟨m, by omega, by rw [← h6]; exact hm⟩
          · obtain ⟨m', h7, h8⟩ := ih a b h4 h5 h6 m hm
            exact ⟨m', by omega, h8⟩
  cases hf : fromB k (x * 8 + y) 32 (x * 8 + y)
  · rfl
  · obtain ⟨m', h1, h2⟩ := key 32 x y hy hi hf m hm.1
    rw [hm.2 m' h1] at h2
    exact absurd h2 (by decide)
theorem filter_more (p : Nat → Bool) (q : Nat) (hp : p q = false) : ∀ n, q < n → ((List.range n).filter fun x => (true && decide (x = q)) || p x).length = ((List.range n).filter p).length + 1
  | 0, h => absurd h (Nat.not_lt_zero _)
  | n + 1, h => by
    rw [List.range_succ, List.filter_append, List.filter_append, List.length_append, List.length_append]
    by_cases hn : q = n
    · subst hn
      have h1 : ((List.range q).filter fun x => (true && decide (x = q)) || p x) = (List.range q).filter p := by
        refine List.filter_congr fun x hx => ?_
        rw [decide_eq_false (by have := List.mem_range.1 hx; omega), Bool.and_false, Bool.false_or]
      rw [h1]
      simp [hp]
    · rw [filter_more p q hp n (by omega)]
      have h2 : [n].filter (fun x => (true && decide (x = q)) || p x) = [n].filter p := by
        refine List.filter_congr fun x hx => ?_
        obtain rfl : x = n := by simpa using hx
        rw [decide_eq_false (by omega), Bool.and_false, Bool.false_or]
      rw [h2]
      omega
theorem drop_len (h : TreeOk k) {x y : Nat} (hx : x < 4) (hy : y < 8) (hi : (k.sl x y).is = true) : (goneL k (x * 8 + y) true).length = (belowL k (x * 8 + y) 32 ++ [x * 8 + y]).length := by
  rw [List.length_append]
  exact filter_more (fromB k (x * 8 + y) 32) (x * 8 + y) (h.not_self hy hi) 32 (by omega)
theorem endB_sl {k' : KernS} (h : k'.sl = k.sl) : ∀ n p, endB k' n p = endB k n p
  | 0, _ => rfl
  | n + 1, p => by
    rw [endB_succ, endB_succ, h]
    split
    · exact endB_sl h n _
    · rfl
theorem TreeOk.of_sl {k' : KernS} (h : TreeOk k) (e1 : k'.sl = k.sl) (e2 : k'.envs = k.envs) : TreeOk k' := by
  refine ⟨by rw [e2]; exact h.envs, by rw [e1, e2]; exact h.out, by rw [e1]; exact h.rights, by rw [e1, e2]; exact h.par, fun e s hs hi => ?_⟩
  rw [e1] at hi
  obtain ⟨n, hn⟩ := h.ends e s hs hi
  exact ⟨n, by rw [endB_sl e1]; exact hn⟩
theorem refsN_sl {k' : KernS} (h : k'.sl = k.sl) (f : Int) (n : Nat) : refsN k' f n = refsN k f n := by
  unfold refsN ofB
  rw [h]
theorem Fit.mem {k' : KernS} (h : Fit k) (h1 : k'.envs = k.envs) (h2 : k'.frames = k.frames) (h3 : k'.sl = k.sl) (h4 : k'.pt = k.pt) : Fit k' :=
  ⟨h.tree.of_sl h3 h1, by rw [h2]; exact h.frames, by rw [h3, h2]; exact h.own, by rw [h3]; exact h.top, by rw [h3]; exact h.kid, h.neat.of h4, by rw [h3, h4]; exact h.ent, fun f => by rw [refsN_sl h3]; exact h.refs f⟩
theorem Fit.entry (h : Fit k) {e p : Nat} {v : PteV} (h0 : v.rights = 0 → v = noPte) (hv : ¬ v.rights = 0 → (1 ≤ v.rights ∧ v.rights ≤ 3) ∧ ∃ s : Nat, s < 8 ∧ v.slot = (s : Int) ∧ (k.sl e s).is = true ∧ v.frame = (k.sl e s).frame) : Fit (k.setPte e p v) := by
  refine ⟨h.tree.of_sl rfl rfl, h.frames, h.own, h.top, h.kid, h.neat.setPte h0, fun a q hq hr => ?_, fun f => by rw [show refsN (k.setPte e p v) f 32 = refsN k f 32 from refsN_sl (k := k) (k' := k.setPte e p v) rfl f 32]; exact h.refs f⟩
  have e1 : (k.setPte e p v).pt a q = if a = e ∧ q = p then v else k.pt a q := rfl
  rw [e1] at hr ⊢
  by_cases hc : a = e ∧ q = p
  · rw [if_pos hc] at hr ⊢
    obtain ⟨rfl, rfl⟩ := hc
    exact hv hr
  · rw [if_neg hc] at hr ⊢
    exact h.ent a q hq hr
theorem Fit.put (h : Fit k) {e s : Nat} {v : SlotV} (he : (e : Int) < k.envs) (hs : s < 8) (hi : (k.sl e s).is = false) (hv : v.is = true) (hf : 0 ≤ v.frame ∧ v.frame < k.frames) (hr : 1 ≤ v.rights ∧ v.rights ≤ 3)
    (hp : (v.env = -1 ∧ v.rights = 3 ∧ v.slot = 0) ∨ ∃ a b : Nat, v.env = (a : Int) ∧ v.slot = (b : Int) ∧ (a : Int) < k.envs ∧ b < 8 ∧ (k.sl a b).is = true ∧ v.frame = (k.sl a b).frame ∧ withinB v.rights (k.sl a b).rights = true) (h7 : refsN k v.frame 32 ≤ 6) : Fit (k.setSlot e s v) := by
  have hcase : ∀ a b : Nat, ((k.setSlot e s v).sl a b).is = true → (a = e ∧ b = s) ∨ (¬ (a = e ∧ b = s) ∧ (k.sl a b).is = true) := fun a b h => by
    by_cases hc : a = e ∧ b = s
    · exact Or.inl hc
    · rw [set_off k v hc] at h
      exact Or.inr ⟨hc, h⟩
  have hold : ∀ a b : Nat, (k.sl a b).is = true → (k.setSlot e s v).sl a b = k.sl a b := fun a b h => set_off k v (by
    rintro ⟨rfl, rfl⟩
    rw [hi] at h
    exact absurd h (by decide))
  refine ⟨h.tree.put he hs hi hr ?_, h.frames, fun a b hb hi2 => ?_, fun a b hb hi2 h0 => ?_, fun a b c d hb hi2 h1 h2 => ?_, h.neat.of rfl, fun a p hp hr => ?_, fun f => ?_⟩
  · rcases hp with h1 | ⟨a, b, h1, h2, h3, h4, h5, _⟩
    · exact Or.inl h1.1
    · exact Or.inr ⟨a, b, h1, h2, h3, h4, h5⟩
  · rcases hcase a b hi2 with ⟨rfl, rfl⟩ | ⟨hc, g⟩
    · rw [set_at]
      exact hf
    · rw [set_off k v hc]
      exact h.own a b hb g
  · rcases hcase a b hi2 with ⟨rfl, rfl⟩ | ⟨hc, g⟩
    · rw [set_at] at h0 ⊢
      rcases hp with h1 | ⟨c, d, h1, _⟩
      · exact h1.2
      · omega
    · rw [set_off k v hc] at h0 ⊢
      exact h.top a b hb g h0
  · rcases hcase a b hi2 with ⟨rfl, rfl⟩ | ⟨hc, g⟩
    · rw [set_at] at h1 h2 ⊢
      rcases hp with h3 | ⟨x, y, h3, h4, h5, h6, h7, h8, h9⟩
      · omega
      · obtain rfl : c = x := by omega
        obtain rfl : d = y := by omega
        rw [hold c d h7]
        exact ⟨h8, h9⟩
    · rw [set_off k v hc] at h1 h2 ⊢
      have h3 := h.kid a b c d hb g h1 h2
      rcases h.tree.par a b hb g with h4 | ⟨x, y, h4, h5, h6, h7, h8⟩
      · omega
      · obtain rfl : c = x := by omega
        obtain rfl : d = y := by omega
        rw [hold c d h8]
        exact h3
  · obtain ⟨h1, t, h2, h3, h4, h5⟩ := h.ent a p hp hr
    exact ⟨h1, t, h2, h3, by rw [hold a t h4]; exact h4, by rw [hold a t h4]; exact h5⟩
  · rw [refsN_put hs hi hv f 32]
    have h8 := h.refs f
    by_cases h9 : e * 8 + s < 32 ∧ v.frame = f
    · rw [if_pos h9, ← h9.2]
      omega
    · rw [if_neg h9]
      omega
theorem Fit.cut (h : Fit k) (l : List Nat) (hl : ∀ e s a b : Nat, s < 8 → (k.sl e s).is = true → (k.sl e s).env = (a : Int) → (k.sl e s).slot = (b : Int) → a * 8 + b ∈ l → e * 8 + s ∈ l) : Fit (goneF k l) := by
  have hz := goneF_sizes l k
  have hle : ∀ f, refsN (goneF k l) f 32 ≤ refsN k f 32 := fun f => by
    unfold refsN
    have : ∀ L : List Nat, (L.filter (ofB (goneF k l) f)).length ≤ (L.filter (ofB k f)).length := by
      intro L
      induction L with
      | nil => exact Nat.le_refl _
      | cons j L ih =>
        rw [List.filter_cons, List.filter_cons]
        by_cases h1 : ofB (goneF k l) f j = true
        · have h2 : ofB k f j = true := by
            unfold ofB at h1 ⊢
            rw [Bool.and_eq_true] at h1 ⊢
            obtain ⟨_, h3, h4⟩ := goneF_is (show j % 8 < 8 by omega) h1.1
            rw [h3] at h1
            exact h1
          rw [if_pos h1, if_pos h2, List.length_cons, List.length_cons]
          omega
        · rw [if_neg h1]
          split
          · rw [List.length_cons]
            omega
          · exact ih
    exact this _
  refine ⟨h.tree.cut l hl, by rw [hz.2]; exact h.frames, fun e s hs hi => ?_, fun e s hs hi h0 => ?_, fun e s a b hs hi h1 h2 => ?_, h.neat.gone l, fun e p hp hr => ?_, fun f => Nat.le_trans (hle f) (h.refs f)⟩
  · obtain ⟨_, h2, h3⟩ := goneF_is hs hi
    rw [h2, hz.2]
    exact h.own e s hs h3
  · obtain ⟨_, h2, h3⟩ := goneF_is hs hi
    rw [h2] at h0 ⊢
    exact h.top e s hs h3 h0
  · obtain ⟨h3, h4, h5⟩ := goneF_is hs hi
    rw [h4] at h1 h2 ⊢
    have h6 := h.kid e s a b hs h5 h1 h2
    rcases h.tree.par e s hs h5 with h7 | ⟨x, y, h7, h8, h9, h10, h11⟩
    · omega
    · obtain rfl : a = x := by omega
      obtain rfl : b = y := by omega
      rw [goneF_sl l k a b h10, if_neg fun hm => h3 (hl e s a b hs h5 h1 h2 hm)]
      exact h6
  · rw [goneF_pt l k e p hp] at hr ⊢
    by_cases hc : ¬ (k.pt e p).rights = 0 ∧ hitP k l e p = true
    · rw [if_pos hc] at hr
      exact absurd rfl hr
    · rw [if_neg hc] at hr ⊢
      obtain ⟨h0, s, h1, h2, h3, h4⟩ := h.ent e p hp hr
      refine ⟨h0, s, h1, h2, ?_⟩
      rw [goneF_sl l k e s h1, if_neg (fun hm => hc ⟨hr, List.any_eq_true.2 ⟨_, hm, decide_eq_true ⟨by omega, by rw [h2]; congr 1; omega⟩⟩⟩)]
      exact ⟨h3, h4⟩
theorem Fit.gone (h : Fit k) (q : Nat) (it : Bool) : Fit (goneF k (goneL k q it)) := by
  refine h.cut _ fun e s a b hs hi h1 h2 hm => ?_
  have he := (h.tree.lt hi).2
  rcases h.tree.par e s hs hi with h3 | ⟨c, d, h3, h4, h5, h6, h7⟩
  · omega
  · obtain rfl : a = c := by omega
    obtain rfl : b = d := by omega
    rw [goneL_mem] at hm ⊢
    refine ⟨by omega, Or.inr ?_⟩
    rw [fromB_par h.tree hs hi h1 h2 h6 h7]
    rcases hm.2 with ⟨_, h8⟩ | h8
    · rw [decide_eq_true h8, Bool.true_or]
    · rw [h8, Bool.or_true]
theorem Fit.new {c e f : Int} (he : 1 ≤ e ∧ e ≤ 4) (hf : 1 ≤ f ∧ f ≤ 16) : Fit (newK c e f) :=
  ⟨(TreeOk.new he).of_sl rfl rfl, hf, fun _ _ _ h => absurd (show false = true from h) (by decide), fun _ _ _ h => absurd (show false = true from h) (by decide), fun _ _ _ _ _ h => absurd (show false = true from h) (by decide), Neat.new c e f, fun _ _ _ h => absurd rfl h, fun x => by
    have h1 : ∀ n, refsN (newK c e f) x n = 0 := fun n => by
      induction n with
      | zero => rfl
      | succ n ih => rw [refsN_no (show ofB (newK c e f) x n = false from rfl), ih]
    rw [h1]
    omega⟩
theorem filter_head (p : Nat → Bool) : ∀ (n f : Nat) (r : List Nat), (List.range n).filter p = f :: r → f < n ∧ p f = true ∧ ∀ i, i < f → p i = false
  | 0, _, _, h => by simp at h
  | n + 1, f, r, h => by
    rw [List.range_succ, List.filter_append] at h
    rcases hq : (List.range n).filter p with _ | ⟨g, t⟩
    · rw [hq, List.nil_append] at h
      have hn : p n = true := by
        cases hp : p n
        · rw [List.filter_cons, hp] at h
          simp at h
        · rfl
      rw [List.filter_cons, hn] at h
      simp at h
      obtain ⟨rfl, _⟩ := h
      refine ⟨by omega, hn, fun i hi => ?_⟩
      cases hp : p i
      · rfl
      · have : i ∈ (List.range n).filter p := List.mem_filter.2 ⟨List.mem_range.2 hi, hp⟩
        rw [hq] at this
        exact absurd this (by simp)
    · rw [hq, List.cons_append] at h
      injection h with h1 h2
      subst h1
      obtain ⟨h3, h4, h5⟩ := filter_head p n g t hq
      exact ⟨by omega, h4, h5⟩
theorem filter_none (p : Nat → Bool) {n : Nat} (h : (List.range n).filter p = []) : ∀ i, i < n → p i = false := fun i hi => by
  cases hp : p i
  · rfl
  · have : i ∈ (List.range n).filter p := List.mem_filter.2 ⟨List.mem_range.2 hi, hp⟩
    rw [h] at this
    exact absurd this (by simp)
end
end Go.Proofs.YtdfhfmdelinemaaGreatDoor
namespace Go.Proofs.YtdfhfmdelinemaaGreatDoor
open Go.RowKit Go.Extern.Stop Go.Stop Go.Extern Go.WalkArith
def pteG (k : KernS) (e j : Nat) : Int := if j % 3 = 0 then (k.pt e (j / 3)).frame else if j % 3 = 1 then (k.pt e (j / 3)).slot else (k.pt e (j / 3)).rights
theorem pteG_at (k : KernS) (e p : Nat) : pteG k e (p * 3) = (k.pt e p).frame ∧ pteG k e (p * 3 + 1) = (k.pt e p).slot ∧ pteG k e (p * 3 + 2) = (k.pt e p).rights := by
  unfold pteG
  refine ⟨?_, ?_, ?_⟩
  · rw [if_pos (by omega), show p * 3 / 3 = p by omega]
  · rw [if_neg (by omega), if_pos (by omega), show (p * 3 + 1) / 3 = p by omega]
  · rw [if_neg (by omega), if_neg (by omega), show (p * 3 + 2) / 3 = p by omega]
def mmG (k : KernS) (j : Nat) : Int := k.mm (j / 16) (j % 16)
theorem mmG_at (k : KernS) {f a : Nat} (ha : a < 16) : mmG k (f * 16 + a) = k.mm f a := by
  unfold mmG
  rw [show (f * 16 + a) / 16 = f by omega, show (f * 16 + a) % 16 = a by omega]
def refsI (k : KernS) (f : Nat) : Int := ((refsN k (f : Int) 32 : Nat) : Int)
structure PAt (w : World) (B : Nat → Nat) (E N : Nat) (kt kp : KernS) (r g : Nat → Int) : Prop where
  ne : ∀ i j, i < 8 + E → j < 8 + E → i ≠ j → B i ≠ B j
  lt : ∀ i, i < 8 + E → B i < w.heap.size
  c0 : w.cell? ⟨B 0, 0, none⟩ = some (.slice (some ⟨B 1, 0, none⟩) E E)
  c1 : w.cell? ⟨B 0, 1, none⟩ = some (.pointer (some ⟨B 2, 0, none⟩))
  c2 : w.cell? ⟨B 0, 2, none⟩ = some (.pointer (some ⟨B 4, 0, none⟩))
  c3 : w.cell? ⟨B 0, 3, none⟩ = some (.pointer (some ⟨B 6, 0, none⟩))
  row : ∀ e, e < E → w.cell? ⟨B 1, e, none⟩ = some (.pointer (some ⟨B (8 + e), 0, none⟩))
  tree : TreeIs w (B 2) (B 3) E kt
  pool : PoolIs w (B 4) (B 5) N r
  mem : MemIs w (B 6) (B 7) N g
  tabs : ∀ e, e < E → TabIs w (B (8 + e)) (pteG kp e)
  eE : 1 ≤ E ∧ E ≤ 4
  nN : 1 ≤ N ∧ N ≤ 16
theorem MemIs.foot {w w' : World} {M F n : Nat} {g : Nat → Int} (h : MemIs w M F n g) (hs : w.heap.size ≤ w'.heap.size) (hM : w'.heap[M]? = w.heap[M]?) (hF : w'.heap[F]? = w.heap[F]?) : MemIs w' M F n g := by
  obtain ⟨h1, h2, h3, h4, h5, h6⟩ := h
  exact ⟨h1, (World.cell?_of_block (a := ⟨M, 0, none⟩) hM).trans h2, fun j hj => (World.cell?_of_block (a := ⟨F, j, none⟩) hF).trans (h3 j hj), fun j => (World.frozen?_of_block (a := ⟨F, j, none⟩) hF).trans (h4 j), Nat.lt_of_lt_of_le h5 hs, Nat.lt_of_lt_of_le h6 hs⟩
theorem TabIs.foot {w w' : World} {T : Nat} {g : Nat → Int} (h : TabIs w T g) (hs : w.heap.size ≤ w'.heap.size) (hT : w'.heap[T]? = w.heap[T]?) : TabIs w' T g := by
  obtain ⟨h1, h2, h3⟩ := h
  exact ⟨fun j hj => (World.cell?_of_block (a := ⟨T, j, none⟩) hT).trans (h1 j hj), fun j => (World.frozen?_of_block (a := ⟨T, j, none⟩) hT).trans (h2 j), Nat.lt_of_lt_of_le h3 hs⟩
theorem TabIs.congr {w : World} {T : Nat} {g g' : Nat → Int} (h : TabIs w T g) (he : ∀ j, j < 24 → g' j = g j) : TabIs w T g' :=
  ⟨fun j hj => by rw [he j hj]; exact h.1 j hj, h.2⟩
theorem MemIs.congr {w : World} {M F n : Nat} {g g' : Nat → Int} (h : MemIs w M F n g) (he : ∀ j, j < n * 16 → g' j = g j) : MemIs w M F n g' :=
  ⟨h.1, h.2.1, fun j hj => by rw [he j hj]; exact h.2.2.1 j hj, h.2.2.2⟩
theorem TreeIs.same {w : World} {P G E : Nat} {k k' : KernS} (h : TreeIs w P G E k) (hk : TreeOk k') (hE : k'.envs = k.envs) (hs : ∀ e s, e < E → s < 8 → k'.sl e s = k.sl e s) : TreeIs w P G E k' :=
  ⟨hk, hE.trans h.envs, h.ne, h.top, ⟨fun j hj => by
    have e1 : treeG k' j = treeG k j := by
      unfold treeG
      rw [hs (j / 32) (j % 32 / 4) (by omega) (by omega)]
    rw [e1]
    exact h.nums.1 j hj, h.nums.2⟩, h.lp⟩
def Blk (B : Nat → Nat) (E i : Nat) : Prop := ∃ j, j < 8 + E ∧ B j = i
section
variable {w w' : World} {B : Nat → Nat} {E N : Nat} {kt kp kt' kp' : KernS} {r g r' g' : Nat → Int}
theorem PAt.foot (h : PAt w B E N kt kp r g) (hs : w.heap.size ≤ w'.heap.size) (hb : ∀ i, i < 8 + E → w'.heap[B i]? = w.heap[B i]?) : PAt w' B E N kt kp r g := by
  have he := h.eE
  have hc := fun (i o : Nat) (hi : i < 8 + E) => World.cell?_of_block (a := ⟨B i, o, none⟩) (hb i hi)
  exact ⟨h.ne, fun i hi => Nat.lt_of_lt_of_le (h.lt i hi) hs, (hc 0 0 (by omega)).trans h.c0, (hc 0 1 (by omega)).trans h.c1, (hc 0 2 (by omega)).trans h.c2, (hc 0 3 (by omega)).trans h.c3,
    fun e h1 => (hc 1 e (by omega)).trans (h.row e h1), h.tree.foot hs (hb 2 (by omega)) (hb 3 (by omega)), h.pool.foot hs (hb 4 (by omega)) (hb 5 (by omega)), h.mem.foot hs (hb 6 (by omega)) (hb 7 (by omega)),
    fun e h1 => (h.tabs e h1).foot hs (hb (8 + e) (by omega)), h.eE, h.nN⟩
theorem PAt.later (h : PAt w B E N kt kp r g) (hb : Below w.heap.size w w') : PAt w' B E N kt kp r g := h.foot hb.size fun i hi => hb.block _ (h.lt i hi)
theorem PAt.off (h : PAt w B E N kt kp r g) {j : Nat} (hj : j < 8 + E) (ho : OnlyT (B j) w w') {i : Nat} (hi : i < 8 + E) (hne : i ≠ j) : w'.heap[B i]? = w.heap[B i]? :=
  ho.block _ (h.lt i hi) fun e => h.ne i j hi hj hne (by injection e)
theorem PAt.tree_step (h : PAt w B E N kt kp r g) (ho : OnlyT (B 3) w w') (ht : TreeIs w' (B 2) (B 3) E kt') : PAt w' B E N kt' kp r g := by
  have he := h.eE
  have hb := fun i (hi : i < 8 + E) (hn : i ≠ 3) => h.off (j := 3) (by omega) ho hi hn
  have hs := ho.size
  have hc := fun (i o : Nat) (hi : i < 8 + E) (hn : i ≠ 3) => World.cell?_of_block (a := ⟨B i, o, none⟩) (hb i hi hn)
  exact ⟨h.ne, fun i hi => Nat.lt_of_lt_of_le (h.lt i hi) hs, (hc 0 0 (by omega) (by omega)).trans h.c0, (hc 0 1 (by omega) (by omega)).trans h.c1, (hc 0 2 (by omega) (by omega)).trans h.c2, (hc 0 3 (by omega) (by omega)).trans h.c3,
    fun e h1 => (hc 1 e (by omega) (by omega)).trans (h.row e h1), ht, h.pool.foot hs (hb 4 (by omega) (by omega)) (hb 5 (by omega) (by omega)), h.mem.foot hs (hb 6 (by omega) (by omega)) (hb 7 (by omega) (by omega)),
    fun e h1 => (h.tabs e h1).foot hs (hb (8 + e) (by omega) (by omega)), h.eE, h.nN⟩
theorem PAt.pool_step (h : PAt w B E N kt kp r g) (ho : OnlyT (B 5) w w') (ht : PoolIs w' (B 4) (B 5) N r') : PAt w' B E N kt kp r' g := by
  have he := h.eE
  have hb := fun i (hi : i < 8 + E) (hn : i ≠ 5) => h.off (j := 5) (by omega) ho hi hn
  have hs := ho.size
  have hc := fun (i o : Nat) (hi : i < 8 + E) (hn : i ≠ 5) => World.cell?_of_block (a := ⟨B i, o, none⟩) (hb i hi hn)
  exact ⟨h.ne, fun i hi => Nat.lt_of_lt_of_le (h.lt i hi) hs, (hc 0 0 (by omega) (by omega)).trans h.c0, (hc 0 1 (by omega) (by omega)).trans h.c1, (hc 0 2 (by omega) (by omega)).trans h.c2, (hc 0 3 (by omega) (by omega)).trans h.c3,
    fun e h1 => (hc 1 e (by omega) (by omega)).trans (h.row e h1), h.tree.foot hs (hb 2 (by omega) (by omega)) (hb 3 (by omega) (by omega)), ht, h.mem.foot hs (hb 6 (by omega) (by omega)) (hb 7 (by omega) (by omega)),
    fun e h1 => (h.tabs e h1).foot hs (hb (8 + e) (by omega) (by omega)), h.eE, h.nN⟩
theorem PAt.mem_step (h : PAt w B E N kt kp r g) (ho : OnlyT (B 7) w w') (ht : MemIs w' (B 6) (B 7) N g') : PAt w' B E N kt kp r g' := by
  have he := h.eE
  have hb := fun i (hi : i < 8 + E) (hn : i ≠ 7) => h.off (j := 7) (by omega) ho hi hn
  have hs := ho.size
  have hc := fun (i o : Nat) (hi : i < 8 + E) (hn : i ≠ 7) => World.cell?_of_block (a := ⟨B i, o, none⟩) (hb i hi hn)
  exact ⟨h.ne, fun i hi => Nat.lt_of_lt_of_le (h.lt i hi) hs, (hc 0 0 (by omega) (by omega)).trans h.c0, (hc 0 1 (by omega) (by omega)).trans h.c1, (hc 0 2 (by omega) (by omega)).trans h.c2, (hc 0 3 (by omega) (by omega)).trans h.c3,
    fun e h1 => (hc 1 e (by omega) (by omega)).trans (h.row e h1), h.tree.foot hs (hb 2 (by omega) (by omega)) (hb 3 (by omega) (by omega)), h.pool.foot hs (hb 4 (by omega) (by omega)) (hb 5 (by omega) (by omega)), ht,
    fun e h1 => (h.tabs e h1).foot hs (hb (8 + e) (by omega) (by omega)), h.eE, h.nN⟩
theorem PAt.tab_step (h : PAt w B E N kt kp r g) {e : Nat} (he : e < E) (ho : OnlyT (B (8 + e)) w w') {g1 : Nat → Int} (ht : TabIs w' (B (8 + e)) g1) (h1 : ∀ j, j < 24 → pteG kp' e j = g1 j) (h2 : ∀ e', e' ≠ e → ∀ j, j < 24 → pteG kp' e' j = pteG kp e' j) : PAt w' B E N kt kp' r g := by
  have hE := h.eE
  have hb := fun i (hi : i < 8 + E) (hn : i ≠ 8 + e) => h.off (j := 8 + e) (by omega) ho hi hn
  have hs := ho.size
  have hc := fun (i o : Nat) (hi : i < 8 + E) (hn : i ≠ 8 + e) => World.cell?_of_block (a := ⟨B i, o, none⟩) (hb i hi hn)
  refine ⟨h.ne, fun i hi => Nat.lt_of_lt_of_le (h.lt i hi) hs, (hc 0 0 (by omega) (by omega)).trans h.c0, (hc 0 1 (by omega) (by omega)).trans h.c1, (hc 0 2 (by omega) (by omega)).trans h.c2, (hc 0 3 (by omega) (by omega)).trans h.c3,
    fun e h1 => (hc 1 e (by omega) (by omega)).trans (h.row e h1), h.tree.foot hs (hb 2 (by omega) (by omega)) (hb 3 (by omega) (by omega)), h.pool.foot hs (hb 4 (by omega) (by omega)) (hb 5 (by omega) (by omega)), h.mem.foot hs (hb 6 (by omega) (by omega)) (hb 7 (by omega) (by omega)),
    fun e' h3 => ?_, h.eE, h.nN⟩
  by_cases h4 : e' = e
  · subst h4
    exact ht.congr h1
  · exact ((h.tabs e' h3).foot hs (hb (8 + e') (by omega) (by omega))).congr (h2 e' h4)
theorem PAt.congr (h : PAt w B E N kt kp r g) (h1 : TreeOk kt') (h2 : kt'.envs = kt.envs) (h3 : ∀ e s, e < E → s < 8 → kt'.sl e s = kt.sl e s) (h4 : ∀ e p, e < E → p < 8 → kp'.pt e p = kp.pt e p) (h5 : ∀ j, j < N → r' j = r j) (h6 : ∀ j, j < N * 16 → g' j = g j) : PAt w B E N kt' kp' r' g' :=
  ⟨h.ne, h.lt, h.c0, h.c1, h.c2, h.c3, h.row, h.tree.same h1 h2 h3, h.pool.congr h5, h.mem.congr h6, fun e he => (h.tabs e he).congr fun j hj => by
    unfold pteG
    rw [h4 e (j / 3) he (by omega)], h.eE, h.nN⟩
theorem only_blk {j : Nat} (hj : j < 8 + E) (ho : OnlyT (B j) w w') : Only (Blk B E) w w' := ⟨ho.os, ho.tape, ho.output, ho.size, fun i hi hn => ho.block i hi fun e => hn ⟨j, hj, by injection e with e; exact e.symm⟩⟩
theorem only_then {S : Nat → Prop} {a b c : World} (h : Only S a b) (h2 : Only S b c) : Only S a c :=
  ⟨h2.1.trans h.1, h2.2.1.trans h.2.1, h2.2.2.1.trans h.2.2.1, Nat.le_trans h.2.2.2.1 h2.2.2.2.1, fun i hi hn => (h2.2.2.2.2 i (Nat.lt_of_lt_of_le hi h.2.2.2.1) hn).trans (h.2.2.2.2 i hi hn)⟩
end
structure KAt (w : World) (B : Nat → Nat) (E N : Nat) (k : KernS) : Prop where
  fit : Fit k
  envs : k.envs = (E : Int)
  frames : k.frames = (N : Int)
  lies : PAt w B E N k k (refsI k) (mmG k)
section
variable {w w' : World} {B : Nat → Nat} {E N : Nat} {k k' : KernS}
theorem KAt.later (h : KAt w B E N k) (hb : Below w.heap.size w w') : KAt w' B E N k := ⟨h.fit, h.envs, h.frames, h.lies.later hb⟩
theorem KAt.of {kt kp : KernS} {r g : Nat → Int} (hf : Fit k') (h2 : k'.envs = (E : Int)) (h3 : k'.frames = (N : Int)) (h : PAt w B E N kt kp r g) (hs : ∀ e s, e < E → s < 8 → k'.sl e s = kt.sl e s) (hp : ∀ e p, e < E → p < 8 → k'.pt e p = kp.pt e p) (hr : ∀ j, j < N → refsI k' j = r j) (hg : ∀ j, j < N * 16 → mmG k' j = g j) : KAt w B E N k' :=
  ⟨hf, h2, h3, h.congr hf.tree (h2.trans h.tree.envs.symm) hs hp hr hg⟩
end
def PlainAt (w : World) (S : Nat → Prop) (P : Nat) (k : KernS) : Prop := ∃ B E N, B 0 = P ∧ (∀ i, S i ↔ Blk B E i) ∧ KAt w B E N k
end Go.Proofs.YtdfhfmdelinemaaGreatDoor
namespace Go.Proofs.YtdfhfmdelinemaaGreatDoor
open Go.RowKit Go.Extern.Stop Go.Stop Go.Extern Go.WalkArith
theorem plmay (n m : Int) (w : World) : Calls Tryz.prog 43 #[.int .i64 n, .int .i64 m] w fun e w' => e = .returned (.bool (decide (1 ≤ n) && decide (n ≤ m))) ∧ w = w' := by
  by_cases h1 : 1 ≤ n
  all_goals by_cases h2 : n ≤ m
  all_goals
    go_enter Tryz.func43, Tryz.ntmps43
    go_wp2
    go_ret
    simp [h1, h2]
theorem plhas_yes {P T E : Nat} (e : Nat) (he : e < E) (w : World) (hc : w.cell? ⟨P, 0, none⟩ = some (.slice (some ⟨T, 0, none⟩) E E)) :
    Calls Tryz.prog 46 #[.pointer (some ⟨P, 0, none⟩), .int .i64 (e : Int)] w fun x w' => x = .returned (.bool true) ∧ w = w' := by
  have q1 : (0 : Int) ≤ (e : Int) := by omega
  have q2 : (e : Int) < (E : Int) := by omega
  go_enter Tryz.func46, Tryz.ntmps46
  go_wp2_with fail
  go_ret
  exact ⟨by simp, rfl⟩
theorem plhas_no {P T E : Nat} (e : Int) (he : e < 0 ∨ (E : Int) ≤ e) (w : World) (hc : w.cell? ⟨P, 0, none⟩ = some (.slice (some ⟨T, 0, none⟩) E E)) :
    Calls Tryz.prog 46 #[.pointer (some ⟨P, 0, none⟩), .int .i64 e] w fun x w' => x = .returned (.bool false) ∧ w = w' := by
  by_cases h1 : e < 0
  · have q1 : decide ((0 : Int) ≤ e) = false := decide_eq_false (by omega)
    go_enter Tryz.func46, Tryz.ntmps46
    go_wp2_with fail
    go_ret
    exact ⟨rfl, rfl⟩
  · have q1 : (0 : Int) ≤ e := by omega
    have q2 : decide (e < (E : Int)) = false := decide_eq_false (by omega)
    go_enter Tryz.func46, Tryz.ntmps46
    go_wp2_with fail
    go_ret
    exact ⟨by simp, rfl⟩
theorem plcap_walk {P C : Nat} {x0 x1 x2 x3 : Int} {b : Bool} (e s : Int) (w : World) (hc : w.cell? ⟨P, 1, none⟩ = some (.pointer (some ⟨C, 0, none⟩))) (hp : P < w.heap.size)
    (hC : ∀ W, Below w.heap.size w W → Calls Tryz.prog 70 #[.pointer (some ⟨C, 0, none⟩), .int .i64 e, .int .i64 s] W fun x w' => x = .returned (.tuple #[.agg #[.int .i64 x0, .int .i64 x1, .int .i64 x2, .int .i64 x3], .bool b]) ∧ Below W.heap.size W w') :
    Calls Tryz.prog 22 #[.pointer (some ⟨P, 0, none⟩), .int .i64 e, .int .i64 s] w fun x w' => x = .returned (.tuple #[.agg #[.int .i64 x0, .int .i64 x1, .int .i64 x2, .int .i64 x3], .bool b]) ∧ Below w.heap.size w w' := by
  have HC := Lib.hid hC
  have HP := Lib.hid hp
  clear hC hp
  have pl := HP.out
  go_enter Tryz.func22, Tryz.ntmps22
  go_wp2_with fail
  refine (HC.out _ ((Below.refl _ _).alloc (Nat.le_refl _) _)).mono ?_
  rintro x w1 ⟨rfl, hb⟩
  have K1 := Lib.hid (bk_one hb)
  have B1 := Lib.hid (bl_alloc (Below.refl w.heap.size w) hb)
  clear hb
  have q0 := bk_free K1.out 0
  have q1 := bk_free K1.out 1
  have q2 := bk_free K1.out 2
  have q3 := bk_free K1.out 3
  have b0 := bk_cell K1.out 0
  have b1 := bk_cell K1.out 1
  have b2 := bk_cell K1.out 2
  have b3 := bk_cell K1.out 3
  have ql := bk_lt K1.out
  go_wp2_with fail
  refine bodyPost_ret (v := .tuple #[.agg #[.int .i64 x0, .int .i64 x1, .int .i64 x2, .int .i64 x3], .bool b]) (by simp [results, Tryz.results22, go_sem, b0, b1, b2, b3]) rfl ⟨rfl, ?_⟩
  exact (((B1.out.setCell (Nat.le_refl _) _).setCell (Nat.le_refl _) _).setCell (Nat.le_refl _) _).setCell (Nat.le_refl _) _
theorem plpte_walk {P T E A : Nat} {x0 x1 x2 : Int} {b : Bool} (e : Nat) (p : Int) (he : e < E) (_hE : E ≤ 4) (w : World) (hc : w.cell? ⟨P, 0, none⟩ = some (.slice (some ⟨T, 0, none⟩) E E)) (hr : w.cell? ⟨T, e, none⟩ = some (.pointer (some ⟨A, 0, none⟩))) (hp : P < w.heap.size) (ht : T < w.heap.size)
    (hC : ∀ W, Below w.heap.size w W → Calls Tryz.prog 112 #[.pointer (some ⟨A, 0, none⟩), .int .i64 p] W fun x w' => x = .returned (.tuple #[.agg #[.int .i64 x0, .int .i64 x1, .int .i64 x2], .bool b]) ∧ Below W.heap.size W w') :
    Calls Tryz.prog 60 #[.pointer (some ⟨P, 0, none⟩), .int .i64 (e : Int), .int .i64 p] w fun x w' => x = .returned (.tuple #[.agg #[.int .i64 x0, .int .i64 x1, .int .i64 x2], .bool b]) ∧ Below w.heap.size w w' := by
  have HC := Lib.hid hC
  have HH : Hid (∀ o : Obj, Calls Tryz.prog 46 #[.pointer (some ⟨P, 0, none⟩), .int .i64 (e : Int)] (w.alloc o) fun x w' => x = .returned (.bool true) ∧ w.alloc o = w') := fun o => plhas_yes e he (w.alloc o) ((Below.refl _ _).alloc (Nat.le_refl _) o |>.cell (p := ⟨P, 0, none⟩) hp |>.trans hc)
  have q1 : ¬ (e : Int) < 0 := by omega
  have q2 : (e : Int) < (E : Int) := by omega
  have q3 : ¬ (E : Int) ≤ (e : Int) := by omega
  clear hC
  go_enter Tryz.func60, Tryz.ntmps60
  go_wp2_with fail
  refine (HH.out _).mono ?_
  rintro x w1 ⟨rfl, rfl⟩
  go_wp2_with fail
  refine (HC.out _ ((Below.refl _ _).alloc (Nat.le_refl _) _)).mono ?_
  rintro x w1 ⟨rfl, hb⟩
  have K1 := Lib.hid (bk_one hb)
  have B1 := Lib.hid (bl_alloc (Below.refl w.heap.size w) hb)
  clear hb
  have d0 := bk_free K1.out 0
  have d1 := bk_free K1.out 1
  have d2 := bk_free K1.out 2
  have b0 := bk_cell K1.out 0
  have b1 := bk_cell K1.out 1
  have b2 := bk_cell K1.out 2
  have ql := bk_lt K1.out
  go_wp2_with fail
  refine bodyPost_ret (v := .tuple #[.agg #[.int .i64 x0, .int .i64 x1, .int .i64 x2], .bool b]) (by simp [results, Tryz.results60, go_sem, b0, b1, b2]) rfl ⟨rfl, ?_⟩
  exact ((B1.out.setCell (Nat.le_refl _) _).setCell (Nat.le_refl _) _).setCell (Nat.le_refl _) _
theorem plframe_walk {P M A : Nat} (f : Int) (w : World) (hc : w.cell? ⟨P, 3, none⟩ = some (.pointer (some ⟨M, 0, none⟩))) {W : World}
    (hC : Calls Tryz.prog 72 #[.pointer (some ⟨M, 0, none⟩), .int .i64 f] w fun x w' => x = .returned (.slice (some ⟨A, 0, none⟩) 16 16) ∧ W = w') :
    Calls Tryz.prog 24 #[.pointer (some ⟨P, 0, none⟩), .int .i64 f] w fun x w' => x = .returned (.slice (some ⟨A, 0, none⟩) 16 16) ∧ W = w' := by
  have HC := Lib.hid hC
  clear hC
  go_enter Tryz.func24, Tryz.ntmps24
  go_wp2_with (refine HC.out.mono ?_; rintro x w' ⟨rfl, rfl⟩)
  go_ret
  exact ⟨rfl, rfl⟩
theorem plfree_walk {P Y : Nat} (w : World) (hc : w.cell? ⟨P, 2, none⟩ = some (.pointer (some ⟨Y, 0, none⟩))) {Q : Value → World → Prop}
    (hC : Calls Tryz.prog 71 #[.pointer (some ⟨Y, 0, none⟩)] w fun x w' => ∃ v, x = .returned v ∧ Q v w') :
    Calls Tryz.prog 23 #[.pointer (some ⟨P, 0, none⟩)] w fun x w' => ∃ v, x = .returned v ∧ Q v w' := by
  have HC := Lib.hid hC
  clear hC
  go_enter Tryz.func23, Tryz.ntmps23
  go_wp2_with (refine HC.out.mono ?_; rintro x w' ⟨v, rfl, hq⟩)
  go_ret
  exact ⟨v, rfl, hq⟩
end Go.Proofs.YtdfhfmdelinemaaGreatDoor
