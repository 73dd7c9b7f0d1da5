/- What is proved here: call by call: what an environment is told does not hang on what other environments do, as long as nothing is granted and nothing is full. Conditions: none. -/
import Derived.Test.YtbmekfjcpdbapaaGreatDoorApart
namespace Go.Proofs.YtbmekfjcpdbapaaGreatDoor
section
variable {v : Nat} {a b : KernS}
theorem AsOne.page (h : AsOne v a b) {p : Nat} (hp : p < 8) (hr : ¬ (a.pt v p).rights = 0) : ∃ s : Nat, s < 8 ∧ (a.sl v s).is = true ∧ (a.pt v p).slot = (s : Int) ∧ (b.pt v p).slot = (s : Int) ∧ (a.pt v p).frame = (a.sl v s).frame ∧ (b.pt v p).frame = (b.sl v s).frame := by
  obtain ⟨h1, h2⟩ := h.pt p hp
  obtain ⟨s, h3, h4, h5, h6⟩ := h.oa.pte v p hp hr
  obtain ⟨t, h7, h8, h9, h10⟩ := h.ob.pte v p hp (by rw [← h1]; exact hr)
  have h11 := h2 hr
  obtain rfl : s = t := by omega
  exact ⟨s, h3, h5, h4, h8, h6.symm, h10.symm⟩
theorem AsOne.clear (h : AsOne v a b) {f f' : Nat} (ha : refsN a f 32 = 0) (hb : refsN b f' 32 = 0) : AsOne v (a.clear f) (b.clear f') := by
  refine ⟨h.oa.mem rfl rfl rfl rfl, h.ob.mem rfl rfl rfl rfl, h.sl, h.fr, fun s i hs hi h1 => ?_, h.pt, h.none⟩
  have h1' : (a.sl v s).is = true := h1
  have r1 := h.oa.range v s hs h1'
  have r2 := h.ob.range v s hs (h.bis hs h1')
  have n1 := free_far h.oa ha hs h1'
  have n2 := free_far h.ob hb hs (h.bis hs h1')
  show (if (a.sl v s).frame.toNat = f ∧ i < 16 then 0 else a.mm (a.sl v s).frame.toNat i) = (if (b.sl v s).frame.toNat = f' ∧ i < 16 then 0 else b.mm (b.sl v s).frame.toNat i)
  rw [if_neg (fun hc => n1 (by omega)), if_neg (fun hc => n2 (by omega))]
  exact h.mm s i hs hi h1'
theorem OwnK.alloc {k : KernS} (hk : OwnK k) {e s f : Nat} (he : e < 3) (hs : s < 8) (hf : f < 16) (hi : (k.sl e s).is = false) (hr : refsN k f 32 = 0) : OwnK (allocS k e s f) :=
  OwnK.put (k := k.clear f) (hk.mem rfl rfl rfl rfl) he hs hi ⟨by show (0 : Int) ≤ f; omega, by show (f : Int) < 16; omega⟩ (Or.inl (by show (-1 : Int) < 0; decide)) fun e' s' hs' hi' hf' => absurd hf'.symm (free_far hk hr hs' hi')
theorem AsOne.alloc (h : AsOne v a b) {s f f' : Nat} (hv : v < 3) (hs : s < 8) (hf : f < 16) (hf' : f' < 16) (hi : (a.sl v s).is = false) (ha : refsN a f 32 = 0) (hb : refsN b f' 32 = 0) : AsOne v (allocS a v s f) (allocS b v s f') := by
  refine AsOne.put (a := a.clear f) (b := b.clear f') (h.clear ha hb) ⟨rfl, rfl, rfl, rfl⟩ (h.oa.alloc hv hs hf hi ha) (h.ob.alloc hv hs hf' ((h.sl s hs).1.symm.trans hi) hb) (fun t ht h1 => ?_) fun i hi => ?_
  · have h1' : (a.sl v t).is = true := h1
    have n1 := free_far h.oa ha ht h1'
    have n2 := free_far h.ob hb ht (h.bis ht h1')
    exact ⟨fun e => absurd e.symm n1, fun e => absurd e.symm n2⟩
  · show (if ((f : Nat) : Int).toNat = f ∧ i < 16 then 0 else _) = (if ((f' : Nat) : Int).toNat = f' ∧ i < 16 then 0 else _)
    rw [if_pos ⟨by omega, hi⟩, if_pos ⟨by omega, hi⟩]
theorem OwnK.derive {k : KernS} (hk : OwnK k) {e s d : Nat} {r : Int} (he : e < 3) (hs : s < 8) (hd : d < 8) : OwnK (deriveS k e s e d r) := by
  unfold deriveS
  split
  · rename_i h0
    unfold deriveE at h0
    split at h0
    · exact absurd h0 (by decide)
    · rename_i hi
      have hi : (k.sl e s).is = true := by simpa using hi
      split at h0
      · exact absurd h0 (by decide)
      · rename_i hj
        exact hk.put he hd (by simpa using hj) (hk.range e s hs hi) (Or.inr ⟨rfl, by show (0 : Int) ≤ s; omega, by show (s : Int) < 8; omega⟩) fun e' s' hs' hi' hf' => hk.apart e s e' s' hs hs' hi hi' hf'
  · exact hk
theorem AsOne.derE (h : AsOne v a b) {s d : Nat} (r : Int) (hs : s < 8) (hd : d < 8) : deriveE a v s v d r = deriveE b v s v d r := by
  unfold deriveE
  rw [← (h.sl s hs).1, ← (h.sl d hd).1]
  cases hi : (a.sl v s).is
  · rfl
  · rw [h.refs hs hi, ((h.sl s hs).2 hi).1]
theorem AsOne.derive (h : AsOne v a b) {s d : Nat} {r : Int} (hv : v < 3) (hs : s < 8) (hd : d < 8) : AsOne v (deriveS a v s v d r) (deriveS b v s v d r) := by
  have ha := h.oa.derive (s := s) (r := r) hv hs hd
  have hb := h.ob.derive (s := s) (r := r) hv hs hd
  have he := h.derE r hs hd
  unfold deriveS at ha hb ⊢
  rw [he] at ha ⊢
  by_cases h0 : deriveE b v s v d r = 0
  · rw [if_pos h0] at ha hb ⊢
    rw [if_pos h0]
    have hi : (a.sl v s).is = true := by
      rw [← he] at h0
      unfold deriveE at h0
      cases hi : (a.sl v s).is
      · rw [hi, if_pos rfl] at h0
        exact absurd h0 (by decide)
      · rfl
    exact h.put ⟨rfl, rfl, rfl, rfl⟩ ha hb (fun t ht h1 => h.fr s t hs ht hi h1) fun i hi' => h.mm s i hs hi' hi
  · rw [if_neg h0, if_neg h0]
    exact h
theorem OwnK.map {k : KernS} (hk : OwnK k) {e p s : Nat} {r : Int} (hs : s < 8) : OwnK (mapS k e p s r) := by
  unfold mapS
  split
  · rename_i h0
    unfold mapE at h0
    split at h0
    · exact absurd h0 (by decide)
    · rename_i hi
      exact hk.entry fun _ => ⟨s, hs, rfl, by simpa using hi, rfl⟩
  · exact hk
theorem AsOne.mapErr (h : AsOne v a b) {p s : Nat} (r : Int) (hp : p < 8) (hs : s < 8) : mapE a v p s r = mapE b v p s r := by
  unfold mapE
  rw [← (h.sl s hs).1, ← (h.pt p hp).1]
  cases hi : (a.sl v s).is
  · rfl
  · rw [((h.sl s hs).2 hi).1]
theorem AsOne.map (h : AsOne v a b) {p s : Nat} {r : Int} (hp : p < 8) (hs : s < 8) : AsOne v (mapS a v p s r) (mapS b v p s r) := by
  have ha := h.oa.map (e := v) (p := p) (r := r) hs
  have hb := h.ob.map (e := v) (p := p) (r := r) hs
  have he := h.mapErr r hp hs
  unfold mapS at ha hb ⊢
  rw [he] at ha ⊢
  by_cases h0 : mapE b v p s r = 0
  · rw [if_pos h0] at ha hb ⊢
    rw [if_pos h0]
    exact h.entry ⟨rfl, rfl⟩ ha hb
  · rw [if_neg h0, if_neg h0]
    exact h
theorem OwnK.unmap {k : KernS} (hk : OwnK k) (e p : Nat) : OwnK (unmapS k e p) := by
  unfold unmapS
  split
  · exact hk
  · exact hk.entry fun h => absurd rfl h
theorem AsOne.unmap (h : AsOne v a b) {p : Nat} (hp : p < 8) : AsOne v (unmapS a v p) (unmapS b v p) := by
  have ha := h.oa.unmap v p
  have hb := h.ob.unmap v p
  unfold unmapS at ha hb ⊢
  rw [← (h.pt p hp).1] at hb ⊢
  by_cases h0 : (a.pt v p).rights = 0
  · rw [if_pos h0, if_pos h0]
    exact h
  · rw [if_neg h0] at ha hb ⊢
    rw [if_neg h0]
    exact h.entry ⟨rfl, rfl⟩ ha hb
theorem OwnK.prot {k : KernS} (hk : OwnK k) {e p : Nat} {r : Int} (hp : p < 8) : OwnK (protS k e p r) := by
  unfold protS
  split
  · rename_i h0
    unfold protE at h0
    split at h0
    · exact absurd h0 (by decide)
    · rename_i hr
      exact hk.entry fun _ => hk.pte e p hp hr
  · exact hk
theorem AsOne.protErr (h : AsOne v a b) {p : Nat} (r : Int) (hp : p < 8) : protE a v p r = protE b v p r := by
  unfold protE
  rw [← (h.pt p hp).1]
  by_cases hr : (a.pt v p).rights = 0
  · rw [if_pos hr, if_pos hr]
  · obtain ⟨s, h1, h2, h3, h4, _⟩ := h.page hp hr
    rw [h3, h4, Int.toNat_natCast, ((h.sl s h1).2 h2).1]
theorem AsOne.prot (h : AsOne v a b) {p : Nat} {r : Int} (hp : p < 8) : AsOne v (protS a v p r) (protS b v p r) := by
  have ha := h.oa.prot (e := v) (r := r) hp
  have hb := h.ob.prot (e := v) (r := r) hp
  have he := h.protErr r hp
  unfold protS at ha hb ⊢
  rw [he] at ha ⊢
  by_cases h0 : protE b v p r = 0
  · rw [if_pos h0] at ha hb ⊢
    rw [if_pos h0]
    have hr : ¬ (a.pt v p).rights = 0 := fun hr => by
      rw [← he] at h0
      unfold protE at h0
      rw [if_pos hr] at h0
      exact absurd h0 (by decide)
    exact h.entry ⟨rfl, (h.pt p hp).2 hr⟩ ha hb
  · rw [if_neg h0, if_neg h0]
    exact h
theorem OwnK.words {k : KernS} (hk : OwnK k) (f i : Nat) (kind x3 x4 : Int) : OwnK (wordS k f i kind x3 x4) := by
  unfold wordS
  split
  · exact hk.mem rfl rfl rfl rfl
  · split
    · split
      · exact hk.mem rfl rfl rfl rfl
      · exact hk
    · split
      · exact hk.mem rfl rfl rfl rfl
      · exact hk
theorem AsOne.words (h : AsOne v a b) {p i : Nat} {kind x3 x4 : Int} (hp : p < 8) (hi : i < 16) (hr : ¬ (a.pt v p).rights = 0) :
    AsOne v (wordS a (a.pt v p).frame.toNat i kind x3 x4) (wordS b (b.pt v p).frame.toNat i kind x3 x4) ∧ wordT a (a.pt v p).frame.toNat i kind = wordT b (b.pt v p).frame.toNat i kind := by
  obtain ⟨s, h1, h2, _, _, h5, h6⟩ := h.page hp hr
  rw [h5, h6]
  have hm := h.mm s i h1 hi h2
  refine ⟨?_, by unfold wordT; rw [hm]⟩
  unfold wordS
  rw [hm]
  by_cases c1 : kind = 21
  · rw [if_pos c1, if_pos c1]
    exact h.word h1 h2 i x3
  rw [if_neg c1, if_neg c1]
  by_cases c2 : kind = 22
  · rw [if_pos c2, if_pos c2]
    by_cases c3 : b.mm (b.sl v s).frame.toNat i = x3
    · rw [if_pos c3, if_pos c3]
      exact h.word h1 h2 i x4
    · rw [if_neg c3, if_neg c3]
      exact h
  rw [if_neg c2, if_neg c2]
  by_cases c4 : kind = 23
  · rw [if_pos c4, if_pos c4]
    exact h.word h1 h2 i _
  · rw [if_neg c4, if_neg c4]
    exact h
theorem mem_off {k : KernS} {e : Nat} {l : List Nat} (hl : ∀ j, j ∈ l → j / 8 = e) {w : Nat} (hw : ¬ e = w) : (∀ s : Nat, s < 8 → (goneF k l).sl w s = k.sl w s) ∧ (∀ p : Nat, p < 8 → (goneF k l).pt w p = k.pt w p) := by
  refine ⟨fun s hs => ?_, fun p hp => ?_⟩
  · rw [goneF_sl l k w s hs, if_neg (fun hm => hw (by have := hl _ hm; omega))]
  · rw [goneF_pt l k w p hp, if_neg]
    rintro ⟨_, hh⟩
    obtain ⟨j, hj, hd⟩ := List.any_eq_true.1 hh
    exact hw ((hl j hj).symm.trans (of_decide_eq_true hd).1)
theorem AsOne.gone_far (h : AsOne v a b) {e : Nat} (hne : ¬ e = v) {l : List Nat} (hl : ∀ j, j ∈ l → j / 8 = e) : AsOne v (goneF a l) b := by
  obtain ⟨h1, h2⟩ := mem_off (k := a) hl hne
  exact h.far (h.oa.gone l) h1 h2 fun s i _ _ _ => by rw [goneF_mm]
theorem AsOne.put_far (h : AsOne v a b) {e d : Nat} (hne : ¬ e = v) {x : SlotV} (ha : OwnK (a.setSlot e d x)) : AsOne v (a.setSlot e d x) b :=
  h.far ha (fun _ _ => put_off a x (fun hc => hne hc.1.symm)) (fun _ _ => rfl) fun _ _ _ _ _ => rfl
theorem AsOne.entry_far (h : AsOne v a b) {e p : Nat} (hne : ¬ e = v) {x : PteV} (ha : OwnK (a.setPte e p x)) : AsOne v (a.setPte e p x) b :=
  h.far ha (fun _ _ => rfl) (fun _ _ => if_neg fun hc => hne hc.1.symm) fun _ _ _ _ _ => rfl
theorem AsOne.word_far (h : AsOne v a b) {e t : Nat} (hne : ¬ e = v) (ht : t < 8) (hi : (a.sl e t).is = true) (i : Nat) (x : Int) : AsOne v (a.setWord (a.sl e t).frame.toNat i x) b := by
  refine h.far (h.oa.mem rfl rfl rfl rfl) (fun _ _ => rfl) (fun _ _ => rfl) fun s j hs _ h1 => ?_
  have r1 := h.oa.range v s hs h1
  have r2 := h.oa.range e t ht hi
  have n1 : ¬ (a.sl v s).frame = (a.sl e t).frame := fun hf => hne (h.oa.apart v s e t hs ht h1 hi hf).symm
  show (if (a.sl v s).frame.toNat = (a.sl e t).frame.toNat ∧ j = i then x else a.mm (a.sl v s).frame.toNat j) = a.mm (a.sl v s).frame.toNat j
  rw [if_neg (fun hc => n1 (by omega))]
theorem AsOne.words_far (h : AsOne v a b) {e p i : Nat} (hne : ¬ e = v) {kind x3 x4 : Int} (hp : p < 8) (hr : ¬ (a.pt e p).rights = 0) : AsOne v (wordS a (a.pt e p).frame.toNat i kind x3 x4) b := by
  obtain ⟨t, h1, _, h3, h4⟩ := h.oa.pte e p hp hr
  rw [← h4]
  unfold wordS
  by_cases c1 : kind = 21
  · rw [if_pos c1]
    exact h.word_far hne h1 h3 i x3
  rw [if_neg c1]
  by_cases c2 : kind = 22
  · rw [if_pos c2]
    by_cases c3 : a.mm (a.sl e t).frame.toNat i = x3
    · rw [if_pos c3]
      exact h.word_far hne h1 h3 i x4
    · rw [if_neg c3]
      exact h
  rw [if_neg c2]
  by_cases c4 : kind = 23
  · rw [if_pos c4]
    exact h.word_far hne h1 h3 i _
  · rw [if_neg c4]
    exact h
theorem AsOne.alloc_far (h : AsOne v a b) {e s f : Nat} (hne : ¬ e = v) (he : e < 3) (hs : s < 8) (hf : f < 16) (hi : (a.sl e s).is = false) (hr : refsN a f 32 = 0) : AsOne v (allocS a e s f) b := by
  refine h.far (h.oa.alloc he hs hf hi hr) (fun t _ => put_off (a.clear f) _ (fun hc => hne hc.1.symm)) (fun _ _ => rfl) fun t j ht _ h1 => ?_
  have r1 := h.oa.range v t ht h1
  have n1 := free_far h.oa hr ht h1
  show (if (a.sl v t).frame.toNat = f ∧ j < 16 then 0 else a.mm (a.sl v t).frame.toNat j) = a.mm (a.sl v t).frame.toNat j
  rw [if_neg (fun hc => n1 (by omega))]
end
theorem withinB_pos {n r : Int} (h : withinB n r = true) : ¬ r = 0 := by
  intro h0
  subst h0
  unfold withinB mayB at h
  simp at h
theorem kcall_user (k : KernS) (e s d : Nat) (n x3 x4 : Int) (hn : n = 20 ∨ n = 21 ∨ n = 22 ∨ n = 23) : kcall k e n (s : Int) (d : Int) x3 x4 = if withinB (needN n) (k.pt e s).rights = true then (wordS k (k.pt e s).frame.toNat d n x3 x4, (0 : Int), wordT k (k.pt e s).frame.toNat d n, true) else (k, 7, 0, true) := by
  rcases hn with rfl | rfl | rfl | rfl <;> rfl
theorem AsOne.call_far {v : Nat} {a b : KernS} (h : AsOne v a b) {e : Nat} (hne : ¬ e = v) (he : e < 3) {x0 x1 x2 x3 x4 : Int} (hx : wordsIn x0 x1 x2 x3 x4) (h3 : ¬ x0 = 3) (hc : chkN x0 x1 x2 x3 x4 a.envs = 0) : AsOne v (kcall a e x0 x1 x2 x3 x4).1 b := by
  obtain ⟨s, rfl⟩ := nat_of hx.2.1.1
  obtain ⟨d, rfl⟩ := nat_of hx.2.2.1.1
  rcases kind_cases (chk_kind hc) with rfl | rfl | rfl | rfl | rfl | rfl | rfl | rfl | rfl | rfl | rfl | rfl | rfl | rfl
  · obtain ⟨b0, _⟩ := res4_zero (show res4 (belowB (s : Int) 8) true true true = 0 from hc)
    have h0 := below_lt b0
    show AsOne v (if (a.sl e s).is = true then (a, 4, 0, true) else _ : KernS × Int × Int × Bool).1 b
    cases hi : (a.sl e s).is
    · rw [if_neg (by decide)]
      rcases hf : freeK a a.frames.toNat with _ | ⟨f, r⟩
      · exact h
      · obtain ⟨h1, h2⟩ := free_head h.oa hf
        exact h.alloc_far hne he (by omega) h1 hi h2
    · rw [if_pos rfl]
      exact h
  · obtain ⟨b0, b1, _⟩ := res4_zero (show res4 (belowB (s : Int) 8) (belowB (d : Int) 8) (rightsB x3) true = 0 from hc)
    have h0 := below_lt b0
    have h1 := below_lt b1
    have ho := h.oa.derive (r := x3) he (show s < 8 by omega) (show d < 8 by omega)
    show AsOne v (deriveS a e s e d x3) b
    unfold deriveS at ho ⊢
    by_cases hd : deriveE a e s e d x3 = 0
    · rw [if_pos hd] at ho ⊢
      exact h.put_far hne ho
    · rw [if_neg hd]
      exact h
  · exact absurd rfl h3
  · obtain ⟨b0, _⟩ := res4_zero (show res4 (belowB (s : Int) 8) true true true = 0 from hc)
    have h0 := below_lt b0
    show AsOne v (if (a.sl e s).is = true then (goneF a (belowL a (e * 8 + s) 32), _, _, _) else _ : KernS × Int × Int × Bool).1 b
    cases hi : (a.sl e s).is
    · rw [if_neg (by decide)]
      exact h
    · rw [if_pos rfl]
      exact h.gone_far hne fun j hj => by have := h.oa.below hj; omega
  · obtain ⟨b0, _⟩ := res4_zero (show res4 (belowB (s : Int) 8) true true true = 0 from hc)
    have h0 := below_lt b0
    show AsOne v (if (a.sl e s).is = true then (goneF a (belowL a (e * 8 + s) 32 ++ [e * 8 + s]), _, _, _) else _ : KernS × Int × Int × Bool).1 b
    cases hi : (a.sl e s).is
    · rw [if_neg (by decide)]
      exact h
    · rw [if_pos rfl]
      refine h.gone_far hne fun j hj => ?_
      rcases List.mem_append.1 hj with hj | hj
      · have := h.oa.below hj
        omega
      · obtain rfl : j = e * 8 + s := by simpa using hj
        omega
  · obtain ⟨b0, b1, _⟩ := res4_zero (show res4 (belowB (s : Int) 8) (belowB (d : Int) 8) (rightsB x3) true = 0 from hc)
    have h1 := below_lt b1
    have ho := h.oa.map (e := e) (p := s) (r := x3) (show d < 8 by omega)
    show AsOne v (mapS a e s d x3) b
    unfold mapS at ho ⊢
    by_cases hd : mapE a e s d x3 = 0
    · rw [if_pos hd] at ho ⊢
      exact h.entry_far hne ho
    · rw [if_neg hd]
      exact h
  · have ho := h.oa.unmap e s
    show AsOne v (unmapS a e s) b
    unfold unmapS at ho ⊢
    by_cases hd : (a.pt e s).rights = 0
    · rw [if_pos hd]
      exact h
    · rw [if_neg hd] at ho ⊢
      exact h.entry_far hne ho
  · obtain ⟨b0, _⟩ := res4_zero (show res4 (belowB (s : Int) 8) (rightsB (d : Int)) true true = 0 from hc)
    have h0 := below_lt b0
    have ho := h.oa.prot (e := e) (r := d) (show s < 8 by omega)
    show AsOne v (protS a e s d) b
    unfold protS at ho ⊢
    by_cases hd : protE a e s d = 0
    · rw [if_pos hd] at ho ⊢
      exact h.entry_far hne ho
    · rw [if_neg hd]
      exact h
  · show AsOne v (if (a.sl e s).is = true then _ else _ : KernS × Int × Int × Bool).1 b
    split
    · split
      · exact h
      · split
        · exact h
        · exact h
    · exact h
  · exact h
  all_goals
    obtain ⟨b0, b1, _⟩ := res4_zero (show res4 (belowB (s : Int) 8) (belowB (d : Int) 16) true true = 0 from hc)
    have h0 := below_lt b0
    rw [kcall_user a e s d _ x3 x4 (by omega)]
    split
    · rename_i hw
      dsimp only
      exact h.words_far hne (by omega) (withinB_pos hw)
    · exact h
theorem AsOne.call_own {v : Nat} {a b : KernS} (h : AsOne v a b) (hv : v < 3) {x0 x1 x2 x3 x4 : Int} (hx : wordsIn x0 x1 x2 x3 x4) (h3 : ¬ x0 = 3) (hc : chkN x0 x1 x2 x3 x4 a.envs = 0) (h6 : ¬ (kcall a v x0 x1 x2 x3 x4).2.1 = 6) :
    (kcall a v x0 x1 x2 x3 x4).2 = (kcall b v x0 x1 x2 x3 x4).2 ∧ AsOne v (kcall a v x0 x1 x2 x3 x4).1 (kcall b v x0 x1 x2 x3 x4).1 := by
  obtain ⟨s, rfl⟩ := nat_of hx.2.1.1
  obtain ⟨d, rfl⟩ := nat_of hx.2.2.1.1
  rcases kind_cases (chk_kind hc) with rfl | rfl | rfl | rfl | rfl | rfl | rfl | rfl | rfl | rfl | rfl | rfl | rfl | rfl
  · obtain ⟨b0, _⟩ := res4_zero (show res4 (belowB (s : Int) 8) true true true = 0 from hc)
    have h0 := below_lt b0
    have hs : s < 8 := by omega
    have e1 : ∀ k : KernS, kcall k v 1 (s : Int) (d : Int) x3 x4 = if (k.sl v s).is = true then (k, (4 : Int), (0 : Int), true) else match freeK k k.frames.toNat with
      | [] => (k, 6, 0, true)
      | f :: _ => (allocS k v s f, 0, 0, true) := fun _ => rfl
    rw [e1] at h6
    rw [e1, e1]
    rw [← (h.sl s hs).1]
    cases hi : (a.sl v s).is
    · rw [hi] at h6
      rw [if_neg (by decide), if_neg (by decide)]
      rw [if_neg (by decide)] at h6
      rcases hf : freeK a a.frames.toNat with _ | ⟨f, r⟩
      · rw [hf] at h6
        exact absurd rfl h6
      · rcases hf' : freeK b b.frames.toNat with _ | ⟨f', r'⟩
        · exact absurd hf' h.room
        · obtain ⟨h1, h2⟩ := free_head h.oa hf
          obtain ⟨h4, h5⟩ := free_head h.ob hf'
          exact ⟨rfl, h.alloc hv hs h1 h4 hi h2 h5⟩
    · rw [if_pos rfl, if_pos rfl]
      exact ⟨rfl, h⟩
  · obtain ⟨b0, b1, _⟩ := res4_zero (show res4 (belowB (s : Int) 8) (belowB (d : Int) 8) (rightsB x3) true = 0 from hc)
    have h0 := below_lt b0
    have h1 := below_lt b1
    show ((deriveE a v s v d x3, (0 : Int), true) : Int × Int × Bool) = (deriveE b v s v d x3, 0, true) ∧ AsOne v (deriveS a v s v d x3) (deriveS b v s v d x3)
    exact ⟨by rw [h.derE x3 (by omega) (by omega)], h.derive hv (by omega) (by omega)⟩
  · exact absurd rfl h3
  · obtain ⟨b0, _⟩ := res4_zero (show res4 (belowB (s : Int) 8) true true true = 0 from hc)
    have h0 := below_lt b0
    have e1 : ∀ k : KernS, kcall k v 4 (s : Int) (d : Int) x3 x4 = if (k.sl v s).is = true then (goneF k (belowL k (v * 8 + s) 32), (0 : Int), ((belowL k (v * 8 + s) 32).length : Int), true) else (k, 3, 0, true) := fun _ => rfl
    rw [e1, e1, ← (h.sl s (by omega)).1, h.below (q := v * 8 + s) (by omega)]
    cases hi : (a.sl v s).is
    · rw [if_neg (by decide), if_neg (by decide)]
      exact ⟨rfl, h⟩
    · rw [if_pos rfl, if_pos rfl]
      exact ⟨rfl, h.gone _⟩
  · obtain ⟨b0, _⟩ := res4_zero (show res4 (belowB (s : Int) 8) true true true = 0 from hc)
    have h0 := below_lt b0
    have e1 : ∀ k : KernS, kcall k v 5 (s : Int) (d : Int) x3 x4 = if (k.sl v s).is = true then (goneF k (belowL k (v * 8 + s) 32 ++ [v * 8 + s]), (0 : Int), ((belowL k (v * 8 + s) 32 ++ [v * 8 + s]).length : Int), true) else (k, 3, 0, true) := fun _ => rfl
    rw [e1, e1, ← (h.sl s (by omega)).1, h.below (q := v * 8 + s) (by omega)]
    cases hi : (a.sl v s).is
    · rw [if_neg (by decide), if_neg (by decide)]
      exact ⟨rfl, h⟩
    · rw [if_pos rfl, if_pos rfl]
      exact ⟨rfl, h.gone _⟩
  · obtain ⟨b0, b1, _⟩ := res4_zero (show res4 (belowB (s : Int) 8) (belowB (d : Int) 8) (rightsB x3) true = 0 from hc)
    have h0 := below_lt b0
    have h1 := below_lt b1
    show ((mapE a v s d x3, (0 : Int), true) : Int × Int × Bool) = (mapE b v s d x3, 0, true) ∧ AsOne v (mapS a v s d x3) (mapS b v s d x3)
    exact ⟨by rw [h.mapErr x3 (by omega) (by omega)], h.map (by omega) (by omega)⟩
  · obtain ⟨b0, _⟩ := res4_zero (show res4 (belowB (s : Int) 8) true true true = 0 from hc)
    have h0 := below_lt b0
    show ((unmapE a v s, (0 : Int), true) : Int × Int × Bool) = (unmapE b v s, 0, true) ∧ AsOne v (unmapS a v s) (unmapS b v s)
    exact ⟨by unfold unmapE; rw [(h.pt s (by omega)).1], h.unmap (by omega)⟩
  · obtain ⟨b0, _⟩ := res4_zero (show res4 (belowB (s : Int) 8) (rightsB (d : Int)) true true = 0 from hc)
    have h0 := below_lt b0
    show ((protE a v s d, (0 : Int), true) : Int × Int × Bool) = (protE b v s d, 0, true) ∧ AsOne v (protS a v s d) (protS b v s d)
    exact ⟨by rw [h.protErr d (by omega)], h.prot (by omega)⟩
  · obtain ⟨b0, b1, _⟩ := res4_zero (show res4 (belowB (s : Int) 8) (belowB (d : Int) 16) (operB x3) true = 0 from hc)
    have h0 := below_lt b0
    have h1 := below_lt b1
    have e1 : ∀ k : KernS, kcall k v 9 (s : Int) (d : Int) x3 x4 = if (k.sl v s).is = true then
      if (k.sl v s).rights % 2 = 0 then (k, (5 : Int), (0 : Int), true)
      else if holdsB x3 (k.mm (k.sl v s).frame.toNat d) x4 = true then (k, 0, k.mm (k.sl v s).frame.toNat d, true) else (k, 0, 0, false)
    else (k, 3, 0, true) := fun _ => rfl
    rw [e1, e1, ← (h.sl s (by omega)).1]
    cases hi : (a.sl v s).is
    · rw [if_neg (by decide), if_neg (by decide)]
      exact ⟨rfl, h⟩
    · rw [if_pos rfl, if_pos rfl, ← ((h.sl s (by omega)).2 hi).1, ← h.mm s d (by omega) (by omega) hi]
      by_cases c1 : (a.sl v s).rights % 2 = 0
      · rw [if_pos c1, if_pos c1]
        exact ⟨rfl, h⟩
      · rw [if_neg c1, if_neg c1]
        by_cases c2 : holdsB x3 (a.mm (a.sl v s).frame.toNat d) x4 = true
        · rw [if_pos c2, if_pos c2]
          exact ⟨rfl, h⟩
        · rw [if_neg c2, if_neg c2]
          exact ⟨rfl, h⟩
  · exact ⟨rfl, h⟩
  all_goals
    obtain ⟨b0, b1, _⟩ := res4_zero (show res4 (belowB (s : Int) 8) (belowB (d : Int) 16) true true = 0 from hc)
    have h0 := below_lt b0
    have h1 := below_lt b1
    rw [kcall_user a v s d _ x3 x4 (by omega), kcall_user b v s d _ x3 x4 (by omega)]
    rw [← (h.pt s (by omega)).1]
    split
    · rename_i hw
      have hq := fun n : Int => h.words (i := d) (kind := n) (x3 := x3) (x4 := x4) (show s < 8 by omega) (by omega) (withinB_pos hw)
      dsimp only
      exact ⟨by rw [(hq _).2], (hq _).1⟩
    · exact ⟨rfl, h⟩
theorem kdo_in {k : KernS} (hk : k.envs = 3) {e : Nat} (he : e < 3) (x0 x1 x2 x3 x4 : Int) : kdo k (e : Int) x0 x1 x2 x3 x4 = if chkN x0 x1 x2 x3 x4 3 = 0 then kcall k e x0 x1 x2 x3 x4 else (k, chkN x0 x1 x2 x3 x4 3, 0, true) := by
  unfold kdo
  rw [hk, if_neg (by omega), Int.toNat_natCast]
theorem AsOne.do_far {v : Nat} {a b : KernS} (h : AsOne v a b) {e : Nat} (hne : ¬ e = v) (he : e < 3) {x0 x1 x2 x3 x4 : Int} (hx : wordsIn x0 x1 x2 x3 x4) (h3 : ¬ x0 = 3) : AsOne v (kdo a (e : Int) x0 x1 x2 x3 x4).1 b := by
  have h1 := h.oa.envs
  rw [kdo_in h1 he]
  by_cases hc : chkN x0 x1 x2 x3 x4 3 = 0
  · rw [if_pos hc]
    exact h.call_far hne he hx h3 (by rw [h1]; exact hc)
  · rw [if_neg hc]
    exact h
theorem AsOne.do_own {v : Nat} {a b : KernS} (h : AsOne v a b) (hv : v < 3) {x0 x1 x2 x3 x4 : Int} (hx : wordsIn x0 x1 x2 x3 x4) (h3 : ¬ x0 = 3) (h6 : ¬ (kdo a (v : Int) x0 x1 x2 x3 x4).2.1 = 6) :
    (kdo a (v : Int) x0 x1 x2 x3 x4).2 = (kdo b (v : Int) x0 x1 x2 x3 x4).2 ∧ AsOne v (kdo a (v : Int) x0 x1 x2 x3 x4).1 (kdo b (v : Int) x0 x1 x2 x3 x4).1 := by
  have h1 := h.oa.envs
  rw [kdo_in h1 hv] at h6 ⊢
  rw [kdo_in h.ob.envs hv]
  by_cases hc : chkN x0 x1 x2 x3 x4 3 = 0
  · rw [if_pos hc] at h6 ⊢
    rw [if_pos hc]
    exact h.call_own hv hx h3 (by rw [h1]; exact hc) h6
  · rw [if_neg hc, if_neg hc]
    exact ⟨rfl, h⟩
end Go.Proofs.YtbmekfjcpdbapaaGreatDoor

