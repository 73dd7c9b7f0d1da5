/- What is proved here: trap.First and its deferred closure: of what errors.As finds it tells that very trap and true, of what it does not find nil and false. Conditions: the library's variable errors.errorType holds the type error; what errors.As does with the error is the premise of each theorem, paid for nil, for a *trap.Trap and for an error of errors.New. -/
import Derived.Test.YtnmlmhhohemffaaDoorAs
import Derived.Defers
import Derived.Recover
import Derived.Lib.Hide
namespace Go.Proofs.YtnmlmhhohemffaaDoor
open Go.RowKit Go.Extern.Stop Go.Stop Go.Extern

theorem bcell {W W1 : World} {B : Nat} (hb : Below B W W1) : (∀ b o, b < B → W1.cell? ⟨b, o, none⟩ = W.cell? ⟨b, o, none⟩) ∧ (∀ b o, b < B → W1.frozen? ⟨b, o, none⟩ = W.frozen? ⟨b, o, none⟩) :=
  ⟨fun b o h => hb.cell (p := ⟨b, o, none⟩) h, fun b o h => hb.frozen (p := ⟨b, o, none⟩) h⟩

/-- From w on errors.As finds b in err. -/
def AsHit (w : World) (err : Value) (b : Addr) : Prop := ∀ (W : World) (t : Addr), Below w.heap.size w W → W.cell? t = some (.pointer none) → W.frozen? t = false →
  Calls Tryd.prog 23 #[err, .iface 49 (.pointer (some t))] W (HitAt W t b)
/-- From w on errors.As finds none in err. -/
def AsMiss (w : World) (err : Value) : Prop := ∀ (W : World) (t : Addr), Below w.heap.size w W → W.cell? t = some (.pointer none) →
  Calls Tryd.prog 23 #[err, .iface 49 (.pointer (some t))] W (MissAt W)

theorem AsHit.later {w w' : World} {err : Value} {b : Addr} (h : AsHit w err b) (hb : Below w.heap.size w w') : AsHit w' err b :=
  fun W t hW hc hf => h W t (hb.trans (hW.mono hb.size)) hc hf
theorem AsMiss.later {w w' : World} {err : Value} (h : AsMiss w err) (hb : Below w.heap.size w w') : AsMiss w' err :=
  fun W t hW hc => h W t (hb.trans (hW.mono hb.size)) hc

theorem asMiss_nil (w : World) : AsMiss w .nilIface := fun W _ _ _ => As_nil _ W
theorem asMiss_other (w : World) (hg : Held w) (e : Addr) : AsMiss w (.iface 63 (.pointer (some e))) := fun W t hW _ => by
  refine As_some _ _ t W (hg.below hW hg.pos) (fun tv W2 hb htv => (as_miss e t tv W2).mono ?_)
  rintro ev w' ⟨rfl, h⟩
  exact ⟨false, rfl, rfl, hb.trans (h.mono hb.size)⟩
theorem asHit_trap (w : World) (hg : Held w) (e : Addr) : AsHit w (.iface 34 (.pointer (some e))) e := fun W t hW hc hf => by
  have htl := lt_of_cell hc
  refine As_some _ _ t W (hg.below hW hg.pos) (fun tv W2 hb htv => (as_hit e t tv (.pointer none) W2 htv ?_ ?_).mono ?_)
  · rw [hb.cell htl]; exact hc
  · rw [hb.frozen htl]; exact hf
  · rintro ev w' ⟨rfl, w1, h1, rfl⟩
    exact ⟨true, rfl, rfl, w1, hb.trans (h1.mono hb.size), rfl⟩

theorem catch_idle (p q : Addr) (w : World) :
    CallsD Tryd.prog 27 #[.pointer (some p), .pointer (some q)] .returning w fun e u' w' => e = .returned (.tuple #[]) ∧ u' = .returning ∧ w' = w := by
  refine callsD_of_wpS Tryd.func27 rfl fun c₀ cs hu => ?_
  apply wpS_seq
  apply wpS_region
  simp [wpOpsS, go_sem, recoverD, hu, Tryd.ntmps27, Exit.thenS]
  refine wpS_cond (t := false) (by simp [Act.eval, Array.replicate]) ?_
  simp only [Bool.false_eq_true, if_false]
  refine wpS_of_wp (wp_skip ?_)
  cases c₀
  simp_all [bodyPostS, results, Tryd.results27]

/-- First of an error in which errors.As finds the trap at b. -/
theorem first_hit (err : Value) (b : Addr) (w : World) (H : AsHit w err b) :
    Calls Tryd.prog 16 #[err] w fun e w' => e = .returned (.tuple #[.pointer (some b), .bool true]) ∧ Below w.heap.size w w' := by
  have hmf : ∀ (fn : Fn) (first cap : Array Value) (w : World), (Instr.makeFunc fn first cap).run Tryd.prog w = .ok (.func fn first cap) w := fun _ _ _ _ => rfl
  have hc : (((w.alloc (.cells #[.pointer none] 34)).alloc (.cells #[.bool false] 4)).alloc (.cells #[.pointer none] 34)).cell? ⟨w.heap.size + 1 + 1, 0, none⟩ = some (.pointer none) := by rw [World.cell?_alloc_at _ _ _ _ (by simp)]; rfl
  have hf : (((w.alloc (.cells #[.pointer none] 34)).alloc (.cells #[.bool false] 4)).alloc (.cells #[.pointer none] 34)).frozen? ⟨w.heap.size + 1 + 1, 0, none⟩ = false := by rw [World.frozen?_alloc_at _ _ _ _ (by simp)]
  have H1 := H _ ⟨w.heap.size + 1 + 1, 0, none⟩ ((((Below.refl _ _).alloc (Nat.le_refl _) _).alloc (by simp) _).alloc (by simp; omega) _) hc hf
  have HH := Lib.hid H1
  clear H1 H hc hf
  go_enter_defers Tryd.func16, Tryd.ntmps16
  go_wp2_with fail
  refine HH.out.mono ?_
  rintro e w' ⟨rfl, w1, hb, rfl⟩
  have hb0 : Hid (Below w.heap.size w w1) := ((((Below.refl _ _).alloc (Nat.le_refl _) _).alloc (by simp) _).alloc (by simp; omega) _).trans (hb.mono (by simp; omega))
  have c0 : w1.cell? ⟨w.heap.size, 0, none⟩ = some (.pointer none) := by
    rw [hb.cell (p := ⟨w.heap.size, 0, none⟩) (by simp; omega), World.cell?_alloc_lt _ _ ⟨w.heap.size, 0, none⟩ (by simp; omega), World.cell?_alloc_lt _ _ ⟨w.heap.size, 0, none⟩ (by simp), World.cell?_alloc_at _ _ _ _ rfl]; rfl
  have c1 : w1.cell? ⟨w.heap.size + 1, 0, none⟩ = some (.bool false) := by
    rw [hb.cell (p := ⟨w.heap.size + 1, 0, none⟩) (by simp), World.cell?_alloc_lt _ _ ⟨w.heap.size + 1, 0, none⟩ (by simp), World.cell?_alloc_at _ _ _ _ (by simp)]; rfl
  have c2 : w1.cell? ⟨w.heap.size + 1 + 1, 0, none⟩ = some (.pointer none) := by
    rw [hb.cell (p := ⟨w.heap.size + 1 + 1, 0, none⟩) (by simp), World.cell?_alloc_at _ _ _ _ (by simp)]; rfl
  have f0 : w1.frozen? ⟨w.heap.size, 0, none⟩ = false := by
    rw [hb.frozen (p := ⟨w.heap.size, 0, none⟩) (by simp; omega), World.frozen?_alloc_past _ _ _ (by simp; omega), World.frozen?_alloc_past _ _ _ (by simp), World.frozen?_alloc_at _ _ _ _ rfl]
  have f1 : w1.frozen? ⟨w.heap.size + 1, 0, none⟩ = false := by
    rw [hb.frozen (p := ⟨w.heap.size + 1, 0, none⟩) (by simp), World.frozen?_alloc_past _ _ _ (by simp), World.frozen?_alloc_at _ _ _ _ (by simp)]
  clear hb
  go_wp2
  refine leaves_cons (f := 27) (args := #[.pointer (some ⟨w.heap.size, 0, none⟩), .pointer (some ⟨w.heap.size + 1, 0, none⟩)]) (by simp) (by simp [go_sem]) ?_
  refine (catch_idle _ _ _).mono ?_
  rintro e u' w'' ⟨rfl, rfl, rfl⟩
  simp [Leaves, settle, results, Tryd.results16, go_sem, c0, c1]
  exact ((hb0.out.setCell (by simp; omega) _).setCell (by simp) _).setCell (by simp) _
/-- First of an error in which errors.As finds none. -/
theorem first_miss (err : Value) (w : World) (H : AsMiss w err) :
    Calls Tryd.prog 16 #[err] w fun e w' => e = .returned (.tuple #[.pointer none, .bool false]) ∧ Below w.heap.size w w' := by
  have hmf : ∀ (fn : Fn) (first cap : Array Value) (w : World), (Instr.makeFunc fn first cap).run Tryd.prog w = .ok (.func fn first cap) w := fun _ _ _ _ => rfl
  have hc : (((w.alloc (.cells #[.pointer none] 34)).alloc (.cells #[.bool false] 4)).alloc (.cells #[.pointer none] 34)).cell? ⟨w.heap.size + 1 + 1, 0, none⟩ = some (.pointer none) := by rw [World.cell?_alloc_at _ _ _ _ (by simp)]; rfl
  have H1 := H _ ⟨w.heap.size + 1 + 1, 0, none⟩ ((((Below.refl _ _).alloc (Nat.le_refl _) _).alloc (by simp) _).alloc (by simp; omega) _) hc
  have HH := Lib.hid H1
  clear H1 H hc
  go_enter_defers Tryd.func16, Tryd.ntmps16
  go_wp2_with fail
  refine HH.out.mono ?_
  rintro e w1 ⟨rfl, hb⟩
  have hb0 : Hid (Below w.heap.size w w1) := ((((Below.refl _ _).alloc (Nat.le_refl _) _).alloc (by simp) _).alloc (by simp; omega) _).trans (hb.mono (by simp; omega))
  have c0 : w1.cell? ⟨w.heap.size, 0, none⟩ = some (.pointer none) := by
    rw [hb.cell (p := ⟨w.heap.size, 0, none⟩) (by simp; omega), World.cell?_alloc_lt _ _ ⟨w.heap.size, 0, none⟩ (by simp; omega), World.cell?_alloc_lt _ _ ⟨w.heap.size, 0, none⟩ (by simp), World.cell?_alloc_at _ _ _ _ rfl]; rfl
  have c1 : w1.cell? ⟨w.heap.size + 1, 0, none⟩ = some (.bool false) := by
    rw [hb.cell (p := ⟨w.heap.size + 1, 0, none⟩) (by simp), World.cell?_alloc_lt _ _ ⟨w.heap.size + 1, 0, none⟩ (by simp), World.cell?_alloc_at _ _ _ _ (by simp)]; rfl
  have f0 : w1.frozen? ⟨w.heap.size, 0, none⟩ = false := by
    rw [hb.frozen (p := ⟨w.heap.size, 0, none⟩) (by simp; omega), World.frozen?_alloc_past _ _ _ (by simp; omega), World.frozen?_alloc_past _ _ _ (by simp), World.frozen?_alloc_at _ _ _ _ rfl]
  have f1 : w1.frozen? ⟨w.heap.size + 1, 0, none⟩ = false := by
    rw [hb.frozen (p := ⟨w.heap.size + 1, 0, none⟩) (by simp), World.frozen?_alloc_past _ _ _ (by simp), World.frozen?_alloc_at _ _ _ _ (by simp)]
  clear hb
  go_wp2
  refine leaves_cons (f := 27) (args := #[.pointer (some ⟨w.heap.size, 0, none⟩), .pointer (some ⟨w.heap.size + 1, 0, none⟩)]) (by simp) (by simp [go_sem]) ?_
  refine (catch_idle _ _ _).mono ?_
  rintro e u' w'' ⟨rfl, rfl, rfl⟩
  simp [Leaves, settle, results, Tryd.results16, go_sem, c0, c1]
  exact (hb0.out.setCell (by simp) _).setCell (by simp) _
end Go.Proofs.YtnmlmhhohemffaaDoor
