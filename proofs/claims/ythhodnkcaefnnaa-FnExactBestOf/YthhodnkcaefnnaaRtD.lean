/- prefers, of the program. -/
import Derived.Test.YthhodnkcaefnnaaRtC
namespace Go.Proofs.Ythhodnkcaefnnaa
open Go.RowKit

def prefR (v m : Int) (a b : Rt) : Bool := hasR v m a && (hasR v m b && rank a b)
/- the ways through prefers -/
inductive PfWay (a b : Rt) (ra rb r : Bool) : Prop
  | ra (h1 : ra = false) (hr : Hid (r = false))
  | rb (h1 : ra = true) (h2 : rb = false) (hr : Hid (r = false))
  | st (h1 : ra = true) (h2 : rb = true) (h3 : (a.st == b.st) = false) (hr : Hid (r = a.st))
  | seq (h1 : ra = true) (h2 : rb = true) (h3 : (a.st == b.st) = true) (h4 : ¬ a.seq = b.seq) (hr : Hid (r = decide (b.seq < a.seq)))
  | org (h1 : ra = true) (h2 : rb = true) (h3 : (a.st == b.st) = true) (h4 : a.seq = b.seq) (hr : Hid (r = decide (a.org < b.org)))
theorem pf_way (v m : Int) (a b : Rt) : PfWay a b (hasR v m a) (hasR v m b) (prefR v m a b) := by
  have e : prefR v m a b = (hasR v m a && (hasR v m b && rank a b)) := rfl
  generalize prefR v m a b = r at *
  generalize hasR v m a = ra at *
  generalize hasR v m b = rb at *
  cases ra
  · exact .ra rfl (Lib.hid e)
  cases rb
  · exact .rb rfl rfl (Lib.hid e)
  have e' : r = rank a b := e
  by_cases h3 : a.st = b.st
  · by_cases h4 : a.seq = b.seq
    · exact .org rfl rfl (by simp [h3]) h4 (Lib.hid (e'.trans (rank_org h3 h4)))
    · exact .seq rfl rfl (by simp [h3]) h4 (Lib.hid (e'.trans (rank_seq h3 h4)))
  · exact .st rfl rfl (by simp [h3]) (Lib.hid (e'.trans (rank_st h3)))
set_option maxHeartbeats 4000000 in
theorem prefers_any (v m : Int) (a b : Rt) (w : World) : Calls Try.prog 39 #[gnV v m, a.val, b.val] w fun e w' => e = .returned (.bool (prefR v m a b)) ∧ Below w.heap.size w w' := by
  have HA := Lib.hid (hasRoute_any v m a)
  have HB := Lib.hid (hasRoute_any v m b)
  have hw := pf_way v m a b
  generalize prefR v m a b = r at *
  generalize hasR v m a = ra at *
  generalize hasR v m b = rb at *
  obtain ⟨k, av, am, i, o, s, t⟩ := a
  obtain ⟨k', v', m', i', o', s', t'⟩ := b
  unfold Rt.val rtV gnV at *
  dsimp only at HA HB ⊢
  rcases hw with ⟨h1, hr⟩ | ⟨h1, h2, hr⟩ | ⟨h1, h2, h3, hr⟩ | ⟨h1, h2, h3, h4, hr⟩ | ⟨h1, h2, h3, h4, hr⟩
  all_goals
    subst h1
    try subst h2
    try dsimp only at h3
    try dsimp only at h4
    try subst h4
    try dsimp only at hr
    go_enter Try.func39, Try.ntmps39
    go_wp2_with fail
    refine (HA.out _).mono ?_
    rintro e w1 ⟨rfl, hb1⟩
    have hz1 : w.heap.size + 2 < w1.heap.size := by have := hb1.size; simp at this; omega
    have hc1 : ∀ o, w1.cell? ⟨w.heap.size, o, none⟩ = _ := fun o => hb1.cell (p := ⟨w.heap.size, o, none⟩) (by simp <;> omega)
    have hd1 : ∀ o, w1.cell? ⟨w.heap.size + 1, o, none⟩ = _ := fun o => hb1.cell (p := ⟨w.heap.size + 1, o, none⟩) (by simp <;> omega)
    have he1 : ∀ o, w1.cell? ⟨w.heap.size + 2, o, none⟩ = _ := fun o => hb1.cell (p := ⟨w.heap.size + 2, o, none⟩) (by simp <;> omega)
    have HB1 : Hid (Below w.heap.size w w1) := Lib.hid (((((Below.refl _ _).alloc (Nat.le_refl _) _).alloc (by simp) _).alloc (by simp; omega) _).trans (hb1.mono (by simp; omega)))
    clear hb1
    go_wp2_with (go_at_call 47; refine (HB.out _).mono ?_; rintro e w2 ⟨rfl, hb2⟩; have hd2 : ∀ o, w2.cell? ⟨w.heap.size + 1, o, none⟩ = _ := (fun o => hb2.cell (p := ⟨w.heap.size + 1, o, none⟩) (by dsimp only; omega)); have he2 : ∀ o, w2.cell? ⟨w.heap.size + 2, o, none⟩ = _ := (fun o => hb2.cell (p := ⟨w.heap.size + 2, o, none⟩) (by dsimp only; omega)); have HB2 : Hid (Below w.heap.size w w2) := Lib.hid (HB1.out.trans (hb2.mono (by omega))); clear hb2)
    go_ret
    first | exact ⟨bool_ret hr.out.symm, HB2.out⟩ | exact ⟨bool_ret hr.out.symm, HB1.out⟩
end Go.Proofs.Ythhodnkcaefnnaa
