/- Better: of the model. -/
import Derived.Test.YthhodnkcaefnnaaRtL
namespace Go.Proofs.Ythhodnkcaefnnaa
open Go.RowKit

def Rt.right (r : Rt) : Bool := rtRight r.kind r.vni r.mac r.ip r.org r.seq r.st
def rank (a b : Rt) : Bool := if a.st = b.st then (if a.seq = b.seq then decide (a.org < b.org) else decide (b.seq < a.seq)) else a.st
def betterB (a b : Rt) : Bool := a.right && (b.right && (decide (a.kind = 2) && (decide (b.kind = 2) && (decide (a.vni = b.vni) && (decide (a.mac = b.mac) && rank a b)))))
theorem rank_st {a b : Rt} (h : ¬ a.st = b.st) : rank a b = a.st := if_neg h
theorem rank_seq {a b : Rt} (h : a.st = b.st) (h2 : ¬ a.seq = b.seq) : rank a b = decide (b.seq < a.seq) := by rw [rank, if_pos h, if_neg h2]
theorem rank_org {a b : Rt} (h : a.st = b.st) (h2 : a.seq = b.seq) : rank a b = decide (a.org < b.org) := by rw [rank, if_pos h, if_pos h2]

theorem specRight_any (r : Rt) (w : World) : Calls Try.prog 8 #[r.val] w fun e w' => e = .returned (.bool r.right) ∧ Below w.heap.size w w' := specRouteRight_any _ _ _ _ _ _ _ w
theorem implRight_any (r : Rt) (w : World) : Calls Try.prog 10 #[r.val] w fun e w' => e = .returned (.bool r.right) ∧ Below w.heap.size w w' := implRouteRight_any _ _ _ _ _ _ _ w

set_option maxHeartbeats 1000000 in
theorem specRank_any (a b : Rt) (w : World) : Calls Try.prog 37 #[a.val, b.val] w fun e w' => e = .returned (.bool (rank a b)) ∧ Below w.heap.size w w' := by
  by_cases h1 : a.st = b.st
  · by_cases h2 : a.seq = b.seq
    · have HR := Lib.hid (rank_org h1 h2)
      unfold Rt.val rtV
      rw [h1, h2]
      go_enter Try.func37, Try.ntmps37
      go_wp2
      go_ret
      refine ⟨bool_ret HR.out.symm, ?_⟩
      go_grown
    · have HR := Lib.hid (rank_seq h1 h2)
      unfold Rt.val rtV
      rw [h1]
      go_enter Try.func37, Try.ntmps37
      go_wp2
      go_ret
      refine ⟨bool_ret HR.out.symm, ?_⟩
      go_grown
  · have HR := Lib.hid (rank_st h1)
    unfold Rt.val rtV
    cases ha : a.st
    · cases hb : b.st
      · exact absurd (ha.trans hb.symm) h1
      · rw [ha] at HR
        go_enter Try.func37, Try.ntmps37
        go_wp2
        go_ret
        refine ⟨bool_ret HR.out.symm, ?_⟩
        go_grown
    · cases hb : b.st
      · rw [ha] at HR
        go_enter Try.func37, Try.ntmps37
        go_wp2
        go_ret
        refine ⟨bool_ret HR.out.symm, ?_⟩
        go_grown
      · exact absurd (ha.trans hb.symm) h1

/- the ways through Better -/
inductive BtWay (a b : Rt) (ra rb r q : Bool) : Prop
  | ra (h1 : ra = false) (hr : Hid (r = false))
  | rb (h1 : ra = true) (h2 : rb = false) (hr : Hid (r = false))
  | ka (h1 : ra = true) (h2 : rb = true) (h3 : ¬ a.kind = 2) (hr : Hid (r = false))
  | kb (h1 : ra = true) (h2 : rb = true) (h3 : a.kind = 2) (h4 : ¬ b.kind = 2) (hr : Hid (r = false))
  | vni (h1 : ra = true) (h2 : rb = true) (h3 : a.kind = 2) (h4 : b.kind = 2) (h5 : ¬ a.vni = b.vni) (hr : Hid (r = false))
  | mac (h1 : ra = true) (h2 : rb = true) (h3 : a.kind = 2) (h4 : b.kind = 2) (h5 : a.vni = b.vni) (h6 : ¬ a.mac = b.mac) (hr : Hid (r = false))
  | rank (h1 : ra = true) (h2 : rb = true) (h3 : a.kind = 2) (h4 : b.kind = 2) (h5 : a.vni = b.vni) (h6 : a.mac = b.mac) (hr : Hid (r = q))
theorem bt_way (a b : Rt) : BtWay a b a.right b.right (betterB a b) (rank a b) := by
  have e : betterB a b = (a.right && (b.right && (decide (a.kind = 2) && (decide (b.kind = 2) && (decide (a.vni = b.vni) && (decide (a.mac = b.mac) && rank a b)))))) := rfl
  generalize betterB a b = r at *
  generalize rank a b = q at *
  generalize a.right = ra at *
  generalize b.right = rb at *
  cases ra
  · exact .ra rfl (Lib.hid e)
  cases rb
  · exact .rb rfl rfl (Lib.hid e)
  by_cases h3 : a.kind = 2
  case neg => exact .ka rfl rfl h3 (Lib.hid (by rw [e, decide_eq_false h3]; rfl))
  by_cases h4 : b.kind = 2
  case neg => exact .kb rfl rfl h3 h4 (Lib.hid (by rw [e, decide_eq_true h3, decide_eq_false h4]; rfl))
  by_cases h5 : a.vni = b.vni
  case neg => exact .vni rfl rfl h3 h4 h5 (Lib.hid (by rw [e, decide_eq_true h3, decide_eq_true h4, decide_eq_false h5]; rfl))
  by_cases h6 : a.mac = b.mac
  case neg => exact .mac rfl rfl h3 h4 h5 h6 (Lib.hid (by rw [e, decide_eq_true h3, decide_eq_true h4, decide_eq_true h5, decide_eq_false h6]; rfl))
  exact .rank rfl rfl h3 h4 h5 h6 (Lib.hid (by rw [e, decide_eq_true h3, decide_eq_true h4, decide_eq_true h5, decide_eq_true h6]; rfl))

set_option maxHeartbeats 4000000 in
theorem specBetter_any (a b : Rt) (w : World) : Calls Try.prog 16 #[a.val, b.val] w fun e w' => e = .returned (.bool (betterB a b)) ∧ Below w.heap.size w w' := by
  have HA := Lib.hid (specRight_any a)
  have HB := Lib.hid (specRight_any b)
  have HK := Lib.hid (specRank_any a b)
  have hw := bt_way a b
  generalize betterB a b = r at *
  generalize rank a b = q at *
  generalize a.right = ra at *
  generalize b.right = rb at *
  obtain ⟨k, v, m, i, o, s, t⟩ := a
  obtain ⟨k', v', m', i', o', s', t'⟩ := b
  unfold Rt.val rtV at *
  dsimp only at HA HB HK ⊢
  rcases hw with ⟨h1, hr⟩ | ⟨h1, h2, hr⟩ | ⟨h1, h2, h3, hr⟩ | ⟨h1, h2, h3, h4, hr⟩ | ⟨h1, h2, h3, h4, h5, hr⟩ | ⟨h1, h2, h3, h4, h5, h6, hr⟩ | ⟨h1, h2, h3, h4, h5, h6, hr⟩
  · subst h1
    go_enter Try.func16, Try.ntmps16
    go_wp2_with (go_at_call 8; refine (HA.out _).mono ?_; rintro e w1 ⟨rfl, hb1⟩; have HB1 : Hid (Below w.heap.size w w1) := Lib.hid ((((Below.refl _ _).alloc (Nat.le_refl _) _).alloc (by simp) _).trans (hb1.mono (by simp; omega))); clear hb1)
    go_ret
    exact ⟨bool_ret hr.out.symm, HB1.out⟩
  all_goals
    subst h1
    subst h2
    try (have h3' : _ = _ := h3; dsimp only at h3'; clear h3; subst h3')
    try (have h4' : _ = _ := h4; dsimp only at h4'; clear h4; subst h4')
    try (have h5' : _ = _ := h5; dsimp only at h5'; clear h5; subst h5')
    try (have h6' : _ = _ := h6; dsimp only at h6'; clear h6; subst h6')
    try dsimp only at h3
    try dsimp only at h4
    try dsimp only at h5
    try dsimp only at h6
    go_enter Try.func16, Try.ntmps16
    go_wp2_with fail
    refine (HA.out _).mono ?_
    rintro e w1 ⟨rfl, hb1⟩
    have hc1 : ∀ o, w1.cell? ⟨w.heap.size, o, none⟩ = _ := fun o => hb1.cell (p := ⟨w.heap.size, o, none⟩) (by simp; omega)
    have hd1 : ∀ o, w1.cell? ⟨w.heap.size + 1, o, none⟩ = _ := fun o => hb1.cell (p := ⟨w.heap.size + 1, o, none⟩) (by simp)
    have hz1 : w.heap.size + 1 < w1.heap.size := by have := hb1.size; simp at this; omega
    have HB1 : Hid (Below w.heap.size w w1) := Lib.hid ((((Below.refl _ _).alloc (Nat.le_refl _) _).alloc (by simp) _).trans (hb1.mono (by simp; omega)))
    clear hb1
    go_wp2_with fail
    refine (HB.out _).mono ?_
    rintro e w2 ⟨rfl, hb2⟩
    have hc2 : ∀ o, w2.cell? ⟨w.heap.size, o, none⟩ = _ := fun o => hb2.cell (p := ⟨w.heap.size, o, none⟩) (by simp; omega)
    have hd2 : ∀ o, w2.cell? ⟨w.heap.size + 1, o, none⟩ = _ := fun o => hb2.cell (p := ⟨w.heap.size + 1, o, none⟩) hz1
    have HB2 : Hid (Below w.heap.size w w2) := Lib.hid (HB1.out.trans (hb2.mono (by omega)))
    clear hb2
    go_wp2_with (go_at_call 37; refine (HK.out _).mono ?_; rintro e w3 ⟨rfl, hb3⟩; have HB3 : Hid (Below w.heap.size w w3) := Lib.hid (HB2.out.trans (hb3.mono HB2.out.size)); clear hb3)
    go_ret
    first | exact ⟨bool_ret hr.out.symm, HB3.out⟩ | exact ⟨bool_ret hr.out.symm, HB2.out⟩
end Go.Proofs.Ythhodnkcaefnnaa
