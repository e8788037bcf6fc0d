/- A row of names being sorted: its cells, the insertion sort's mathematics. -/
import Derived.Test.YtmkoppbbenombaaGsR
import Derived.Test.YtmkoppbbenombaaRw
namespace Go.Proofs.Ytmkoppbbenombaa
open Go.RowKit

abbrev Nm := Int × Int
def Nm.cl (x : Nm) : List Value := [.int .i64 x.1, .int .i64 x.2]
theorem Nm.cl_len (x : Nm) : x.cl.length = 2 := rfl
theorem Nm.cl_one1 (x : Nm) : ∀ u ∈ x.cl, u.oneCell' = true := by
  intro u hu
  simp only [Nm.cl, List.mem_cons, List.not_mem_nil, or_false] at hu
  rcases hu with rfl | rfl <;> rfl
def LtN (x y : Nm) : Prop := x.1 < y.1 ∨ (x.1 = y.1 ∧ x.2 < y.2)
theorem LtN.trans {x y z : Nm} (h : LtN x y) (k : LtN y z) : LtN x z := by unfold LtN at *; omega
theorem LtN.total {x y : Nm} (h : ¬ LtN x y) (hne : x ≠ y) : LtN y x := by
  obtain ⟨a, b⟩ := x
  obtain ⟨c, d⟩ := y
  unfold LtN at *
  dsimp only at *
  by_cases h1 : a = c
  · by_cases h2 : b = d
    · subst h1 h2; exact absurd rfl hne
    · omega
  · omega
theorem cmpN_neg (x y : Nm) : cmpN x.1 x.2 y.1 y.2 < 0 ↔ LtN x y := by
  unfold cmpN LtN
  simp only [orL, cmpI_zero]
  by_cases h1 : x.1 = y.1
  · by_cases h2 : x.2 = y.2
    · simp [h1, h2]
    · simp [h1, h2, cmpI_neg]
  · simp [h1, cmpI_neg]
def NmRow (W : World) (B g cap n : Nat) (s : Nat → Nm) : Prop :=
  ∃ zs, W.ownsRow B 106 2 (.slice (some ⟨g, 0, none⟩) n cap) n zs ∧ ∀ m, m < n → zs[m * 2]? = some (.int .i64 (s m).1) ∧ zs[m * 2 + 1]? = some (.int .i64 (s m).2)
section
variable {W W' : World} {B g cap n m : Nat} {s : Nat → Nm}
theorem NmRow.c0 (h : NmRow W B g cap n s) (hm : m < n) : W.cell? ⟨g, m * 2, none⟩ = some (.int .i64 (s m).1) := by
  obtain ⟨zs, h1, h2⟩ := h
  rw [h1.cellAt (m * 2) (by omega)]
  exact (h2 m hm).1
theorem NmRow.c1 (h : NmRow W B g cap n s) (hm : m < n) : W.cell? ⟨g, m * 2 + 1, none⟩ = some (.int .i64 (s m).2) := by
  obtain ⟨zs, h1, h2⟩ := h
  rw [h1.cellAt (m * 2 + 1) (by omega)]
  exact (h2 m hm).2
theorem NmRow.frozen (h : NmRow W B g cap n s) (o : Nat) : W.frozen? ⟨g, o, none⟩ = false := by
  obtain ⟨zs, h1, _⟩ := h
  exact h1.frozenAt o
theorem NmRow.kept (h : NmRow W B g cap n s) (hb : Below W.heap.size W W') : NmRow W' B g cap n s := by
  obtain ⟨zs, h1, h2⟩ := h
  exact ⟨zs, rown_below h1 hb, h2⟩
theorem NmRow.drew (h : NmRow W B g cap n s) : NmRow W.drew B g cap n s := h
theorem NmRow.put (h : NmRow W B g cap n s) (hm : m < n) (x y : Int) : NmRow ((W.setCell ⟨g, m * 2, none⟩ (.int .i64 x)).setCell ⟨g, m * 2 + 1, none⟩ (.int .i64 y)) B g cap n (fun k => if k = m then (x, y) else s k) := by
  obtain ⟨zs, h1, h2⟩ := h
  refine ⟨_, ((h1.stored (m * 2) (.int .i64 x)).1.stored (m * 2 + 1) (.int .i64 y)).1, fun k hk => ?_⟩
  have hl := h1.1
  dsimp only
  by_cases e : k = m
  · subst e
    rw [if_pos rfl, List.getElem?_set_ne (by omega), List.getElem?_set_self (by omega), List.getElem?_set_self (by rw [List.length_set]; omega)]
    exact ⟨rfl, rfl⟩
  · rw [if_neg e, List.getElem?_set_ne (by omega), List.getElem?_set_ne (by omega), List.getElem?_set_ne (by omega), List.getElem?_set_ne (by omega)]
    exact h2 k hk
theorem NmRow.congr {s' : Nat → Nm} (h : NmRow W B g cap n s) (he : ∀ k, k < n → s k = s' k) : NmRow W B g cap n s' := by
  obtain ⟨zs, h1, h2⟩ := h
  exact ⟨zs, h1, fun m hm => by rw [← he m hm]; exact h2 m hm⟩
theorem NmRow.own (h : NmRow W B g cap n s) : W.ownsRow B 106 2 (.slice (some ⟨g, 0, none⟩) n cap) n (rcells Nm.cl ((List.range n).map s)) := by
  obtain ⟨zs, h1, h2⟩ := h
  have : zs = rcells Nm.cl ((List.range n).map s) := by
    apply List.ext_getElem?
    intro o
    by_cases ho : o < n * 2
    · have e : o = o / 2 * 2 + o % 2 := by omega
      have hd : o / 2 < ((List.range n).map s).length := by simp; omega
      rw [e, rcells_at Nm.cl_len _ (o / 2) hd (o % 2) (by omega)]
      have hx : ((List.range n).map s)[o / 2] = s (o / 2) := by simp
      rw [hx]
      obtain ⟨k0, k1⟩ := h2 (o / 2) (by omega)
      have hr : o % 2 = 0 ∨ o % 2 = 1 := by omega
      rcases hr with hr | hr
      · rw [hr, Nat.add_zero, k0]; rfl
      · rw [hr, k1]; rfl
    · rw [List.getElem?_eq_none (by rw [h1.1]; omega), List.getElem?_eq_none (by rw [rcells_len Nm.cl_len]; simp; omega)]
  rw [← this]
  exact h1
end
theorem nmRow_of {W : World} {B g cap : Nat} {l : List Nm} (h : W.ownsRow B 106 2 (.slice (some ⟨g, 0, none⟩) l.length cap) l.length (rcells Nm.cl l)) : NmRow W B g cap l.length (fun k => l.getD k (0, 0)) := by
  refine ⟨_, h, fun m hm => ?_⟩
  have h0 := rcells_at Nm.cl_len l m hm 0 (by omega)
  have h1 := rcells_at Nm.cl_len l m hm 1 (by omega)
  have hx : l.getD m (0, 0) = l[m] := by simp [List.getD, List.getElem?_eq_getElem hm]
  dsimp only
  rw [hx]
  exact ⟨h0, h1⟩
/- the sort's mathematics -/
def MidN (i j : Nat) (s : Nat → Nm) : Prop := ∀ a b, a < b → b ≤ i → b ≠ j → LtN (s a) (s b)
def UpN (i : Nat) (s : Nat → Nm) : Prop := ∀ a b, a < b → b < i → LtN (s a) (s b)
structure SetN (n : Nat) (s0 s : Nat → Nm) : Prop where
  inj : ∀ a b, a < n → b < n → a ≠ b → s a ≠ s b
  mem : ∀ z, (∃ k, k < n ∧ s k = z) ↔ ∃ k, k < n ∧ s0 k = z
def swapN (s : Nat → Nm) (j : Nat) : Nat → Nm := fun k => if k = j then s (j + 1) else if k = j + 1 then s j else s k
theorem UpN.mid {i : Nat} {s : Nat → Nm} (h : UpN i s) : MidN i i s := fun a b hab hb hne => h a b hab (by omega)
theorem MidN.zero {i : Nat} {s : Nat → Nm} (h : MidN i 0 s) : UpN (i + 1) s := fun a b hab hb => h a b hab (by omega) (by omega)
theorem MidN.stop {n i j : Nat} {s0 s : Nat → Nm} (h : MidN i (j + 1) s) (hS : SetN n s0 s) (hj : j + 1 < n) (hc : ¬ LtN (s (j + 1)) (s j)) : UpN (i + 1) s := by
  have h0 : LtN (s j) (s (j + 1)) := LtN.total hc (hS.inj _ _ hj (by omega) (by omega))
  intro a b hab hb
  by_cases e : b = j + 1
  · subst e
    by_cases e2 : a = j
    · subst e2; exact h0
    · exact LtN.trans (h a j (by omega) (by omega) (by omega)) h0
  · exact h a b hab (by omega) e
theorem MidN.swap {i j : Nat} {s : Nat → Nm} (h : MidN i (j + 1) s) (hji : j + 1 ≤ i) (hc : LtN (s (j + 1)) (s j)) : MidN i j (swapN s j) := by
  intro a b hab hb hne
  unfold swapN
  by_cases e1 : b = j + 1
  · subst e1
    rw [if_neg (show ¬ j + 1 = j by omega), if_pos rfl]
    by_cases e2 : a = j
    · subst e2; rw [if_pos rfl]; exact hc
    · rw [if_neg e2, if_neg (by omega)]
      exact h a j (by omega) (by omega) (by omega)
  · rw [if_neg hne, if_neg e1]
    by_cases e2 : a = j
    · subst e2
      rw [if_pos rfl]
      exact h (a + 1) b (by omega) hb e1
    · rw [if_neg e2]
      by_cases e3 : a = j + 1
      · subst e3
        rw [if_pos rfl]
        exact h j b (by omega) hb e1
      · rw [if_neg e3]
        exact h a b hab hb e1
theorem SetN.swap {n j : Nat} {s0 s : Nat → Nm} (h : SetN n s0 s) (hj : j + 1 < n) : SetN n s0 (swapN s j) := by
  have key : ∀ k, k < n → ∃ m, m < n ∧ swapN s j k = s m ∧ (k = j → m = j + 1) ∧ (k = j + 1 → m = j) ∧ (k ≠ j → k ≠ j + 1 → m = k) := by
    intro k hk
    unfold swapN
    by_cases e1 : k = j
    · exact ⟨j + 1, hj, by rw [if_pos e1], fun _ => rfl, fun e => by omega, fun e => absurd e1 e⟩
    · by_cases e2 : k = j + 1
      · exact ⟨j, by omega, by rw [if_neg e1, if_pos e2], fun e => absurd e e1, fun _ => rfl, fun _ e => absurd e2 e⟩
      · exact ⟨k, hk, by rw [if_neg e1, if_neg e2], fun e => absurd e e1, fun e => absurd e e2, fun _ _ => rfl⟩
  refine ⟨fun a b ha hb hne => ?_, fun z => ?_⟩
  · obtain ⟨ma, h1, h2, h3, h4, h5⟩ := key a ha
    obtain ⟨mb, k1, k2, k3, k4, k5⟩ := key b hb
    rw [h2, k2]
    refine h.inj _ _ h1 k1 (fun e => ?_)
    by_cases a1 : a = j
    · have := h3 a1
      by_cases b1 : b = j
      · omega
      · by_cases b2 : b = j + 1
        · have := k4 b2; omega
        · have := k5 b1 b2; omega
    · by_cases a2 : a = j + 1
      · have := h4 a2
        by_cases b1 : b = j
        · have := k3 b1; omega
        · by_cases b2 : b = j + 1
          · omega
          · have := k5 b1 b2; omega
      · have := h5 a1 a2
        by_cases b1 : b = j
        · have := k3 b1; omega
        · by_cases b2 : b = j + 1
          · have := k4 b2; omega
          · have := k5 b1 b2; omega
  · rw [← h.mem z]
    constructor
    · rintro ⟨k, hk, rfl⟩
      obtain ⟨m, h1, h2, _⟩ := key k hk
      exact ⟨m, h1, h2.symm⟩
    · rintro ⟨k, hk, rfl⟩
      by_cases e1 : k = j
      · exact ⟨j + 1, hj, by unfold swapN; rw [if_neg (by omega), if_pos rfl, e1]⟩
      · by_cases e2 : k = j + 1
        · exact ⟨j, by omega, by unfold swapN; rw [if_pos rfl, e2]⟩
        · exact ⟨k, hk, by unfold swapN; rw [if_neg e1, if_neg e2]⟩
end Go.Proofs.Ytmkoppbbenombaa
