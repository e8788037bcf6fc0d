/- A heap over whatever order, as plain mathematics. -/
import Derived.Test.YtmkoppbbenombaaB1
namespace Go.Proofs.Ytmkoppbbenombaa
open Go.RowKit

structure Hord (α : Type) where
  d : α
  lt : α → α → Prop
  irr : ∀ a, ¬ lt a a
  tr : ∀ {a b c : α}, lt a b → lt b c → lt a c
  neg : ∀ {a b c : α}, ¬ lt a b → ¬ lt b c → ¬ lt a c
section
variable {α : Type} (O : Hord α)
def hG (l : List α) (k : Nat) : α := l.getD k O.d
def swapG (l : List α) (i j : Nat) : List α := (l.set i (hG O l j)).set j (hG O l i)
variable {O}
theorem Hord.asymm {a b : α} (h : O.lt a b) : ¬ O.lt b a := fun h' => O.irr a (O.tr h h')
theorem hG_eq {l : List α} {k : Nat} (h : k < l.length) : hG O l k = l[k] := by simp [hG, List.getD_eq_getElem?_getD, h]
theorem swapG_len (l : List α) (i j : Nat) : (swapG O l i j).length = l.length := by simp [swapG]
theorem hG_set {l : List α} {i k : Nat} (x : α) (hi : i < l.length) : hG O (l.set i x) k = if k = i then x else hG O l k := by
  unfold hG
  rw [List.getD_eq_getElem?_getD, List.getElem?_set]
  by_cases h : k = i
  · subst h; simp [hi]
  · rw [if_neg (fun e => h e.symm), if_neg h, List.getD_eq_getElem?_getD]
theorem hG_swap {l : List α} {i j k : Nat} (hi : i < l.length) (hj : j < l.length) : hG O (swapG O l i j) k = if k = j then hG O l i else if k = i then hG O l j else hG O l k := by
  unfold swapG
  rw [hG_set _ (by simpa using hj), hG_set _ hi]
theorem hG_swap_far {l : List α} {i j k : Nat} (hi : i < l.length) (hj : j < l.length) (h1 : k ≠ i) (h2 : k ≠ j) : hG O (swapG O l i j) k = hG O l k := by rw [hG_swap hi hj, if_neg h2, if_neg h1]
theorem swapG_perm {l : List α} {i j : Nat} (hi : i < l.length) (hj : j < l.length) : l.Perm (swapG O l i j) := by
  unfold swapG
  rw [hG_eq hi, hG_eq hj]
  exact (List.set_set_perm hi hj).symm
theorem mem_hG {l : List α} {x : α} : x ∈ l ↔ ∃ k, k < l.length ∧ hG O l k = x := by
  constructor
  · intro h
    obtain ⟨k, hk, e⟩ := List.getElem_of_mem h
    exact ⟨k, hk, by rw [hG_eq hk, e]⟩
  · rintro ⟨k, hk, rfl⟩
    rw [hG_eq hk]
    exact List.getElem_mem hk
theorem hG_snoc_low {l : List α} {x : α} {k : Nat} (hk : k < l.length) : hG O (l ++ [x]) k = hG O l k := by
  rw [hG_eq (by simp; omega), hG_eq hk, List.getElem_append_left hk]
variable (O)
/- the heap's order, on the first m -/
def HeapG (l : List α) (m : Nat) : Prop := ∀ k, 0 < k → k < m → ¬ O.lt (hG O l k) (hG O l ((k - 1) / 2))
def UpG (l : List α) (m j : Nat) : Prop := (∀ k, 0 < k → k < m → k ≠ j → ¬ O.lt (hG O l k) (hG O l ((k - 1) / 2))) ∧ (∀ k, 0 < k → k < m → (k - 1) / 2 = j → 0 < j → ¬ O.lt (hG O l k) (hG O l ((j - 1) / 2)))
variable {O}
theorem UpG.start {l : List α} {x : α} (h : HeapG O l l.length) : UpG O (l ++ [x]) (l.length + 1) l.length := by
  have ga : ∀ k, k < l.length → hG O (l ++ [x]) k = hG O l k := fun k hk => by
    rw [hG_eq (by simp; omega), hG_eq hk, List.getElem_append_left hk]
  refine ⟨fun k h0 hk hne => ?_, fun k h0 hk hp h1 => by omega⟩
  rw [ga k (by omega), ga ((k - 1) / 2) (by omega)]
  exact h k h0 (by omega)
theorem UpG.top {l : List α} {m : Nat} (h : UpG O l m 0) : HeapG O l m := fun k h0 hk => h.1 k h0 hk (by omega)
theorem UpG.stop {l : List α} {m j : Nat} (h : UpG O l m j) (hj : 0 < j) (hl : ¬ O.lt (hG O l j) (hG O l ((j - 1) / 2))) : HeapG O l m := fun k h0 hk => by
  by_cases e : k = j
  · subst e; exact hl
  · exact h.1 k h0 hk e
theorem UpG.step {l : List α} {m j : Nat} (h : UpG O l m j) (hj : 0 < j) (hjm : j < m) (hml : m ≤ l.length) (hl : O.lt (hG O l j) (hG O l ((j - 1) / 2))) : UpG O (swapG O l ((j - 1) / 2) j) m ((j - 1) / 2) := by
  have hi : (j - 1) / 2 < l.length := by omega
  have hjl : j < l.length := by omega
  obtain ⟨i, hie⟩ : ∃ i, i = (j - 1) / 2 := ⟨_, rfl⟩
  rw [← hie] at hl hi ⊢
  have hij : i < j := by omega
  refine ⟨fun k h0 hk hne => ?_, fun k h0 hk hp h1 => ?_⟩
  · rw [hG_swap hi hjl, hG_swap hi hjl, if_neg hne]
    by_cases e1 : k = j
    · subst e1
      rw [if_pos rfl, if_neg (by omega), if_pos hie.symm]
      exact Hord.asymm hl
    · rw [if_neg e1]
      by_cases e2 : (k - 1) / 2 = j
      · rw [if_pos e2]
        have := h.2 k h0 hk e2 hj
        rw [← hie] at this
        exact this
      · rw [if_neg e2]
        by_cases e3 : (k - 1) / 2 = i
        · rw [if_pos e3]
          have h5 := h.1 k h0 hk e1
          rw [e3] at h5
          exact fun h6 => h5 (O.tr h6 hl)
        · rw [if_neg e3]
          exact h.1 k h0 hk e1
  · rw [hG_swap hi hjl, hG_swap hi hjl, if_neg (show ¬ (i - 1) / 2 = j by omega), if_neg (show ¬ (i - 1) / 2 = i by omega)]
    have hpi := h.1 i h1 (by omega) (by omega)
    by_cases e1 : k = j
    · subst e1
      rw [if_pos rfl]
      exact hpi
    · rw [if_neg e1, if_neg (show ¬ k = i by omega)]
      have h5 := h.1 k h0 hk e1
      rw [hp] at h5
      exact O.neg h5 hpi
variable (O)
def DownG (l : List α) (m i : Nat) : Prop := (∀ k, 0 < k → k < m → (k - 1) / 2 ≠ i → ¬ O.lt (hG O l k) (hG O l ((k - 1) / 2))) ∧ (∀ k, 0 < k → k < m → (k - 1) / 2 = i → 0 < i → ¬ O.lt (hG O l k) (hG O l ((i - 1) / 2)))
variable {O}
theorem DownG.start {l : List α} (h : HeapG O l l.length) (hn : 0 < l.length) : DownG O (swapG O l 0 (l.length - 1)) (l.length - 1) 0 := by
  refine ⟨fun k h0 hk hne => ?_, fun k h0 hk hp h1 => by omega⟩
  rw [hG_swap (by omega) (by omega), hG_swap (by omega) (by omega), if_neg (by omega), if_neg (by omega), if_neg (by omega), if_neg hne]
  exact h k h0 (by omega)
theorem DownG.leaf {l : List α} {m i : Nat} (h : DownG O l m i) (hl : m ≤ 2 * i + 1) : HeapG O l m := fun k h0 hk => h.1 k h0 hk (by omega)
/- j: the child that is not greater than the other one -/
variable (O)
def ChildG (l : List α) (m i j : Nat) : Prop := j < m ∧ (j = 2 * i + 1 ∨ j = 2 * i + 2) ∧ ∀ k, k < m → (k = 2 * i + 1 ∨ k = 2 * i + 2) → ¬ O.lt (hG O l k) (hG O l j)
variable {O}
theorem ChildG.left {l : List α} {m i : Nat} (h1 : 2 * i + 1 < m) (h2 : ¬ 2 * i + 2 < m) : ChildG O l m i (2 * i + 1) :=
  ⟨h1, .inl rfl, fun k hk hc => by have e : k = 2 * i + 1 := by omega
                                   subst e; exact O.irr _⟩
theorem ChildG.leftL {l : List α} {m i : Nat} (h1 : 2 * i + 1 < m) (h : ¬ O.lt (hG O l (2 * i + 2)) (hG O l (2 * i + 1))) : ChildG O l m i (2 * i + 1) :=
  ⟨h1, .inl rfl, fun k hk hc => by
    rcases hc with e | e
    · subst e; exact O.irr _
    · subst e; exact h⟩
theorem ChildG.right {l : List α} {m i : Nat} (h2 : 2 * i + 2 < m) (h : O.lt (hG O l (2 * i + 2)) (hG O l (2 * i + 1))) : ChildG O l m i (2 * i + 2) :=
  ⟨h2, .inr rfl, fun k hk hc => by
    rcases hc with e | e
    · subst e; exact Hord.asymm h
    · subst e; exact O.irr _⟩
theorem DownG.stop {l : List α} {m i j : Nat} (h : DownG O l m i) (c : ChildG O l m i j) (hl : ¬ O.lt (hG O l j) (hG O l i)) : HeapG O l m := fun k h0 hk => by
  by_cases e : (k - 1) / 2 = i
  · rw [e]
    exact O.neg (c.2.2 k hk (by omega)) hl
  · exact h.1 k h0 hk e
theorem DownG.step {l : List α} {m i j : Nat} (h : DownG O l m i) (c : ChildG O l m i j) (hml : m ≤ l.length) (hl : O.lt (hG O l j) (hG O l i)) : DownG O (swapG O l i j) m j := by
  have hj := c.1
  have hij : i < j ∧ (j - 1) / 2 = i ∧ 0 < j := by have := c.2.1; omega
  have hi' : i < l.length := by omega
  have hj' : j < l.length := by omega
  refine ⟨fun k h0 hk hne => ?_, fun k h0 hk hp h1 => ?_⟩
  · rw [hG_swap hi' hj', hG_swap hi' hj', if_neg hne]
    by_cases e1 : k = j
    · subst e1
      rw [if_pos rfl, if_pos hij.2.1]
      exact Hord.asymm hl
    · rw [if_neg e1]
      by_cases e2 : k = i
      · subst e2
        rw [if_pos rfl, if_neg (show ¬ (k - 1) / 2 = k by omega)]
        exact h.2 j hij.2.2 hj hij.2.1 h0
      · rw [if_neg e2]
        by_cases e3 : (k - 1) / 2 = i
        · rw [if_pos e3]
          exact c.2.2 k hk (by omega)
        · rw [if_neg e3]
          exact h.1 k h0 hk e3
  · rw [hG_swap hi' hj', hG_swap hi' hj', if_neg (show ¬ k = j by omega), if_neg (show ¬ k = i by omega), if_neg (show ¬ (j - 1) / 2 = j by omega), if_pos hij.2.1]
    have h5 := h.1 k h0 hk (by omega)
    rw [hp] at h5
    exact h5
theorem heapG_root {l : List α} {m : Nat} (h : HeapG O l m) : ∀ n k, k ≤ n → k < m → ¬ O.lt (hG O l k) (hG O l 0) := by
  intro n
  induction n with
  | zero => intro k hk hm; have e : k = 0 := by omega
            subst e; exact O.irr _
  | succ n ih =>
    intro k hk hm
    by_cases e : k = 0
    · subst e; exact O.irr _
    · exact O.neg (h k (by omega) hm) (ih _ (by omega) (by omega))
theorem heapG_take {l : List α} {m : Nat} (h : HeapG O l m) (hm : m ≤ l.length) : HeapG O (l.take m) (l.take m).length := by
  intro k h0 hk
  rw [List.length_take] at hk
  have ga : ∀ k, k < m → hG O (l.take m) k = hG O l k := fun k hk => by
    rw [hG_eq (by rw [List.length_take]; omega), hG_eq (by omega), List.getElem_take]
  rw [ga k (by omega), ga _ (by omega)]
  exact h k h0 (by omega)
/- what a pop leaves: all but the first -/
theorem popG_perm {es es2 : List α} (h0 : 0 < es.length) (hs : es.Perm es2) (hl : hG O es2 (es.length - 1) = hG O es 0) : (es2.take (es.length - 1) ++ [hG O es 0]).Perm es := by
  have e : es2.take (es.length - 1) ++ [hG O es 0] = es2 := by
    have hlen := hs.length_eq
    rw [← hl, hG_eq (by omega)]
    have h1 : es.length - 1 < es2.length := by omega
    have h2 := List.take_succ_eq_append_getElem h1
    rw [← h2, Nat.sub_add_cancel h0, hlen, List.take_length]
  rw [e]
  exact hs.symm
/- how many of a list are so: what a pop changes -/
theorem popG_count {es es' : List α} {x : α} (p : α → Bool) (h : (es' ++ [x]).Perm es) : (es.filter p).length = (es'.filter p).length + (if p x = true then 1 else 0) := by
  have := (h.filter p).length_eq
  rw [← this, List.filter_append]
  by_cases e : p x = true <;> simp [e]
end
end Go.Proofs.Ytmkoppbbenombaa
