/- A heap of held routes, as plain mathematics. -/
import Derived.Test.YtmkoppbbenombaaHd
namespace Go.Proofs.Ytmkoppbbenombaa
open Go.RowKit

def hd0 : Hd := ⟨0, false, ⟨0, 0, 0, 0, 0, 0, false⟩⟩
def gH (l : List Hd) (k : Nat) : Hd := l.getD k hd0
theorem gH_eq {l : List Hd} {k : Nat} (h : k < l.length) : gH l k = l[k] := by simp [gH, List.getD_eq_getElem?_getD, h]
/- two that have the same slot -/
def same (a b : Hd) : Prop := a.p = b.p ∧ a.r.kind = b.r.kind ∧ a.r.vni = b.r.vni ∧ a.r.mac = b.r.mac ∧ a.r.org = b.r.org
def LtH (a b : Hd) : Prop := a.p < b.p ∨ (a.p = b.p ∧ (a.r.kind < b.r.kind ∨ (a.r.kind = b.r.kind ∧ (a.r.vni < b.r.vni ∨ (a.r.vni = b.r.vni ∧ (a.r.mac < b.r.mac ∨ (a.r.mac = b.r.mac ∧ a.r.org < b.r.org)))))))
theorem less_iff (a b : Hd) : lessH a b = true ↔ LtH a b := by
  unfold lessH LtH
  by_cases h1 : a.p = b.p
  · by_cases h2 : a.r.kind = b.r.kind
    · by_cases h3 : a.r.vni = b.r.vni
      · by_cases h4 : a.r.mac = b.r.mac
        · simp [h1, h2, h3, h4]
        · simp [h1, h2, h3, h4]
      · simp [h1, h2, h3]
    · simp [h1, h2]
  · simp [h1]
theorem less_no (a b : Hd) : lessH a b = false ↔ ¬ LtH a b := by rw [← less_iff]; simp
theorem lt_irrefl (a : Hd) : ¬ LtH a a := by unfold LtH; omega
theorem lt_trans {a b c : Hd} (h : LtH a b) (h' : LtH b c) : LtH a c := by unfold LtH at *; omega
theorem lt_asymm {a b : Hd} (h : LtH a b) : ¬ LtH b a := fun h' => lt_irrefl a (lt_trans h h')
theorem lt_neg {a b c : Hd} (h : ¬ LtH a b) (h' : ¬ LtH b c) : ¬ LtH a c := by unfold LtH at *; omega
theorem lt_total {a b : Hd} (h : ¬ LtH a b) (h' : ¬ same a b) : LtH b a := by unfold LtH same at *; omega
theorem lt_not_same {a b : Hd} (h : LtH a b) : ¬ same a b := by unfold LtH same at *; omega
theorem same_symm {a b : Hd} (h : same a b) : same b a := ⟨h.1.symm, h.2.1.symm, h.2.2.1.symm, h.2.2.2.1.symm, h.2.2.2.2.symm⟩
theorem same_trans {a b c : Hd} (h : same a b) (h' : same b c) : same a c := ⟨h.1.trans h'.1, h.2.1.trans h'.2.1, h.2.2.1.trans h'.2.2.1, h.2.2.2.1.trans h'.2.2.2.1, h.2.2.2.2.trans h'.2.2.2.2⟩
/- two elements exchanged -/
def swapL (l : List Hd) (i j : Nat) : List Hd := (l.set i (gH l j)).set j (gH l i)
theorem swapL_len (l : List Hd) (i j : Nat) : (swapL l i j).length = l.length := by simp [swapL]
theorem gH_set {l : List Hd} {i k : Nat} (x : Hd) (hi : i < l.length) : gH (l.set i x) k = if k = i then x else gH l k := by
  unfold gH
  rw [List.getD_eq_getElem?_getD, List.getElem?_set]
  by_cases h : k = i
  · subst h; simp [hi]
  · rw [if_neg (fun e => h e.symm), if_neg h, List.getD_eq_getElem?_getD]
theorem gH_swap {l : List Hd} {i j k : Nat} (hi : i < l.length) (hj : j < l.length) : gH (swapL l i j) k = if k = j then gH l i else if k = i then gH l j else gH l k := by
  unfold swapL
  rw [gH_set _ (by simpa using hj), gH_set _ hi]
/- the same elements, whichever order: they are known by their places -/
def Sames (l l' : List Hd) : Prop := l'.length = l.length ∧ ∀ x, x ∈ l' ↔ x ∈ l
theorem mem_gH {l : List Hd} {x : Hd} : x ∈ l ↔ ∃ k, k < l.length ∧ gH l k = x := by
  constructor
  · intro h
    obtain ⟨k, hk, e⟩ := List.getElem_of_mem h
    exact ⟨k, hk, by rw [gH_eq hk, e]⟩
  · rintro ⟨k, hk, rfl⟩
    rw [gH_eq hk]
    exact List.getElem_mem hk
theorem Sames.refl (l : List Hd) : Sames l l := ⟨rfl, fun _ => Iff.rfl⟩
theorem Sames.trans {a b c : List Hd} (h : Sames a b) (h' : Sames b c) : Sames a c := ⟨h'.1.trans h.1, fun x => (h'.2 x).trans (h.2 x)⟩
theorem Sames.swap {l : List Hd} {i j : Nat} (hi : i < l.length) (hj : j < l.length) : Sames l (swapL l i j) := by
  refine ⟨swapL_len l i j, fun x => ?_⟩
  rw [mem_gH, mem_gH, swapL_len]
  constructor
  · rintro ⟨k, hk, e⟩
    rw [gH_swap hi hj] at e
    by_cases h1 : k = j
    · rw [if_pos h1] at e; exact ⟨i, hi, e⟩
    · rw [if_neg h1] at e
      by_cases h2 : k = i
      · rw [if_pos h2] at e; exact ⟨j, hj, e⟩
      · rw [if_neg h2] at e; exact ⟨k, hk, e⟩
  · rintro ⟨k, hk, e⟩
    by_cases h1 : k = i
    · subst h1; exact ⟨j, hj, by rw [gH_swap hi hj, if_pos rfl, e]⟩
    · by_cases h2 : k = j
      · subst h2
        exact ⟨i, hi, by rw [gH_swap hi hj, if_neg (fun e => h1 e.symm), if_pos rfl, e]⟩
      · exact ⟨k, hk, by rw [gH_swap hi hj, if_neg h2, if_neg h1, e]⟩
/- no two of the same slot -/
def Dist (l : List Hd) : Prop := ∀ i j, i < l.length → j < l.length → i ≠ j → ¬ same (gH l i) (gH l j)
theorem Dist.swap {l : List Hd} {i j : Nat} (h : Dist l) (hi : i < l.length) (hj : j < l.length) : Dist (swapL l i j) := by
  intro a b ha hb hab
  rw [swapL_len] at ha hb
  rw [gH_swap hi hj, gH_swap hi hj]
  by_cases a1 : a = j
  · by_cases b1 : b = j
    · omega
    · rw [if_pos a1, if_neg b1]
      by_cases b2 : b = i
      · rw [if_pos b2]; exact h i j hi hj (by omega)
      · rw [if_neg b2]; exact h i b hi hb (by omega)
  · rw [if_neg a1]
    by_cases a2 : a = i
    · rw [if_pos a2]
      by_cases b1 : b = j
      · rw [if_pos b1]; exact h j i hj hi (by omega)
      · rw [if_neg b1, if_neg (by omega)]; exact h j b hj hb (by omega)
    · rw [if_neg a2]
      by_cases b1 : b = j
      · rw [if_pos b1]; exact h a i ha hi (by omega)
      · rw [if_neg b1]
        by_cases b2 : b = i
        · rw [if_pos b2]; exact h a j ha hj (by omega)
        · rw [if_neg b2]; exact h a b ha hb hab
/- the heap's order, on the first m -/
def HeapOk (l : List Hd) (m : Nat) : Prop := ∀ k, 0 < k → k < m → ¬ LtH (gH l k) (gH l ((k - 1) / 2))
def UpInv (l : List Hd) (m j : Nat) : Prop := (∀ k, 0 < k → k < m → k ≠ j → ¬ LtH (gH l k) (gH l ((k - 1) / 2))) ∧ (∀ k, 0 < k → k < m → (k - 1) / 2 = j → 0 < j → ¬ LtH (gH l k) (gH l ((j - 1) / 2)))
theorem UpInv.start {l : List Hd} {x : Hd} (h : HeapOk l l.length) : UpInv (l ++ [x]) (l.length + 1) l.length := by
  have ga : ∀ k, k < l.length → gH (l ++ [x]) k = gH l k := fun k hk => by
    rw [gH_eq (by simp; omega), gH_eq hk, List.getElem_append_left hk]
  refine ⟨fun k h0 hk hne => ?_, fun k h0 hk hp h1 => by omega⟩
  rw [ga k (by omega), ga ((k - 1) / 2) (by omega)]
  exact h k h0 (by omega)
theorem UpInv.top {l : List Hd} {m : Nat} (h : UpInv l m 0) : HeapOk l m := fun k h0 hk => h.1 k h0 hk (by omega)
theorem UpInv.stop {l : List Hd} {m j : Nat} (h : UpInv l m j) (hj : 0 < j) (hl : ¬ LtH (gH l j) (gH l ((j - 1) / 2))) : HeapOk l m := fun k h0 hk => by
  by_cases e : k = j
  · subst e; exact hl
  · exact h.1 k h0 hk e
theorem UpInv.step {l : List Hd} {m j : Nat} (h : UpInv l m j) (hj : 0 < j) (hjm : j < m) (hml : m ≤ l.length) (hl : LtH (gH l j) (gH l ((j - 1) / 2))) : UpInv (swapL l ((j - 1) / 2) j) m ((j - 1) / 2) := by
  have hi : (j - 1) / 2 < l.length := by omega
  have hjl : j < l.length := by omega
  obtain ⟨i, hie⟩ : ∃ i, i = (j - 1) / 2 := ⟨_, rfl⟩
  rw [← hie] at hl hi ⊢
  have hij : i < j := by omega
  refine ⟨fun k h0 hk hne => ?_, fun k h0 hk hp h1 => ?_⟩
  · rw [gH_swap hi hjl, gH_swap hi hjl, if_neg hne]
    by_cases e1 : k = j
    · subst e1
      rw [if_pos rfl, if_neg (by omega), if_pos hie.symm]
      exact lt_asymm hl
    · rw [if_neg e1]
      by_cases e2 : (k - 1) / 2 = j
      · rw [if_pos e2]
        have := h.2 k h0 hk e2 hj
        rw [← hie] at this
        exact this
      · rw [if_neg e2]
        by_cases e3 : (k - 1) / 2 = i
        · rw [if_pos e3]
          have h5 := h.1 k h0 hk e1
          rw [e3] at h5
          exact fun h6 => h5 (lt_trans h6 hl)
        · rw [if_neg e3]
          exact h.1 k h0 hk e1
  · rw [gH_swap hi hjl, gH_swap hi hjl, if_neg (show ¬ (i - 1) / 2 = j by omega), if_neg (show ¬ (i - 1) / 2 = i by omega)]
    have hpi := h.1 i h1 (by omega) (by omega)
    by_cases e1 : k = j
    · subst e1
      rw [if_pos rfl]
      exact hpi
    · rw [if_neg e1, if_neg (show ¬ k = i by omega)]
      have h5 := h.1 k h0 hk e1
      rw [hp] at h5
      exact lt_neg h5 hpi
def DownInv (l : List Hd) (m i : Nat) : Prop := (∀ k, 0 < k → k < m → (k - 1) / 2 ≠ i → ¬ LtH (gH l k) (gH l ((k - 1) / 2))) ∧ (∀ k, 0 < k → k < m → (k - 1) / 2 = i → 0 < i → ¬ LtH (gH l k) (gH l ((i - 1) / 2)))
theorem DownInv.start {l : List Hd} (h : HeapOk l l.length) (hn : 0 < l.length) : DownInv (swapL l 0 (l.length - 1)) (l.length - 1) 0 := by
  refine ⟨fun k h0 hk hne => ?_, fun k h0 hk hp h1 => by omega⟩
  rw [gH_swap (by omega) (by omega), gH_swap (by omega) (by omega), if_neg (by omega), if_neg (by omega), if_neg (by omega), if_neg hne]
  exact h k h0 (by omega)
theorem DownInv.leaf {l : List Hd} {m i : Nat} (h : DownInv l m i) (hl : m ≤ 2 * i + 1) : HeapOk l m := fun k h0 hk => h.1 k h0 hk (by omega)
/- j: the child that is not greater than the other one -/
def Child (l : List Hd) (m i j : Nat) : Prop := j < m ∧ (j = 2 * i + 1 ∨ j = 2 * i + 2) ∧ ∀ k, k < m → (k = 2 * i + 1 ∨ k = 2 * i + 2) → ¬ LtH (gH l k) (gH l j)
theorem Child.left {l : List Hd} {m i : Nat} (h1 : 2 * i + 1 < m) (h2 : ¬ 2 * i + 2 < m) : Child l m i (2 * i + 1) :=
  ⟨h1, .inl rfl, fun k hk hc => by have e : k = 2 * i + 1 := by omega
                                   subst e; exact lt_irrefl _⟩
theorem Child.leftL {l : List Hd} {m i : Nat} (h1 : 2 * i + 1 < m) (h : ¬ LtH (gH l (2 * i + 2)) (gH l (2 * i + 1))) : Child l m i (2 * i + 1) :=
  ⟨h1, .inl rfl, fun k hk hc => by
    rcases hc with e | e
    · subst e; exact lt_irrefl _
    · subst e; exact h⟩
theorem Child.right {l : List Hd} {m i : Nat} (h2 : 2 * i + 2 < m) (h : LtH (gH l (2 * i + 2)) (gH l (2 * i + 1))) : Child l m i (2 * i + 2) :=
  ⟨h2, .inr rfl, fun k hk hc => by
    rcases hc with e | e
    · subst e; exact lt_asymm h
    · subst e; exact lt_irrefl _⟩
theorem DownInv.stop {l : List Hd} {m i j : Nat} (h : DownInv l m i) (c : Child l m i j) (hl : ¬ LtH (gH l j) (gH l i)) : HeapOk l m := fun k h0 hk => by
  by_cases e : (k - 1) / 2 = i
  · rw [e]
    exact lt_neg (c.2.2 k hk (by omega)) hl
  · exact h.1 k h0 hk e
theorem DownInv.step {l : List Hd} {m i j : Nat} (h : DownInv l m i) (c : Child l m i j) (hml : m ≤ l.length) (hl : LtH (gH l j) (gH l i)) : DownInv (swapL l i j) m j := by
  have hj := c.1
  have hij : i < j ∧ (j - 1) / 2 = i ∧ 0 < j := by have := c.2.1; omega
  have hi' : i < l.length := by omega
  have hj' : j < l.length := by omega
  refine ⟨fun k h0 hk hne => ?_, fun k h0 hk hp h1 => ?_⟩
  · rw [gH_swap hi' hj', gH_swap hi' hj', if_neg hne]
    by_cases e1 : k = j
    · subst e1
      rw [if_pos rfl, if_pos hij.2.1]
      exact lt_asymm hl
    · rw [if_neg e1]
      by_cases e2 : k = i
      · subst e2
        rw [if_pos rfl, if_neg (show ¬ (k - 1) / 2 = k by omega)]
        exact h.2 j hij.2.2 hj hij.2.1 h0
      · rw [if_neg e2]
        by_cases e3 : (k - 1) / 2 = i
        · rw [if_pos e3]
          exact c.2.2 k hk (by omega)
        · rw [if_neg e3]
          exact h.1 k h0 hk e3
  · rw [gH_swap hi' hj', gH_swap hi' hj', if_neg (show ¬ k = j by omega), if_neg (show ¬ k = i by omega), if_neg (show ¬ (j - 1) / 2 = j by omega), if_pos hij.2.1]
    have h5 := h.1 k h0 hk (by omega)
    rw [hp] at h5
    exact h5
theorem heap_root {l : List Hd} {m : Nat} (h : HeapOk l m) : ∀ n k, k ≤ n → k < m → ¬ LtH (gH l k) (gH l 0) := by
  intro n
  induction n with
  | zero => intro k hk hm; have e : k = 0 := by omega
            subst e; exact lt_irrefl _
  | succ n ih =>
    intro k hk hm
    by_cases e : k = 0
    · subst e; exact lt_irrefl _
    · exact lt_neg (h k (by omega) hm) (ih _ (by omega) (by omega))
theorem heapOk_take {l : List Hd} {m : Nat} (h : HeapOk l m) (hm : m ≤ l.length) : HeapOk (l.take m) (l.take m).length := by
  intro k h0 hk
  rw [List.length_take] at hk
  have ga : ∀ k, k < m → gH (l.take m) k = gH l k := fun k hk => by
    rw [gH_eq (by rw [List.length_take]; omega), gH_eq (by omega), List.getElem_take]
  rw [ga k (by omega), ga _ (by omega)]
  exact h k h0 (by omega)
end Go.Proofs.Ytmkoppbbenombaa
