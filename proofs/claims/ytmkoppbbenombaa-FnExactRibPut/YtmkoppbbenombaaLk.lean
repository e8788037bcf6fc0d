/- Lists of at most so many right elements, each greater than the one ahead of it: what an element says, as the walks ask it. -/
import Derived.Test.YtmkoppbbenombaaHdL
namespace Go.Proofs.Ytmkoppbbenombaa
open Go.RowKit

section
variable {α : Type} (R : α → Bool) (L : α → α → Bool) (m : Nat)
def okAtX (l : List α) (i : Nat) : Bool := match l[i]? with
  | none => true
  | some h => R h && (match i with | 0 => true | j + 1 => match l[j]? with | none => true | some a => L a h)
def listOk (l : List α) : Bool := decide (l.length ≤ m) && (List.range l.length).all (okAtX R L l)
variable {R L m}
theorem okAtX_zero {l : List α} (h : 0 < l.length) : okAtX R L l 0 = R l[0] := by
  simp [okAtX, List.getElem?_eq_getElem h]
theorem okAtX_succ {l : List α} {j : Nat} (h : j + 1 < l.length) : okAtX R L l (j + 1) = (R l[j + 1] && L l[j] l[j + 1]) := by
  simp [okAtX, List.getElem?_eq_getElem h, List.getElem?_eq_getElem (show j < l.length by omega)]
theorem okAtX_bad {l : List α} {i : Nat} (h : i < l.length) (hn : R l[i] = false) : okAtX R L l i = false := by
  simp [okAtX, List.getElem?_eq_getElem h, hn]
theorem listOk_no {l : List α} {i : Nat} (h : i < l.length) (hn : okAtX R L l i = false) : listOk R L m l = false := by
  unfold listOk
  rw [Bool.and_eq_false_iff]
  right
  rw [List.all_eq_false]
  exact ⟨i, List.mem_range.2 h, by simp [hn]⟩
theorem listOk_yes {l : List α} (h : l.length ≤ m) (hy : ∀ i, i < l.length → okAtX R L l i = true) : listOk R L m l = true := by
  unfold listOk
  rw [Bool.and_eq_true]
  exact ⟨decide_eq_true h, List.all_eq_true.2 (fun i hi => hy i (List.mem_range.1 hi))⟩
theorem listOk_long {l : List α} (h : m < l.length) : listOk R L m l = false := by
  unfold listOk
  rw [decide_eq_false (by omega)]
  rfl
theorem listOk_len {l : List α} (h : listOk R L m l = true) : l.length ≤ m := by
  unfold listOk at h
  rw [Bool.and_eq_true] at h
  exact of_decide_eq_true h.1
theorem listOk_all {l : List α} (h : listOk R L m l = true) {i : Nat} (hi : i < l.length) : okAtX R L l i = true := by
  unfold listOk at h
  rw [Bool.and_eq_true, List.all_eq_true] at h
  exact h.2 i (List.mem_range.2 hi)
theorem listOk_el {l : List α} (h : listOk R L m l = true) {x : α} (hx : x ∈ l) : R x = true := by
  obtain ⟨i, hi, rfl⟩ := List.getElem_of_mem hx
  have := listOk_all h hi
  cases hc : R l[i]
  · rw [okAtX_bad hi hc] at this; exact absurd this (by decide)
  · rfl
variable (R L m)
inductive LkWay (l : List α) (i : Nat) (h : α) : Prop
  | bad (h1 : R h = false) (hr : Hid (listOk R L m l = false))
  | first (h1 : R h = true) (h3 : i = 0) (hr : Hid (okAtX R L l i = true))
  | less (h1 : R h = true) (j : Nat) (h3 : i = j + 1) (a : α) (hj : j < l.length) (ha : Hid (l[j] = a)) (h4 : L a h = true) (hr : Hid (okAtX R L l i = true))
  | more (h1 : R h = true) (j : Nat) (h3 : i = j + 1) (a : α) (hj : j < l.length) (ha : Hid (l[j] = a)) (h4 : L a h = false) (hr : Hid (listOk R L m l = false))
theorem lk_way (l : List α) (i : Nat) (hi : i < l.length) : LkWay R L m l i l[i] := by
  cases h1 : R l[i]
  · exact .bad h1 (Lib.hid (listOk_no hi (okAtX_bad hi h1)))
  cases i with
  | zero => exact .first h1 rfl (Lib.hid (by rw [okAtX_zero hi, h1]))
  | succ j =>
    cases h4 : L l[j] l[j + 1]
    · exact .more h1 j rfl _ (by omega) (Lib.hid rfl) h4 (Lib.hid (listOk_no hi (by rw [okAtX_succ hi, h1, h4]; rfl)))
    · exact .less h1 j rfl _ (by omega) (Lib.hid rfl) h4 (Lib.hid (by rw [okAtX_succ hi, h1, h4]; rfl))
end
end Go.Proofs.Ytmkoppbbenombaa
