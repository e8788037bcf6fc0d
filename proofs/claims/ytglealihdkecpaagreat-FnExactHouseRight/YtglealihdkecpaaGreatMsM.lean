/- Lists of moves: when one is right. -/
import Derived.Test.YtglealihdkecpaaGreatMv
namespace Go.Proofs.YtglealihdkecpaaGreat
open Go.RowKit

def okAtM (l : List Mv) (i : Nat) : Bool := match l[i]? with
  | none => true
  | some h => h.right && (match i with | 0 => true | j + 1 => match l[j]? with | none => true | some a => decide (a.tm ≤ h.tm))
def mvsOk (l : List Mv) : Bool := decide (l.length ≤ 30) && (List.range l.length).all (okAtM l)
theorem okAtM_zero {l : List Mv} (h : 0 < l.length) : okAtM l 0 = (l[0]).right := by
  simp [okAtM, List.getElem?_eq_getElem h]
theorem okAtM_succ {l : List Mv} {j : Nat} (h : j + 1 < l.length) : okAtM l (j + 1) = ((l[j + 1]).right && decide ((l[j]).tm ≤ (l[j + 1]).tm)) := by
  simp [okAtM, List.getElem?_eq_getElem h, List.getElem?_eq_getElem (show j < l.length by omega)]
theorem okAtM_mv {l : List Mv} {i : Nat} (h : i < l.length) (hn : (l[i]).right = false) : okAtM l i = false := by
  simp [okAtM, List.getElem?_eq_getElem h, hn]
theorem mvsOk_no {l : List Mv} {i : Nat} (h : i < l.length) (hn : okAtM l i = false) : mvsOk l = false := by
  cases e : mvsOk l
  · rfl
  · unfold mvsOk at e
    rw [Bool.and_eq_true] at e
    have := List.all_eq_true.1 e.2 i (List.mem_range.2 h)
    rw [hn] at this
    exact absurd this (by simp)
theorem mvsOk_yes {l : List Mv} (h : l.length ≤ 30) (hy : ∀ i, i < l.length → okAtM l i = true) : mvsOk l = true := by
  unfold mvsOk
  rw [Bool.and_eq_true]
  exact ⟨decide_eq_true h, List.all_eq_true.2 (fun i hi => hy i (List.mem_range.1 hi))⟩
theorem mvsOk_long {l : List Mv} (h : 30 < l.length) : mvsOk l = false := by
  unfold mvsOk
  rw [decide_eq_false (by omega)]
  rfl
theorem mvsOk_len {l : List Mv} (h : mvsOk l = true) : l.length ≤ 30 := by
  unfold mvsOk at h
  rw [Bool.and_eq_true] at h
  exact of_decide_eq_true h.1
theorem mvsOk_at {l : List Mv} (h : mvsOk l = true) (i : Nat) (hi : i < l.length) : okAtM l i = true := by
  unfold mvsOk at h
  rw [Bool.and_eq_true] at h
  exact List.all_eq_true.1 h.2 i (List.mem_range.2 hi)
/- what element i says, as the walks ask it -/
inductive MsWay (l : List Mv) (i : Nat) (h : Mv) : Prop
  | bad (h1 : h.right = false) (hr : Hid (mvsOk l = false))
  | first (h1 : h.right = true) (h3 : i = 0) (hr : Hid (okAtM l i = true))
  | less (h1 : h.right = true) (j : Nat) (h3 : i = j + 1) (a : Mv) (hj : j < l.length) (ha : Hid (l[j] = a)) (h4 : ¬ h.tm < a.tm) (hr : Hid (okAtM l i = true))
  | more (h1 : h.right = true) (j : Nat) (h3 : i = j + 1) (a : Mv) (hj : j < l.length) (ha : Hid (l[j] = a)) (h4 : h.tm < a.tm) (hr : Hid (mvsOk l = false))
theorem ms_way (l : List Mv) (i : Nat) (hi : i < l.length) : MsWay l i l[i] := by
  cases h1 : (l[i]).right
  · exact .bad h1 (Lib.hid (mvsOk_no hi (okAtM_mv hi h1)))
  cases i with
  | zero => exact .first h1 rfl (Lib.hid (by rw [okAtM_zero hi, h1]))
  | succ j =>
    by_cases h4 : (l[j + 1]).tm < (l[j]).tm
    · exact .more h1 j rfl _ (by omega) (Lib.hid rfl) h4 (Lib.hid (mvsOk_no hi (by rw [okAtM_succ hi, h1, decide_eq_false (by omega)]; rfl)))
    · exact .less h1 j rfl _ (by omega) (Lib.hid rfl) h4 (Lib.hid (by rw [okAtM_succ hi, h1, decide_eq_true (by omega)]; rfl))
def MrPost (l : List Mv) (w : World) (e : Ending) (w' : World) : Prop := e = .returned (.bool (mvsOk l)) ∧ Below w.heap.size w w'
end Go.Proofs.YtglealihdkecpaaGreat
