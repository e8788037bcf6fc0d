/- Lists of guests: the order, when a list is right; names and their comparison. -/
import Derived.Test.YtmkoppbbenombaaGu
import Derived.Test.YtmkoppbbenombaaHd
namespace Go.Proofs.Ytmkoppbbenombaa
open Go.RowKit

def lessG (a b : Gu) : Bool := if a.vni = b.vni then decide (a.mac < b.mac) else decide (a.vni < b.vni)
def cmpG (a b : Gu) : Int := orL [cmpI a.vni b.vni, cmpI a.mac b.mac]
theorem cmpG_neg (a b : Gu) : cmpG a b < 0 ↔ lessG a b = true := by
  unfold cmpG lessG
  simp only [orL, cmpI_zero]
  by_cases h1 : a.vni = b.vni
  · by_cases h2 : a.mac = b.mac
    · simp [h1, h2]
    · simp [h1, h2, cmpI_neg]
  · simp [h1, cmpI_neg]
theorem cmpG_not (a b : Gu) : decide (0 ≤ cmpG a b) = !(lessG a b) := by
  have := cmpG_neg a b
  cases h : lessG a b
  · rw [h] at this; simp at this ⊢; omega
  · rw [h] at this; simp at this ⊢; omega
def okAtG (l : List Gu) (i : Nat) : Bool := match l[i]? with
  | none => true
  | some h => h.right && (match i with | 0 => true | j + 1 => match l[j]? with | none => true | some a => lessG a h)
def gusOk (l : List Gu) : Bool := decide (l.length ≤ 8) && (List.range l.length).all (okAtG l)
theorem okAtG_zero {l : List Gu} (h : 0 < l.length) : okAtG l 0 = (l[0]).right := by
  simp [okAtG, List.getElem?_eq_getElem h]
theorem okAtG_succ {l : List Gu} {j : Nat} (h : j + 1 < l.length) : okAtG l (j + 1) = ((l[j + 1]).right && lessG l[j] l[j + 1]) := by
  simp [okAtG, List.getElem?_eq_getElem h, List.getElem?_eq_getElem (show j < l.length by omega)]
theorem okAtG_gu {l : List Gu} {i : Nat} (h : i < l.length) (hn : (l[i]).right = false) : okAtG l i = false := by
  simp [okAtG, List.getElem?_eq_getElem h, hn]
theorem gusOk_no {l : List Gu} {i : Nat} (h : i < l.length) (hn : okAtG l i = false) : gusOk l = false := by
  unfold gusOk
  rw [Bool.and_eq_false_iff]
  right
  rw [List.all_eq_false]
  exact ⟨i, List.mem_range.2 h, by simp [hn]⟩
theorem gusOk_yes {l : List Gu} (h : l.length ≤ 8) (hy : ∀ i, i < l.length → okAtG l i = true) : gusOk l = true := by
  unfold gusOk
  rw [Bool.and_eq_true]
  exact ⟨decide_eq_true h, List.all_eq_true.2 (fun i hi => hy i (List.mem_range.1 hi))⟩
theorem gusOk_long {l : List Gu} (h : 8 < l.length) : gusOk l = false := by
  unfold gusOk
  rw [decide_eq_false (by omega)]
  rfl
theorem gusOk_len {l : List Gu} (h : gusOk l = true) : l.length ≤ 8 := by
  unfold gusOk at h
  rw [Bool.and_eq_true] at h
  exact of_decide_eq_true h.1
/- what element i says, as the walks ask it -/
inductive GsWay (l : List Gu) (i : Nat) (h : Gu) : Prop
  | bad (h1 : h.right = false) (hr : Hid (gusOk l = false))
  | first (h1 : h.right = true) (h3 : i = 0) (hr : Hid (okAtG l i = true))
  | less (h1 : h.right = true) (j : Nat) (h3 : i = j + 1) (a : Gu) (hj : j < l.length) (ha : Hid (l[j] = a)) (h4 : lessG a h = true) (hr : Hid (okAtG l i = true))
  | more (h1 : h.right = true) (j : Nat) (h3 : i = j + 1) (a : Gu) (hj : j < l.length) (ha : Hid (l[j] = a)) (h4 : lessG a h = false) (hr : Hid (gusOk l = false))
theorem gs_way (l : List Gu) (i : Nat) (hi : i < l.length) : GsWay l i l[i] := by
  cases h1 : (l[i]).right
  · exact .bad h1 (Lib.hid (gusOk_no hi (okAtG_gu hi h1)))
  cases i with
  | zero => exact .first h1 rfl (Lib.hid (by rw [okAtG_zero hi, h1]))
  | succ j =>
    cases h4 : lessG l[j] l[j + 1]
    · exact .more h1 j rfl _ (by omega) (Lib.hid rfl) h4 (Lib.hid (gusOk_no hi (by rw [okAtG_succ hi, h1, h4]; rfl)))
    · exact .less h1 j rfl _ (by omega) (Lib.hid rfl) h4 (Lib.hid (by rw [okAtG_succ hi, h1, h4]; rfl))
def GrPost (l : List Gu) (w : World) (e : Ending) (w' : World) : Prop := e = .returned (.bool (gusOk l)) ∧ Below w.heap.size w w'
def nmV (v m : Int) : Value := .agg #[.int .i64 v, .int .i64 m]
set_option maxHeartbeats 1000000 in
theorem nameOf_any (g : Gu) (w : World) : Calls Try.prog 98 #[g.val] w fun e w' => e = .returned (nmV g.vni g.mac) ∧ Below w.heap.size w w' := by
  obtain ⟨v, m, i, d, s, n, t⟩ := g
  unfold Gu.val nmV
  dsimp only
  go_enter Try.func98, Try.ntmps98
  go_wp2
  refine bodyPost_ret (v := nmV v m) (by simp [results, Try.results98, go_sem, nmV]) rfl ⟨rfl, ?_⟩
  go_grown
theorem two_lit (w : World) (x0 x1 : Int) (t : TypeId) : ∀ i (hi : i < [x0, x1].length), (w.alloc (.cells #[.int .i64 x0, .int .i64 x1] t)).cell? ⟨w.heap.size, i, none⟩ = some (.int .i64 ([x0, x1][i])) := by
  intro i hi
  rw [(Blk.new w t _).cell]
  have hi' : i < 2 := hi
  match i, hi' with
  | 0, _ => rfl
  | 1, _ => rfl
/- the ways through the model's order -/
inductive LessGWay (a b : Gu) : Prop
  | lt (h1 : a.vni < b.vni) (hr : Hid (lessG a b = true))
  | eq (h1 : ¬ a.vni < b.vni) (h2 : a.vni = b.vni) (hr : Hid (lessG a b = decide (a.mac < b.mac)))
  | gt (h1 : ¬ a.vni < b.vni) (h2 : ¬ a.vni = b.vni) (hr : Hid (lessG a b = false))
theorem lessG_way (a b : Gu) : LessGWay a b := by
  by_cases h2 : a.vni = b.vni
  · exact .eq (by omega) h2 (Lib.hid (by rw [lessG, if_pos h2]))
  · by_cases h1 : a.vni < b.vni
    · exact .lt h1 (Lib.hid (by rw [lessG, if_neg h2, decide_eq_true h1]))
    · exact .gt h1 h2 (Lib.hid (by rw [lessG, if_neg h2, decide_eq_false h1]))
end Go.Proofs.Ytmkoppbbenombaa
