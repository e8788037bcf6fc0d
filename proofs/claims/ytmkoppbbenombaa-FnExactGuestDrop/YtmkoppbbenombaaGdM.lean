/- GuestDrop: its mathematics. -/
import Derived.Test.YtmkoppbbenombaaGpR
namespace Go.Proofs.Ytmkoppbbenombaa
open Go.RowKit

def keyG (v m : Int) : Gu := ⟨v, m, 0, 0, 0, 0, false⟩
def leaveG (x : Gu) (l : List Gu) : List Gu := l.filter fun h => decide (¬ sameG x h)
def hitG (x : Gu) (l : List Gu) : List Gu := l.filter fun h => decide (sameG x h)
def dropIn (x : Gu) (l : List Gu) : GsO := if hitG x l = [] then goIll 6 else ⟨leaveG x l, hitG x l, 0⟩
def gdropR (l : List Gu) (v m : Int) : GsO := if 400 < l.length then goIll 2 else if gusOk l = true then dropIn (keyG v m) l else goIll 1
theorem gdropR_long {l : List Gu} {v m : Int} (h : 400 < l.length) : gdropR l v m = goIll 2 := by rw [gdropR, if_pos h]
theorem gdropR_wrong {l : List Gu} {v m : Int} (h : ¬ 400 < l.length) (h2 : gusOk l = false) : gdropR l v m = goIll 1 := by rw [gdropR, if_neg h, if_neg (by simp [h2])]
theorem gdropR_ok {l : List Gu} {v m : Int} (h : ¬ 400 < l.length) (h2 : gusOk l = true) : gdropR l v m = dropIn (keyG v m) l := by rw [gdropR, if_neg h, if_pos h2]
theorem dropIn_none {x : Gu} {l : List Gu} (h : hitG x l = []) : dropIn x l = goIll 6 := by rw [dropIn, if_pos h]
theorem dropIn_some {x y : Gu} {l : List Gu} (h : hitG x l = [y]) : dropIn x l = ⟨leaveG x l, [y], 0⟩ := by rw [dropIn, h, if_neg (by simp)]
theorem leaveG_pw {x : Gu} {l : List Gu} (hl : l.Pairwise LtG) : (leaveG x l).Pairwise LtG := hl.sublist List.filter_sublist
theorem leaveG_le (x : Gu) (l : List Gu) : (leaveG x l).length ≤ l.length := List.length_filter_le _ _
theorem hitG_le (x : Gu) (l : List Gu) : (hitG x l).length ≤ l.length := List.length_filter_le _ _
theorem gdropR_len (l : List Gu) (v m : Int) : (gdropR l v m).gus.length ≤ 8 ∧ (gdropR l v m).gone.length ≤ 8 := by
  unfold gdropR
  split
  · simp [goIll]
  · split
    · rename_i h
      have h8 := gusOk_len h
      have h1 := leaveG_le (keyG v m) l
      have h2 := hitG_le (keyG v m) l
      unfold dropIn
      split
      · simp [goIll]
      · exact ⟨by dsimp only; omega, by dsimp only; omega⟩
    · simp [goIll]
theorem hitG_none {x : Gu} {l : List Gu} (h : seekG x l.zipIdx 0 = none) : hitG x l = [] := by
  unfold hitG
  rw [List.filter_eq_nil_iff]
  intro y hy
  obtain ⟨k, hk, e⟩ := List.getElem_of_mem hy
  have := seekG_none h (y, k) (List.mk_mem_zipIdx_iff_getElem?.2 (by rw [List.getElem?_eq_getElem hk, e]))
  simpa using this
theorem hitG_one {x y : Gu} {l : List Gu} (hl : l.Pairwise LtG) (hy : y ∈ l) (hs : sameG x y) : hitG x l = [y] := by
  have hm : ∀ z, z ∈ hitG x l ↔ z ∈ l ∧ sameG x z := fun z => by unfold hitG; rw [List.mem_filter]; simp
  have hp : (hitG x l).Pairwise LtG := hl.sublist List.filter_sublist
  have hym := (hm y).2 ⟨hy, hs⟩
  match he : hitG x l with
  | [] => rw [he] at hym; cases hym
  | [a] => rw [he] at hym; rw [List.mem_singleton.1 hym]
  | a :: b :: t =>
    rw [he] at hp hm
    have ha := (hm a).1 (by simp)
    have hb := (hm b).1 (by simp)
    exact absurd (sameG_trans (sameG_symm ha.2) hb.2) (ltG_not_same ((List.pairwise_cons.1 hp).1 b (by simp)))
theorem dropG_found {x : Gu} {l : List Gu} {j : Nat} {v : Value} (hl : l.Pairwise LtG) (hd : l.zipIdx.Pairwise fun a b => ¬ sameG a.1 b.1) (h : seekG x l.zipIdx 0 = some (j, v)) :
    ∃ y, v = y.val ∧ hitG x l = [y] ∧ ∀ z, z ∈ leaveG x l ↔ ∃ b, (z, b) ∈ l.zipIdx.eraseIdx j := by
  obtain ⟨m, q, e1, hm, hsm, hv⟩ := seekG_some h
  rw [Nat.zero_add] at e1
  subst e1
  have hq : q.1 ∈ l := zipA_mem (List.mem_of_getElem? hm)
  refine ⟨q.1, hv, hitG_one hl hq hsm, fun z => ?_⟩
  obtain ⟨hml, hme⟩ := List.getElem?_eq_some_iff.1 hm
  have hdp := List.pairwise_iff_getElem.1 hd
  have hz : z ∈ leaveG x l ↔ z ∈ l ∧ ¬ sameG x z := by unfold leaveG; rw [List.mem_filter]; simp
  rw [hz]
  constructor
  · rintro ⟨h1, h2⟩
    obtain ⟨k, hk, e⟩ := List.getElem_of_mem h1
    refine ⟨k, List.mem_eraseIdx_iff_getElem?.2 ⟨k, fun ek => ?_, ?_⟩⟩
    · subst ek
      apply h2
      rw [List.getElem?_zipIdx, List.getElem?_eq_getElem hk, e] at hm
      injection hm with hm
      rw [← hm] at hsm
      exact hsm
    · rw [List.getElem?_zipIdx, List.getElem?_eq_getElem hk, e]; simp
  · rintro ⟨b, hb⟩
    obtain ⟨k, hk, e⟩ := List.mem_eraseIdx_iff_getElem?.1 hb
    refine ⟨zipA_mem (List.mem_of_getElem? e), fun hs => ?_⟩
    obtain ⟨hkl, hke⟩ := List.getElem?_eq_some_iff.1 e
    have hqz : sameG q.1 z := sameG_trans (sameG_symm hsm) hs
    rcases Nat.lt_or_gt_of_ne hk with hlt | hlt
    · have := hdp k j hkl hml hlt
      rw [hke, hme] at this
      exact this (sameG_symm hqz)
    · have := hdp j k hml hkl hlt
      rw [hke, hme] at this
      exact this hqz
theorem leaveG_succ (x : Gu) (l : List Gu) (i : Nat) (hi : i < l.length) : leaveG x (l.take (i + 1)) = if sameG x l[i] then leaveG x (l.take i) else leaveG x (l.take i) ++ [l[i]] := by
  rw [leaveG, List.take_succ_eq_append_getElem hi, List.filter_append]
  by_cases h : sameG x l[i] <;> simp [h, leaveG]
theorem hitG_succ (x : Gu) (l : List Gu) (i : Nat) (hi : i < l.length) : hitG x (l.take (i + 1)) = if sameG x l[i] then hitG x (l.take i) ++ [l[i]] else hitG x (l.take i) := by
  rw [hitG, List.take_succ_eq_append_getElem hi, List.filter_append]
  by_cases h : sameG x l[i] <;> simp [h, hitG]
theorem leaveG_len (x : Gu) (l : List Gu) (i : Nat) : (leaveG x (l.take i)).length ≤ l.length := by
  have h1 := leaveG_le x (l.take i)
  have h2 : (l.take i).length ≤ l.length := by rw [List.length_take]; omega
  omega
theorem hitG_len (x : Gu) (l : List Gu) (i : Nat) : (hitG x (l.take i)).length ≤ l.length := by
  have h1 := hitG_le x (l.take i)
  have h2 : (l.take i).length ≤ l.length := by rw [List.length_take]; omega
  omega
def codeG (g : List Gu) : Int := match g with | [] => 6 | _ :: _ => 0
theorem codeG_snoc (g : List Gu) (r : Gu) : codeG (g ++ [r]) = 0 := by cases g <;> rfl
theorem codeG_some {g : List Gu} (h : g ≠ []) : codeG g = 0 := by cases g with | nil => exact absurd rfl h | cons a t => rfl
end Go.Proofs.Ytmkoppbbenombaa
