/- WentPut, as plain mathematics; append at whatever world. -/
import Derived.Test.YthilmonokhdjmaaTrW
namespace Go.Proofs.Ythilmonokhdjmaa
open Go.RowKit

theorem okAtM_right {l : List Mv} {i : Nat} (hi : i < l.length) (h : okAtM l i = true) : (l[i]).right = true := by
  cases e : (l[i]).right
  · rw [okAtM_mv hi e] at h; cases h
  · rfl
theorem mvsOk_iff {l : List Mv} : mvsOk l = true ↔ l.length ≤ 30 ∧ (∀ x ∈ l, x.right = true) ∧ l.Pairwise fun a b => a.tm ≤ b.tm := by
  constructor
  · intro h
    refine ⟨mvsOk_len h, fun x hx => ?_, mvs_pw h⟩
    obtain ⟨i, hi, rfl⟩ := List.getElem_of_mem hx
    exact okAtM_right hi (mvsOk_at h i hi)
  · rintro ⟨h1, h2, h3⟩
    refine mvsOk_yes h1 (fun i hi => ?_)
    have hr := h2 _ (List.getElem_mem hi)
    cases i with
    | zero => rw [okAtM_zero hi]; exact hr
    | succ j =>
      rw [okAtM_succ hi, hr, decide_eq_true (List.pairwise_iff_getElem.1 h3 j (j + 1) (by omega) hi (by omega))]
      rfl
theorem mvsOk_sub {l l' : List Mv} (h : mvsOk l = true) (hs : l'.Sublist l) : mvsOk l' = true := by
  obtain ⟨h1, h2, h3⟩ := mvsOk_iff.1 h
  exact mvsOk_iff.2 ⟨Nat.le_trans hs.length_le h1, fun x hx => h2 x (hs.subset hx), h3.sublist hs⟩
theorem mvsOk_keep {l : List Mv} (p : Mv → Bool) (h : mvsOk l = true) : mvsOk (keepM p l) = true := mvsOk_sub h List.filter_sublist
def cutW (l : List Mv) : List Mv := if 30 ≤ l.length then l.drop 1 else l
theorem putW_cut (l : List Mv) (x : Mv) : putW l x = cutW l ++ [x] := rfl
theorem cutW_sub (l : List Mv) : (cutW l).Sublist l := by
  unfold cutW
  split
  · exact List.drop_sublist _ _
  · exact List.Sublist.refl _
theorem cutW_len {l : List Mv} (h : l.length ≤ 30) : (cutW l).length ≤ 29 := by
  unfold cutW
  split
  · rw [List.length_drop]; omega
  · omega
theorem lastOk_iff {l : List Mv} (x : Mv) (h : l.Pairwise fun a b => a.tm ≤ b.tm) : lastOk l x = true ↔ ∀ y ∈ cutW l, y.tm ≤ x.tm := by
  unfold lastOk
  cases e : l.getLast? with
  | none =>
    have e2 : l = [] := List.getLast?_eq_none_iff.1 e
    subst e2
    simp [cutW]
  | some a =>
    obtain ⟨ys, rfl⟩ := List.getLast?_eq_some_iff.1 e
    rw [List.pairwise_append] at h
    have hin : a ∈ cutW (ys ++ [a]) := by
      unfold cutW
      split
      · rename_i h30
        simp at h30
        rw [List.drop_append_of_le_length (by omega)]
        simp
      · simp
    dsimp only
    rw [decide_eq_true_iff]
    constructor
    · intro hle y hy
      have hy2 := (cutW_sub _).subset hy
      rcases List.mem_append.1 hy2 with h3 | h3
      · exact Int.le_trans (h.2.2 y h3 a (by simp)) hle
      · simp at h3; subst h3; exact hle
    · intro hall
      exact hall a hin
theorem putW_ok {l : List Mv} (x : Mv) (h : mvsOk l = true) : mvsOk (putW l x) = (x.right && lastOk l x) := by
  obtain ⟨h1, h2, h3⟩ := mvsOk_iff.1 h
  have hl := lastOk_iff x h3
  have hiff : mvsOk (putW l x) = true ↔ (x.right && lastOk l x) = true := by
    rw [mvsOk_iff, putW_cut, Bool.and_eq_true, hl, List.pairwise_append]
    constructor
    · rintro ⟨_, hr, _, _, hp⟩
      exact ⟨hr x (by simp), fun y hy => hp y hy x (by simp)⟩
    · rintro ⟨hr, hp⟩
      refine ⟨by rw [List.length_append]; have := cutW_len h1; simp; omega, fun y hy => ?_, h3.sublist (cutW_sub l), by simp, fun a ha b hb => ?_⟩
      · rcases List.mem_append.1 hy with hy | hy
        · exact h2 y ((cutW_sub l).subset hy)
        · simp at hy; subst hy; exact hr
      · simp at hb; subst hb; exact hp a ha
  cases hA : (x.right && lastOk l x)
  · cases hB : mvsOk (putW l x)
    · rfl
    · rw [hiff, hA] at hB; cases hB
  · exact hiff.2 hA
theorem putR8_long {l : List Mv} {x : Mv} (h : 400 < l.length) : putR8 l x = woIll 2 := by rw [putR8, if_pos h]
theorem putR8_no {l : List Mv} {x : Mv} (h : ¬ 400 < l.length) (h2 : mvsOk l = false ∨ (x.right && lastOk l x) = false) : putR8 l x = woIll 1 := by
  rw [putR8, if_neg h, if_neg]
  rintro ⟨a, b, c⟩
  rcases h2 with h2 | h2
  · rw [a] at h2; cases h2
  · rw [b, c] at h2; cases h2
theorem putR8_ok {l : List Mv} {x : Mv} (h : ¬ 400 < l.length) (h1 : mvsOk l = true) (h2 : (x.right && lastOk l x) = true) : putR8 l x = ⟨putW l x, 0⟩ := by
  rw [Bool.and_eq_true] at h2
  rw [putR8, if_neg h, if_pos ⟨h1, h2.1, h2.2⟩]
section
variable {α : Type} {cl : α → List Value} {sz : Nat} (hl : ∀ a, (cl a).length = sz) (h1 : ∀ a, ∀ u ∈ cl a, u.oneCell' = true) {P : Program} {t e : TypeId} {bytes : Nat} (T : RowTy P t e sz bytes)
include hl h1 T
/- append, at whatever world: of an element that lies somewhere -/
theorem run_append_one (W : World) (B : Nat) (v : Value) (l0 : List α) (p : α) (q : Nat) (cs : Array Value) (hcs : cs.toList = cl p) (hq : Blk W q e cs) (hown : W.ownsRow B e sz v l0.length (rcells cl l0)) (h0 : l0.length ≤ 1000000) (hB : B ≤ W.heap.size) (ty : TypeId) :
    ∃ a' c' n' w', (Builtin.append_ #[t, t] ty #[v, .slice (some ⟨q, 0, none⟩) 1 1]).run P W = .ok (.slice a' n' c') w' ∧ n' = (l0 ++ [p]).length ∧ w'.ownsRow B e sz (.slice a' n' c') n' (rcells cl (l0 ++ [p])) ∧ W.grownBy w' v.ownBlock := by
  obtain ⟨i0, z, hi0, hz0, hz1, hz2, hz3⟩ := T.info
  have hsm := T.small
  have hby : (l0.length + 1) * bytes ≤ 140737488355328 := Nat.le_trans (Nat.mul_le_mul (show l0.length + 1 ≤ 1100001 by omega) hsm) (by omega)
  have hc : ∀ j u, (cl p)[j]? = some u → W.cell? ((⟨q, 0, none⟩ : Addr).add j) = some u := fun j u hj => by
    rw [Addr.add_lit, hq.cell, Nat.zero_add, ← hj, ← hcs, Array.getElem?_toList]
  obtain ⟨v', w', hrun, ho, hg, _, hblk⟩ := run_append_own_at (P := P) W B t ty e i0 z sz bytes T.under hi0 hz0 hz1 hz2 hz3 T.pos v l0.length (rcells cl l0) hown ⟨q, 0, none⟩ 1 1 (cl p) (by rw [hl]; omega) hc (h1 p) (by unfold maxLen; omega) hby hB
  have hl' : l0.length + 1 = (l0 ++ [p]).length := by simp
  rw [hl', ← rcells_snoc] at ho
  obtain ⟨a', c', rfl⟩ := rown_form ho
  exact ⟨a', c', _, w', hrun, rfl, ho, hg⟩
/- append, at whatever world: of a slice -/
theorem run_append_sl (W : World) (B : Nat) (v : Value) (l0 l1 : List α) (ao : Option Addr) (c : Nat) (hn : NilOk (.slice ao l1.length c)) (h : SlAt W sz (.slice ao l1.length c) (l1.map cl)) (hown : W.ownsRow B e sz v l0.length (rcells cl l0)) (h0 : l0.length + l1.length ≤ 1000000) (hB : B ≤ W.heap.size) (ty : TypeId) :
    ∃ a' c' n' w', (Builtin.append_ #[t, t] ty #[v, .slice ao l1.length c]).run P W = .ok (.slice a' n' c') w' ∧ n' = (l0 ++ l1).length ∧ w'.ownsRow B e sz (.slice a' n' c') n' (rcells cl (l0 ++ l1)) ∧ W.grownBy w' v.ownBlock := by
  obtain ⟨i0, z, hi0, hz0, hz1, hz2, hz3⟩ := T.info
  have hsm := T.small
  have hby : (l0.length + l1.length) * bytes ≤ 140737488355328 := Nat.le_trans (Nat.mul_le_mul (show l0.length + l1.length ≤ 1100001 by omega) hsm) (by omega)
  have hl' : l0.length + l1.length = (l0 ++ l1).length := by simp
  cases ao with
  | some ad =>
    obtain ⟨v', w', hrun, ho, hg, _, _⟩ := run_append_own_at (P := P) W B t ty e i0 z sz bytes T.under hi0 hz0 hz1 hz2 hz3 T.pos v l0.length (rcells cl l0) hown ad l1.length c (rcells cl l1) (rcells_len hl l1) (slAt_cells hl T.pos h) (rcells_one cl h1 l1) (by unfold maxLen; omega) hby hB
    rw [hl', ← rcells_app] at ho
    obtain ⟨a', c', rfl⟩ := rown_form ho
    exact ⟨a', c', _, w', hrun, rfl, ho, hg⟩
  | none =>
    obtain ⟨e0, rfl⟩ := hn _ _ rfl
    have e1 : l1 = [] := List.eq_nil_of_length_eq_zero e0
    subst e1
    have hrun := run_append_owned_none (P := P) W B t ty e i0 sz T.under hi0 _ l0.length (rcells cl l0) hown
    obtain ⟨a', c', rfl⟩ := rown_form hown
    exact ⟨a', c', _, W, hrun, by simp, by simpa [rcells] using hown, World.grownBy.refl _ _⟩
end
end Go.Proofs.Ythilmonokhdjmaa
