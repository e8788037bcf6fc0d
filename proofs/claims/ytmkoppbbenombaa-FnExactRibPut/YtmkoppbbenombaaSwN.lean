/- RibSweep: the map against the list; delete. -/
import Derived.Test.YtmkoppbbenombaaBsW
import Derived.Test.YtmkoppbbenombaaSwM
namespace Go.Proofs.Ytmkoppbbenombaa
open Go.RowKit

theorem ok_at {l : List Hd} (h : ribOk l = true) (i : Nat) (hi : i < l.length) : okAt l i = true := by
  unfold ribOk at h
  rw [Bool.and_eq_true] at h
  exact List.all_eq_true.1 h.2 i (List.mem_range.2 hi)
theorem ok_next {l : List Hd} (h : ribOk l = true) (j : Nat) (hj : j + 1 < l.length) : LtH l[j] l[j + 1] := by
  have := ok_at h (j + 1) hj
  rw [okAt_succ hj, Bool.and_eq_true] at this
  exact (less_iff _ _).1 this.2
theorem ok_pw {l : List Hd} (h : ribOk l = true) : l.Pairwise LtH := by
  rw [List.pairwise_iff_getElem]
  intro i j hi hj hij
  obtain ⟨d, rfl⟩ : ∃ d, j = i + 1 + d := ⟨j - (i + 1), by omega⟩
  clear hij
  induction d with
  | zero => exact ok_next h i hj
  | succ d ih => exact lt_trans (ih (by omega)) (ok_next h (i + 1 + d) hj)
theorem same_eq {l : List Hd} (hl : l.Pairwise LtH) {a b : Hd} (ha : a ∈ l) (hb : b ∈ l) (hs : same a b) : a = b := by
  obtain ⟨i, hi, rfl⟩ := List.getElem_of_mem ha
  obtain ⟨j, hj, rfl⟩ := List.getElem_of_mem hb
  have hp := List.pairwise_iff_getElem.1 hl
  rcases Nat.lt_trichotomy i j with h | h | h
  · exact absurd hs (lt_not_same (hp i j hi hj h))
  · subst h; rfl
  · exact absurd (same_symm hs) (lt_not_same (hp j i hj hi h))
theorem not_before {l : List Hd} (hl : l.Pairwise LtH) (i : Nat) (hi : i < l.length) : l[i] ∉ l.take i := by
  intro hm
  obtain ⟨k, hk, e⟩ := List.getElem_of_mem hm
  rw [List.length_take] at hk
  rw [List.getElem_take] at e
  have := List.pairwise_iff_getElem.1 hl k i (by omega) hi (by omega)
  rw [e] at this
  exact lt_irrefl _ this
def Left (p : Int) (l : List Hd) (i : Nat) (E : List (Hd × Nat)) : Prop := ∀ y, (∃ b, (y, b) ∈ E) ↔ y ∈ l ∧ ¬ (goneB p y = true ∧ y ∈ l.take i)
theorem Left.start (p : Int) (l : List Hd) : Left p l 0 l.zipIdx := by
  intro y
  constructor
  · rintro ⟨b, hb⟩
    exact ⟨zip_mem hb, by simp⟩
  · rintro ⟨hy, _⟩
    obtain ⟨k, hk, e⟩ := List.getElem_of_mem hy
    exact ⟨k, List.mk_mem_zipIdx_iff_getElem?.2 (by rw [List.getElem?_eq_getElem hk, e])⟩
theorem take_mem {l : List Hd} (i : Nat) (hi : i < l.length) (y : Hd) : y ∈ l.take (i + 1) ↔ y ∈ l.take i ∨ y = l[i] := by
  rw [List.take_succ_eq_append_getElem hi, List.mem_append, List.mem_singleton]
theorem Left.keep {p : Int} {l : List Hd} {i : Nat} {E : List (Hd × Nat)} (h : Left p l i E) (hi : i < l.length) (hg : ¬ goneB p l[i] = true) : Left p l (i + 1) E := by
  intro y
  rw [h y, take_mem i hi y]
  constructor
  · rintro ⟨h1, h2⟩
    refine ⟨h1, ?_⟩
    rintro ⟨h3, h4 | h4⟩
    · exact h2 ⟨h3, h4⟩
    · subst h4; exact hg h3
  · rintro ⟨h1, h2⟩
    exact ⟨h1, fun h3 => h2 ⟨h3.1, .inl h3.2⟩⟩
theorem Left.drop {p : Int} {l : List Hd} {i : Nat} {E : List (Hd × Nat)} (h : Left p l i E) (hl : l.Pairwise LtH) (hd : E.Pairwise fun a b => ¬ same a.1 b.1) (hi : i < l.length) (hg : goneB p l[i] = true) :
    ∃ j v, seekS l[i] E 0 = some (j, v) ∧ Left p l (i + 1) (E.eraseIdx j) := by
  have hx := (h l[i]).2 ⟨List.getElem_mem hi, fun e => not_before hl i hi e.2⟩
  obtain ⟨b, hb⟩ := hx
  cases hs : seekS l[i] E 0 with
  | none => exact absurd ⟨rfl, rfl, rfl, rfl, rfl⟩ (seekS_none hs _ hb)
  | some jv =>
    obtain ⟨j, v⟩ := jv
    refine ⟨j, v, rfl, ?_⟩
    obtain ⟨m, q, e1, hm, hsm, _⟩ := seekS_some hs
    rw [Nat.zero_add] at e1
    subst e1
    have hq : q.1 ∈ l := ((h q.1).1 ⟨q.2, List.mem_of_getElem? hm⟩).1
    have hqx : l[i] = q.1 := same_eq hl (List.getElem_mem hi) hq hsm
    obtain ⟨hml, hme⟩ := List.getElem?_eq_some_iff.1 hm
    have hdp := List.pairwise_iff_getElem.1 hd
    have key : ∀ y, (∃ b, (y, b) ∈ E.eraseIdx j) ↔ (∃ b, (y, b) ∈ E) ∧ y ≠ l[i] := by
      intro y
      constructor
      · rintro ⟨b, hb⟩
        obtain ⟨k, hk, e⟩ := List.mem_eraseIdx_iff_getElem?.1 hb
        refine ⟨⟨b, List.mem_of_getElem? e⟩, ?_⟩
        rintro rfl
        obtain ⟨hkl, hke⟩ := List.getElem?_eq_some_iff.1 e
        rcases Nat.lt_or_gt_of_ne hk with hlt | hlt
        · have := hdp k j hkl hml hlt
          rw [hke, hme] at this
          exact this hsm
        · have := hdp j k hml hkl hlt
          rw [hke, hme] at this
          exact this (same_symm hsm)
      · rintro ⟨⟨b, hb⟩, hne⟩
        obtain ⟨k, e⟩ := List.mem_iff_getElem?.1 hb
        refine ⟨b, List.mem_eraseIdx_iff_getElem?.2 ⟨k, fun ek => ?_, e⟩⟩
        subst ek
        rw [hm] at e
        injection e with e
        apply hne
        rw [hqx, e]
    intro y
    rw [key y, h y, take_mem i hi y]
    constructor
    · rintro ⟨⟨h1, h2⟩, h3⟩
      refine ⟨h1, ?_⟩
      rintro ⟨h4, h5 | h5⟩
      · exact h2 ⟨h4, h5⟩
      · exact h3 h5
    · rintro ⟨h1, h2⟩
      refine ⟨⟨h1, fun h3 => h2 ⟨h3.1, .inl h3.2⟩⟩, fun h3 => h2 ⟨?_, .inr h3⟩⟩
      rw [h3]; exact hg
theorem Left.done {p : Int} {l : List Hd} {E : List (Hd × Nat)} (h : Left p l l.length E) : ∀ y, y ∈ keepL p l ↔ ∃ b, (y, b) ∈ E := by
  intro y
  rw [h y, List.take_length]
  unfold keepL
  rw [List.mem_filter]
  constructor
  · rintro ⟨h1, h2⟩
    refine ⟨h1, fun h3 => ?_⟩
    rw [h3.1] at h2
    cases h2
  · rintro ⟨h1, h2⟩
    refine ⟨h1, ?_⟩
    cases hg : goneB p y
    · rfl
    · exact absurd ⟨hg, h1⟩ h2
theorem keep_pw {p : Int} {l : List Hd} (hl : l.Pairwise LtH) : (keepL p l).Pairwise LtH := hl.sublist List.filter_sublist
theorem wpList_delete_S (w : World) {ops : Array Oper} {rest : List Oper} {o : Oper} {a : Act} {Q : Exit → Act → World → Prop} (hg : o.guard = none) (m x : Operand) (hop : o.op = Op.call { callee := Callee.builtin Builtin.delete, args := #[m, x], argTypes := #[88, 91] })
    (M clock : Nat) (E : List (Hd × Nat)) (y : Hd) (j : Nat) (v : Value) (hm : a.eval m = .map (some M)) (hx : a.eval x = slotV y) (hM : MapS w M E clock) (hs : seekS y E 0 = some (j, v))
    (hK : MapS (setM w M (.map (mkE (E.eraseIdx j)).toArray clock)) M (E.eraseIdx j) clock → wpList Try.prog ops Q rest (a.put o.dst (.tuple #[])) (setM w M (.map (mkE (E.eraseIdx j)).toArray clock))) :
    wpList Try.prog ops Q (o :: rest) a w := by
  refine wpList_plain hg fun K' hK' => ?_
  have hd := hM.drop hs o.type
  unfold Oper.wp
  simp [execOp, hop, resolve, invoke, builtin, hm, hx, hd.1, Result.andThen]
  exact hK' _ _ (hK hd.2)
theorem row_sameN {W W' : World} {B n sz : Nat} {t : TypeId} {v : Value} {xs : List Value} (h : W.ownsRow B t sz v n xs) (h2 : ∀ k, v.ownBlock = some k → W'.heap[k]? = W.heap[k]?) : W'.ownsRow B t sz v n xs := by
  refine ⟨h.1, ?_⟩
  rcases h.2 with e | ⟨g, cap, cu, e, h3, h4, h5⟩
  · exact .inl e
  · exact .inr ⟨g, cap, cu, e, h3, by rw [h2 g (by rw [e]; rfl)]; exact h4, h5⟩
/- a row is no map -/
theorem row_not_map {W : World} {B n sz M clock : Nat} {t : TypeId} {v : Value} {xs : List Value} {E : List (Hd × Nat)} (h : W.ownsRow B t sz v n xs) (hM : MapS W M E clock) : ∀ k, v.ownBlock = some k → k ≠ M := by
  intro k hk
  rcases h.2 with ⟨e, _⟩ | ⟨g, cap, cu, e, h1, h2, _⟩
  · rw [e] at hk; cases hk
  · rw [e] at hk
    simp [Value.ownBlock] at hk
    subst hk
    intro e2
    subst e2
    rw [hM.obj] at h2
    cases h2
theorem own_setM {W : World} {B n sz M clock : Nat} {t : TypeId} {v : Value} {xs : List Value} {E : List (Hd × Nat)} (h : W.ownsRow B t sz v n xs) (hM : MapS W M E clock) (o : Obj) : (setM W M o).ownsRow B t sz v n xs :=
  row_sameN h (fun k hk => by
    simp only [Array.getElem?_setIfInBounds]
    rw [if_neg (fun e => row_not_map h hM k hk e.symm)])
/- behind an append: the map stays -/
theorem MapS.grown {W W' : World} {M clock : Nat} {E : List (Hd × Nat)} {v : Value} {B n sz : Nat} {t : TypeId} {xs : List Value} {o : Obj} (h : MapS W M E clock) (hr : W.ownsRow B t sz v n xs) (hg : (W.alloc o).grownBy W' v.ownBlock) : MapS W' M E clock := by
  have h1 : MapS (W.alloc o) M E clock := h.kept (Below.heap_alloc _ _ _ h.lt)
  refine h1.kept ?_
  exact hg.block M h1.lt (fun e => row_not_map hr h M e.symm rfl)
end Go.Proofs.Ytmkoppbbenombaa
