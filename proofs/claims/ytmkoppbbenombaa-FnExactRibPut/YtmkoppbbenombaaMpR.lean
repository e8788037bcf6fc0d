/- A map of held routes by slot: made, ranged over. -/
import Derived.Test.YtmkoppbbenombaaMpS
import Derived.Test.YtmkoppbbenombaaHpX
import Derived.Maps.RangeRun
namespace Go.Proofs.Ytmkoppbbenombaa
open Go.RowKit Go.ChangeMaps

theorem pw_mem {E : List (Hd × Nat)} (h : E.Pairwise fun a b => ¬ same a.1 b.1) {a b : Hd × Nat} (ha : a ∈ E) (hb : b ∈ E) (hne : a.2 ≠ b.2) : ¬ same a.1 b.1 := by
  obtain ⟨i, hi, rfl⟩ := List.getElem_of_mem ha
  obtain ⟨j, hj, rfl⟩ := List.getElem_of_mem hb
  have hd := List.pairwise_iff_getElem.1 h
  rcases Nat.lt_trichotomy i j with e | e | e
  · exact hd i j hi hj e
  · subst e; exact absurd rfl hne
  · exact fun k => hd j i hj hi e (same_symm k)
theorem born_mem {E : List (Hd × Nat)} (h : (E.map (·.2)).Nodup) {a b : Hd × Nat} (ha : a ∈ E) (hb : b ∈ E) (he : a.2 = b.2) : a = b := by
  obtain ⟨i, hi, rfl⟩ := List.getElem_of_mem ha
  obtain ⟨j, hj, rfl⟩ := List.getElem_of_mem hb
  have hd := List.pairwise_iff_getElem.1 h
  rcases Nat.lt_trichotomy i j with e | e | e
  · have := hd i j (by simpa using hi) (by simpa using hj) e
    simp at this
    exact absurd he this
  · subst e; rfl
  · have := hd j i (by simpa using hj) (by simpa using hi) e
    simp at this
    exact absurd he.symm this
theorem run_rangeS {W : World} {M clock : Nat} {E : List (Hd × Nat)} (h : MapS W M E clock) : (Instr.range 88 (.map (some M))).run Try.prog W = .ok (.pointer (some ⟨W.heap.size, 0, none⟩)) (W.alloc (.mapIter (some M) clock #[] clock)) := by
  simp [Instr.range, run_underlying mapS_type, MapKept.run_getObj_map h.obj, Result.andThen, newObj, Sem.run, go_sem]
theorem mem_leftOf {E : List (Hd × Nat)} {seen : Array Nat} {e : MapEntry} (h : e ∈ (leftOf (mkE E).toArray seen).toList) : ∃ q ∈ E, e = ⟨slotV q.1, q.1.val, q.2⟩ ∧ seen.contains q.2 = false := by
  unfold leftOf at h
  simp [mkE] at h
  obtain ⟨⟨x, n, hq, rfl⟩, h2⟩ := h
  exact ⟨(x, n), hq, rfl, by simpa using h2⟩
theorem leftOf_none {E : List (Hd × Nat)} {seen : Array Nat} (h : (leftOf (mkE E).toArray seen).size = 0) : ∀ q ∈ E, seen.contains q.2 = true := by
  intro q hq
  have h1 : leftOf (mkE E).toArray seen = #[] := Array.eq_empty_of_size_eq_zero h
  unfold leftOf at h1
  rw [Array.filter_eq_empty_iff] at h1
  have := h1 ⟨slotV q.1, q.1.val, q.2⟩ (by simp [mkE]; exact ⟨q.1, q.2, hq, rfl, rfl, rfl⟩)
  simpa using this
theorem wpList_next_S (w : World) {ops : Array Oper} {rest : List Oper} {o : Oper} {a : Act} {Q : Exit → Act → World → Prop} (hg : o.guard = none) (it : Operand) (hop : o.op = Op.next it false) (r M clock : Nat) (seen : Array Nat) (E : List (Hd × Nat))
    (hit : a.eval it = .pointer (some ⟨r, 0, none⟩)) (hr : w.heap[r]? = some (.mapIter (some M) clock seen clock)) (hM : MapS w M E clock)
    (hDone : Hid (∀ q ∈ E, seen.contains q.2 = true) → wpList Try.prog ops Q rest (a.put o.dst (.tuple #[.bool false])) w)
    (hMore : ∀ (x : Hd) (b : Nat) (w1 : World), Hid ((x, b) ∈ E) → Hid (seen.contains b = false) → Hid (w1 = w ∨ w1 = w.drew) → wpList Try.prog ops Q rest (a.put o.dst (.tuple #[.bool true, slotV x, x.val])) (setBlock w1 r (.mapIter (some M) clock (seen.push b) clock))) :
    wpList Try.prog ops Q (o :: rest) a w := by
  refine wpList_plain hg fun K' hK' => ?_
  unfold Oper.wp
  have hold : ∀ x ∈ (mkE E).toArray.toList, x.born < clock := by
    intro x hx
    simp [mkE] at hx
    obtain ⟨y, n, hq, rfl⟩ := hx
    exact hM.born (y, n) hq
  rcases run_next_at (P := Try.prog) w o.type r M clock clock seen (mkE E).toArray clock hr hM.obj hold (Nat.le_refl _) with ⟨h0, hrun⟩ | ⟨e, he, w1, hw1, hrun⟩
  · simp [execOp, hop, hit, hrun, Result.andThen]
    exact hK' _ _ (hDone (Lib.hid (leftOf_none h0)))
  · obtain ⟨q, hq, rfl, hs⟩ := mem_leftOf he
    simp [execOp, hop, hit, hrun, Result.andThen]
    exact hK' _ _ (hMore q.1 q.2 w1 (Lib.hid hq) (Lib.hid hs) (Lib.hid hw1))
theorem run_entryS {W : World} {r M clock : Nat} {seen : Array Nat} {E : List (Hd × Nat)} {q : Hd × Nat} (hr : W.heap[r]? = some (.mapIter (some M) clock (seen.push q.2) clock)) (h : MapS W M E clock) (hq : q ∈ E) :
    (Instr.entry (.pointer (some ⟨r, 0, none⟩))).run Try.prog W = .ok (.tuple #[slotV q.1, q.1.val]) W := by
  have := run_entry_at (P := Try.prog) W r M clock seen (mkE E).toArray clock ⟨slotV q.1, q.1.val, q.2⟩ hr h.obj (by simp [mkE]; exact ⟨q.1, q.2, hq, rfl, rfl, rfl⟩) (by
    have e : (mkE E).toArray.toList.map (·.born) = E.map (·.2) := by simp [mkE]
    rw [e]; exact h.nodup)
  exact this
end Go.Proofs.Ytmkoppbbenombaa
