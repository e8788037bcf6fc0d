/- Appending a struct to a row of the call's own, and where the row lies. -/
import Derived.Test.YtmkoppbbenombaaApR
import Derived.Maps.AppendAt
namespace Go.Proofs.Ytmkoppbbenombaa
open Go.RowKit

section
variable {α : Type} {cl : α → List Value} {sz : Nat} (hl : ∀ a, (cl a).length = sz) (h1 : ∀ a, ∀ u ∈ cl a, u.oneCell' = true) {P : Program} {t e : TypeId} {bytes : Nat} (T : RowTy P t e sz bytes)
include hl h1 T
/- an append, and where its row lies -/
theorem wpList_append_rowB (w : World) {ops : Array Oper} {rest : List Oper} {o : Oper} {a : Act} {Q : Exit → Act → World → Prop} (hgd : o.guard = none) (s x : Operand)
    (ho : o.op = Op.call { callee := Callee.builtin Builtin.append, args := #[s, x], argTypes := #[t, t] })
    (B : Nat) (v : Value) (l0 : List α) (p : α) (hs : a.eval s = v) (hown : w.ownsRow B e sz v l0.length (rcells cl l0))
    (ad : Addr) (hx : a.eval x = .slice (some ad) 1 1) (hc : ∀ j u, (cl p)[j]? = some u → w.cell? (ad.add j) = some u) (h0 : l0.length ≤ 1100000) (hB : B ≤ w.heap.size)
    (K : ∀ a' c' n' w', Hid (n' = (l0 ++ [p]).length) → w'.ownsRow B e sz (.slice a' n' c') n' (rcells cl (l0 ++ [p])) → w.grownBy w' v.ownBlock → ((Value.slice a' n' c').ownBlock = v.ownBlock ∨ (Value.slice a' n' c').ownBlock = some w.heap.size) → wpList P ops Q rest (a.put o.dst (.slice a' n' c')) w') :
    wpList P ops Q (o :: rest) a w := by
  obtain ⟨i0, z, hi0, hz0, hz1, hz2, hz3⟩ := T.info
  have hsm := T.small
  have hby : (l0.length + 1) * bytes ≤ 140737488355328 := Nat.le_trans (Nat.mul_le_mul (show l0.length + 1 ≤ 1100001 by omega) hsm) (by omega)
  refine wpList_append_own_at w hgd s x t ho B e i0 z sz bytes T.under hi0 hz0 hz1 hz2 hz3 T.pos v l0.length (rcells cl l0) hs hown ad 1 1 (cl p) hx (by rw [hl]; omega) hc (h1 p) (by unfold maxLen; omega) hby hB ?_
  intro v' w' hown' hg _ hblk
  have hl' : l0.length + 1 = (l0 ++ [p]).length := by simp
  rw [hl', ← rcells_snoc] at hown'
  obtain ⟨a', c', rfl⟩ := rown_form hown'
  exact K a' c' _ w' (Lib.hid rfl) hown' hg hblk
theorem run_append_rowB (W : World) (B : Nat) (v : Value) (l0 : List α) (p : α) (cs : Array Value) (hcs : cs.toList = cl p) (hown : W.ownsRow B e sz v l0.length (rcells cl l0)) (h0 : l0.length ≤ 1100000) (hB : B ≤ W.heap.size) (ty : TypeId) :
    ∃ a' c' n' w', (Builtin.append_ #[t, t] ty #[v, .slice (some ⟨W.heap.size, 0, none⟩) 1 1]).run P (W.alloc (.cells cs e)) = .ok (.slice a' n' c') w' ∧ n' = (l0 ++ [p]).length ∧ w'.ownsRow B e sz (.slice a' n' c') n' (rcells cl (l0 ++ [p])) ∧ (W.alloc (.cells cs e)).grownBy w' v.ownBlock ∧ ((Value.slice a' n' c').ownBlock = v.ownBlock ∨ (Value.slice a' n' c').ownBlock = some (W.alloc (.cells cs e)).heap.size) := by
  obtain ⟨i0, z, hi0, hz0, hz1, hz2, hz3⟩ := T.info
  have hsm := T.small
  have hby : (l0.length + 1) * bytes ≤ 140737488355328 := Nat.le_trans (Nat.mul_le_mul (show l0.length + 1 ≤ 1100001 by omega) hsm) (by omega)
  have hc : ∀ j u, (cl p)[j]? = some u → (W.alloc (.cells cs e)).cell? ((⟨W.heap.size, 0, none⟩ : Addr).add j) = some u := fun j u hj => by
    rw [Addr.add_lit, (Blk.new W e cs).cell, Nat.zero_add, ← hj, ← hcs, Array.getElem?_toList]
  obtain ⟨v', w', hrun, ho, hg, _, hblk⟩ := run_append_own_at (P := P) (W.alloc (.cells cs e)) B t ty e i0 z sz bytes T.under hi0 hz0 hz1 hz2 hz3 T.pos v l0.length (rcells cl l0) (hown.alloc _) ⟨W.heap.size, 0, none⟩ 1 1 (cl p) (by rw [hl]; omega) hc (h1 p) (by unfold maxLen; omega) hby (by simp; omega)
  have hl' : l0.length + 1 = (l0 ++ [p]).length := by simp
  rw [hl', ← rcells_snoc] at ho
  obtain ⟨a', c', rfl⟩ := rown_form ho
  exact ⟨a', c', _, w', hrun, rfl, ho, hg, hblk⟩
end
end Go.Proofs.Ytmkoppbbenombaa
