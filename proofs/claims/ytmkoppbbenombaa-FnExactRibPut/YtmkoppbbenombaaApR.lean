/- Appending one struct to a row of the call's own, of whatever kind. -/
import Derived.Test.YtmkoppbbenombaaRw
import Derived.Maps.AppendAt
import Derived.ArgAppend
import Derived.Laws.AppendOwnNone
import Derived.Deep.RegionLaw
namespace Go.Proofs.Ytmkoppbbenombaa
open Go.RowKit

/- what is asked of a slice's type -/
structure RowTy (P : Program) (t e : TypeId) (sz bytes : Nat) : Prop where
  under : P.underlying t = some (.slice e)
  info : ∃ i z, P.info? e = some i ∧ i.zero = some z ∧ i.size = sz ∧ i.bytes = bytes ∧ z.cells.size = sz
  pos : 0 < sz
  small : bytes ≤ 100
section
variable {α : Type} {cl : α → List Value} {sz : Nat} (hl : ∀ a, (cl a).length = sz) (h1 : ∀ a, ∀ u ∈ cl a, u.oneCell' = true) {P : Program} {t e : TypeId} {bytes : Nat} (T : RowTy P t e sz bytes)
include hl h1 T
theorem wpList_append_row (w : World) {ops : Array Oper} {rest : List Oper} {o : Oper} {a : Act} {Q : Exit → Act → World → Prop} (hgd : o.guard = none) (s x : Operand)
    (ho : o.op = Op.call { callee := Callee.builtin Builtin.append, args := #[s, x], argTypes := #[t, t] })
    (B : Nat) (v : Value) (l0 : List α) (p : α) (hs : a.eval s = v) (hown : w.ownsRow B e sz v l0.length (rcells cl l0))
    (ad : Addr) (hx : a.eval x = .slice (some ad) 1 1) (hc : ∀ j u, (cl p)[j]? = some u → w.cell? (ad.add j) = some u) (h0 : l0.length ≤ 1100000) (hB : B ≤ w.heap.size)
    (K : ∀ a' c' n' w', Hid (n' = (l0 ++ [p]).length) → w'.ownsRow B e sz (.slice a' n' c') n' (rcells cl (l0 ++ [p])) → w.grownBy w' v.ownBlock → wpList P ops Q rest (a.put o.dst (.slice a' n' c')) w') :
    wpList P ops Q (o :: rest) a w := by
  obtain ⟨i0, z, hi0, hz0, hz1, hz2, hz3⟩ := T.info
  have hsm := T.small
  have hby : (l0.length + 1) * bytes ≤ 140737488355328 := Nat.le_trans (Nat.mul_le_mul (show l0.length + 1 ≤ 1100001 by omega) hsm) (by omega)
  refine wpList_append_own w hgd s x t ho B e i0 z sz bytes T.under hi0 hz0 hz1 hz2 hz3 T.pos v l0.length (rcells cl l0) hs hown ad 1 1 (cl p) hx (by rw [hl]; omega) hc (h1 p) (by unfold maxLen; omega) hby hB ?_
  intro v' w' hown' hg _
  have hl' : l0.length + 1 = (l0 ++ [p]).length := by simp
  rw [hl', ← rcells_snoc] at hown'
  obtain ⟨a', c', rfl⟩ := rown_form hown'
  exact K a' c' _ w' (Lib.hid rfl) hown' hg
theorem run_append_row (W : World) (B : Nat) (v : Value) (l0 : List α) (p : α) (cs : Array Value) (hcs : cs.toList = cl p) (hown : W.ownsRow B e sz v l0.length (rcells cl l0)) (h0 : l0.length ≤ 1100000) (hB : B ≤ W.heap.size) (ty : TypeId) :
    ∃ a' c' n' w', (Builtin.append_ #[t, t] ty #[v, .slice (some ⟨W.heap.size, 0, none⟩) 1 1]).run P (W.alloc (.cells cs e)) = .ok (.slice a' n' c') w' ∧ n' = (l0 ++ [p]).length ∧ w'.ownsRow B e sz (.slice a' n' c') n' (rcells cl (l0 ++ [p])) ∧ (W.alloc (.cells cs e)).grownBy w' v.ownBlock := by
  obtain ⟨i0, z, hi0, hz0, hz1, hz2, hz3⟩ := T.info
  have hsm := T.small
  have hby : (l0.length + 1) * bytes ≤ 140737488355328 := Nat.le_trans (Nat.mul_le_mul (show l0.length + 1 ≤ 1100001 by omega) hsm) (by omega)
  have hc : ∀ j u, (cl p)[j]? = some u → (W.alloc (.cells cs e)).cell? ((⟨W.heap.size, 0, none⟩ : Addr).add j) = some u := fun j u hj => by
    rw [Addr.add_lit, (Blk.new W e cs).cell, Nat.zero_add, ← hj, ← hcs, Array.getElem?_toList]
  obtain ⟨v', w', hrun, ho, hg, _⟩ := run_append_own (P := P) (W.alloc (.cells cs e)) B t ty e i0 z sz bytes T.under hi0 hz0 hz1 hz2 hz3 T.pos v l0.length (rcells cl l0) (hown.alloc _) ⟨W.heap.size, 0, none⟩ 1 1 (cl p) (by rw [hl]; omega) hc (h1 p) (by unfold maxLen; omega) hby (by simp; omega)
  have hl' : l0.length + 1 = (l0 ++ [p]).length := by simp
  rw [hl', ← rcells_snoc] at ho
  obtain ⟨a', c', rfl⟩ := rown_form ho
  exact ⟨a', c', _, w', hrun, rfl, ho, hg⟩
end
/- a slice that has no array has no room -/
def NilOk (v : Value) : Prop := ∀ n c, v = .slice none n c → n = 0 ∧ c = 0
theorem NilOk.of_own {W : World} {B n sz : Nat} {t : TypeId} {v : Value} {xs : List Value} (h : W.ownsRow B t sz v n xs) : NilOk v := by
  intro n' c e
  rcases h.2 with ⟨rfl, h0⟩ | ⟨g, cap, cur, rfl, _⟩
  · injection e with _ e2 e3
    exact ⟨e2.symm, e3.symm⟩
  · cases e
/- the cells of a slice of structs, as append asks for them -/
theorem slAt_cells {α : Type} {cl : α → List Value} {sz : Nat} (hl : ∀ a, (cl a).length = sz) (h0 : 0 < sz) {W : World} {ad : Addr} {n cap : Nat} {l : List α} (h : SlAt W sz (.slice (some ad) n cap) (l.map cl)) : ∀ j u, (rcells cl l)[j]? = some u → W.cell? (ad.add j) = some u := by
  obtain ⟨a', cap', e, h⟩ := h
  injection e with e1 e2 e3
  subst e1
  intro j u hj
  have hjl : j < l.length * sz := by have := (List.getElem?_eq_some_iff.1 hj).1; rw [rcells_len hl] at this; exact this
  have hne : l.map cl ≠ [] := fun e => by
    have := congrArg List.length e
    simp at this
    rw [this] at hjl; simp at hjl
  obtain ⟨b, off, e4, _, hE⟩ := h hne
  injection e4 with e4
  subst e4
  have ed : j = j / sz * sz + j % sz := by rw [Nat.mul_comm]; exact (Nat.div_add_mod j sz).symm
  have hd : j / sz < l.length := by rw [Nat.div_lt_iff_lt_mul h0]; exact hjl
  have hr := Nat.mod_lt j h0
  have hcell := rcells_at hl l (j / sz) hd (j % sz) hr
  rw [← ed, hj] at hcell
  have := hE (j / sz) (cl l[j / sz]) (by rw [List.getElem?_map, List.getElem?_eq_getElem hd]; rfl) (j % sz) u hcell.symm
  rw [Addr.add_lit]
  rw [Nat.add_assoc, ← ed] at this
  exact this
section
variable {α : Type} {cl : α → List Value} {sz : Nat} (hl : ∀ a, (cl a).length = sz) (h1 : ∀ a, ∀ u ∈ cl a, u.oneCell' = true) {P : Program} {t e : TypeId} {bytes : Nat} (T : RowTy P t e sz bytes)
include hl h1 T
theorem wpList_append_slice (w : World) {ops : Array Oper} {rest : List Oper} {o : Oper} {a : Act} {Q : Exit → Act → World → Prop} (hgd : o.guard = none) (s x : Operand)
    (ho : o.op = Op.call { callee := Callee.builtin Builtin.append, args := #[s, x], argTypes := #[t, t] })
    (B : Nat) (v : Value) (l0 l1 : List α) (hs : a.eval s = v) (hown : w.ownsRow B e sz v l0.length (rcells cl l0))
    (ao : Option Addr) (c : Nat) (hx : a.eval x = .slice ao l1.length c) (hn : NilOk (.slice ao l1.length c)) (h : SlAt w sz (.slice ao l1.length c) (l1.map cl)) (h0 : l0.length + l1.length ≤ 1100000) (hB : B ≤ w.heap.size)
    (K : ∀ a' c' n' w', Hid (n' = (l0 ++ l1).length) → w'.ownsRow B e sz (.slice a' n' c') n' (rcells cl (l0 ++ l1)) → w.grownBy w' v.ownBlock → wpList P ops Q rest (a.put o.dst (.slice a' n' c')) w') :
    wpList P ops Q (o :: rest) a w := by
  obtain ⟨i0, z, hi0, hz0, hz1, hz2, hz3⟩ := T.info
  have hsm := T.small
  have hby : (l0.length + l1.length) * bytes ≤ 140737488355328 := Nat.le_trans (Nat.mul_le_mul h0 hsm) (by omega)
  have KK : ∀ v' w', w'.ownsRow B e sz v' (l0.length + l1.length) (rcells cl l0 ++ rcells cl l1) → w.grownBy w' v.ownBlock → wpList P ops Q rest (a.put o.dst v') w' := by
    intro v' w' hown' hg
    have hl' : l0.length + l1.length = (l0 ++ l1).length := by simp
    rw [hl', ← rcells_app] at hown'
    obtain ⟨a', c', rfl⟩ := rown_form hown'
    exact K a' c' _ w' (Lib.hid rfl) hown' hg
  cases ao with
  | some ad => exact wpList_append_own_at w hgd s x t ho B e i0 z sz bytes T.under hi0 hz0 hz1 hz2 hz3 T.pos v l0.length (rcells cl l0) hs hown ad l1.length c (rcells cl l1) hx (rcells_len hl l1) (slAt_cells hl T.pos h) (rcells_one cl h1 l1) (by unfold maxLen; omega) hby hB (fun v' w' a1 a2 _ _ => KK v' w' a1 a2)
  | none =>
    obtain ⟨e0, rfl⟩ := hn _ _ rfl
    have e1 : l1 = [] := List.eq_nil_of_length_eq_zero e0
    subst e1
    refine wpList_plain hgd fun K' hK' => ?_
    have hrun := run_append_owned_none (P := P) w B t o.type e i0 sz T.under hi0 _ l0.length (rcells cl l0) hown
    unfold Oper.wp
    simp [execOp, ho, resolve, invoke, builtin, hs, hx, hrun, Result.andThen]
    exact hK' _ _ (KK v w (by simpa [rcells] using hown) (World.grownBy.refl _ _))
end
/- the cells of a struct just laid, as append asks for them -/
theorem lit_cells {α : Type} {cl : α → List Value} (W : World) (cs : Array Value) (e : TypeId) (p : α) (hcs : cs.toList = cl p) : ∀ j u, (cl p)[j]? = some u → (W.alloc (.cells cs e)).cell? ((⟨W.heap.size, 0, none⟩ : Addr).add j) = some u := fun j u hj => by
  rw [Addr.add_lit, (Blk.new W e cs).cell, Nat.zero_add, ← hj, ← hcs, Array.getElem?_toList]
/- behind an append: what lies below stays -/
theorem app_below {B e : Nat} {W wr w1 : World} {o : Obj} {v : Value} {n sz : Nat} {xs : List Value} (hbel : Below B W wr) (hB : B ≤ wr.heap.size) (hown : wr.ownsRow B e sz v n xs) (hg : (wr.alloc o).grownBy w1 v.ownBlock) : Below B W w1 :=
  (hbel.alloc hB o).grown hg (by simp; omega) (fun k hk => (hown.lt k hk).1)
theorem tyR : RowTy Try.prog 31 35 7 56 := by
  refine ⟨Try.underlying31, ?_, by decide, by decide⟩
  obtain ⟨i0, hi0, hz0, hz1, hz2⟩ := info_parts (show (Try.prog.info? 35).map (fun i => (i.zero, i.size, i.bytes)) = some (some (.agg #[.int .i64 0, .int .i64 0, .int .i64 0, .int .i64 0, .int .i64 0, .int .i64 0, .bool false]), 7, 56) by kernel_rfl)
  exact ⟨i0, _, hi0, hz0, hz1, hz2, rfl⟩
theorem tyH : RowTy Try.prog 25 77 9 72 := by
  refine ⟨Try.underlying25, ?_, by decide, by decide⟩
  obtain ⟨i0, hi0, hz0, hz1, hz2⟩ := info_parts (show (Try.prog.info? 77).map (fun i => (i.zero, i.size, i.bytes)) = some (some (.agg #[.int .i64 0, .bool false, .int .i64 0, .int .i64 0, .int .i64 0, .int .i64 0, .int .i64 0, .int .i64 0, .bool false]), 9, 72) by kernel_rfl)
  exact ⟨i0, _, hi0, hz0, hz1, hz2, rfl⟩
end Go.Proofs.Ytmkoppbbenombaa
