/- slices.Sort and slices.Compact of a row of int64 of the call's own. -/
import Derived.Test.YtmkoppbbenombaaRmM
import Derived.Shelf.SlGeneric
import Derived.Shelf.SlLaysM
import Derived.Shelf.SlLaysE
import Derived.Shelf.SlicesE.Compact
import Derived.Shelf.SortM.Plain
import Derived.Shelf.SortM.SortNone
import Derived.Sort.OwnSortedInts
import Derived.Ground.SlgmProg
import Derived.Ground.SlgnProg
namespace Go.Proofs
open Go.Shelf
shelf_lay_g SlLaysM.n5 Slgm 5 at Try 86 as Ytmkoppbbenombaa.sortLay
shelf_lay_g SlLaysE.n43 Slgn 43 at Try 87 as Ytmkoppbbenombaa.compactLay
end Go.Proofs
namespace Go.Proofs.Ytmkoppbbenombaa
open Go.RowKit Go.Sort

theorem rcells_I (l : List Int) : rcells clI l = l.map (Value.int .i64) := by
  unfold rcells clI
  induction l with
  | nil => rfl
  | cons x l ih => rw [List.flatMap_cons, ih]; rfl
set_option maxRecDepth 100000 in
set_option maxHeartbeats 1000000 in
theorem sortI_any (B : Nat) (v : Value) (l : List Int) (w : World) (h : w.ownsRow B 2 1 v l.length (rcells clI l)) (hn : l.length ≤ 1000) :
    Calls Try.prog 86 #[v] w fun e w' => e = .returned (.tuple #[]) ∧ w'.ownsRow B 2 1 v (sortL l).length (rcells clI (sortL l)) ∧ w.grownBy w' v.ownBlock := by
  rw [rcells_I] at h
  rw [rcells_I, sortL_len]
  obtain ⟨hl, ⟨rfl, h0⟩ | ⟨g, cap, cur, rfl, hb, hh, hle, hm, hz, ht⟩⟩ := h
  · have e : l = [] := List.eq_nil_of_length_eq_zero h0
    subst e
    have hc := AnyM.slices_Sort_int_none sortLay none 0 w
    refine Calls.mono (show Calls Try.prog 86 #[.slice none 0 0] w _ from hc) ?_
    rintro e w' ⟨rfl, rfl⟩
    exact ⟨rfl, by simpa [sortL] using World.ownsRow_nil _ _ _ _, World.grownBy.refl _ _⟩
  · have hg : g < w.heap.size := (Array.getElem?_eq_some_iff.1 hh).1
    rw [Nat.mul_one] at ht
    have hc := AnyM.slices_Sort_int sortLay g 0 cap l w (holds_of_blockI hh ht) hg (by omega)
    refine Calls.mono (show Calls Try.prog 86 #[.slice (some ⟨g, 0, none⟩) l.length cap] w _ from hc) ?_
    rintro e w' ⟨rfl, n, os, rfl⟩
    refine ⟨rfl, ownsRow_sortedI (ss := l) (ts := sortL l) (sortL_len l) hb hh hle hm hz, ?_⟩
    exact grownBy_sortedI _
set_option maxRecDepth 100000 in
set_option maxHeartbeats 1000000 in
theorem compactI_any (B : Nat) (v : Value) (l : List Int) (w : World) (h : w.ownsRow B 2 1 v l.length (rcells clI l)) (hn : l.length ≤ 1000) :
    Calls Try.prog 87 #[v] w fun e w' => ∃ u, e = .returned u ∧ w'.ownsRow B 2 1 u (Lib.compact l).length (rcells clI (Lib.compact l)) ∧ w.grownBy w' v.ownBlock := by
  rw [rcells_I] at h
  rw [rcells_I]
  obtain ⟨hl, ⟨rfl, h0⟩ | ⟨g, cap, cur, rfl, hb, hh, hle, hm, hz, ht⟩⟩ := h
  · have e : l = [] := List.eq_nil_of_length_eq_zero h0
    subst e
    go_enter Try.func87, Try.ntmps87
    go_wp2_with fail
    go_ret
    exact ⟨_, rfl, by simpa [Lib.compact, Lib.compactUpTo] using World.ownsRow_nil _ _ _ _, World.grownBy.refl _ _⟩
  · have hg : g < w.heap.size := (Array.getElem?_eq_some_iff.1 hh).1
    rw [Nat.mul_one] at ht
    have hc := AnyE.slices_Compact compactLay (Value.int .i64) (fun _ => rfl) (EqlAt.intD _ _ .i64) (NeqAt.intD _ _ .i64) 0 Try.zeroValue2 g 0 cap l.toArray w (holds_of_blockI hh ht) (by simp; omega) (by simpa using hle)
    refine Calls.mono (show Calls Try.prog 87 #[.slice (some ⟨g, 0, none⟩) l.length cap] w _ from hc) ?_
    rintro e w' ⟨rfl, q, rfl⟩
    have hcl : (Lib.compactUpTo l.toArray l.toArray.size).length ≤ l.length := by
      unfold Lib.compactUpTo
      rw [List.length_map]
      refine Nat.le_trans (List.length_filter_le _ _) ?_
      simp
    have hsz : l.toArray.size = l.length := by simp
    rw [hsz] at hcl ⊢
    unfold Lib.compact
    generalize Lib.compactUpTo l.toArray l.length = C at *
    obtain ⟨F, hF⟩ : ∃ F, F = C ++ List.replicate (l.length - C.length) (0 : Int) := ⟨_, rfl⟩
    have hFl : F.length = l.length := by rw [hF]; simp; omega
    have hFt : F.take C.length = C := by rw [hF]; simp
    rw [← hF]
    refine ⟨_, rfl, ?_, ?_⟩
    · refine ⟨by simp, .inr ⟨g, cap, putCells (Value.int .i64) 0 F.toArray cur, rfl, hb, ?_, by omega, hm, ?_, ?_⟩⟩
      · have := heap_sortedI (n := q) (os := #[]) F.toArray hh
        rw [grow_empty] at this
        exact this
      · simp [putCells, hz]
      · have h2 := take_putCellsI cur F (by omega)
        have h3 := congrArg (List.take C.length) h2
        rw [List.take_take, Nat.min_eq_left (by omega), ← List.map_take, hFt] at h3
        rw [Nat.mul_one]
        exact h3
    · have := grownBy_sortedI (w := w) (g := g) (n := q) (os := #[]) F.toArray
      rw [grow_empty] at this
      exact this
end Go.Proofs.Ytmkoppbbenombaa
