/- A law's memory: an answer's box, filled at a drawn region's end. -/
import Derived.Test.YtmkoppbbenombaaMg
namespace Go.Proofs.Ytmkoppbbenombaa
open Go.RowKit

theorem blk_not_ownB {cur : World} {b B n sz : Nat} {t t' : TypeId} {cs : Array Value} {v : Value} {xs : List Value} (h : Blk cur b t cs) (ho : cur.ownsRow B t' sz v n xs) (hne : t ≠ t') : v.ownBlock ≠ some b := by
  rcases ho.2 with ⟨rfl, _⟩ | ⟨g, cap, cu, rfl, _, hg, _⟩
  · simp [Value.ownBlock]
  · intro e
    simp [Value.ownBlock] at e
    subst e
    unfold Blk at h
    rw [h] at hg
    simp at hg
    exact hne hg.2
theorem row_set3 {cur : World} {q B n sz : Nat} {t : TypeId} {v : Value} {xs : List Value} (h : cur.ownsRow B t sz v n xs) (hne : v.ownBlock ≠ some q) (v0 v1 v2 : Value) :
    (((cur.setCell ⟨q, 0, none⟩ v0).setCell ⟨q, 1, none⟩ v1).setCell ⟨q, 2, none⟩ v2).ownsRow B t sz v n xs :=
  h.kept (row := some q) (grownSet (grownSet (grownSet (World.grownBy.refl _ _)))) (.inr hne)
theorem MemAt.fin3 {W cur : World} {L : List (Nat × TypeId × Array Value)} {R : List RowQ} {q B1 B2 n1 n2 s1 s2 : Nat} {t t1 t2 : TypeId} {c0 c1 c2 x1 x2 : Value} {l1 l2 : List Value} (h : MemAt W L R cur) (ho : cur.ownsRow B1 t1 s1 x1 n1 l1) (ht : cur.ownsRow B2 t2 s2 x2 n2 l2)
    (N : Blk cur q t #[c0, c1, c2]) (hq : W.heap.size ≤ q) (hL : ∀ x ∈ L, x.1 ≠ q) (hR : ∀ x ∈ R, x.v.ownBlock ≠ some q) (h1 : t ≠ t1) (h2 : t ≠ t2) (v0 v1 v2 : Value) :
    MemAt W ((q, t, #[v0, v1, v2]) :: L) (⟨B2, t2, s2, x2, n2, l2⟩ :: ⟨B1, t1, s1, x1, n1, l1⟩ :: R) (((cur.setCell ⟨q, 0, none⟩ v0).setCell ⟨q, 1, none⟩ v1).setCell ⟨q, 2, none⟩ v2) := by
  refine ⟨((h.bel.setCell hq _).setCell hq _).setCell hq _, fun x hx => ?_, fun x hx => ?_⟩
  · rcases List.mem_cons.1 hx with rfl | hx
    · have h2 := ((N.set 0 v0).set 1 v1).set 2 v2
      simp only [List.setIfInBounds_toArray, List.set_cons_zero, List.set_cons_succ] at h2
      exact h2
    · exact (((h.blk x hx).far (hL x hx)).far (hL x hx)).far (hL x hx)
  · rcases List.mem_cons.1 hx with rfl | hx
    · exact row_set3 ht (blk_not_ownB N ht h2) _ _ _
    · rcases List.mem_cons.1 hx with rfl | hx
      · exact row_set3 ho (blk_not_ownB N ho h1) _ _ _
      · exact row_set3 (h.row x hx) (hR x hx) _ _ _
end Go.Proofs.Ytmkoppbbenombaa
