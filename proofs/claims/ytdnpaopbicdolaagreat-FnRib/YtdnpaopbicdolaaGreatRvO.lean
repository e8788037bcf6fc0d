/- One held route of a law's own: turned, found equal. -/
import Derived.Test.YtdnpaopbicdolaaGreatRbR
namespace Go.Proofs.YtdnpaopbicdolaaGreat
open Go.RowKit

theorem Elems.below1 {W W' : World} {b off sz B : Nat} {vs : List (List Value)} (h : Elems W b off sz vs) (hb : Below B W W') (hl : b < B) : Elems W' b off sz vs :=
  fun i cs hi j u hj => (hb.cell (p := ⟨b, off + i * sz + j, none⟩) hl).trans (h i cs hi j u hj)
theorem hd_put9 {W cur : World} {q B : Nat} {t : TypeId} {c0 c1 c2 c3 c4 c5 c6 c7 c8 : Value} (N : Blk cur q t #[c0, c1, c2, c3, c4, c5, c6, c7, c8]) (h : Below B W cur) (hq : B ≤ q) (v0 v1 v2 v3 v4 v5 v6 v7 v8 : Value) :
    Blk (((((((((cur.setCell ⟨q, 0, none⟩ v0).setCell ⟨q, 1, none⟩ v1).setCell ⟨q, 2, none⟩ v2).setCell ⟨q, 3, none⟩ v3).setCell ⟨q, 4, none⟩ v4).setCell ⟨q, 5, none⟩ v5).setCell ⟨q, 6, none⟩ v6).setCell ⟨q, 7, none⟩ v7).setCell ⟨q, 8, none⟩ v8) q t #[v0, v1, v2, v3, v4, v5, v6, v7, v8] ∧
    Below B W (((((((((cur.setCell ⟨q, 0, none⟩ v0).setCell ⟨q, 1, none⟩ v1).setCell ⟨q, 2, none⟩ v2).setCell ⟨q, 3, none⟩ v3).setCell ⟨q, 4, none⟩ v4).setCell ⟨q, 5, none⟩ v5).setCell ⟨q, 6, none⟩ v6).setCell ⟨q, 7, none⟩ v7).setCell ⟨q, 8, none⟩ v8) := by
  have h2 := ((((((((N.set 0 v0).set 1 v1).set 2 v2).set 3 v3).set 4 v4).set 5 v5).set 6 v6).set 7 v7).set 8 v8
  simp only [List.setIfInBounds_toArray, List.set_cons_zero, List.set_cons_succ] at h2
  exact ⟨h2, ((((((((h.setCell hq _).setCell hq _).setCell hq _).setCell hq _).setCell hq _).setCell hq _).setCell hq _).setCell hq _).setCell hq _⟩
end Go.Proofs.YtdnpaopbicdolaaGreat
