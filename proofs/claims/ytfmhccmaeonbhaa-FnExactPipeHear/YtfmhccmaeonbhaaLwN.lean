/- A law's memory: a block made at an open place of a region, and written as a whole. -/
import Derived.Test.YtfmhccmaeonbhaaHrL
namespace Go.Proofs.Ytfmhccmaeonbhaa
open Go.RowKit

section
variable {W cur : World} {L : List (Nat × TypeId × Array Value)} {R : List (Nat × Value × List ByteArray)}
theorem LawAt.pack (A : LawAt W L R cur) (cs : Array Value) (t : TypeId) : ∃ Wn, cur.alloc (.cells cs t) = Wn ∧ LawAt W L R Wn ∧ ∃ q, cur.heap.size = q ∧ Blk Wn q t cs ∧ W.heap.size ≤ q ∧ ∀ x ∈ L, x.1 ≠ q :=
  ⟨_, rfl, A.alloc _, _, rfl, Blk.new _ _ _, A.bel.size, fun x hx => Nat.ne_of_lt (A.blk x hx).lt⟩
theorem LawAt.lowB (A : LawAt W L R cur) : ∃ B, cur.heap.size = B ∧ (∀ q ∈ R, ∀ k, q.2.1.ownBlock = some k → k < B) ∧ W.heap.size ≤ B := ⟨_, rfl, A.low, A.bel.size⟩
theorem LawAt.push {q : Nat} {t : TypeId} {cs : Array Value} (A : LawAt W L R cur) (N : Blk cur q t cs) : LawAt W ((q, t, cs) :: L) R cur := by
  refine ⟨A.bel, fun x hx => ?_, A.row⟩
  rcases List.mem_cons.1 hx with rfl | hx
  · exact N
  · exact A.blk x hx
set_option maxHeartbeats 1000000 in
theorem LawAt.fin8 {q : Nat} {c0 c1 c2 c3 c4 c5 c6 c7 : Value} (A : LawAt W L R cur) (N : Blk cur q 33 #[c0, c1, c2, c3, c4, c5, c6, c7]) (hq : W.heap.size ≤ q) (hne : ∀ x ∈ L, x.1 ≠ q) (v0 v1 v2 v3 v4 v5 v6 v7 : Value) :
    LawAt W ((q, 33, #[v0, v1, v2, v3, v4, v5, v6, v7]) :: L) R ((((((((cur.setCell ⟨q, 0, none⟩ v0).setCell ⟨q, 1, none⟩ v1).setCell ⟨q, 2, none⟩ v2).setCell ⟨q, 3, none⟩ v3).setCell ⟨q, 4, none⟩ v4).setCell ⟨q, 5, none⟩ v5).setCell ⟨q, 6, none⟩ v6).setCell ⟨q, 7, none⟩ v7) := by
  have h := ((((((((A.push N).set hq hne (by decide) 0 v0).set hq hne (by decide) 1 v1).set hq hne (by decide) 2 v2).set hq hne (by decide) 3 v3).set hq hne (by decide) 4 v4).set hq hne (by decide) 5 v5).set hq hne (by decide) 6 v6).set hq hne (by decide) 7 v7
  simp only [List.setIfInBounds_toArray, List.set_cons_zero, List.set_cons_succ] at h
  exact h
end
end Go.Proofs.Ytfmhccmaeonbhaa
