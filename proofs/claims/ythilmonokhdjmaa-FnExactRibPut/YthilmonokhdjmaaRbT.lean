/- RibStale, whole: of the model and of the program. -/
import Derived.Test.YthilmonokhdjmaaRbS
namespace Go.Proofs.Ythilmonokhdjmaa
open Go.RowKit

theorem RoPost.good {r : Ro} {w w' : World} {x : Ending} {v t : Value} (hx : x = .returned (roV v t r.code)) (ho : w'.ownsRow w.heap.size 145 9 v r.rib.length (rcells Hd.cl r.rib)) (ht : w'.ownsRow w.heap.size 75 7 t r.gone.length (rcells Rt.cl r.gone)) (ha : v.ownBlock = none ∨ v.ownBlock ≠ t.ownBlock) (hb : Below w.heap.size w w') : RoPost r w x w' := ⟨v, t, hx, ho, ht, ha, hb⟩
/- the answer's own block, filled at the end -/
theorem fill3 {W cur : World} {q B : Nat} {t : TypeId} {c0 c1 c2 : Value} (N : Blk cur q t #[c0, c1, c2]) (h : Below B W cur) (hq : B ≤ q) (v0 v1 v2 : Value) :
    Blk (((cur.setCell ⟨q, 0, none⟩ v0).setCell ⟨q, 1, none⟩ v1).setCell ⟨q, 2, none⟩ v2) q t #[v0, v1, v2] ∧ Below B W (((cur.setCell ⟨q, 0, none⟩ v0).setCell ⟨q, 1, none⟩ v1).setCell ⟨q, 2, none⟩ v2) := by
  have h2 := ((N.set 0 v0).set 1 v1).set 2 v2
  simp only [List.setIfInBounds_toArray, List.set_cons_zero, List.set_cons_succ] at h2
  exact ⟨h2, ((h.setCell hq _).setCell hq _).setCell hq _⟩
theorem own_far3 {cur : World} {q B n sz : Nat} {t : TypeId} {v : Value} {xs : List Value} (h : cur.ownsRow B t sz v n xs) (hne : v.ownBlock ≠ some q) (v0 v1 v2 : Value) :
    (((cur.setCell ⟨q, 0, none⟩ v0).setCell ⟨q, 1, none⟩ v1).setCell ⟨q, 2, none⟩ v2).ownsRow B t sz v n xs :=
  h.kept (row := some q) (grownSet (grownSet (grownSet (World.grownBy.refl _ _)))) (.inr hne)
theorem apart_nil (v : Value) : v.ownBlock = none ∨ v.ownBlock ≠ (Value.slice none 0 0).ownBlock := by
  cases h : v.ownBlock
  · exact .inl rfl
  · exact .inr (by simp [Value.ownBlock])
theorem staleR_ill {l : List Hd} {p c : Int} (h : faultOf l p = c) (hc : c ≠ 0) : staleR l p = roIll c := by rw [staleR, h, if_neg hc]
theorem staleR_ok {l : List Hd} {p : Int} (h : faultOf l p = 0) : staleR l p = ⟨l.map (stH p), [], 0⟩ := by rw [staleR, if_pos h]
theorem staleR_len (l : List Hd) (p : Int) : (staleR l p).rib.length + (staleR l p).gone.length ≤ 200 := by
  unfold staleR
  have := fault_way l p
  split
  · rename_i h
    rcases this with ⟨_, h2⟩ | ⟨_, _, h2⟩ | ⟨_, _, _, h2⟩ | ⟨_, _, _, h4, _⟩
    · omega
    · omega
    · omega
    · simp; omega
  · simp [roIll]
theorem blk_not_own1 {cur : World} {b B n sz : Nat} {t t' : TypeId} {cs : Array Value} {v : Value} {xs : List Value} (h : Blk cur b t cs) (ho : cur.ownsRow B t' sz v n xs) (hne : t ≠ t') : some b ≠ v.ownBlock := by
  rcases ho.2 with ⟨rfl, _⟩ | ⟨g, cap, cu, rfl, _, hg, _⟩
  · simp [Value.ownBlock]
  · intro e
    simp [Value.ownBlock] at e
    subst e
    unfold Blk at h
    rw [h] at hg
    simp at hg
    exact hne hg.2
/- a copy's flag was set: what stays -/
theorem st_set {W W7 : World} {q : Nat} {c0 c1 c2 c3 c4 c5 c6 c7 c8 : Value} {rs : Array Value} {v : Value} {n : Nat} {xs : List Value} (XA : Blk W7 q 145 #[c0, c1, c2, c3, c4, c5, c6, c7, c8]) (hne : W.heap.size ≠ q) (hB : W.heap.size ≤ q) (XR : Blk W7 W.heap.size 98 rs) (BA : Below W.heap.size W W7)
    (OA : W7.ownsRow W.heap.size 145 9 v n xs) (hv : v.ownBlock ≠ some q) (u : Bool) :
    Blk (W7.setCell ⟨q, 1, none⟩ (.bool u)) q 145 #[c0, .bool u, c2, c3, c4, c5, c6, c7, c8] ∧ Blk (W7.setCell ⟨q, 1, none⟩ (.bool u)) W.heap.size 98 rs ∧ Below W.heap.size W (W7.setCell ⟨q, 1, none⟩ (.bool u)) ∧ (W7.setCell ⟨q, 1, none⟩ (.bool u)).ownsRow W.heap.size 145 9 v n xs := by
  refine ⟨?_, XR.far hne, BA.setCell hB _, OA.kept (row := some q) (grownSet (World.grownBy.refl _ _)) (.inr hv)⟩
  have := XA.set 1 (.bool u)
  simp only [List.setIfInBounds_toArray, List.set_cons_zero, List.set_cons_succ] at this
  exact this
theorem st_app {W W8 w5 : World} {o : Obj} {rs : Array Value} {v : Value} {n n' : Nat} {xs ys : List Value} {a' : Option Addr} {c' : Nat} (XR : Blk W8 W.heap.size 98 rs) (BA : Below W.heap.size W W8) (OA : W8.ownsRow W.heap.size 145 9 v n xs)
    (ho : w5.ownsRow W.heap.size 145 9 (.slice a' n' c') n' ys) (hg : (W8.alloc o).grownBy w5 v.ownBlock) :
    (Value.slice a' n' c').ownBlock ≠ some W.heap.size ∧ Blk w5 W.heap.size 98 rs ∧ Below W.heap.size W w5 := by
  have h5 : Blk w5 W.heap.size 98 rs := (XR.alloc o).grown hg (blk_not_own1 (XR.alloc o) (OA.alloc o) (by decide))
  refine ⟨fun e => blk_not_own1 h5 ho (by decide) e.symm, h5, app_below BA BA.size OA hg⟩
theorem staleL_succ (p : Int) (l : List Hd) (i : Nat) (hi : i < l.length) : (l.take (i + 1)).map (stH p) = (l.take i).map (stH p) ++ [stH p l[i]] := by
  rw [List.take_succ_eq_append_getElem hi, List.map_append]; rfl
end Go.Proofs.Ythilmonokhdjmaa
