/- A law's memory: blocks known whole, rows of whatever kind that were made; what keeps them. -/
import Derived.Test.YtmkoppbbenombaaRw
namespace Go.Proofs.Ytmkoppbbenombaa
open Go.RowKit

structure RowQ where
  B : Nat
  t : TypeId
  sz : Nat
  v : Value
  n : Nat
  xs : List Value
def RowQ.own (q : RowQ) (W : World) : Prop := W.ownsRow q.B q.t q.sz q.v q.n q.xs
structure MemAt (W : World) (L : List (Nat × TypeId × Array Value)) (R : List RowQ) (cur : World) : Prop where
  bel : Below W.heap.size W cur
  blk : ∀ q ∈ L, Blk cur q.1 q.2.1 q.2.2
  row : ∀ q ∈ R, q.own cur
section
variable {W cur cur' : World} {L L' : List (Nat × TypeId × Array Value)} {R R' : List RowQ}
theorem MemAt.start (W : World) : MemAt W [] [] W := ⟨Below.refl _ _, (fun q hq => by cases hq), (fun q hq => by cases hq)⟩
theorem MemAt.kept (h : MemAt W L R cur) (hb : Below cur.heap.size cur cur') : MemAt W L R cur' :=
  ⟨h.bel.trans (hb.mono h.bel.size), fun q hq => (h.blk q hq).kept hb, fun q hq => rown_below (h.row q hq) hb⟩
theorem MemAt.drew (h : MemAt W L R cur) : MemAt W L R cur.drew := ⟨h.bel.drew, h.blk, h.row⟩
theorem MemAt.alloc (h : MemAt W L R cur) (o : Obj) : MemAt W L R (cur.alloc o) := h.kept ((Below.refl _ cur).alloc (Nat.le_refl _) o)
theorem MemAt.new (h : MemAt W L R cur) (t : TypeId) (cs : Array Value) : MemAt W ((cur.heap.size, t, cs) :: L) R (cur.alloc (.cells cs t)) := by
  have k := h.alloc (.cells cs t)
  refine ⟨k.bel, fun q hq => ?_, k.row⟩
  rcases List.mem_cons.1 hq with rfl | hq
  · exact Blk.new _ _ _
  · exact k.blk q hq
theorem MemAt.own (h : MemAt W L R cur) {B : Nat} {t : TypeId} {sz : Nat} {v : Value} {n : Nat} {xs : List Value} (ho : cur.ownsRow B t sz v n xs) : MemAt W L (⟨B, t, sz, v, n, xs⟩ :: R) cur := by
  refine ⟨h.bel, h.blk, fun q hq => ?_⟩
  rcases List.mem_cons.1 hq with rfl | hq
  · exact ho
  · exact h.row q hq
/- a row made by a call: known from the law's own start on -/
theorem MemAt.made (h : MemAt W L R cur) {t : TypeId} {sz : Nat} {v : Value} {n : Nat} {xs : List Value} (hb : Below cur.heap.size cur cur') (ho : cur'.ownsRow cur.heap.size t sz v n xs) : MemAt W L (⟨cur.heap.size, t, sz, v, n, xs⟩ :: R) cur' := (h.kept hb).own ho
theorem MemAt.made0 (h : MemAt W L R cur) {t : TypeId} {sz : Nat} {v : Value} {n : Nat} {xs : List Value} (hb : Below cur.heap.size cur cur') (ho : cur'.ownsRow cur.heap.size t sz v n xs) : MemAt W L (⟨W.heap.size, t, sz, v, n, xs⟩ :: R) cur' := (h.kept hb).own (rown_mono ho h.bel.size)
theorem MemAt.push (h : MemAt W L R cur) {b : Nat} {t : TypeId} {cs : Array Value} (N : Blk cur b t cs) : MemAt W ((b, t, cs) :: L) R cur := by
  refine ⟨h.bel, fun x hx => ?_, h.row⟩
  rcases List.mem_cons.1 hx with rfl | hx
  · exact N
  · exact h.blk x hx
theorem MemAt.sub (h : MemAt W L R cur) (hL : ∀ q ∈ L', q ∈ L) (hR : ∀ q ∈ R', q ∈ R) : MemAt W L' R' cur := ⟨h.bel, fun q hq => h.blk q (hL q hq), fun q hq => h.row q (hR q hq)⟩
/- a row was written: what is apart from it stays -/
theorem MemAt.grown {row : Option Nat} (h : MemAt W L R cur) (hg : cur.grownBy cur' row) (hr : ∀ k, row = some k → W.heap.size ≤ k) (hL : ∀ q ∈ L', q ∈ L ∧ some q.1 ≠ row) (hR : ∀ q ∈ R', q ∈ R ∧ (q.v.ownBlock = none ∨ q.v.ownBlock ≠ row)) : MemAt W L' R' cur' :=
  ⟨h.bel.grown hg h.bel.size hr, fun q hq => (h.blk q (hL q hq).1).grown hg (hL q hq).2, fun q hq => (h.row q (hR q hq).1).kept hg (hR q hq).2⟩
theorem MemAt.b0 {b : Nat} {t : TypeId} {cs : Array Value} (h : MemAt W ((b, t, cs) :: L) R cur) : Blk cur b t cs := h.blk _ (.head _)
theorem MemAt.b1 {x0 : Nat × TypeId × Array Value} {b : Nat} {t : TypeId} {cs : Array Value} (h : MemAt W (x0 :: (b, t, cs) :: L) R cur) : Blk cur b t cs := h.blk _ (.tail _ (.head _))
theorem MemAt.b2 {x0 x1 : Nat × TypeId × Array Value} {b : Nat} {t : TypeId} {cs : Array Value} (h : MemAt W (x0 :: x1 :: (b, t, cs) :: L) R cur) : Blk cur b t cs := h.blk _ (.tail _ (.tail _ (.head _)))
theorem MemAt.b3 {x0 x1 x2 : Nat × TypeId × Array Value} {b : Nat} {t : TypeId} {cs : Array Value} (h : MemAt W (x0 :: x1 :: x2 :: (b, t, cs) :: L) R cur) : Blk cur b t cs := h.blk _ (.tail _ (.tail _ (.tail _ (.head _))))
theorem MemAt.b4 {x0 x1 x2 x3 : Nat × TypeId × Array Value} {b : Nat} {t : TypeId} {cs : Array Value} (h : MemAt W (x0 :: x1 :: x2 :: x3 :: (b, t, cs) :: L) R cur) : Blk cur b t cs := h.blk _ (.tail _ (.tail _ (.tail _ (.tail _ (.head _)))))
theorem MemAt.r0 {q : RowQ} (h : MemAt W L (q :: R) cur) : cur.ownsRow q.B q.t q.sz q.v q.n q.xs := h.row _ (.head _)
theorem MemAt.r1 {x0 q : RowQ} (h : MemAt W L (x0 :: q :: R) cur) : cur.ownsRow q.B q.t q.sz q.v q.n q.xs := h.row _ (.tail _ (.head _))
theorem MemAt.r2 {x0 x1 q : RowQ} (h : MemAt W L (x0 :: x1 :: q :: R) cur) : cur.ownsRow q.B q.t q.sz q.v q.n q.xs := h.row _ (.tail _ (.tail _ (.head _)))
theorem MemAt.r3 {x0 x1 x2 q : RowQ} (h : MemAt W L (x0 :: x1 :: x2 :: q :: R) cur) : cur.ownsRow q.B q.t q.sz q.v q.n q.xs := h.row _ (.tail _ (.tail _ (.tail _ (.head _))))
theorem MemAt.r4 {x0 x1 x2 x3 q : RowQ} (h : MemAt W L (x0 :: x1 :: x2 :: x3 :: q :: R) cur) : cur.ownsRow q.B q.t q.sz q.v q.n q.xs := h.row _ (.tail _ (.tail _ (.tail _ (.tail _ (.head _)))))
theorem MemAt.r5 {x0 x1 x2 x3 x4 q : RowQ} (h : MemAt W L (x0 :: x1 :: x2 :: x3 :: x4 :: q :: R) cur) : cur.ownsRow q.B q.t q.sz q.v q.n q.xs := h.row _ (.tail _ (.tail _ (.tail _ (.tail _ (.tail _ (.head _))))))
theorem MemAt.r6 {x0 x1 x2 x3 x4 x5 q : RowQ} (h : MemAt W L (x0 :: x1 :: x2 :: x3 :: x4 :: x5 :: q :: R) cur) : cur.ownsRow q.B q.t q.sz q.v q.n q.xs := h.row _ (.tail _ (.tail _ (.tail _ (.tail _ (.tail _ (.tail _ (.head _)))))))
theorem MemAt.low (h : MemAt W L R cur) : ∀ q ∈ R, ∀ k, q.v.ownBlock = some k → k < cur.heap.size := fun q hq k hk => ((h.row q hq).lt k hk).2
theorem MemAt.pack (A : MemAt W L R cur) (cs : Array Value) (t : TypeId) : ∃ Wn q, cur.alloc (.cells cs t) = Wn ∧ cur.heap.size = q ∧ MemAt W ((q, t, cs) :: L) R Wn ∧ Below cur.heap.size cur Wn ∧ W.heap.size ≤ q ∧ (∀ x ∈ L, x.1 ≠ q) ∧ ∀ x ∈ R, x.v.ownBlock ≠ some q :=
  ⟨_, _, rfl, rfl, A.new _ _, (Below.refl _ _).alloc (Nat.le_refl _) _, A.bel.size, fun x hx => Nat.ne_of_lt (A.blk x hx).lt, fun x hx e => by have := A.low x hx _ e; omega⟩
end
/- the second row made behind the first -/
theorem rown_apart {W W' : World} {B B' n n' : Nat} {t t' : TypeId} {sz sz' : Nat} {v v' : Value} {xs xs' : List Value} (h : W.ownsRow B t sz v n xs) (h' : W'.ownsRow B' t' sz' v' n' xs') (hB : W.heap.size ≤ B') : v'.ownBlock = none ∨ v'.ownBlock ≠ v.ownBlock := by
  cases e : v'.ownBlock with
  | none => exact .inl rfl
  | some k =>
    refine .inr fun e2 => ?_
    have h1 := (h'.lt k e).1
    have h2 := (h.lt k e2.symm).2
    omega
theorem rapart_symm {v v' : Value} (h : v'.ownBlock = none ∨ v'.ownBlock ≠ v.ownBlock) : v.ownBlock = none ∨ v.ownBlock ≠ v'.ownBlock := by
  rcases h with h | h
  · rw [h]
    cases v.ownBlock with
    | none => exact .inl rfl
    | some k => exact .inr (by simp)
  · exact .inr (fun e => h e.symm)
end Go.Proofs.Ytmkoppbbenombaa
