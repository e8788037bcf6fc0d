/- A block of memory that is known as a whole: its cells, its type; what leaves it as it was. -/
import Derived.Test.YthhodnkcaefnnaaBase
import Derived.Deep.RegionHeld
import Derived.Handy
namespace Go.Proofs.Ythhodnkcaefnnaa
open Go.RowKit

def Blk (W : World) (b : Nat) (t : TypeId) (vs : Array Value) : Prop := W.heap[b]? = some (.cells vs t (0, 0))
section
variable {W W' : World} {b : Nat} {t : TypeId} {vs : Array Value}
theorem Blk.lt (h : Blk W b t vs) : b < W.heap.size := by
  rcases Nat.lt_or_ge b W.heap.size with hl | hl
  · exact hl
  · unfold Blk at h; rw [Array.getElem?_eq_none hl] at h; cases h
theorem Blk.cell (h : Blk W b t vs) (o : Nat) : W.cell? ⟨b, o, none⟩ = vs[o]? := by unfold Blk at h; simp [World.cell?, h]
theorem Blk.frozen (h : Blk W b t vs) (o : Nat) : W.frozen? ⟨b, o, none⟩ = false := by unfold Blk at h; simp [World.frozen?, h]
theorem Blk.below {B : Nat} (h : Blk W b t vs) (hb : Below B W W') (hg : b < B) : Blk W' b t vs := (hb.block b hg).trans h
theorem Blk.kept (h : Blk W b t vs) (hb : Below W.heap.size W W') : Blk W' b t vs := (hb.block b h.lt).trans h
theorem Blk.grown {row : Option Nat} (h : Blk W b t vs) (hb : W.grownBy W' row) (hg : some b ≠ row) : Blk W' b t vs := (hb.block b h.lt hg).trans h
theorem Blk.alloc (h : Blk W b t vs) (o : Obj) : Blk (W.alloc o) b t vs := (Below.heap_alloc W o b h.lt).trans h
theorem Blk.drew (h : Blk W b t vs) : Blk W.drew b t vs := h
theorem Blk.new (W : World) (t : TypeId) (vs : Array Value) : Blk (W.alloc (.cells vs t)) W.heap.size t vs := heap_alloc_new W _
theorem Blk.set (h : Blk W b t vs) (i : Nat) (v : Value) : Blk (W.setCell ⟨b, i, none⟩ v) b t (vs.setIfInBounds i v) := heap_setCell_same W b i _ _ _ h
theorem Blk.far {b' i : Nat} {v : Value} (h : Blk W b t vs) (hne : b ≠ b') : Blk (W.setCell ⟨b', i, none⟩ v) b t vs := (Below.heap_setCell W _ _ b hne).trans h
end
theorem below_grown' {w w' : World} {row : Option Nat} (h : Below w.heap.size w w') : w.grownBy w' row := ⟨h.os, h.tape, h.output, h.size, fun k hk _ => h.block k hk⟩
end Go.Proofs.Ythhodnkcaefnnaa
