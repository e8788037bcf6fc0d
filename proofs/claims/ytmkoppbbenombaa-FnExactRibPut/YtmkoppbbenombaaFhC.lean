/- What a heap in memory keeps. -/
import Derived.Test.YtmkoppbbenombaaHgM
import Derived.Test.YtmkoppbbenombaaApR
import Derived.Test.YtmkoppbbenombaaMg
namespace Go.Proofs.Ytmkoppbbenombaa
open Go.RowKit

/- nothing but the heap's own two blocks has turned -/
structure Fk2 (w w' : World) (hb : Nat) (v v' : Value) : Prop where
  os : w'.os = w.os
  tape : w'.tape = w.tape
  output : w'.output = w.output
  size : w.heap.size ≤ w'.heap.size
  block : ∀ k, k < w.heap.size → k ≠ hb → some k ≠ v.ownBlock → w'.heap[k]? = w.heap[k]?
  own : ∀ k, v'.ownBlock = some k → v.ownBlock = some k ∨ w.heap.size ≤ k
theorem Fk2.of_below {w w' : World} {hb : Nat} {v v' : Value} (h : Below w.heap.size w w') (hv : v'.ownBlock = v.ownBlock) : Fk2 w w' hb v v' := ⟨h.os, h.tape, h.output, h.size, fun k hk _ _ => h.block k hk, fun k hk => .inl (by rw [← hv]; exact hk)⟩
theorem Fk2.trans {a b c : World} {hb : Nat} {u v x : Value} (h : Fk2 a b hb u v) (k : Fk2 b c hb v x) : Fk2 a c hb u x := by
  refine ⟨k.os.trans h.os, k.tape.trans h.tape, k.output.trans h.output, Nat.le_trans h.size k.size, fun i hi h1 h2 => ?_, fun i hi => ?_⟩
  · refine (k.block i (Nat.lt_of_lt_of_le hi h.size) h1 (fun e => ?_)).trans (h.block i hi h1 h2)
    rcases h.own i e.symm with e2 | e2
    · exact h2 e2.symm
    · omega
  · rcases k.own i hi with e | e
    · exact h.own i e
    · exact .inr (Nat.le_trans h.size e)
theorem Fk2.of_grown {w w' : World} {hb : Nat} {v : Value} (h : w.grownBy w' v.ownBlock) : Fk2 w w' hb v v := ⟨h.os, h.tape, h.output, h.size, fun k hk _ h2 => h.block k hk h2, fun _ hk => .inl hk⟩
theorem Fk2.below {B hb : Nat} {w wr w' : World} {v v' : Value} (h : Fk2 wr w' hb v v') (hb0 : Below B w wr) (hB : B ≤ hb) (hv : ∀ k, v.ownBlock = some k → B ≤ k) (hs : B ≤ wr.heap.size) : Below B w w' :=
  ⟨h.os.trans hb0.os, h.tape.trans hb0.tape, h.output.trans hb0.output, Nat.le_trans hb0.size h.size, fun k hk => (h.block k (by omega) (by omega) (fun e => by have := hv k e.symm; omega)).trans (hb0.block k hk)⟩
/- a block of another type is not the row's -/
theorem fh_ne {W : World} {hb B n sz : Nat} {t t' : TypeId} {v : Value} {xs : List Value} {cs : Array Value} (h : Blk W hb t cs) (ho : W.ownsRow B t' sz v n xs) (hne : t ≠ t') : some hb ≠ v.ownBlock := by
  rcases ho.2 with ⟨rfl, _⟩ | ⟨g, cap, cu, rfl, _, hg, _⟩
  · simp [Value.ownBlock]
  · intro e
    simp [Value.ownBlock] at e
    subst e
    unfold Blk at h
    rw [h] at hg
    simp at hg
    exact hne hg.2
end Go.Proofs.Ytmkoppbbenombaa
