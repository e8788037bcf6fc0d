/- PipeHear: small facts for its walks. -/
import Derived.Test.YtfmhccmaeonbhaaHrL
import Derived.Deep.RegionLaw
namespace Go.Proofs.Ytfmhccmaeonbhaa
open Go.RowKit

theorem bel3 (w : World) (o o' o'' : Obj) : Below w.heap.size w (((w.alloc o).alloc o').alloc o'') := (bel2 w o o').alloc (by simp only [World.size_alloc]; omega) _
theorem LawAt.start3 (w : World) (t1 : TypeId) (c1 : Array Value) (t2 : TypeId) (c2 : Array Value) (t3 : TypeId) (c3 : Array Value) : LawAt w [(w.heap.size + 1 + 1, t3, c3), (w.heap.size + 1, t2, c2), (w.heap.size, t1, c1)] [] (((w.alloc (.cells c1 t1)).alloc (.cells c2 t2)).alloc (.cells c3 t3)) := by
  have := (((LawAt.start w).new t1 c1).new t2 c2).new t3 c3
  rw [World.size_alloc, World.size_alloc] at this
  exact this
theorem step_run_append {P : Program} {ops : Array Oper} {o : Oper} {a : Act} {w : World} {K : Act → World → Prop} {Q : Exit → Act → World → Prop} {E : Prop}
    (hg : o.guard = none) (s x : Operand) (t : TypeId) (hop : o.op = Op.call { callee := Callee.builtin Builtin.append, args := #[s, x], argTypes := #[t, t] })
    (v u r : Value) (w' : World) (hs : a.eval s = v) (hx : a.eval x = u) (hrun : (Builtin.append_ #[t, t] o.type #[v, u]).run P w = .ok r w') (hK : K (a.put o.dst r) w') :
    if Region.wanted o (yielded ops a.tmps) = true then Oper.wp P o a w K Q else E := by
  have hw : Region.wanted o (yielded ops a.tmps) = true := by simp [Region.wanted, hg]
  rw [if_pos hw]
  unfold Oper.wp
  simp [execOp, hop, resolve, invoke, builtin, hs, hx, hrun, Result.andThen]
  exact hK
theorem grown_new {W W' : World} {o : Obj} (hg : (W.alloc o).grownBy W' (some W.heap.size)) : Below W.heap.size W W' :=
  ((Below.refl _ W).alloc (Nat.le_refl _) o).grown hg (by simp only [World.size_alloc]; omega) (fun k hk => by cases hk; exact Nat.le_refl _)
theorem pkRight_more {e c n a : Int} {t : ByteArray} (h : pkRight e c n a t = true) : 0 ≤ n ∧ n ≤ 1000000 ∧ 0 ≤ a ∧ a ≤ 1000000 ∧ t.size ≤ 60 := by
  unfold pkRight at h
  simp only [Bool.and_eq_true, decide_eq_true_eq] at h
  obtain ⟨_, _, h3, h4, h5, _⟩ := h
  have := isTime_b h3
  have := isTime_b h4
  exact ⟨by omega, by omega, by omega, by omega, h5⟩
end Go.Proofs.Ytfmhccmaeonbhaa
