/- Slices of Route: turned, found equal, marked, held. -/
import Derived.Test.YtdnpaopbicdolaaGreatRw
import Derived.Test.YtdnpaopbicdolaaGreatRvO
import Derived.Test.YtdnpaopbicdolaaGreatB4
import Derived.Deep.RegionHeld3
namespace Go.Proofs.YtdnpaopbicdolaaGreat
open Go.RowKit Go.WideShapes Go.ChangeShapes

theorem Rt.cl_len (x : Rt) : x.cl.length = 7 := rfl
theorem Rt.cl_one1 (x : Rt) : ∀ u ∈ x.cl, u.oneCell' = true := by
  intro u hu
  simp only [Rt.cl, List.mem_cons, List.not_mem_nil, or_false] at hu
  rcases hu with rfl | rfl | rfl | rfl | rfl | rfl | rfl <;> rfl
theorem Rt.info : (Tryz.prog.info? 25).map (fun i => (i.zero, i.size, i.bytes)) = some (some (.agg #[.int .i64 0, .int .i64 0, .int .i64 0, .int .i64 0, .int .i64 0, .int .i64 0, .bool false]), 7, 56) := by kernel_rfl
def Rt.mk1 (x : Int) : Rt := ⟨x, x + 1, x + 1 + 1, x + 1 + 1 + 1, x + 1 + 1 + 1 + 1, x + 1 + 1 + 1 + 1 + 1, ((x + 1 + 1 + 1 + 1 + 1 + 1) % 3 == 0)⟩
def Rt.marks (k n : Nat) : List Rt := (List.range n).map fun i : Nat => Rt.mk1 ((k : Int) + 7 * (i : Int))
theorem Rt.marks_len (k n : Nat) : (Rt.marks k n).length = n := by simp [Rt.marks]
theorem Rt.marks_at (k n i : Nat) (h : i < (Rt.marks k n).length) : (Rt.marks k n)[i] = Rt.mk1 ((k : Int) + 7 * (i : Int)) := by simp [Rt.marks]
end Go.Proofs.YtdnpaopbicdolaaGreat
