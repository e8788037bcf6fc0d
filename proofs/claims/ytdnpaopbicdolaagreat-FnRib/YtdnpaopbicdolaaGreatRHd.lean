/- Slices of Held: turned, found equal, marked, held. -/
import Derived.Test.YtdnpaopbicdolaaGreatRw
import Derived.Test.YtdnpaopbicdolaaGreatRbR
import Derived.Test.YtdnpaopbicdolaaGreatRvO
import Derived.Deep.RegionHeld3
namespace Go.Proofs.YtdnpaopbicdolaaGreat
open Go.RowKit Go.WideShapes Go.ChangeShapes

theorem Hd.cl_len (x : Hd) : x.cl.length = 9 := rfl
theorem Hd.cl_one1 (x : Hd) : ∀ u ∈ x.cl, u.oneCell' = true := by
  intro u hu
  simp only [Hd.cl, List.mem_cons, List.not_mem_nil, or_false] at hu
  rcases hu with rfl | rfl | rfl | rfl | rfl | rfl | rfl | rfl | rfl <;> rfl
theorem Hd.info : (Tryz.prog.info? 47).map (fun i => (i.zero, i.size, i.bytes)) = some (some (.agg #[.int .i64 0, .bool false, .int .i64 0, .int .i64 0, .int .i64 0, .int .i64 0, .int .i64 0, .int .i64 0, .bool false]), 9, 72) := by kernel_rfl
def Hd.mk1 (x : Int) : Hd := ⟨x, ((x + 1) % 3 == 0), ⟨x + 1 + 1, x + 1 + 1 + 1, x + 1 + 1 + 1 + 1, x + 1 + 1 + 1 + 1 + 1, x + 1 + 1 + 1 + 1 + 1 + 1, x + 1 + 1 + 1 + 1 + 1 + 1 + 1, ((x + 1 + 1 + 1 + 1 + 1 + 1 + 1 + 1) % 3 == 0)⟩⟩
def Hd.marks (k n : Nat) : List Hd := (List.range n).map fun i : Nat => Hd.mk1 ((k : Int) + 9 * (i : Int))
theorem Hd.marks_len (k n : Nat) : (Hd.marks k n).length = n := by simp [Hd.marks]
theorem Hd.marks_at (k n i : Nat) (h : i < (Hd.marks k n).length) : (Hd.marks k n)[i] = Hd.mk1 ((k : Int) + 9 * (i : Int)) := by simp [Hd.marks]
end Go.Proofs.YtdnpaopbicdolaaGreat
