/- RoutesOf, of the model and of the program. -/
import Derived.Test.YthilmonokhdjmaaRbI
import Derived.Test.YthilmonokhdjmaaApR
import Derived.Test.YthilmonokhdjmaaRRt
namespace Go.Proofs.Ythilmonokhdjmaa
open Go.RowKit

def routesL (l : List Hd) : List Rt := l.map Hd.r
def routesOf (l : List Hd) : List Rt := if ribOk l = true then routesL l else []
theorem routesL_succ (l : List Hd) (i : Nat) (hi : i < l.length) : routesL (l.take (i + 1)) = routesL (l.take i) ++ [(l[i]).r] := by
  rw [routesL, List.take_succ_eq_append_getElem hi, List.map_append]; rfl
theorem routesL_len (l : List Hd) (i : Nat) (hi : i ≤ l.length) : (routesL (l.take i)).length = i := by simp [routesL, hi]
theorem ribOk_len {l : List Hd} (h : ribOk l = true) : l.length ≤ 60 := by
  unfold ribOk at h
  rw [Bool.and_eq_true] at h
  exact of_decide_eq_true h.1
theorem routesOf_len (l : List Hd) : (routesOf l).length ≤ 60 := by
  unfold routesOf
  split
  · rename_i h; rw [routesL, List.length_map]; exact ribOk_len h
  · simp
end Go.Proofs.Ythilmonokhdjmaa
