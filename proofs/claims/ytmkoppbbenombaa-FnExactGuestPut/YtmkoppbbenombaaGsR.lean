/- GuestsRight, of the program. -/
import Derived.Test.YtmkoppbbenombaaLkG
namespace Go.Proofs.Ytmkoppbbenombaa
open Go.RowKit

theorem gusOk_list (l : List Gu) : listOk Gu.right lessG 8 l = gusOk l := by
  have h : okAtX Gu.right lessG l = okAtG l := by
    funext i
    rcases Nat.lt_or_ge i l.length with hi | hi
    · cases i with
      | zero => rw [okAtX_zero hi, okAtG_zero hi]
      | succ j => rw [okAtX_succ hi, okAtG_succ hi]
    · simp only [okAtX, okAtG, List.getElem?_eq_none hi]
  unfold listOk gusOk
  rw [h]
set_option maxRecDepth 100000 in
set_option maxHeartbeats 1000000 in
theorem implGuestsRight_any (l : List Gu) (v : Value) (w : World) (h : GusAt w v l) (hn : l.length ≤ 1048576) :
    Calls Try.prog 46 #[v] w (GrPost l w) := by
  have HL := Lib.hid (listRightG_any l v w h hn)
  have HE : Hid (listOk Gu.right lessG 8 l = gusOk l) := Lib.hid (gusOk_list l)
  rw [HE.out] at HL
  unfold GrPost
  obtain ⟨a, cap, rfl, h⟩ := h
  clear HE h
  rw [List.length_map] at *
  generalize gusOk l = R at *
  go_enter Try.func46, Try.ntmps46
  go_wp2_with fail
  refine HL.out.mono ?_
  rintro e w1 ⟨rfl, hb1⟩
  have HB := Lib.hid hb1
  clear hb1
  go_wp2_with fail
  go_ret
  exact ⟨rfl, HB.out⟩
end Go.Proofs.Ytmkoppbbenombaa
