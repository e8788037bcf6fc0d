/- RibRight, of the program. -/
import Derived.Test.YtmkoppbbenombaaLkH
namespace Go.Proofs.Ytmkoppbbenombaa
open Go.RowKit

theorem ribOk_list (l : List Hd) : listOk hdOk lessH 60 l = ribOk l := by
  have h : okAtX hdOk lessH l = okAt l := by
    funext i
    rcases Nat.lt_or_ge i l.length with hi | hi
    · cases i with
      | zero => rw [okAtX_zero hi, okAt_zero hi]
      | succ j => rw [okAtX_succ hi, okAt_succ hi]
    · simp only [okAtX, okAt, List.getElem?_eq_none hi]
  unfold listOk ribOk
  rw [h]
set_option maxRecDepth 100000 in
set_option maxHeartbeats 1000000 in
theorem implRibRight_any (l : List Hd) (v : Value) (w : World) (h : HdsAt w v l) (hn : l.length ≤ 1048576) :
    Calls Try.prog 18 #[v] w (RrPost l w) := by
  have HL := Lib.hid (listRightH_any l v w h hn)
  have HE : Hid (listOk hdOk lessH 60 l = ribOk l) := Lib.hid (ribOk_list l)
  rw [HE.out] at HL
  unfold RrPost
  obtain ⟨a, cap, rfl, h⟩ := h
  clear HE h
  rw [List.length_map] at *
  generalize ribOk l = R at *
  go_enter Try.func18, Try.ntmps18
  go_wp2_with fail
  refine HL.out.mono ?_
  rintro e w1 ⟨rfl, hb1⟩
  have HB := Lib.hid hb1
  clear hb1
  go_wp2_with fail
  go_ret
  exact ⟨rfl, HB.out⟩
end Go.Proofs.Ytmkoppbbenombaa
