/- Houses: when one is right; the ways through the model's tests. -/
import Derived.Test.YtglealihdkecpaaGreatHsP
import Derived.Test.YtglealihdkecpaaGreatLk
import Derived.Test.YtglealihdkecpaaGreatRbR
import Derived.Test.YtglealihdkecpaaGreatMsM
import Derived.Test.YtglealihdkecpaaGreatFzN
namespace Go.Proofs.YtglealihdkecpaaGreat
open Go.RowKit

structure Ho where
  id : Int
  now : Int
  ep : Int
  doors : List Int
  pipes : List Pi
  rib : List Hd
  gus : List Gu
  went : List Mv
  froz : List Fz
def doorsOk (l : List Int) : Bool := decide (l.length = 4) && l.all (fun d => decide (d = 0) || isVni d)
def pipesOk (ep : Int) (l : List Pi) : Bool := decide (1 ≤ l.length) && (decide (l.length ≤ 2) && l.all (fun p => p.right && decide (p.e ≤ ep)))
def roomAt (l : List Int) (d : Int) : Int := if 1 ≤ d ∧ d ≤ l.length then l[(d - 1).toNat]?.getD 0 else 0
def ribFits (k : Nat) (l : List Hd) : Bool := ribOk l && l.all (fun x => decide (x.p ≤ k))
def gusFits (doors : List Int) (now : Int) (l : List Gu) : Bool := gusOk l && l.all (fun g => decide (g.seen ≤ now) && decide (g.vni = roomAt doors g.door))
def mvsFits (now : Int) (l : List Mv) : Bool := mvsOk l && l.all (fun x => decide (x.tm ≤ now))
def fzFits (id : Int) (doors : List Int) (f : Fz) : Bool := if f.house = id then decide (f.vni = roomAt doors f.door) else decide (f.door = 0)
def frozOk (l : List Fz) : Bool := listOk Fz.right lessF 8 l
def frozFits (id : Int) (doors : List Int) (l : List Fz) : Bool := frozOk l && l.all (fzFits id doors)
def hoRight (h : Ho) : Bool :=
  isHouse h.id && (isTime h.now && (isEpoch h.ep && (doorsOk h.doors && (pipesOk h.ep h.pipes && (ribFits h.pipes.length h.rib && (gusFits h.doors h.now h.gus && (mvsFits h.now h.went && frozFits h.id h.doors h.froz)))))))
/- a move that is the last one is the latest one -/
theorem mvs_le {l : List Mv} (h : mvsOk l = true) {i j : Nat} (hij : i ≤ j) (hj : j < l.length) : (l[i]).tm ≤ (l[j]).tm := by
  induction j with
  | zero => have : i = 0 := by omega
            subst this; exact Int.le_refl _
  | succ j ih =>
    by_cases e : i = j + 1
    · subst e; exact Int.le_refl _
    · have h1 := ih (by omega) (by omega)
      have h2 := mvsOk_at h (j + 1) hj
      rw [okAtM_succ hj, Bool.and_eq_true] at h2
      exact Int.le_trans h1 (of_decide_eq_true h2.2)
theorem mvsFits_last {now : Int} {l : List Mv} (h : mvsOk l = true) (hl : 0 < l.length) : mvsFits now l = decide ((l[l.length - 1]).tm ≤ now) := by
  unfold mvsFits
  rw [h, Bool.true_and]
  by_cases hc : (l[l.length - 1]).tm ≤ now
  · rw [decide_eq_true hc, List.all_eq_true]
    intro x hx
    obtain ⟨i, hi, rfl⟩ := List.getElem_of_mem hx
    exact decide_eq_true (Int.le_trans (mvs_le h (by omega) (by omega)) hc)
  · rw [decide_eq_false hc, List.all_eq_false]
    exact ⟨l[l.length - 1], List.getElem_mem _, by simpa using hc⟩
theorem mvsFits_nil {now : Int} {l : List Mv} (h : mvsOk l = true) (hl : l.length = 0) : mvsFits now l = true := by
  have : l = [] := List.eq_nil_of_length_eq_zero hl
  subst this
  unfold mvsFits
  rw [h]
  rfl
theorem roomAt_door {doors : List Int} (hd : doors.length = 4) {d : Int} (h1 : 1 ≤ d) (h2 : d ≤ 4) (hi : (d - 1).toNat < doors.length) : roomAt doors d = doors[(d - 1).toNat] := by
  unfold roomAt
  rw [if_pos ⟨h1, by omega⟩, List.getElem?_eq_getElem hi]
  rfl
theorem roomAt_none {doors : List Int} {d : Int} (h : ¬ 1 ≤ d) : roomAt doors d = 0 := by
  unfold roomAt
  rw [if_neg (fun e => h e.1)]
end Go.Proofs.YtglealihdkecpaaGreat
