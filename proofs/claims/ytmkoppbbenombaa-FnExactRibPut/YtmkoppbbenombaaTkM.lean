/- RibTake: its mathematics; the program's check of a table, a peer and a route. -/
import Derived.Test.YtmkoppbbenombaaSwW
namespace Go.Proofs.Ytmkoppbbenombaa
open Go.RowKit

def faultR (l : List Hd) (p : Int) (r : Rt) : Int := if faultOf l p = 0 then (if r.right = true then 0 else 1) else faultOf l p
def leaveL (x : Hd) (l : List Hd) : List Hd := l.filter fun h => decide (¬ same x h)
def hitL (x : Hd) (l : List Hd) : List Hd := l.filter fun h => decide (same x h)
def takeR (l : List Hd) (p : Int) (r : Rt) : Ro :=
  if faultR l p r = 0 then (if hitL ⟨p, false, r⟩ l = [] then roIll 6 else ⟨leaveL ⟨p, false, r⟩ l, (hitL ⟨p, false, r⟩ l).map Hd.r, 0⟩) else roIll (faultR l p r)
theorem faultR_zero {l : List Hd} {p : Int} {r : Rt} (h : faultR l p r = 0) : faultOf l p = 0 ∧ r.right = true := by
  unfold faultR at h
  by_cases h0 : faultOf l p = 0
  · rw [if_pos h0] at h
    by_cases h1 : r.right = true
    · exact ⟨h0, h1⟩
    · rw [if_neg h1] at h; omega
  · rw [if_neg h0] at h; exact absurd h h0
theorem takeR_ill {l : List Hd} {p c : Int} {r : Rt} (h : faultR l p r = c) (hc : c ≠ 0) : takeR l p r = roIll c := by rw [takeR, h, if_neg hc]
theorem takeR_none {l : List Hd} {p : Int} {r : Rt} (h : faultR l p r = 0) (hx : hitL ⟨p, false, r⟩ l = []) : takeR l p r = roIll 6 := by rw [takeR, if_pos h, if_pos hx]
theorem takeR_some {l : List Hd} {p : Int} {r : Rt} {y : Hd} (h : faultR l p r = 0) (hx : hitL ⟨p, false, r⟩ l = [y]) : takeR l p r = ⟨leaveL ⟨p, false, r⟩ l, [y.r], 0⟩ := by
  rw [takeR, if_pos h, hx, if_neg (by simp)]; rfl
theorem leave_pw {x : Hd} {l : List Hd} (hl : l.Pairwise LtH) : (leaveL x l).Pairwise LtH := hl.sublist List.filter_sublist
theorem hit_none {x : Hd} {l : List Hd} (h : seekS x l.zipIdx 0 = none) : hitL x l = [] := by
  unfold hitL
  rw [List.filter_eq_nil_iff]
  intro y hy
  obtain ⟨k, hk, e⟩ := List.getElem_of_mem hy
  have := seekS_none h (y, k) (List.mk_mem_zipIdx_iff_getElem?.2 (by rw [List.getElem?_eq_getElem hk, e]))
  simpa using this
theorem hit_one {x y : Hd} {l : List Hd} (hl : l.Pairwise LtH) (hy : y ∈ l) (hs : same x y) : hitL x l = [y] := by
  have hm : ∀ z, z ∈ hitL x l ↔ z ∈ l ∧ same x z := fun z => by unfold hitL; rw [List.mem_filter]; simp
  have hp : (hitL x l).Pairwise LtH := hl.sublist List.filter_sublist
  have hym := (hm y).2 ⟨hy, hs⟩
  match he : hitL x l with
  | [] => rw [he] at hym; cases hym
  | [a] => rw [he] at hym; rw [List.mem_singleton.1 hym]
  | a :: b :: t =>
    rw [he] at hp hm
    have ha := (hm a).1 (by simp)
    have hb := (hm b).1 (by simp)
    exact absurd (same_trans (same_symm ha.2) hb.2) (lt_not_same ((List.pairwise_cons.1 hp).1 b (by simp)))
theorem take_found {x : Hd} {l : List Hd} {j : Nat} {v : Value} (hl : l.Pairwise LtH) (hd : l.zipIdx.Pairwise fun a b => ¬ same a.1 b.1) (h : seekS x l.zipIdx 0 = some (j, v)) :
    ∃ y, v = y.val ∧ hitL x l = [y] ∧ ∀ z, z ∈ leaveL x l ↔ ∃ b, (z, b) ∈ l.zipIdx.eraseIdx j := by
  obtain ⟨m, q, e1, hm, hsm, hv⟩ := seekS_some h
  rw [Nat.zero_add] at e1
  subst e1
  have hq : q.1 ∈ l := zip_mem (List.mem_of_getElem? hm)
  refine ⟨q.1, hv, hit_one hl hq hsm, fun z => ?_⟩
  obtain ⟨hml, hme⟩ := List.getElem?_eq_some_iff.1 hm
  have hdp := List.pairwise_iff_getElem.1 hd
  have hz : z ∈ leaveL x l ↔ z ∈ l ∧ ¬ same x z := by unfold leaveL; rw [List.mem_filter]; simp
  rw [hz]
  constructor
  · rintro ⟨h1, h2⟩
    obtain ⟨k, hk, e⟩ := List.getElem_of_mem h1
    refine ⟨k, List.mem_eraseIdx_iff_getElem?.2 ⟨k, fun ek => ?_, ?_⟩⟩
    · subst ek
      apply h2
      rw [List.getElem?_zipIdx, List.getElem?_eq_getElem hk, e] at hm
      injection hm with hm
      rw [← hm] at hsm
      exact hsm
    · rw [List.getElem?_zipIdx, List.getElem?_eq_getElem hk, e]; simp
  · rintro ⟨b, hb⟩
    obtain ⟨k, hk, e⟩ := List.mem_eraseIdx_iff_getElem?.1 hb
    refine ⟨zip_mem (List.mem_of_getElem? e), fun hs => ?_⟩
    obtain ⟨hkl, hke⟩ := List.getElem?_eq_some_iff.1 e
    have hqz : same q.1 z := same_trans (same_symm hsm) hs
    rcases Nat.lt_or_gt_of_ne hk with hlt | hlt
    · have := hdp k j hkl hml hlt
      rw [hke, hme] at this
      exact this (same_symm hqz)
    · have := hdp j k hml hkl hlt
      rw [hke, hme] at this
      exact this hqz
theorem takeR_len (l : List Hd) (p : Int) (r : Rt) : (takeR l p r).rib.length + (takeR l p r).gone.length ≤ 200 := by
  unfold takeR
  split
  · rename_i h
    have h4 := (fault_zero (faultR_zero h).1).2
    split
    · simp [roIll]
    · have h1 := List.length_filter_le (fun h => decide (¬ same ⟨p, false, r⟩ h)) l
      have h2 := List.length_filter_le (fun h => decide (same ⟨p, false, r⟩ h)) l
      unfold leaveL hitL; simp only [List.length_map]; omega
  · simp [roIll]
set_option maxRecDepth 100000 in
set_option maxHeartbeats 4000000 in
theorem implRouteFault_any (l : List Hd) (v : Value) (p : Int) (r : Rt) (w : World) (h : HdsAt w v l) (hn : l.length ≤ 1048576) :
    Calls Try.prog 72 #[v, .int .i64 p, r.val] w fun e w' => e = .returned (.int .i64 (faultR l p r)) ∧ Below w.heap.size w w' := by
  have HF := Lib.hid (fun (W' : World) (hb : Below w.heap.size w W') => implFault_any l v p W' (SlAt.kept h hb) hn)
  have HRt := Lib.hid (fun (W' : World) => implRight_any r W')
  have X0 := Blk.new w 35 #[.int .i64 r.kind, .int .i64 r.vni, .int .i64 r.mac, .int .i64 r.ip, .int .i64 r.org, .int .i64 r.seq, .bool r.st]
  have HB0 : Below w.heap.size w (w.alloc (.cells #[.int .i64 r.kind, .int .i64 r.vni, .int .i64 r.mac, .int .i64 r.ip, .int .i64 r.org, .int .i64 r.seq, .bool r.st] 35)) := (Below.refl _ _).alloc (Nat.le_refl _) _
  have HV : Hid (faultR l p r = if faultOf l p = 0 then (if r.right = true then 0 else 1) else faultOf l p) := Lib.hid rfl
  unfold Rt.val rtV at *
  generalize faultR l p r = z at *
  generalize faultOf l p = c at *
  generalize r.right = R at *
  by_cases hc : c = 0
  · subst hc
    rw [if_pos rfl] at HV
    go_enter Try.func72, Try.ntmps72
    go_upto_region 1 with fail
    generalize (w.alloc (.cells #[.int .i64 r.kind, .int .i64 r.vni, .int .i64 r.mac, .int .i64 r.ip, .int .i64 r.org, .int .i64 r.seq, .bool r.st] 35)) = w0 at *
    go_wp2_with fail
    refine (HF.out _ HB0).mono ?_
    rintro x w1 ⟨rfl, hb1⟩
    have X1 := X0.kept hb1
    have HB1 := HB0.trans (hb1.mono HB0.size)
    have hc1 := X1.cell
    clear hb1
    cases R
    all_goals
      go_wp2_with (go_at_call 112; refine (HRt.out _).mono ?_; rintro x w3 ⟨rfl, hb3⟩; have HB3 := HB1.trans (hb3.mono HB1.size); clear hb3)
      go_ret
      exact ⟨by rw [HV.out]; rfl, HB3⟩
  · rw [if_neg hc] at HV
    go_enter Try.func72, Try.ntmps72
    go_upto_region 1 with fail
    generalize (w.alloc (.cells #[.int .i64 r.kind, .int .i64 r.vni, .int .i64 r.mac, .int .i64 r.ip, .int .i64 r.org, .int .i64 r.seq, .bool r.st] 35)) = w0 at *
    go_wp2_with fail
    refine (HF.out _ HB0).mono ?_
    rintro x w1 ⟨rfl, hb1⟩
    have HB1 := HB0.trans (hb1.mono HB0.size)
    clear hb1
    go_wp2_with fail
    go_ret
    exact ⟨by rw [HV.out]; rfl, HB1⟩
end Go.Proofs.Ytmkoppbbenombaa
