/- Pipes: the value, when one is right; the model's and the program's PipeRight. -/
import Derived.Test.YtglealihdkecpaaGreatPk
import Derived.Test.YtglealihdkecpaaGreatStsM
import Derived.Deep.CutRange
namespace Go.Proofs.YtglealihdkecpaaGreat
open Go.RowKit

def ppV (e p b i : Int) (v : Value) : Value := .agg #[.int .i64 e, .int .i64 p, .int .i64 b, .int .i64 i, v]
def shortL (l : List ByteArray) : Bool := decide (l.length ≤ 60 ∧ ∀ s ∈ l, s.size ≤ 60)
def ppHead (e p b i : Int) : Bool := isEpoch e && (isTime p && (isTime b && isTime i))
def ppRight (e p b i : Int) (l : List ByteArray) : Bool := ppHead e p b i && (shortL l && (decide (b + l.length ≤ 1000000) && (decide (p ≠ 0) || (decide (i = 0) && decide (b + l.length = 0)))))
inductive PpWay (e p b i : Int) : Prop
  | w1 (h1 : isEpoch e = false) (hr : Hid (ppHead e p b i = false))
  | w2 (h1 : isEpoch e = true) (h2 : isTime p = false) (hr : Hid (ppHead e p b i = false))
  | w3 (h1 : isEpoch e = true) (h2 : isTime p = true) (h3 : isTime b = false) (hr : Hid (ppHead e p b i = false))
  | w4 (h1 : isEpoch e = true) (h2 : isTime p = true) (h3 : isTime b = true) (h4 : isTime i = false) (hr : Hid (ppHead e p b i = false))
  | ok (h1 : isEpoch e = true) (h2 : isTime p = true) (h3 : isTime b = true) (h4 : isTime i = true) (hr : Hid (ppHead e p b i = true))
theorem pp_way (e p b i : Int) : PpWay e p b i := by
  cases h1 : isEpoch e
  · exact .w1 h1 (Lib.hid (by simp [ppHead, h1]))
  cases h2 : isTime p
  · exact .w2 h1 h2 (Lib.hid (by simp [ppHead, h2]))
  cases h3 : isTime b
  · exact .w3 h1 h2 h3 (Lib.hid (by simp [ppHead, h3]))
  cases h4 : isTime i
  · exact .w4 h1 h2 h3 h4 (Lib.hid (by simp [ppHead, h4]))
  · exact .ok h1 h2 h3 h4 (Lib.hid (by simp [ppHead, h1, h2, h3, h4]))
theorem isTime_b {n : Int} (h : isTime n = true) : 0 ≤ n ∧ n ≤ 1000000 := by
  unfold isTime inR at h
  simpa using h
theorem ppHead_no {e p b i : Int} (l : List ByteArray) (h : ppHead e p b i = false) : ppRight e p b i l = false := by simp [ppRight, h]
theorem ppShort_no {e p b i : Int} {l : List ByteArray} (h : shortL l = false) : ppRight e p b i l = false := by simp [ppRight, h]
theorem ppSum_no {e p b i : Int} {l : List ByteArray} (h : ¬ b + l.length ≤ 1000000) : ppRight e p b i l = false := by simp [ppRight, h]
theorem pp_last {e p b i : Int} {l : List ByteArray} (h : ppHead e p b i = true) (h1 : shortL l = true) (h2 : b + l.length ≤ 1000000) : ppRight e p b i l = (decide (p ≠ 0) || (decide (i = 0) && decide (b + l.length = 0))) := by simp [ppRight, h, h1, h2]
set_option maxHeartbeats 1000000 in
theorem specPipeRight_any (e p b i : Int) (v : Value) (l : List ByteArray) (w : World) (h : StsAt w v l) :
    Calls Tryz.prog 50 #[ppV e p b i v] w fun x w' => x = .returned (.bool (ppRight e p b i l)) ∧ Below w.heap.size w w' := by
  have hn := h.len_le
  obtain ⟨a, cap, rfl, _, _, _, h⟩ := h
  have HH := Lib.hid h
  clear h
  obtain ⟨n, hnn⟩ : ∃ n, n = l.length := ⟨_, rfl⟩
  rw [← hnn] at hn ⊢
  have HN := Lib.hid hnn
  clear hnn
  unfold ppV
  rcases pp_way e p b i with ⟨h1, hr⟩ | ⟨h1, h2, hr⟩ | ⟨h1, h2, h3, hr⟩ | ⟨h1, h2, h3, h4, hr⟩ | ⟨h1, h2, h3, h4, hr⟩
  case ok =>
    have hb := isTime_b h3
    have hp := isTime_b h2
    by_cases h5 : n ≤ 60
    · have hw : IntKind.i64.wrap (b + (n : Int)) = b + (n : Int) := by simp only [IntKind.wrap_i64]; omega
      by_cases h6 : b + (n : Int) ≤ 1000000
      · have h7 : isTime (b + (n : Int)) = true := by unfold isTime inR; simp; omega
        go_enter Tryz.func50, Tryz.ntmps50
        go_wp2_with (first | (go_at_call 43; refine (specTimeP_any _ _).mono ?_; rintro e w' ⟨rfl, rfl⟩) | (go_at_call 44; refine (specEpoch_any _ _).mono ?_; rintro e w' ⟨rfl, rfl⟩))
        clear h1 h2 h3 h4 h7 hw
        go_loop [3] (fun u => ∃ k : Nat, k ≤ n ∧ u = .int .i64 (k : Int) ∧ Hid (∀ s ∈ l.take k, s.size ≤ 60)) (fun u => n - (intOf u).toNat)
        case atStart => exact ⟨0, Nat.zero_le _, rfl, Lib.hid (fun s hs => by simp at hs)⟩
        case round =>
          obtain ⟨k, hk, rfl, HT⟩ := hrel
          by_cases hlt : k < n
          · have hir : k < l.length := by rw [← HN.out]; exact hlt
            have hne : l ≠ [] := fun e => by rw [e] at hir; simp at hir
            obtain ⟨bk, off, ha, hbl, HE⟩ := HH.out hne
            subst ha
            have hl1 : (k : Int) < n := by omega
            have p0 := HE k hir
            have hne' : ¬ bk = w.heap.size := by omega
            have HM : Hid (l[k].size ≤ 60 → ∀ s ∈ l.take (k + 1), s.size ≤ 60) := Lib.hid (fun h s hs => by
              rcases mem_take hir hs with h2 | rfl
              · exact HT.out s h2
              · exact h)
            have HX : Hid (¬ l[k].size ≤ 60 → shortL l = false) := Lib.hid (fun h => by
              unfold shortL
              rw [decide_eq_false]
              exact fun hh => h (hh.2 _ (List.getElem_mem hir)))
            clear HE
            generalize l[k] = s at p0 HM HX
            by_cases hsm : s.size ≤ 60
            · have hg : ¬ (60 : Int) < (s.size : Int) := by omega
              go_wp2_with fail
              go_round
              case rel => exact ⟨k + 1, by omega, by simp, Lib.hid (HM.out hsm)⟩
              case measure => simp [intOf]; omega
            · have hg : (60 : Int) < (s.size : Int) := by omega
              go_wp2_with fail
              go_ret
              refine ⟨bool_ret (ppShort_no (HX.out hsm)).symm, ?_⟩
              go_grown
          · have hin : k = n := by omega
            subst hin
            have hall : shortL l = true := by
              unfold shortL
              rw [decide_eq_true]
              refine ⟨by rw [← HN.out]; exact h5, fun s hs => HT.out s ?_⟩
              rw [List.take_of_length_le (by rw [HN.out]; exact Nat.le_refl _)]
              exact hs
            have HL := Lib.hid (pp_last hr.out hall (by rw [← HN.out]; exact h6))
            rw [← HN.out] at HL
            clear hall HT hr
            by_cases q1 : p = 0
            · subst q1
              by_cases q2 : b = 0
              · subst q2
                by_cases q3 : i = 0
                · subst q3
                  by_cases q4 : k = 0
                  · subst q4
                    go_wp2_with fail
                    go_ret
                    refine ⟨bool_ret (by rw [HL.out]; simp), ?_⟩
                    go_grown
                  · have q5 : ¬ ((k : Int) = 0) := by omega
                    have HL3 : Hid (ppRight e 0 0 0 l = false) := Lib.hid (by rw [HL.out]; simp; omega)
                    go_wp2_with fail
                    go_ret
                    refine ⟨bool_ret (by rw [HL3.out, Bool.eq_iff_iff]; simp [q4]), ?_⟩
                    go_grown
                · go_wp2_with fail
                  go_ret
                  refine ⟨bool_ret (by rw [HL.out]; simp [q3]), ?_⟩
                  go_grown
              · have HL3 : Hid (ppRight e 0 b i l = false) := Lib.hid (by rw [HL.out]; simp; omega)
                go_wp2_with fail
                go_ret
                refine ⟨bool_ret HL3.out.symm, ?_⟩
                go_grown
            · have q5 : 0 < p := by omega
              go_wp2_with fail
              go_ret
              refine ⟨bool_ret (by rw [HL.out]; simp [q1]), ?_⟩
              go_grown
      · have h7 : isTime (b + (n : Int)) = false := by unfold isTime inR; simp; omega
        have HR := Lib.hid (ppSum_no (e := e) (p := p) (i := i) (b := b) (l := l) (by rw [← HN.out]; exact h6))
        go_enter Tryz.func50, Tryz.ntmps50
        go_wp2_with (first | (go_at_call 43; refine (specTimeP_any _ _).mono ?_; rintro e w' ⟨rfl, rfl⟩) | (go_at_call 44; refine (specEpoch_any _ _).mono ?_; rintro e w' ⟨rfl, rfl⟩))
        go_ret
        refine ⟨bool_ret HR.out.symm, ?_⟩
        go_grown
    · have HR : Hid (ppRight e p b i l = false) := Lib.hid (ppShort_no (by unfold shortL; rw [decide_eq_false]; exact fun hh => h5 (by rw [HN.out]; exact hh.1)))
      have hg : (60 : Int) < (n : Int) := by omega
      go_enter Tryz.func50, Tryz.ntmps50
      go_wp2_with (first | (go_at_call 43; refine (specTimeP_any _ _).mono ?_; rintro e w' ⟨rfl, rfl⟩) | (go_at_call 44; refine (specEpoch_any _ _).mono ?_; rintro e w' ⟨rfl, rfl⟩))
      go_ret
      refine ⟨bool_ret HR.out.symm, ?_⟩
      go_grown
  all_goals
    have HR := Lib.hid (ppHead_no l hr.out)
    go_enter Tryz.func50, Tryz.ntmps50
    go_wp2_with (first | (go_at_call 43; refine (specTimeP_any _ _).mono ?_; rintro e w' ⟨rfl, rfl⟩) | (go_at_call 44; refine (specEpoch_any _ _).mono ?_; rintro e w' ⟨rfl, rfl⟩))
    go_ret
    refine ⟨bool_ret HR.out.symm, ?_⟩
    go_grown

/- the program's -/
set_option maxHeartbeats 1000000 in
theorem areMessages_any (v : Value) (l : List ByteArray) (w : World) (h : StsAt w v l) :
    Calls Tryz.prog 164 #[v] w fun x w' => x = .returned (.bool (shortL l)) ∧ w = w' := by
  have hn := h.len_le
  obtain ⟨a, cap, rfl, _, _, _, h⟩ := h
  have HH := Lib.hid h
  clear h
  obtain ⟨n, hnn⟩ : ∃ n, n = l.length := ⟨_, rfl⟩
  rw [← hnn] at hn ⊢
  have HN := Lib.hid hnn
  clear hnn
  by_cases h5 : n ≤ 60
  · have hg : ¬ (60 : Int) < (n : Int) := by omega
    go_enter Tryz.func164, Tryz.ntmps164
    go_wp2_with fail
    go_loop [10, 4] (fun u _ => ∃ k : Nat, k ≤ n ∧ u = .int .i64 (k : Int) ∧ Hid (∀ s ∈ l.take k, s.size ≤ 60)) (fun u _ => n - (intOf u).toNat)
    case atStart => exact ⟨0, Nat.zero_le _, rfl, Lib.hid (fun s hs => by simp at hs)⟩
    case round =>
      obtain ⟨k, hk, rfl, HT⟩ := hrel
      by_cases hlt : k < n
      · have hir : k < l.length := by rw [← HN.out]; exact hlt
        have hne : l ≠ [] := fun e => by rw [e] at hir; simp at hir
        obtain ⟨bk, off, ha, hbl, HE⟩ := HH.out hne
        subst ha
        have hl1 : (k : Int) < n := by omega
        have p0 := HE k hir
        have HM : Hid (l[k].size ≤ 60 → ∀ s ∈ l.take (k + 1), s.size ≤ 60) := Lib.hid (fun h s hs => by
          rcases mem_take hir hs with h2 | rfl
          · exact HT.out s h2
          · exact h)
        have HX : Hid (¬ l[k].size ≤ 60 → shortL l = false) := Lib.hid (fun h => by
          unfold shortL
          rw [decide_eq_false]
          exact fun hh => h (hh.2 _ (List.getElem_mem hir)))
        clear HE
        generalize l[k] = s at p0 HM HX
        by_cases hsm : s.size ≤ 60
        · go_wp2_with (go_at_call 192; refine (implMessage_yes _ _ hsm).mono ?_; rintro e w' ⟨rfl, rfl⟩)
          go_round
          case rel => exact ⟨k + 1, by omega, by simp, Lib.hid (HM.out hsm)⟩
          case measure => simp [intOf]; omega
        · go_wp2_with (go_at_call 192; refine (implMessage_no _ _ hsm).mono ?_; rintro e w' ⟨rfl, rfl⟩)
          go_ret
          exact ⟨bool_ret (HX.out hsm).symm, rfl⟩
      · have hin : k = n := by omega
        subst hin
        have hall : shortL l = true := by
          unfold shortL
          rw [decide_eq_true]
          refine ⟨by rw [← HN.out]; exact h5, fun s hs => HT.out s ?_⟩
          rw [List.take_of_length_le (by rw [HN.out]; exact Nat.le_refl _)]
          exact hs
        have HL := Lib.hid hall
        clear hall HT
        go_wp2_with fail
        go_ret
        exact ⟨bool_ret HL.out.symm, rfl⟩
  · have HR : Hid (shortL l = false) := Lib.hid (by unfold shortL; rw [decide_eq_false]; exact fun hh => h5 (by rw [HN.out]; exact hh.1))
    have hg : (60 : Int) < (n : Int) := by omega
    go_enter Tryz.func164, Tryz.ntmps164
    go_wp2_with fail
    go_ret
    exact ⟨bool_ret HR.out.symm, rfl⟩
theorem shortL_len {l : List ByteArray} (h : shortL l = true) : l.length ≤ 60 := by
  unfold shortL at h
  exact (of_decide_eq_true h).1
set_option maxHeartbeats 1000000 in
theorem lastNum_any (e p b i : Int) (a : Option Addr) (n cap : Nat) (w : World) (h0 : 0 ≤ b) (h1 : b ≤ 1000000) (hn : n ≤ 60) :
    Calls Tryz.prog 165 #[ppV e p b i (.slice a n cap)] w fun x w' => x = .returned (.int .i64 (b + (n : Int))) ∧ Below w.heap.size w w' := by
  unfold ppV
  go_enter Tryz.func165, Tryz.ntmps165
  go_wp2
  go_ret
  refine ⟨rfl, ?_⟩
  go_grown
set_option maxRecDepth 100000 in
set_option maxHeartbeats 2000000 in
theorem implPipeRight_any (e p b i : Int) (v : Value) (l : List ByteArray) (w : World) (h : StsAt w v l) :
    Calls Tryz.prog 113 #[ppV e p b i v] w fun x w' => x = .returned (.bool (ppRight e p b i l)) ∧ Below w.heap.size w w' := by
  have HM := Lib.hid (fun (W' : World) (hb : Below w.heap.size w W') => areMessages_any v l W' (h.kept hb))
  obtain ⟨a, cap, rfl, _, _, _, h⟩ := h
  clear h
  obtain ⟨n, hnn⟩ : ∃ n, n = l.length := ⟨_, rfl⟩
  rw [← hnn] at HM ⊢
  have HN := Lib.hid hnn
  clear hnn
  rcases pp_way e p b i with ⟨h1, hr⟩ | ⟨h1, h2, hr⟩ | ⟨h1, h2, h3, hr⟩ | ⟨h1, h2, h3, h4, hr⟩ | ⟨h1, h2, h3, h4, hr⟩
  case ok =>
    have hb := isTime_b h3
    cases hs : shortL l
    · have HR := Lib.hid (ppShort_no (e := e) (p := p) (i := i) (b := b) hs)
      rw [hs] at HM
      clear hs
      unfold ppV
      go_enter Tryz.func113, Tryz.ntmps113
      go_wp2_with (first | (go_at_call 57; refine (implTime_any _ _).mono ?_; rintro e w' ⟨rfl, rfl⟩) | (go_at_call 58; refine (implEpoch_any _ _).mono ?_; rintro e w' ⟨rfl, rfl⟩) | (go_at_call 164; refine (HM.out _ ((Below.refl _ _).alloc (Nat.le_refl _) _)).mono ?_; rintro e w' ⟨rfl, rfl⟩))
      go_ret
      refine ⟨bool_ret HR.out.symm, ?_⟩
      go_grown
    · have hn := shortL_len hs
      rw [← HN.out] at hn
      have HL := Lib.hid (fun w => lastNum_any e p b i a n cap w hb.1 hb.2 hn)
      unfold ppV at HL
      unfold ppV
      by_cases h6 : b + (n : Int) ≤ 1000000
      · have HR := Lib.hid (pp_last hr.out hs (by rw [← HN.out]; exact h6))
        rw [← HN.out] at HR
        rw [hs] at HM
        have h7 : ¬ (1000000 : Int) < b + (n : Int) := by omega
        clear hs hr
        go_enter Tryz.func113, Tryz.ntmps113
        go_wp2_with (first | (go_at_call 57; refine (implTime_any _ _).mono ?_; rintro e w' ⟨rfl, rfl⟩) | (go_at_call 58; refine (implEpoch_any _ _).mono ?_; rintro e w' ⟨rfl, rfl⟩) | (go_at_call 164; refine (HM.out _ ((Below.refl _ _).alloc (Nat.le_refl _) _)).mono ?_; rintro e w' ⟨rfl, rfl⟩))
        refine (HL.out _).mono ?_
        rintro e w1 ⟨rfl, hb1⟩
        have hc : ∀ o, w1.cell? ⟨w.heap.size, o, none⟩ = _ := fun o => hb1.cell (p := ⟨w.heap.size, o, none⟩) (by simp)
        have HB1 : Hid (Below w.heap.size w w1) := Lib.hid (((Below.refl _ _).alloc (Nat.le_refl _) _).trans (hb1.mono (by simp)))
        clear hb1
        by_cases q1 : p = 0
        · subst q1
          by_cases q3 : i = 0
          · subst q3
            go_wp2_with fail
            refine (HL.out _).mono ?_
            rintro e w2 ⟨rfl, hb2⟩
            have HB2 : Hid (Below w.heap.size w w2) := Lib.hid (HB1.out.trans (hb2.mono HB1.out.size))
            clear hb2
            go_wp2_with fail
            go_ret
            exact ⟨bool_ret (by rw [HR.out, Bool.eq_iff_iff]; simp), HB2.out⟩
          · go_wp2_with fail
            go_ret
            exact ⟨bool_ret (by rw [HR.out]; simp [q3]), HB1.out⟩
        · go_wp2_with fail
          go_ret
          exact ⟨bool_ret (by rw [HR.out]; simp [q1]), HB1.out⟩
      · have HR := Lib.hid (ppSum_no (e := e) (p := p) (i := i) (b := b) (l := l) (by rw [← HN.out]; exact h6))
        have h7 : (1000000 : Int) < b + (n : Int) := by omega
        rw [hs] at HM
        clear hs hr
        go_enter Tryz.func113, Tryz.ntmps113
        go_wp2_with (first | (go_at_call 57; refine (implTime_any _ _).mono ?_; rintro e w' ⟨rfl, rfl⟩) | (go_at_call 58; refine (implEpoch_any _ _).mono ?_; rintro e w' ⟨rfl, rfl⟩) | (go_at_call 164; refine (HM.out _ ((Below.refl _ _).alloc (Nat.le_refl _) _)).mono ?_; rintro e w' ⟨rfl, rfl⟩))
        refine (HL.out _).mono ?_
        rintro e w1 ⟨rfl, hb1⟩
        have HB1 : Hid (Below w.heap.size w w1) := Lib.hid (((Below.refl _ _).alloc (Nat.le_refl _) _).trans (hb1.mono (by simp)))
        clear hb1
        go_wp2_with fail
        go_ret
        exact ⟨bool_ret HR.out.symm, HB1.out⟩
  all_goals
    have HR := Lib.hid (ppHead_no l hr.out)
    unfold ppV
    go_enter Tryz.func113, Tryz.ntmps113
    go_wp2_with (first | (go_at_call 57; refine (implTime_any _ _).mono ?_; rintro e w' ⟨rfl, rfl⟩) | (go_at_call 58; refine (implEpoch_any _ _).mono ?_; rintro e w' ⟨rfl, rfl⟩))
    go_ret
    refine ⟨bool_ret HR.out.symm, ?_⟩
    go_grown
end Go.Proofs.YtglealihdkecpaaGreat
