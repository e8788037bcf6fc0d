/- The walk of the law FnNums. -/
import Derived.Test.YtdnfnlmeccchbaaDoorNumM
import Derived.Test.YtdnfnlmeccchbaaDoorDrawN
import Derived.Test.YtdnfnlmeccchbaaDoorJoin
import Derived.Laws.StructEq
import Derived.Handy
namespace Go.Proofs.YtdnfnlmeccchbaaDoor
open Go.RowKit

theorem str_max (l : List UInt8) (h : l.length ≤ 30000) : (strOf l).size ≤ maxLen := by rw [strOf_size]; unfold maxLen; omega
theorem cut_last (q : List UInt8) : (strOf q).extract 0 ((strOf q).size - 1) = strOf q.dropLast := by
  rw [Lib.extract_eq, strOf_size, strOf_list, List.drop_zero, Nat.sub_zero, List.dropLast_eq_take]; rfl
theorem xyz (q : List UInt8) : (⟨#[120, 121]⟩ : ByteArray) ++ strOf q ++ ⟨#[122]⟩ = strOf ([120, 121] ++ (q ++ [122])) := by
  rw [app_strOf, app_strOf]; simp [strOf]
theorem xq (q : List UInt8) : (⟨#[120]⟩ : ByteArray) ++ strOf q = strOf ([120] ++ q) := by
  rw [app_strOf]; simp [strOf]
theorem num_there (n : Int) (h1 : -9223372036854775808 ≤ n) (h2 : n ≤ 9223372036854775807) : getNum (strOf ([120, 121] ++ (putNum n ++ [122]))) 2 = ⟨n, ((strOf (putNum n)).size : Int) + 2, 0⟩ := by
  have hl := putNum_len n h1 h2
  have h := getNum_put [120, 121] [122] n h1 h2 (by simp; omega)
  rw [show (([120, 121] : List UInt8).length : Int) = 2 from rfl] at h
  rw [h, strOf_size, Int.add_comm]
theorem text_there (l : List UInt8) (h : (putNum l.length ++ l).length + 1 ≤ 8000) : getText (strOf ([120] ++ (putNum l.length ++ l))) 1 = ⟨strOf l, ((strOf (putNum l.length ++ l)).size : Int) + 1, 0⟩ := by
  have h := getText_put [120] l (by rw [List.length_append]; simp only [List.length_cons, List.length_nil]; omega)
  rw [show (([120] : List UInt8).length : Int) = 1 from rfl] at h
  rw [h, strOf_size, Int.add_comm]

set_option maxRecDepth 100000 in
set_option maxHeartbeats 4000000 in
theorem fnNums_main (a0 a1 : Option Addr) (len0 cap0 len1 cap1 : Nat) (w : World) (h0 : BytesAt w a0 len0) (h1 : BytesAt w a1 len1) (hl0 : len0 ≤ 1048576) (hl1 : len1 ≤ 1048576) (hg : w.cell? ⟨0, 0, none⟩ = some handle) :
    Calls Tryd.prog 3 #[.slice a0 len0 cap0, .slice a1 len1 cap1] w fun e w' => e = .returned (.bool true) ∧ Below w.heap.size w w' := by
  have hlt : 0 < w.heap.size := by
    rcases Nat.eq_zero_or_pos w.heap.size with h0 | h
    · simp [World.cell?, h0] at hg
    · exact h
  have hgb : ∀ W, Below w.heap.size w W → W.cell? ⟨0, 0, none⟩ = some handle := fun W hb => (hb.cell hlt).trans hg
  have HGB := Lib.hid hgb; clear hg hgb
  have HD := Lib.hid (draw_putNum (cap := cap0) hl0 h0)
  have H1 := Lib.hid h1; clear h0 h1
  have b0 : decide ((1048576 : Int) < len0) = false := by simp; omega
  have b1 : decide ((1048576 : Int) < len1) = false := by simp; omega
  have hfl : ∀ (x y z : Value) (w : World), (Instr.field 26 (.agg #[x, y, z]) 2).run Tryd.prog w = .ok z w := fun _ _ _ _ => by kernel_rfl
  have hft : ∀ (x y z : Value) (w : World), (Instr.field 31 (.agg #[x, y, z]) 2).run Tryd.prog w = .ok z w := fun _ _ _ _ => by kernel_rfl
  go_enter Tryd.func3, Tryd.ntmps3
  go_wp2_with fail
  refine HD.out.mono ?_
  rintro e w1 ⟨n, rfl, hn0, hn1, hbl⟩
  have HB1 := Lib.hid hbl
  have hpl := putNum_len n hn0 hn1
  have hpp : 1 ≤ (putNum n).length := vi_pos _
  have HPS := Lib.hid (strOf_size (putNum n))
  have hs1 : (1 : Int) ≤ (strOf (putNum n)).size := by rw [HPS.out]; omega
  have hs2 : ((strOf (putNum n)).size : Int) ≤ 10 := by rw [HPS.out]; omega
  have HN := Lib.hid (num_there n hn0 hn1)
  have HC := Lib.hid (getNum_cut n hn0 hn1)
  have HM1 := Lib.hid (str_max ([120, 121] ++ (putNum n ++ [122])) (by simp; omega))
  have HM2 := Lib.hid (str_max (putNum n).dropLast (by rw [List.length_dropLast]; omega))
  have HBN := Lib.hid (And.intro hn0 hn1)
  have hcat1 : ¬ 9223372036854775807 < (⟨#[120, 121]⟩ : ByteArray).size + (strOf (putNum n)).size := by rw [HPS.out]; show ¬ _ < 2 + _; omega
  have hcat2 : ¬ 9223372036854775807 < ((⟨#[120, 121]⟩ : ByteArray) ++ strOf (putNum n)).size + (⟨#[122]⟩ : ByteArray).size := by rw [ByteArray.size_append, HPS.out]; show ¬ _ < 2 + _ + 1; omega
  clear hbl hpl hpp hn0 hn1 HD
  go_wp2_with fail
  refine (implPutNum_any _ _ HBN.out.1 HBN.out.2).mono ?_
  rintro e w2 ⟨rfl, hbl⟩
  have HB2 := Lib.hid (HB1.out.trans (hbl.mono HB1.out.size))
  clear hbl HB1
  go_wp2_with fail
  refine (specPutNum_any _ _ HBN.out.1 HBN.out.2).mono ?_
  rintro e w3 ⟨rfl, hbl⟩
  have HB3 := Lib.hid (HB2.out.trans (hbl.mono HB2.out.size))
  clear hbl HB2
  go_wp2_with fail
  rw [xyz]
  refine (implGetNum_any _ _ _ HM1.out (by omega) (HGB.out _ HB3.out)).mono ?_
  rintro e w4 ⟨rfl, hbl⟩
  rw [HN.out]
  have HB4 := Lib.hid (HB3.out.trans (hbl.mono HB3.out.size))
  have HB5 : Hid (∀ o, Below w.heap.size w (w4.alloc o)) := fun o => HB4.out.alloc HB4.out.size o
  clear hbl HB3
  unfold NumO.v numOutV
  have hix : ((strOf (putNum n)).size : Int) - 1 ≤ (strOf (putNum n)).size := by omega
  have hix0 : (0 : Int) ≤ ((strOf (putNum n)).size : Int) - 1 := by omega
  go_wp2_with fail
  rw [cut_last]
  refine (implGetNum_any _ _ _ HM2.out (by omega) (HGB.out _ (HB5.out _))).mono ?_
  rintro e w5 ⟨rfl, hbl⟩
  rw [HC.out]
  have HB6 := Lib.hid ((HB5.out _).trans (hbl.mono (HB5.out _).size))
  clear hbl HB4 HB5 hcat1 hcat2 hix hix0 hs1 hs2
  unfold NumO.v numOutV
  go_wp2_with fail
  refine (draw_putText (cap := cap1) hl1 (H1.out.below HB6.out)).mono ?_
  rintro e w6 ⟨l, rfl, hll, hbl⟩
  have HB7 := Lib.hid (HB6.out.trans (hbl.mono HB6.out.size))
  have HML := Lib.hid (str_max l (by omega))
  clear hbl HB6
  go_wp2_with fail
  refine (implPutText_any _ _ HML.out).mono ?_
  rintro e w7 ⟨rfl, hbl⟩
  have HB8 := Lib.hid (HB7.out.trans (hbl.mono HB7.out.size))
  clear hbl HB7
  go_wp2_with fail
  refine (specPutText_any _ _ HML.out).mono ?_
  rintro e w8 ⟨rfl, hbl⟩
  have HB9 := Lib.hid (HB8.out.trans (hbl.mono HB8.out.size))
  clear hbl HB8
  by_cases hbig : 8000 < l.length
  · have hp := putText_big (strOf l) (by rw [strOf_size]; exact hbig)
    rw [hp]
    have HP := Lib.hid hp; clear hp
    go_wp2_with fail
    refine (specPutText_any _ _ HML.out).mono ?_
    rintro e w9 ⟨rfl, hbl⟩
    rw [HP.out]
    have HB10 := Lib.hid (HB9.out.trans (hbl.mono HB9.out.size))
    clear hbl HB9
    go_wp2
    go_ret
    exact ⟨rfl, HB10.out⟩
  · have hp := putText_small (strOf l) (by rw [strOf_size]; exact hbig)
    rw [strOf_list, strOf_size] at hp
    rw [hp]
    clear hp
    have hpl := putNum_len l.length (by omega) (by omega)
    have hpp : 1 ≤ (putNum l.length).length := vi_pos _
    have HT := Lib.hid (text_there l)
    have HTC := Lib.hid (getText_cut l)
    obtain ⟨q, hq⟩ : ∃ q, q = putNum l.length ++ l := ⟨_, rfl⟩
    have hql : q.length = (putNum l.length).length + l.length := by rw [hq, List.length_append]
    rw [← hq] at HT HTC ⊢
    have hqe : (strOf q).toList.isEmpty = false := by rw [Lib.toList_data, strOf_list]; cases q with | nil => simp at hql; omega | cons _ _ => rfl
    have hne : (strOf q).toList = [] → False := by intro e; rw [e] at hqe; simp at hqe
    have HQS := Lib.hid (strOf_size q)
    have hqs : ((strOf q).size : Int) ≤ 8010 := by rw [HQS.out]; omega
    have hq1 : (1 : Int) ≤ (strOf q).size := by rw [HQS.out]; omega
    have HMX := Lib.hid (str_max ([120] ++ q) (by rw [List.length_append]; simp only [List.length_cons, List.length_nil]; omega))
    have HMC := Lib.hid (str_max q.dropLast (by rw [List.length_dropLast]; omega))
    clear hq hql hpl hpp
    by_cases hsum : 8000 < (strOf q).size + 1
    · have hsi : (8000 : Int) < (strOf q).size + 1 := by omega
      go_wp2_with fail
      go_ret
      exact ⟨rfl, HB9.out⟩
    · have hsi : ((strOf q).size : Int) + 1 ≤ 8000 := by omega
      have hql : q.length + 1 ≤ 8000 := by rw [← HQS.out]; omega
      have HT2 := Lib.hid (HT.out hql)
      have hc4 := HTC.out (by omega)
      obtain ⟨t, x, hv⟩ : ∃ t x, getText (strOf q.dropLast) 0 = ⟨t, x, 4⟩ := ⟨_, _, by rw [← hc4]⟩
      have HV := Lib.hid hv
      have hcat : ¬ 9223372036854775807 < (⟨#[120]⟩ : ByteArray).size + (strOf q).size := by show ¬ _ < 1 + _; omega
      have hix : ((strOf q).size : Int) - 1 ≤ (strOf q).size := by omega
      have hix0 : (0 : Int) ≤ ((strOf q).size : Int) - 1 := by omega
      clear hc4 hv HT HTC
      go_wp2_with fail
      rw [xq]
      refine (implGetText_any _ _ _ HMX.out (by omega) (HGB.out _ HB9.out)).mono ?_
      rintro e w9 ⟨rfl, hbl⟩
      rw [HT2.out]
      have HB10 := Lib.hid (HB9.out.trans (hbl.mono HB9.out.size))
      clear hbl HB9
      unfold TextO.v textOutV
      go_wp2_with fail
      rw [cut_last]
      refine (implGetText_any _ _ _ HMC.out (by omega) (HGB.out _ HB10.out)).mono ?_
      rintro e w10 ⟨rfl, hbl⟩
      rw [HV.out]
      have HB11 := Lib.hid (HB10.out.trans (hbl.mono HB10.out.size))
      clear hbl HB10
      unfold TextO.v textOutV
      go_wp2_with fail
      go_ret
      exact ⟨rfl, HB11.out⟩
end Go.Proofs.YtdnfnlmeccchbaaDoor
