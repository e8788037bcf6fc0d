/- The walk of the law FnSeal. -/
import Derived.Test.YtdnfnlmeccchbaaSealM
import Derived.Test.YtdnfnlmeccchbaaDrawS
import Derived.Laws.IdiomStrings
import Derived.Laws.StructEq
import Derived.Deep.RegionWith
import Derived.Handy
namespace Go.Proofs.Ytdnfnlmeccchbaa
open Go.RowKit

theorem str_max (l : List UInt8) (h : l.length ≤ 20010) : (strOf l).size ≤ maxLen := by rw [strOf_size]; unfold maxLen; omega

theorem bytes_of (q : List UInt8) (w : World) : ∃ (cap : Nat) (W : World), (convert 9 22 (.string (strOf q))).run Try.prog w = .ok (.slice (some ⟨w.heap.size, 0, none⟩) q.length cap) W ∧ Below w.heap.size w W ∧ w.heap.size < W.heap.size ∧
    ∀ i (h : i < q.length), W.cell? ⟨w.heap.size, i, none⟩ = some (byteV q[i]) ∧ W.frozen? ⟨w.heap.size, i, none⟩ = false := by
  have hr := run_bytes_of_string (P := Try.prog) w 9 22 5 (strOf q) Try.underlying9 Try.underlying22 Try.underlying5
  rw [strOf_size] at hr
  refine ⟨_, _, hr, ((Below.refl _ w).drew).alloc (Nat.le_refl _) _, by simp, fun i h => ⟨?_, ?_⟩⟩
  · show (w.drew.alloc _).cell? ⟨w.drew.heap.size, i, none⟩ = _
    rw [World.cell?_alloc_mark]
    rw [bytesRow, Array.getElem?_append_left (by simpa [strOf] using h)]
    simp [strOf, h, byteV]
  · show (w.drew.alloc _).frozen? ⟨w.drew.heap.size, i, none⟩ = _
    rw [World.frozen?_alloc_mark]
    have : i < (bytesRow (strOf q) (grownCap w q.length 0 5)).size := by simp [bytesRow, strOf]; omega
    simp; omega
theorem turn_ne (x : UInt8) (k : Nat) (h1 : 1 ≤ k) (h2 : k ≤ 255) : UInt8.ofNat (x.toNat ^^^ k) ≠ x ∧ (x.toNat ^^^ k) < 256 := by
  have hlt : x.toNat ^^^ k < 256 := Nat.xor_lt_two_pow (n := 8) (by have := x.toNat_lt; omega) (by omega)
  refine ⟨fun e => ?_, hlt⟩
  have := congrArg UInt8.toNat e
  rw [UInt8.toNat_ofNat_of_lt' (by simpa using hlt)] at this
  have h0 : x.toNat ^^^ k = x.toNat ^^^ 0 := by rw [this, Nat.xor_zero]
  have := xor_left h0; omega

theorem turned {W : World} {B i : Nat} {q : List UInt8} {r2 : Int} (hi : i < q.length) (hc : ∀ j (h : j < q.length), W.cell? ⟨B, j, none⟩ = some (byteV q[j]) ∧ W.frozen? ⟨B, j, none⟩ = false) (h0 : 0 ≤ r2) (h1 : r2 < 255) :
    ∃ c : UInt8, c ≠ q[i] ∧ ∀ j (h : j < (q.set i c).length), (W.setCell ⟨B, i, none⟩ (.int .u8 (bits .xor .u8 (q[i].toNat : Int) (1 + r2)))).drew.cell? ⟨B, j, none⟩ = some (.int .u8 ((q.set i c)[j].toNat : Int)) := by
  obtain ⟨k, hk⟩ : ∃ k : Nat, 1 + r2 = (k : Int) := ⟨(1 + r2).toNat, by omega⟩
  have ht := turn_ne q[i] k (by omega) (by omega)
  refine ⟨UInt8.ofNat (q[i].toNat ^^^ k), ht.1, fun j h => ?_⟩
  have hv : bits .xor .u8 (q[i].toNat : Int) (1 + r2) = ((q[i].toNat ^^^ k : Nat) : Int) := by
    rw [hk, u8_xor_nat _ _ (by have := q[i].toNat_lt; omega) (by omega)]
  rw [hv]
  show (W.setCell ⟨B, i, none⟩ _).cell? ⟨B, j, none⟩ = _
  have hj : j < q.length := by simpa using h
  by_cases e : j = i
  · subst e
    rw [World.cell?_setCell_same _ _ _ (by rw [(hc j hj).1])]
    rw [List.getElem_set_self, UInt8.toNat_ofNat_of_lt' (by simpa using ht.2)]
  · rw [World.cell?_setCell_other _ _ _ _ (by intro e'; apply e; cases e'; rfl), (hc j hj).1, List.getElem_set_ne (Ne.symm e)]; rfl

set_option maxRecDepth 100000 in
set_option maxHeartbeats 4000000 in
theorem fnSeal_main (a0 a1 : Option Addr) (len0 cap0 len1 cap1 : Nat) (w : World) (h0 : BytesAt w a0 len0) (h1 : BytesAt w a1 len1) (hl0 : len0 ≤ 1048576) (hl1 : len1 ≤ 1048576) :
    Calls Try.prog 3 #[.slice a0 len0 cap0, .slice a1 len1 cap1] w fun e w' => e = .returned (.bool true) ∧ Below w.heap.size w w' := by
  have HD := Lib.hid (draw_seal (cap := cap0) hl0 h0)
  have H1 := Lib.hid h1; clear h0 h1
  have b0 : decide ((1048576 : Int) < len0) = false := by simp; omega
  have b1 : decide ((1048576 : Int) < len1) = false := by simp; omega
  go_enter Try.func3, Try.ntmps3
  go_wp2_with fail
  refine HD.out.mono ?_
  rintro e w1 ⟨l, rfl, hll, hbl⟩
  have HM := Lib.hid (str_max l (by omega))
  have HB1 := Lib.hid hbl
  have HLL := Lib.hid hll
  clear hbl hll HD
  go_wp2_with fail
  refine (implSeal_any _ _ HM.out).mono ?_
  rintro e w2 ⟨rfl, hbl⟩
  have HB2 := Lib.hid (HB1.out.trans (hbl.mono HB1.out.size))
  clear hbl HB1
  go_wp2_with fail
  refine (specSeal_any _ _ HM.out).mono ?_
  rintro e w3 ⟨rfl, hbl⟩
  have HB3 := Lib.hid (HB2.out.trans (hbl.mono HB2.out.size))
  clear hbl HB2
  by_cases hbig : 7996 < l.length
  · have hss := sealS_big (strOf l) (by rw [strOf_size]; exact hbig)
    rw [hss]
    have HBT := HB3
    go_wp2_with fail
    refine (draw_crcMore (cap := cap1) hl1 (H1.out.below HBT.out)).mono ?_
    rintro e wt ⟨cc, m, rfl, hml, hc0, hc1, hbl⟩
    have HBU := Lib.hid (HBT.out.trans (hbl.mono HBT.out.size))
    have HMM := Lib.hid (str_max m (by omega))
    have hll := HLL.out
    have HMS := Lib.hid (strOf_size m)
    have HLS := Lib.hid (strOf_size l)
    clear hbl HBT
    have hub1 : ((strOf l).size : Int) ≤ 20000 := by have := HLS.out; omega
    have hub2 : ((strOf m).size : Int) ≤ 20 := by have := HMS.out; omega
    by_cases hsum : 8000 < (strOf l).size + (strOf m).size
    · have hsi : (8000 : Int) < (strOf l).size + (strOf m).size := by omega
      go_wp2_with fail
      go_ret
      exact ⟨rfl, HBU.out⟩
    · have hsi : ((strOf l).size : Int) + (strOf m).size ≤ 8000 := by omega
      have hcat : ¬ 9223372036854775807 < (strOf l).size + (strOf m).size := by omega
      have happ : strOf l ++ strOf m = strOf (l ++ m) := by rw [app_strOf, strOf_list, strOf_list]
      have hsl : l.length + m.length ≤ 8000 := by rw [← HLS.out, ← HMS.out]; omega
      have HME := Lib.hid (more_eq l m hsl)
      have HM3 := Lib.hid (str_max (l ++ m) (by rw [List.length_append]; omega))
      go_wp2_with fail
      refine (implCrcMore_any _ _ _ HMM.out).mono ?_
      rintro e w9 ⟨rfl, rfl⟩
      go_wp2_with fail
      refine (specCrcMore_any _ _ _ HMM.out).mono ?_
      rintro e w9 ⟨rfl, rfl⟩
      go_wp2_with fail
      refine (implCrc_any _ _ HM.out).mono ?_
      rintro e w9 ⟨rfl, rfl⟩
      go_wp2_with fail
      refine (implCrcMore_any _ _ _ HMM.out).mono ?_
      rintro e w9 ⟨rfl, rfl⟩
      rw [HME.out]
      go_wp2_with fail
      refine (implCrc_any _ _ HM3.out).mono ?_
      rintro e w9 ⟨rfl, rfl⟩
      go_wp2_with fail
      go_ret
      exact ⟨rfl, HBU.out⟩
  · have hss := sealS_small (strOf l) (by rw [strOf_size]; exact hbig)
    rw [strOf_list] at hss
    obtain ⟨q, hq⟩ : ∃ q, q = l ++ four (crcOf 0 (strOf l)) := ⟨_, rfl⟩
    rw [← hq] at hss
    rw [hss]
    have hql : q.length = l.length + 4 := by rw [hq, List.length_append, four_len]
    have hqe : (strOf q).toList.isEmpty = false := by rw [Lib.toList_data, strOf_list]; cases q with | nil => simp at hql | cons _ _ => rfl
    have HQ := Lib.hid hq; have HQL := Lib.hid hql; clear hq hql hss
    have hne : (strOf q).toList = [] → False := by intro e; rw [e] at hqe; simp at hqe
    obtain ⟨cap, W, hrun, hbW, hsW, hcW⟩ := bytes_of q w3
    have HBW := Lib.hid (HB3.out.trans (hbW.mono HB3.out.size))
    have HCW := Lib.hid hcW
    have hfl : ∀ (x y z : Value) (w : World), (Instr.field 27 (.agg #[x, y, z]) 2).run Try.prog w = .ok z w := fun _ _ _ _ => by kernel_rfl
    have hqpos : 0 < q.length := by rw [HQL.out]; omega
    have hqle : q.length ≤ 8000 := by rw [HQL.out]; omega
    have HB3S := Lib.hid HB3.out.size
    clear hbW hcW HB3
    go_wp2_with fail
    refine (lwAt_any len1 cap1 0 a1 q.length W (by omega) (by omega) hl1 (H1.out.below HBW.out)).mono ?_
    rintro e w' ⟨⟨r, rfl, hr0, hr1⟩, rfl⟩
    have hr2 : r.toNat < q.length := by omega
    obtain ⟨hcell, hfr⟩ := HCW.out r.toNat hr2
    unfold byteV at hcell
    go_wp2_with fail
    have hby : BytesAt W a1 len1 := H1.out.below HBW.out
    have HBY := Lib.hid hby; clear hby
    have hidx : r < (q.length : Int) := by omega
    have hB3 : w.heap.size ≤ w3.heap.size := HB3S.out
    go_region_with (go_at_call 14; refine (lwAt_any len1 cap1 1 a1 255 _ (by omega) (by omega) hl1 (by exact HBY.out)).mono ?_; rintro e w' ⟨⟨r2, rfl, hr20, hr21⟩, rfl⟩)
    all_goals
      obtain ⟨c, hcne, hcc⟩ := turned hr2 HCW.out hr20 (hr21 (by omega))
      have hbV := HBW.out.setCell (p := ⟨w3.heap.size, r.toNat, none⟩) hB3 (.int .u8 (bits BinOp.xor IntKind.u8 (q[r.toNat].toNat : Int) (1 + r2)))
      have hbV2 := hbV.drew
      have hzV : w3.heap.size < (W.setCell ⟨w3.heap.size, r.toNat, none⟩ (.int .u8 (bits BinOp.xor IntKind.u8 (q[r.toNat].toNat : Int) (1 + r2)))).drew.heap.size := by simpa using hsW
      go_wp2_with fail
      generalize (W.setCell ⟨w3.heap.size, r.toNat, none⟩ (.int .u8 (bits BinOp.xor IntKind.u8 (q[r.toNat].toNat : Int) (1 + r2)))).drew = V at *
      have HBV := Lib.hid hbV2
      have HCC := Lib.hid hcc
      have hu1 := unseal_seal l (by omega)
      rw [← HQ.out] at hu1
      have hu2 := unseal_turned l (by omega) r.toNat c (by rw [← HQ.out]; exact hr2) (by simpa only [← HQ.out] using hcne)
      rw [← HQ.out] at hu2
      have HU1 := Lib.hid hu1
      have HU2 := Lib.hid hu2
      have HS1 := Lib.hid (str_max q (by omega))
      have HS2 := Lib.hid (str_max (q.set r.toNat c) (by rw [List.length_set]; omega))
      clear hbV hbV2 hcc hu1 hu2 hcell hfr
      refine (implUnseal_any _ _ HS1.out).mono ?_
      rintro e V1 ⟨rfl, hb1⟩
      rw [HU1.out]
      have hcv : (convert 22 9 (.slice (some ⟨w3.heap.size, 0, none⟩) q.length cap)).run Try.prog V1 = .ok (.string (strOf (q.set r.toNat c))) V1 := by
        have := run_convert_bytes_back (P := Try.prog) V1 22 9 5 ⟨w3.heap.size, 0, none⟩ cap (q.set r.toNat c) Try.underlying22 Try.underlying5 Try.underlying9 (fun j hj => by
          have h := HCC.out j hj
          rw [← h]
          have ea : (⟨w3.heap.size, 0, none⟩ : Addr).add j = ⟨w3.heap.size, j, none⟩ := by unfold Addr.add; split <;> simp_all
          rw [ea]
          exact hb1.cell (p := ⟨w3.heap.size, j, none⟩) hzV)
        rw [List.length_set] at this
        exact this
      have HBV1 := Lib.hid (HBV.out.trans (hb1.mono HBV.out.size))
      clear hb1 HBV
      unfold textOutV
      go_wp2_with fail
      refine (implUnseal_any _ _ HS2.out).mono ?_
      rintro e V2 ⟨rfl, hb2⟩
      rw [HU2.out]
      have HBT := Lib.hid (HBV1.out.trans (hb2.mono HBV1.out.size))
      clear hb2 HBV1
      unfold textOutV
      go_wp2_with fail
      refine (draw_crcMore (cap := cap1) hl1 (H1.out.below HBT.out)).mono ?_
      rintro e wt ⟨cc, m, rfl, hml, hc0, hc1, hbl⟩
      have HBU := Lib.hid (HBT.out.trans (hbl.mono HBT.out.size))
      have HMM := Lib.hid (str_max m (by omega))
      have hll := HLL.out
      have HMS := Lib.hid (strOf_size m)
      have HLS := Lib.hid (strOf_size l)
      clear hbl HBT
      have hub1 : ((strOf l).size : Int) ≤ 20000 := by have := HLS.out; omega
      have hub2 : ((strOf m).size : Int) ≤ 20 := by have := HMS.out; omega
      by_cases hsum : 8000 < (strOf l).size + (strOf m).size
      · have hsi : (8000 : Int) < (strOf l).size + (strOf m).size := by omega
        go_wp2_with fail
        go_ret
        exact ⟨rfl, HBU.out⟩
      · have hsi : ((strOf l).size : Int) + (strOf m).size ≤ 8000 := by omega
        have hcat : ¬ 9223372036854775807 < (strOf l).size + (strOf m).size := by omega
        have happ : strOf l ++ strOf m = strOf (l ++ m) := by rw [app_strOf, strOf_list, strOf_list]
        have hsl : l.length + m.length ≤ 8000 := by rw [← HLS.out, ← HMS.out]; omega
        have HME := Lib.hid (more_eq l m hsl)
        have HM3 := Lib.hid (str_max (l ++ m) (by rw [List.length_append]; omega))
        go_wp2_with fail
        refine (implCrcMore_any _ _ _ HMM.out).mono ?_
        rintro e w9 ⟨rfl, rfl⟩
        go_wp2_with fail
        refine (specCrcMore_any _ _ _ HMM.out).mono ?_
        rintro e w9 ⟨rfl, rfl⟩
        go_wp2_with fail
        refine (implCrc_any _ _ HM.out).mono ?_
        rintro e w9 ⟨rfl, rfl⟩
        go_wp2_with fail
        refine (implCrcMore_any _ _ _ HMM.out).mono ?_
        rintro e w9 ⟨rfl, rfl⟩
        rw [HME.out]
        go_wp2_with fail
        refine (implCrc_any _ _ HM3.out).mono ?_
        rintro e w9 ⟨rfl, rfl⟩
        go_wp2_with fail
        go_ret
        exact ⟨rfl, HBU.out⟩
end Go.Proofs.Ytdnfnlmeccchbaa
