/- RibSweep of the model. -/
import Derived.Test.YtmkoppbbenombaaSwM
namespace Go.Proofs.Ytmkoppbbenombaa
open Go.RowKit

set_option maxRecDepth 100000 in
set_option maxHeartbeats 4000000 in
theorem specRibSweep_any (l : List Hd) (v : Value) (p : Int) (w : World) (h : HdsAt w v l) (_hnil : NilOk v) (hn : l.length ≤ 1048576) :
    Calls Try.prog 31 #[v, .int .i64 p] w (RoPost (sweepR l p) w) := by
  have X0 := Blk.new w 33 #[.slice none 0 0, .slice none 0 0, .int .i64 0]
  have HB0 : Below w.heap.size w (w.alloc (.cells #[.slice none 0 0, .slice none 0 0, .int .i64 0] 33)) := (Below.refl _ _).alloc (Nat.le_refl _) _
  have HRR := Lib.hid (fun (W' : World) (hb : Below w.heap.size w W') => specRibRight_any l v W' (SlAt.kept h hb) hn)
  have HIn := Lib.hid (fun (h60 : l.length ≤ 60) (W' : World) (hb : Below w.heap.size w W') => specSweepIn_any l v p W' (SlAt.kept h hb) h60)
  have HP := Lib.hid (specPeer_any p)
  have HQ := Lib.hid (fun (c : Int) => specIll6_any c)
  have HW := fault_way l p
  have HS1 := Lib.hid (fun (c : Int) (hc : faultOf l p = c) (h : c ≠ 0) => sweepR_ill hc h)
  have HS2 := Lib.hid (fun (hc : faultOf l p = 0) => sweepR_ok hc)
  unfold RrPost at HRR
  unfold RoPost at HIn
  unfold roV at HQ
  obtain ⟨a, cap, rfl, _⟩ := h
  rw [List.length_map] at *
  generalize sweepR l p = S at *
  generalize ribOk l = R at *
  generalize inR p 1 9 = PP at *
  generalize faultOf l p = c at *
  obtain ⟨n, hnn⟩ : ∃ n, n = l.length := ⟨_, rfl⟩
  rcases HW with ⟨h1, rfl⟩ | ⟨h1, rfl, rfl⟩ | ⟨h1, rfl, rfl, rfl⟩ | ⟨h1, rfl, rfl, h4, rfl⟩
  · have hg : (400 : Int) < (n : Int) := by omega
    have HR := Lib.hid (HS1.out 2 rfl (by omega))
    rw [← hnn] at *
    clear hnn
    go_enter Try.func31, Try.ntmps31
    go_upto_region 1 with fail
    generalize w.alloc (.cells #[.slice none 0 0, .slice none 0 0, .int .i64 0] 33) = w0 at *
    go_wp2_with (go_at_call 70; refine (HQ.out _ _).mono ?_; rintro x w1 ⟨rfl, hb1⟩; have X1 := X0.kept hb1; have hc := X1.cell; have hf := X1.frozen; have HB1 := HB0.trans (hb1.mono HB0.size); clear hb1)
    have HY := Lib.hid (fill3 X1 HB1 (Nat.le_refl _) (.slice none 0 0) (.slice none 0 0) (.int .i64 2))
    generalize (((w1.setCell ⟨w.heap.size, 0, none⟩ (.slice none 0 0)).setCell ⟨w.heap.size, 1, none⟩ (.slice none 0 0)).setCell ⟨w.heap.size, 2, none⟩ (.int .i64 2)) = w2 at *
    have hc2 := HY.out.1.cell
    refine bodyPost_ret (v := roV (.slice none 0 0) (.slice none 0 0) 2) (by simp [results, Try.results31, go_sem, roV, hc2]) rfl ?_
    exact RoPost.ill HR.out rfl HY.out.2
  · have hg : ¬ (400 : Int) < (n : Int) := by omega
    have HR := Lib.hid (HS1.out 1 rfl (by omega))
    rw [← hnn] at *
    clear hnn
    go_enter Try.func31, Try.ntmps31
    go_upto_region 1 with fail
    generalize w.alloc (.cells #[.slice none 0 0, .slice none 0 0, .int .i64 0] 33) = w0 at *
    go_wp2_with (first | (go_at_call 16; refine (HRR.out _ HB0).mono ?_; rintro x w3 ⟨rfl, hb3⟩; have X3 := X0.kept hb3; have HB3 := HB0.trans (hb3.mono HB0.size); clear hb3) | (go_at_call 70; refine (HQ.out _ _).mono ?_; rintro x w1 ⟨rfl, hb1⟩; have X1 := X3.kept hb1; have hc := X1.cell; have hf := X1.frozen; have HB1 := HB3.trans (hb1.mono HB3.size); clear hb1))
    have HY := Lib.hid (fill3 X1 HB1 (Nat.le_refl _) (.slice none 0 0) (.slice none 0 0) (.int .i64 1))
    generalize (((w1.setCell ⟨w.heap.size, 0, none⟩ (.slice none 0 0)).setCell ⟨w.heap.size, 1, none⟩ (.slice none 0 0)).setCell ⟨w.heap.size, 2, none⟩ (.int .i64 1)) = w2 at *
    have hc2 := HY.out.1.cell
    refine bodyPost_ret (v := roV (.slice none 0 0) (.slice none 0 0) 1) (by simp [results, Try.results31, go_sem, roV, hc2]) rfl ?_
    exact RoPost.ill HR.out rfl HY.out.2
  · have hg : ¬ (400 : Int) < (n : Int) := by omega
    have HR := Lib.hid (HS1.out 1 rfl (by omega))
    rw [← hnn] at *
    clear hnn
    go_enter Try.func31, Try.ntmps31
    go_upto_region 1 with fail
    generalize w.alloc (.cells #[.slice none 0 0, .slice none 0 0, .int .i64 0] 33) = w0 at *
    go_wp2_with (first | (go_at_call 16; refine (HRR.out _ HB0).mono ?_; rintro x w3 ⟨rfl, hb3⟩; have X3 := X0.kept hb3; have HB3 := HB0.trans (hb3.mono HB0.size); clear hb3) | (go_at_call 62; refine (HP.out _).mono ?_; rintro x w4 ⟨rfl, rfl⟩) | (go_at_call 70; refine (HQ.out _ _).mono ?_; rintro x w1 ⟨rfl, hb1⟩; have X1 := X3.kept hb1; have hc := X1.cell; have hf := X1.frozen; have HB1 := HB3.trans (hb1.mono HB3.size); clear hb1))
    have HY := Lib.hid (fill3 X1 HB1 (Nat.le_refl _) (.slice none 0 0) (.slice none 0 0) (.int .i64 1))
    generalize (((w1.setCell ⟨w.heap.size, 0, none⟩ (.slice none 0 0)).setCell ⟨w.heap.size, 1, none⟩ (.slice none 0 0)).setCell ⟨w.heap.size, 2, none⟩ (.int .i64 1)) = w2 at *
    have hc2 := HY.out.1.cell
    refine bodyPost_ret (v := roV (.slice none 0 0) (.slice none 0 0) 1) (by simp [results, Try.results31, go_sem, roV, hc2]) rfl ?_
    exact RoPost.ill HR.out rfl HY.out.2
  · have hg : ¬ (400 : Int) < (n : Int) := by omega
    have HR := Lib.hid (HS2.out rfl)
    have HI6 := Lib.hid (HIn.out h4)
    rw [← hnn] at *
    generalize keepL p l = D at *
    generalize goneL p l = G at *
    unfold roV at HI6
    clear hnn HIn
    go_enter Try.func31, Try.ntmps31
    go_upto_region 1 with fail
    generalize w.alloc (.cells #[.slice none 0 0, .slice none 0 0, .int .i64 0] 33) = w0 at *
    go_wp2_with (first | (go_at_call 16; refine (HRR.out _ HB0).mono ?_; rintro x w3 ⟨rfl, hb3⟩; have X3 := X0.kept hb3; have HB3 := HB0.trans (hb3.mono HB0.size); clear hb3) | (go_at_call 62; refine (HP.out _).mono ?_; rintro x w4 ⟨rfl, rfl⟩))
    refine (HI6.out _ HB3).mono ?_
    rintro x w1 ⟨dv, dt, rfl, ho, ht, hap, hb1⟩
    have X1 := X3.kept hb1
    have hc := X1.cell
    have hf := X1.frozen
    have HB1 := HB3.trans (hb1.mono HB3.size)
    have hne : dv.ownBlock ≠ some w.heap.size := fun e => by have := (ho.lt _ e).1; have := X3.lt; omega
    have hnt : dt.ownBlock ≠ some w.heap.size := fun e => by have := (ht.lt _ e).1; have := X3.lt; omega
    have HO := Lib.hid (rown_mono (B' := w.heap.size) ho HB3.size)
    have HT := Lib.hid (rown_mono (B' := w.heap.size) ht HB3.size)
    obtain ⟨da, dc, rfl⟩ := rown_form ho
    obtain ⟨ta, tc, rfl⟩ := rown_form ht
    clear hb1 ho ht
    have HAP := Lib.hid hap
    clear hap
    go_wp2_with fail
    have HY := Lib.hid (fill3 X1 HB1 (Nat.le_refl _) (.slice da D.length dc) (.slice ta G.length tc) (.int .i64 0))
    have HO2 := Lib.hid (own_far3 HO.out hne (.slice da D.length dc) (.slice ta G.length tc) (.int .i64 0))
    have HT2 := Lib.hid (own_far3 HT.out hnt (.slice da D.length dc) (.slice ta G.length tc) (.int .i64 0))
    generalize (((w1.setCell ⟨w.heap.size, 0, none⟩ (.slice da D.length dc)).setCell ⟨w.heap.size, 1, none⟩ (.slice ta G.length tc)).setCell ⟨w.heap.size, 2, none⟩ (.int .i64 0)) = w2 at *
    have hc2 := HY.out.1.cell
    refine bodyPost_ret (v := roV (.slice da D.length dc) (.slice ta G.length tc) 0) (by simp [results, Try.results31, go_sem, roV, hc2]) rfl ?_
    exact RoPost.good (by rw [HR.out]) (by rw [HR.out]; exact HO2.out) (by rw [HR.out]; exact HT2.out) HAP.out HY.out.2
end Go.Proofs.Ytmkoppbbenombaa
