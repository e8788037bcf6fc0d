/- RibPut of the model, whole; its mathematics. -/
import Derived.Test.YtmkoppbbenombaaPtS
import Derived.Test.YtmkoppbbenombaaTkR
namespace Go.Proofs.Ytmkoppbbenombaa
open Go.RowKit

def putR (l : List Hd) (p : Int) (r : Rt) : Ro := if faultR l p r = 0 then putH ⟨p, false, r⟩ l else roIll (faultR l p r)
theorem putR_is (l : List Hd) (p : Int) (r : Rt) : putR l p r = if faultR l p r = 0 then putH ⟨p, false, r⟩ l else roIll (faultR l p r) := rfl
theorem putR_len (l : List Hd) (p : Int) (r : Rt) : (putR l p r).rib.length + (putR l p r).gone.length ≤ 200 := by
  unfold putR
  split
  · rename_i h
    have h4 := (fault_zero (faultR_zero h).1).2
    unfold putH
    split
    · simp [roIll]
    · have := insL_len (lt := LtH) (⟨p, false, r⟩ : Hd) l
      dsimp only
      simp
      omega
  · simp [roIll]
theorem putR_ill {l : List Hd} {p c : Int} {r : Rt} (h : faultR l p r = c) (hc : c ≠ 0) : putR l p r = roIll c := by rw [putR, h, if_neg hc]
set_option maxRecDepth 100000 in
set_option maxHeartbeats 4000000 in
theorem specRibPut_any (l : List Hd) (v : Value) (p : Int) (r : Rt) (w : World) (h : HdsAt w v l) (hnc : NcOk v) (hn : l.length ≤ 1048576) :
    Calls Try.prog 20 #[v, .int .i64 p, r.val] w (RoPost (putR l p r) w) := by
  have Y0 := Blk.new w 35 #[.int .i64 r.kind, .int .i64 r.vni, .int .i64 r.mac, .int .i64 r.ip, .int .i64 r.org, .int .i64 r.seq, .bool r.st]
  have X0 := Blk.new (w.alloc (.cells #[.int .i64 r.kind, .int .i64 r.vni, .int .i64 r.mac, .int .i64 r.ip, .int .i64 r.org, .int .i64 r.seq, .bool r.st] 35)) 33 #[.slice none 0 0, .slice none 0 0, .int .i64 0]
  rw [World.size_alloc] at X0
  replace Y0 := Y0.alloc (.cells #[.slice none 0 0, .slice none 0 0, .int .i64 0] 33)
  have HB0 : Below w.heap.size w ((w.alloc (.cells #[.int .i64 r.kind, .int .i64 r.vni, .int .i64 r.mac, .int .i64 r.ip, .int .i64 r.org, .int .i64 r.seq, .bool r.st] 35)).alloc (.cells #[.slice none 0 0, .slice none 0 0, .int .i64 0] 33)) := ((Below.refl _ _).alloc (Nat.le_refl _) _).alloc (by simp) _
  have HRR := Lib.hid (fun (W' : World) (hb : Below w.heap.size w W') => specRibRight_any l v W' (SlAt.kept h hb) hn)
  have HIn := Lib.hid (fun (h60 : l.length ≤ 60) (hpw : l.Pairwise LtH) (W' : World) (hb : Below w.heap.size w W') => specPutIn_any l v p r W' (SlAt.kept h hb) hnc h60 hpw)
  have HP := Lib.hid (specPeer_any p)
  have HT := Lib.hid (specRight_any r)
  have HQ := Lib.hid (fun (c : Int) => specIll6_any c)
  have HW := rfault_way l p r
  have HS := Lib.hid (putR_is l p r)
  have HPW := Lib.hid (fun (h : ribOk l = true) => ok_pw h)
  unfold RrPost at HRR
  unfold RoPost at HIn
  unfold roV at HQ HIn
  unfold Rt.val rtV at *
  obtain ⟨a, cap, rfl, _⟩ := h
  rw [List.length_map] at *
  generalize putR l p r = S at *
  generalize putH ⟨p, false, r⟩ l = D at *
  rcases HW with ⟨h1, hf⟩ | ⟨h1, h2, hf⟩ | ⟨h1, h2, h3, hf⟩ | ⟨h1, h2, h3, h5, hf⟩ | ⟨h1, h2, h3, h5, h4, hf⟩
  · rw [hf] at HS
    have HR := Lib.hid (HS.out.trans (if_neg (show ¬ (2 : Int) = 0 by decide)))
    generalize l.length = n at *
    have hg : (400 : Int) < (n : Int) := by omega
    clear hf
    go_enter Try.func20, Try.ntmps20
    go_upto_region 1 with fail
    generalize (w.alloc (.cells #[.int .i64 r.kind, .int .i64 r.vni, .int .i64 r.mac, .int .i64 r.ip, .int .i64 r.org, .int .i64 r.seq, .bool r.st] 35)).alloc (.cells #[.slice none 0 0, .slice none 0 0, .int .i64 0] 33) = w0 at *
    go_wp2_with (go_at_call 70; refine (HQ.out _ _).mono ?_; rintro x w1 ⟨rfl, hb1⟩; have X1 := X0.kept hb1; have hc := X1.cell; have hf := X1.frozen; have HB1 := HB0.trans (hb1.mono HB0.size); clear hb1)
    have HY := Lib.hid (fill3 X1 HB1 (by omega) (.slice none 0 0) (.slice none 0 0) (.int .i64 2))
    generalize (((w1.setCell ⟨w.heap.size + 1, 0, none⟩ (.slice none 0 0)).setCell ⟨w.heap.size + 1, 1, none⟩ (.slice none 0 0)).setCell ⟨w.heap.size + 1, 2, none⟩ (.int .i64 2)) = w2 at *
    have hc2 := HY.out.1.cell
    refine bodyPost_ret (v := roV (.slice none 0 0) (.slice none 0 0) 2) (by simp [results, Try.results20, go_sem, roV, hc2]) rfl ?_
    exact RoPost.ill HR.out rfl HY.out.2
  · rw [hf] at HS
    have HR := Lib.hid (HS.out.trans (if_neg (show ¬ (1 : Int) = 0 by decide)))
    rw [h2] at HRR
    generalize l.length = n at *
    have hg : ¬ (400 : Int) < (n : Int) := by omega
    clear hf h2
    go_enter Try.func20, Try.ntmps20
    go_upto_region 1 with fail
    generalize (w.alloc (.cells #[.int .i64 r.kind, .int .i64 r.vni, .int .i64 r.mac, .int .i64 r.ip, .int .i64 r.org, .int .i64 r.seq, .bool r.st] 35)).alloc (.cells #[.slice none 0 0, .slice none 0 0, .int .i64 0] 33) = w0 at *
    go_wp2_with (first | (go_at_call 16; refine (HRR.out _ HB0).mono ?_; rintro x w3 ⟨rfl, hb3⟩; have X3 := X0.kept hb3; have Y3 := Y0.kept hb3; have hcy := Y3.cell; have HB3 := HB0.trans (hb3.mono HB0.size); clear hb3) | (go_at_call 70; refine (HQ.out _ _).mono ?_; rintro x w1 ⟨rfl, hb1⟩; have X1 := X3.kept hb1; have hc := X1.cell; have hf := X1.frozen; have HB1 := HB3.trans (hb1.mono HB3.size); clear hb1))
    have HY := Lib.hid (fill3 X1 HB1 (by omega) (.slice none 0 0) (.slice none 0 0) (.int .i64 1))
    generalize (((w1.setCell ⟨w.heap.size + 1, 0, none⟩ (.slice none 0 0)).setCell ⟨w.heap.size + 1, 1, none⟩ (.slice none 0 0)).setCell ⟨w.heap.size + 1, 2, none⟩ (.int .i64 1)) = w2 at *
    have hc2 := HY.out.1.cell
    refine bodyPost_ret (v := roV (.slice none 0 0) (.slice none 0 0) 1) (by simp [results, Try.results20, go_sem, roV, hc2]) rfl ?_
    exact RoPost.ill HR.out rfl HY.out.2
  · rw [hf] at HS
    have HR := Lib.hid (HS.out.trans (if_neg (show ¬ (1 : Int) = 0 by decide)))
    rw [h2] at HRR
    rw [h3] at HP
    generalize l.length = n at *
    have hg : ¬ (400 : Int) < (n : Int) := by omega
    clear hf h2 h3
    go_enter Try.func20, Try.ntmps20
    go_upto_region 1 with fail
    generalize (w.alloc (.cells #[.int .i64 r.kind, .int .i64 r.vni, .int .i64 r.mac, .int .i64 r.ip, .int .i64 r.org, .int .i64 r.seq, .bool r.st] 35)).alloc (.cells #[.slice none 0 0, .slice none 0 0, .int .i64 0] 33) = w0 at *
    go_wp2_with (first | (go_at_call 16; refine (HRR.out _ HB0).mono ?_; rintro x w3 ⟨rfl, hb3⟩; have X3 := X0.kept hb3; have Y3 := Y0.kept hb3; have hcy := Y3.cell; have HB3 := HB0.trans (hb3.mono HB0.size); clear hb3) | (go_at_call 62; refine (HP.out _).mono ?_; rintro x w4 ⟨rfl, rfl⟩) | (go_at_call 70; refine (HQ.out _ _).mono ?_; rintro x w1 ⟨rfl, hb1⟩; have X1 := X3.kept hb1; have hc := X1.cell; have hf := X1.frozen; have HB1 := HB3.trans (hb1.mono HB3.size); clear hb1))
    have HY := Lib.hid (fill3 X1 HB1 (by omega) (.slice none 0 0) (.slice none 0 0) (.int .i64 1))
    generalize (((w1.setCell ⟨w.heap.size + 1, 0, none⟩ (.slice none 0 0)).setCell ⟨w.heap.size + 1, 1, none⟩ (.slice none 0 0)).setCell ⟨w.heap.size + 1, 2, none⟩ (.int .i64 1)) = w2 at *
    have hc2 := HY.out.1.cell
    refine bodyPost_ret (v := roV (.slice none 0 0) (.slice none 0 0) 1) (by simp [results, Try.results20, go_sem, roV, hc2]) rfl ?_
    exact RoPost.ill HR.out rfl HY.out.2
  · rw [hf] at HS
    have HR := Lib.hid (HS.out.trans (if_neg (show ¬ (1 : Int) = 0 by decide)))
    rw [h2] at HRR
    rw [h3] at HP
    rw [h5] at HT
    generalize l.length = n at *
    have hg : ¬ (400 : Int) < (n : Int) := by omega
    clear hf h2 h3
    go_enter Try.func20, Try.ntmps20
    go_upto_region 1 with fail
    generalize (w.alloc (.cells #[.int .i64 r.kind, .int .i64 r.vni, .int .i64 r.mac, .int .i64 r.ip, .int .i64 r.org, .int .i64 r.seq, .bool r.st] 35)).alloc (.cells #[.slice none 0 0, .slice none 0 0, .int .i64 0] 33) = w0 at *
    go_wp2_with (first | (go_at_call 16; refine (HRR.out _ HB0).mono ?_; rintro x w3 ⟨rfl, hb3⟩; have X3 := X0.kept hb3; have Y3 := Y0.kept hb3; have hcy := Y3.cell; have HB3 := HB0.trans (hb3.mono HB0.size); clear hb3) | (go_at_call 62; refine (HP.out _).mono ?_; rintro x w4 ⟨rfl, rfl⟩) | (go_at_call 63; refine (HT.out _).mono ?_; rintro x w5 ⟨rfl, hb5⟩; replace X3 := X3.kept hb5; replace Y3 := Y3.kept hb5; replace HB3 := HB3.trans (hb5.mono HB3.size); clear hb5 hcy; have hcy := Y3.cell) | (go_at_call 70; refine (HQ.out _ _).mono ?_; rintro x w1 ⟨rfl, hb1⟩; have X1 := X3.kept hb1; have hc := X1.cell; have hf := X1.frozen; have HB1 := HB3.trans (hb1.mono HB3.size); clear hb1))
    have HY := Lib.hid (fill3 X1 HB1 (by omega) (.slice none 0 0) (.slice none 0 0) (.int .i64 1))
    generalize (((w1.setCell ⟨w.heap.size + 1, 0, none⟩ (.slice none 0 0)).setCell ⟨w.heap.size + 1, 1, none⟩ (.slice none 0 0)).setCell ⟨w.heap.size + 1, 2, none⟩ (.int .i64 1)) = w2 at *
    have hc2 := HY.out.1.cell
    refine bodyPost_ret (v := roV (.slice none 0 0) (.slice none 0 0) 1) (by simp [results, Try.results20, go_sem, roV, hc2]) rfl ?_
    exact RoPost.ill HR.out rfl HY.out.2
  · rw [hf] at HS
    have HR := Lib.hid (HS.out.trans (if_pos rfl))
    have HI6 := Lib.hid (HIn.out h4 (HPW.out h2))
    rw [h2] at HRR
    rw [h3] at HP
    rw [h5] at HT
    generalize l.length = n at *
    have hg : ¬ (400 : Int) < (n : Int) := by omega
    clear hf h2 h3
    go_enter Try.func20, Try.ntmps20
    go_upto_region 1 with fail
    generalize (w.alloc (.cells #[.int .i64 r.kind, .int .i64 r.vni, .int .i64 r.mac, .int .i64 r.ip, .int .i64 r.org, .int .i64 r.seq, .bool r.st] 35)).alloc (.cells #[.slice none 0 0, .slice none 0 0, .int .i64 0] 33) = w0 at *
    go_wp2_with (first | (go_at_call 16; refine (HRR.out _ HB0).mono ?_; rintro x w3 ⟨rfl, hb3⟩; have X3 := X0.kept hb3; have Y3 := Y0.kept hb3; have hcy := Y3.cell; have HB3 := HB0.trans (hb3.mono HB0.size); clear hb3) | (go_at_call 62; refine (HP.out _).mono ?_; rintro x w4 ⟨rfl, rfl⟩) | (go_at_call 63; refine (HT.out _).mono ?_; rintro x w5 ⟨rfl, hb5⟩; replace X3 := X3.kept hb5; replace Y3 := Y3.kept hb5; replace HB3 := HB3.trans (hb5.mono HB3.size); clear hb5 hcy; have hcy := Y3.cell))
    refine (HI6.out _ HB3).mono ?_
    rintro x w1 ⟨dv, dt, rfl, ho, ht, hap, hb1⟩
    have X1 := X3.kept hb1
    have hc := X1.cell
    have hfz := X1.frozen
    have HB1 := HB3.trans (hb1.mono HB3.size)
    have hne : dv.ownBlock ≠ some (w.heap.size + 1) := fun e => by have := (ho.lt _ e).1; have := X3.lt; omega
    have hnt : dt.ownBlock ≠ some (w.heap.size + 1) := fun e => by have := (ht.lt _ e).1; have := X3.lt; omega
    have HO := Lib.hid (rown_mono (B' := w.heap.size) ho HB3.size)
    have HTt := Lib.hid (rown_mono (B' := w.heap.size) ht HB3.size)
    obtain ⟨da, dc, rfl⟩ := rown_form ho
    obtain ⟨ta, tc, rfl⟩ := rown_form ht
    clear hb1 ho ht hcy
    have HAP := Lib.hid hap
    clear hap
    go_wp2_with fail
    have HY := Lib.hid (fill3 X1 HB1 (by omega) (.slice da D.rib.length dc) (.slice ta D.gone.length tc) (.int .i64 D.code))
    have HO2 := Lib.hid (own_far3 HO.out hne (.slice da D.rib.length dc) (.slice ta D.gone.length tc) (.int .i64 D.code))
    have HT2 := Lib.hid (own_far3 HTt.out hnt (.slice da D.rib.length dc) (.slice ta D.gone.length tc) (.int .i64 D.code))
    generalize (((w1.setCell ⟨w.heap.size + 1, 0, none⟩ (.slice da D.rib.length dc)).setCell ⟨w.heap.size + 1, 1, none⟩ (.slice ta D.gone.length tc)).setCell ⟨w.heap.size + 1, 2, none⟩ (.int .i64 D.code)) = w2 at *
    have hc2 := HY.out.1.cell
    refine bodyPost_ret (v := roV (.slice da D.rib.length dc) (.slice ta D.gone.length tc) D.code) (by simp [results, Try.results20, go_sem, roV, hc2]) rfl ?_
    rw [HR.out]
    exact RoPost.good rfl HO2.out HT2.out HAP.out HY.out.2
end Go.Proofs.Ytmkoppbbenombaa
