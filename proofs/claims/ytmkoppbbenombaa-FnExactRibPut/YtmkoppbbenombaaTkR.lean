/- RibTake of the model, whole. -/
import Derived.Test.YtmkoppbbenombaaTkT
namespace Go.Proofs.Ytmkoppbbenombaa
open Go.RowKit

inductive RFaultWay (l : List Hd) (p : Int) (r : Rt) : Prop
  | long (h1 : 400 < l.length) (hf : faultR l p r = 2)
  | wrong (h1 : ¬ 400 < l.length) (h2 : ribOk l = false) (hf : faultR l p r = 1)
  | peer (h1 : ¬ 400 < l.length) (h2 : ribOk l = true) (h3 : inR p 1 9 = false) (hf : faultR l p r = 1)
  | route (h1 : ¬ 400 < l.length) (h2 : ribOk l = true) (h3 : inR p 1 9 = true) (h5 : r.right = false) (hf : faultR l p r = 1)
  | ok (h1 : ¬ 400 < l.length) (h2 : ribOk l = true) (h3 : inR p 1 9 = true) (h5 : r.right = true) (h4 : l.length ≤ 60) (hf : faultR l p r = 0)
theorem rfault_way (l : List Hd) (p : Int) (r : Rt) : RFaultWay l p r := by
  by_cases h1 : 400 < l.length
  · exact .long h1 (by rw [faultR, show faultOf l p = 2 by rw [faultOf, if_pos h1], if_neg (by decide)])
  cases h2 : ribOk l
  · exact .wrong h1 h2 (by rw [faultR, show faultOf l p = 1 by rw [faultOf, if_neg h1, if_neg (by simp [h2])], if_neg (by decide)])
  cases h3 : inR p 1 9
  · exact .peer h1 h2 h3 (by rw [faultR, show faultOf l p = 1 by rw [faultOf, if_neg h1, if_pos h2, if_neg (by simp [h3])], if_neg (by decide)])
  have h0 : faultOf l p = 0 := by rw [faultOf, if_neg h1, if_pos h2, if_pos h3]
  cases h5 : r.right
  · exact .route h1 h2 h3 h5 (by rw [faultR, h0, if_pos rfl, if_neg (by simp [h5])])
  · exact .ok h1 h2 h3 h5 (ribOk_le h2) (by rw [faultR, h0, if_pos rfl, if_pos h5])
theorem takeR_is (l : List Hd) (p : Int) (r : Rt) : takeR l p r = if faultR l p r = 0 then takeIn ⟨p, false, r⟩ l else roIll (faultR l p r) := rfl
set_option maxRecDepth 100000 in
set_option maxHeartbeats 4000000 in
theorem specRibTake_any (l : List Hd) (v : Value) (p : Int) (r : Rt) (w : World) (h : HdsAt w v l) (_hnil : NilOk v) (hn : l.length ≤ 1048576) :
    Calls Try.prog 27 #[v, .int .i64 p, r.val] w (RoPost (takeR l p r) w) := by
  have Y0 := Blk.new w 35 #[.int .i64 r.kind, .int .i64 r.vni, .int .i64 r.mac, .int .i64 r.ip, .int .i64 r.org, .int .i64 r.seq, .bool r.st]
  have X0 := Blk.new (w.alloc (.cells #[.int .i64 r.kind, .int .i64 r.vni, .int .i64 r.mac, .int .i64 r.ip, .int .i64 r.org, .int .i64 r.seq, .bool r.st] 35)) 33 #[.slice none 0 0, .slice none 0 0, .int .i64 0]
  rw [World.size_alloc] at X0
  replace Y0 := Y0.alloc (.cells #[.slice none 0 0, .slice none 0 0, .int .i64 0] 33)
  have HB0 : Below w.heap.size w ((w.alloc (.cells #[.int .i64 r.kind, .int .i64 r.vni, .int .i64 r.mac, .int .i64 r.ip, .int .i64 r.org, .int .i64 r.seq, .bool r.st] 35)).alloc (.cells #[.slice none 0 0, .slice none 0 0, .int .i64 0] 33)) := ((Below.refl _ _).alloc (Nat.le_refl _) _).alloc (by simp) _
  have HRR := Lib.hid (fun (W' : World) (hb : Below w.heap.size w W') => specRibRight_any l v W' (SlAt.kept h hb) hn)
  have HIn := Lib.hid (fun (h60 : l.length ≤ 60) (W' : World) (hb : Below w.heap.size w W') => specTakeIn_any l v p r W' (SlAt.kept h hb) h60)
  have HP := Lib.hid (specPeer_any p)
  have HT := Lib.hid (specRight_any r)
  have HQ := Lib.hid (fun (c : Int) => specIll6_any c)
  have HW := rfault_way l p r
  have HS := Lib.hid (takeR_is l p r)
  have HPW := Lib.hid (fun (h : ribOk l = true) => ok_pw h)
  unfold RrPost at HRR
  unfold RoPost at HIn
  unfold roV at HQ HIn
  unfold Rt.val rtV at *
  obtain ⟨a, cap, rfl, _⟩ := h
  rw [List.length_map] at *
  generalize takeR l p r = S at *
  generalize takeIn ⟨p, false, r⟩ l = D at *
  rcases HW with ⟨h1, hf⟩ | ⟨h1, h2, hf⟩ | ⟨h1, h2, h3, hf⟩ | ⟨h1, h2, h3, h5, hf⟩ | ⟨h1, h2, h3, h5, h4, hf⟩
  · rw [hf] at HS
    have HR := Lib.hid (HS.out.trans (if_neg (show ¬ (2 : Int) = 0 by decide)))
    generalize l.length = n at *
    have hg : (400 : Int) < (n : Int) := by omega
    clear hf
    go_enter Try.func27, Try.ntmps27
    go_upto_region 1 with fail
    generalize (w.alloc (.cells #[.int .i64 r.kind, .int .i64 r.vni, .int .i64 r.mac, .int .i64 r.ip, .int .i64 r.org, .int .i64 r.seq, .bool r.st] 35)).alloc (.cells #[.slice none 0 0, .slice none 0 0, .int .i64 0] 33) = w0 at *
    go_wp2_with (go_at_call 70; refine (HQ.out _ _).mono ?_; rintro x w1 ⟨rfl, hb1⟩; have X1 := X0.kept hb1; have hc := X1.cell; have hf := X1.frozen; have HB1 := HB0.trans (hb1.mono HB0.size); clear hb1)
    have HY := Lib.hid (fill3 X1 HB1 (by omega) (.slice none 0 0) (.slice none 0 0) (.int .i64 2))
    generalize (((w1.setCell ⟨w.heap.size + 1, 0, none⟩ (.slice none 0 0)).setCell ⟨w.heap.size + 1, 1, none⟩ (.slice none 0 0)).setCell ⟨w.heap.size + 1, 2, none⟩ (.int .i64 2)) = w2 at *
    have hc2 := HY.out.1.cell
    refine bodyPost_ret (v := roV (.slice none 0 0) (.slice none 0 0) 2) (by simp [results, Try.results27, go_sem, roV, hc2]) rfl ?_
    exact RoPost.ill HR.out rfl HY.out.2
  · rw [hf] at HS
    have HR := Lib.hid (HS.out.trans (if_neg (show ¬ (1 : Int) = 0 by decide)))
    rw [h2] at HRR
    generalize l.length = n at *
    have hg : ¬ (400 : Int) < (n : Int) := by omega
    clear hf h2
    go_enter Try.func27, Try.ntmps27
    go_upto_region 1 with fail
    generalize (w.alloc (.cells #[.int .i64 r.kind, .int .i64 r.vni, .int .i64 r.mac, .int .i64 r.ip, .int .i64 r.org, .int .i64 r.seq, .bool r.st] 35)).alloc (.cells #[.slice none 0 0, .slice none 0 0, .int .i64 0] 33) = w0 at *
    go_wp2_with (first | (go_at_call 16; refine (HRR.out _ HB0).mono ?_; rintro x w3 ⟨rfl, hb3⟩; have X3 := X0.kept hb3; have Y3 := Y0.kept hb3; have hcy := Y3.cell; have HB3 := HB0.trans (hb3.mono HB0.size); clear hb3) | (go_at_call 70; refine (HQ.out _ _).mono ?_; rintro x w1 ⟨rfl, hb1⟩; have X1 := X3.kept hb1; have hc := X1.cell; have hf := X1.frozen; have HB1 := HB3.trans (hb1.mono HB3.size); clear hb1))
    have HY := Lib.hid (fill3 X1 HB1 (by omega) (.slice none 0 0) (.slice none 0 0) (.int .i64 1))
    generalize (((w1.setCell ⟨w.heap.size + 1, 0, none⟩ (.slice none 0 0)).setCell ⟨w.heap.size + 1, 1, none⟩ (.slice none 0 0)).setCell ⟨w.heap.size + 1, 2, none⟩ (.int .i64 1)) = w2 at *
    have hc2 := HY.out.1.cell
    refine bodyPost_ret (v := roV (.slice none 0 0) (.slice none 0 0) 1) (by simp [results, Try.results27, go_sem, roV, hc2]) rfl ?_
    exact RoPost.ill HR.out rfl HY.out.2
  · rw [hf] at HS
    have HR := Lib.hid (HS.out.trans (if_neg (show ¬ (1 : Int) = 0 by decide)))
    rw [h2] at HRR
    rw [h3] at HP
    generalize l.length = n at *
    have hg : ¬ (400 : Int) < (n : Int) := by omega
    clear hf h2 h3
    go_enter Try.func27, Try.ntmps27
    go_upto_region 1 with fail
    generalize (w.alloc (.cells #[.int .i64 r.kind, .int .i64 r.vni, .int .i64 r.mac, .int .i64 r.ip, .int .i64 r.org, .int .i64 r.seq, .bool r.st] 35)).alloc (.cells #[.slice none 0 0, .slice none 0 0, .int .i64 0] 33) = w0 at *
    go_wp2_with (first | (go_at_call 16; refine (HRR.out _ HB0).mono ?_; rintro x w3 ⟨rfl, hb3⟩; have X3 := X0.kept hb3; have Y3 := Y0.kept hb3; have hcy := Y3.cell; have HB3 := HB0.trans (hb3.mono HB0.size); clear hb3) | (go_at_call 62; refine (HP.out _).mono ?_; rintro x w4 ⟨rfl, rfl⟩) | (go_at_call 70; refine (HQ.out _ _).mono ?_; rintro x w1 ⟨rfl, hb1⟩; have X1 := X3.kept hb1; have hc := X1.cell; have hf := X1.frozen; have HB1 := HB3.trans (hb1.mono HB3.size); clear hb1))
    have HY := Lib.hid (fill3 X1 HB1 (by omega) (.slice none 0 0) (.slice none 0 0) (.int .i64 1))
    generalize (((w1.setCell ⟨w.heap.size + 1, 0, none⟩ (.slice none 0 0)).setCell ⟨w.heap.size + 1, 1, none⟩ (.slice none 0 0)).setCell ⟨w.heap.size + 1, 2, none⟩ (.int .i64 1)) = w2 at *
    have hc2 := HY.out.1.cell
    refine bodyPost_ret (v := roV (.slice none 0 0) (.slice none 0 0) 1) (by simp [results, Try.results27, go_sem, roV, hc2]) rfl ?_
    exact RoPost.ill HR.out rfl HY.out.2
  · rw [hf] at HS
    have HR := Lib.hid (HS.out.trans (if_neg (show ¬ (1 : Int) = 0 by decide)))
    rw [h2] at HRR
    rw [h3] at HP
    rw [h5] at HT
    generalize l.length = n at *
    have hg : ¬ (400 : Int) < (n : Int) := by omega
    clear hf h2 h3
    go_enter Try.func27, Try.ntmps27
    go_upto_region 1 with fail
    generalize (w.alloc (.cells #[.int .i64 r.kind, .int .i64 r.vni, .int .i64 r.mac, .int .i64 r.ip, .int .i64 r.org, .int .i64 r.seq, .bool r.st] 35)).alloc (.cells #[.slice none 0 0, .slice none 0 0, .int .i64 0] 33) = w0 at *
    go_wp2_with (first | (go_at_call 16; refine (HRR.out _ HB0).mono ?_; rintro x w3 ⟨rfl, hb3⟩; have X3 := X0.kept hb3; have Y3 := Y0.kept hb3; have hcy := Y3.cell; have HB3 := HB0.trans (hb3.mono HB0.size); clear hb3) | (go_at_call 62; refine (HP.out _).mono ?_; rintro x w4 ⟨rfl, rfl⟩) | (go_at_call 63; refine (HT.out _).mono ?_; rintro x w5 ⟨rfl, hb5⟩; replace X3 := X3.kept hb5; replace Y3 := Y3.kept hb5; replace HB3 := HB3.trans (hb5.mono HB3.size); clear hb5 hcy; have hcy := Y3.cell) | (go_at_call 70; refine (HQ.out _ _).mono ?_; rintro x w1 ⟨rfl, hb1⟩; have X1 := X3.kept hb1; have hc := X1.cell; have hf := X1.frozen; have HB1 := HB3.trans (hb1.mono HB3.size); clear hb1))
    have HY := Lib.hid (fill3 X1 HB1 (by omega) (.slice none 0 0) (.slice none 0 0) (.int .i64 1))
    generalize (((w1.setCell ⟨w.heap.size + 1, 0, none⟩ (.slice none 0 0)).setCell ⟨w.heap.size + 1, 1, none⟩ (.slice none 0 0)).setCell ⟨w.heap.size + 1, 2, none⟩ (.int .i64 1)) = w2 at *
    have hc2 := HY.out.1.cell
    refine bodyPost_ret (v := roV (.slice none 0 0) (.slice none 0 0) 1) (by simp [results, Try.results27, go_sem, roV, hc2]) rfl ?_
    exact RoPost.ill HR.out rfl HY.out.2
  · rw [hf] at HS
    have HR := Lib.hid (HS.out.trans (if_pos rfl))
    have HI6 := Lib.hid (HIn.out h4)
    rw [h2] at HRR
    rw [h3] at HP
    rw [h5] at HT
    generalize l.length = n at *
    have hg : ¬ (400 : Int) < (n : Int) := by omega
    clear hf h2 h3
    go_enter Try.func27, Try.ntmps27
    go_upto_region 1 with fail
    generalize (w.alloc (.cells #[.int .i64 r.kind, .int .i64 r.vni, .int .i64 r.mac, .int .i64 r.ip, .int .i64 r.org, .int .i64 r.seq, .bool r.st] 35)).alloc (.cells #[.slice none 0 0, .slice none 0 0, .int .i64 0] 33) = w0 at *
    go_wp2_with (first | (go_at_call 16; refine (HRR.out _ HB0).mono ?_; rintro x w3 ⟨rfl, hb3⟩; have X3 := X0.kept hb3; have Y3 := Y0.kept hb3; have hcy := Y3.cell; have HB3 := HB0.trans (hb3.mono HB0.size); clear hb3) | (go_at_call 62; refine (HP.out _).mono ?_; rintro x w4 ⟨rfl, rfl⟩) | (go_at_call 63; refine (HT.out _).mono ?_; rintro x w5 ⟨rfl, hb5⟩; replace X3 := X3.kept hb5; replace Y3 := Y3.kept hb5; replace HB3 := HB3.trans (hb5.mono HB3.size); clear hb5 hcy; have hcy := Y3.cell))
    refine (HI6.out _ HB3).mono ?_
    rintro x w1 ⟨dv, dt, rfl, ho, ht, hap, hb1⟩
    have X1 := X3.kept hb1
    have hc := X1.cell
    have hfz := X1.frozen
    have HB1 := HB3.trans (hb1.mono HB3.size)
    have hne : dv.ownBlock ≠ some (w.heap.size + 1) := fun e => by have := (ho.lt _ e).1; have := X3.lt; omega
    have hnt : dt.ownBlock ≠ some (w.heap.size + 1) := fun e => by have := (ht.lt _ e).1; have := X3.lt; omega
    have HO := Lib.hid (rown_mono (B' := w.heap.size) ho HB3.size)
    have HTt := Lib.hid (rown_mono (B' := w.heap.size) ht HB3.size)
    obtain ⟨da, dc, rfl⟩ := rown_form ho
    obtain ⟨ta, tc, rfl⟩ := rown_form ht
    clear hb1 ho ht hcy
    have HAP := Lib.hid hap
    clear hap
    go_wp2_with fail
    have HY := Lib.hid (fill3 X1 HB1 (by omega) (.slice da D.rib.length dc) (.slice ta D.gone.length tc) (.int .i64 D.code))
    have HO2 := Lib.hid (own_far3 HO.out hne (.slice da D.rib.length dc) (.slice ta D.gone.length tc) (.int .i64 D.code))
    have HT2 := Lib.hid (own_far3 HTt.out hnt (.slice da D.rib.length dc) (.slice ta D.gone.length tc) (.int .i64 D.code))
    generalize (((w1.setCell ⟨w.heap.size + 1, 0, none⟩ (.slice da D.rib.length dc)).setCell ⟨w.heap.size + 1, 1, none⟩ (.slice ta D.gone.length tc)).setCell ⟨w.heap.size + 1, 2, none⟩ (.int .i64 D.code)) = w2 at *
    have hc2 := HY.out.1.cell
    refine bodyPost_ret (v := roV (.slice da D.rib.length dc) (.slice ta D.gone.length tc) D.code) (by simp [results, Try.results27, go_sem, roV, hc2]) rfl ?_
    rw [HR.out]
    exact RoPost.good rfl HO2.out HT2.out HAP.out HY.out.2
end Go.Proofs.Ytmkoppbbenombaa
