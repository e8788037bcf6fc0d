import Derived.Test.YtdnpaopbicdolaaGreatPtS
import Derived.Test.YtdnpaopbicdolaaGreatTkR
import Derived.Test.YtdnpaopbicdolaaGreatSwW
/- RibPut of the model, whole; its mathematics. -/
namespace Go.Proofs.YtdnpaopbicdolaaGreat
open Go.RowKit

def putR (l : List Hd) (p : Int) (r : Rt) : Ro := if faultR l p r = 0 then putH ⟨p, false, r⟩ l else roIll (faultR l p r)
theorem putR_is (l : List Hd) (p : Int) (r : Rt) : putR l p r = if faultR l p r = 0 then putH ⟨p, false, r⟩ l else roIll (faultR l p r) := rfl
theorem putR_len (l : List Hd) (p : Int) (r : Rt) : (putR l p r).rib.length + (putR l p r).gone.length ≤ 200 := by
  unfold putR
  split
  · rename_i h
    have h4 := (fault_zero (faultR_zero h).1).2
    unfold putH
    split
    · simp [roIll]
    · have := insL_len (lt := LtH) (⟨p, false, r⟩ : Hd) l
      dsimp only
      simp
      omega
  · simp [roIll]
theorem putR_ill {l : List Hd} {p c : Int} {r : Rt} (h : faultR l p r = c) (hc : c ≠ 0) : putR l p r = roIll c := by rw [putR, h, if_neg hc]
set_option maxRecDepth 100000 in
set_option maxHeartbeats 4000000 in
theorem specRibPut_any (l : List Hd) (v : Value) (p : Int) (r : Rt) (w : World) (h : HdsAt w v l) (hnc : NcOk v) (hn : l.length ≤ 1048576) :
    Calls Tryz.prog 14 #[v, .int .i64 p, r.val] w (RoPost (putR l p r) w) := by
  have Y0 := Blk.new w 25 #[.int .i64 r.kind, .int .i64 r.vni, .int .i64 r.mac, .int .i64 r.ip, .int .i64 r.org, .int .i64 r.seq, .bool r.st]
  have X0 := Blk.new (w.alloc (.cells #[.int .i64 r.kind, .int .i64 r.vni, .int .i64 r.mac, .int .i64 r.ip, .int .i64 r.org, .int .i64 r.seq, .bool r.st] 25)) 30 #[.slice none 0 0, .slice none 0 0, .int .i64 0]
  rw [World.size_alloc] at X0
  replace Y0 := Y0.alloc (.cells #[.slice none 0 0, .slice none 0 0, .int .i64 0] 30)
  have HB0 : Below w.heap.size w ((w.alloc (.cells #[.int .i64 r.kind, .int .i64 r.vni, .int .i64 r.mac, .int .i64 r.ip, .int .i64 r.org, .int .i64 r.seq, .bool r.st] 25)).alloc (.cells #[.slice none 0 0, .slice none 0 0, .int .i64 0] 30)) := ((Below.refl _ _).alloc (Nat.le_refl _) _).alloc (by simp) _
  have HRR := Lib.hid (fun (W' : World) (hb : Below w.heap.size w W') => specRibRight_any l v W' (SlAt.kept h hb) hn)
  have HIn := Lib.hid (fun (h60 : l.length ≤ 60) (hpw : l.Pairwise LtH) (W' : World) (hb : Below w.heap.size w W') => specPutIn_any l v p r W' (SlAt.kept h hb) hnc h60 hpw)
  have HP := Lib.hid (specPeer_any p)
  have HT := Lib.hid (specRight_any r)
  have HQ := Lib.hid (fun (c : Int) => specIll6_any c)
  have HW := rfault_way l p r
  have HS := Lib.hid (putR_is l p r)
  have HPW := Lib.hid (fun (h : ribOk l = true) => ok_pw h)
  unfold RrPost at HRR
  unfold RoPost at HIn
  unfold roV at HQ HIn
  unfold Rt.val rtV at *
  obtain ⟨a, cap, rfl, _⟩ := h
  rw [List.length_map] at *
  generalize putR l p r = S at *
  generalize putH ⟨p, false, r⟩ l = D at *
  rcases HW with ⟨h1, hf⟩ | ⟨h1, h2, hf⟩ | ⟨h1, h2, h3, hf⟩ | ⟨h1, h2, h3, h5, hf⟩ | ⟨h1, h2, h3, h5, h4, hf⟩
  · rw [hf] at HS
    have HR := Lib.hid (HS.out.trans (if_neg (show ¬ (2 : Int) = 0 by decide)))
    generalize l.length = n at *
    have hg : (400 : Int) < (n : Int) := by omega
    clear hf
    go_enter Tryz.func14, Tryz.ntmps14
    go_upto_region 1 with fail
    generalize (w.alloc (.cells #[.int .i64 r.kind, .int .i64 r.vni, .int .i64 r.mac, .int .i64 r.ip, .int .i64 r.org, .int .i64 r.seq, .bool r.st] 25)).alloc (.cells #[.slice none 0 0, .slice none 0 0, .int .i64 0] 30) = w0 at *
    go_wp2_with (go_at_call 40; refine (HQ.out _ _).mono ?_; rintro x w1 ⟨rfl, hb1⟩; have X1 := X0.kept hb1; have hc := X1.cell; have hf := X1.frozen; have HB1 := HB0.trans (hb1.mono HB0.size); clear hb1)
    have HY := Lib.hid (fill3 X1 HB1 (by omega) (.slice none 0 0) (.slice none 0 0) (.int .i64 2))
    generalize (((w1.setCell ⟨w.heap.size + 1, 0, none⟩ (.slice none 0 0)).setCell ⟨w.heap.size + 1, 1, none⟩ (.slice none 0 0)).setCell ⟨w.heap.size + 1, 2, none⟩ (.int .i64 2)) = w2 at *
    have hc2 := HY.out.1.cell
    refine bodyPost_ret (v := roV (.slice none 0 0) (.slice none 0 0) 2) (by simp [results, Tryz.results14, go_sem, roV, hc2]) rfl ?_
    exact RoPost.ill HR.out rfl HY.out.2
  · rw [hf] at HS
    have HR := Lib.hid (HS.out.trans (if_neg (show ¬ (1 : Int) = 0 by decide)))
    rw [h2] at HRR
    generalize l.length = n at *
    have hg : ¬ (400 : Int) < (n : Int) := by omega
    clear hf h2
    go_enter Tryz.func14, Tryz.ntmps14
    go_upto_region 1 with fail
    generalize (w.alloc (.cells #[.int .i64 r.kind, .int .i64 r.vni, .int .i64 r.mac, .int .i64 r.ip, .int .i64 r.org, .int .i64 r.seq, .bool r.st] 25)).alloc (.cells #[.slice none 0 0, .slice none 0 0, .int .i64 0] 30) = w0 at *
    go_wp2_with (first | (go_at_call 25; refine (HRR.out _ HB0).mono ?_; rintro x w3 ⟨rfl, hb3⟩; have X3 := X0.kept hb3; have Y3 := Y0.kept hb3; have hcy := Y3.cell; have HB3 := HB0.trans (hb3.mono HB0.size); clear hb3) | (go_at_call 40; refine (HQ.out _ _).mono ?_; rintro x w1 ⟨rfl, hb1⟩; have X1 := X3.kept hb1; have hc := X1.cell; have hf := X1.frozen; have HB1 := HB3.trans (hb1.mono HB3.size); clear hb1))
    have HY := Lib.hid (fill3 X1 HB1 (by omega) (.slice none 0 0) (.slice none 0 0) (.int .i64 1))
    generalize (((w1.setCell ⟨w.heap.size + 1, 0, none⟩ (.slice none 0 0)).setCell ⟨w.heap.size + 1, 1, none⟩ (.slice none 0 0)).setCell ⟨w.heap.size + 1, 2, none⟩ (.int .i64 1)) = w2 at *
    have hc2 := HY.out.1.cell
    refine bodyPost_ret (v := roV (.slice none 0 0) (.slice none 0 0) 1) (by simp [results, Tryz.results14, go_sem, roV, hc2]) rfl ?_
    exact RoPost.ill HR.out rfl HY.out.2
  · rw [hf] at HS
    have HR := Lib.hid (HS.out.trans (if_neg (show ¬ (1 : Int) = 0 by decide)))
    rw [h2] at HRR
    rw [h3] at HP
    generalize l.length = n at *
    have hg : ¬ (400 : Int) < (n : Int) := by omega
    clear hf h2 h3
    go_enter Tryz.func14, Tryz.ntmps14
    go_upto_region 1 with fail
    generalize (w.alloc (.cells #[.int .i64 r.kind, .int .i64 r.vni, .int .i64 r.mac, .int .i64 r.ip, .int .i64 r.org, .int .i64 r.seq, .bool r.st] 25)).alloc (.cells #[.slice none 0 0, .slice none 0 0, .int .i64 0] 30) = w0 at *
    go_wp2_with (first | (go_at_call 25; refine (HRR.out _ HB0).mono ?_; rintro x w3 ⟨rfl, hb3⟩; have X3 := X0.kept hb3; have Y3 := Y0.kept hb3; have hcy := Y3.cell; have HB3 := HB0.trans (hb3.mono HB0.size); clear hb3) | (go_at_call 41; refine (HP.out _).mono ?_; rintro x w4 ⟨rfl, rfl⟩) | (go_at_call 40; refine (HQ.out _ _).mono ?_; rintro x w1 ⟨rfl, hb1⟩; have X1 := X3.kept hb1; have hc := X1.cell; have hf := X1.frozen; have HB1 := HB3.trans (hb1.mono HB3.size); clear hb1))
    have HY := Lib.hid (fill3 X1 HB1 (by omega) (.slice none 0 0) (.slice none 0 0) (.int .i64 1))
    generalize (((w1.setCell ⟨w.heap.size + 1, 0, none⟩ (.slice none 0 0)).setCell ⟨w.heap.size + 1, 1, none⟩ (.slice none 0 0)).setCell ⟨w.heap.size + 1, 2, none⟩ (.int .i64 1)) = w2 at *
    have hc2 := HY.out.1.cell
    refine bodyPost_ret (v := roV (.slice none 0 0) (.slice none 0 0) 1) (by simp [results, Tryz.results14, go_sem, roV, hc2]) rfl ?_
    exact RoPost.ill HR.out rfl HY.out.2
  · rw [hf] at HS
    have HR := Lib.hid (HS.out.trans (if_neg (show ¬ (1 : Int) = 0 by decide)))
    rw [h2] at HRR
    rw [h3] at HP
    rw [h5] at HT
    generalize l.length = n at *
    have hg : ¬ (400 : Int) < (n : Int) := by omega
    clear hf h2 h3
    go_enter Tryz.func14, Tryz.ntmps14
    go_upto_region 1 with fail
    generalize (w.alloc (.cells #[.int .i64 r.kind, .int .i64 r.vni, .int .i64 r.mac, .int .i64 r.ip, .int .i64 r.org, .int .i64 r.seq, .bool r.st] 25)).alloc (.cells #[.slice none 0 0, .slice none 0 0, .int .i64 0] 30) = w0 at *
    go_wp2_with (first | (go_at_call 25; refine (HRR.out _ HB0).mono ?_; rintro x w3 ⟨rfl, hb3⟩; have X3 := X0.kept hb3; have Y3 := Y0.kept hb3; have hcy := Y3.cell; have HB3 := HB0.trans (hb3.mono HB0.size); clear hb3) | (go_at_call 41; refine (HP.out _).mono ?_; rintro x w4 ⟨rfl, rfl⟩) | (go_at_call 42; refine (HT.out _).mono ?_; rintro x w5 ⟨rfl, hb5⟩; replace X3 := X3.kept hb5; replace Y3 := Y3.kept hb5; replace HB3 := HB3.trans (hb5.mono HB3.size); clear hb5 hcy; have hcy := Y3.cell) | (go_at_call 40; refine (HQ.out _ _).mono ?_; rintro x w1 ⟨rfl, hb1⟩; have X1 := X3.kept hb1; have hc := X1.cell; have hf := X1.frozen; have HB1 := HB3.trans (hb1.mono HB3.size); clear hb1))
    have HY := Lib.hid (fill3 X1 HB1 (by omega) (.slice none 0 0) (.slice none 0 0) (.int .i64 1))
    generalize (((w1.setCell ⟨w.heap.size + 1, 0, none⟩ (.slice none 0 0)).setCell ⟨w.heap.size + 1, 1, none⟩ (.slice none 0 0)).setCell ⟨w.heap.size + 1, 2, none⟩ (.int .i64 1)) = w2 at *
    have hc2 := HY.out.1.cell
    refine bodyPost_ret (v := roV (.slice none 0 0) (.slice none 0 0) 1) (by simp [results, Tryz.results14, go_sem, roV, hc2]) rfl ?_
    exact RoPost.ill HR.out rfl HY.out.2
  · rw [hf] at HS
    have HR := Lib.hid (HS.out.trans (if_pos rfl))
    have HI6 := Lib.hid (HIn.out h4 (HPW.out h2))
    rw [h2] at HRR
    rw [h3] at HP
    rw [h5] at HT
    generalize l.length = n at *
    have hg : ¬ (400 : Int) < (n : Int) := by omega
    clear hf h2 h3
    go_enter Tryz.func14, Tryz.ntmps14
    go_upto_region 1 with fail
    generalize (w.alloc (.cells #[.int .i64 r.kind, .int .i64 r.vni, .int .i64 r.mac, .int .i64 r.ip, .int .i64 r.org, .int .i64 r.seq, .bool r.st] 25)).alloc (.cells #[.slice none 0 0, .slice none 0 0, .int .i64 0] 30) = w0 at *
    go_wp2_with (first | (go_at_call 25; refine (HRR.out _ HB0).mono ?_; rintro x w3 ⟨rfl, hb3⟩; have X3 := X0.kept hb3; have Y3 := Y0.kept hb3; have hcy := Y3.cell; have HB3 := HB0.trans (hb3.mono HB0.size); clear hb3) | (go_at_call 41; refine (HP.out _).mono ?_; rintro x w4 ⟨rfl, rfl⟩) | (go_at_call 42; refine (HT.out _).mono ?_; rintro x w5 ⟨rfl, hb5⟩; replace X3 := X3.kept hb5; replace Y3 := Y3.kept hb5; replace HB3 := HB3.trans (hb5.mono HB3.size); clear hb5 hcy; have hcy := Y3.cell))
    refine (HI6.out _ HB3).mono ?_
    rintro x w1 ⟨dv, dt, rfl, ho, ht, hap, hb1⟩
    have X1 := X3.kept hb1
    have hc := X1.cell
    have hfz := X1.frozen
    have HB1 := HB3.trans (hb1.mono HB3.size)
    have hne : dv.ownBlock ≠ some (w.heap.size + 1) := fun e => by have := (ho.lt _ e).1; have := X3.lt; omega
    have hnt : dt.ownBlock ≠ some (w.heap.size + 1) := fun e => by have := (ht.lt _ e).1; have := X3.lt; omega
    have HO := Lib.hid (rown_mono (B' := w.heap.size) ho HB3.size)
    have HTt := Lib.hid (rown_mono (B' := w.heap.size) ht HB3.size)
    obtain ⟨da, dc, rfl⟩ := rown_form ho
    obtain ⟨ta, tc, rfl⟩ := rown_form ht
    clear hb1 ho ht hcy
    have HAP := Lib.hid hap
    clear hap
    go_wp2_with fail
    have HY := Lib.hid (fill3 X1 HB1 (by omega) (.slice da D.rib.length dc) (.slice ta D.gone.length tc) (.int .i64 D.code))
    have HO2 := Lib.hid (own_far3 HO.out hne (.slice da D.rib.length dc) (.slice ta D.gone.length tc) (.int .i64 D.code))
    have HT2 := Lib.hid (own_far3 HTt.out hnt (.slice da D.rib.length dc) (.slice ta D.gone.length tc) (.int .i64 D.code))
    generalize (((w1.setCell ⟨w.heap.size + 1, 0, none⟩ (.slice da D.rib.length dc)).setCell ⟨w.heap.size + 1, 1, none⟩ (.slice ta D.gone.length tc)).setCell ⟨w.heap.size + 1, 2, none⟩ (.int .i64 D.code)) = w2 at *
    have hc2 := HY.out.1.cell
    refine bodyPost_ret (v := roV (.slice da D.rib.length dc) (.slice ta D.gone.length tc) D.code) (by simp [results, Tryz.results14, go_sem, roV, hc2]) rfl ?_
    rw [HR.out]
    exact RoPost.good rfl HO2.out HT2.out HAP.out HY.out.2
end Go.Proofs.YtdnpaopbicdolaaGreat

/- RibPut of the program. -/
namespace Go.Proofs.YtdnpaopbicdolaaGreat
open Go.RowKit

theorem MapS.len {W : World} {M clock : Nat} {E : List (Hd × Nat)} (h : MapS W M E clock) (ty : TypeId) : (Builtin.len_ #[56] ty #[.map (some M)]).run Tryz.prog W = .ok (.int .i64 (E.length : Int)) W := by
  simp [Builtin.len_, run_underlying mapS_type, MapKept.run_getObj_map h.obj, goInt, Result.andThen, mkE]
theorem zip_some {l : List Hd} {z : Hd} (h : z ∈ l) : ∃ b, (z, b) ∈ l.zipIdx := by
  obtain ⟨k, hk, e⟩ := List.getElem_of_mem h
  exact ⟨k, List.mk_mem_zipIdx_iff_getElem?.2 (by rw [List.getElem?_eq_getElem hk, e])⟩
theorem put_none {x : Hd} {l : List Hd} (hl : l.Pairwise LtH) (n : Nat) (h : seekS x l.zipIdx 0 = none) :
    (¬ ∃ y ∈ l, same x y) ∧ ∀ z, z ∈ insL LtH x l ↔ ∃ b, (z, b) ∈ l.zipIdx ++ [(x, n)] := by
  have hno : ∀ y ∈ l, ¬ same x y := fun y hy => by
    obtain ⟨b, hb⟩ := zip_some hy
    exact seekS_none h _ hb
  refine ⟨fun ⟨y, hy, hs⟩ => hno y hy hs, fun z => ?_⟩
  rw [insL_mem ordH x l hl z]
  constructor
  · rintro (rfl | ⟨hz, _⟩)
    · exact ⟨n, by simp⟩
    · obtain ⟨b, hb⟩ := zip_some hz
      exact ⟨b, List.mem_append_left _ hb⟩
  · rintro ⟨b, hb⟩
    rcases List.mem_append.1 hb with hb | hb
    · exact .inr ⟨zip_mem hb, hno z (zip_mem hb)⟩
    · simp at hb
      exact .inl hb.1
theorem put_some {x : Hd} {l : List Hd} {i : Nat} {v : Value} (hl : l.Pairwise LtH) (hd : l.zipIdx.Pairwise fun a b => ¬ same a.1 b.1) (h : seekS x l.zipIdx 0 = some (i, v)) :
    ∃ y j, v = y.val ∧ l.zipIdx[i]? = some (y, j) ∧ same x y ∧ (∃ y ∈ l, same x y) ∧ ∀ z, z ∈ insL LtH x l ↔ ∃ b, (z, b) ∈ l.zipIdx.set i (x, j) := by
  obtain ⟨m, q, e1, hm, hsm, hv⟩ := seekS_some h
  rw [Nat.zero_add] at e1
  subst e1
  obtain ⟨hml, hme⟩ := List.getElem?_eq_some_iff.1 hm
  have hdp := List.pairwise_iff_getElem.1 hd
  refine ⟨q.1, q.2, hv, hm, hsm, ⟨q.1, zip_mem (List.mem_of_getElem? hm), hsm⟩, fun z => ?_⟩
  rw [insL_mem ordH x l hl z]
  constructor
  · rintro (rfl | ⟨hz, hns⟩)
    · exact ⟨q.2, List.mem_iff_getElem?.2 ⟨i, by rw [List.getElem?_set_self hml]⟩⟩
    · obtain ⟨b, hb⟩ := zip_some hz
      obtain ⟨k, e⟩ := List.mem_iff_getElem?.1 hb
      refine ⟨b, List.mem_iff_getElem?.2 ⟨k, ?_⟩⟩
      rw [List.getElem?_set_ne]
      · exact e
      · intro ek
        subst ek
        rw [hm] at e
        injection e with e
        apply hns
        rw [e] at hsm
        exact hsm
  · rintro ⟨b, hb⟩
    obtain ⟨k, e⟩ := List.mem_iff_getElem?.1 hb
    by_cases ek : i = k
    · subst ek
      rw [List.getElem?_set_self hml] at e
      injection e with e
      injection e with e1 e2
      exact .inl e1.symm
    · rw [List.getElem?_set_ne ek] at e
      obtain ⟨hkl, hke⟩ := List.getElem?_eq_some_iff.1 e
      refine .inr ⟨zip_mem (List.mem_of_getElem? e), fun hs => ?_⟩
      have hqz : same q.1 z := same_trans (same_symm hsm) hs
      rcases Nat.lt_or_gt_of_ne ek with hlt | hlt
      · have := hdp i k hml hkl hlt
        rw [hke, hme] at this
        exact this hqz
      · have := hdp k i hkl hml hlt
        rw [hke, hme] at this
        exact this (same_symm hqz)
set_option maxRecDepth 100000 in
set_option maxHeartbeats 8000000 in
theorem implRibPut_any (l : List Hd) (v : Value) (p : Int) (r : Rt) (w : World) (h : HdsAt w v l) (hnb : l.length ≤ 1048576) :
    Calls Tryz.prog 5 #[v, .int .i64 p, r.val] w (RoPost (putR l p r) w) := by
  have Y0 := Blk.new w 25 #[.int .i64 r.kind, .int .i64 r.vni, .int .i64 r.mac, .int .i64 r.ip, .int .i64 r.org, .int .i64 r.seq, .bool r.st]
  have X0 := Blk.new (w.alloc (.cells #[.int .i64 r.kind, .int .i64 r.vni, .int .i64 r.mac, .int .i64 r.ip, .int .i64 r.org, .int .i64 r.seq, .bool r.st] 25)) 30 #[.slice none 0 0, .slice none 0 0, .int .i64 0]
  rw [World.size_alloc] at X0
  replace Y0 := Y0.alloc (.cells #[.slice none 0 0, .slice none 0 0, .int .i64 0] 30)
  have HB0 : Below w.heap.size w ((w.alloc (.cells #[.int .i64 r.kind, .int .i64 r.vni, .int .i64 r.mac, .int .i64 r.ip, .int .i64 r.org, .int .i64 r.seq, .bool r.st] 25)).alloc (.cells #[.slice none 0 0, .slice none 0 0, .int .i64 0] 30)) := ((Below.refl _ _).alloc (Nat.le_refl _) _).alloc (by simp) _
  have HF := Lib.hid (fun (W' : World) (hb : Below w.heap.size w W') => implRouteFault_any l v p r W' (SlAt.kept h hb) hnb)
  have HS1 := Lib.hid (fun (c : Int) (hc : faultR l p r = c) (h : c ≠ 0) => putR_ill hc h)
  unfold Rt.val rtV at *
  by_cases hc0 : faultR l p r = 0
  · obtain ⟨hf0, _⟩ := faultR_zero hc0
    obtain ⟨hok, h4⟩ := fault_zero hf0
    have hpw := ok_pw hok
    have HBs := Lib.hid (fun (W' : World) (hb : Below w.heap.size w W') => bySlots_any l v W' (SlAt.kept h hb) h4 hpw)
    have HR0 : Hid (putR l p r = putH ⟨p, false, r⟩ l) := Lib.hid (by rw [putR, if_pos hc0])
    have HSl := Lib.hid (slotOf_any ⟨p, false, r⟩)
    have HIo := Lib.hid (fun (M ck : Nat) (E : List (Hd × Nat)) (W' : World) (hM : MapS W' M E ck) (hE : E.length ≤ 1000) (hL : ∀ z, z ∈ insL LtH (⟨p, false, r⟩ : Hd) l ↔ ∃ b, (z, b) ∈ E) => inOrder_any M ck E (insL LtH ⟨p, false, r⟩ l) W' hM hE (insL_pw ordH _ l hpw) hL)
    have HPn := Lib.hid (fun (n : Nat) h => put_none (x := ⟨p, false, r⟩) hpw n h)
    have HPs := Lib.hid (fun (i : Nat) (u : Value) hd h => put_some (x := ⟨p, false, r⟩) (i := i) (v := u) hpw hd h)
    have HQ1 := Lib.hid (fun h h2 => putH_full (x := ⟨p, false, r⟩) (l := l) h h2)
    have HQ2 := Lib.hid (fun h => putH_new (x := ⟨p, false, r⟩) (l := l) h)
    have HQ3 := Lib.hid (fun h => putH_hit (x := ⟨p, false, r⟩) (l := l) h)
    have HZl : Hid (l.zipIdx.length = l.length) := Lib.hid (List.length_zipIdx)
    rw [hc0] at HF
    unfold BsPost at HBs
    unfold RowPost at HIo
    unfold Hd.val slotV at HSl
    obtain ⟨a, cap, rfl, h⟩ := h
    rw [List.length_map] at *
    clear h HS1 hok hf0 hc0 hpw
    generalize putH ⟨p, false, r⟩ l = S at *
    generalize insL LtH ⟨p, false, r⟩ l = K at *
    go_enter Tryz.func5, Tryz.ntmps5
    go_upto_region 1 with fail
    generalize (w.alloc (.cells #[.int .i64 r.kind, .int .i64 r.vni, .int .i64 r.mac, .int .i64 r.ip, .int .i64 r.org, .int .i64 r.seq, .bool r.st] 25)).alloc (.cells #[.slice none 0 0, .slice none 0 0, .int .i64 0] 30) = w0 at *
    have hcy := Y0.cell
    go_wp2_with fail
    refine (HF.out _ HB0).mono ?_
    rintro x w1 ⟨rfl, hb1⟩
    have X1 := X0.kept hb1
    have Y1 := Y0.kept hb1
    have HB1 := HB0.trans (hb1.mono HB0.size)
    clear hb1 hcy X0 Y0 HB0 HF
    go_wp2_with fail
    refine (HBs.out _ HB1).mono ?_
    rintro x w2 ⟨M, rfl, hMge, M2, hb2⟩
    have X2 := X1.kept hb2
    have Y2 := Y1.kept hb2
    have HB2 := HB1.trans (hb2.mono HB1.size)
    have hcy := Y2.cell
    have hwM : w.heap.size ≤ M := Nat.le_trans HB1.size hMge
    have hXM : w.heap.size + 1 ≠ M := fun e => by
      have := X2
      unfold Blk at this
      rw [e, M2.obj] at this
      cases this
    have XE := Blk.new w2 47 #[.int .i64 p, .bool false, .int .i64 r.kind, .int .i64 r.vni, .int .i64 r.mac, .int .i64 r.ip, .int .i64 r.org, .int .i64 r.seq, .bool r.st]
    have X5 := X2.alloc (.cells #[.int .i64 p, .bool false, .int .i64 r.kind, .int .i64 r.vni, .int .i64 r.mac, .int .i64 r.ip, .int .i64 r.org, .int .i64 r.seq, .bool r.st] 47)
    have HB5 := HB2.alloc HB2.size (.cells #[.int .i64 p, .bool false, .int .i64 r.kind, .int .i64 r.vni, .int .i64 r.mac, .int .i64 r.ip, .int .i64 r.org, .int .i64 r.seq, .bool r.st] 47)
    have M5 : MapS (w2.alloc (.cells #[.int .i64 p, .bool false, .int .i64 r.kind, .int .i64 r.vni, .int .i64 r.mac, .int .i64 r.ip, .int .i64 r.org, .int .i64 r.seq, .bool r.st] 47)) M l.zipIdx l.length := M2.kept (Below.heap_alloc _ _ _ M2.lt)
    have hqM : w2.heap.size ≠ M := (Nat.ne_of_lt M2.lt).symm
    clear hb2 hMge M2 X1 Y1 HB1 HBs
    go_upto_region 6 with fail
    generalize (w2.alloc (.cells #[.int .i64 p, .bool false, .int .i64 r.kind, .int .i64 r.vni, .int .i64 r.mac, .int .i64 r.ip, .int .i64 r.org, .int .i64 r.seq, .bool r.st] 47)) = W5 at *
    generalize w2.heap.size = q at *
    clear hcy X2 Y2 HB2
    have S0 := (show Blk W5.drew q _ _ ∧ Blk W5.drew (w.heap.size + 1) _ _ ∧ Below w.heap.size w W5.drew from ⟨XE.drew, X5.drew, HB5.drew⟩)
    have M0 : MapS W5.drew M l.zipIdx l.length := M5.kept rfl
    clear XE X5 HB5 M5
    have HDs := Lib.hid M0.dist
    cases hs : seekS ⟨p, false, r⟩ l.zipIdx 0 with
    | none =>
      obtain ⟨hno, hmem⟩ := HPn.out l.length hs
      have HNo := Lib.hid hno
      have HMm := Lib.hid hmem
      have HSK := Lib.hid hs
      clear hno hmem hs HPn HPs
      go_wp2_with fail
      refine wp_region_held_drew (S := fun W' => Blk W' q 47 #[.int .i64 p, .bool false, .int .i64 r.kind, .int .i64 r.vni, .int .i64 r.mac, .int .i64 r.ip, .int .i64 r.org, .int .i64 r.seq, .bool r.st] ∧ Blk W' (w.heap.size + 1) 30 #[.slice none 0 0, .slice none 0 0, .int .i64 0] ∧ Below w.heap.size w W') (by kernel_rfl) S0 (fun hHeld => ?_)
      clear hHeld
      refine wpAnyH_take (i := 0) (oi := { dst := some 23, op := Op.move (Operand.tmp 8), type := 56, pos := "l06_rib.go:146", after := #[], guard := none }) (v := ?vva1) rfl (by kernel_rfl) (by kernel_rfl) (by kernel_rfl) (fun _ _ _ h => h) (Or.inl ⟨by rfl, ?hya1⟩) S0 ?resta1
      case hya1 => (intro w hSw; have hc1 := hSw.1.cell;go_simp <;> with_reducible rfl)
      try simp only [Act.put, List.setIfInBounds_toArray, List.set_cons_zero, List.set_cons_succ]
      refine wpAnyH_take (i := 1) (oi := { dst := some 24, op := Op.load 47 (Operand.tmp 9), type := 47, pos := "l06_rib.go:146", after := #[], guard := none }) (v := ?vva2) rfl (by kernel_rfl) (by kernel_rfl) (by kernel_rfl) (fun _ _ _ h => h) (Or.inl ⟨by rfl, ?hya2⟩) S0 ?resta2
      case hya2 => (intro w hSw; have hc1 := hSw.1.cell;go_simp <;> with_reducible rfl)
      try simp only [Act.put, List.setIfInBounds_toArray, List.set_cons_zero, List.set_cons_succ]
      refine wpAnyH_take (i := 3) (oi := { dst := some 26, op := Op.load 47 (Operand.tmp 9), type := 47, pos := "l06_rib.go:146", after := #[], guard := none }) (v := ?vva3) rfl (by kernel_rfl) (by kernel_rfl) (by kernel_rfl) (fun _ _ _ h => h) (Or.inl ⟨by rfl, ?hya3⟩) S0 ?resta3
      case hya3 => (intro w hSw; have hc1 := hSw.1.cell;go_simp <;> with_reducible rfl)
      try simp only [Act.put, List.setIfInBounds_toArray, List.set_cons_zero, List.set_cons_succ]
      refine wpAnyH_ready (rs := [2]) (by kernel_rfl) (by simp) ?_
      refine AllReadyH.cons (o := { dst := some 25, op := Op.call { callee := Callee.value (Operand.func 35), args := #[Operand.tmp 24], argTypes := #[47] }, type := 59, pos := "l06_rib.go:146", after := #[{ on := 1, ground := Ground.data }], guard := none }) rfl (fun K hK => ?_) AllReadyH.nil
      go_simp
      refine (HSl.out _).mono ?_
      rintro e w3 ⟨rfl, hb3⟩
      replace S0 := (show Blk w3 _ _ _ ∧ Blk w3 _ _ _ ∧ Below w.heap.size w w3 from ⟨S0.1.kept hb3, S0.2.1.kept hb3, S0.2.2.trans (hb3.mono S0.2.2.size)⟩)
      replace M0 : MapS w3 M l.zipIdx l.length := M0.kept (hb3.block _ M0.lt)
      have hmu := (M0.add HSK.out).1
      have HM1 := Lib.hid (M0.add HSK.out).2
      unfold Hd.val slotV at hmu
      dsimp only at hmu
      clear hb3
      refine hK.out _ _ S0 (fun hHeld => ?_)
      clear hK K hHeld
      try simp only [Act.put, List.setIfInBounds_toArray, List.set_cons_zero, List.set_cons_succ]
      refine wpAnyH_ready (rs := [4]) (by kernel_rfl) (by simp) ?_
      refine AllReadyH.cons (o := { dst := none, op := Op.mapUpdate 56 (Operand.tmp 23) (Operand.tmp 25) (Operand.tmp 26), type := 0, pos := "l06_rib.go:146", after := #[{ on := 0, ground := Ground.data }, { on := 2, ground := Ground.data }, { on := 3, ground := Ground.data }, { on := 2, ground := Ground.chain }, { on := 0, ground := Ground.phase }, { on := 1, ground := Ground.phase }, { on := 2, ground := Ground.phase }, { on := 3, ground := Ground.phase }], guard := none }) rfl (fun K hK => ?_) AllReadyH.nil
      go_simp
      replace S0 := And.intro (S0.1.setB hqM (.map (mkE (l.zipIdx ++ [((⟨p, false, r⟩ : Hd), l.length)])).toArray (l.length + 1))) (And.intro (S0.2.1.setB hXM (.map (mkE (l.zipIdx ++ [((⟨p, false, r⟩ : Hd), l.length)])).toArray (l.length + 1))) (below_setB S0.2.2 hwM (.map (mkE (l.zipIdx ++ [((⟨p, false, r⟩ : Hd), l.length)])).toArray (l.length + 1))))
      refine hK.out _ _ S0 (fun hHeld => ?_)
      clear hK K hHeld
      try simp only [Act.put, List.setIfInBounds_toArray, List.set_cons_zero, List.set_cons_succ]
      refine wpAnyH_done (by kernel_rfl) ?_ _
      clear hmu M0
      obtain ⟨E, hE⟩ : ∃ E, E = l.zipIdx ++ [((⟨p, false, r⟩ : Hd), l.length)] := ⟨_, rfl⟩
      have HEl : Hid (E.length = l.length + 1) := Lib.hid (by rw [hE, List.length_append, HZl.out]; rfl)
      rw [← hE] at HM1 HMm S0 ⊢
      clear hE
      obtain ⟨W6, hW6⟩ : ∃ X, X = setM w3 M (.map (mkE E).toArray (l.length + 1)) := ⟨_, rfl⟩
      rw [← hW6] at HM1 S0 ⊢
      clear hW6
      have hlen := fun ty => HM1.out.len ty
      rw [HEl.out] at hlen
      have hcO := S0.2.1.cell
      have hfO := S0.2.1.frozen
      by_cases hfull : 60 ≤ l.length
      · have HR := Lib.hid (HR0.out.trans (HQ1.out hfull HNo.out))
        have hfz : (60 : Int) < ((l.length + 1 : Nat) : Int) := by omega
        go_wp2_with fail
        have HY := Lib.hid (fill3 S0.2.1 S0.2.2 (by omega) (.slice none 0 0) (.slice none 0 0) (.int .i64 9))
        generalize (((W6.setCell ⟨w.heap.size + 1, 0, none⟩ (.slice none 0 0)).setCell ⟨w.heap.size + 1, 1, none⟩ (.slice none 0 0)).setCell ⟨w.heap.size + 1, 2, none⟩ (.int .i64 9)) = w9 at *
        have hc9 := HY.out.1.cell
        refine bodyPost_ret (v := roV (.slice none 0 0) (.slice none 0 0) 9) (by simp [results, Tryz.results5, go_sem, roV, hc9]) rfl ?_
        exact RoPost.ill HR.out rfl HY.out.2
      · have HR := Lib.hid (HR0.out.trans (HQ2.out hfull))
        have hfz : ¬ (60 : Int) < ((l.length + 1 : Nat) : Int) := by omega
        go_wp2_with fail
        refine (HIo.out _ _ _ _ HM1.out (by rw [HEl.out]; omega) HMm.out).mono ?_
        rintro x w7 ⟨dv, rfl, ho, hb7⟩
        have X7 := S0.2.1.kept hb7
        have HB7 := S0.2.2.trans (hb7.mono S0.2.2.size)
        have hne : dv.ownBlock ≠ some (w.heap.size + 1) := fun e => by have := (ho.lt _ e).1; have := S0.2.1.lt; omega
        have HO := Lib.hid (rown_mono (B' := w.heap.size) ho S0.2.2.size)
        obtain ⟨da, dc, rfl⟩ := rown_form ho
        clear ho hb7 hcO hfO hlen S0
        have hcO := X7.cell
        have hfO := X7.frozen
        go_wp2_with fail
        have HO2 := Lib.hid (own_far3 HO.out hne (.slice da K.length dc) (.slice none 0 0) (.int .i64 0))
        have HY := Lib.hid (fill3 X7 HB7 (by omega) (.slice da K.length dc) (.slice none 0 0) (.int .i64 0))
        generalize (((w7.setCell ⟨w.heap.size + 1, 0, none⟩ (.slice da K.length dc)).setCell ⟨w.heap.size + 1, 1, none⟩ (.slice none 0 0)).setCell ⟨w.heap.size + 1, 2, none⟩ (.int .i64 0)) = w9 at *
        have hc9 := HY.out.1.cell
        refine bodyPost_ret (v := roV (.slice da K.length dc) (.slice none 0 0) 0) (by simp [results, Tryz.results5, go_sem, roV, hc9]) rfl ?_
        rw [HR.out]
        exact RoPost.good (r := ⟨K, [], 0⟩) rfl HO2.out (World.ownsRow_nil _ _ _ _) (apart_nil _) HY.out.2
    | some iv =>
      obtain ⟨i, u⟩ := iv
      obtain ⟨y, j, rfl, hij, hxy, hex, hmem⟩ := HPs.out i u HDs.out hs
      have HR := Lib.hid (HR0.out.trans (HQ3.out hex))
      have HMm := Lib.hid hmem
      have HUp := Lib.hid (fun (W : World) (hM : MapS W M l.zipIdx l.length) => hM.put hs hij hxy)
      clear hmem hs hij hxy hex HPn HPs HQ1 HQ2 HQ3
      go_wp2_with fail
      refine wp_region_held_drew (S := fun W' => Blk W' q 47 #[.int .i64 p, .bool false, .int .i64 r.kind, .int .i64 r.vni, .int .i64 r.mac, .int .i64 r.ip, .int .i64 r.org, .int .i64 r.seq, .bool r.st] ∧ Blk W' (w.heap.size + 1) 30 #[.slice none 0 0, .slice none 0 0, .int .i64 0] ∧ Below w.heap.size w W') (by kernel_rfl) S0 (fun hHeld => ?_)
      clear hHeld
      refine wpAnyH_take (i := 0) (oi := { dst := some 23, op := Op.move (Operand.tmp 8), type := 56, pos := "l06_rib.go:146", after := #[], guard := none }) (v := ?vvb1) rfl (by kernel_rfl) (by kernel_rfl) (by kernel_rfl) (fun _ _ _ h => h) (Or.inl ⟨by rfl, ?hyb1⟩) S0 ?restb1
      case hyb1 => (intro w hSw; have hc1 := hSw.1.cell;go_simp <;> with_reducible rfl)
      try simp only [Act.put, List.setIfInBounds_toArray, List.set_cons_zero, List.set_cons_succ]
      refine wpAnyH_take (i := 1) (oi := { dst := some 24, op := Op.load 47 (Operand.tmp 9), type := 47, pos := "l06_rib.go:146", after := #[], guard := none }) (v := ?vvb2) rfl (by kernel_rfl) (by kernel_rfl) (by kernel_rfl) (fun _ _ _ h => h) (Or.inl ⟨by rfl, ?hyb2⟩) S0 ?restb2
      case hyb2 => (intro w hSw; have hc1 := hSw.1.cell;go_simp <;> with_reducible rfl)
      try simp only [Act.put, List.setIfInBounds_toArray, List.set_cons_zero, List.set_cons_succ]
      refine wpAnyH_take (i := 3) (oi := { dst := some 26, op := Op.load 47 (Operand.tmp 9), type := 47, pos := "l06_rib.go:146", after := #[], guard := none }) (v := ?vvb3) rfl (by kernel_rfl) (by kernel_rfl) (by kernel_rfl) (fun _ _ _ h => h) (Or.inl ⟨by rfl, ?hyb3⟩) S0 ?restb3
      case hyb3 => (intro w hSw; have hc1 := hSw.1.cell;go_simp <;> with_reducible rfl)
      try simp only [Act.put, List.setIfInBounds_toArray, List.set_cons_zero, List.set_cons_succ]
      refine wpAnyH_ready (rs := [2]) (by kernel_rfl) (by simp) ?_
      refine AllReadyH.cons (o := { dst := some 25, op := Op.call { callee := Callee.value (Operand.func 35), args := #[Operand.tmp 24], argTypes := #[47] }, type := 59, pos := "l06_rib.go:146", after := #[{ on := 1, ground := Ground.data }], guard := none }) rfl (fun K hK => ?_) AllReadyH.nil
      go_simp
      refine (HSl.out _).mono ?_
      rintro e w3 ⟨rfl, hb3⟩
      replace S0 := (show Blk w3 _ _ _ ∧ Blk w3 _ _ _ ∧ Below w.heap.size w w3 from ⟨S0.1.kept hb3, S0.2.1.kept hb3, S0.2.2.trans (hb3.mono S0.2.2.size)⟩)
      replace M0 : MapS w3 M l.zipIdx l.length := M0.kept (hb3.block _ M0.lt)
      have hmu := (HUp.out _ M0).1
      have HM1 := Lib.hid (HUp.out _ M0).2
      unfold Hd.val slotV at hmu
      dsimp only at hmu
      clear hb3
      refine hK.out _ _ S0 (fun hHeld => ?_)
      clear hK K hHeld
      try simp only [Act.put, List.setIfInBounds_toArray, List.set_cons_zero, List.set_cons_succ]
      refine wpAnyH_ready (rs := [4]) (by kernel_rfl) (by simp) ?_
      refine AllReadyH.cons (o := { dst := none, op := Op.mapUpdate 56 (Operand.tmp 23) (Operand.tmp 25) (Operand.tmp 26), type := 0, pos := "l06_rib.go:146", after := #[{ on := 0, ground := Ground.data }, { on := 2, ground := Ground.data }, { on := 3, ground := Ground.data }, { on := 2, ground := Ground.chain }, { on := 0, ground := Ground.phase }, { on := 1, ground := Ground.phase }, { on := 2, ground := Ground.phase }, { on := 3, ground := Ground.phase }], guard := none }) rfl (fun K hK => ?_) AllReadyH.nil
      go_simp
      replace S0 := And.intro (S0.1.setB hqM (.map (mkE (l.zipIdx.set i ((⟨p, false, r⟩ : Hd), j))).toArray l.length)) (And.intro (S0.2.1.setB hXM (.map (mkE (l.zipIdx.set i ((⟨p, false, r⟩ : Hd), j))).toArray l.length)) (below_setB S0.2.2 hwM (.map (mkE (l.zipIdx.set i ((⟨p, false, r⟩ : Hd), j))).toArray l.length)))
      refine hK.out _ _ S0 (fun hHeld => ?_)
      clear hK K hHeld
      try simp only [Act.put, List.setIfInBounds_toArray, List.set_cons_zero, List.set_cons_succ]
      refine wpAnyH_done (by kernel_rfl) ?_ _
      clear hmu M0 HUp
      obtain ⟨E, hE⟩ : ∃ E, E = l.zipIdx.set i ((⟨p, false, r⟩ : Hd), j) := ⟨_, rfl⟩
      have HEl : Hid (E.length = l.length) := Lib.hid (by rw [hE, List.length_set, HZl.out])
      rw [← hE] at HM1 HMm S0 ⊢
      clear hE
      obtain ⟨W6, hW6⟩ : ∃ X, X = setM w3 M (.map (mkE E).toArray l.length) := ⟨_, rfl⟩
      rw [← hW6] at HM1 S0 ⊢
      clear hW6
      have hlen := fun ty => HM1.out.len ty
      rw [HEl.out] at hlen
      have hcO := S0.2.1.cell
      have hfO := S0.2.1.frozen
      have hfz : ¬ (60 : Int) < (l.length : Int) := by omega
      · go_wp2_with fail
        refine (HIo.out _ _ _ _ HM1.out (by rw [HEl.out]; omega) HMm.out).mono ?_
        rintro x w7 ⟨dv, rfl, ho, hb7⟩
        have X7 := S0.2.1.kept hb7
        have HB7 := S0.2.2.trans (hb7.mono S0.2.2.size)
        have hne : dv.ownBlock ≠ some (w.heap.size + 1) := fun e => by have := (ho.lt _ e).1; have := S0.2.1.lt; omega
        have HO := Lib.hid (rown_mono (B' := w.heap.size) ho S0.2.2.size)
        obtain ⟨da, dc, rfl⟩ := rown_form ho
        clear ho hb7 hcO hfO hlen S0
        have hcO := X7.cell
        have hfO := X7.frozen
        go_wp2_with fail
        have HO2 := Lib.hid (own_far3 HO.out hne (.slice da K.length dc) (.slice none 0 0) (.int .i64 0))
        have HY := Lib.hid (fill3 X7 HB7 (by omega) (.slice da K.length dc) (.slice none 0 0) (.int .i64 0))
        generalize (((w7.setCell ⟨w.heap.size + 1, 0, none⟩ (.slice da K.length dc)).setCell ⟨w.heap.size + 1, 1, none⟩ (.slice none 0 0)).setCell ⟨w.heap.size + 1, 2, none⟩ (.int .i64 0)) = w9 at *
        have hc9 := HY.out.1.cell
        refine bodyPost_ret (v := roV (.slice da K.length dc) (.slice none 0 0) 0) (by simp [results, Tryz.results5, go_sem, roV, hc9]) rfl ?_
        rw [HR.out]
        exact RoPost.good (r := ⟨K, [], 0⟩) rfl HO2.out (World.ownsRow_nil _ _ _ _) (apart_nil _) HY.out.2
  · have HR := Lib.hid (HS1.out _ rfl hc0)
    generalize putR l p r = S at *
    generalize faultR l p r = c at *
    clear HS1
    obtain ⟨a, cap, rfl, h⟩ := h
    rw [List.length_map] at *
    clear h
    go_enter Tryz.func5, Tryz.ntmps5
    go_upto_region 1 with fail
    generalize (w.alloc (.cells #[.int .i64 r.kind, .int .i64 r.vni, .int .i64 r.mac, .int .i64 r.ip, .int .i64 r.org, .int .i64 r.seq, .bool r.st] 25)).alloc (.cells #[.slice none 0 0, .slice none 0 0, .int .i64 0] 30) = w0 at *
    have hcy := Y0.cell
    go_wp2_with fail
    refine (HF.out _ HB0).mono ?_
    rintro x w1 ⟨rfl, hb1⟩
    have X1 := X0.kept hb1
    have HB1 := HB0.trans (hb1.mono HB0.size)
    have hc := X1.cell
    have hf := X1.frozen
    clear hb1 hcy
    go_wp2_with fail
    have HY := Lib.hid (fill3 X1 HB1 (by omega) (.slice none 0 0) (.slice none 0 0) (.int .i64 c))
    generalize (((w1.setCell ⟨w.heap.size + 1, 0, none⟩ (.slice none 0 0)).setCell ⟨w.heap.size + 1, 1, none⟩ (.slice none 0 0)).setCell ⟨w.heap.size + 1, 2, none⟩ (.int .i64 c)) = w9 at *
    have hc9 := HY.out.1.cell
    refine bodyPost_ret (v := roV (.slice none 0 0) (.slice none 0 0) c) (by simp [results, Tryz.results5, go_sem, roV, hc9]) rfl ?_
    exact RoPost.ill HR.out rfl HY.out.2
end Go.Proofs.YtdnpaopbicdolaaGreat

/- The mathematics of FnRib. -/
namespace Go.Proofs.YtdnpaopbicdolaaGreat
open Go.RowKit

deriving instance DecidableEq for Rt
deriving instance DecidableEq for Hd
theorem rib_hd {l : List Hd} (h : ribOk l = true) {x : Hd} (hx : x ∈ l) : hdOk x = true := by
  obtain ⟨i, hi, rfl⟩ := List.getElem_of_mem hx
  have hok := ok_at h i hi
  cases e : hdOk l[i]
  · rw [okAt_hd hi e] at hok; cases hok
  · rfl
theorem rib_pw {l : List Hd} (h60 : l.length ≤ 60) (hr : ∀ x ∈ l, hdOk x = true) (hp : l.Pairwise LtH) : ribOk l = true := by
  refine ribOk_yes h60 (fun i hi => ?_)
  have h1 := hr _ (List.getElem_mem hi)
  cases i with
  | zero => rw [okAt_zero hi]; exact h1
  | succ j =>
    have h2 := (less_iff _ _).2 (List.pairwise_iff_getElem.1 hp j (j + 1) (by omega) hi (by omega))
    rw [okAt_succ hi, h1, h2]; rfl
theorem rib_sub {l l' : List Hd} (h : ribOk l = true) (hs : l'.Sublist l) : ribOk l' = true :=
  rib_pw (Nat.le_trans hs.length_le (ribOk_le h)) (fun _ hx => rib_hd h (hs.subset hx)) ((ok_pw h).sublist hs)
theorem fault_peer {l : List Hd} {p : Int} (h : faultOf l p = 0) : inR p 1 9 = true := by
  rcases fault_way l p with ⟨_, h2⟩ | ⟨_, _, h2⟩ | ⟨_, _, _, h2⟩ | ⟨_, _, h3, _, _⟩
  · omega
  · omega
  · omega
  · exact h3
theorem fault_ok {l : List Hd} {p : Int} (h : ribOk l = true) (hp : inR p 1 9 = true) : faultOf l p = 0 := by
  have := ribOk_le h
  rw [faultOf, if_neg (by omega), if_pos h, if_pos hp]
theorem faultR_ok {l : List Hd} {p : Int} {r : Rt} (h : ribOk l = true) (hp : inR p 1 9 = true) (hr : r.right = true) : faultR l p r = 0 := by
  rw [faultR, if_pos (fault_ok h hp), if_pos hr]
theorem hdOk_parts {x : Hd} (h : hdOk x = true) : inR x.p 1 9 = true ∧ x.r.right = true := by
  unfold hdOk at h
  rw [Bool.and_eq_true] at h
  exact h
theorem hdOk_mk {p : Int} {s : Bool} {r : Rt} (hp : inR p 1 9 = true) (hr : r.right = true) : hdOk ⟨p, s, r⟩ = true := by
  unfold hdOk
  rw [hp, hr]; rfl
theorem sortedH_eq : ∀ {a b : List Hd}, a.Pairwise LtH → b.Pairwise LtH → (∀ y, y ∈ a ↔ y ∈ b) → a = b := by
  intro a
  induction a with
  | nil =>
    intro b _ _ h
    cases b with
    | nil => rfl
    | cons y b => have := (h y).2 (by simp); cases this
  | cons x a ih =>
    intro b ha hb h
    cases b with
    | nil => have := (h x).1 (by simp); cases this
    | cons y b =>
      rw [List.pairwise_cons] at ha hb
      have exy : x = y := by
        rcases List.mem_cons.1 ((h x).1 (by simp)) with e | e
        · exact e
        · rcases List.mem_cons.1 ((h y).2 (by simp)) with e2 | e2
          · exact e2.symm
          · exact absurd (lt_trans (ha.1 y e2) (hb.1 x e)) (lt_irrefl _)
      subst exy
      rw [ih ha.2 hb.2 (fun z => ?_)]
      constructor
      · intro hz
        rcases List.mem_cons.1 ((h z).1 (by simp [hz])) with e | e
        · subst e; exact absurd (ha.1 z hz) (lt_irrefl z)
        · exact e
      · intro hz
        rcases List.mem_cons.1 ((h z).2 (by simp [hz])) with e | e
        · subst e; exact absurd (hb.1 z hz) (lt_irrefl z)
        · exact e
theorem insH_hit_len (x : Hd) : ∀ {l : List Hd}, l.Pairwise LtH → (∃ y ∈ l, same x y) → (insL LtH x l).length = l.length := by
  intro l
  induction l with
  | nil => rintro _ ⟨y, hy, _⟩; cases hy
  | cons z l ih =>
    rintro hp ⟨y, hy, hs⟩
    rw [List.pairwise_cons] at hp
    unfold insL
    by_cases h1 : LtH z x
    · rw [if_pos h1]
      have hyl : y ∈ l := by
        rcases List.mem_cons.1 hy with rfl | hy
        · exact absurd (same_symm hs) (lt_not_same h1)
        · exact hy
      simp [ih hp.2 ⟨y, hyl, hs⟩]
    · rw [if_neg h1]
      by_cases h2 : LtH x z
      · rw [if_pos h2]
        rcases List.mem_cons.1 hy with rfl | hyl
        · exact absurd hs (lt_not_same h2)
        · exact absurd hs (lt_not_same (lt_trans h2 (hp.1 y hyl)))
      · rw [if_neg h2]; simp
theorem same_refl (x : Hd) : same x x := ⟨rfl, rfl, rfl, rfl, rfl⟩
/- what a put leaves -/
structure PutOkH (l : List Hd) (x : Hd) (d : List Hd) : Prop where
  ok : ribOk d = true
  mem : x ∈ d
  len : d.length ≤ l.length + 1
  again : (putR d x.p x.r).rib = d
theorem putR_hit {d : List Hd} {p : Int} {r : Rt} (hd : ribOk d = true) (hm : (⟨p, false, r⟩ : Hd) ∈ d) : putR d p r = ⟨insL LtH ⟨p, false, r⟩ d, [], 0⟩ := by
  obtain ⟨h1, h2⟩ := hdOk_parts (rib_hd hd hm)
  rw [putR, if_pos (faultR_ok hd h1 h2), putH_hit ⟨_, hm, same_refl _⟩]
theorem ins_again {d : List Hd} {x : Hd} (hp : d.Pairwise LtH) (hm : x ∈ d) : insL LtH x d = d := by
  refine sortedH_eq (insL_pw ordH x _ hp) hp (fun z => ?_)
  rw [insL_mem ordH x _ hp z]
  constructor
  · rintro (rfl | ⟨h, _⟩)
    · exact hm
    · exact h
  · intro hz
    by_cases hs : same x z
    · exact .inl (same_eq hp hz hm (same_symm hs))
    · exact .inr ⟨hz, hs⟩
theorem put_ok {l : List Hd} {p : Int} {r : Rt} (h : (putR l p r).code = 0) : PutOkH l ⟨p, false, r⟩ (putR l p r).rib := by
  by_cases hf : faultR l p r = 0
  · obtain ⟨hf0, hr⟩ := faultR_zero hf
    obtain ⟨hok, h60⟩ := fault_zero hf0
    have hpe := fault_peer hf0
    have hp := ok_pw hok
    rw [putR, if_pos hf] at h ⊢
    have key : putH ⟨p, false, r⟩ l = ⟨insL LtH ⟨p, false, r⟩ l, [], 0⟩ ∧ (insL LtH ⟨p, false, r⟩ l).length ≤ 60 := by
      by_cases hit : ∃ y ∈ l, same ⟨p, false, r⟩ y
      · exact ⟨putH_hit hit, by rw [insH_hit_len _ hp hit]; exact h60⟩
      · by_cases h6 : 60 ≤ l.length
        · rw [putH_full h6 hit] at h; exact absurd h (by decide)
        · exact ⟨putH_new h6, by have := insL_len (lt := LtH) ⟨p, false, r⟩ l; omega⟩
    rw [key.1]
    have hpw := insL_pw ordH ⟨p, false, r⟩ l hp
    have hmm := insL_mem ordH ⟨p, false, r⟩ l hp
    have hx : (⟨p, false, r⟩ : Hd) ∈ insL LtH ⟨p, false, r⟩ l := (hmm _).2 (.inl rfl)
    have hall : ∀ x ∈ insL LtH ⟨p, false, r⟩ l, hdOk x = true := fun x hxl => by
      rcases (hmm x).1 hxl with rfl | ⟨h1, _⟩
      · exact hdOk_mk hpe hr
      · exact rib_hd hok h1
    have hrib := rib_pw key.2 hall hpw
    refine ⟨hrib, hx, insL_len (lt := LtH) _ _, ?_⟩
    dsimp only
    rw [putR_hit hrib hx]
    exact ins_again hpw hx
  · rw [putR_ill rfl hf] at h
    exact absurd h hf
def isHd (p : Int) (r : Rt) (h : Hd) : Bool := decide (h = ⟨p, false, r⟩)
theorem put_count {d : List Hd} {x : Hd} (hp : d.Pairwise LtH) (hm : x ∈ d) : (d.filter fun h => decide (same x h)) = [x] := hit_one hp hm (same_refl x)
/- what a take leaves -/
def freshH (p : Int) (r : Rt) (h : Hd) : Hd := if h.p = p ∧ h.r = r then ⟨h.p, false, h.r⟩ else h
structure TakeOkH (t : List Hd) (p : Int) (k : Rt) (y : Ro) : Prop where
  ok : ribOk y.rib = true
  len : y.rib.length + 1 = t.length
  none' : (takeR y.rib p k).code = 6
  one : ∃ g, y.gone = [g] ∧ (putR y.rib p g).rib = t.map (freshH p g)
theorem lt_fresh {p : Int} {r : Rt} {a b : Hd} (h : LtH a b) : LtH (freshH p r a) (freshH p r b) := by
  have e : ∀ c : Hd, (freshH p r c).p = c.p ∧ (freshH p r c).r = c.r := fun c => by unfold freshH; split <;> exact ⟨rfl, rfl⟩
  unfold LtH at *
  rw [(e a).1, (e a).2, (e b).1, (e b).2]
  exact h
theorem take_ok {t : List Hd} {p : Int} {k : Rt} (h : (takeR t p k).code = 0) : TakeOkH t p k (takeR t p k) := by
  by_cases hf : faultR t p k = 0
  · obtain ⟨hf0, hr⟩ := faultR_zero hf
    obtain ⟨hok, h60⟩ := fault_zero hf0
    have hpe := fault_peer hf0
    have hp := ok_pw hok
    by_cases hh : hitL ⟨p, false, k⟩ t = []
    · rw [takeR_none hf hh] at h; exact absurd h (by decide)
    obtain ⟨y, hy⟩ := List.exists_mem_of_ne_nil _ hh
    have hym : y ∈ t ∧ same ⟨p, false, k⟩ y := by
      unfold hitL at hy
      rw [List.mem_filter] at hy
      exact ⟨hy.1, by simpa using hy.2⟩
    have h1 := hit_one hp hym.1 hym.2
    have hyp : y.p = p := hym.2.1.symm
    rw [takeR_some hf h1]
    have hsub : (leaveL ⟨p, false, k⟩ t).Sublist t := List.filter_sublist
    have hlok := rib_sub hok hsub
    have hlen : (leaveL ⟨p, false, k⟩ t).length + 1 = t.length := by
      have hs : ∀ q : List Hd, (q.filter fun h => decide (¬ same ⟨p, false, k⟩ h)).length + (q.filter fun h => decide (same ⟨p, false, k⟩ h)).length = q.length := by
        intro q
        induction q with
        | nil => rfl
        | cons z q ih =>
          rw [List.filter_cons, List.filter_cons]
          by_cases e : same ⟨p, false, k⟩ z <;> simp [e] at ih ⊢ <;> omega
      have h4 := hs t
      have h5 : (t.filter fun h => decide (same ⟨p, false, k⟩ h)).length = 1 := by
        have : (hitL ⟨p, false, k⟩ t).length = 1 := by rw [h1]; rfl
        exact this
      rw [h5] at h4
      exact h4
    have hml : ∀ z, z ∈ leaveL ⟨p, false, k⟩ t ↔ z ∈ t ∧ ¬ same ⟨p, false, k⟩ z := fun z => by unfold leaveL; rw [List.mem_filter]; simp
    refine ⟨hlok, hlen, ?_, y.r, rfl, ?_⟩
    · dsimp only
      have hn : hitL ⟨p, false, k⟩ (leaveL ⟨p, false, k⟩ t) = [] := by
        refine List.eq_nil_iff_forall_not_mem.2 (fun z hz => ?_)
        unfold hitL at hz
        rw [List.mem_filter] at hz
        exact ((hml z).1 hz.1).2 (by simpa using hz.2)
      rw [takeR_none (faultR_ok hlok hpe hr) hn]
      rfl
    · dsimp only
      have hyr : y.r.right = true := (hdOk_parts (rib_hd hok hym.1)).2
      have hsx : ∀ z : Hd, same ⟨p, false, y.r⟩ z ↔ same ⟨p, false, k⟩ z := fun z => by
        have := hym.2
        unfold same at *
        dsimp only at *
        omega
      rw [putR, if_pos (faultR_ok hlok hpe hyr), putH_new (by omega)]
      dsimp only
      have hpl := leave_pw (x := ⟨p, false, k⟩) hp
      refine sortedH_eq (insL_pw ordH _ _ hpl) (List.pairwise_map.2 (hp.imp lt_fresh)) (fun z => ?_)
      rw [insL_mem ordH _ _ hpl z, hml z, List.mem_map]
      constructor
      · rintro (rfl | ⟨⟨hz, hnk⟩, _⟩)
        · exact ⟨y, hym.1, by unfold freshH; rw [if_pos ⟨hyp, rfl⟩, hyp]⟩
        · refine ⟨z, hz, ?_⟩
          unfold freshH
          rw [if_neg]
          rintro ⟨h2, h3⟩
          refine hnk ((hsx z).1 ?_)
          rw [← h3, ← h2]
          exact ⟨rfl, rfl, rfl, rfl, rfl⟩
      · rintro ⟨c, hc, rfl⟩
        unfold freshH
        by_cases he : c.p = p ∧ c.r = y.r
        · rw [if_pos he]
          left
          rw [he.1, he.2]
        · rw [if_neg he]
          right
          have hns : ¬ same ⟨p, false, k⟩ c := fun hs => by
            have := same_eq hp hc hym.1 (same_trans (same_symm hs) hym.2)
            subst this
            exact he ⟨hyp, rfl⟩
          exact ⟨⟨hc, hns⟩, fun hs => hns ((hsx c).1 hs)⟩
  · rw [takeR_ill rfl hf] at h
    exact absurd h hf
/- sweeping -/
theorem sweep_code {l : List Hd} {p : Int} (h : (sweepR l p).code = 0) : ribOk (sweepR l p).rib = true ∧ (sweepR l p).rib.length + (sweepR l p).gone.length = l.length := by
  by_cases hf : faultOf l p = 0
  · rw [sweepR_ok hf]
    obtain ⟨hok, _⟩ := fault_zero hf
    refine ⟨rib_sub hok List.filter_sublist, ?_⟩
    dsimp only
    unfold keepL goneL
    rw [List.length_map]
    have hs : ∀ q : List Hd, (q.filter fun h => !goneB p h).length + (q.filter (goneB p)).length = q.length := by
      intro q
      induction q with
      | nil => rfl
      | cons z q ih =>
        rw [List.filter_cons, List.filter_cons]
        cases goneB p z <;> simp <;> omega
    exact hs l
  · rw [sweepR_ill rfl hf] at h
    exact absurd h hf
structure StaleOkH (s : List Hd) (p : Int) (z u : Ro) : Prop where
  ok : ribOk z.rib = true
  code : u.code = 0
  len : u.rib.length + u.gone.length = s.length
  none' : ∀ h ∈ u.rib, ¬ h.p = p
theorem stale_ok {s : List Hd} {p : Int} (h : (staleR s p).code = 0) : StaleOkH s p (staleR s p) (sweepR (staleR s p).rib p) := by
  by_cases hf : faultOf s p = 0
  · obtain ⟨hok, h60⟩ := fault_zero hf
    have hpe := fault_peer hf
    have hst : staleR s p = ⟨s.map (stH p), [], 0⟩ := by rw [staleR, if_pos hf]
    rw [hst]
    dsimp only
    have hpw : (s.map (stH p)).Pairwise LtH := List.pairwise_map.2 ((ok_pw hok).imp (fun h => h))
    have hrib : ribOk (s.map (stH p)) = true := by
      refine rib_pw (by rw [List.length_map]; exact h60) (fun x hx => ?_) hpw
      obtain ⟨y, hy, rfl⟩ := List.mem_map.1 hx
      have e := rib_hd hok hy
      exact e
    have hz : (sweepR (s.map (stH p)) p).code = 0 := by rw [sweepR_ok (fault_ok hrib hpe)]
    refine ⟨hrib, hz, ?_, ?_⟩
    · rw [(sweep_code hz).2, List.length_map]
    · rw [sweepR_ok (fault_ok hrib hpe)]
      intro x hx he
      dsimp only at hx
      unfold keepL at hx
      rw [List.mem_filter] at hx
      obtain ⟨y, hy, rfl⟩ := List.mem_map.1 hx.1
      have := hx.2
      unfold goneB stH at this
      have he' : y.p = p := he
      simp [he'] at this
  · rw [show staleR s p = roIll (faultOf s p) by rw [staleR, if_neg hf]] at h
    exact absurd h hf
end Go.Proofs.YtdnpaopbicdolaaGreat
