/- FnRib: the walk. -/
import Derived.Test.YtdnpaopbicdolaaGreatQ4
import Derived.Test.YtdnpaopbicdolaaGreatQ5
import Derived.Test.YtdnpaopbicdolaaGreatQ3
import Derived.Test.YtdnpaopbicdolaaGreatTkT
import Derived.Test.YtdnpaopbicdolaaGreatSwW
import Derived.Test.YtdnpaopbicdolaaGreatQ2
import Derived.Test.YtdnpaopbicdolaaGreatQ2
namespace Go.Proofs.YtdnpaopbicdolaaGreat
open Go.RowKit

def Slh (W : World) (M : List (Value × List Hd)) : Prop := ∀ q ∈ M, HdsAt W q.1 q.2
def Slr (W : World) (M : List (Value × List Rt)) : Prop := ∀ q ∈ M, SlAt W 7 q.1 (q.2.map Rt.cl)
structure FbM (w W : World) (L : List (Nat × TypeId × Array Value)) (M : List (Value × List Hd)) (G : List (Value × List Rt)) : Prop where
  mem : MemAt w L [] W
  hs : Slh W M
  rs : Slr W G
section
variable {w W W' : World} {L : List (Nat × TypeId × Array Value)} {M : List (Value × List Hd)} {G : List (Value × List Rt)}
theorem FbM.kept (h : FbM w W L M G) (hb : Below W.heap.size W W') : FbM w W' L M G := ⟨h.mem.kept hb, fun q hq => SlAt.kept (h.hs q hq) hb, fun q hq => SlAt.kept (h.rs q hq) hb⟩
theorem FbM.drew (h : FbM w W L M G) : FbM w W.drew L M G := ⟨h.mem.drew, h.hs, h.rs⟩
theorem FbM.addH (h : FbM w W L M G) {v : Value} {l : List Hd} (hl : HdsAt W v l) : FbM w W L ((v, l) :: M) G := ⟨h.mem, fun q hq => by
  rcases List.mem_cons.1 hq with rfl | hq
  · exact hl
  · exact h.hs q hq, h.rs⟩
theorem FbM.addR (h : FbM w W L M G) {v : Value} {l : List Rt} (hl : SlAt W 7 v (l.map Rt.cl)) : FbM w W L M ((v, l) :: G) := ⟨h.mem, h.hs, fun q hq => by
  rcases List.mem_cons.1 hq with rfl | hq
  · exact hl
  · exact h.rs q hq⟩
theorem FbM.new (h : FbM w W L M G) (t : TypeId) (cs : Array Value) : FbM w (W.alloc (.cells cs t)) ((W.heap.size, t, cs) :: L) M G := by
  have hb : Below W.heap.size W (W.alloc (.cells cs t)) := (Below.refl _ _).alloc (Nat.le_refl _) _
  exact ⟨h.mem.new t cs, (h.kept hb).hs, (h.kept hb).rs⟩
theorem MemAt.b5 {W cur : World} {L : List (Nat × TypeId × Array Value)} {R : List RowQ} {x0 x1 x2 x3 x4 : Nat × TypeId × Array Value} {b : Nat} {t : TypeId} {cs : Array Value} (h : MemAt W (x0 :: x1 :: x2 :: x3 :: x4 :: (b, t, cs) :: L) R cur) : Blk cur b t cs := h.blk _ (.tail _ (.tail _ (.tail _ (.tail _ (.tail _ (.head _))))))
theorem FbM.bel (h : FbM w W L M G) : Below w.heap.size w W := h.mem.bel
theorem FbM.bytes (h : FbM w W L M G) {a : Option Addr} {len : Nat} (hb : BytesAt w a len) : BytesAt W a len := bytes_belowR hb h.mem.bel
end
section
variable {α : Type} {x0 x1 x2 x3 x4 x5 x6 x7 x8 : α} {L : List α}
theorem memH0 : x0 ∈ x0 :: x1 :: x2 :: x3 :: x4 :: x5 :: x6 :: x7 :: x8 :: L := by simp
theorem memH1 : x1 ∈ x0 :: x1 :: x2 :: x3 :: x4 :: x5 :: x6 :: x7 :: x8 :: L := by simp
theorem memH2 : x2 ∈ x0 :: x1 :: x2 :: x3 :: x4 :: x5 :: x6 :: x7 :: x8 :: L := by simp
theorem memH3 : x3 ∈ x0 :: x1 :: x2 :: x3 :: x4 :: x5 :: x6 :: x7 :: x8 :: L := by simp
theorem memH4 : x4 ∈ x0 :: x1 :: x2 :: x3 :: x4 :: x5 :: x6 :: x7 :: x8 :: L := by simp
theorem memH5 : x5 ∈ x0 :: x1 :: x2 :: x3 :: x4 :: x5 :: x6 :: x7 :: x8 :: L := by simp
theorem memH6 : x6 ∈ x0 :: x1 :: x2 :: x3 :: x4 :: x5 :: x6 :: x7 :: x8 :: L := by simp
theorem memH7 : x7 ∈ x0 :: x1 :: x2 :: x3 :: x4 :: x5 :: x6 :: x7 :: x8 :: L := by simp
theorem memH8 : x8 ∈ x0 :: x1 :: x2 :: x3 :: x4 :: x5 :: x6 :: x7 :: x8 :: L := by simp
end
section
variable {α : Type} {x0 x1 x2 x3 : α} {L : List α}
theorem memR0 : x0 ∈ x0 :: x1 :: x2 :: x3 :: L := by simp
theorem memR1 : x1 ∈ x0 :: x1 :: x2 :: x3 :: L := by simp
theorem memR2 : x2 ∈ x0 :: x1 :: x2 :: x3 :: L := by simp
theorem memR3 : x3 ∈ x0 :: x1 :: x2 :: x3 :: L := by simp
end
/- how many of the first ones are this one -/
def cntE (x : Hd) (d : List Hd) (i : Nat) : Nat := (d.take i).countP (fun h => decide (h = x))
theorem cntE_succ (x : Hd) (d : List Hd) (i : Nat) (hi : i < d.length) : cntE x d (i + 1) = cntE x d i + (if d[i] = x then 1 else 0) := by
  unfold cntE
  rw [List.take_succ_eq_append_getElem hi, List.countP_append, List.countP_cons, List.countP_nil]
  by_cases h : d[i] = x
  · simp [h]
  · simp [h]
theorem cntE_le (x : Hd) (d : List Hd) (i : Nat) : cntE x d i ≤ i := by
  unfold cntE
  refine Nat.le_trans List.countP_le_length ?_
  rw [List.length_take]
  omega
theorem cnt_one {x : Hd} : ∀ {d : List Hd}, d.Pairwise LtH → x ∈ d → d.countP (fun h => decide (h = x)) = 1 := by
  intro d
  induction d with
  | nil => intro _ h; cases h
  | cons a t ih =>
    intro hp hm
    rw [List.pairwise_cons] at hp
    rw [List.countP_cons]
    by_cases h : a = x
    · subst h
      have h0 : t.countP (fun h => decide (h = a)) = 0 := by
        rw [List.countP_eq_zero]
        intro y hy he
        have he' : y = a := of_decide_eq_true he
        subst he'
        exact lt_not_same (hp.1 y hy) (same_refl y)
      rw [h0]
      simp
    · rcases List.mem_cons.1 hm with e | hm
      · exact absurd e.symm h
      · rw [ih hp.2 hm]
        simp [h]
theorem cntE_all {x : Hd} {d : List Hd} (hp : d.Pairwise LtH) (hm : x ∈ d) : cntE x d d.length = 1 := by
  unfold cntE
  rw [List.take_length]
  exact cnt_one hp hm
theorem hd_eq_iff (x y : Hd) : x = y ↔ x.p = y.p ∧ x.s = y.s ∧ x.r.kind = y.r.kind ∧ x.r.vni = y.r.vni ∧ x.r.mac = y.r.mac ∧ x.r.ip = y.r.ip ∧ x.r.org = y.r.org ∧ x.r.seq = y.r.seq ∧ x.r.st = y.r.st := by
  obtain ⟨a, b, ⟨c, d, e, f, g, h, i⟩⟩ := x
  obtain ⟨a', b', ⟨c', d', e', f', g', h', i'⟩⟩ := y
  simp
set_option maxRecDepth 100000 in
set_option maxHeartbeats 40000000 in
theorem fnRib_main (a0 a1 : Option Addr) (len0 cap0 len1 cap1 : Nat) (w : World) (hy0 : BytesAt w a0 len0) (hy1 : BytesAt w a1 len1) (hl0 : len0 ≤ 1048576) (hl1 : len1 ≤ 1048576) :
    Calls Tryz.prog 3 #[.slice a0 len0 cap0, .slice a1 len1 cap1] w fun e w' => e = .returned (.bool true) ∧ Below w.heap.size w w' := by
  have hg0 : ¬ (1048576 : Int) < (len0 : Int) := by omega
  have hg1 : ¬ (1048576 : Int) < (len1 : Int) := by omega
  have HD1 := Lib.hid (fun (W : World) (h : BytesAt W a0 len0) => draw_ribPut (cap := cap0) hl0 h)
  have HD2 := Lib.hid (fun (W : World) (h : BytesAt W a1 len1) => draw_ribTake (cap := cap1) hl1 h)
  have HD3 := Lib.hid (fun (W : World) (h : BytesAt W a1 len1) => draw_ribStale (cap := cap1) hl1 h)
  have HD4 := Lib.hid (fun (W : World) (h : BytesAt W a0 len0) => draw_ribSweep (cap := cap0) hl0 h)
  have HD5 := Lib.hid (fun (W : World) (h : BytesAt W a1 len1) => draw_roomsOf (cap := cap1) hl1 h)
  have HY0 := Lib.hid hy0
  have HY1 := Lib.hid hy1
  unfold RkDraw at HD1 HD2
  unfold RsDraw at HD3 HD4
  unfold RmDraw at HD5
  have A : FbM w w [] [] [] := ⟨MemAt.start w, (fun q hq => by cases hq), (fun q hq => by cases hq)⟩
  clear hy0 hy1 hl0 hl1
  go_enter Tryz.func3, Tryz.ntmps3
  go_wp2_with fail
  refine (HD1.out _ (A.bytes HY0.out)).mono ?_
  rintro e w1 ⟨lv, l, p, r, rfl, ho, hl10, hb⟩
  have HNcl := Lib.hid (NcOk.of_own ho)
  replace A := (A.kept hb).addH (rows_of_own Hd.cl_len ho)
  obtain ⟨la, lc, rfl⟩ := rown_form ho
  clear ho hb HD1
  unfold Rt.val rtV
  go_upto_region 4 with fail
  replace A := A.new 25 #[.int .i64 r.kind, .int .i64 r.vni, .int .i64 r.mac, .int .i64 r.ip, .int .i64 r.org, .int .i64 r.seq, .bool r.st]
  obtain ⟨Wr1, hWr⟩ : ∃ X, X = w1.alloc (.cells #[.int .i64 r.kind, .int .i64 r.vni, .int .i64 r.mac, .int .i64 r.ip, .int .i64 r.org, .int .i64 r.seq, .bool r.st] 25) := ⟨_, rfl⟩
  obtain ⟨qr1, hqr⟩ : ∃ q, q = w1.heap.size := ⟨_, rfl⟩
  rw [← hWr, ← hqr] at A ⊢
  clear hWr hqr
  have HIX := Lib.hid (fun (W : World) (h : HdsAt W (.slice la l.length lc) l) => implRibPut_any l _ p r W h (by omega))
  have HSX := Lib.hid (fun (W : World) (h : HdsAt W (.slice la l.length lc) l) => specRibPut_any l _ p r W h HNcl.out (by omega))
  have HPx : Hid ((putR l p r).code = 0 → PutOkH l ⟨p, false, r⟩ (putR l p r).rib) := Lib.hid put_ok
  have hlX := putR_len l p r
  unfold RoPost roV Rt.val rtV at HIX HSX
  generalize putR l p r = X at *
  have hcB := A.mem.b0.cell
  go_wp2_with fail
  refine (HIX.out _ (A.hs _ (.head _))).mono ?_
  rintro e w2 ⟨xv, xt, rfl, ho1, ho2, _, hb⟩
  replace A := ((A.kept hb).addH (rows_of_own Hd.cl_len ho1)).addR (rows_of_own Rt.cl_len ho2)
  obtain ⟨Xa, Xc, rfl⟩ := rown_form ho1
  obtain ⟨Xo, Xd, rfl⟩ := rown_form ho2
  clear ho1 ho2 hb hcB HIX
  go_upto_region 5 with fail
  replace A := A.new 30 #[.slice Xa X.rib.length Xc, .slice Xo X.gone.length Xd, .int .i64 X.code]
  obtain ⟨Wo2, hWo⟩ : ∃ Q, Q = w2.alloc (.cells #[.slice Xa X.rib.length Xc, .slice Xo X.gone.length Xd, .int .i64 X.code] 30) := ⟨_, rfl⟩
  obtain ⟨qX, hqo⟩ : ∃ q, q = w2.heap.size := ⟨_, rfl⟩
  rw [← hWo, ← hqo] at A ⊢
  clear hWo hqo
  go_wp2_with fail
  refine (HD2.out _ (A.bytes HY1.out)).mono ?_
  rintro e w3 ⟨tv, t, who, key, rfl, ho, ht10, hb⟩
  have HNlt := Lib.hid (NilOk.of_own ho)
  replace A := (A.kept hb).addH (rows_of_own Hd.cl_len ho)
  obtain ⟨ta, tc, rfl⟩ := rown_form ho
  clear ho hb HD2
  unfold Rt.val rtV
  go_upto_region 6 with fail
  replace A := A.new 25 #[.int .i64 key.kind, .int .i64 key.vni, .int .i64 key.mac, .int .i64 key.ip, .int .i64 key.org, .int .i64 key.seq, .bool key.st]
  obtain ⟨Wr3, hWr⟩ : ∃ X, X = w3.alloc (.cells #[.int .i64 key.kind, .int .i64 key.vni, .int .i64 key.mac, .int .i64 key.ip, .int .i64 key.org, .int .i64 key.seq, .bool key.st] 25) := ⟨_, rfl⟩
  obtain ⟨qr3, hqr⟩ : ∃ q, q = w3.heap.size := ⟨_, rfl⟩
  rw [← hWr, ← hqr] at A ⊢
  clear hWr hqr
  have HIY := Lib.hid (fun (W : World) (h : HdsAt W (.slice ta t.length tc) t) => implRibTake_any t _ who key W h (by omega))
  have HSY := Lib.hid (fun (W : World) (h : HdsAt W (.slice ta t.length tc) t) => specRibTake_any t _ who key W h HNlt.out (by omega))
  have HTx : Hid ((takeR t who key).code = 0 → TakeOkH t who key (takeR t who key)) := Lib.hid take_ok
  have hlY := takeR_len t who key
  unfold RoPost roV Rt.val rtV at HIY HSY
  generalize takeR t who key = Y at *
  have hcB := A.mem.b0.cell
  go_wp2_with fail
  refine (HIY.out _ (A.hs _ (.head _))).mono ?_
  rintro e w4 ⟨xv, xt, rfl, ho1, ho2, _, hb⟩
  replace A := ((A.kept hb).addH (rows_of_own Hd.cl_len ho1)).addR (rows_of_own Rt.cl_len ho2)
  obtain ⟨Ya, Yc, rfl⟩ := rown_form ho1
  obtain ⟨Yo, Yd, rfl⟩ := rown_form ho2
  clear ho1 ho2 hb hcB HIY
  go_upto_region 7 with fail
  replace A := A.new 30 #[.slice Ya Y.rib.length Yc, .slice Yo Y.gone.length Yd, .int .i64 Y.code]
  obtain ⟨Wo4, hWo⟩ : ∃ Q, Q = w4.alloc (.cells #[.slice Ya Y.rib.length Yc, .slice Yo Y.gone.length Yd, .int .i64 Y.code] 30) := ⟨_, rfl⟩
  obtain ⟨qY, hqo⟩ : ∃ q, q = w4.heap.size := ⟨_, rfl⟩
  rw [← hWo, ← hqo] at A ⊢
  clear hWo hqo
  go_wp2_with fail
  refine (HD3.out _ (A.bytes HY1.out)).mono ?_
  rintro e w5 ⟨sv, s, frm, rfl, ho, hs10, hb⟩
  have HNls := Lib.hid (NilOk.of_own ho)
  replace A := (A.kept hb).addH (rows_of_own Hd.cl_len ho)
  obtain ⟨sa, sc, rfl⟩ := rown_form ho
  clear ho hb HD3
  have HIZ := Lib.hid (fun (W : World) (h : HdsAt W (.slice sa s.length sc) s) => implRibStale_any s _ frm W h (by omega))
  have HSZ := Lib.hid (fun (W : World) (h : HdsAt W (.slice sa s.length sc) s) => specRibStale_any s _ frm W h HNls.out (by omega))
  have HZx : Hid ((staleR s frm).code = 0 → StaleOkH s frm (staleR s frm) (sweepR (staleR s frm).rib frm)) := Lib.hid stale_ok
  have hlZ := staleR_len s frm
  unfold RoPost roV at HIZ HSZ
  generalize staleR s frm = Z at *
  go_wp2_with fail
  refine (HIZ.out _ (A.hs _ (.head _))).mono ?_
  rintro e w6 ⟨xv, xt, rfl, ho1, ho2, _, hb⟩
  replace A := ((A.kept hb).addH (rows_of_own Hd.cl_len ho1)).addR (rows_of_own Rt.cl_len ho2)
  obtain ⟨Za, Zc, rfl⟩ := rown_form ho1
  obtain ⟨Zo, Zd, rfl⟩ := rown_form ho2
  clear ho1 ho2 hb HIZ
  go_upto_region 9 with fail
  replace A := A.new 30 #[.slice Za Z.rib.length Zc, .slice Zo Z.gone.length Zd, .int .i64 Z.code]
  obtain ⟨Wo6, hWo⟩ : ∃ Q, Q = w6.alloc (.cells #[.slice Za Z.rib.length Zc, .slice Zo Z.gone.length Zd, .int .i64 Z.code] 30) := ⟨_, rfl⟩
  obtain ⟨qZ, hqo⟩ : ∃ q, q = w6.heap.size := ⟨_, rfl⟩
  rw [← hWo, ← hqo] at A ⊢
  clear hWo hqo
  go_wp2_with fail
  refine (HD4.out _ (A.bytes HY0.out)).mono ?_
  rintro e w7 ⟨wwv, ww, off, rfl, ho, hww10, hb⟩
  have HNlww := Lib.hid (NilOk.of_own ho)
  replace A := (A.kept hb).addH (rows_of_own Hd.cl_len ho)
  obtain ⟨wwa, wwc, rfl⟩ := rown_form ho
  clear ho hb HD4
  have HIV := Lib.hid (fun (W : World) (h : HdsAt W (.slice wwa ww.length wwc) ww) => implRibSweep_any ww _ off W h (by omega))
  have HSV := Lib.hid (fun (W : World) (h : HdsAt W (.slice wwa ww.length wwc) ww) => specRibSweep_any ww _ off W h HNlww.out (by omega))
  have HVx : Hid ((sweepR ww off).code = 0 → ribOk (sweepR ww off).rib = true ∧ (sweepR ww off).rib.length + (sweepR ww off).gone.length = ww.length) := Lib.hid sweep_code
  have hlV := sweepR_len ww off
  unfold RoPost roV at HIV HSV
  generalize sweepR ww off = V at *
  go_wp2_with fail
  refine (HIV.out _ (A.hs _ (.head _))).mono ?_
  rintro e w8 ⟨xv, xt, rfl, ho1, ho2, _, hb⟩
  replace A := ((A.kept hb).addH (rows_of_own Hd.cl_len ho1)).addR (rows_of_own Rt.cl_len ho2)
  obtain ⟨Va, Vc, rfl⟩ := rown_form ho1
  obtain ⟨Vo, Vd, rfl⟩ := rown_form ho2
  clear ho1 ho2 hb HIV
  go_upto_region 11 with fail
  replace A := A.new 30 #[.slice Va V.rib.length Vc, .slice Vo V.gone.length Vd, .int .i64 V.code]
  obtain ⟨Wo8, hWo⟩ : ∃ Q, Q = w8.alloc (.cells #[.slice Va V.rib.length Vc, .slice Vo V.gone.length Vd, .int .i64 V.code] 30) := ⟨_, rfl⟩
  obtain ⟨qV, hqo⟩ : ∃ q, q = w8.heap.size := ⟨_, rfl⟩
  rw [← hWo, ← hqo] at A ⊢
  clear hWo hqo
  go_wp2_with fail
  refine (HD5.out _ (A.bytes HY1.out)).mono ?_
  rintro e w9 ⟨mv, m, vni, but, rfl, ho, hm10, hb⟩
  replace A := (A.kept hb).addH (rows_of_own Hd.cl_len ho)
  obtain ⟨ma, mc, rfl⟩ := rown_form ho
  clear ho hb HD5
  have HLw := Lib.hid (fun (K : List Hd) (K' : List Rt) (c : Int) (v v' t t' : Value) (W : World) (h : HdsAt W v K) (h' : HdsAt W v' K) (k1 : SlAt W 7 t (K'.map Rt.cl)) (k2 : SlAt W 7 t' (K'.map Rt.cl)) (hn : K.length ≤ 201) (hm : K'.length ≤ 201) (hk : c = 0 → ribOk K = true) => lwRibs_any K K' c v v' t t' W h h' k1 k2 (by omega) (by omega) hk)
  have HIm := Lib.hid (fun (W : World) (h : HdsAt W (.slice ma m.length mc) m) => implRoomsOf_any m _ vni but W h (by omega))
  have HSm := Lib.hid (fun (W : World) (h : HdsAt W (.slice ma m.length mc) m) => specRoomsOf_any m _ vni but W h (by omega))
  have hlm := roomsOf_len m vni but
  have HIo := Lib.hid (fun (W : World) (h : HdsAt W (.slice la l.length lc) l) => implRoutesOf_any l _ W h (by omega))
  have HSo := Lib.hid (fun (W : World) (h : HdsAt W (.slice la l.length lc) l) => specRoutesOf_any l _ W h (by omega))
  have hlo := routesOf_len l
  have HIg := Lib.hid (fun (W : World) (h : HdsAt W (.slice la l.length lc) l) => implRibRight_any l _ W h (by omega))
  have HSg := Lib.hid (fun (W : World) (h : HdsAt W (.slice la l.length lc) l) => specRibRight_any l _ W h (by omega))
  unfold RowPost at HIm HSm HIo HSo
  unfold RrPost at HIg HSg
  unfold roV at HLw
  generalize roomsOf m vni but = RMS at *
  generalize routesOf l = RTS at *
  generalize ribOk l = RL at HIg HSg
  have HLn := Lib.hid (fun (v v' : Value) (W : World) (h : SlAt W 1 v (RMS.map clI)) (h' : SlAt W 1 v' (RMS.map clI)) => lwNums_any RMS v v' W h h' (by omega))
  have HLo := Lib.hid (fun (v v' : Value) (W : World) (h : SlAt W 7 v (RTS.map Rt.cl)) (h' : SlAt W 7 v' (RTS.map Rt.cl)) => lwRoutes_any RTS v v' W h h' (by omega))
  have HXok : Hid (X.code = 0 → ribOk X.rib = true) := Lib.hid (fun h => (HPx.out h).ok)
  have HYok : Hid (Y.code = 0 → ribOk Y.rib = true) := Lib.hid (fun h => (HTx.out h).ok)
  have HZok : Hid (Z.code = 0 → ribOk Z.rib = true) := Lib.hid (fun h => (HZx.out h).ok)
  have HVok : Hid (V.code = 0 → ribOk V.rib = true) := Lib.hid (fun h => (HVx.out h).1)
  go_upto_region 12 with fail
  go_cut [134] from 26 (fun s134 wx => s134 = .bool false ∧ Hid (FbM w wx [(qV, 30, #[.slice Va V.rib.length Vc, .slice Vo V.gone.length Vd, .int .i64 V.code]), (qZ, 30, #[.slice Za Z.rib.length Zc, .slice Zo Z.gone.length Zd, .int .i64 Z.code]), (qY, 30, #[.slice Ya Y.rib.length Yc, .slice Yo Y.gone.length Yd, .int .i64 Y.code]), (qr3, 25, #[.int .i64 key.kind, .int .i64 key.vni, .int .i64 key.mac, .int .i64 key.ip, .int .i64 key.org, .int .i64 key.seq, .bool key.st]), (qX, 30, #[.slice Xa X.rib.length Xc, .slice Xo X.gone.length Xd, .int .i64 X.code]), (qr1, 25, #[.int .i64 r.kind, .int .i64 r.vni, .int .i64 r.mac, .int .i64 r.ip, .int .i64 r.org, .int .i64 r.seq, .bool r.st])] [(.slice ma m.length mc, m), (.slice Va V.rib.length Vc, V.rib), (.slice wwa ww.length wwc, ww), (.slice Za Z.rib.length Zc, Z.rib), (.slice sa s.length sc, s), (.slice Ya Y.rib.length Yc, Y.rib), (.slice ta t.length tc, t), (.slice Xa X.rib.length Xc, X.rib), (.slice la l.length lc, l)] [(.slice Vo V.gone.length Vd, V.gone), (.slice Zo Z.gone.length Zd, Z.gone), (.slice Yo Y.gone.length Yd, Y.gone), (.slice Xo X.gone.length Xd, X.gone)]))
  case first => as_aux_lemma =>
    replace A := A.drew
    refine wp_region_held_drew (S := fun W' => FbM w W' _ _ _) (by kernel_rfl) A (fun hHeld => ?_)
    clear hHeld
    generalize w9.drew = Wd at A ⊢
    refine wpAnyH_take (i := 0) (oi := { dst := some 76, op := Op.load 30 (Operand.tmp 8), type := 30, pos := "laws.go:393", after := #[], guard := none }) (v := ?vva1) rfl (by kernel_rfl) (by kernel_rfl) (by kernel_rfl) (fun _ _ _ h => h) (Or.inl ⟨by rfl, ?hya1⟩) A ?resta1
    case hya1 => (intro w hSw; have c0 := hSw.mem.b0.cell; have c1 := hSw.mem.b1.cell; have c2 := hSw.mem.b2.cell; have c3 := hSw.mem.b3.cell; have c4 := hSw.mem.b4.cell; have c5 := hSw.mem.b5.cell;go_simp <;> with_reducible rfl)
    try simp only [Act.put, List.setIfInBounds_toArray, List.set_cons_zero, List.set_cons_succ]
    refine wpAnyH_take (i := 1) (oi := { dst := some 77, op := Op.move (Operand.tmp 5), type := 23, pos := "laws.go:393", after := #[], guard := none }) (v := ?vva2) rfl (by kernel_rfl) (by kernel_rfl) (by kernel_rfl) (fun _ _ _ h => h) (Or.inl ⟨by rfl, ?hya2⟩) A ?resta2
    case hya2 => (intro w hSw; have c0 := hSw.mem.b0.cell; have c1 := hSw.mem.b1.cell; have c2 := hSw.mem.b2.cell; have c3 := hSw.mem.b3.cell; have c4 := hSw.mem.b4.cell; have c5 := hSw.mem.b5.cell;go_simp <;> with_reducible rfl)
    try simp only [Act.put, List.setIfInBounds_toArray, List.set_cons_zero, List.set_cons_succ]
    refine wpAnyH_take (i := 2) (oi := { dst := some 78, op := Op.move (Operand.tmp 6), type := 2, pos := "laws.go:393", after := #[], guard := none }) (v := ?vva3) rfl (by kernel_rfl) (by kernel_rfl) (by kernel_rfl) (fun _ _ _ h => h) (Or.inl ⟨by rfl, ?hya3⟩) A ?resta3
    case hya3 => (intro w hSw; have c0 := hSw.mem.b0.cell; have c1 := hSw.mem.b1.cell; have c2 := hSw.mem.b2.cell; have c3 := hSw.mem.b3.cell; have c4 := hSw.mem.b4.cell; have c5 := hSw.mem.b5.cell;go_simp <;> with_reducible rfl)
    try simp only [Act.put, List.setIfInBounds_toArray, List.set_cons_zero, List.set_cons_succ]
    refine wpAnyH_take (i := 3) (oi := { dst := some 79, op := Op.load 25 (Operand.tmp 7), type := 25, pos := "laws.go:393", after := #[], guard := none }) (v := ?vva4) rfl (by kernel_rfl) (by kernel_rfl) (by kernel_rfl) (fun _ _ _ h => h) (Or.inl ⟨by rfl, ?hya4⟩) A ?resta4
    case hya4 => (intro w hSw; have c0 := hSw.mem.b0.cell; have c1 := hSw.mem.b1.cell; have c2 := hSw.mem.b2.cell; have c3 := hSw.mem.b3.cell; have c4 := hSw.mem.b4.cell; have c5 := hSw.mem.b5.cell;go_simp <;> with_reducible rfl)
    try simp only [Act.put, List.setIfInBounds_toArray, List.set_cons_zero, List.set_cons_succ]
    refine wpAnyH_ready (rs := [4]) (by kernel_rfl) (by simp) ?_
    refine AllReadyH.cons (o := { dst := some 80, op := Op.call { callee := Callee.value (Operand.func 14), args := #[Operand.tmp 77, Operand.tmp 78, Operand.tmp 79], argTypes := #[23, 2, 25] }, type := 30, pos := "laws.go:393", after := #[{ on := 1, ground := Ground.data }, { on := 2, ground := Ground.data }, { on := 3, ground := Ground.data }], guard := none }) rfl (fun K hK => ?_) AllReadyH.nil
    go_simp
    refine (HSX.out _ (A.hs _ memH8)).mono ?_
    rintro e v1 ⟨sv, st, rfl, ho1, ho2, _, hb⟩
    replace A := A.kept hb
    have HS1 := Lib.hid (rows_of_own Hd.cl_len ho1)
    have HS2 := Lib.hid (rows_of_own Rt.cl_len ho2)
    obtain ⟨xa1, xc1, rfl⟩ := rown_form ho1
    obtain ⟨xa2, xc2, rfl⟩ := rown_form ho2
    clear ho1 ho2 hb
    refine hK.out _ _ A (fun hHeld => ?_)
    clear hK K hHeld
    try simp only [Act.put, List.setIfInBounds_toArray, List.set_cons_zero, List.set_cons_succ]
    refine wpAnyH_ready (rs := [5]) (by kernel_rfl) (by simp) ?_
    refine AllReadyH.cons (o := { dst := some 81, op := Op.call { callee := Callee.value (Operand.func 13), args := #[Operand.tmp 76, Operand.tmp 80], argTypes := #[30, 30] }, type := 4, pos := "laws.go:393", after := #[{ on := 0, ground := Ground.data }, { on := 4, ground := Ground.data }, { on := 4, ground := Ground.chain }], guard := none }) rfl (fun K hK => ?_) AllReadyH.nil
    go_simp
    refine (HLw.out X.rib X.gone X.code _ _ _ _ _ (A.hs _ memH7) HS1.out (A.rs _ memR3) HS2.out (by omega) (by omega) HXok.out).mono ?_
    rintro e v2 ⟨rfl, hb⟩
    replace A := A.kept hb
    clear hb HS1 HS2
    refine hK.out _ _ A (fun hHeld => ?_)
    clear hK K hHeld
    try simp only [Act.put, List.setIfInBounds_toArray, List.set_cons_zero, List.set_cons_succ]
    refine wpAnyH_take (i := 6) (oi := { dst := some 82, op := Op.unOp UnOp.not 4 (Operand.tmp 81), type := 4, pos := "laws.go:393", after := #[{ on := 5, ground := Ground.data }], guard := none }) (v := ?vva5) rfl (by kernel_rfl) (by kernel_rfl) (by kernel_rfl) (fun _ _ _ h => h) (Or.inl ⟨by rfl, ?hya5⟩) A ?resta5
    case hya5 => (intro w hSw; have c0 := hSw.mem.b0.cell; have c1 := hSw.mem.b1.cell; have c2 := hSw.mem.b2.cell; have c3 := hSw.mem.b3.cell; have c4 := hSw.mem.b4.cell; have c5 := hSw.mem.b5.cell;go_simp <;> with_reducible rfl)
    try simp only [Act.put, List.setIfInBounds_toArray, List.set_cons_zero, List.set_cons_succ]
    refine wpAnyH_take (i := 7) (oi := { dst := some 83, op := Op.move (Operand.tmp 82), type := 4, pos := "laws.go:393", after := #[{ on := 6, ground := Ground.data }, { on := 5, ground := Ground.chain }], guard := none }) (v := ?vva6) rfl (by kernel_rfl) (by kernel_rfl) (by kernel_rfl) (fun _ _ _ h => h) (Or.inl ⟨by rfl, ?hya6⟩) A ?resta6
    case hya6 => (intro w hSw; have c0 := hSw.mem.b0.cell; have c1 := hSw.mem.b1.cell; have c2 := hSw.mem.b2.cell; have c3 := hSw.mem.b3.cell; have c4 := hSw.mem.b4.cell; have c5 := hSw.mem.b5.cell;go_simp <;> with_reducible rfl)
    try simp only [Act.put, List.setIfInBounds_toArray, List.set_cons_zero, List.set_cons_succ]
    refine wpAnyH_take (i := 8) (oi := { dst := some 84, op := Op.load 30 (Operand.tmp 12), type := 30, pos := "laws.go:393", after := #[{ on := 7, ground := Ground.guard }], guard := some (7, false) }) (v := ?vva7) rfl (by kernel_rfl) (by kernel_rfl) (by kernel_rfl) (fun _ _ _ h => h) (Or.inl ⟨by rfl, ?hya7⟩) A ?resta7
    case hya7 => (intro w hSw; have c0 := hSw.mem.b0.cell; have c1 := hSw.mem.b1.cell; have c2 := hSw.mem.b2.cell; have c3 := hSw.mem.b3.cell; have c4 := hSw.mem.b4.cell; have c5 := hSw.mem.b5.cell;go_simp <;> with_reducible rfl)
    try simp only [Act.put, List.setIfInBounds_toArray, List.set_cons_zero, List.set_cons_succ]
    refine wpAnyH_take (i := 9) (oi := { dst := some 85, op := Op.move (Operand.tmp 9), type := 23, pos := "laws.go:393", after := #[{ on := 7, ground := Ground.guard }], guard := some (7, false) }) (v := ?vva8) rfl (by kernel_rfl) (by kernel_rfl) (by kernel_rfl) (fun _ _ _ h => h) (Or.inl ⟨by rfl, ?hya8⟩) A ?resta8
    case hya8 => (intro w hSw; have c0 := hSw.mem.b0.cell; have c1 := hSw.mem.b1.cell; have c2 := hSw.mem.b2.cell; have c3 := hSw.mem.b3.cell; have c4 := hSw.mem.b4.cell; have c5 := hSw.mem.b5.cell;go_simp <;> with_reducible rfl)
    try simp only [Act.put, List.setIfInBounds_toArray, List.set_cons_zero, List.set_cons_succ]
    refine wpAnyH_take (i := 10) (oi := { dst := some 86, op := Op.move (Operand.tmp 10), type := 2, pos := "laws.go:393", after := #[{ on := 7, ground := Ground.guard }], guard := some (7, false) }) (v := ?vva9) rfl (by kernel_rfl) (by kernel_rfl) (by kernel_rfl) (fun _ _ _ h => h) (Or.inl ⟨by rfl, ?hya9⟩) A ?resta9
    case hya9 => (intro w hSw; have c0 := hSw.mem.b0.cell; have c1 := hSw.mem.b1.cell; have c2 := hSw.mem.b2.cell; have c3 := hSw.mem.b3.cell; have c4 := hSw.mem.b4.cell; have c5 := hSw.mem.b5.cell;go_simp <;> with_reducible rfl)
    try simp only [Act.put, List.setIfInBounds_toArray, List.set_cons_zero, List.set_cons_succ]
    refine wpAnyH_take (i := 11) (oi := { dst := some 87, op := Op.load 25 (Operand.tmp 11), type := 25, pos := "laws.go:393", after := #[{ on := 7, ground := Ground.guard }], guard := some (7, false) }) (v := ?vva10) rfl (by kernel_rfl) (by kernel_rfl) (by kernel_rfl) (fun _ _ _ h => h) (Or.inl ⟨by rfl, ?hya10⟩) A ?resta10
    case hya10 => (intro w hSw; have c0 := hSw.mem.b0.cell; have c1 := hSw.mem.b1.cell; have c2 := hSw.mem.b2.cell; have c3 := hSw.mem.b3.cell; have c4 := hSw.mem.b4.cell; have c5 := hSw.mem.b5.cell;go_simp <;> with_reducible rfl)
    try simp only [Act.put, List.setIfInBounds_toArray, List.set_cons_zero, List.set_cons_succ]
    refine wpAnyH_ready (rs := [12]) (by kernel_rfl) (by simp) ?_
    refine AllReadyH.cons (o := { dst := some 88, op := Op.call { callee := Callee.value (Operand.func 15), args := #[Operand.tmp 85, Operand.tmp 86, Operand.tmp 87], argTypes := #[23, 2, 25] }, type := 30, pos := "laws.go:393", after := #[{ on := 9, ground := Ground.data }, { on := 10, ground := Ground.data }, { on := 11, ground := Ground.data }, { on := 7, ground := Ground.chain }, { on := 7, ground := Ground.guard }], guard := some (7, false) }) rfl (fun K hK => ?_) AllReadyH.nil
    go_simp
    refine (HSY.out _ (A.hs _ memH6)).mono ?_
    rintro e v1 ⟨sv, st, rfl, ho1, ho2, _, hb⟩
    replace A := A.kept hb
    have HS1 := Lib.hid (rows_of_own Hd.cl_len ho1)
    have HS2 := Lib.hid (rows_of_own Rt.cl_len ho2)
    obtain ⟨xa1, xc1, rfl⟩ := rown_form ho1
    obtain ⟨xa2, xc2, rfl⟩ := rown_form ho2
    clear ho1 ho2 hb
    refine hK.out _ _ A (fun hHeld => ?_)
    clear hK K hHeld
    try simp only [Act.put, List.setIfInBounds_toArray, List.set_cons_zero, List.set_cons_succ]
    refine wpAnyH_ready (rs := [13]) (by kernel_rfl) (by simp) ?_
    refine AllReadyH.cons (o := { dst := some 89, op := Op.call { callee := Callee.value (Operand.func 13), args := #[Operand.tmp 84, Operand.tmp 88], argTypes := #[30, 30] }, type := 4, pos := "laws.go:393", after := #[{ on := 8, ground := Ground.data }, { on := 12, ground := Ground.data }, { on := 12, ground := Ground.chain }, { on := 7, ground := Ground.guard }], guard := some (7, false) }) rfl (fun K hK => ?_) AllReadyH.nil
    go_simp
    refine (HLw.out Y.rib Y.gone Y.code _ _ _ _ _ (A.hs _ memH5) HS1.out (A.rs _ memR2) HS2.out (by omega) (by omega) HYok.out).mono ?_
    rintro e v2 ⟨rfl, hb⟩
    replace A := A.kept hb
    clear hb HS1 HS2
    refine hK.out _ _ A (fun hHeld => ?_)
    clear hK K hHeld
    try simp only [Act.put, List.setIfInBounds_toArray, List.set_cons_zero, List.set_cons_succ]
    refine wpAnyH_take (i := 14) (oi := { dst := some 90, op := Op.unOp UnOp.not 4 (Operand.tmp 89), type := 4, pos := "laws.go:393", after := #[{ on := 13, ground := Ground.data }, { on := 7, ground := Ground.guard }], guard := some (7, false) }) (v := ?vva11) rfl (by kernel_rfl) (by kernel_rfl) (by kernel_rfl) (fun _ _ _ h => h) (Or.inl ⟨by rfl, ?hya11⟩) A ?resta11
    case hya11 => (intro w hSw; have c0 := hSw.mem.b0.cell; have c1 := hSw.mem.b1.cell; have c2 := hSw.mem.b2.cell; have c3 := hSw.mem.b3.cell; have c4 := hSw.mem.b4.cell; have c5 := hSw.mem.b5.cell;go_simp <;> with_reducible rfl)
    try simp only [Act.put, List.setIfInBounds_toArray, List.set_cons_zero, List.set_cons_succ]
    refine wpAnyH_take (i := 15) (oi := { dst := some 91, op := Op.pick (Operand.tmp 83) (Operand.const (Value.bool true)) (Operand.tmp 90), type := 4, pos := "laws.go:393", after := #[{ on := 7, ground := Ground.data }, { on := 14, ground := Ground.data }], guard := none }) (v := ?vva12) rfl (by kernel_rfl) (by kernel_rfl) (by kernel_rfl) (fun _ _ _ h => h) (Or.inl ⟨by rfl, ?hya12⟩) A ?resta12
    case hya12 => (intro w hSw; have c0 := hSw.mem.b0.cell; have c1 := hSw.mem.b1.cell; have c2 := hSw.mem.b2.cell; have c3 := hSw.mem.b3.cell; have c4 := hSw.mem.b4.cell; have c5 := hSw.mem.b5.cell;go_simp <;> with_reducible rfl)
    try simp only [Act.put, List.setIfInBounds_toArray, List.set_cons_zero, List.set_cons_succ]
    refine wpAnyH_take (i := 16) (oi := { dst := some 92, op := Op.move (Operand.tmp 91), type := 4, pos := "laws.go:393", after := #[{ on := 15, ground := Ground.data }, { on := 13, ground := Ground.chain }], guard := none }) (v := ?vva13) rfl (by kernel_rfl) (by kernel_rfl) (by kernel_rfl) (fun _ _ _ h => h) (Or.inl ⟨by rfl, ?hya13⟩) A ?resta13
    case hya13 => (intro w hSw; have c0 := hSw.mem.b0.cell; have c1 := hSw.mem.b1.cell; have c2 := hSw.mem.b2.cell; have c3 := hSw.mem.b3.cell; have c4 := hSw.mem.b4.cell; have c5 := hSw.mem.b5.cell;go_simp <;> with_reducible rfl)
    try simp only [Act.put, List.setIfInBounds_toArray, List.set_cons_zero, List.set_cons_succ]
    refine wpAnyH_take (i := 17) (oi := { dst := some 93, op := Op.load 30 (Operand.tmp 15), type := 30, pos := "laws.go:393", after := #[{ on := 16, ground := Ground.guard }], guard := some (16, false) }) (v := ?vva14) rfl (by kernel_rfl) (by kernel_rfl) (by kernel_rfl) (fun _ _ _ h => h) (Or.inl ⟨by rfl, ?hya14⟩) A ?resta14
    case hya14 => (intro w hSw; have c0 := hSw.mem.b0.cell; have c1 := hSw.mem.b1.cell; have c2 := hSw.mem.b2.cell; have c3 := hSw.mem.b3.cell; have c4 := hSw.mem.b4.cell; have c5 := hSw.mem.b5.cell;go_simp <;> with_reducible rfl)
    try simp only [Act.put, List.setIfInBounds_toArray, List.set_cons_zero, List.set_cons_succ]
    refine wpAnyH_take (i := 18) (oi := { dst := some 94, op := Op.move (Operand.tmp 13), type := 23, pos := "laws.go:393", after := #[{ on := 16, ground := Ground.guard }], guard := some (16, false) }) (v := ?vva15) rfl (by kernel_rfl) (by kernel_rfl) (by kernel_rfl) (fun _ _ _ h => h) (Or.inl ⟨by rfl, ?hya15⟩) A ?resta15
    case hya15 => (intro w hSw; have c0 := hSw.mem.b0.cell; have c1 := hSw.mem.b1.cell; have c2 := hSw.mem.b2.cell; have c3 := hSw.mem.b3.cell; have c4 := hSw.mem.b4.cell; have c5 := hSw.mem.b5.cell;go_simp <;> with_reducible rfl)
    try simp only [Act.put, List.setIfInBounds_toArray, List.set_cons_zero, List.set_cons_succ]
    refine wpAnyH_take (i := 19) (oi := { dst := some 95, op := Op.move (Operand.tmp 14), type := 2, pos := "laws.go:393", after := #[{ on := 16, ground := Ground.guard }], guard := some (16, false) }) (v := ?vva16) rfl (by kernel_rfl) (by kernel_rfl) (by kernel_rfl) (fun _ _ _ h => h) (Or.inl ⟨by rfl, ?hya16⟩) A ?resta16
    case hya16 => (intro w hSw; have c0 := hSw.mem.b0.cell; have c1 := hSw.mem.b1.cell; have c2 := hSw.mem.b2.cell; have c3 := hSw.mem.b3.cell; have c4 := hSw.mem.b4.cell; have c5 := hSw.mem.b5.cell;go_simp <;> with_reducible rfl)
    try simp only [Act.put, List.setIfInBounds_toArray, List.set_cons_zero, List.set_cons_succ]
    refine wpAnyH_ready (rs := [20]) (by kernel_rfl) (by simp) ?_
    refine AllReadyH.cons (o := { dst := some 96, op := Op.call { callee := Callee.value (Operand.func 16), args := #[Operand.tmp 94, Operand.tmp 95], argTypes := #[23, 2] }, type := 30, pos := "laws.go:393", after := #[{ on := 18, ground := Ground.data }, { on := 19, ground := Ground.data }, { on := 16, ground := Ground.chain }, { on := 16, ground := Ground.guard }], guard := some (16, false) }) rfl (fun K hK => ?_) AllReadyH.nil
    go_simp
    refine (HSZ.out _ (A.hs _ memH4)).mono ?_
    rintro e v1 ⟨sv, st, rfl, ho1, ho2, _, hb⟩
    replace A := A.kept hb
    have HS1 := Lib.hid (rows_of_own Hd.cl_len ho1)
    have HS2 := Lib.hid (rows_of_own Rt.cl_len ho2)
    obtain ⟨xa1, xc1, rfl⟩ := rown_form ho1
    obtain ⟨xa2, xc2, rfl⟩ := rown_form ho2
    clear ho1 ho2 hb
    refine hK.out _ _ A (fun hHeld => ?_)
    clear hK K hHeld
    try simp only [Act.put, List.setIfInBounds_toArray, List.set_cons_zero, List.set_cons_succ]
    refine wpAnyH_ready (rs := [21]) (by kernel_rfl) (by simp) ?_
    refine AllReadyH.cons (o := { dst := some 97, op := Op.call { callee := Callee.value (Operand.func 13), args := #[Operand.tmp 93, Operand.tmp 96], argTypes := #[30, 30] }, type := 4, pos := "laws.go:393", after := #[{ on := 17, ground := Ground.data }, { on := 20, ground := Ground.data }, { on := 20, ground := Ground.chain }, { on := 16, ground := Ground.guard }], guard := some (16, false) }) rfl (fun K hK => ?_) AllReadyH.nil
    go_simp
    refine (HLw.out Z.rib Z.gone Z.code _ _ _ _ _ (A.hs _ memH3) HS1.out (A.rs _ memR1) HS2.out (by omega) (by omega) HZok.out).mono ?_
    rintro e v2 ⟨rfl, hb⟩
    replace A := A.kept hb
    clear hb HS1 HS2
    refine hK.out _ _ A (fun hHeld => ?_)
    clear hK K hHeld
    try simp only [Act.put, List.setIfInBounds_toArray, List.set_cons_zero, List.set_cons_succ]
    refine wpAnyH_take (i := 22) (oi := { dst := some 98, op := Op.unOp UnOp.not 4 (Operand.tmp 97), type := 4, pos := "laws.go:393", after := #[{ on := 21, ground := Ground.data }, { on := 16, ground := Ground.guard }], guard := some (16, false) }) (v := ?vva17) rfl (by kernel_rfl) (by kernel_rfl) (by kernel_rfl) (fun _ _ _ h => h) (Or.inl ⟨by rfl, ?hya17⟩) A ?resta17
    case hya17 => (intro w hSw; have c0 := hSw.mem.b0.cell; have c1 := hSw.mem.b1.cell; have c2 := hSw.mem.b2.cell; have c3 := hSw.mem.b3.cell; have c4 := hSw.mem.b4.cell; have c5 := hSw.mem.b5.cell;go_simp <;> with_reducible rfl)
    try simp only [Act.put, List.setIfInBounds_toArray, List.set_cons_zero, List.set_cons_succ]
    refine wpAnyH_take (i := 23) (oi := { dst := some 99, op := Op.pick (Operand.tmp 92) (Operand.const (Value.bool true)) (Operand.tmp 98), type := 4, pos := "laws.go:393", after := #[{ on := 16, ground := Ground.data }, { on := 22, ground := Ground.data }], guard := none }) (v := ?vva18) rfl (by kernel_rfl) (by kernel_rfl) (by kernel_rfl) (fun _ _ _ h => h) (Or.inl ⟨by rfl, ?hya18⟩) A ?resta18
    case hya18 => (intro w hSw; have c0 := hSw.mem.b0.cell; have c1 := hSw.mem.b1.cell; have c2 := hSw.mem.b2.cell; have c3 := hSw.mem.b3.cell; have c4 := hSw.mem.b4.cell; have c5 := hSw.mem.b5.cell;go_simp <;> with_reducible rfl)
    try simp only [Act.put, List.setIfInBounds_toArray, List.set_cons_zero, List.set_cons_succ]
    refine wpAnyH_take (i := 24) (oi := { dst := some 100, op := Op.move (Operand.tmp 99), type := 4, pos := "laws.go:393", after := #[{ on := 23, ground := Ground.data }, { on := 21, ground := Ground.chain }], guard := none }) (v := ?vva19) rfl (by kernel_rfl) (by kernel_rfl) (by kernel_rfl) (fun _ _ _ h => h) (Or.inl ⟨by rfl, ?hya19⟩) A ?resta19
    case hya19 => (intro w hSw; have c0 := hSw.mem.b0.cell; have c1 := hSw.mem.b1.cell; have c2 := hSw.mem.b2.cell; have c3 := hSw.mem.b3.cell; have c4 := hSw.mem.b4.cell; have c5 := hSw.mem.b5.cell;go_simp <;> with_reducible rfl)
    try simp only [Act.put, List.setIfInBounds_toArray, List.set_cons_zero, List.set_cons_succ]
    refine wpAnyH_take (i := 25) (oi := { dst := some 101, op := Op.load 30 (Operand.tmp 18), type := 30, pos := "laws.go:393", after := #[{ on := 24, ground := Ground.guard }], guard := some (24, false) }) (v := ?vva20) rfl (by kernel_rfl) (by kernel_rfl) (by kernel_rfl) (fun _ _ _ h => h) (Or.inl ⟨by rfl, ?hya20⟩) A ?resta20
    case hya20 => (intro w hSw; have c0 := hSw.mem.b0.cell; have c1 := hSw.mem.b1.cell; have c2 := hSw.mem.b2.cell; have c3 := hSw.mem.b3.cell; have c4 := hSw.mem.b4.cell; have c5 := hSw.mem.b5.cell;go_simp <;> with_reducible rfl)
    try simp only [Act.put, List.setIfInBounds_toArray, List.set_cons_zero, List.set_cons_succ]
    refine wpAnyH_take (i := 26) (oi := { dst := some 102, op := Op.move (Operand.tmp 16), type := 23, pos := "laws.go:393", after := #[{ on := 24, ground := Ground.guard }], guard := some (24, false) }) (v := ?vva21) rfl (by kernel_rfl) (by kernel_rfl) (by kernel_rfl) (fun _ _ _ h => h) (Or.inl ⟨by rfl, ?hya21⟩) A ?resta21
    case hya21 => (intro w hSw; have c0 := hSw.mem.b0.cell; have c1 := hSw.mem.b1.cell; have c2 := hSw.mem.b2.cell; have c3 := hSw.mem.b3.cell; have c4 := hSw.mem.b4.cell; have c5 := hSw.mem.b5.cell;go_simp <;> with_reducible rfl)
    try simp only [Act.put, List.setIfInBounds_toArray, List.set_cons_zero, List.set_cons_succ]
    refine wpAnyH_take (i := 27) (oi := { dst := some 103, op := Op.move (Operand.tmp 17), type := 2, pos := "laws.go:393", after := #[{ on := 24, ground := Ground.guard }], guard := some (24, false) }) (v := ?vva22) rfl (by kernel_rfl) (by kernel_rfl) (by kernel_rfl) (fun _ _ _ h => h) (Or.inl ⟨by rfl, ?hya22⟩) A ?resta22
    case hya22 => (intro w hSw; have c0 := hSw.mem.b0.cell; have c1 := hSw.mem.b1.cell; have c2 := hSw.mem.b2.cell; have c3 := hSw.mem.b3.cell; have c4 := hSw.mem.b4.cell; have c5 := hSw.mem.b5.cell;go_simp <;> with_reducible rfl)
    try simp only [Act.put, List.setIfInBounds_toArray, List.set_cons_zero, List.set_cons_succ]
    refine wpAnyH_ready (rs := [28]) (by kernel_rfl) (by simp) ?_
    refine AllReadyH.cons (o := { dst := some 104, op := Op.call { callee := Callee.value (Operand.func 17), args := #[Operand.tmp 102, Operand.tmp 103], argTypes := #[23, 2] }, type := 30, pos := "laws.go:393", after := #[{ on := 26, ground := Ground.data }, { on := 27, ground := Ground.data }, { on := 24, ground := Ground.chain }, { on := 24, ground := Ground.guard }], guard := some (24, false) }) rfl (fun K hK => ?_) AllReadyH.nil
    go_simp
    refine (HSV.out _ (A.hs _ memH2)).mono ?_
    rintro e v1 ⟨sv, st, rfl, ho1, ho2, _, hb⟩
    replace A := A.kept hb
    have HS1 := Lib.hid (rows_of_own Hd.cl_len ho1)
    have HS2 := Lib.hid (rows_of_own Rt.cl_len ho2)
    obtain ⟨xa1, xc1, rfl⟩ := rown_form ho1
    obtain ⟨xa2, xc2, rfl⟩ := rown_form ho2
    clear ho1 ho2 hb
    refine hK.out _ _ A (fun hHeld => ?_)
    clear hK K hHeld
    try simp only [Act.put, List.setIfInBounds_toArray, List.set_cons_zero, List.set_cons_succ]
    refine wpAnyH_ready (rs := [29]) (by kernel_rfl) (by simp) ?_
    refine AllReadyH.cons (o := { dst := some 105, op := Op.call { callee := Callee.value (Operand.func 13), args := #[Operand.tmp 101, Operand.tmp 104], argTypes := #[30, 30] }, type := 4, pos := "laws.go:393", after := #[{ on := 25, ground := Ground.data }, { on := 28, ground := Ground.data }, { on := 28, ground := Ground.chain }, { on := 24, ground := Ground.guard }], guard := some (24, false) }) rfl (fun K hK => ?_) AllReadyH.nil
    go_simp
    refine (HLw.out V.rib V.gone V.code _ _ _ _ _ (A.hs _ memH1) HS1.out (A.rs _ memR0) HS2.out (by omega) (by omega) HVok.out).mono ?_
    rintro e v2 ⟨rfl, hb⟩
    replace A := A.kept hb
    clear hb HS1 HS2
    refine hK.out _ _ A (fun hHeld => ?_)
    clear hK K hHeld
    try simp only [Act.put, List.setIfInBounds_toArray, List.set_cons_zero, List.set_cons_succ]
    refine wpAnyH_take (i := 30) (oi := { dst := some 106, op := Op.unOp UnOp.not 4 (Operand.tmp 105), type := 4, pos := "laws.go:393", after := #[{ on := 29, ground := Ground.data }, { on := 24, ground := Ground.guard }], guard := some (24, false) }) (v := ?vva23) rfl (by kernel_rfl) (by kernel_rfl) (by kernel_rfl) (fun _ _ _ h => h) (Or.inl ⟨by rfl, ?hya23⟩) A ?resta23
    case hya23 => (intro w hSw; have c0 := hSw.mem.b0.cell; have c1 := hSw.mem.b1.cell; have c2 := hSw.mem.b2.cell; have c3 := hSw.mem.b3.cell; have c4 := hSw.mem.b4.cell; have c5 := hSw.mem.b5.cell;go_simp <;> with_reducible rfl)
    try simp only [Act.put, List.setIfInBounds_toArray, List.set_cons_zero, List.set_cons_succ]
    refine wpAnyH_take (i := 31) (oi := { dst := some 107, op := Op.pick (Operand.tmp 100) (Operand.const (Value.bool true)) (Operand.tmp 106), type := 4, pos := "laws.go:393", after := #[{ on := 24, ground := Ground.data }, { on := 30, ground := Ground.data }], guard := none }) (v := ?vva24) rfl (by kernel_rfl) (by kernel_rfl) (by kernel_rfl) (fun _ _ _ h => h) (Or.inl ⟨by rfl, ?hya24⟩) A ?resta24
    case hya24 => (intro w hSw; have c0 := hSw.mem.b0.cell; have c1 := hSw.mem.b1.cell; have c2 := hSw.mem.b2.cell; have c3 := hSw.mem.b3.cell; have c4 := hSw.mem.b4.cell; have c5 := hSw.mem.b5.cell;go_simp <;> with_reducible rfl)
    try simp only [Act.put, List.setIfInBounds_toArray, List.set_cons_zero, List.set_cons_succ]
    refine wpAnyH_take (i := 32) (oi := { dst := some 108, op := Op.move (Operand.tmp 107), type := 4, pos := "laws.go:393", after := #[{ on := 31, ground := Ground.data }, { on := 29, ground := Ground.chain }], guard := none }) (v := ?vva25) rfl (by kernel_rfl) (by kernel_rfl) (by kernel_rfl) (fun _ _ _ h => h) (Or.inl ⟨by rfl, ?hya25⟩) A ?resta25
    case hya25 => (intro w hSw; have c0 := hSw.mem.b0.cell; have c1 := hSw.mem.b1.cell; have c2 := hSw.mem.b2.cell; have c3 := hSw.mem.b3.cell; have c4 := hSw.mem.b4.cell; have c5 := hSw.mem.b5.cell;go_simp <;> with_reducible rfl)
    try simp only [Act.put, List.setIfInBounds_toArray, List.set_cons_zero, List.set_cons_succ]
    refine wpAnyH_take (i := 33) (oi := { dst := some 109, op := Op.move (Operand.tmp 19), type := 23, pos := "laws.go:393", after := #[{ on := 32, ground := Ground.guard }], guard := some (32, false) }) (v := ?vva26) rfl (by kernel_rfl) (by kernel_rfl) (by kernel_rfl) (fun _ _ _ h => h) (Or.inl ⟨by rfl, ?hya26⟩) A ?resta26
    case hya26 => (intro w hSw; have c0 := hSw.mem.b0.cell; have c1 := hSw.mem.b1.cell; have c2 := hSw.mem.b2.cell; have c3 := hSw.mem.b3.cell; have c4 := hSw.mem.b4.cell; have c5 := hSw.mem.b5.cell;go_simp <;> with_reducible rfl)
    try simp only [Act.put, List.setIfInBounds_toArray, List.set_cons_zero, List.set_cons_succ]
    refine wpAnyH_take (i := 34) (oi := { dst := some 110, op := Op.move (Operand.tmp 20), type := 2, pos := "laws.go:393", after := #[{ on := 32, ground := Ground.guard }], guard := some (32, false) }) (v := ?vva27) rfl (by kernel_rfl) (by kernel_rfl) (by kernel_rfl) (fun _ _ _ h => h) (Or.inl ⟨by rfl, ?hya27⟩) A ?resta27
    case hya27 => (intro w hSw; have c0 := hSw.mem.b0.cell; have c1 := hSw.mem.b1.cell; have c2 := hSw.mem.b2.cell; have c3 := hSw.mem.b3.cell; have c4 := hSw.mem.b4.cell; have c5 := hSw.mem.b5.cell;go_simp <;> with_reducible rfl)
    try simp only [Act.put, List.setIfInBounds_toArray, List.set_cons_zero, List.set_cons_succ]
    refine wpAnyH_take (i := 35) (oi := { dst := some 111, op := Op.move (Operand.tmp 21), type := 2, pos := "laws.go:393", after := #[{ on := 32, ground := Ground.guard }], guard := some (32, false) }) (v := ?vva28) rfl (by kernel_rfl) (by kernel_rfl) (by kernel_rfl) (fun _ _ _ h => h) (Or.inl ⟨by rfl, ?hya28⟩) A ?resta28
    case hya28 => (intro w hSw; have c0 := hSw.mem.b0.cell; have c1 := hSw.mem.b1.cell; have c2 := hSw.mem.b2.cell; have c3 := hSw.mem.b3.cell; have c4 := hSw.mem.b4.cell; have c5 := hSw.mem.b5.cell;go_simp <;> with_reducible rfl)
    try simp only [Act.put, List.setIfInBounds_toArray, List.set_cons_zero, List.set_cons_succ]
    refine wpAnyH_take (i := 37) (oi := { dst := some 113, op := Op.move (Operand.tmp 19), type := 23, pos := "laws.go:393", after := #[{ on := 32, ground := Ground.guard }], guard := some (32, false) }) (v := ?vva29) rfl (by kernel_rfl) (by kernel_rfl) (by kernel_rfl) (fun _ _ _ h => h) (Or.inl ⟨by rfl, ?hya29⟩) A ?resta29
    case hya29 => (intro w hSw; have c0 := hSw.mem.b0.cell; have c1 := hSw.mem.b1.cell; have c2 := hSw.mem.b2.cell; have c3 := hSw.mem.b3.cell; have c4 := hSw.mem.b4.cell; have c5 := hSw.mem.b5.cell;go_simp <;> with_reducible rfl)
    try simp only [Act.put, List.setIfInBounds_toArray, List.set_cons_zero, List.set_cons_succ]
    refine wpAnyH_take (i := 38) (oi := { dst := some 114, op := Op.move (Operand.tmp 20), type := 2, pos := "laws.go:393", after := #[{ on := 32, ground := Ground.guard }], guard := some (32, false) }) (v := ?vva30) rfl (by kernel_rfl) (by kernel_rfl) (by kernel_rfl) (fun _ _ _ h => h) (Or.inl ⟨by rfl, ?hya30⟩) A ?resta30
    case hya30 => (intro w hSw; have c0 := hSw.mem.b0.cell; have c1 := hSw.mem.b1.cell; have c2 := hSw.mem.b2.cell; have c3 := hSw.mem.b3.cell; have c4 := hSw.mem.b4.cell; have c5 := hSw.mem.b5.cell;go_simp <;> with_reducible rfl)
    try simp only [Act.put, List.setIfInBounds_toArray, List.set_cons_zero, List.set_cons_succ]
    refine wpAnyH_take (i := 39) (oi := { dst := some 115, op := Op.move (Operand.tmp 21), type := 2, pos := "laws.go:393", after := #[{ on := 32, ground := Ground.guard }], guard := some (32, false) }) (v := ?vva31) rfl (by kernel_rfl) (by kernel_rfl) (by kernel_rfl) (fun _ _ _ h => h) (Or.inl ⟨by rfl, ?hya31⟩) A ?resta31
    case hya31 => (intro w hSw; have c0 := hSw.mem.b0.cell; have c1 := hSw.mem.b1.cell; have c2 := hSw.mem.b2.cell; have c3 := hSw.mem.b3.cell; have c4 := hSw.mem.b4.cell; have c5 := hSw.mem.b5.cell;go_simp <;> with_reducible rfl)
    try simp only [Act.put, List.setIfInBounds_toArray, List.set_cons_zero, List.set_cons_succ]
    refine wpAnyH_ready (rs := [36]) (by kernel_rfl) (by simp) ?_
    refine AllReadyH.cons (o := { dst := some 112, op := Op.call { callee := Callee.value (Operand.func 19), args := #[Operand.tmp 109, Operand.tmp 110, Operand.tmp 111], argTypes := #[23, 2, 2] }, type := 39, pos := "laws.go:393", after := #[{ on := 33, ground := Ground.data }, { on := 34, ground := Ground.data }, { on := 35, ground := Ground.data }, { on := 32, ground := Ground.chain }, { on := 32, ground := Ground.guard }], guard := some (32, false) }) rfl (fun K hK => ?_) AllReadyH.nil
    go_simp
    refine (HIm.out _ (A.hs _ memH0)).mono ?_
    rintro e v3 ⟨svi, rfl, ho1, hb⟩
    replace A := A.kept hb
    have HSi := Lib.hid (rows_of_own clI_len ho1)
    obtain ⟨sai, sci, rfl⟩ := rown_form ho1
    clear ho1 hb
    refine hK.out _ _ A (fun hHeld => ?_)
    clear hK K hHeld
    try simp only [Act.put, List.setIfInBounds_toArray, List.set_cons_zero, List.set_cons_succ]
    refine wpAnyH_ready (rs := [40]) (by kernel_rfl) (by simp) ?_
    refine AllReadyH.cons (o := { dst := some 116, op := Op.call { callee := Callee.value (Operand.func 20), args := #[Operand.tmp 113, Operand.tmp 114, Operand.tmp 115], argTypes := #[23, 2, 2] }, type := 39, pos := "laws.go:393", after := #[{ on := 37, ground := Ground.data }, { on := 38, ground := Ground.data }, { on := 39, ground := Ground.data }, { on := 36, ground := Ground.chain }, { on := 32, ground := Ground.guard }], guard := some (32, false) }) rfl (fun K hK => ?_) AllReadyH.nil
    go_simp
    refine (HSm.out _ (A.hs _ memH0)).mono ?_
    rintro e v3 ⟨svj, rfl, ho1, hb⟩
    replace A := A.kept hb
    replace HSi := Lib.hid (SlAt.kept HSi.out hb)
    have HSj := Lib.hid (rows_of_own clI_len ho1)
    obtain ⟨saj, scj, rfl⟩ := rown_form ho1
    clear ho1 hb
    refine hK.out _ _ A (fun hHeld => ?_)
    clear hK K hHeld
    try simp only [Act.put, List.setIfInBounds_toArray, List.set_cons_zero, List.set_cons_succ]
    refine wpAnyH_ready (rs := [41]) (by kernel_rfl) (by simp) ?_
    refine AllReadyH.cons (o := { dst := some 117, op := Op.call { callee := Callee.value (Operand.func 18), args := #[Operand.tmp 112, Operand.tmp 116], argTypes := #[39, 39] }, type := 4, pos := "laws.go:393", after := #[{ on := 36, ground := Ground.data }, { on := 40, ground := Ground.data }, { on := 40, ground := Ground.chain }, { on := 32, ground := Ground.guard }], guard := some (32, false) }) rfl (fun K hK => ?_) AllReadyH.nil
    go_simp
    refine (HLn.out _ _ _ HSi.out HSj.out).mono ?_
    rintro e v4 ⟨rfl, hb⟩
    replace A := A.kept hb
    clear hb HSi HSj
    refine hK.out _ _ A (fun hHeld => ?_)
    clear hK K hHeld
    try simp only [Act.put, List.setIfInBounds_toArray, List.set_cons_zero, List.set_cons_succ]
    refine wpAnyH_take (i := 42) (oi := { dst := some 118, op := Op.unOp UnOp.not 4 (Operand.tmp 117), type := 4, pos := "laws.go:393", after := #[{ on := 41, ground := Ground.data }, { on := 32, ground := Ground.guard }], guard := some (32, false) }) (v := ?vva32) rfl (by kernel_rfl) (by kernel_rfl) (by kernel_rfl) (fun _ _ _ h => h) (Or.inl ⟨by rfl, ?hya32⟩) A ?resta32
    case hya32 => (intro w hSw; have c0 := hSw.mem.b0.cell; have c1 := hSw.mem.b1.cell; have c2 := hSw.mem.b2.cell; have c3 := hSw.mem.b3.cell; have c4 := hSw.mem.b4.cell; have c5 := hSw.mem.b5.cell;go_simp <;> with_reducible rfl)
    try simp only [Act.put, List.setIfInBounds_toArray, List.set_cons_zero, List.set_cons_succ]
    refine wpAnyH_take (i := 43) (oi := { dst := some 119, op := Op.pick (Operand.tmp 108) (Operand.const (Value.bool true)) (Operand.tmp 118), type := 4, pos := "laws.go:393", after := #[{ on := 32, ground := Ground.data }, { on := 42, ground := Ground.data }], guard := none }) (v := ?vva33) rfl (by kernel_rfl) (by kernel_rfl) (by kernel_rfl) (fun _ _ _ h => h) (Or.inl ⟨by rfl, ?hya33⟩) A ?resta33
    case hya33 => (intro w hSw; have c0 := hSw.mem.b0.cell; have c1 := hSw.mem.b1.cell; have c2 := hSw.mem.b2.cell; have c3 := hSw.mem.b3.cell; have c4 := hSw.mem.b4.cell; have c5 := hSw.mem.b5.cell;go_simp <;> with_reducible rfl)
    try simp only [Act.put, List.setIfInBounds_toArray, List.set_cons_zero, List.set_cons_succ]
    refine wpAnyH_take (i := 44) (oi := { dst := some 120, op := Op.move (Operand.tmp 119), type := 4, pos := "laws.go:393", after := #[{ on := 43, ground := Ground.data }, { on := 41, ground := Ground.chain }], guard := none }) (v := ?vva34) rfl (by kernel_rfl) (by kernel_rfl) (by kernel_rfl) (fun _ _ _ h => h) (Or.inl ⟨by rfl, ?hya34⟩) A ?resta34
    case hya34 => (intro w hSw; have c0 := hSw.mem.b0.cell; have c1 := hSw.mem.b1.cell; have c2 := hSw.mem.b2.cell; have c3 := hSw.mem.b3.cell; have c4 := hSw.mem.b4.cell; have c5 := hSw.mem.b5.cell;go_simp <;> with_reducible rfl)
    try simp only [Act.put, List.setIfInBounds_toArray, List.set_cons_zero, List.set_cons_succ]
    refine wpAnyH_take (i := 45) (oi := { dst := some 121, op := Op.move (Operand.tmp 5), type := 23, pos := "laws.go:393", after := #[{ on := 44, ground := Ground.guard }], guard := some (44, false) }) (v := ?vva35) rfl (by kernel_rfl) (by kernel_rfl) (by kernel_rfl) (fun _ _ _ h => h) (Or.inl ⟨by rfl, ?hya35⟩) A ?resta35
    case hya35 => (intro w hSw; have c0 := hSw.mem.b0.cell; have c1 := hSw.mem.b1.cell; have c2 := hSw.mem.b2.cell; have c3 := hSw.mem.b3.cell; have c4 := hSw.mem.b4.cell; have c5 := hSw.mem.b5.cell;go_simp <;> with_reducible rfl)
    try simp only [Act.put, List.setIfInBounds_toArray, List.set_cons_zero, List.set_cons_succ]
    refine wpAnyH_take (i := 47) (oi := { dst := some 123, op := Op.move (Operand.tmp 5), type := 23, pos := "laws.go:393", after := #[{ on := 44, ground := Ground.guard }], guard := some (44, false) }) (v := ?vva36) rfl (by kernel_rfl) (by kernel_rfl) (by kernel_rfl) (fun _ _ _ h => h) (Or.inl ⟨by rfl, ?hya36⟩) A ?resta36
    case hya36 => (intro w hSw; have c0 := hSw.mem.b0.cell; have c1 := hSw.mem.b1.cell; have c2 := hSw.mem.b2.cell; have c3 := hSw.mem.b3.cell; have c4 := hSw.mem.b4.cell; have c5 := hSw.mem.b5.cell;go_simp <;> with_reducible rfl)
    try simp only [Act.put, List.setIfInBounds_toArray, List.set_cons_zero, List.set_cons_succ]
    refine wpAnyH_ready (rs := [46]) (by kernel_rfl) (by simp) ?_
    refine AllReadyH.cons (o := { dst := some 122, op := Op.call { callee := Callee.value (Operand.func 22), args := #[Operand.tmp 121], argTypes := #[23] }, type := 28, pos := "laws.go:393", after := #[{ on := 45, ground := Ground.data }, { on := 44, ground := Ground.chain }, { on := 44, ground := Ground.guard }], guard := some (44, false) }) rfl (fun K hK => ?_) AllReadyH.nil
    go_simp
    refine (HIo.out _ (A.hs _ memH8)).mono ?_
    rintro e v3 ⟨svi, rfl, ho1, hb⟩
    replace A := A.kept hb
    have HSi := Lib.hid (rows_of_own Rt.cl_len ho1)
    obtain ⟨sai, sci, rfl⟩ := rown_form ho1
    clear ho1 hb
    refine hK.out _ _ A (fun hHeld => ?_)
    clear hK K hHeld
    try simp only [Act.put, List.setIfInBounds_toArray, List.set_cons_zero, List.set_cons_succ]
    refine wpAnyH_ready (rs := [48]) (by kernel_rfl) (by simp) ?_
    refine AllReadyH.cons (o := { dst := some 124, op := Op.call { callee := Callee.value (Operand.func 23), args := #[Operand.tmp 123], argTypes := #[23] }, type := 28, pos := "laws.go:393", after := #[{ on := 47, ground := Ground.data }, { on := 46, ground := Ground.chain }, { on := 44, ground := Ground.guard }], guard := some (44, false) }) rfl (fun K hK => ?_) AllReadyH.nil
    go_simp
    refine (HSo.out _ (A.hs _ memH8)).mono ?_
    rintro e v3 ⟨svj, rfl, ho1, hb⟩
    replace A := A.kept hb
    replace HSi := Lib.hid (SlAt.kept HSi.out hb)
    have HSj := Lib.hid (rows_of_own Rt.cl_len ho1)
    obtain ⟨saj, scj, rfl⟩ := rown_form ho1
    clear ho1 hb
    refine hK.out _ _ A (fun hHeld => ?_)
    clear hK K hHeld
    try simp only [Act.put, List.setIfInBounds_toArray, List.set_cons_zero, List.set_cons_succ]
    refine wpAnyH_ready (rs := [49]) (by kernel_rfl) (by simp) ?_
    refine AllReadyH.cons (o := { dst := some 125, op := Op.call { callee := Callee.value (Operand.func 21), args := #[Operand.tmp 122, Operand.tmp 124], argTypes := #[28, 28] }, type := 4, pos := "laws.go:393", after := #[{ on := 46, ground := Ground.data }, { on := 48, ground := Ground.data }, { on := 48, ground := Ground.chain }, { on := 44, ground := Ground.guard }], guard := some (44, false) }) rfl (fun K hK => ?_) AllReadyH.nil
    go_simp
    refine (HLo.out _ _ _ HSi.out HSj.out).mono ?_
    rintro e v4 ⟨rfl, hb⟩
    replace A := A.kept hb
    clear hb HSi HSj
    refine hK.out _ _ A (fun hHeld => ?_)
    clear hK K hHeld
    try simp only [Act.put, List.setIfInBounds_toArray, List.set_cons_zero, List.set_cons_succ]
    refine wpAnyH_take (i := 50) (oi := { dst := some 126, op := Op.unOp UnOp.not 4 (Operand.tmp 125), type := 4, pos := "laws.go:393", after := #[{ on := 49, ground := Ground.data }, { on := 44, ground := Ground.guard }], guard := some (44, false) }) (v := ?vva37) rfl (by kernel_rfl) (by kernel_rfl) (by kernel_rfl) (fun _ _ _ h => h) (Or.inl ⟨by rfl, ?hya37⟩) A ?resta37
    case hya37 => (intro w hSw; have c0 := hSw.mem.b0.cell; have c1 := hSw.mem.b1.cell; have c2 := hSw.mem.b2.cell; have c3 := hSw.mem.b3.cell; have c4 := hSw.mem.b4.cell; have c5 := hSw.mem.b5.cell;go_simp <;> with_reducible rfl)
    try simp only [Act.put, List.setIfInBounds_toArray, List.set_cons_zero, List.set_cons_succ]
    refine wpAnyH_take (i := 51) (oi := { dst := some 127, op := Op.pick (Operand.tmp 120) (Operand.const (Value.bool true)) (Operand.tmp 126), type := 4, pos := "laws.go:393", after := #[{ on := 44, ground := Ground.data }, { on := 50, ground := Ground.data }], guard := none }) (v := ?vva38) rfl (by kernel_rfl) (by kernel_rfl) (by kernel_rfl) (fun _ _ _ h => h) (Or.inl ⟨by rfl, ?hya38⟩) A ?resta38
    case hya38 => (intro w hSw; have c0 := hSw.mem.b0.cell; have c1 := hSw.mem.b1.cell; have c2 := hSw.mem.b2.cell; have c3 := hSw.mem.b3.cell; have c4 := hSw.mem.b4.cell; have c5 := hSw.mem.b5.cell;go_simp <;> with_reducible rfl)
    try simp only [Act.put, List.setIfInBounds_toArray, List.set_cons_zero, List.set_cons_succ]
    refine wpAnyH_take (i := 52) (oi := { dst := some 128, op := Op.move (Operand.tmp 127), type := 4, pos := "laws.go:393", after := #[{ on := 51, ground := Ground.data }, { on := 49, ground := Ground.chain }], guard := none }) (v := ?vva39) rfl (by kernel_rfl) (by kernel_rfl) (by kernel_rfl) (fun _ _ _ h => h) (Or.inl ⟨by rfl, ?hya39⟩) A ?resta39
    case hya39 => (intro w hSw; have c0 := hSw.mem.b0.cell; have c1 := hSw.mem.b1.cell; have c2 := hSw.mem.b2.cell; have c3 := hSw.mem.b3.cell; have c4 := hSw.mem.b4.cell; have c5 := hSw.mem.b5.cell;go_simp <;> with_reducible rfl)
    try simp only [Act.put, List.setIfInBounds_toArray, List.set_cons_zero, List.set_cons_succ]
    refine wpAnyH_take (i := 53) (oi := { dst := some 129, op := Op.move (Operand.tmp 5), type := 23, pos := "laws.go:393", after := #[{ on := 52, ground := Ground.guard }], guard := some (52, false) }) (v := ?vva40) rfl (by kernel_rfl) (by kernel_rfl) (by kernel_rfl) (fun _ _ _ h => h) (Or.inl ⟨by rfl, ?hya40⟩) A ?resta40
    case hya40 => (intro w hSw; have c0 := hSw.mem.b0.cell; have c1 := hSw.mem.b1.cell; have c2 := hSw.mem.b2.cell; have c3 := hSw.mem.b3.cell; have c4 := hSw.mem.b4.cell; have c5 := hSw.mem.b5.cell;go_simp <;> with_reducible rfl)
    try simp only [Act.put, List.setIfInBounds_toArray, List.set_cons_zero, List.set_cons_succ]
    refine wpAnyH_take (i := 55) (oi := { dst := some 131, op := Op.move (Operand.tmp 5), type := 23, pos := "laws.go:393", after := #[{ on := 52, ground := Ground.guard }], guard := some (52, false) }) (v := ?vva41) rfl (by kernel_rfl) (by kernel_rfl) (by kernel_rfl) (fun _ _ _ h => h) (Or.inl ⟨by rfl, ?hya41⟩) A ?resta41
    case hya41 => (intro w hSw; have c0 := hSw.mem.b0.cell; have c1 := hSw.mem.b1.cell; have c2 := hSw.mem.b2.cell; have c3 := hSw.mem.b3.cell; have c4 := hSw.mem.b4.cell; have c5 := hSw.mem.b5.cell;go_simp <;> with_reducible rfl)
    try simp only [Act.put, List.setIfInBounds_toArray, List.set_cons_zero, List.set_cons_succ]
    refine wpAnyH_ready (rs := [54]) (by kernel_rfl) (by simp) ?_
    refine AllReadyH.cons (o := { dst := some 130, op := Op.call { callee := Callee.value (Operand.func 24), args := #[Operand.tmp 129], argTypes := #[23] }, type := 4, pos := "laws.go:393", after := #[{ on := 53, ground := Ground.data }, { on := 52, ground := Ground.chain }, { on := 52, ground := Ground.guard }], guard := some (52, false) }) rfl (fun K hK => ?_) AllReadyH.nil
    go_simp
    refine (HIg.out _ (A.hs _ memH8)).mono ?_
    rintro e v5 ⟨rfl, hb⟩
    replace A := A.kept hb
    clear hb
    refine hK.out _ _ A (fun hHeld => ?_)
    clear hK K hHeld
    try simp only [Act.put, List.setIfInBounds_toArray, List.set_cons_zero, List.set_cons_succ]
    refine wpAnyH_ready (rs := [56]) (by kernel_rfl) (by simp) ?_
    refine AllReadyH.cons (o := { dst := some 132, op := Op.call { callee := Callee.value (Operand.func 25), args := #[Operand.tmp 131], argTypes := #[23] }, type := 4, pos := "laws.go:393", after := #[{ on := 55, ground := Ground.data }, { on := 54, ground := Ground.chain }, { on := 52, ground := Ground.guard }], guard := some (52, false) }) rfl (fun K hK => ?_) AllReadyH.nil
    go_simp
    refine (HSg.out _ (A.hs _ memH8)).mono ?_
    rintro e v5 ⟨rfl, hb⟩
    replace A := A.kept hb
    clear hb
    refine hK.out _ _ A (fun hHeld => ?_)
    clear hK K hHeld
    try simp only [Act.put, List.setIfInBounds_toArray, List.set_cons_zero, List.set_cons_succ]
    refine wpAnyH_take (i := 57) (oi := { dst := some 133, op := Op.binOp BinOp.neq 4 (Operand.tmp 130) (Operand.tmp 132) 4, type := 4, pos := "laws.go:393", after := #[{ on := 54, ground := Ground.data }, { on := 56, ground := Ground.data }, { on := 52, ground := Ground.guard }], guard := some (52, false) }) (v := ?vva42) rfl (by kernel_rfl) (by kernel_rfl) (by kernel_rfl) (fun _ _ _ h => h) (Or.inl ⟨by rfl, ?hya42⟩) A ?resta42
    case hya42 => (intro w hSw; have c0 := hSw.mem.b0.cell; have c1 := hSw.mem.b1.cell; have c2 := hSw.mem.b2.cell; have c3 := hSw.mem.b3.cell; have c4 := hSw.mem.b4.cell; have c5 := hSw.mem.b5.cell;go_simp <;> with_reducible rfl)
    try simp only [Act.put, List.setIfInBounds_toArray, List.set_cons_zero, List.set_cons_succ]
    refine wpAnyH_take (i := 58) (oi := { dst := some 134, op := Op.pick (Operand.tmp 128) (Operand.const (Value.bool true)) (Operand.tmp 133), type := 4, pos := "laws.go:393", after := #[{ on := 52, ground := Ground.data }, { on := 57, ground := Ground.data }], guard := none }) (v := ?vva43) rfl (by kernel_rfl) (by kernel_rfl) (by kernel_rfl) (fun _ _ _ h => h) (Or.inl ⟨by rfl, ?hya43⟩) A ?resta43
    case hya43 => (intro w hSw; have c0 := hSw.mem.b0.cell; have c1 := hSw.mem.b1.cell; have c2 := hSw.mem.b2.cell; have c3 := hSw.mem.b3.cell; have c4 := hSw.mem.b4.cell; have c5 := hSw.mem.b5.cell;go_simp <;> with_reducible rfl)
    try simp only [Act.put, List.setIfInBounds_toArray, List.set_cons_zero, List.set_cons_succ]
    refine wpAnyH_done (by kernel_rfl) ?_ _
    all_goals
      go_wp2_with fail
      go_meet
      exact ⟨rfl, Lib.hid A⟩
  case rest =>
  obtain ⟨rfl, HA⟩ := hcut
  have A := HA.out
  clear HA HSX HSY HSZ HSV HLw HIm HSm HIo HSo HIg HSg HLn HLo HXok HYok HZok HVok
  have hfl : ∀ (x y z : Value) (w : World), (Instr.field 30 (.agg #[x, y, z]) 0).run Tryz.prog w = .ok x w := fun _ _ _ _ => by kernel_rfl
  have hfc : ∀ (x y z : Value) (w : World), (Instr.field 30 (.agg #[x, y, z]) 2).run Tryz.prog w = .ok z w := fun _ _ _ _ => by kernel_rfl
  go_upto_region 14 with fail
  go_cut [181] from 26 (fun s181 wx => s181 = .bool false ∧ Hid (FbM w wx [(qV, 30, #[.slice Va V.rib.length Vc, .slice Vo V.gone.length Vd, .int .i64 V.code]), (qZ, 30, #[.slice Za Z.rib.length Zc, .slice Zo Z.gone.length Zd, .int .i64 Z.code]), (qY, 30, #[.slice Ya Y.rib.length Yc, .slice Yo Y.gone.length Yd, .int .i64 Y.code]), (qr3, 25, #[.int .i64 key.kind, .int .i64 key.vni, .int .i64 key.mac, .int .i64 key.ip, .int .i64 key.org, .int .i64 key.seq, .bool key.st]), (qX, 30, #[.slice Xa X.rib.length Xc, .slice Xo X.gone.length Xd, .int .i64 X.code]), (qr1, 25, #[.int .i64 r.kind, .int .i64 r.vni, .int .i64 r.mac, .int .i64 r.ip, .int .i64 r.org, .int .i64 r.seq, .bool r.st])] [(.slice ma m.length mc, m), (.slice Va V.rib.length Vc, V.rib), (.slice wwa ww.length wwc, ww), (.slice Za Z.rib.length Zc, Z.rib), (.slice sa s.length sc, s), (.slice Ya Y.rib.length Yc, Y.rib), (.slice ta t.length tc, t), (.slice Xa X.rib.length Xc, X.rib), (.slice la l.length lc, l)] [(.slice Vo V.gone.length Vd, V.gone), (.slice Zo Z.gone.length Zd, Z.gone), (.slice Yo Y.gone.length Yd, Y.gone), (.slice Xo X.gone.length Xd, X.gone)]))
  case first => as_aux_lemma =>
    replace A := A.drew
    by_cases hy0 : Y.code = 0
    · obtain ⟨YR, YG, yc⟩ := Y
      dsimp only at *
      subst hy0
      have hT := HTx.out rfl
      obtain ⟨gg, hgg, hput⟩ := hT.one
      try dsimp only at hgg hput
      subst hgg
      have hln := hT.len
      have hnn := hT.none'
      try dsimp only at hln hnn
      have hyw : IntKind.i64.wrap ((t.length : Int) - 1) = (YR.length : Int) := by simp only [IntKind.wrap_i64]; omega
      have HIk := Lib.hid (fun (W : World) (h : HdsAt W (.slice Ya YR.length Yc) YR) => implRibTake_any YR _ who key W h (by omega))
      have HIq := Lib.hid (fun (W : World) (h : HdsAt W (.slice Ya YR.length Yc) YR) => implRibPut_any YR _ who gg W h (by omega))
      have HIf := Lib.hid (fun (W : World) (h : HdsAt W (.slice ta t.length tc) t) => lwFresh_any t _ who gg W h HNlt.out (by omega))
      have HLr := Lib.hid (fun (v v' : Value) (W : World) (h : HdsAt W v (t.map (freshH who gg))) (h' : HdsAt W v' (t.map (freshH who gg))) => lwRib_any (t.map (freshH who gg)) v v' W h h' (by rw [List.length_map]; omega))
      unfold RoPost roV Rt.val rtV at HIk HIq
      unfold RowPost Rt.val rtV at HIf
      rw [hnn] at HIk
      rw [hput] at HIq
      have hnn2 := Lib.hid hnn
      clear hT hput hln hnn
      generalize t.map (freshH who gg) = FR at *
      obtain ⟨b, off, hpa, hp⟩ : ∃ b off, Yo = some ⟨b, off, none⟩ ∧ ∀ W', FbM w W' [(qV, 30, #[.slice Va V.rib.length Vc, .slice Vo V.gone.length Vd, .int .i64 V.code]), (qZ, 30, #[.slice Za Z.rib.length Zc, .slice Zo Z.gone.length Zd, .int .i64 Z.code]), (qY, 30, #[.slice Ya YR.length Yc, .slice Yo 1 Yd, .int .i64 0]), (qr3, 25, #[.int .i64 key.kind, .int .i64 key.vni, .int .i64 key.mac, .int .i64 key.ip, .int .i64 key.org, .int .i64 key.seq, .bool key.st]), (qX, 30, #[.slice Xa X.rib.length Xc, .slice Xo X.gone.length Xd, .int .i64 X.code]), (qr1, 25, #[.int .i64 r.kind, .int .i64 r.vni, .int .i64 r.mac, .int .i64 r.ip, .int .i64 r.org, .int .i64 r.seq, .bool r.st])] [(.slice ma m.length mc, m), (.slice Va V.rib.length Vc, V.rib), (.slice wwa ww.length wwc, ww), (.slice Za Z.rib.length Zc, Z.rib), (.slice sa s.length sc, s), (.slice Ya YR.length Yc, YR), (.slice ta t.length tc, t), (.slice Xa X.rib.length Xc, X.rib), (.slice la l.length lc, l)] [(.slice Vo V.gone.length Vd, V.gone), (.slice Zo Z.gone.length Zd, Z.gone), (.slice Yo 1 Yd, [gg]), (.slice Xo X.gone.length Xd, X.gone)] → W'.cell? ⟨b, off, none⟩ = some (.int .i64 gg.kind) ∧ W'.cell? ⟨b, off + 1, none⟩ = some (.int .i64 gg.vni) ∧ W'.cell? ⟨b, off + 2, none⟩ = some (.int .i64 gg.mac) ∧ W'.cell? ⟨b, off + 3, none⟩ = some (.int .i64 gg.ip) ∧ W'.cell? ⟨b, off + 4, none⟩ = some (.int .i64 gg.org) ∧ W'.cell? ⟨b, off + 5, none⟩ = some (.int .i64 gg.seq) ∧ W'.cell? ⟨b, off + 6, none⟩ = some (.bool gg.st) := by
        have hne : [gg].map Rt.cl ≠ [] := by simp
        obtain ⟨a', c', e', hh⟩ := A.rs _ memR2
        obtain ⟨b, off, ha, hb, HE⟩ := hh hne
        injection e' with e1 e2 e3
        subst e1 ha
        refine ⟨b, off, rfl, fun W' hW' => ?_⟩
        obtain ⟨a2, c2, e2', hh2⟩ := hW'.rs _ memR2
        obtain ⟨b2, off2, ha2, hb2, HE2⟩ := hh2 hne
        injection e2' with e4 e5 e6
        rw [← e4] at ha2
        injection ha2 with ha2
        injection ha2 with ha2 ha3
        subst ha2 ha3
        have := HE2.rt 0 (by simp)
        simpa using this
      subst hpa
      have HP := Lib.hid hp
      clear hp
      refine wp_region_held_drew (S := fun W' => FbM w W' _ _ _) (by kernel_rfl) A (fun hHeld => ?_)
      clear hHeld
      generalize wc.drew = We at *
      refine wpAnyH_take (i := 0) (oi := { dst := some 135, op := Op.fieldAddr 30 (Operand.tmp 12) 2, type := 0, pos := "laws.go:396", after := #[], guard := none }) (v := ?vvb1) rfl (by kernel_rfl) (by kernel_rfl) (by kernel_rfl) (fun _ _ _ h => h) (Or.inl ⟨by rfl, ?hyb1⟩) A ?restb1
      case hyb1 => (intro w hSw; have c2 := hSw.mem.b2.cell; have c3 := hSw.mem.b3.cell; obtain ⟨p0, p1, p2, p3, p4, p5, p6⟩ := HP.out _ hSw;go_simp <;> with_reducible rfl)
      try simp only [Act.put, List.setIfInBounds_toArray, List.set_cons_zero, List.set_cons_succ]
      refine wpAnyH_take (i := 1) (oi := { dst := some 136, op := Op.load 2 (Operand.tmp 135), type := 2, pos := "laws.go:396", after := #[{ on := 0, ground := Ground.data }], guard := none }) (v := ?vvb2) rfl (by kernel_rfl) (by kernel_rfl) (by kernel_rfl) (fun _ _ _ h => h) (Or.inl ⟨by rfl, ?hyb2⟩) A ?restb2
      case hyb2 => (intro w hSw; have c2 := hSw.mem.b2.cell; have c3 := hSw.mem.b3.cell; obtain ⟨p0, p1, p2, p3, p4, p5, p6⟩ := HP.out _ hSw;go_simp <;> with_reducible rfl)
      try simp only [Act.put, List.setIfInBounds_toArray, List.set_cons_zero, List.set_cons_succ]
      refine wpAnyH_take (i := 2) (oi := { dst := some 137, op := Op.binOp BinOp.eql 2 (Operand.tmp 136) (Operand.const (Value.int IntKind.i64 0)) 2, type := 4, pos := "laws.go:396", after := #[{ on := 1, ground := Ground.data }], guard := none }) (v := ?vvb3) rfl (by kernel_rfl) (by kernel_rfl) (by kernel_rfl) (fun _ _ _ h => h) (Or.inl ⟨by rfl, ?hyb3⟩) A ?restb3
      case hyb3 => (intro w hSw; have c2 := hSw.mem.b2.cell; have c3 := hSw.mem.b3.cell; obtain ⟨p0, p1, p2, p3, p4, p5, p6⟩ := HP.out _ hSw;go_simp <;> with_reducible rfl)
      try simp only [Act.put, List.setIfInBounds_toArray, List.set_cons_zero, List.set_cons_succ]
      refine wpAnyH_take (i := 3) (oi := { dst := some 138, op := Op.move (Operand.tmp 137), type := 4, pos := "laws.go:396", after := #[{ on := 2, ground := Ground.data }], guard := none }) (v := ?vvb4) rfl (by kernel_rfl) (by kernel_rfl) (by kernel_rfl) (fun _ _ _ h => h) (Or.inl ⟨by rfl, ?hyb4⟩) A ?restb4
      case hyb4 => (intro w hSw; have c2 := hSw.mem.b2.cell; have c3 := hSw.mem.b3.cell; obtain ⟨p0, p1, p2, p3, p4, p5, p6⟩ := HP.out _ hSw;go_simp <;> with_reducible rfl)
      try simp only [Act.put, List.setIfInBounds_toArray, List.set_cons_zero, List.set_cons_succ]
      refine wpAnyH_take (i := 4) (oi := { dst := some 139, op := Op.fieldAddr 30 (Operand.tmp 12) 0, type := 0, pos := "laws.go:396", after := #[{ on := 3, ground := Ground.guard }], guard := some (3, true) }) (v := ?vvb5) rfl (by kernel_rfl) (by kernel_rfl) (by kernel_rfl) (fun _ _ _ h => h) (Or.inl ⟨by rfl, ?hyb5⟩) A ?restb5
      case hyb5 => (intro w hSw; have c2 := hSw.mem.b2.cell; have c3 := hSw.mem.b3.cell; obtain ⟨p0, p1, p2, p3, p4, p5, p6⟩ := HP.out _ hSw;go_simp <;> with_reducible rfl)
      try simp only [Act.put, List.setIfInBounds_toArray, List.set_cons_zero, List.set_cons_succ]
      refine wpAnyH_take (i := 5) (oi := { dst := some 140, op := Op.load 23 (Operand.tmp 139), type := 23, pos := "laws.go:396", after := #[{ on := 4, ground := Ground.data }, { on := 3, ground := Ground.guard }], guard := some (3, true) }) (v := ?vvb6) rfl (by kernel_rfl) (by kernel_rfl) (by kernel_rfl) (fun _ _ _ h => h) (Or.inl ⟨by rfl, ?hyb6⟩) A ?restb6
      case hyb6 => (intro w hSw; have c2 := hSw.mem.b2.cell; have c3 := hSw.mem.b3.cell; obtain ⟨p0, p1, p2, p3, p4, p5, p6⟩ := HP.out _ hSw;go_simp <;> with_reducible rfl)
      try simp only [Act.put, List.setIfInBounds_toArray, List.set_cons_zero, List.set_cons_succ]
      refine wpAnyH_take (i := 6) (oi := { dst := some 141, op := Op.call { callee := Callee.builtin Builtin.len, args := #[Operand.tmp 140], argTypes := #[23] }, type := 3, pos := "laws.go:396", after := #[{ on := 5, ground := Ground.data }, { on := 3, ground := Ground.guard }], guard := some (3, true) }) (v := ?vvb7) rfl (by kernel_rfl) (by kernel_rfl) (by kernel_rfl) (fun _ _ _ h => h) (Or.inl ⟨by rfl, ?hyb7⟩) A ?restb7
      case hyb7 => (intro w hSw; have c2 := hSw.mem.b2.cell; have c3 := hSw.mem.b3.cell; obtain ⟨p0, p1, p2, p3, p4, p5, p6⟩ := HP.out _ hSw;go_simp <;> with_reducible rfl)
      try simp only [Act.put, List.setIfInBounds_toArray, List.set_cons_zero, List.set_cons_succ]
      refine wpAnyH_take (i := 7) (oi := { dst := some 142, op := Op.move (Operand.tmp 9), type := 23, pos := "laws.go:396", after := #[{ on := 3, ground := Ground.guard }], guard := some (3, true) }) (v := ?vvb8) rfl (by kernel_rfl) (by kernel_rfl) (by kernel_rfl) (fun _ _ _ h => h) (Or.inl ⟨by rfl, ?hyb8⟩) A ?restb8
      case hyb8 => (intro w hSw; have c2 := hSw.mem.b2.cell; have c3 := hSw.mem.b3.cell; obtain ⟨p0, p1, p2, p3, p4, p5, p6⟩ := HP.out _ hSw;go_simp <;> with_reducible rfl)
      try simp only [Act.put, List.setIfInBounds_toArray, List.set_cons_zero, List.set_cons_succ]
      refine wpAnyH_take (i := 8) (oi := { dst := some 143, op := Op.call { callee := Callee.builtin Builtin.len, args := #[Operand.tmp 142], argTypes := #[23] }, type := 3, pos := "laws.go:396", after := #[{ on := 7, ground := Ground.data }, { on := 3, ground := Ground.guard }], guard := some (3, true) }) (v := ?vvb9) rfl (by kernel_rfl) (by kernel_rfl) (by kernel_rfl) (fun _ _ _ h => h) (Or.inl ⟨by rfl, ?hyb9⟩) A ?restb9
      case hyb9 => (intro w hSw; have c2 := hSw.mem.b2.cell; have c3 := hSw.mem.b3.cell; obtain ⟨p0, p1, p2, p3, p4, p5, p6⟩ := HP.out _ hSw;go_simp <;> with_reducible rfl)
      try simp only [Act.put, List.setIfInBounds_toArray, List.set_cons_zero, List.set_cons_succ]
      refine wpAnyH_take (i := 9) (oi := { dst := some 144, op := Op.binOp BinOp.sub 3 (Operand.tmp 143) (Operand.const (Value.int IntKind.i64 1)) 3, type := 3, pos := "laws.go:396", after := #[{ on := 8, ground := Ground.data }, { on := 3, ground := Ground.guard }], guard := some (3, true) }) (v := ?vvb10) rfl (by kernel_rfl) (by kernel_rfl) (by kernel_rfl) (fun _ _ _ h => h) (Or.inl ⟨by rfl, ?hyb10⟩) A ?restb10
      case hyb10 => (intro w hSw; have c2 := hSw.mem.b2.cell; have c3 := hSw.mem.b3.cell; obtain ⟨p0, p1, p2, p3, p4, p5, p6⟩ := HP.out _ hSw;go_simp <;> with_reducible rfl)
      try simp only [Act.put, List.setIfInBounds_toArray, List.set_cons_zero, List.set_cons_succ]
      refine wpAnyH_take (i := 10) (oi := { dst := some 145, op := Op.binOp BinOp.neq 3 (Operand.tmp 141) (Operand.tmp 144) 3, type := 4, pos := "laws.go:396", after := #[{ on := 6, ground := Ground.data }, { on := 9, ground := Ground.data }, { on := 3, ground := Ground.guard }], guard := some (3, true) }) (v := ?vvb11) rfl (by kernel_rfl) (by kernel_rfl) (by kernel_rfl) (fun _ _ _ h => h) (Or.inl ⟨by rfl, ?hyb11⟩) A ?restb11
      case hyb11 => (intro w hSw; have c2 := hSw.mem.b2.cell; have c3 := hSw.mem.b3.cell; obtain ⟨p0, p1, p2, p3, p4, p5, p6⟩ := HP.out _ hSw;go_simp <;> with_reducible rfl)
      try simp only [Act.put, List.setIfInBounds_toArray, List.set_cons_zero, List.set_cons_succ]
      refine wpAnyH_take (i := 11) (oi := { dst := some 146, op := Op.move (Operand.tmp 145), type := 4, pos := "laws.go:396", after := #[{ on := 10, ground := Ground.data }, { on := 3, ground := Ground.chain }, { on := 3, ground := Ground.guard }], guard := some (3, true) }) (v := ?vvb12) rfl (by kernel_rfl) (by kernel_rfl) (by kernel_rfl) (fun _ _ _ h => h) (Or.inl ⟨by rfl, ?hyb12⟩) A ?restb12
      case hyb12 => (intro w hSw; have c2 := hSw.mem.b2.cell; have c3 := hSw.mem.b3.cell; obtain ⟨p0, p1, p2, p3, p4, p5, p6⟩ := HP.out _ hSw;go_simp <;> with_reducible rfl)
      try simp only [Act.put, List.setIfInBounds_toArray, List.set_cons_zero, List.set_cons_succ]
      refine wpAnyH_take (i := 12) (oi := { dst := some 147, op := Op.fieldAddr 30 (Operand.tmp 12) 1, type := 0, pos := "laws.go:396", after := #[{ on := 11, ground := Ground.guard }], guard := some (11, false) }) (v := ?vvb13) rfl (by kernel_rfl) (by kernel_rfl) (by kernel_rfl) (fun _ _ _ h => h) (Or.inl ⟨by rfl, ?hyb13⟩) A ?restb13
      case hyb13 => (intro w hSw; have c2 := hSw.mem.b2.cell; have c3 := hSw.mem.b3.cell; obtain ⟨p0, p1, p2, p3, p4, p5, p6⟩ := HP.out _ hSw;go_simp <;> with_reducible rfl)
      try simp only [Act.put, List.setIfInBounds_toArray, List.set_cons_zero, List.set_cons_succ]
      refine wpAnyH_take (i := 13) (oi := { dst := some 148, op := Op.load 28 (Operand.tmp 147), type := 28, pos := "laws.go:396", after := #[{ on := 12, ground := Ground.data }, { on := 11, ground := Ground.guard }], guard := some (11, false) }) (v := ?vvb14) rfl (by kernel_rfl) (by kernel_rfl) (by kernel_rfl) (fun _ _ _ h => h) (Or.inl ⟨by rfl, ?hyb14⟩) A ?restb14
      case hyb14 => (intro w hSw; have c2 := hSw.mem.b2.cell; have c3 := hSw.mem.b3.cell; obtain ⟨p0, p1, p2, p3, p4, p5, p6⟩ := HP.out _ hSw;go_simp <;> with_reducible rfl)
      try simp only [Act.put, List.setIfInBounds_toArray, List.set_cons_zero, List.set_cons_succ]
      refine wpAnyH_take (i := 14) (oi := { dst := some 149, op := Op.call { callee := Callee.builtin Builtin.len, args := #[Operand.tmp 148], argTypes := #[28] }, type := 3, pos := "laws.go:396", after := #[{ on := 13, ground := Ground.data }, { on := 11, ground := Ground.guard }], guard := some (11, false) }) (v := ?vvb15) rfl (by kernel_rfl) (by kernel_rfl) (by kernel_rfl) (fun _ _ _ h => h) (Or.inl ⟨by rfl, ?hyb15⟩) A ?restb15
      case hyb15 => (intro w hSw; have c2 := hSw.mem.b2.cell; have c3 := hSw.mem.b3.cell; obtain ⟨p0, p1, p2, p3, p4, p5, p6⟩ := HP.out _ hSw;go_simp <;> with_reducible rfl)
      try simp only [Act.put, List.setIfInBounds_toArray, List.set_cons_zero, List.set_cons_succ]
      refine wpAnyH_take (i := 15) (oi := { dst := some 150, op := Op.binOp BinOp.neq 3 (Operand.tmp 149) (Operand.const (Value.int IntKind.i64 1)) 3, type := 4, pos := "laws.go:396", after := #[{ on := 14, ground := Ground.data }, { on := 11, ground := Ground.guard }], guard := some (11, false) }) (v := ?vvb16) rfl (by kernel_rfl) (by kernel_rfl) (by kernel_rfl) (fun _ _ _ h => h) (Or.inl ⟨by rfl, ?hyb16⟩) A ?restb16
      case hyb16 => (intro w hSw; have c2 := hSw.mem.b2.cell; have c3 := hSw.mem.b3.cell; obtain ⟨p0, p1, p2, p3, p4, p5, p6⟩ := HP.out _ hSw;go_simp <;> with_reducible rfl)
      try simp only [Act.put, List.setIfInBounds_toArray, List.set_cons_zero, List.set_cons_succ]
      refine wpAnyH_take (i := 16) (oi := { dst := some 151, op := Op.pick (Operand.tmp 146) (Operand.const (Value.bool true)) (Operand.tmp 150), type := 4, pos := "laws.go:396", after := #[{ on := 11, ground := Ground.data }, { on := 15, ground := Ground.data }, { on := 3, ground := Ground.guard }], guard := some (3, true) }) (v := ?vvb17) rfl (by kernel_rfl) (by kernel_rfl) (by kernel_rfl) (fun _ _ _ h => h) (Or.inl ⟨by rfl, ?hyb17⟩) A ?restb17
      case hyb17 => (intro w hSw; have c2 := hSw.mem.b2.cell; have c3 := hSw.mem.b3.cell; obtain ⟨p0, p1, p2, p3, p4, p5, p6⟩ := HP.out _ hSw;go_simp <;> with_reducible rfl)
      try simp only [Act.put, List.setIfInBounds_toArray, List.set_cons_zero, List.set_cons_succ]
      refine wpAnyH_take (i := 17) (oi := { dst := some 152, op := Op.move (Operand.tmp 151), type := 4, pos := "laws.go:396", after := #[{ on := 16, ground := Ground.data }, { on := 11, ground := Ground.chain }, { on := 3, ground := Ground.guard }], guard := some (3, true) }) (v := ?vvb18) rfl (by kernel_rfl) (by kernel_rfl) (by kernel_rfl) (fun _ _ _ h => h) (Or.inl ⟨by rfl, ?hyb18⟩) A ?restb18
      case hyb18 => (intro w hSw; have c2 := hSw.mem.b2.cell; have c3 := hSw.mem.b3.cell; obtain ⟨p0, p1, p2, p3, p4, p5, p6⟩ := HP.out _ hSw;go_simp <;> with_reducible rfl)
      try simp only [Act.put, List.setIfInBounds_toArray, List.set_cons_zero, List.set_cons_succ]
      refine wpAnyH_take (i := 18) (oi := { dst := some 153, op := Op.fieldAddr 30 (Operand.tmp 12) 0, type := 0, pos := "laws.go:396", after := #[{ on := 17, ground := Ground.guard }], guard := some (17, false) }) (v := ?vvb19) rfl (by kernel_rfl) (by kernel_rfl) (by kernel_rfl) (fun _ _ _ h => h) (Or.inl ⟨by rfl, ?hyb19⟩) A ?restb19
      case hyb19 => (intro w hSw; have c2 := hSw.mem.b2.cell; have c3 := hSw.mem.b3.cell; obtain ⟨p0, p1, p2, p3, p4, p5, p6⟩ := HP.out _ hSw;go_simp <;> with_reducible rfl)
      try simp only [Act.put, List.setIfInBounds_toArray, List.set_cons_zero, List.set_cons_succ]
      refine wpAnyH_take (i := 19) (oi := { dst := some 154, op := Op.load 23 (Operand.tmp 153), type := 23, pos := "laws.go:396", after := #[{ on := 18, ground := Ground.data }, { on := 17, ground := Ground.guard }], guard := some (17, false) }) (v := ?vvb20) rfl (by kernel_rfl) (by kernel_rfl) (by kernel_rfl) (fun _ _ _ h => h) (Or.inl ⟨by rfl, ?hyb20⟩) A ?restb20
      case hyb20 => (intro w hSw; have c2 := hSw.mem.b2.cell; have c3 := hSw.mem.b3.cell; obtain ⟨p0, p1, p2, p3, p4, p5, p6⟩ := HP.out _ hSw;go_simp <;> with_reducible rfl)
      try simp only [Act.put, List.setIfInBounds_toArray, List.set_cons_zero, List.set_cons_succ]
      refine wpAnyH_take (i := 20) (oi := { dst := some 155, op := Op.move (Operand.tmp 10), type := 2, pos := "laws.go:396", after := #[{ on := 17, ground := Ground.guard }], guard := some (17, false) }) (v := ?vvb21) rfl (by kernel_rfl) (by kernel_rfl) (by kernel_rfl) (fun _ _ _ h => h) (Or.inl ⟨by rfl, ?hyb21⟩) A ?restb21
      case hyb21 => (intro w hSw; have c2 := hSw.mem.b2.cell; have c3 := hSw.mem.b3.cell; obtain ⟨p0, p1, p2, p3, p4, p5, p6⟩ := HP.out _ hSw;go_simp <;> with_reducible rfl)
      try simp only [Act.put, List.setIfInBounds_toArray, List.set_cons_zero, List.set_cons_succ]
      refine wpAnyH_take (i := 21) (oi := { dst := some 156, op := Op.load 25 (Operand.tmp 11), type := 25, pos := "laws.go:396", after := #[{ on := 17, ground := Ground.guard }], guard := some (17, false) }) (v := ?vvb22) rfl (by kernel_rfl) (by kernel_rfl) (by kernel_rfl) (fun _ _ _ h => h) (Or.inl ⟨by rfl, ?hyb22⟩) A ?restb22
      case hyb22 => (intro w hSw; have c2 := hSw.mem.b2.cell; have c3 := hSw.mem.b3.cell; obtain ⟨p0, p1, p2, p3, p4, p5, p6⟩ := HP.out _ hSw;go_simp <;> with_reducible rfl)
      try simp only [Act.put, List.setIfInBounds_toArray, List.set_cons_zero, List.set_cons_succ]
      refine wpAnyH_ready (rs := [22]) (by kernel_rfl) (by simp) ?_
      refine AllReadyH.cons (o := { dst := some 157, op := Op.call { callee := Callee.value (Operand.func 7), args := #[Operand.tmp 154, Operand.tmp 155, Operand.tmp 156], argTypes := #[23, 2, 25] }, type := 30, pos := "laws.go:396", after := #[{ on := 19, ground := Ground.data }, { on := 20, ground := Ground.data }, { on := 21, ground := Ground.data }, { on := 17, ground := Ground.chain }, { on := 17, ground := Ground.guard }], guard := some (17, false) }) rfl (fun K hK => ?_) AllReadyH.nil
      go_simp
      refine (HIk.out _ (A.hs _ memH5)).mono ?_
      rintro e u1 ⟨kv, kt, rfl, ho1, ho2, _, hb⟩
      replace A := A.kept hb
      obtain ⟨ka1, kc1, rfl⟩ := rown_form ho1
      obtain ⟨ka2, kc2, rfl⟩ := rown_form ho2
      clear ho1 ho2 hb
      refine hK.out _ _ A (fun hHeld => ?_)
      clear hK K hHeld
      try simp only [Act.put, List.setIfInBounds_toArray, List.set_cons_zero, List.set_cons_succ]
      refine wpAnyH_take (i := 23) (oi := { dst := some 158, op := Op.field 30 (Operand.tmp 157) 2, type := 2, pos := "laws.go:396", after := #[{ on := 22, ground := Ground.data }, { on := 17, ground := Ground.guard }], guard := some (17, false) }) (v := ?vvb23) rfl (by kernel_rfl) (by kernel_rfl) (by kernel_rfl) (fun _ _ _ h => h) (Or.inl ⟨by rfl, ?hyb23⟩) A ?restb23
      case hyb23 => (intro w hSw; have c2 := hSw.mem.b2.cell; have c3 := hSw.mem.b3.cell; obtain ⟨p0, p1, p2, p3, p4, p5, p6⟩ := HP.out _ hSw;go_simp <;> with_reducible rfl)
      try simp only [Act.put, List.setIfInBounds_toArray, List.set_cons_zero, List.set_cons_succ]
      refine wpAnyH_take (i := 24) (oi := { dst := some 159, op := Op.binOp BinOp.neq 2 (Operand.tmp 158) (Operand.const (Value.int IntKind.i64 6)) 2, type := 4, pos := "laws.go:396", after := #[{ on := 23, ground := Ground.data }, { on := 17, ground := Ground.guard }], guard := some (17, false) }) (v := ?vvb24) rfl (by kernel_rfl) (by kernel_rfl) (by kernel_rfl) (fun _ _ _ h => h) (Or.inl ⟨by rfl, ?hyb24⟩) A ?restb24
      case hyb24 => (intro w hSw; have c2 := hSw.mem.b2.cell; have c3 := hSw.mem.b3.cell; obtain ⟨p0, p1, p2, p3, p4, p5, p6⟩ := HP.out _ hSw;go_simp <;> with_reducible rfl)
      try simp only [Act.put, List.setIfInBounds_toArray, List.set_cons_zero, List.set_cons_succ]
      refine wpAnyH_take (i := 25) (oi := { dst := some 160, op := Op.pick (Operand.tmp 152) (Operand.const (Value.bool true)) (Operand.tmp 159), type := 4, pos := "laws.go:396", after := #[{ on := 17, ground := Ground.data }, { on := 24, ground := Ground.data }, { on := 3, ground := Ground.guard }], guard := some (3, true) }) (v := ?vvb25) rfl (by kernel_rfl) (by kernel_rfl) (by kernel_rfl) (fun _ _ _ h => h) (Or.inl ⟨by rfl, ?hyb25⟩) A ?restb25
      case hyb25 => (intro w hSw; have c2 := hSw.mem.b2.cell; have c3 := hSw.mem.b3.cell; obtain ⟨p0, p1, p2, p3, p4, p5, p6⟩ := HP.out _ hSw;go_simp <;> with_reducible rfl)
      try simp only [Act.put, List.setIfInBounds_toArray, List.set_cons_zero, List.set_cons_succ]
      refine wpAnyH_take (i := 26) (oi := { dst := some 161, op := Op.move (Operand.tmp 160), type := 4, pos := "laws.go:396", after := #[{ on := 25, ground := Ground.data }, { on := 22, ground := Ground.chain }, { on := 3, ground := Ground.guard }], guard := some (3, true) }) (v := ?vvb26) rfl (by kernel_rfl) (by kernel_rfl) (by kernel_rfl) (fun _ _ _ h => h) (Or.inl ⟨by rfl, ?hyb26⟩) A ?restb26
      case hyb26 => (intro w hSw; have c2 := hSw.mem.b2.cell; have c3 := hSw.mem.b3.cell; obtain ⟨p0, p1, p2, p3, p4, p5, p6⟩ := HP.out _ hSw;go_simp <;> with_reducible rfl)
      try simp only [Act.put, List.setIfInBounds_toArray, List.set_cons_zero, List.set_cons_succ]
      refine wpAnyH_take (i := 27) (oi := { dst := some 162, op := Op.fieldAddr 30 (Operand.tmp 12) 0, type := 0, pos := "laws.go:396", after := #[{ on := 26, ground := Ground.guard }], guard := some (26, false) }) (v := ?vvb27) rfl (by kernel_rfl) (by kernel_rfl) (by kernel_rfl) (fun _ _ _ h => h) (Or.inl ⟨by rfl, ?hyb27⟩) A ?restb27
      case hyb27 => (intro w hSw; have c2 := hSw.mem.b2.cell; have c3 := hSw.mem.b3.cell; obtain ⟨p0, p1, p2, p3, p4, p5, p6⟩ := HP.out _ hSw;go_simp <;> with_reducible rfl)
      try simp only [Act.put, List.setIfInBounds_toArray, List.set_cons_zero, List.set_cons_succ]
      refine wpAnyH_take (i := 28) (oi := { dst := some 163, op := Op.load 23 (Operand.tmp 162), type := 23, pos := "laws.go:396", after := #[{ on := 27, ground := Ground.data }, { on := 26, ground := Ground.guard }], guard := some (26, false) }) (v := ?vvb28) rfl (by kernel_rfl) (by kernel_rfl) (by kernel_rfl) (fun _ _ _ h => h) (Or.inl ⟨by rfl, ?hyb28⟩) A ?restb28
      case hyb28 => (intro w hSw; have c2 := hSw.mem.b2.cell; have c3 := hSw.mem.b3.cell; obtain ⟨p0, p1, p2, p3, p4, p5, p6⟩ := HP.out _ hSw;go_simp <;> with_reducible rfl)
      try simp only [Act.put, List.setIfInBounds_toArray, List.set_cons_zero, List.set_cons_succ]
      refine wpAnyH_take (i := 29) (oi := { dst := some 164, op := Op.move (Operand.tmp 10), type := 2, pos := "laws.go:396", after := #[{ on := 26, ground := Ground.guard }], guard := some (26, false) }) (v := ?vvb29) rfl (by kernel_rfl) (by kernel_rfl) (by kernel_rfl) (fun _ _ _ h => h) (Or.inl ⟨by rfl, ?hyb29⟩) A ?restb29
      case hyb29 => (intro w hSw; have c2 := hSw.mem.b2.cell; have c3 := hSw.mem.b3.cell; obtain ⟨p0, p1, p2, p3, p4, p5, p6⟩ := HP.out _ hSw;go_simp <;> with_reducible rfl)
      try simp only [Act.put, List.setIfInBounds_toArray, List.set_cons_zero, List.set_cons_succ]
      refine wpAnyH_take (i := 30) (oi := { dst := some 165, op := Op.fieldAddr 30 (Operand.tmp 12) 1, type := 0, pos := "laws.go:396", after := #[{ on := 26, ground := Ground.guard }], guard := some (26, false) }) (v := ?vvb30) rfl (by kernel_rfl) (by kernel_rfl) (by kernel_rfl) (fun _ _ _ h => h) (Or.inl ⟨by rfl, ?hyb30⟩) A ?restb30
      case hyb30 => (intro w hSw; have c2 := hSw.mem.b2.cell; have c3 := hSw.mem.b3.cell; obtain ⟨p0, p1, p2, p3, p4, p5, p6⟩ := HP.out _ hSw;go_simp <;> with_reducible rfl)
      try simp only [Act.put, List.setIfInBounds_toArray, List.set_cons_zero, List.set_cons_succ]
      refine wpAnyH_take (i := 31) (oi := { dst := some 166, op := Op.load 28 (Operand.tmp 165), type := 28, pos := "laws.go:396", after := #[{ on := 30, ground := Ground.data }, { on := 26, ground := Ground.guard }], guard := some (26, false) }) (v := ?vvb31) rfl (by kernel_rfl) (by kernel_rfl) (by kernel_rfl) (fun _ _ _ h => h) (Or.inl ⟨by rfl, ?hyb31⟩) A ?restb31
      case hyb31 => (intro w hSw; have c2 := hSw.mem.b2.cell; have c3 := hSw.mem.b3.cell; obtain ⟨p0, p1, p2, p3, p4, p5, p6⟩ := HP.out _ hSw;go_simp <;> with_reducible rfl)
      try simp only [Act.put, List.setIfInBounds_toArray, List.set_cons_zero, List.set_cons_succ]
      refine wpAnyH_take (i := 32) (oi := { dst := some 167, op := Op.indexAddr 28 (Operand.tmp 166) (Operand.const (Value.int IntKind.i64 0)), type := 0, pos := "laws.go:396", after := #[{ on := 31, ground := Ground.data }, { on := 26, ground := Ground.guard }], guard := some (26, false) }) (v := ?vvb32) rfl (by kernel_rfl) (by kernel_rfl) (by kernel_rfl) (fun _ _ _ h => h) (Or.inl ⟨by rfl, ?hyb32⟩) A ?restb32
      case hyb32 => (intro w hSw; have c2 := hSw.mem.b2.cell; have c3 := hSw.mem.b3.cell; obtain ⟨p0, p1, p2, p3, p4, p5, p6⟩ := HP.out _ hSw;go_simp <;> with_reducible rfl)
      try simp only [Act.put, List.setIfInBounds_toArray, List.set_cons_zero, List.set_cons_succ]
      refine wpAnyH_take (i := 33) (oi := { dst := some 168, op := Op.load 25 (Operand.tmp 167), type := 25, pos := "laws.go:396", after := #[{ on := 32, ground := Ground.data }, { on := 26, ground := Ground.guard }], guard := some (26, false) }) (v := ?vvb33) rfl (by kernel_rfl) (by kernel_rfl) (by kernel_rfl) (fun _ _ _ h => h) (Or.inl ⟨by rfl, ?hyb33⟩) A ?restb33
      case hyb33 => (intro w hSw; have c2 := hSw.mem.b2.cell; have c3 := hSw.mem.b3.cell; obtain ⟨p0, p1, p2, p3, p4, p5, p6⟩ := HP.out _ hSw;go_simp <;> with_reducible rfl)
      try simp only [Act.put, List.setIfInBounds_toArray, List.set_cons_zero, List.set_cons_succ]
      refine wpAnyH_take (i := 36) (oi := { dst := some 171, op := Op.move (Operand.tmp 9), type := 23, pos := "laws.go:396", after := #[{ on := 26, ground := Ground.guard }], guard := some (26, false) }) (v := ?vvb34) rfl (by kernel_rfl) (by kernel_rfl) (by kernel_rfl) (fun _ _ _ h => h) (Or.inl ⟨by rfl, ?hyb34⟩) A ?restb34
      case hyb34 => (intro w hSw; have c2 := hSw.mem.b2.cell; have c3 := hSw.mem.b3.cell; obtain ⟨p0, p1, p2, p3, p4, p5, p6⟩ := HP.out _ hSw;go_simp <;> with_reducible rfl)
      try simp only [Act.put, List.setIfInBounds_toArray, List.set_cons_zero, List.set_cons_succ]
      refine wpAnyH_take (i := 37) (oi := { dst := some 172, op := Op.move (Operand.tmp 10), type := 2, pos := "laws.go:396", after := #[{ on := 26, ground := Ground.guard }], guard := some (26, false) }) (v := ?vvb35) rfl (by kernel_rfl) (by kernel_rfl) (by kernel_rfl) (fun _ _ _ h => h) (Or.inl ⟨by rfl, ?hyb35⟩) A ?restb35
      case hyb35 => (intro w hSw; have c2 := hSw.mem.b2.cell; have c3 := hSw.mem.b3.cell; obtain ⟨p0, p1, p2, p3, p4, p5, p6⟩ := HP.out _ hSw;go_simp <;> with_reducible rfl)
      try simp only [Act.put, List.setIfInBounds_toArray, List.set_cons_zero, List.set_cons_succ]
      refine wpAnyH_take (i := 38) (oi := { dst := some 173, op := Op.fieldAddr 30 (Operand.tmp 12) 1, type := 0, pos := "laws.go:396", after := #[{ on := 26, ground := Ground.guard }], guard := some (26, false) }) (v := ?vvb36) rfl (by kernel_rfl) (by kernel_rfl) (by kernel_rfl) (fun _ _ _ h => h) (Or.inl ⟨by rfl, ?hyb36⟩) A ?restb36
      case hyb36 => (intro w hSw; have c2 := hSw.mem.b2.cell; have c3 := hSw.mem.b3.cell; obtain ⟨p0, p1, p2, p3, p4, p5, p6⟩ := HP.out _ hSw;go_simp <;> with_reducible rfl)
      try simp only [Act.put, List.setIfInBounds_toArray, List.set_cons_zero, List.set_cons_succ]
      refine wpAnyH_take (i := 39) (oi := { dst := some 174, op := Op.load 28 (Operand.tmp 173), type := 28, pos := "laws.go:396", after := #[{ on := 38, ground := Ground.data }, { on := 26, ground := Ground.guard }], guard := some (26, false) }) (v := ?vvb37) rfl (by kernel_rfl) (by kernel_rfl) (by kernel_rfl) (fun _ _ _ h => h) (Or.inl ⟨by rfl, ?hyb37⟩) A ?restb37
      case hyb37 => (intro w hSw; have c2 := hSw.mem.b2.cell; have c3 := hSw.mem.b3.cell; obtain ⟨p0, p1, p2, p3, p4, p5, p6⟩ := HP.out _ hSw;go_simp <;> with_reducible rfl)
      try simp only [Act.put, List.setIfInBounds_toArray, List.set_cons_zero, List.set_cons_succ]
      refine wpAnyH_take (i := 40) (oi := { dst := some 175, op := Op.indexAddr 28 (Operand.tmp 174) (Operand.const (Value.int IntKind.i64 0)), type := 0, pos := "laws.go:396", after := #[{ on := 39, ground := Ground.data }, { on := 26, ground := Ground.guard }], guard := some (26, false) }) (v := ?vvb38) rfl (by kernel_rfl) (by kernel_rfl) (by kernel_rfl) (fun _ _ _ h => h) (Or.inl ⟨by rfl, ?hyb38⟩) A ?restb38
      case hyb38 => (intro w hSw; have c2 := hSw.mem.b2.cell; have c3 := hSw.mem.b3.cell; obtain ⟨p0, p1, p2, p3, p4, p5, p6⟩ := HP.out _ hSw;go_simp <;> with_reducible rfl)
      try simp only [Act.put, List.setIfInBounds_toArray, List.set_cons_zero, List.set_cons_succ]
      refine wpAnyH_take (i := 41) (oi := { dst := some 176, op := Op.load 25 (Operand.tmp 175), type := 25, pos := "laws.go:396", after := #[{ on := 40, ground := Ground.data }, { on := 26, ground := Ground.guard }], guard := some (26, false) }) (v := ?vvb39) rfl (by kernel_rfl) (by kernel_rfl) (by kernel_rfl) (fun _ _ _ h => h) (Or.inl ⟨by rfl, ?hyb39⟩) A ?restb39
      case hyb39 => (intro w hSw; have c2 := hSw.mem.b2.cell; have c3 := hSw.mem.b3.cell; obtain ⟨p0, p1, p2, p3, p4, p5, p6⟩ := HP.out _ hSw;go_simp <;> with_reducible rfl)
      try simp only [Act.put, List.setIfInBounds_toArray, List.set_cons_zero, List.set_cons_succ]
      refine wpAnyH_ready (rs := [34]) (by kernel_rfl) (by simp) ?_
      refine AllReadyH.cons (o := { dst := some 169, op := Op.call { callee := Callee.value (Operand.func 5), args := #[Operand.tmp 163, Operand.tmp 164, Operand.tmp 168], argTypes := #[23, 2, 25] }, type := 30, pos := "laws.go:396", after := #[{ on := 28, ground := Ground.data }, { on := 29, ground := Ground.data }, { on := 33, ground := Ground.data }, { on := 26, ground := Ground.chain }, { on := 26, ground := Ground.guard }], guard := some (26, false) }) rfl (fun K hK => ?_) AllReadyH.nil
      go_simp
      refine (HIq.out _ (A.hs _ memH5)).mono ?_
      rintro e u2 ⟨sv, st, rfl, ho1, ho2, _, hb⟩
      replace A := A.kept hb
      have HS1 := Lib.hid (rows_of_own Hd.cl_len ho1)
      obtain ⟨xa1, xc1, rfl⟩ := rown_form ho1
      obtain ⟨xa2, xc2, rfl⟩ := rown_form ho2
      clear ho1 ho2 hb
      refine hK.out _ _ A (fun hHeld => ?_)
      clear hK K hHeld
      try simp only [Act.put, List.setIfInBounds_toArray, List.set_cons_zero, List.set_cons_succ]
      refine wpAnyH_take (i := 35) (oi := { dst := some 170, op := Op.field 30 (Operand.tmp 169) 0, type := 23, pos := "laws.go:396", after := #[{ on := 34, ground := Ground.data }, { on := 26, ground := Ground.guard }], guard := some (26, false) }) (v := ?vvb40) rfl (by kernel_rfl) (by kernel_rfl) (by kernel_rfl) (fun _ _ _ h => h) (Or.inl ⟨by rfl, ?hyb40⟩) A ?restb40
      case hyb40 => (intro w hSw; have c2 := hSw.mem.b2.cell; have c3 := hSw.mem.b3.cell; obtain ⟨p0, p1, p2, p3, p4, p5, p6⟩ := HP.out _ hSw;go_simp <;> with_reducible rfl)
      try simp only [Act.put, List.setIfInBounds_toArray, List.set_cons_zero, List.set_cons_succ]
      refine wpAnyH_ready (rs := [42]) (by kernel_rfl) (by simp) ?_
      refine AllReadyH.cons (o := { dst := some 177, op := Op.call { callee := Callee.value (Operand.func 27), args := #[Operand.tmp 171, Operand.tmp 172, Operand.tmp 176], argTypes := #[23, 2, 25] }, type := 23, pos := "laws.go:396", after := #[{ on := 36, ground := Ground.data }, { on := 37, ground := Ground.data }, { on := 41, ground := Ground.data }, { on := 34, ground := Ground.chain }, { on := 26, ground := Ground.guard }], guard := some (26, false) }) rfl (fun K hK => ?_) AllReadyH.nil
      go_simp
      refine (HIf.out _ (A.hs _ memH6)).mono ?_
      rintro e u3 ⟨fv, rfl, ho1, hb⟩
      replace A := A.kept hb
      have HS2 := Lib.hid (rows_of_own Hd.cl_len ho1)
      (try replace HS1 := Lib.hid (SlAt.kept HS1.out hb))
      obtain ⟨fa1, fc1, rfl⟩ := rown_form ho1
      clear ho1 hb
      refine hK.out _ _ A (fun hHeld => ?_)
      clear hK K hHeld
      try simp only [Act.put, List.setIfInBounds_toArray, List.set_cons_zero, List.set_cons_succ]
      refine wpAnyH_ready (rs := [43]) (by kernel_rfl) (by simp) ?_
      refine AllReadyH.cons (o := { dst := some 178, op := Op.call { callee := Callee.value (Operand.func 26), args := #[Operand.tmp 170, Operand.tmp 177], argTypes := #[23, 23] }, type := 4, pos := "laws.go:396", after := #[{ on := 35, ground := Ground.data }, { on := 42, ground := Ground.data }, { on := 42, ground := Ground.chain }, { on := 26, ground := Ground.guard }], guard := some (26, false) }) rfl (fun K hK => ?_) AllReadyH.nil
      go_simp
      refine (HLr.out _ _ _ HS1.out HS2.out).mono ?_
      rintro e u4 ⟨rfl, hb⟩
      replace A := A.kept hb
      clear hb HS1 HS2
      refine hK.out _ _ A (fun hHeld => ?_)
      clear hK K hHeld
      try simp only [Act.put, List.setIfInBounds_toArray, List.set_cons_zero, List.set_cons_succ]
      refine wpAnyH_take (i := 44) (oi := { dst := some 179, op := Op.unOp UnOp.not 4 (Operand.tmp 178), type := 4, pos := "laws.go:396", after := #[{ on := 43, ground := Ground.data }, { on := 26, ground := Ground.guard }], guard := some (26, false) }) (v := ?vvb41) rfl (by kernel_rfl) (by kernel_rfl) (by kernel_rfl) (fun _ _ _ h => h) (Or.inl ⟨by rfl, ?hyb41⟩) A ?restb41
      case hyb41 => (intro w hSw; have c2 := hSw.mem.b2.cell; have c3 := hSw.mem.b3.cell; obtain ⟨p0, p1, p2, p3, p4, p5, p6⟩ := HP.out _ hSw;go_simp <;> with_reducible rfl)
      try simp only [Act.put, List.setIfInBounds_toArray, List.set_cons_zero, List.set_cons_succ]
      refine wpAnyH_take (i := 45) (oi := { dst := some 180, op := Op.pick (Operand.tmp 161) (Operand.const (Value.bool true)) (Operand.tmp 179), type := 4, pos := "laws.go:396", after := #[{ on := 26, ground := Ground.data }, { on := 44, ground := Ground.data }, { on := 3, ground := Ground.guard }], guard := some (3, true) }) (v := ?vvb42) rfl (by kernel_rfl) (by kernel_rfl) (by kernel_rfl) (fun _ _ _ h => h) (Or.inl ⟨by rfl, ?hyb42⟩) A ?restb42
      case hyb42 => (intro w hSw; have c2 := hSw.mem.b2.cell; have c3 := hSw.mem.b3.cell; obtain ⟨p0, p1, p2, p3, p4, p5, p6⟩ := HP.out _ hSw;go_simp <;> with_reducible rfl)
      try simp only [Act.put, List.setIfInBounds_toArray, List.set_cons_zero, List.set_cons_succ]
      refine wpAnyH_take (i := 46) (oi := { dst := some 181, op := Op.pick (Operand.tmp 138) (Operand.tmp 180) (Operand.const (Value.bool false)), type := 4, pos := "laws.go:396", after := #[{ on := 3, ground := Ground.data }, { on := 45, ground := Ground.data }], guard := none }) (v := ?vvb43) rfl (by kernel_rfl) (by kernel_rfl) (by kernel_rfl) (fun _ _ _ h => h) (Or.inl ⟨by rfl, ?hyb43⟩) A ?restb43
      case hyb43 => (intro w hSw; have c2 := hSw.mem.b2.cell; have c3 := hSw.mem.b3.cell; obtain ⟨p0, p1, p2, p3, p4, p5, p6⟩ := HP.out _ hSw;go_simp <;> with_reducible rfl)
      try simp only [Act.put, List.setIfInBounds_toArray, List.set_cons_zero, List.set_cons_succ]
      refine wpAnyH_done (by kernel_rfl) ?_ _
      all_goals
        go_wp2_with fail
        go_meet
        exact ⟨rfl, Lib.hid A⟩
    · have HX1 : Hid (decide (Y.code = 0) = false) := Lib.hid (decide_eq_false hy0)
      have HX2 : Hid ((Y.code == 0) = false) := Lib.hid (by simpa using hy0)
      refine wp_region_held_drew (S := fun W' => FbM w W' _ _ _) (by kernel_rfl) A (fun hHeld => ?_)
      clear hHeld
      generalize wc.drew = We at *
      refine wpAnyH_take (i := 0) (oi := { dst := some 135, op := Op.fieldAddr 30 (Operand.tmp 12) 2, type := 0, pos := "laws.go:396", after := #[], guard := none }) (v := ?vvc1) rfl (by kernel_rfl) (by kernel_rfl) (by kernel_rfl) (fun _ _ _ h => h) (Or.inl ⟨by rfl, ?hyc1⟩) A ?restc1
      case hyc1 => (intro w hSw; have c2 := hSw.mem.b2.cell;go_simp <;> with_reducible rfl)
      try simp only [Act.put, List.setIfInBounds_toArray, List.set_cons_zero, List.set_cons_succ]
      try simp only [HX1.out]
      try simp only [HX2.out]
      refine wpAnyH_take (i := 1) (oi := { dst := some 136, op := Op.load 2 (Operand.tmp 135), type := 2, pos := "laws.go:396", after := #[{ on := 0, ground := Ground.data }], guard := none }) (v := ?vvc2) rfl (by kernel_rfl) (by kernel_rfl) (by kernel_rfl) (fun _ _ _ h => h) (Or.inl ⟨by rfl, ?hyc2⟩) A ?restc2
      case hyc2 => (intro w hSw; have c2 := hSw.mem.b2.cell;go_simp <;> with_reducible rfl)
      try simp only [Act.put, List.setIfInBounds_toArray, List.set_cons_zero, List.set_cons_succ]
      try simp only [HX1.out]
      try simp only [HX2.out]
      refine wpAnyH_take (i := 2) (oi := { dst := some 137, op := Op.binOp BinOp.eql 2 (Operand.tmp 136) (Operand.const (Value.int IntKind.i64 0)) 2, type := 4, pos := "laws.go:396", after := #[{ on := 1, ground := Ground.data }], guard := none }) (v := ?vvc3) rfl (by kernel_rfl) (by kernel_rfl) (by kernel_rfl) (fun _ _ _ h => h) (Or.inl ⟨by rfl, ?hyc3⟩) A ?restc3
      case hyc3 => (intro w hSw; have c2 := hSw.mem.b2.cell;go_simp <;> with_reducible rfl)
      try simp only [Act.put, List.setIfInBounds_toArray, List.set_cons_zero, List.set_cons_succ]
      try simp only [HX1.out]
      try simp only [HX2.out]
      refine wpAnyH_take (i := 3) (oi := { dst := some 138, op := Op.move (Operand.tmp 137), type := 4, pos := "laws.go:396", after := #[{ on := 2, ground := Ground.data }], guard := none }) (v := ?vvc4) rfl (by kernel_rfl) (by kernel_rfl) (by kernel_rfl) (fun _ _ _ h => h) (Or.inl ⟨by rfl, ?hyc4⟩) A ?restc4
      case hyc4 => (intro w hSw; have c2 := hSw.mem.b2.cell;go_simp <;> with_reducible rfl)
      try simp only [Act.put, List.setIfInBounds_toArray, List.set_cons_zero, List.set_cons_succ]
      try simp only [HX1.out]
      try simp only [HX2.out]
      refine wpAnyH_take (i := 4) (oi := { dst := some 139, op := Op.fieldAddr 30 (Operand.tmp 12) 0, type := 0, pos := "laws.go:396", after := #[{ on := 3, ground := Ground.guard }], guard := some (3, true) }) (v := undef) rfl (by kernel_rfl) (by kernel_rfl) (by kernel_rfl) (fun _ _ _ h => h) (Or.inr ⟨by rfl, rfl⟩) A ?_
      try simp only [Act.put, List.setIfInBounds_toArray, List.set_cons_zero, List.set_cons_succ]
      try simp only [HX1.out]
      try simp only [HX2.out]
      refine wpAnyH_take (i := 5) (oi := { dst := some 140, op := Op.load 23 (Operand.tmp 139), type := 23, pos := "laws.go:396", after := #[{ on := 4, ground := Ground.data }, { on := 3, ground := Ground.guard }], guard := some (3, true) }) (v := undef) rfl (by kernel_rfl) (by kernel_rfl) (by kernel_rfl) (fun _ _ _ h => h) (Or.inr ⟨by rfl, rfl⟩) A ?_
      try simp only [Act.put, List.setIfInBounds_toArray, List.set_cons_zero, List.set_cons_succ]
      try simp only [HX1.out]
      try simp only [HX2.out]
      refine wpAnyH_take (i := 6) (oi := { dst := some 141, op := Op.call { callee := Callee.builtin Builtin.len, args := #[Operand.tmp 140], argTypes := #[23] }, type := 3, pos := "laws.go:396", after := #[{ on := 5, ground := Ground.data }, { on := 3, ground := Ground.guard }], guard := some (3, true) }) (v := undef) rfl (by kernel_rfl) (by kernel_rfl) (by kernel_rfl) (fun _ _ _ h => h) (Or.inr ⟨by rfl, rfl⟩) A ?_
      try simp only [Act.put, List.setIfInBounds_toArray, List.set_cons_zero, List.set_cons_succ]
      try simp only [HX1.out]
      try simp only [HX2.out]
      refine wpAnyH_take (i := 7) (oi := { dst := some 142, op := Op.move (Operand.tmp 9), type := 23, pos := "laws.go:396", after := #[{ on := 3, ground := Ground.guard }], guard := some (3, true) }) (v := undef) rfl (by kernel_rfl) (by kernel_rfl) (by kernel_rfl) (fun _ _ _ h => h) (Or.inr ⟨by rfl, rfl⟩) A ?_
      try simp only [Act.put, List.setIfInBounds_toArray, List.set_cons_zero, List.set_cons_succ]
      try simp only [HX1.out]
      try simp only [HX2.out]
      refine wpAnyH_take (i := 8) (oi := { dst := some 143, op := Op.call { callee := Callee.builtin Builtin.len, args := #[Operand.tmp 142], argTypes := #[23] }, type := 3, pos := "laws.go:396", after := #[{ on := 7, ground := Ground.data }, { on := 3, ground := Ground.guard }], guard := some (3, true) }) (v := undef) rfl (by kernel_rfl) (by kernel_rfl) (by kernel_rfl) (fun _ _ _ h => h) (Or.inr ⟨by rfl, rfl⟩) A ?_
      try simp only [Act.put, List.setIfInBounds_toArray, List.set_cons_zero, List.set_cons_succ]
      try simp only [HX1.out]
      try simp only [HX2.out]
      refine wpAnyH_take (i := 9) (oi := { dst := some 144, op := Op.binOp BinOp.sub 3 (Operand.tmp 143) (Operand.const (Value.int IntKind.i64 1)) 3, type := 3, pos := "laws.go:396", after := #[{ on := 8, ground := Ground.data }, { on := 3, ground := Ground.guard }], guard := some (3, true) }) (v := undef) rfl (by kernel_rfl) (by kernel_rfl) (by kernel_rfl) (fun _ _ _ h => h) (Or.inr ⟨by rfl, rfl⟩) A ?_
      try simp only [Act.put, List.setIfInBounds_toArray, List.set_cons_zero, List.set_cons_succ]
      try simp only [HX1.out]
      try simp only [HX2.out]
      refine wpAnyH_take (i := 10) (oi := { dst := some 145, op := Op.binOp BinOp.neq 3 (Operand.tmp 141) (Operand.tmp 144) 3, type := 4, pos := "laws.go:396", after := #[{ on := 6, ground := Ground.data }, { on := 9, ground := Ground.data }, { on := 3, ground := Ground.guard }], guard := some (3, true) }) (v := undef) rfl (by kernel_rfl) (by kernel_rfl) (by kernel_rfl) (fun _ _ _ h => h) (Or.inr ⟨by rfl, rfl⟩) A ?_
      try simp only [Act.put, List.setIfInBounds_toArray, List.set_cons_zero, List.set_cons_succ]
      try simp only [HX1.out]
      try simp only [HX2.out]
      refine wpAnyH_take (i := 11) (oi := { dst := some 146, op := Op.move (Operand.tmp 145), type := 4, pos := "laws.go:396", after := #[{ on := 10, ground := Ground.data }, { on := 3, ground := Ground.chain }, { on := 3, ground := Ground.guard }], guard := some (3, true) }) (v := undef) rfl (by kernel_rfl) (by kernel_rfl) (by kernel_rfl) (fun _ _ _ h => h) (Or.inr ⟨by rfl, rfl⟩) A ?_
      try simp only [Act.put, List.setIfInBounds_toArray, List.set_cons_zero, List.set_cons_succ]
      try simp only [HX1.out]
      try simp only [HX2.out]
      refine wpAnyH_take (i := 12) (oi := { dst := some 147, op := Op.fieldAddr 30 (Operand.tmp 12) 1, type := 0, pos := "laws.go:396", after := #[{ on := 11, ground := Ground.guard }], guard := some (11, false) }) (v := undef) rfl (by kernel_rfl) (by kernel_rfl) (by kernel_rfl) (fun _ _ _ h => h) (Or.inr ⟨by rfl, rfl⟩) A ?_
      try simp only [Act.put, List.setIfInBounds_toArray, List.set_cons_zero, List.set_cons_succ]
      try simp only [HX1.out]
      try simp only [HX2.out]
      refine wpAnyH_take (i := 13) (oi := { dst := some 148, op := Op.load 28 (Operand.tmp 147), type := 28, pos := "laws.go:396", after := #[{ on := 12, ground := Ground.data }, { on := 11, ground := Ground.guard }], guard := some (11, false) }) (v := undef) rfl (by kernel_rfl) (by kernel_rfl) (by kernel_rfl) (fun _ _ _ h => h) (Or.inr ⟨by rfl, rfl⟩) A ?_
      try simp only [Act.put, List.setIfInBounds_toArray, List.set_cons_zero, List.set_cons_succ]
      try simp only [HX1.out]
      try simp only [HX2.out]
      refine wpAnyH_take (i := 14) (oi := { dst := some 149, op := Op.call { callee := Callee.builtin Builtin.len, args := #[Operand.tmp 148], argTypes := #[28] }, type := 3, pos := "laws.go:396", after := #[{ on := 13, ground := Ground.data }, { on := 11, ground := Ground.guard }], guard := some (11, false) }) (v := undef) rfl (by kernel_rfl) (by kernel_rfl) (by kernel_rfl) (fun _ _ _ h => h) (Or.inr ⟨by rfl, rfl⟩) A ?_
      try simp only [Act.put, List.setIfInBounds_toArray, List.set_cons_zero, List.set_cons_succ]
      try simp only [HX1.out]
      try simp only [HX2.out]
      refine wpAnyH_take (i := 15) (oi := { dst := some 150, op := Op.binOp BinOp.neq 3 (Operand.tmp 149) (Operand.const (Value.int IntKind.i64 1)) 3, type := 4, pos := "laws.go:396", after := #[{ on := 14, ground := Ground.data }, { on := 11, ground := Ground.guard }], guard := some (11, false) }) (v := undef) rfl (by kernel_rfl) (by kernel_rfl) (by kernel_rfl) (fun _ _ _ h => h) (Or.inr ⟨by rfl, rfl⟩) A ?_
      try simp only [Act.put, List.setIfInBounds_toArray, List.set_cons_zero, List.set_cons_succ]
      try simp only [HX1.out]
      try simp only [HX2.out]
      refine wpAnyH_take (i := 16) (oi := { dst := some 151, op := Op.pick (Operand.tmp 146) (Operand.const (Value.bool true)) (Operand.tmp 150), type := 4, pos := "laws.go:396", after := #[{ on := 11, ground := Ground.data }, { on := 15, ground := Ground.data }, { on := 3, ground := Ground.guard }], guard := some (3, true) }) (v := undef) rfl (by kernel_rfl) (by kernel_rfl) (by kernel_rfl) (fun _ _ _ h => h) (Or.inr ⟨by rfl, rfl⟩) A ?_
      try simp only [Act.put, List.setIfInBounds_toArray, List.set_cons_zero, List.set_cons_succ]
      try simp only [HX1.out]
      try simp only [HX2.out]
      refine wpAnyH_take (i := 17) (oi := { dst := some 152, op := Op.move (Operand.tmp 151), type := 4, pos := "laws.go:396", after := #[{ on := 16, ground := Ground.data }, { on := 11, ground := Ground.chain }, { on := 3, ground := Ground.guard }], guard := some (3, true) }) (v := undef) rfl (by kernel_rfl) (by kernel_rfl) (by kernel_rfl) (fun _ _ _ h => h) (Or.inr ⟨by rfl, rfl⟩) A ?_
      try simp only [Act.put, List.setIfInBounds_toArray, List.set_cons_zero, List.set_cons_succ]
      try simp only [HX1.out]
      try simp only [HX2.out]
      refine wpAnyH_take (i := 18) (oi := { dst := some 153, op := Op.fieldAddr 30 (Operand.tmp 12) 0, type := 0, pos := "laws.go:396", after := #[{ on := 17, ground := Ground.guard }], guard := some (17, false) }) (v := undef) rfl (by kernel_rfl) (by kernel_rfl) (by kernel_rfl) (fun _ _ _ h => h) (Or.inr ⟨by rfl, rfl⟩) A ?_
      try simp only [Act.put, List.setIfInBounds_toArray, List.set_cons_zero, List.set_cons_succ]
      try simp only [HX1.out]
      try simp only [HX2.out]
      refine wpAnyH_take (i := 19) (oi := { dst := some 154, op := Op.load 23 (Operand.tmp 153), type := 23, pos := "laws.go:396", after := #[{ on := 18, ground := Ground.data }, { on := 17, ground := Ground.guard }], guard := some (17, false) }) (v := undef) rfl (by kernel_rfl) (by kernel_rfl) (by kernel_rfl) (fun _ _ _ h => h) (Or.inr ⟨by rfl, rfl⟩) A ?_
      try simp only [Act.put, List.setIfInBounds_toArray, List.set_cons_zero, List.set_cons_succ]
      try simp only [HX1.out]
      try simp only [HX2.out]
      refine wpAnyH_take (i := 20) (oi := { dst := some 155, op := Op.move (Operand.tmp 10), type := 2, pos := "laws.go:396", after := #[{ on := 17, ground := Ground.guard }], guard := some (17, false) }) (v := undef) rfl (by kernel_rfl) (by kernel_rfl) (by kernel_rfl) (fun _ _ _ h => h) (Or.inr ⟨by rfl, rfl⟩) A ?_
      try simp only [Act.put, List.setIfInBounds_toArray, List.set_cons_zero, List.set_cons_succ]
      try simp only [HX1.out]
      try simp only [HX2.out]
      refine wpAnyH_take (i := 21) (oi := { dst := some 156, op := Op.load 25 (Operand.tmp 11), type := 25, pos := "laws.go:396", after := #[{ on := 17, ground := Ground.guard }], guard := some (17, false) }) (v := undef) rfl (by kernel_rfl) (by kernel_rfl) (by kernel_rfl) (fun _ _ _ h => h) (Or.inr ⟨by rfl, rfl⟩) A ?_
      try simp only [Act.put, List.setIfInBounds_toArray, List.set_cons_zero, List.set_cons_succ]
      try simp only [HX1.out]
      try simp only [HX2.out]
      refine wpAnyH_take (i := 22) (oi := { dst := some 157, op := Op.call { callee := Callee.value (Operand.func 7), args := #[Operand.tmp 154, Operand.tmp 155, Operand.tmp 156], argTypes := #[23, 2, 25] }, type := 30, pos := "laws.go:396", after := #[{ on := 19, ground := Ground.data }, { on := 20, ground := Ground.data }, { on := 21, ground := Ground.data }, { on := 17, ground := Ground.chain }, { on := 17, ground := Ground.guard }], guard := some (17, false) }) (v := undef) rfl (by kernel_rfl) (by kernel_rfl) (by kernel_rfl) (fun _ _ _ h => h) (Or.inr ⟨by rfl, rfl⟩) A ?_
      try simp only [Act.put, List.setIfInBounds_toArray, List.set_cons_zero, List.set_cons_succ]
      try simp only [HX1.out]
      try simp only [HX2.out]
      refine wpAnyH_take (i := 23) (oi := { dst := some 158, op := Op.field 30 (Operand.tmp 157) 2, type := 2, pos := "laws.go:396", after := #[{ on := 22, ground := Ground.data }, { on := 17, ground := Ground.guard }], guard := some (17, false) }) (v := undef) rfl (by kernel_rfl) (by kernel_rfl) (by kernel_rfl) (fun _ _ _ h => h) (Or.inr ⟨by rfl, rfl⟩) A ?_
      try simp only [Act.put, List.setIfInBounds_toArray, List.set_cons_zero, List.set_cons_succ]
      try simp only [HX1.out]
      try simp only [HX2.out]
      refine wpAnyH_take (i := 24) (oi := { dst := some 159, op := Op.binOp BinOp.neq 2 (Operand.tmp 158) (Operand.const (Value.int IntKind.i64 6)) 2, type := 4, pos := "laws.go:396", after := #[{ on := 23, ground := Ground.data }, { on := 17, ground := Ground.guard }], guard := some (17, false) }) (v := undef) rfl (by kernel_rfl) (by kernel_rfl) (by kernel_rfl) (fun _ _ _ h => h) (Or.inr ⟨by rfl, rfl⟩) A ?_
      try simp only [Act.put, List.setIfInBounds_toArray, List.set_cons_zero, List.set_cons_succ]
      try simp only [HX1.out]
      try simp only [HX2.out]
      refine wpAnyH_take (i := 25) (oi := { dst := some 160, op := Op.pick (Operand.tmp 152) (Operand.const (Value.bool true)) (Operand.tmp 159), type := 4, pos := "laws.go:396", after := #[{ on := 17, ground := Ground.data }, { on := 24, ground := Ground.data }, { on := 3, ground := Ground.guard }], guard := some (3, true) }) (v := undef) rfl (by kernel_rfl) (by kernel_rfl) (by kernel_rfl) (fun _ _ _ h => h) (Or.inr ⟨by rfl, rfl⟩) A ?_
      try simp only [Act.put, List.setIfInBounds_toArray, List.set_cons_zero, List.set_cons_succ]
      try simp only [HX1.out]
      try simp only [HX2.out]
      refine wpAnyH_take (i := 26) (oi := { dst := some 161, op := Op.move (Operand.tmp 160), type := 4, pos := "laws.go:396", after := #[{ on := 25, ground := Ground.data }, { on := 22, ground := Ground.chain }, { on := 3, ground := Ground.guard }], guard := some (3, true) }) (v := undef) rfl (by kernel_rfl) (by kernel_rfl) (by kernel_rfl) (fun _ _ _ h => h) (Or.inr ⟨by rfl, rfl⟩) A ?_
      try simp only [Act.put, List.setIfInBounds_toArray, List.set_cons_zero, List.set_cons_succ]
      try simp only [HX1.out]
      try simp only [HX2.out]
      refine wpAnyH_take (i := 27) (oi := { dst := some 162, op := Op.fieldAddr 30 (Operand.tmp 12) 0, type := 0, pos := "laws.go:396", after := #[{ on := 26, ground := Ground.guard }], guard := some (26, false) }) (v := undef) rfl (by kernel_rfl) (by kernel_rfl) (by kernel_rfl) (fun _ _ _ h => h) (Or.inr ⟨by rfl, rfl⟩) A ?_
      try simp only [Act.put, List.setIfInBounds_toArray, List.set_cons_zero, List.set_cons_succ]
      try simp only [HX1.out]
      try simp only [HX2.out]
      refine wpAnyH_take (i := 28) (oi := { dst := some 163, op := Op.load 23 (Operand.tmp 162), type := 23, pos := "laws.go:396", after := #[{ on := 27, ground := Ground.data }, { on := 26, ground := Ground.guard }], guard := some (26, false) }) (v := undef) rfl (by kernel_rfl) (by kernel_rfl) (by kernel_rfl) (fun _ _ _ h => h) (Or.inr ⟨by rfl, rfl⟩) A ?_
      try simp only [Act.put, List.setIfInBounds_toArray, List.set_cons_zero, List.set_cons_succ]
      try simp only [HX1.out]
      try simp only [HX2.out]
      refine wpAnyH_take (i := 29) (oi := { dst := some 164, op := Op.move (Operand.tmp 10), type := 2, pos := "laws.go:396", after := #[{ on := 26, ground := Ground.guard }], guard := some (26, false) }) (v := undef) rfl (by kernel_rfl) (by kernel_rfl) (by kernel_rfl) (fun _ _ _ h => h) (Or.inr ⟨by rfl, rfl⟩) A ?_
      try simp only [Act.put, List.setIfInBounds_toArray, List.set_cons_zero, List.set_cons_succ]
      try simp only [HX1.out]
      try simp only [HX2.out]
      refine wpAnyH_take (i := 30) (oi := { dst := some 165, op := Op.fieldAddr 30 (Operand.tmp 12) 1, type := 0, pos := "laws.go:396", after := #[{ on := 26, ground := Ground.guard }], guard := some (26, false) }) (v := undef) rfl (by kernel_rfl) (by kernel_rfl) (by kernel_rfl) (fun _ _ _ h => h) (Or.inr ⟨by rfl, rfl⟩) A ?_
      try simp only [Act.put, List.setIfInBounds_toArray, List.set_cons_zero, List.set_cons_succ]
      try simp only [HX1.out]
      try simp only [HX2.out]
      refine wpAnyH_take (i := 31) (oi := { dst := some 166, op := Op.load 28 (Operand.tmp 165), type := 28, pos := "laws.go:396", after := #[{ on := 30, ground := Ground.data }, { on := 26, ground := Ground.guard }], guard := some (26, false) }) (v := undef) rfl (by kernel_rfl) (by kernel_rfl) (by kernel_rfl) (fun _ _ _ h => h) (Or.inr ⟨by rfl, rfl⟩) A ?_
      try simp only [Act.put, List.setIfInBounds_toArray, List.set_cons_zero, List.set_cons_succ]
      try simp only [HX1.out]
      try simp only [HX2.out]
      refine wpAnyH_take (i := 32) (oi := { dst := some 167, op := Op.indexAddr 28 (Operand.tmp 166) (Operand.const (Value.int IntKind.i64 0)), type := 0, pos := "laws.go:396", after := #[{ on := 31, ground := Ground.data }, { on := 26, ground := Ground.guard }], guard := some (26, false) }) (v := undef) rfl (by kernel_rfl) (by kernel_rfl) (by kernel_rfl) (fun _ _ _ h => h) (Or.inr ⟨by rfl, rfl⟩) A ?_
      try simp only [Act.put, List.setIfInBounds_toArray, List.set_cons_zero, List.set_cons_succ]
      try simp only [HX1.out]
      try simp only [HX2.out]
      refine wpAnyH_take (i := 33) (oi := { dst := some 168, op := Op.load 25 (Operand.tmp 167), type := 25, pos := "laws.go:396", after := #[{ on := 32, ground := Ground.data }, { on := 26, ground := Ground.guard }], guard := some (26, false) }) (v := undef) rfl (by kernel_rfl) (by kernel_rfl) (by kernel_rfl) (fun _ _ _ h => h) (Or.inr ⟨by rfl, rfl⟩) A ?_
      try simp only [Act.put, List.setIfInBounds_toArray, List.set_cons_zero, List.set_cons_succ]
      try simp only [HX1.out]
      try simp only [HX2.out]
      refine wpAnyH_take (i := 34) (oi := { dst := some 169, op := Op.call { callee := Callee.value (Operand.func 5), args := #[Operand.tmp 163, Operand.tmp 164, Operand.tmp 168], argTypes := #[23, 2, 25] }, type := 30, pos := "laws.go:396", after := #[{ on := 28, ground := Ground.data }, { on := 29, ground := Ground.data }, { on := 33, ground := Ground.data }, { on := 26, ground := Ground.chain }, { on := 26, ground := Ground.guard }], guard := some (26, false) }) (v := undef) rfl (by kernel_rfl) (by kernel_rfl) (by kernel_rfl) (fun _ _ _ h => h) (Or.inr ⟨by rfl, rfl⟩) A ?_
      try simp only [Act.put, List.setIfInBounds_toArray, List.set_cons_zero, List.set_cons_succ]
      try simp only [HX1.out]
      try simp only [HX2.out]
      refine wpAnyH_take (i := 35) (oi := { dst := some 170, op := Op.field 30 (Operand.tmp 169) 0, type := 23, pos := "laws.go:396", after := #[{ on := 34, ground := Ground.data }, { on := 26, ground := Ground.guard }], guard := some (26, false) }) (v := undef) rfl (by kernel_rfl) (by kernel_rfl) (by kernel_rfl) (fun _ _ _ h => h) (Or.inr ⟨by rfl, rfl⟩) A ?_
      try simp only [Act.put, List.setIfInBounds_toArray, List.set_cons_zero, List.set_cons_succ]
      try simp only [HX1.out]
      try simp only [HX2.out]
      refine wpAnyH_take (i := 36) (oi := { dst := some 171, op := Op.move (Operand.tmp 9), type := 23, pos := "laws.go:396", after := #[{ on := 26, ground := Ground.guard }], guard := some (26, false) }) (v := undef) rfl (by kernel_rfl) (by kernel_rfl) (by kernel_rfl) (fun _ _ _ h => h) (Or.inr ⟨by rfl, rfl⟩) A ?_
      try simp only [Act.put, List.setIfInBounds_toArray, List.set_cons_zero, List.set_cons_succ]
      try simp only [HX1.out]
      try simp only [HX2.out]
      refine wpAnyH_take (i := 37) (oi := { dst := some 172, op := Op.move (Operand.tmp 10), type := 2, pos := "laws.go:396", after := #[{ on := 26, ground := Ground.guard }], guard := some (26, false) }) (v := undef) rfl (by kernel_rfl) (by kernel_rfl) (by kernel_rfl) (fun _ _ _ h => h) (Or.inr ⟨by rfl, rfl⟩) A ?_
      try simp only [Act.put, List.setIfInBounds_toArray, List.set_cons_zero, List.set_cons_succ]
      try simp only [HX1.out]
      try simp only [HX2.out]
      refine wpAnyH_take (i := 38) (oi := { dst := some 173, op := Op.fieldAddr 30 (Operand.tmp 12) 1, type := 0, pos := "laws.go:396", after := #[{ on := 26, ground := Ground.guard }], guard := some (26, false) }) (v := undef) rfl (by kernel_rfl) (by kernel_rfl) (by kernel_rfl) (fun _ _ _ h => h) (Or.inr ⟨by rfl, rfl⟩) A ?_
      try simp only [Act.put, List.setIfInBounds_toArray, List.set_cons_zero, List.set_cons_succ]
      try simp only [HX1.out]
      try simp only [HX2.out]
      refine wpAnyH_take (i := 39) (oi := { dst := some 174, op := Op.load 28 (Operand.tmp 173), type := 28, pos := "laws.go:396", after := #[{ on := 38, ground := Ground.data }, { on := 26, ground := Ground.guard }], guard := some (26, false) }) (v := undef) rfl (by kernel_rfl) (by kernel_rfl) (by kernel_rfl) (fun _ _ _ h => h) (Or.inr ⟨by rfl, rfl⟩) A ?_
      try simp only [Act.put, List.setIfInBounds_toArray, List.set_cons_zero, List.set_cons_succ]
      try simp only [HX1.out]
      try simp only [HX2.out]
      refine wpAnyH_take (i := 40) (oi := { dst := some 175, op := Op.indexAddr 28 (Operand.tmp 174) (Operand.const (Value.int IntKind.i64 0)), type := 0, pos := "laws.go:396", after := #[{ on := 39, ground := Ground.data }, { on := 26, ground := Ground.guard }], guard := some (26, false) }) (v := undef) rfl (by kernel_rfl) (by kernel_rfl) (by kernel_rfl) (fun _ _ _ h => h) (Or.inr ⟨by rfl, rfl⟩) A ?_
      try simp only [Act.put, List.setIfInBounds_toArray, List.set_cons_zero, List.set_cons_succ]
      try simp only [HX1.out]
      try simp only [HX2.out]
      refine wpAnyH_take (i := 41) (oi := { dst := some 176, op := Op.load 25 (Operand.tmp 175), type := 25, pos := "laws.go:396", after := #[{ on := 40, ground := Ground.data }, { on := 26, ground := Ground.guard }], guard := some (26, false) }) (v := undef) rfl (by kernel_rfl) (by kernel_rfl) (by kernel_rfl) (fun _ _ _ h => h) (Or.inr ⟨by rfl, rfl⟩) A ?_
      try simp only [Act.put, List.setIfInBounds_toArray, List.set_cons_zero, List.set_cons_succ]
      try simp only [HX1.out]
      try simp only [HX2.out]
      refine wpAnyH_take (i := 42) (oi := { dst := some 177, op := Op.call { callee := Callee.value (Operand.func 27), args := #[Operand.tmp 171, Operand.tmp 172, Operand.tmp 176], argTypes := #[23, 2, 25] }, type := 23, pos := "laws.go:396", after := #[{ on := 36, ground := Ground.data }, { on := 37, ground := Ground.data }, { on := 41, ground := Ground.data }, { on := 34, ground := Ground.chain }, { on := 26, ground := Ground.guard }], guard := some (26, false) }) (v := undef) rfl (by kernel_rfl) (by kernel_rfl) (by kernel_rfl) (fun _ _ _ h => h) (Or.inr ⟨by rfl, rfl⟩) A ?_
      try simp only [Act.put, List.setIfInBounds_toArray, List.set_cons_zero, List.set_cons_succ]
      try simp only [HX1.out]
      try simp only [HX2.out]
      refine wpAnyH_take (i := 43) (oi := { dst := some 178, op := Op.call { callee := Callee.value (Operand.func 26), args := #[Operand.tmp 170, Operand.tmp 177], argTypes := #[23, 23] }, type := 4, pos := "laws.go:396", after := #[{ on := 35, ground := Ground.data }, { on := 42, ground := Ground.data }, { on := 42, ground := Ground.chain }, { on := 26, ground := Ground.guard }], guard := some (26, false) }) (v := undef) rfl (by kernel_rfl) (by kernel_rfl) (by kernel_rfl) (fun _ _ _ h => h) (Or.inr ⟨by rfl, rfl⟩) A ?_
      try simp only [Act.put, List.setIfInBounds_toArray, List.set_cons_zero, List.set_cons_succ]
      try simp only [HX1.out]
      try simp only [HX2.out]
      refine wpAnyH_take (i := 44) (oi := { dst := some 179, op := Op.unOp UnOp.not 4 (Operand.tmp 178), type := 4, pos := "laws.go:396", after := #[{ on := 43, ground := Ground.data }, { on := 26, ground := Ground.guard }], guard := some (26, false) }) (v := undef) rfl (by kernel_rfl) (by kernel_rfl) (by kernel_rfl) (fun _ _ _ h => h) (Or.inr ⟨by rfl, rfl⟩) A ?_
      try simp only [Act.put, List.setIfInBounds_toArray, List.set_cons_zero, List.set_cons_succ]
      try simp only [HX1.out]
      try simp only [HX2.out]
      refine wpAnyH_take (i := 45) (oi := { dst := some 180, op := Op.pick (Operand.tmp 161) (Operand.const (Value.bool true)) (Operand.tmp 179), type := 4, pos := "laws.go:396", after := #[{ on := 26, ground := Ground.data }, { on := 44, ground := Ground.data }, { on := 3, ground := Ground.guard }], guard := some (3, true) }) (v := undef) rfl (by kernel_rfl) (by kernel_rfl) (by kernel_rfl) (fun _ _ _ h => h) (Or.inr ⟨by rfl, rfl⟩) A ?_
      try simp only [Act.put, List.setIfInBounds_toArray, List.set_cons_zero, List.set_cons_succ]
      try simp only [HX1.out]
      try simp only [HX2.out]
      refine wpAnyH_take (i := 46) (oi := { dst := some 181, op := Op.pick (Operand.tmp 138) (Operand.tmp 180) (Operand.const (Value.bool false)), type := 4, pos := "laws.go:396", after := #[{ on := 3, ground := Ground.data }, { on := 45, ground := Ground.data }], guard := none }) (v := ?vvc47) rfl (by kernel_rfl) (by kernel_rfl) (by kernel_rfl) (fun _ _ _ h => h) (Or.inl ⟨by rfl, ?hyc47⟩) A ?restc47
      case hyc47 => (intro w hSw; have c2 := hSw.mem.b2.cell;go_simp <;> with_reducible rfl)
      try simp only [Act.put, List.setIfInBounds_toArray, List.set_cons_zero, List.set_cons_succ]
      try simp only [HX1.out]
      try simp only [HX2.out]
      refine wpAnyH_done (by kernel_rfl) ?_ _
      all_goals
        go_wp2_with fail
        go_meet
        exact ⟨rfl, Lib.hid A⟩
  case rest =>
  obtain ⟨rfl, HA⟩ := hcut
  have A := HA.out
  clear HA HTx
  go_upto_region 16 with fail
  go_cut [196] from 26 (fun s196 wx => s196 = .bool false ∧ Hid (FbM w wx [(qV, 30, #[.slice Va V.rib.length Vc, .slice Vo V.gone.length Vd, .int .i64 V.code]), (qZ, 30, #[.slice Za Z.rib.length Zc, .slice Zo Z.gone.length Zd, .int .i64 Z.code]), (qY, 30, #[.slice Ya Y.rib.length Yc, .slice Yo Y.gone.length Yd, .int .i64 Y.code]), (qr3, 25, #[.int .i64 key.kind, .int .i64 key.vni, .int .i64 key.mac, .int .i64 key.ip, .int .i64 key.org, .int .i64 key.seq, .bool key.st]), (qX, 30, #[.slice Xa X.rib.length Xc, .slice Xo X.gone.length Xd, .int .i64 X.code]), (qr1, 25, #[.int .i64 r.kind, .int .i64 r.vni, .int .i64 r.mac, .int .i64 r.ip, .int .i64 r.org, .int .i64 r.seq, .bool r.st])] [(.slice ma m.length mc, m), (.slice Va V.rib.length Vc, V.rib), (.slice wwa ww.length wwc, ww), (.slice Za Z.rib.length Zc, Z.rib), (.slice sa s.length sc, s), (.slice Ya Y.rib.length Yc, Y.rib), (.slice ta t.length tc, t), (.slice Xa X.rib.length Xc, X.rib), (.slice la l.length lc, l)] [(.slice Vo V.gone.length Vd, V.gone), (.slice Zo Z.gone.length Zd, Z.gone), (.slice Yo Y.gone.length Yd, Y.gone), (.slice Xo X.gone.length Xd, X.gone)]))
  case first => as_aux_lemma =>
    have c0 := A.mem.b0.cell
    by_cases hv0 : V.code = 0
    · obtain ⟨VR, VG, vc⟩ := V
      dsimp only at *
      subst hv0
      have hvl := (HVx.out rfl).2
      try dsimp only at hvl
      have hvw : IntKind.i64.wrap ((VR.length : Int) + (VG.length : Int)) = (ww.length : Int) := by simp only [IntKind.wrap_i64]; omega
      clear hvl
      have HA := Lib.hid A
      clear A
      go_wp2_with fail
      go_meet
      exact ⟨rfl, HA⟩
    · have hX1 : decide (V.code = 0) = false := decide_eq_false hv0
      have hX2 : (V.code == 0) = false := by simpa using hv0
      have HA := Lib.hid A
      clear A hv0
      go_wp2_with fail
      go_meet
      exact ⟨rfl, HA⟩
  case rest =>
  obtain ⟨rfl, HA⟩ := hcut
  have A := HA.out
  clear HA HVx
  have c1 := A.mem.b1.cell
  go_upto_if 199 with fail
  go_cut [22, 23] from 26 (fun s22 s23 wx => Hid (FbM w wx [(qV, 30, #[.slice Va V.rib.length Vc, .slice Vo V.gone.length Vd, .int .i64 V.code]), (qZ, 30, #[.slice Za Z.rib.length Zc, .slice Zo Z.gone.length Zd, .int .i64 Z.code]), (qY, 30, #[.slice Ya Y.rib.length Yc, .slice Yo Y.gone.length Yd, .int .i64 Y.code]), (qr3, 25, #[.int .i64 key.kind, .int .i64 key.vni, .int .i64 key.mac, .int .i64 key.ip, .int .i64 key.org, .int .i64 key.seq, .bool key.st]), (qX, 30, #[.slice Xa X.rib.length Xc, .slice Xo X.gone.length Xd, .int .i64 X.code]), (qr1, 25, #[.int .i64 r.kind, .int .i64 r.vni, .int .i64 r.mac, .int .i64 r.ip, .int .i64 r.org, .int .i64 r.seq, .bool r.st])] [(.slice ma m.length mc, m), (.slice Va V.rib.length Vc, V.rib), (.slice wwa ww.length wwc, ww), (.slice Za Z.rib.length Zc, Z.rib), (.slice sa s.length sc, s), (.slice Ya Y.rib.length Yc, Y.rib), (.slice ta t.length tc, t), (.slice Xa X.rib.length Xc, X.rib), (.slice la l.length lc, l)] [(.slice Vo V.gone.length Vd, V.gone), (.slice Zo Z.gone.length Zd, Z.gone), (.slice Yo Y.gone.length Yd, Y.gone), (.slice Xo X.gone.length Xd, X.gone)]))
  case first => as_aux_lemma =>
    by_cases hz0 : Z.code = 0
    · obtain ⟨ZR, ZG, zc⟩ := Z
      dsimp only at *
      subst hz0
      obtain ⟨_, huc, hul, hun⟩ := HZx.out rfl
      have HIu := Lib.hid (fun (W : World) (h : HdsAt W (.slice Za ZR.length Zc) ZR) => implRibSweep_any ZR _ frm W h (by omega))
      unfold RoPost roV at HIu
      have hulen := sweepR_len ZR frm
      try dsimp only at huc hul hun
      clear HZx
      generalize sweepR ZR frm = U at *
      obtain ⟨UR, UG, uc⟩ := U
      dsimp only at *
      subst huc
      have HUN := Lib.hid hun
      have hul2 : UR.length ≤ 201 := by omega
      have huw : IntKind.i64.wrap ((UR.length : Int) + (UG.length : Int)) = (s.length : Int) := by simp only [IntKind.wrap_i64]; omega
      clear hun hul
      go_wp2_with fail
      refine (HIu.out _ (A.hs _ memH3)).mono ?_
      rintro e w20 ⟨xv, xt, rfl, ho1, ho2, _, hb⟩
      replace A := ((A.kept hb).addH (rows_of_own Hd.cl_len ho1)).addR (rows_of_own Rt.cl_len ho2)
      obtain ⟨Ua, Uc, rfl⟩ := rown_form ho1
      obtain ⟨Uo, Ud, rfl⟩ := rown_form ho2
      clear ho1 ho2 hb HIu c1
      go_upto_region 20 with fail
      replace A := A.new 30 #[.slice Ua UR.length Uc, .slice Uo UG.length Ud, .int .i64 0]
      obtain ⟨Wu, hWu⟩ : ∃ Q, Q = w20.alloc (.cells #[.slice Ua UR.length Uc, .slice Uo UG.length Ud, .int .i64 0] 30) := ⟨_, rfl⟩
      obtain ⟨qU, hqU⟩ : ∃ q, q = w20.heap.size := ⟨_, rfl⟩
      rw [← hWu, ← hqU] at A ⊢
      clear hWu hqU
      have HA := Lib.hid A
      clear A
      go_wp2_with fail
      go_loopw [23] (fun u wr => ∃ i : Nat, i ≤ UR.length ∧ u = .int .i64 (i : Int) ∧ Hid (FbM w wr [(qU, 30, #[.slice Ua UR.length Uc, .slice Uo UG.length Ud, .int .i64 0]), (qV, 30, #[.slice Va V.rib.length Vc, .slice Vo V.gone.length Vd, .int .i64 V.code]), (qZ, 30, #[.slice Za ZR.length Zc, .slice Zo ZG.length Zd, .int .i64 0]), (qY, 30, #[.slice Ya Y.rib.length Yc, .slice Yo Y.gone.length Yd, .int .i64 Y.code]), (qr3, 25, #[.int .i64 key.kind, .int .i64 key.vni, .int .i64 key.mac, .int .i64 key.ip, .int .i64 key.org, .int .i64 key.seq, .bool key.st]), (qX, 30, #[.slice Xa X.rib.length Xc, .slice Xo X.gone.length Xd, .int .i64 X.code]), (qr1, 25, #[.int .i64 r.kind, .int .i64 r.vni, .int .i64 r.mac, .int .i64 r.ip, .int .i64 r.org, .int .i64 r.seq, .bool r.st])] [(.slice Ua UR.length Uc, UR), (.slice ma m.length mc, m), (.slice Va V.rib.length Vc, V.rib), (.slice wwa ww.length wwc, ww), (.slice Za ZR.length Zc, ZR), (.slice sa s.length sc, s), (.slice Ya Y.rib.length Yc, Y.rib), (.slice ta t.length tc, t), (.slice Xa X.rib.length Xc, X.rib), (.slice la l.length lc, l)] [(.slice Uo UG.length Ud, UG), (.slice Vo V.gone.length Vd, V.gone), (.slice Zo ZG.length Zd, ZG), (.slice Yo Y.gone.length Yd, Y.gone), (.slice Xo X.gone.length Xd, X.gone)])) (fun u _ => UR.length - (intOf u).toNat)
      case atStart => exact ⟨0, Nat.zero_le _, rfl, HA⟩
      case round =>
        clear HA
        obtain ⟨i, hi, rfl, HA⟩ := hrel
        have c0 := HA.out.mem.b0.cell
        by_cases hlt : i < UR.length
        · have hne : UR.map Hd.cl ≠ [] := fun e => by have := congrArg List.length e; simp at this; rw [this] at hlt; simp at hlt
          have hlI : (i : Int) < (UR.length : Int) := by omega
          obtain ⟨b, off, hua, p0⟩ : ∃ b off, Ua = some ⟨b, off, none⟩ ∧ wr.cell? ⟨b, off + i * 9, none⟩ = some (.int .i64 UR[i].p) := by
            obtain ⟨a', c', e', hh⟩ := HA.out.hs _ memH0
            obtain ⟨b, off, ha, hb, HE⟩ := hh hne
            injection e' with e1 e2 e3
            exact ⟨b, off, e1.trans ha, (HE.hd i hlt).1⟩
          subst hua
          have hpn := HUN.out _ (List.getElem_mem hlt)
          generalize UR[i] = y at *
          have hX1 : decide (y.p = frm) = false := decide_eq_false hpn
          have hX2 : (y.p == frm) = false := by simpa using hpn
          clear hpn
          go_wp2_with fail
          go_roundw
          case rel => exact ⟨i + 1, by omega, by simp, HA⟩
          case measure => simp [intOf]; omega
        · have hi2 : i = UR.length := by omega
          have hlI : ¬ (i : Int) < (UR.length : Int) := by omega
          subst hi2
          go_wp2_with fail
          go_meet
          exact Lib.hid ⟨⟨HA.out.mem.bel, fun x hx => HA.out.mem.blk x (.tail _ hx), HA.out.mem.row⟩, fun q hq => HA.out.hs q (.tail _ hq), fun q hq => HA.out.rs q (.tail _ hq)⟩
    · have hX1 : decide (Z.code = 0) = false := decide_eq_false hz0
      have hX2 : (Z.code == 0) = false := by simpa using hz0
      have HA := Lib.hid A
      clear A hz0
      go_wp2_with fail
      go_meet
      exact HA
  case rest =>
  have A := hcut.out
  clear hcut HZx c1
  have c4 := A.mem.b4.cell
  by_cases hx0 : X.code = 0
  · have hPX := HPx.out hx0
    have HCs := Lib.hid (fun (i : Nat) (hi : i < X.rib.length) => cntE_succ ⟨p, false, r⟩ X.rib i hi)
    have HCa := Lib.hid (cntE_all (ok_pw hPX.ok) hPX.mem)
    have HIa := Lib.hid (fun (W : World) (h : HdsAt W (.slice Xa X.rib.length Xc) X.rib) => implRibPut_any X.rib _ p r W h (by omega))
    have HLa := Lib.hid (fun (v v' : Value) (W : World) (h : HdsAt W v X.rib) (h' : HdsAt W v' X.rib) => lwRib_any X.rib v v' W h h' (by omega))
    have hpl := hPX.len
    unfold RoPost roV Rt.val rtV at HIa
    have hag : (putR X.rib p r).rib = X.rib := hPX.again
    rw [hag] at HIa
    clear hPX HPx hag
    obtain ⟨XR, XG, xc⟩ := X
    dsimp only at *
    subst hx0
    have HA := Lib.hid A
    clear A
    go_wp2_with fail
    go_loopw [24, 25] (fun f u wr => ∃ i c : Nat, i ≤ XR.length ∧ u = .int .i64 (i : Int) ∧ f = .int .i64 (c : Int) ∧ Hid (c = cntE ⟨p, false, r⟩ XR i) ∧ Hid (FbM w wr [(qV, 30, #[.slice Va V.rib.length Vc, .slice Vo V.gone.length Vd, .int .i64 V.code]), (qZ, 30, #[.slice Za Z.rib.length Zc, .slice Zo Z.gone.length Zd, .int .i64 Z.code]), (qY, 30, #[.slice Ya Y.rib.length Yc, .slice Yo Y.gone.length Yd, .int .i64 Y.code]), (qr3, 25, #[.int .i64 key.kind, .int .i64 key.vni, .int .i64 key.mac, .int .i64 key.ip, .int .i64 key.org, .int .i64 key.seq, .bool key.st]), (qX, 30, #[.slice Xa XR.length Xc, .slice Xo XG.length Xd, .int .i64 0]), (qr1, 25, #[.int .i64 r.kind, .int .i64 r.vni, .int .i64 r.mac, .int .i64 r.ip, .int .i64 r.org, .int .i64 r.seq, .bool r.st])] [(.slice ma m.length mc, m), (.slice Va V.rib.length Vc, V.rib), (.slice wwa ww.length wwc, ww), (.slice Za Z.rib.length Zc, Z.rib), (.slice sa s.length sc, s), (.slice Ya Y.rib.length Yc, Y.rib), (.slice ta t.length tc, t), (.slice Xa XR.length Xc, XR), (.slice la l.length lc, l)] [(.slice Vo V.gone.length Vd, V.gone), (.slice Zo Z.gone.length Zd, Z.gone), (.slice Yo Y.gone.length Yd, Y.gone), (.slice Xo XG.length Xd, XG)])) (fun _ u _ => XR.length - (intOf u).toNat)
    case atStart => exact ⟨0, 0, Nat.zero_le _, rfl, rfl, Lib.hid rfl, HA⟩
    case round =>
      clear HA c4
      obtain ⟨i, c, hi, rfl, rfl, HC, HA⟩ := hrel
      have A := HA.out
      clear HA
      have c4 := A.mem.b4.cell
      by_cases hlt : i < XR.length
      · have hne : XR.map Hd.cl ≠ [] := fun e => by have := congrArg List.length e; simp at this; rw [this] at hlt; simp at hlt
        have hlI : (i : Int) < (XR.length : Int) := by omega
        have hcs := HCs.out i hlt
        have hci : c ≤ i := by rw [HC.out]; exact cntE_le _ _ _
        have hc1 : IntKind.i64.wrap ((c : Int) + 1) = (c : Int) + 1 := by simp only [IntKind.wrap_i64]; omega
        obtain ⟨b, off, hua, hp⟩ : ∃ b off, Xa = some ⟨b, off, none⟩ ∧ ∀ W', FbM w W' [(qV, 30, #[.slice Va V.rib.length Vc, .slice Vo V.gone.length Vd, .int .i64 V.code]), (qZ, 30, #[.slice Za Z.rib.length Zc, .slice Zo Z.gone.length Zd, .int .i64 Z.code]), (qY, 30, #[.slice Ya Y.rib.length Yc, .slice Yo Y.gone.length Yd, .int .i64 Y.code]), (qr3, 25, #[.int .i64 key.kind, .int .i64 key.vni, .int .i64 key.mac, .int .i64 key.ip, .int .i64 key.org, .int .i64 key.seq, .bool key.st]), (qX, 30, #[.slice Xa XR.length Xc, .slice Xo XG.length Xd, .int .i64 0]), (qr1, 25, #[.int .i64 r.kind, .int .i64 r.vni, .int .i64 r.mac, .int .i64 r.ip, .int .i64 r.org, .int .i64 r.seq, .bool r.st])] [(.slice ma m.length mc, m), (.slice Va V.rib.length Vc, V.rib), (.slice wwa ww.length wwc, ww), (.slice Za Z.rib.length Zc, Z.rib), (.slice sa s.length sc, s), (.slice Ya Y.rib.length Yc, Y.rib), (.slice ta t.length tc, t), (.slice Xa XR.length Xc, XR), (.slice la l.length lc, l)] [(.slice Vo V.gone.length Vd, V.gone), (.slice Zo Z.gone.length Zd, Z.gone), (.slice Yo Y.gone.length Yd, Y.gone), (.slice Xo XG.length Xd, XG)] → W'.cell? ⟨b, off + i * 9, none⟩ = some (.int .i64 XR[i].p) ∧ W'.cell? ⟨b, off + i * 9 + 1, none⟩ = some (.bool XR[i].s) ∧ W'.cell? ⟨b, off + i * 9 + 2, none⟩ = some (.int .i64 XR[i].r.kind) ∧ W'.cell? ⟨b, off + i * 9 + 3, none⟩ = some (.int .i64 XR[i].r.vni) ∧ W'.cell? ⟨b, off + i * 9 + 4, none⟩ = some (.int .i64 XR[i].r.mac) ∧ W'.cell? ⟨b, off + i * 9 + 5, none⟩ = some (.int .i64 XR[i].r.ip) ∧ W'.cell? ⟨b, off + i * 9 + 6, none⟩ = some (.int .i64 XR[i].r.org) ∧ W'.cell? ⟨b, off + i * 9 + 7, none⟩ = some (.int .i64 XR[i].r.seq) ∧ W'.cell? ⟨b, off + i * 9 + 8, none⟩ = some (.bool XR[i].r.st) := by
          obtain ⟨a', c', e', hh⟩ := A.hs _ memH7
          obtain ⟨b, off, ha, hb, HE⟩ := hh hne
          injection e' with e1 e2 e3
          subst e1 ha
          refine ⟨b, off, rfl, fun W' hW' => ?_⟩
          obtain ⟨a2, c2, e2', hh2⟩ := hW'.hs _ memH7
          obtain ⟨b2, off2, ha2, hb2, HE2⟩ := hh2 hne
          injection e2' with e4 e5 e6
          rw [← e4] at ha2
          injection ha2 with ha2
          injection ha2 with ha2 ha3
          subst ha2 ha3
          exact HE2.hd i hlt
        subst hua
        have HP := Lib.hid hp
        clear hp hne
        go_upto_region 33 with fail
        clear c4
        replace A := A.drew
        by_cases he : XR[i] = ⟨p, false, r⟩
        · rw [if_pos he] at hcs
          have HCn := Lib.hid hcs
          rw [he] at HP
          clear hcs he
          refine wp_region_held_drew (S := fun W' => FbM w W' _ _ _) (by kernel_rfl) A (fun hHeld => ?_)
          clear hHeld
          generalize wr.drew = We at *
          refine wpAnyH_take (i := 0) (oi := { dst := some 244, op := Op.fieldAddr 30 (Operand.tmp 8) 0, type := 0, pos := "laws.go:418", after := #[], guard := none }) (v := ?vvd1) rfl (by kernel_rfl) (by kernel_rfl) (by kernel_rfl) (fun _ _ _ h => h) (Or.inl ⟨by rfl, ?hyd1⟩) A ?restd1
          case hyd1 => (intro w hSw; have c4 := hSw.mem.b4.cell; have c5 := hSw.mem.b5.cell; obtain ⟨p0, p1, p2, p3, p4, p5, p6, p7, p8⟩ := HP.out _ hSw;go_simp <;> with_reducible rfl)
          try simp only [Act.put, List.setIfInBounds_toArray, List.set_cons_zero, List.set_cons_succ]
          refine wpAnyH_take (i := 1) (oi := { dst := some 245, op := Op.load 23 (Operand.tmp 244), type := 23, pos := "laws.go:418", after := #[{ on := 0, ground := Ground.data }], guard := none }) (v := ?vvd2) rfl (by kernel_rfl) (by kernel_rfl) (by kernel_rfl) (fun _ _ _ h => h) (Or.inl ⟨by rfl, ?hyd2⟩) A ?restd2
          case hyd2 => (intro w hSw; have c4 := hSw.mem.b4.cell; have c5 := hSw.mem.b5.cell; obtain ⟨p0, p1, p2, p3, p4, p5, p6, p7, p8⟩ := HP.out _ hSw;go_simp <;> with_reducible rfl)
          try simp only [Act.put, List.setIfInBounds_toArray, List.set_cons_zero, List.set_cons_succ]
          refine wpAnyH_take (i := 2) (oi := { dst := some 246, op := Op.move (Operand.tmp 25), type := 3, pos := "laws.go:418", after := #[], guard := none }) (v := ?vvd3) rfl (by kernel_rfl) (by kernel_rfl) (by kernel_rfl) (fun _ _ _ h => h) (Or.inl ⟨by rfl, ?hyd3⟩) A ?restd3
          case hyd3 => (intro w hSw; have c4 := hSw.mem.b4.cell; have c5 := hSw.mem.b5.cell; obtain ⟨p0, p1, p2, p3, p4, p5, p6, p7, p8⟩ := HP.out _ hSw;go_simp <;> with_reducible rfl)
          try simp only [Act.put, List.setIfInBounds_toArray, List.set_cons_zero, List.set_cons_succ]
          refine wpAnyH_take (i := 3) (oi := { dst := some 247, op := Op.indexAddr 23 (Operand.tmp 245) (Operand.tmp 246), type := 0, pos := "laws.go:418", after := #[{ on := 1, ground := Ground.data }, { on := 2, ground := Ground.data }], guard := none }) (v := ?vvd4) rfl (by kernel_rfl) (by kernel_rfl) (by kernel_rfl) (fun _ _ _ h => h) (Or.inl ⟨by rfl, ?hyd4⟩) A ?restd4
          case hyd4 => (intro w hSw; have c4 := hSw.mem.b4.cell; have c5 := hSw.mem.b5.cell; obtain ⟨p0, p1, p2, p3, p4, p5, p6, p7, p8⟩ := HP.out _ hSw;go_simp <;> with_reducible rfl)
          try simp only [Act.put, List.setIfInBounds_toArray, List.set_cons_zero, List.set_cons_succ]
          refine wpAnyH_take (i := 4) (oi := { dst := some 248, op := Op.load 47 (Operand.tmp 247), type := 47, pos := "laws.go:418", after := #[{ on := 3, ground := Ground.data }], guard := none }) (v := ?vvd5) rfl (by kernel_rfl) (by kernel_rfl) (by kernel_rfl) (fun _ _ _ h => h) (Or.inl ⟨by rfl, ?hyd5⟩) A ?restd5
          case hyd5 => (intro w hSw; have c4 := hSw.mem.b4.cell; have c5 := hSw.mem.b5.cell; obtain ⟨p0, p1, p2, p3, p4, p5, p6, p7, p8⟩ := HP.out _ hSw;go_simp <;> with_reducible rfl)
          try simp only [Act.put, List.setIfInBounds_toArray, List.set_cons_zero, List.set_cons_succ]
          refine wpAnyH_take (i := 5) (oi := { dst := some 249, op := Op.move (Operand.tmp 6), type := 2, pos := "laws.go:418", after := #[], guard := none }) (v := ?vvd6) rfl (by kernel_rfl) (by kernel_rfl) (by kernel_rfl) (fun _ _ _ h => h) (Or.inl ⟨by rfl, ?hyd6⟩) A ?restd6
          case hyd6 => (intro w hSw; have c4 := hSw.mem.b4.cell; have c5 := hSw.mem.b5.cell; obtain ⟨p0, p1, p2, p3, p4, p5, p6, p7, p8⟩ := HP.out _ hSw;go_simp <;> with_reducible rfl)
          try simp only [Act.put, List.setIfInBounds_toArray, List.set_cons_zero, List.set_cons_succ]
          refine wpAnyH_take (i := 6) (oi := { dst := some 250, op := Op.load 25 (Operand.tmp 7), type := 25, pos := "laws.go:418", after := #[], guard := none }) (v := ?vvd7) rfl (by kernel_rfl) (by kernel_rfl) (by kernel_rfl) (fun _ _ _ h => h) (Or.inl ⟨by rfl, ?hyd7⟩) A ?restd7
          case hyd7 => (intro w hSw; have c4 := hSw.mem.b4.cell; have c5 := hSw.mem.b5.cell; obtain ⟨p0, p1, p2, p3, p4, p5, p6, p7, p8⟩ := HP.out _ hSw;go_simp <;> with_reducible rfl)
          try simp only [Act.put, List.setIfInBounds_toArray, List.set_cons_zero, List.set_cons_succ]
          refine wpAnyH_take (i := 7) (oi := { dst := some 251, op := Op.build 47 #[(0, Operand.tmp 249), (2, Operand.tmp 250)], type := 47, pos := "laws.go:418", after := #[{ on := 5, ground := Ground.data }, { on := 6, ground := Ground.data }], guard := none }) (v := ?vvd8) rfl (by kernel_rfl) (by kernel_rfl) (by kernel_rfl) (fun _ _ _ h => h) (Or.inl ⟨by rfl, ?hyd8⟩) A ?restd8
          case hyd8 => (intro w hSw; have c4 := hSw.mem.b4.cell; have c5 := hSw.mem.b5.cell; obtain ⟨p0, p1, p2, p3, p4, p5, p6, p7, p8⟩ := HP.out _ hSw;go_simp <;> with_reducible rfl)
          try simp only [Act.put, List.setIfInBounds_toArray, List.set_cons_zero, List.set_cons_succ]
          refine wpAnyH_take (i := 8) (oi := { dst := some 252, op := Op.binOp BinOp.eql 47 (Operand.tmp 248) (Operand.tmp 251) 47, type := 4, pos := "laws.go:418", after := #[{ on := 4, ground := Ground.data }, { on := 7, ground := Ground.data }], guard := none }) (v := ?vvd9) rfl (by kernel_rfl) (by kernel_rfl) (by kernel_rfl) (fun _ _ _ h => h) (Or.inl ⟨by rfl, ?hyd9⟩) A ?restd9
          case hyd9 => (intro w hSw; have c4 := hSw.mem.b4.cell; have c5 := hSw.mem.b5.cell; obtain ⟨p0, p1, p2, p3, p4, p5, p6, p7, p8⟩ := HP.out _ hSw;go_simp <;> with_reducible rfl)
          try simp only [Act.put, List.setIfInBounds_toArray, List.set_cons_zero, List.set_cons_succ]
          refine wpAnyH_done (by kernel_rfl) ?_ _
          all_goals
            have HA := Lib.hid A
            clear A
            go_wp2_with fail
            go_roundw
            case rel => exact ⟨i + 1, c + 1, by omega, by simp, by simp, Lib.hid (by rw [HCn.out, ← HC.out]), HA⟩
            case measure => simp [intOf]; omega
        · rw [if_neg he] at hcs
          have HCn := Lib.hid hcs
          clear hcs
          have h3 := fun e => he ((hd_eq_iff _ _).2 e)
          generalize XR[i] = y at *
          obtain ⟨y0, y1, y2, y3, y4, y5, y6, y7, y8⟩ := y
          try dsimp only at h3 HP
          have hif : ∀ {γ : Type} (A B : γ), (if y0 = p then (if y1 = true then B else (if y2 = r.kind then (if y3 = r.vni then (if y4 = r.mac then (if y5 = r.ip then (if y6 = r.org then (if y7 = r.seq then (if y8 = r.st then A else B) else B) else B) else B) else B) else B) else B)) else B) = B := fun {γ} A B => by
            repeat' split
            all_goals first | rfl | (rename_i g0 g1 g2 g3 g4 g5 g6 g7 g8; exact absurd ⟨g0, by simpa using g1, g2, g3, g4, g5, g6, g7, g8⟩ h3)
          clear h3 he
          refine wp_region_held_drew (S := fun W' => FbM w W' _ _ _) (by kernel_rfl) A (fun hHeld => ?_)
          clear hHeld
          generalize wr.drew = We at *
          refine wpAnyH_take (i := 0) (oi := { dst := some 244, op := Op.fieldAddr 30 (Operand.tmp 8) 0, type := 0, pos := "laws.go:418", after := #[], guard := none }) (v := ?vve1) rfl (by kernel_rfl) (by kernel_rfl) (by kernel_rfl) (fun _ _ _ h => h) (Or.inl ⟨by rfl, ?hye1⟩) A ?reste1
          case hye1 => (intro w hSw; have c4 := hSw.mem.b4.cell; have c5 := hSw.mem.b5.cell; obtain ⟨p0, p1, p2, p3, p4, p5, p6, p7, p8⟩ := HP.out _ hSw;go_simp <;> with_reducible rfl)
          try simp only [Act.put, List.setIfInBounds_toArray, List.set_cons_zero, List.set_cons_succ]
          refine wpAnyH_take (i := 1) (oi := { dst := some 245, op := Op.load 23 (Operand.tmp 244), type := 23, pos := "laws.go:418", after := #[{ on := 0, ground := Ground.data }], guard := none }) (v := ?vve2) rfl (by kernel_rfl) (by kernel_rfl) (by kernel_rfl) (fun _ _ _ h => h) (Or.inl ⟨by rfl, ?hye2⟩) A ?reste2
          case hye2 => (intro w hSw; have c4 := hSw.mem.b4.cell; have c5 := hSw.mem.b5.cell; obtain ⟨p0, p1, p2, p3, p4, p5, p6, p7, p8⟩ := HP.out _ hSw;go_simp <;> with_reducible rfl)
          try simp only [Act.put, List.setIfInBounds_toArray, List.set_cons_zero, List.set_cons_succ]
          refine wpAnyH_take (i := 2) (oi := { dst := some 246, op := Op.move (Operand.tmp 25), type := 3, pos := "laws.go:418", after := #[], guard := none }) (v := ?vve3) rfl (by kernel_rfl) (by kernel_rfl) (by kernel_rfl) (fun _ _ _ h => h) (Or.inl ⟨by rfl, ?hye3⟩) A ?reste3
          case hye3 => (intro w hSw; have c4 := hSw.mem.b4.cell; have c5 := hSw.mem.b5.cell; obtain ⟨p0, p1, p2, p3, p4, p5, p6, p7, p8⟩ := HP.out _ hSw;go_simp <;> with_reducible rfl)
          try simp only [Act.put, List.setIfInBounds_toArray, List.set_cons_zero, List.set_cons_succ]
          refine wpAnyH_take (i := 3) (oi := { dst := some 247, op := Op.indexAddr 23 (Operand.tmp 245) (Operand.tmp 246), type := 0, pos := "laws.go:418", after := #[{ on := 1, ground := Ground.data }, { on := 2, ground := Ground.data }], guard := none }) (v := ?vve4) rfl (by kernel_rfl) (by kernel_rfl) (by kernel_rfl) (fun _ _ _ h => h) (Or.inl ⟨by rfl, ?hye4⟩) A ?reste4
          case hye4 => (intro w hSw; have c4 := hSw.mem.b4.cell; have c5 := hSw.mem.b5.cell; obtain ⟨p0, p1, p2, p3, p4, p5, p6, p7, p8⟩ := HP.out _ hSw;go_simp <;> with_reducible rfl)
          try simp only [Act.put, List.setIfInBounds_toArray, List.set_cons_zero, List.set_cons_succ]
          refine wpAnyH_take (i := 4) (oi := { dst := some 248, op := Op.load 47 (Operand.tmp 247), type := 47, pos := "laws.go:418", after := #[{ on := 3, ground := Ground.data }], guard := none }) (v := ?vve5) rfl (by kernel_rfl) (by kernel_rfl) (by kernel_rfl) (fun _ _ _ h => h) (Or.inl ⟨by rfl, ?hye5⟩) A ?reste5
          case hye5 => (intro w hSw; have c4 := hSw.mem.b4.cell; have c5 := hSw.mem.b5.cell; obtain ⟨p0, p1, p2, p3, p4, p5, p6, p7, p8⟩ := HP.out _ hSw;go_simp <;> with_reducible rfl)
          try simp only [Act.put, List.setIfInBounds_toArray, List.set_cons_zero, List.set_cons_succ]
          refine wpAnyH_take (i := 5) (oi := { dst := some 249, op := Op.move (Operand.tmp 6), type := 2, pos := "laws.go:418", after := #[], guard := none }) (v := ?vve6) rfl (by kernel_rfl) (by kernel_rfl) (by kernel_rfl) (fun _ _ _ h => h) (Or.inl ⟨by rfl, ?hye6⟩) A ?reste6
          case hye6 => (intro w hSw; have c4 := hSw.mem.b4.cell; have c5 := hSw.mem.b5.cell; obtain ⟨p0, p1, p2, p3, p4, p5, p6, p7, p8⟩ := HP.out _ hSw;go_simp <;> with_reducible rfl)
          try simp only [Act.put, List.setIfInBounds_toArray, List.set_cons_zero, List.set_cons_succ]
          refine wpAnyH_take (i := 6) (oi := { dst := some 250, op := Op.load 25 (Operand.tmp 7), type := 25, pos := "laws.go:418", after := #[], guard := none }) (v := ?vve7) rfl (by kernel_rfl) (by kernel_rfl) (by kernel_rfl) (fun _ _ _ h => h) (Or.inl ⟨by rfl, ?hye7⟩) A ?reste7
          case hye7 => (intro w hSw; have c4 := hSw.mem.b4.cell; have c5 := hSw.mem.b5.cell; obtain ⟨p0, p1, p2, p3, p4, p5, p6, p7, p8⟩ := HP.out _ hSw;go_simp <;> with_reducible rfl)
          try simp only [Act.put, List.setIfInBounds_toArray, List.set_cons_zero, List.set_cons_succ]
          refine wpAnyH_take (i := 7) (oi := { dst := some 251, op := Op.build 47 #[(0, Operand.tmp 249), (2, Operand.tmp 250)], type := 47, pos := "laws.go:418", after := #[{ on := 5, ground := Ground.data }, { on := 6, ground := Ground.data }], guard := none }) (v := ?vve8) rfl (by kernel_rfl) (by kernel_rfl) (by kernel_rfl) (fun _ _ _ h => h) (Or.inl ⟨by rfl, ?hye8⟩) A ?reste8
          case hye8 => (intro w hSw; have c4 := hSw.mem.b4.cell; have c5 := hSw.mem.b5.cell; obtain ⟨p0, p1, p2, p3, p4, p5, p6, p7, p8⟩ := HP.out _ hSw;go_simp <;> with_reducible rfl)
          try simp only [Act.put, List.setIfInBounds_toArray, List.set_cons_zero, List.set_cons_succ]
          refine wpAnyH_take (i := 8) (oi := { dst := some 252, op := Op.binOp BinOp.eql 47 (Operand.tmp 248) (Operand.tmp 251) 47, type := 4, pos := "laws.go:418", after := #[{ on := 4, ground := Ground.data }, { on := 7, ground := Ground.data }], guard := none }) (v := ?vve9) rfl (by kernel_rfl) (by kernel_rfl) (by kernel_rfl) (fun _ _ _ h => h) (Or.inl ⟨by rfl, ?hye9⟩) A ?reste9
          case hye9 => (intro w hSw; have c4 := hSw.mem.b4.cell; have c5 := hSw.mem.b5.cell; obtain ⟨p0, p1, p2, p3, p4, p5, p6, p7, p8⟩ := HP.out _ hSw;go_simp <;> with_reducible rfl)
          try simp only [Act.put, List.setIfInBounds_toArray, List.set_cons_zero, List.set_cons_succ]
          refine wpAnyH_done (by kernel_rfl) ?_ _
          all_goals
            have HA := Lib.hid A
            clear A
            go_wp2_with fail
            go_roundw
            case rel => exact ⟨i + 1, c, by omega, by simp, rfl, Lib.hid (by rw [HCn.out, ← HC.out]; rfl), HA⟩
            case measure => simp [intOf]; omega
      · have hi2 : i = XR.length := by omega
        have hlI : ¬ (i : Int) < (XR.length : Int) := by omega
        subst hi2
        have hc1 : c = 1 := HC.out.trans HCa.out
        subst hc1
        have hplI : (XR.length : Int) ≤ (l.length : Int) + 1 := by omega
        have hlw : IntKind.i64.wrap ((l.length : Int) + 1) = (l.length : Int) + 1 := by simp only [IntKind.wrap_i64]; omega
        clear HC HCa HCs
        go_upto_region 35 with fail
        replace A := A.drew
        clear c4
        refine wp_region_held_drew (S := fun W' => FbM w W' _ _ _) (by kernel_rfl) A (fun hHeld => ?_)
        clear hHeld
        generalize wr.drew = We at *
        refine wpAnyH_take (i := 0) (oi := { dst := some 255, op := Op.move (Operand.tmp 24), type := 3, pos := "laws.go:422", after := #[], guard := none }) (v := ?vvf1) rfl (by kernel_rfl) (by kernel_rfl) (by kernel_rfl) (fun _ _ _ h => h) (Or.inl ⟨by rfl, ?hyf1⟩) A ?restf1
        case hyf1 => (intro w hSw; have c4 := hSw.mem.b4.cell; have c5 := hSw.mem.b5.cell;go_simp <;> with_reducible rfl)
        try simp only [Act.put, List.setIfInBounds_toArray, List.set_cons_zero, List.set_cons_succ]
        refine wpAnyH_take (i := 1) (oi := { dst := some 256, op := Op.binOp BinOp.eql 3 (Operand.tmp 255) (Operand.const (Value.int IntKind.i64 1)) 3, type := 4, pos := "laws.go:422", after := #[{ on := 0, ground := Ground.data }], guard := none }) (v := ?vvf2) rfl (by kernel_rfl) (by kernel_rfl) (by kernel_rfl) (fun _ _ _ h => h) (Or.inl ⟨by rfl, ?hyf2⟩) A ?restf2
        case hyf2 => (intro w hSw; have c4 := hSw.mem.b4.cell; have c5 := hSw.mem.b5.cell;go_simp <;> with_reducible rfl)
        try simp only [Act.put, List.setIfInBounds_toArray, List.set_cons_zero, List.set_cons_succ]
        refine wpAnyH_take (i := 2) (oi := { dst := some 257, op := Op.move (Operand.tmp 256), type := 4, pos := "laws.go:422", after := #[{ on := 1, ground := Ground.data }], guard := none }) (v := ?vvf3) rfl (by kernel_rfl) (by kernel_rfl) (by kernel_rfl) (fun _ _ _ h => h) (Or.inl ⟨by rfl, ?hyf3⟩) A ?restf3
        case hyf3 => (intro w hSw; have c4 := hSw.mem.b4.cell; have c5 := hSw.mem.b5.cell;go_simp <;> with_reducible rfl)
        try simp only [Act.put, List.setIfInBounds_toArray, List.set_cons_zero, List.set_cons_succ]
        refine wpAnyH_take (i := 3) (oi := { dst := some 258, op := Op.fieldAddr 30 (Operand.tmp 8) 0, type := 0, pos := "laws.go:422", after := #[{ on := 2, ground := Ground.guard }], guard := some (2, true) }) (v := ?vvf4) rfl (by kernel_rfl) (by kernel_rfl) (by kernel_rfl) (fun _ _ _ h => h) (Or.inl ⟨by rfl, ?hyf4⟩) A ?restf4
        case hyf4 => (intro w hSw; have c4 := hSw.mem.b4.cell; have c5 := hSw.mem.b5.cell;go_simp <;> with_reducible rfl)
        try simp only [Act.put, List.setIfInBounds_toArray, List.set_cons_zero, List.set_cons_succ]
        refine wpAnyH_take (i := 4) (oi := { dst := some 259, op := Op.load 23 (Operand.tmp 258), type := 23, pos := "laws.go:422", after := #[{ on := 3, ground := Ground.data }, { on := 2, ground := Ground.guard }], guard := some (2, true) }) (v := ?vvf5) rfl (by kernel_rfl) (by kernel_rfl) (by kernel_rfl) (fun _ _ _ h => h) (Or.inl ⟨by rfl, ?hyf5⟩) A ?restf5
        case hyf5 => (intro w hSw; have c4 := hSw.mem.b4.cell; have c5 := hSw.mem.b5.cell;go_simp <;> with_reducible rfl)
        try simp only [Act.put, List.setIfInBounds_toArray, List.set_cons_zero, List.set_cons_succ]
        refine wpAnyH_take (i := 5) (oi := { dst := some 260, op := Op.call { callee := Callee.builtin Builtin.len, args := #[Operand.tmp 259], argTypes := #[23] }, type := 3, pos := "laws.go:422", after := #[{ on := 4, ground := Ground.data }, { on := 2, ground := Ground.guard }], guard := some (2, true) }) (v := ?vvf6) rfl (by kernel_rfl) (by kernel_rfl) (by kernel_rfl) (fun _ _ _ h => h) (Or.inl ⟨by rfl, ?hyf6⟩) A ?restf6
        case hyf6 => (intro w hSw; have c4 := hSw.mem.b4.cell; have c5 := hSw.mem.b5.cell;go_simp <;> with_reducible rfl)
        try simp only [Act.put, List.setIfInBounds_toArray, List.set_cons_zero, List.set_cons_succ]
        refine wpAnyH_take (i := 6) (oi := { dst := some 261, op := Op.move (Operand.tmp 5), type := 23, pos := "laws.go:422", after := #[{ on := 2, ground := Ground.guard }], guard := some (2, true) }) (v := ?vvf7) rfl (by kernel_rfl) (by kernel_rfl) (by kernel_rfl) (fun _ _ _ h => h) (Or.inl ⟨by rfl, ?hyf7⟩) A ?restf7
        case hyf7 => (intro w hSw; have c4 := hSw.mem.b4.cell; have c5 := hSw.mem.b5.cell;go_simp <;> with_reducible rfl)
        try simp only [Act.put, List.setIfInBounds_toArray, List.set_cons_zero, List.set_cons_succ]
        refine wpAnyH_take (i := 7) (oi := { dst := some 262, op := Op.call { callee := Callee.builtin Builtin.len, args := #[Operand.tmp 261], argTypes := #[23] }, type := 3, pos := "laws.go:422", after := #[{ on := 6, ground := Ground.data }, { on := 2, ground := Ground.guard }], guard := some (2, true) }) (v := ?vvf8) rfl (by kernel_rfl) (by kernel_rfl) (by kernel_rfl) (fun _ _ _ h => h) (Or.inl ⟨by rfl, ?hyf8⟩) A ?restf8
        case hyf8 => (intro w hSw; have c4 := hSw.mem.b4.cell; have c5 := hSw.mem.b5.cell;go_simp <;> with_reducible rfl)
        try simp only [Act.put, List.setIfInBounds_toArray, List.set_cons_zero, List.set_cons_succ]
        refine wpAnyH_take (i := 8) (oi := { dst := some 263, op := Op.binOp BinOp.add 3 (Operand.tmp 262) (Operand.const (Value.int IntKind.i64 1)) 3, type := 3, pos := "laws.go:422", after := #[{ on := 7, ground := Ground.data }, { on := 2, ground := Ground.guard }], guard := some (2, true) }) (v := ?vvf9) rfl (by kernel_rfl) (by kernel_rfl) (by kernel_rfl) (fun _ _ _ h => h) (Or.inl ⟨by rfl, ?hyf9⟩) A ?restf9
        case hyf9 => (intro w hSw; have c4 := hSw.mem.b4.cell; have c5 := hSw.mem.b5.cell;go_simp <;> with_reducible rfl)
        try simp only [Act.put, List.setIfInBounds_toArray, List.set_cons_zero, List.set_cons_succ]
        refine wpAnyH_take (i := 9) (oi := { dst := some 264, op := Op.binOp BinOp.leq 3 (Operand.tmp 260) (Operand.tmp 263) 3, type := 4, pos := "laws.go:422", after := #[{ on := 5, ground := Ground.data }, { on := 8, ground := Ground.data }, { on := 2, ground := Ground.guard }], guard := some (2, true) }) (v := ?vvf10) rfl (by kernel_rfl) (by kernel_rfl) (by kernel_rfl) (fun _ _ _ h => h) (Or.inl ⟨by rfl, ?hyf10⟩) A ?restf10
        case hyf10 => (intro w hSw; have c4 := hSw.mem.b4.cell; have c5 := hSw.mem.b5.cell;go_simp <;> with_reducible rfl)
        try simp only [Act.put, List.setIfInBounds_toArray, List.set_cons_zero, List.set_cons_succ]
        refine wpAnyH_take (i := 10) (oi := { dst := some 265, op := Op.pick (Operand.tmp 257) (Operand.tmp 264) (Operand.const (Value.bool false)), type := 4, pos := "laws.go:422", after := #[{ on := 2, ground := Ground.data }, { on := 9, ground := Ground.data }], guard := none }) (v := ?vvf11) rfl (by kernel_rfl) (by kernel_rfl) (by kernel_rfl) (fun _ _ _ h => h) (Or.inl ⟨by rfl, ?hyf11⟩) A ?restf11
        case hyf11 => (intro w hSw; have c4 := hSw.mem.b4.cell; have c5 := hSw.mem.b5.cell;go_simp <;> with_reducible rfl)
        try simp only [Act.put, List.setIfInBounds_toArray, List.set_cons_zero, List.set_cons_succ]
        refine wpAnyH_take (i := 11) (oi := { dst := some 266, op := Op.move (Operand.tmp 265), type := 4, pos := "laws.go:422", after := #[{ on := 10, ground := Ground.data }, { on := 2, ground := Ground.chain }], guard := none }) (v := ?vvf12) rfl (by kernel_rfl) (by kernel_rfl) (by kernel_rfl) (fun _ _ _ h => h) (Or.inl ⟨by rfl, ?hyf12⟩) A ?restf12
        case hyf12 => (intro w hSw; have c4 := hSw.mem.b4.cell; have c5 := hSw.mem.b5.cell;go_simp <;> with_reducible rfl)
        try simp only [Act.put, List.setIfInBounds_toArray, List.set_cons_zero, List.set_cons_succ]
        refine wpAnyH_take (i := 12) (oi := { dst := some 267, op := Op.fieldAddr 30 (Operand.tmp 8) 0, type := 0, pos := "laws.go:422", after := #[{ on := 11, ground := Ground.guard }], guard := some (11, true) }) (v := ?vvf13) rfl (by kernel_rfl) (by kernel_rfl) (by kernel_rfl) (fun _ _ _ h => h) (Or.inl ⟨by rfl, ?hyf13⟩) A ?restf13
        case hyf13 => (intro w hSw; have c4 := hSw.mem.b4.cell; have c5 := hSw.mem.b5.cell;go_simp <;> with_reducible rfl)
        try simp only [Act.put, List.setIfInBounds_toArray, List.set_cons_zero, List.set_cons_succ]
        refine wpAnyH_take (i := 13) (oi := { dst := some 268, op := Op.load 23 (Operand.tmp 267), type := 23, pos := "laws.go:422", after := #[{ on := 12, ground := Ground.data }, { on := 11, ground := Ground.guard }], guard := some (11, true) }) (v := ?vvf14) rfl (by kernel_rfl) (by kernel_rfl) (by kernel_rfl) (fun _ _ _ h => h) (Or.inl ⟨by rfl, ?hyf14⟩) A ?restf14
        case hyf14 => (intro w hSw; have c4 := hSw.mem.b4.cell; have c5 := hSw.mem.b5.cell;go_simp <;> with_reducible rfl)
        try simp only [Act.put, List.setIfInBounds_toArray, List.set_cons_zero, List.set_cons_succ]
        refine wpAnyH_take (i := 14) (oi := { dst := some 269, op := Op.move (Operand.tmp 6), type := 2, pos := "laws.go:422", after := #[{ on := 11, ground := Ground.guard }], guard := some (11, true) }) (v := ?vvf15) rfl (by kernel_rfl) (by kernel_rfl) (by kernel_rfl) (fun _ _ _ h => h) (Or.inl ⟨by rfl, ?hyf15⟩) A ?restf15
        case hyf15 => (intro w hSw; have c4 := hSw.mem.b4.cell; have c5 := hSw.mem.b5.cell;go_simp <;> with_reducible rfl)
        try simp only [Act.put, List.setIfInBounds_toArray, List.set_cons_zero, List.set_cons_succ]
        refine wpAnyH_take (i := 15) (oi := { dst := some 270, op := Op.load 25 (Operand.tmp 7), type := 25, pos := "laws.go:422", after := #[{ on := 11, ground := Ground.guard }], guard := some (11, true) }) (v := ?vvf16) rfl (by kernel_rfl) (by kernel_rfl) (by kernel_rfl) (fun _ _ _ h => h) (Or.inl ⟨by rfl, ?hyf16⟩) A ?restf16
        case hyf16 => (intro w hSw; have c4 := hSw.mem.b4.cell; have c5 := hSw.mem.b5.cell;go_simp <;> with_reducible rfl)
        try simp only [Act.put, List.setIfInBounds_toArray, List.set_cons_zero, List.set_cons_succ]
        refine wpAnyH_take (i := 18) (oi := { dst := some 273, op := Op.fieldAddr 30 (Operand.tmp 8) 0, type := 0, pos := "laws.go:422", after := #[{ on := 11, ground := Ground.guard }], guard := some (11, true) }) (v := ?vvf17) rfl (by kernel_rfl) (by kernel_rfl) (by kernel_rfl) (fun _ _ _ h => h) (Or.inl ⟨by rfl, ?hyf17⟩) A ?restf17
        case hyf17 => (intro w hSw; have c4 := hSw.mem.b4.cell; have c5 := hSw.mem.b5.cell;go_simp <;> with_reducible rfl)
        try simp only [Act.put, List.setIfInBounds_toArray, List.set_cons_zero, List.set_cons_succ]
        refine wpAnyH_take (i := 19) (oi := { dst := some 274, op := Op.load 23 (Operand.tmp 273), type := 23, pos := "laws.go:422", after := #[{ on := 18, ground := Ground.data }, { on := 11, ground := Ground.guard }], guard := some (11, true) }) (v := ?vvf18) rfl (by kernel_rfl) (by kernel_rfl) (by kernel_rfl) (fun _ _ _ h => h) (Or.inl ⟨by rfl, ?hyf18⟩) A ?restf18
        case hyf18 => (intro w hSw; have c4 := hSw.mem.b4.cell; have c5 := hSw.mem.b5.cell;go_simp <;> with_reducible rfl)
        try simp only [Act.put, List.setIfInBounds_toArray, List.set_cons_zero, List.set_cons_succ]
        refine wpAnyH_ready (rs := [16]) (by kernel_rfl) (by simp) ?_
        refine AllReadyH.cons (o := { dst := some 271, op := Op.call { callee := Callee.value (Operand.func 5), args := #[Operand.tmp 268, Operand.tmp 269, Operand.tmp 270], argTypes := #[23, 2, 25] }, type := 30, pos := "laws.go:422", after := #[{ on := 13, ground := Ground.data }, { on := 14, ground := Ground.data }, { on := 15, ground := Ground.data }, { on := 11, ground := Ground.chain }, { on := 11, ground := Ground.guard }], guard := some (11, true) }) rfl (fun K hK => ?_) AllReadyH.nil
        go_simp
        refine (HIa.out _ (A.hs _ memH7)).mono ?_
        rintro e u2 ⟨sv, st, rfl, ho1, ho2, _, hb⟩
        replace A := A.kept hb
        have HS1 := Lib.hid (rows_of_own Hd.cl_len ho1)
        obtain ⟨xa1, xc1, rfl⟩ := rown_form ho1
        obtain ⟨xa2, xc2, rfl⟩ := rown_form ho2
        clear ho1 ho2 hb
        refine hK.out _ _ A (fun hHeld => ?_)
        clear hK K hHeld
        try simp only [Act.put, List.setIfInBounds_toArray, List.set_cons_zero, List.set_cons_succ]
        refine wpAnyH_take (i := 17) (oi := { dst := some 272, op := Op.field 30 (Operand.tmp 271) 0, type := 23, pos := "laws.go:422", after := #[{ on := 16, ground := Ground.data }, { on := 11, ground := Ground.guard }], guard := some (11, true) }) (v := ?vvf19) rfl (by kernel_rfl) (by kernel_rfl) (by kernel_rfl) (fun _ _ _ h => h) (Or.inl ⟨by rfl, ?hyf19⟩) A ?restf19
        case hyf19 => (intro w hSw; have c4 := hSw.mem.b4.cell; have c5 := hSw.mem.b5.cell;go_simp <;> with_reducible rfl)
        try simp only [Act.put, List.setIfInBounds_toArray, List.set_cons_zero, List.set_cons_succ]
        refine wpAnyH_ready (rs := [20]) (by kernel_rfl) (by simp) ?_
        refine AllReadyH.cons (o := { dst := some 275, op := Op.call { callee := Callee.value (Operand.func 26), args := #[Operand.tmp 272, Operand.tmp 274], argTypes := #[23, 23] }, type := 4, pos := "laws.go:422", after := #[{ on := 17, ground := Ground.data }, { on := 19, ground := Ground.data }, { on := 16, ground := Ground.chain }, { on := 11, ground := Ground.guard }], guard := some (11, true) }) rfl (fun K hK => ?_) AllReadyH.nil
        go_simp
        refine (HLa.out _ _ _ HS1.out (A.hs _ memH7)).mono ?_
        rintro e u4 ⟨rfl, hb⟩
        replace A := A.kept hb
        clear hb HS1
        refine hK.out _ _ A (fun hHeld => ?_)
        clear hK K hHeld
        try simp only [Act.put, List.setIfInBounds_toArray, List.set_cons_zero, List.set_cons_succ]
        refine wpAnyH_take (i := 21) (oi := { dst := some 276, op := Op.pick (Operand.tmp 266) (Operand.tmp 275) (Operand.const (Value.bool false)), type := 4, pos := "laws.go:422", after := #[{ on := 11, ground := Ground.data }, { on := 20, ground := Ground.data }], guard := none }) (v := ?vvf20) rfl (by kernel_rfl) (by kernel_rfl) (by kernel_rfl) (fun _ _ _ h => h) (Or.inl ⟨by rfl, ?hyf20⟩) A ?restf20
        case hyf20 => (intro w hSw; have c4 := hSw.mem.b4.cell; have c5 := hSw.mem.b5.cell;go_simp <;> with_reducible rfl)
        try simp only [Act.put, List.setIfInBounds_toArray, List.set_cons_zero, List.set_cons_succ]
        refine wpAnyH_take (i := 22) (oi := { dst := some 4, op := Op.assign (Operand.tmp 276), type := 4, pos := "laws.go:422", after := #[{ on := 21, ground := Ground.data }, { on := 20, ground := Ground.chain }, { on := 0, ground := Ground.phase }, { on := 1, ground := Ground.phase }, { on := 2, ground := Ground.phase }, { on := 3, ground := Ground.phase }, { on := 4, ground := Ground.phase }, { on := 5, ground := Ground.phase }, { on := 6, ground := Ground.phase }, { on := 7, ground := Ground.phase }, { on := 8, ground := Ground.phase }, { on := 9, ground := Ground.phase }, { on := 10, ground := Ground.phase }, { on := 11, ground := Ground.phase }, { on := 12, ground := Ground.phase }, { on := 13, ground := Ground.phase }, { on := 14, ground := Ground.phase }, { on := 15, ground := Ground.phase }, { on := 16, ground := Ground.phase }, { on := 17, ground := Ground.phase }, { on := 18, ground := Ground.phase }, { on := 19, ground := Ground.phase }, { on := 20, ground := Ground.phase }, { on := 21, ground := Ground.phase }], guard := none }) (v := ?vvf21) rfl (by kernel_rfl) (by kernel_rfl) (by kernel_rfl) (fun _ _ _ h => h) (Or.inl ⟨by rfl, ?hyf21⟩) A ?restf21
        case hyf21 => (intro w hSw; have c4 := hSw.mem.b4.cell; have c5 := hSw.mem.b5.cell;go_simp <;> with_reducible rfl)
        try simp only [Act.put, List.setIfInBounds_toArray, List.set_cons_zero, List.set_cons_succ]
        refine wpAnyH_done (by kernel_rfl) ?_ _
        all_goals
          have HA := Lib.hid A
          clear A
          go_wp2_with fail
          go_ret
          exact ⟨rfl, HA.out.bel⟩
  · have hX1 : decide (X.code = 0) = false := decide_eq_false hx0
    have hX2 : (X.code == 0) = false := by simpa using hx0
    have HA := Lib.hid A
    clear A hx0
    go_wp2_with fail
    go_ret
    exact ⟨rfl, HA.out.bel⟩

end Go.Proofs.YtdnpaopbicdolaaGreat
