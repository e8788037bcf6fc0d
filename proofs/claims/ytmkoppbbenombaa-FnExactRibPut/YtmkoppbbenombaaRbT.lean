/- RibStale, whole: of the model and of the program. -/
import Derived.Test.YtmkoppbbenombaaRbS
namespace Go.Proofs.Ytmkoppbbenombaa
open Go.RowKit

theorem RoPost.good {r : Ro} {w w' : World} {x : Ending} {v t : Value} (hx : x = .returned (roV v t r.code)) (ho : w'.ownsRow w.heap.size 77 9 v r.rib.length (rcells Hd.cl r.rib)) (ht : w'.ownsRow w.heap.size 35 7 t r.gone.length (rcells Rt.cl r.gone)) (ha : v.ownBlock = none ∨ v.ownBlock ≠ t.ownBlock) (hb : Below w.heap.size w w') : RoPost r w x w' := ⟨v, t, hx, ho, ht, ha, hb⟩
/- the answer's own block, filled at the end -/
theorem fill3 {W cur : World} {q B : Nat} {t : TypeId} {c0 c1 c2 : Value} (N : Blk cur q t #[c0, c1, c2]) (h : Below B W cur) (hq : B ≤ q) (v0 v1 v2 : Value) :
    Blk (((cur.setCell ⟨q, 0, none⟩ v0).setCell ⟨q, 1, none⟩ v1).setCell ⟨q, 2, none⟩ v2) q t #[v0, v1, v2] ∧ Below B W (((cur.setCell ⟨q, 0, none⟩ v0).setCell ⟨q, 1, none⟩ v1).setCell ⟨q, 2, none⟩ v2) := by
  have h2 := ((N.set 0 v0).set 1 v1).set 2 v2
  simp only [List.setIfInBounds_toArray, List.set_cons_zero, List.set_cons_succ] at h2
  exact ⟨h2, ((h.setCell hq _).setCell hq _).setCell hq _⟩
theorem own_far3 {cur : World} {q B n sz : Nat} {t : TypeId} {v : Value} {xs : List Value} (h : cur.ownsRow B t sz v n xs) (hne : v.ownBlock ≠ some q) (v0 v1 v2 : Value) :
    (((cur.setCell ⟨q, 0, none⟩ v0).setCell ⟨q, 1, none⟩ v1).setCell ⟨q, 2, none⟩ v2).ownsRow B t sz v n xs :=
  h.kept (row := some q) (grownSet (grownSet (grownSet (World.grownBy.refl _ _)))) (.inr hne)
theorem apart_nil (v : Value) : v.ownBlock = none ∨ v.ownBlock ≠ (Value.slice none 0 0).ownBlock := by
  cases h : v.ownBlock
  · exact .inl rfl
  · exact .inr (by simp [Value.ownBlock])
theorem staleR_ill {l : List Hd} {p c : Int} (h : faultOf l p = c) (hc : c ≠ 0) : staleR l p = roIll c := by rw [staleR, h, if_neg hc]
theorem staleR_ok {l : List Hd} {p : Int} (h : faultOf l p = 0) : staleR l p = ⟨l.map (stH p), [], 0⟩ := by rw [staleR, if_pos h]
theorem staleR_len (l : List Hd) (p : Int) : (staleR l p).rib.length + (staleR l p).gone.length ≤ 200 := by
  unfold staleR
  have := fault_way l p
  split
  · rename_i h
    rcases this with ⟨_, h2⟩ | ⟨_, _, h2⟩ | ⟨_, _, _, h2⟩ | ⟨_, _, _, h4, _⟩
    · omega
    · omega
    · omega
    · simp; omega
  · simp [roIll]
set_option maxRecDepth 100000 in
set_option maxHeartbeats 4000000 in
theorem specRibStale_any (l : List Hd) (v : Value) (p : Int) (w : World) (h : HdsAt w v l) (hnil : NilOk v) (hn : l.length ≤ 1048576) :
    Calls Try.prog 29 #[v, .int .i64 p] w (RoPost (staleR l p) w) := by
  have X0 := Blk.new w 33 #[.slice none 0 0, .slice none 0 0, .int .i64 0]
  have HB0 : Below w.heap.size w (w.alloc (.cells #[.slice none 0 0, .slice none 0 0, .int .i64 0] 33)) := (Below.refl _ _).alloc (Nat.le_refl _) _
  have HRR := Lib.hid (fun (W' : World) (hb : Below w.heap.size w W') => specRibRight_any l v W' (SlAt.kept h hb) hn)
  have HIn := Lib.hid (fun (h60 : l.length ≤ 60) (W' : World) (hb : Below w.heap.size w W') => specStaleIn_any l v p W' (SlAt.kept h hb) hnil h60)
  have HP := Lib.hid (specPeer_any p)
  have HQ := Lib.hid (fun (c : Int) => specIll6_any c)
  have HW := fault_way l p
  have HS1 := Lib.hid (fun (c : Int) (hc : faultOf l p = c) (h : c ≠ 0) => staleR_ill hc h)
  have HS2 := Lib.hid (fun (hc : faultOf l p = 0) => staleR_ok hc)
  unfold RrPost at HRR
  unfold RowPost at HIn
  unfold roV at HQ
  obtain ⟨a, cap, rfl, _⟩ := h
  rw [List.length_map] at *
  generalize staleR l p = S at *
  generalize ribOk l = R at *
  generalize inR p 1 9 = PP at *
  generalize faultOf l p = c at *
  obtain ⟨n, hnn⟩ : ∃ n, n = l.length := ⟨_, rfl⟩
  rcases HW with ⟨h1, rfl⟩ | ⟨h1, rfl, rfl⟩ | ⟨h1, rfl, rfl, rfl⟩ | ⟨h1, rfl, rfl, h4, rfl⟩
  · have hg : (400 : Int) < (n : Int) := by omega
    have HR := Lib.hid (HS1.out 2 rfl (by omega))
    rw [← hnn] at *
    clear hnn
    go_enter Try.func29, Try.ntmps29
    go_upto_region 1 with fail
    generalize w.alloc (.cells #[.slice none 0 0, .slice none 0 0, .int .i64 0] 33) = w0 at *
    go_wp2_with (go_at_call 70; refine (HQ.out _ _).mono ?_; rintro x w1 ⟨rfl, hb1⟩; have X1 := X0.kept hb1; have hc := X1.cell; have hf := X1.frozen; have HB1 := HB0.trans (hb1.mono HB0.size); clear hb1)
    have HY := Lib.hid (fill3 X1 HB1 (Nat.le_refl _) (.slice none 0 0) (.slice none 0 0) (.int .i64 2))
    generalize (((w1.setCell ⟨w.heap.size, 0, none⟩ (.slice none 0 0)).setCell ⟨w.heap.size, 1, none⟩ (.slice none 0 0)).setCell ⟨w.heap.size, 2, none⟩ (.int .i64 2)) = w2 at *
    have hc2 := HY.out.1.cell
    refine bodyPost_ret (v := roV (.slice none 0 0) (.slice none 0 0) 2) (by simp [results, Try.results29, go_sem, roV, hc2]) rfl ?_
    exact RoPost.ill HR.out rfl HY.out.2
  · have hg : ¬ (400 : Int) < (n : Int) := by omega
    have HR := Lib.hid (HS1.out 1 rfl (by omega))
    rw [← hnn] at *
    clear hnn
    go_enter Try.func29, Try.ntmps29
    go_upto_region 1 with fail
    generalize w.alloc (.cells #[.slice none 0 0, .slice none 0 0, .int .i64 0] 33) = w0 at *
    go_wp2_with (first | (go_at_call 16; refine (HRR.out _ HB0).mono ?_; rintro x w3 ⟨rfl, hb3⟩; have X3 := X0.kept hb3; have HB3 := HB0.trans (hb3.mono HB0.size); clear hb3) | (go_at_call 70; refine (HQ.out _ _).mono ?_; rintro x w1 ⟨rfl, hb1⟩; have X1 := X3.kept hb1; have hc := X1.cell; have hf := X1.frozen; have HB1 := HB3.trans (hb1.mono HB3.size); clear hb1))
    have HY := Lib.hid (fill3 X1 HB1 (Nat.le_refl _) (.slice none 0 0) (.slice none 0 0) (.int .i64 1))
    generalize (((w1.setCell ⟨w.heap.size, 0, none⟩ (.slice none 0 0)).setCell ⟨w.heap.size, 1, none⟩ (.slice none 0 0)).setCell ⟨w.heap.size, 2, none⟩ (.int .i64 1)) = w2 at *
    have hc2 := HY.out.1.cell
    refine bodyPost_ret (v := roV (.slice none 0 0) (.slice none 0 0) 1) (by simp [results, Try.results29, go_sem, roV, hc2]) rfl ?_
    exact RoPost.ill HR.out rfl HY.out.2
  · have hg : ¬ (400 : Int) < (n : Int) := by omega
    have HR := Lib.hid (HS1.out 1 rfl (by omega))
    rw [← hnn] at *
    clear hnn
    go_enter Try.func29, Try.ntmps29
    go_upto_region 1 with fail
    generalize w.alloc (.cells #[.slice none 0 0, .slice none 0 0, .int .i64 0] 33) = w0 at *
    go_wp2_with (first | (go_at_call 16; refine (HRR.out _ HB0).mono ?_; rintro x w3 ⟨rfl, hb3⟩; have X3 := X0.kept hb3; have HB3 := HB0.trans (hb3.mono HB0.size); clear hb3) | (go_at_call 62; refine (HP.out _).mono ?_; rintro x w4 ⟨rfl, rfl⟩) | (go_at_call 70; refine (HQ.out _ _).mono ?_; rintro x w1 ⟨rfl, hb1⟩; have X1 := X3.kept hb1; have hc := X1.cell; have hf := X1.frozen; have HB1 := HB3.trans (hb1.mono HB3.size); clear hb1))
    have HY := Lib.hid (fill3 X1 HB1 (Nat.le_refl _) (.slice none 0 0) (.slice none 0 0) (.int .i64 1))
    generalize (((w1.setCell ⟨w.heap.size, 0, none⟩ (.slice none 0 0)).setCell ⟨w.heap.size, 1, none⟩ (.slice none 0 0)).setCell ⟨w.heap.size, 2, none⟩ (.int .i64 1)) = w2 at *
    have hc2 := HY.out.1.cell
    refine bodyPost_ret (v := roV (.slice none 0 0) (.slice none 0 0) 1) (by simp [results, Try.results29, go_sem, roV, hc2]) rfl ?_
    exact RoPost.ill HR.out rfl HY.out.2
  · have hg : ¬ (400 : Int) < (n : Int) := by omega
    have HR := Lib.hid (HS2.out rfl)
    have HI6 := Lib.hid (HIn.out h4)
    rw [← hnn] at *
    generalize l.map (stH p) = D at *
    clear hnn HIn
    go_enter Try.func29, Try.ntmps29
    go_upto_region 1 with fail
    generalize w.alloc (.cells #[.slice none 0 0, .slice none 0 0, .int .i64 0] 33) = w0 at *
    go_wp2_with (first | (go_at_call 16; refine (HRR.out _ HB0).mono ?_; rintro x w3 ⟨rfl, hb3⟩; have X3 := X0.kept hb3; have HB3 := HB0.trans (hb3.mono HB0.size); clear hb3) | (go_at_call 62; refine (HP.out _).mono ?_; rintro x w4 ⟨rfl, rfl⟩))
    refine (HI6.out _ HB3).mono ?_
    rintro x w1 ⟨dv, rfl, ho, hb1⟩
    have X1 := X3.kept hb1
    have hc := X1.cell
    have hf := X1.frozen
    have HB1 := HB3.trans (hb1.mono HB3.size)
    have hne : dv.ownBlock ≠ some w.heap.size := fun e => by have := (ho.lt _ e).1; have := X3.lt; omega
    have HO := Lib.hid (rown_mono (B' := w.heap.size) ho HB3.size)
    obtain ⟨da, dc, rfl⟩ := rown_form ho
    clear hb1 ho
    go_wp2_with fail
    have HY := Lib.hid (fill3 X1 HB1 (Nat.le_refl _) (.slice da D.length dc) (.slice none 0 0) (.int .i64 0))
    have HO2 := Lib.hid (own_far3 HO.out hne (.slice da D.length dc) (.slice none 0 0) (.int .i64 0))
    generalize (((w1.setCell ⟨w.heap.size, 0, none⟩ (.slice da D.length dc)).setCell ⟨w.heap.size, 1, none⟩ (.slice none 0 0)).setCell ⟨w.heap.size, 2, none⟩ (.int .i64 0)) = w2 at *
    have hc2 := HY.out.1.cell
    refine bodyPost_ret (v := roV (.slice da D.length dc) (.slice none 0 0) 0) (by simp [results, Try.results29, go_sem, roV, hc2]) rfl ?_
    exact RoPost.good (by rw [HR.out]) (by rw [HR.out]; exact HO2.out) (by rw [HR.out]; exact World.ownsRow_nil _ _ _ _) (apart_nil _) HY.out.2
theorem blk_not_own1 {cur : World} {b B n sz : Nat} {t t' : TypeId} {cs : Array Value} {v : Value} {xs : List Value} (h : Blk cur b t cs) (ho : cur.ownsRow B t' sz v n xs) (hne : t ≠ t') : some b ≠ v.ownBlock := by
  rcases ho.2 with ⟨rfl, _⟩ | ⟨g, cap, cu, rfl, _, hg, _⟩
  · simp [Value.ownBlock]
  · intro e
    simp [Value.ownBlock] at e
    subst e
    unfold Blk at h
    rw [h] at hg
    simp at hg
    exact hne hg.2
/- a copy's flag was set: what stays -/
theorem st_set {W W7 : World} {q : Nat} {c0 c1 c2 c3 c4 c5 c6 c7 c8 : Value} {rs : Array Value} {v : Value} {n : Nat} {xs : List Value} (XA : Blk W7 q 77 #[c0, c1, c2, c3, c4, c5, c6, c7, c8]) (hne : W.heap.size ≠ q) (hB : W.heap.size ≤ q) (XR : Blk W7 W.heap.size 33 rs) (BA : Below W.heap.size W W7)
    (OA : W7.ownsRow W.heap.size 77 9 v n xs) (hv : v.ownBlock ≠ some q) (u : Bool) :
    Blk (W7.setCell ⟨q, 1, none⟩ (.bool u)) q 77 #[c0, .bool u, c2, c3, c4, c5, c6, c7, c8] ∧ Blk (W7.setCell ⟨q, 1, none⟩ (.bool u)) W.heap.size 33 rs ∧ Below W.heap.size W (W7.setCell ⟨q, 1, none⟩ (.bool u)) ∧ (W7.setCell ⟨q, 1, none⟩ (.bool u)).ownsRow W.heap.size 77 9 v n xs := by
  refine ⟨?_, XR.far hne, BA.setCell hB _, OA.kept (row := some q) (grownSet (World.grownBy.refl _ _)) (.inr hv)⟩
  have := XA.set 1 (.bool u)
  simp only [List.setIfInBounds_toArray, List.set_cons_zero, List.set_cons_succ] at this
  exact this
theorem st_app {W W8 w5 : World} {o : Obj} {rs : Array Value} {v : Value} {n n' : Nat} {xs ys : List Value} {a' : Option Addr} {c' : Nat} (XR : Blk W8 W.heap.size 33 rs) (BA : Below W.heap.size W W8) (OA : W8.ownsRow W.heap.size 77 9 v n xs)
    (ho : w5.ownsRow W.heap.size 77 9 (.slice a' n' c') n' ys) (hg : (W8.alloc o).grownBy w5 v.ownBlock) :
    (Value.slice a' n' c').ownBlock ≠ some W.heap.size ∧ Blk w5 W.heap.size 33 rs ∧ Below W.heap.size W w5 := by
  have h5 : Blk w5 W.heap.size 33 rs := (XR.alloc o).grown hg (blk_not_own1 (XR.alloc o) (OA.alloc o) (by decide))
  refine ⟨fun e => blk_not_own1 h5 ho (by decide) e.symm, h5, app_below BA BA.size OA hg⟩
theorem staleL_succ (p : Int) (l : List Hd) (i : Nat) (hi : i < l.length) : (l.take (i + 1)).map (stH p) = (l.take i).map (stH p) ++ [stH p l[i]] := by
  rw [List.take_succ_eq_append_getElem hi, List.map_append]; rfl
set_option maxRecDepth 100000 in
set_option maxHeartbeats 4000000 in
theorem implRibStale_any (l : List Hd) (v : Value) (p : Int) (w : World) (h : HdsAt w v l) (hnb : l.length ≤ 1048576) :
    Calls Try.prog 30 #[v, .int .i64 p] w (RoPost (staleR l p) w) := by
  have X0 := Blk.new w 33 #[.slice none 0 0, .slice none 0 0, .int .i64 0]
  have HB0 : Below w.heap.size w (w.alloc (.cells #[.slice none 0 0, .slice none 0 0, .int .i64 0] 33)) := (Below.refl _ _).alloc (Nat.le_refl _) _
  have HF := Lib.hid (fun (W' : World) (hb : Below w.heap.size w W') => implFault_any l v p W' (SlAt.kept h hb) hnb)
  have HW := fault_way l p
  have HS1 := Lib.hid (fun (c : Int) (hc : faultOf l p = c) (h : c ≠ 0) => staleR_ill hc h)
  have HS2 := Lib.hid (fun (hc : faultOf l p = 0) => staleR_ok hc)
  have HZ : Hid (l.map (stH p) = (l.take l.length).map (stH p)) := Lib.hid (by rw [List.take_length])
  have HSc := Lib.hid (fun i hi => staleL_succ p l i hi)
  have HLn := Lib.hid (fun (i : Nat) (hi : i ≤ l.length) => (show ((l.take i).map (stH p)).length = i by simp [hi]))
  obtain ⟨a, cap, rfl, h⟩ := h
  rw [List.length_map] at *
  have HH := Lib.hid h
  clear h
  generalize l.map (stH p) = D at *
  generalize staleR l p = S at *
  generalize ribOk l = R at *
  generalize inR p 1 9 = PP at *
  generalize faultOf l p = c at *
  obtain ⟨n, hnn⟩ : ∃ n, n = l.length := ⟨_, rfl⟩
  by_cases hc0 : c = 0
  · subst hc0
    have h4 : l.length ≤ 60 := by
      rcases HW with ⟨h1, h⟩ | ⟨h1, h2, h⟩ | ⟨h1, h2, h3, h⟩ | ⟨h1, h2, h3, h4, h⟩
      · cases h
      · cases h
      · cases h
      · exact h4
    have HR := Lib.hid (HS2.out rfl)
    clear HW HS1 HS2
    have HN := Lib.hid hnn
    rw [← hnn] at h4 hnb HF HZ ⊢
    clear hnn
    go_enter Try.func30, Try.ntmps30
    go_upto_region 1 with fail
    generalize w.alloc (.cells #[.slice none 0 0, .slice none 0 0, .int .i64 0] 33) = w0 at *
    go_wp2_with fail
    refine (HF.out _ HB0).mono ?_
    rintro x w1 ⟨rfl, hb1⟩
    have HX1 := Lib.hid (X0.kept hb1)
    have HB1 := Lib.hid (HB0.trans (hb1.mono HB0.size))
    clear hb1
    go_wp2_with fail
    go_loopw [18, 6, 8] (fun u y _ wr => ∃ i : Nat, i ≤ n ∧ u = .int .i64 (i : Int) ∧ Hid (wr.ownsRow w.heap.size 77 9 y ((l.take i).map (stH p)).length (rcells Hd.cl ((l.take i).map (stH p)))) ∧ Hid (y.ownBlock ≠ some w.heap.size) ∧ Hid (Blk wr w.heap.size 33 #[.slice none 0 0, .slice none 0 0, .int .i64 0]) ∧ Hid (Below w.heap.size w wr)) (fun u _ _ _ => n - (intOf u).toNat)
    case atStart => exact ⟨0, Nat.zero_le _, rfl, Lib.hid (World.ownsRow_nil _ _ _ _), Lib.hid (by simp [Value.ownBlock]), HX1, HB1⟩
    case round =>
      obtain ⟨i, hi, rfl, HO, HNE, HX, HB⟩ := hrel
      by_cases hlt : i < n
      · have hir : i < l.length := by rw [← HN.out]; exact hlt
        have hne : l.map Hd.cl ≠ [] := fun e => by
          have := congrArg List.length e
          rw [List.length_map, ← HN.out] at this
          simp at this; omega
        obtain ⟨b, off, ha, hb, HE⟩ := HH.out hne
        subst ha
        have hl1 : (i : Int) < n := by omega
        obtain ⟨p0, p1, p2, p3, p4, p5, p6, p7, p8⟩ := (elemsB HE HB.out hb).hd i hir
        have HS := Lib.hid (HSc.out i hir)
        have hl60 : ((l.take i).map (stH p)).length ≤ 60 := by rw [HLn.out i (by have := HN.out; omega)]; omega
        have HXA := (Blk.new wr 77 (l[i]).ar)
        have HOA := HO.out.alloc (.cells (l[i]).ar 77)
        have HXR := HX.out.alloc (.cells (l[i]).ar 77)
        have HBA := HB.out.alloc HB.out.size (.cells (l[i]).ar 77)
        have hszA := HB.out.size
        have hqne : w.heap.size ≠ wr.heap.size := Nat.ne_of_lt HX.out.lt
        have hBq : w.heap.size ≤ wr.heap.size := HB.out.size
        have hXq : w.heap.size ≠ wr.heap.size := Nat.ne_of_lt HX.out.lt
        have hane0 := fun k (hk : _ = some k) => Nat.ne_of_lt (HO.out.lt k hk).2
        unfold Hd.ar at HXA HOA HXR HBA
        clear HE HO HX HB hszA hqne
        generalize l[i] = x at *
        generalize (l.take i).map (stH p) = pre at HS hl60 HOA
        obtain ⟨ya, yc, rfl⟩ := rown_form HOA
        have hane : (Value.slice ya pre.length yc).ownBlock ≠ some wr.heap.size := fun e => hane0 _ e rfl
        clear hane0
        go_upto_region 8 with fail
        generalize (wr.alloc (.cells #[.int .i64 x.p, .bool x.s, .int .i64 x.r.kind, .int .i64 x.r.vni, .int .i64 x.r.mac, .int .i64 x.r.ip, .int .i64 x.r.org, .int .i64 x.r.seq, .bool x.r.st] 77)) = W7 at *
        generalize wr.heap.size = q at *
        clear p0 p1 p2 p3 p4 p5 p6 p7 p8
        have HST := Lib.hid (fun (u : Bool) (hu : (stH p x).s = u) => st_set HXA hXq hBq HXR HBA HOA hane u)
        have hc := HXA.cell
        have hf := HXA.frozen
        have HXS : Hid (∀ u, (stH p x).s = u → stH p x = ⟨x.p, u, x.r⟩) := Lib.hid (fun u hu => by subst hu; rfl)
        obtain ⟨xp, xs, xr⟩ := x
        cases xs
        all_goals
          dsimp only at *
          clear HXA HXR HBA HOA
          go_upto_region 9 with fail
        · obtain ⟨HXA, HXR, HBA, HOA⟩ := HST.out (xp == p) (by simp [stH])
          replace HXS := Lib.hid (HXS.out (xp == p) (by simp [stH]))
          clear hc hf HST
          generalize (W7.setCell ⟨q, 1, none⟩ (.bool (xp == p))) = W8 at *
          have hc := HXA.cell
          have hszA := HBA.size
          go_wp2_with (at_builtin; refine wpList_append_row Hd.cl_len Hd.cl_one1 tyH _ rfl _ _ rfl w.heap.size _ pre (⟨xp, xp == p, xr⟩ : Hd) rfl (HOA.alloc _) ⟨W8.heap.size, 0, none⟩ rfl (lit_cells W8 _ _ (⟨xp, xp == p, xr⟩ : Hd) rfl) (by omega) (by simp; omega) ?_; intro a' c' n' w5 HN5 hown5 hg5; have R5 := Lib.hid (st_app HXR HBA HOA hown5 hg5); clear hg5)
          go_roundw
          case rel => exact ⟨i + 1, by omega, by simp, by rw [HS.out, HXS.out, ← HN5.out]; exact Lib.hid hown5, Lib.hid R5.out.1, Lib.hid R5.out.2.1, Lib.hid R5.out.2.2⟩
          case measure => simp [intOf]; omega
        · obtain ⟨HXA, HXR, HBA, HOA⟩ := HST.out true (by simp [stH])
          replace HXS := Lib.hid (HXS.out true (by simp [stH]))
          clear hc hf HST
          generalize (W7.setCell ⟨q, 1, none⟩ (.bool true)) = W8 at *
          have hc := HXA.cell
          have hszA := HBA.size
          go_wp2_with (at_builtin; refine wpList_append_row Hd.cl_len Hd.cl_one1 tyH _ rfl _ _ rfl w.heap.size _ pre (⟨xp, true, xr⟩ : Hd) rfl (HOA.alloc _) ⟨W8.heap.size, 0, none⟩ rfl (lit_cells W8 _ _ (⟨xp, true, xr⟩ : Hd) rfl) (by omega) (by simp; omega) ?_; intro a' c' n' w5 HN5 hown5 hg5; have R5 := Lib.hid (st_app HXR HBA HOA hown5 hg5); clear hg5)
          go_roundw
          case rel => exact ⟨i + 1, by omega, by simp, by rw [HS.out, HXS.out, ← HN5.out]; exact Lib.hid hown5, Lib.hid R5.out.1, Lib.hid R5.out.2.1, Lib.hid R5.out.2.2⟩
          case measure => simp [intOf]; omega
      · have hin : i = n := by omega
        subst hin
        have hc := HX.out.cell
        have hf := HX.out.frozen
        rw [← HZ.out] at HO
        obtain ⟨da, dc, rfl⟩ := rown_form HO.out
        go_wp2_with fail
        have HY := Lib.hid (fill3 HX.out HB.out (Nat.le_refl _) (.slice da D.length dc) (.slice none 0 0) (.int .i64 0))
        have HO2 := Lib.hid (own_far3 HO.out HNE.out (.slice da D.length dc) (.slice none 0 0) (.int .i64 0))
        generalize (((wr.setCell ⟨w.heap.size, 0, none⟩ (.slice da D.length dc)).setCell ⟨w.heap.size, 1, none⟩ (.slice none 0 0)).setCell ⟨w.heap.size, 2, none⟩ (.int .i64 0)) = w2 at *
        have hc2 := HY.out.1.cell
        refine bodyPost_ret (v := roV (.slice da D.length dc) (.slice none 0 0) 0) (by simp [results, Try.results30, go_sem, roV, hc2]) rfl ?_
        exact RoPost.good (by rw [HR.out]) (by rw [HR.out]; exact HO2.out) (by rw [HR.out]; exact World.ownsRow_nil _ _ _ _) (apart_nil _) HY.out.2
  · have HR := Lib.hid (HS1.out c rfl hc0)
    rw [← hnn] at hnb HF ⊢
    clear hnn HW HS1 HS2
    go_enter Try.func30, Try.ntmps30
    go_upto_region 1 with fail
    generalize w.alloc (.cells #[.slice none 0 0, .slice none 0 0, .int .i64 0] 33) = w0 at *
    go_wp2_with fail
    refine (HF.out _ HB0).mono ?_
    rintro x w1 ⟨rfl, hb1⟩
    have X1 := X0.kept hb1
    have HB1 := HB0.trans (hb1.mono HB0.size)
    have hc := X1.cell
    have hf := X1.frozen
    clear hb1
    go_wp2_with fail
    have HY := Lib.hid (fill3 X1 HB1 (Nat.le_refl _) (.slice none 0 0) (.slice none 0 0) (.int .i64 c))
    generalize (((w1.setCell ⟨w.heap.size, 0, none⟩ (.slice none 0 0)).setCell ⟨w.heap.size, 1, none⟩ (.slice none 0 0)).setCell ⟨w.heap.size, 2, none⟩ (.int .i64 c)) = w2 at *
    have hc2 := HY.out.1.cell
    refine bodyPost_ret (v := roV (.slice none 0 0) (.slice none 0 0) c) (by simp [results, Try.results30, go_sem, roV, hc2]) rfl ?_
    exact RoPost.ill HR.out rfl HY.out.2
end Go.Proofs.Ytmkoppbbenombaa
