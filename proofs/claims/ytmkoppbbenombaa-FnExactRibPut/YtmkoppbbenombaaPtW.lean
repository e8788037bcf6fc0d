/- RibPut of the program. -/
import Derived.Test.YtmkoppbbenombaaPtR
namespace Go.Proofs.Ytmkoppbbenombaa
open Go.RowKit
abbrev o462cb_0 : Oper := { dst := some 23, op := Op.move (Operand.tmp 8), type := 88, pos := "l06_rib.go:146", after := #[], guard := none }
abbrev o462cb_1 : Oper := { dst := some 24, op := Op.load 77 (Operand.tmp 9), type := 77, pos := "l06_rib.go:146", after := #[], guard := none }
abbrev o462cb_2 : Oper := { dst := some 26, op := Op.load 77 (Operand.tmp 9), type := 77, pos := "l06_rib.go:146", after := #[], guard := none }
abbrev o462cb_3 : Oper := { dst := some 25, op := Op.call { callee := Callee.value (Operand.func 74), args := #[Operand.tmp 24], argTypes := #[77] }, type := 91, pos := "l06_rib.go:146", after := #[{ on := 1, ground := Ground.data }], guard := none }
abbrev o462cb_4 : Oper := { dst := none, op := Op.mapUpdate 88 (Operand.tmp 23) (Operand.tmp 25) (Operand.tmp 26), type := 0, pos := "l06_rib.go:146", after := #[{ on := 0, ground := Ground.data }, { on := 2, ground := Ground.data }, { on := 3, ground := Ground.data }, { on := 2, ground := Ground.chain }, { on := 0, ground := Ground.phase }, { on := 1, ground := Ground.phase }, { on := 2, ground := Ground.phase }, { on := 3, ground := Ground.phase }], guard := none }

theorem MapS.len {W : World} {M clock : Nat} {E : List (Hd × Nat)} (h : MapS W M E clock) (ty : TypeId) : (Builtin.len_ #[88] ty #[.map (some M)]).run Try.prog W = .ok (.int .i64 (E.length : Int)) W := by
  simp [Builtin.len_, run_underlying mapS_type, MapKept.run_getObj_map h.obj, goInt, Result.andThen, mkE]
theorem zip_some {l : List Hd} {z : Hd} (h : z ∈ l) : ∃ b, (z, b) ∈ l.zipIdx := by
  obtain ⟨k, hk, e⟩ := List.getElem_of_mem h
  exact ⟨k, List.mk_mem_zipIdx_iff_getElem?.2 (by rw [List.getElem?_eq_getElem hk, e])⟩
theorem put_none {x : Hd} {l : List Hd} (hl : l.Pairwise LtH) (n : Nat) (h : seekS x l.zipIdx 0 = none) :
    (¬ ∃ y ∈ l, same x y) ∧ ∀ z, z ∈ insL LtH x l ↔ ∃ b, (z, b) ∈ l.zipIdx ++ [(x, n)] := by
  have hno : ∀ y ∈ l, ¬ same x y := fun y hy => by
    obtain ⟨b, hb⟩ := zip_some hy
    exact seekS_none h _ hb
  refine ⟨fun ⟨y, hy, hs⟩ => hno y hy hs, fun z => ?_⟩
  rw [insL_mem ordH x l hl z]
  constructor
  · rintro (rfl | ⟨hz, _⟩)
    · exact ⟨n, by simp⟩
    · obtain ⟨b, hb⟩ := zip_some hz
      exact ⟨b, List.mem_append_left _ hb⟩
  · rintro ⟨b, hb⟩
    rcases List.mem_append.1 hb with hb | hb
    · exact .inr ⟨zip_mem hb, hno z (zip_mem hb)⟩
    · simp at hb
      exact .inl hb.1
theorem put_some {x : Hd} {l : List Hd} {i : Nat} {v : Value} (hl : l.Pairwise LtH) (hd : l.zipIdx.Pairwise fun a b => ¬ same a.1 b.1) (h : seekS x l.zipIdx 0 = some (i, v)) :
    ∃ y j, v = y.val ∧ l.zipIdx[i]? = some (y, j) ∧ same x y ∧ (∃ y ∈ l, same x y) ∧ ∀ z, z ∈ insL LtH x l ↔ ∃ b, (z, b) ∈ l.zipIdx.set i (x, j) := by
  obtain ⟨m, q, e1, hm, hsm, hv⟩ := seekS_some h
  rw [Nat.zero_add] at e1
  subst e1
  obtain ⟨hml, hme⟩ := List.getElem?_eq_some_iff.1 hm
  have hdp := List.pairwise_iff_getElem.1 hd
  refine ⟨q.1, q.2, hv, hm, hsm, ⟨q.1, zip_mem (List.mem_of_getElem? hm), hsm⟩, fun z => ?_⟩
  rw [insL_mem ordH x l hl z]
  constructor
  · rintro (rfl | ⟨hz, hns⟩)
    · exact ⟨q.2, List.mem_iff_getElem?.2 ⟨i, by rw [List.getElem?_set_self hml]⟩⟩
    · obtain ⟨b, hb⟩ := zip_some hz
      obtain ⟨k, e⟩ := List.mem_iff_getElem?.1 hb
      refine ⟨b, List.mem_iff_getElem?.2 ⟨k, ?_⟩⟩
      rw [List.getElem?_set_ne]
      · exact e
      · intro ek
        subst ek
        rw [hm] at e
        injection e with e
        apply hns
        rw [e] at hsm
        exact hsm
  · rintro ⟨b, hb⟩
    obtain ⟨k, e⟩ := List.mem_iff_getElem?.1 hb
    by_cases ek : i = k
    · subst ek
      rw [List.getElem?_set_self hml] at e
      injection e with e
      injection e with e1 e2
      exact .inl e1.symm
    · rw [List.getElem?_set_ne ek] at e
      obtain ⟨hkl, hke⟩ := List.getElem?_eq_some_iff.1 e
      refine .inr ⟨zip_mem (List.mem_of_getElem? e), fun hs => ?_⟩
      have hqz : same q.1 z := same_trans (same_symm hsm) hs
      rcases Nat.lt_or_gt_of_ne ek with hlt | hlt
      · have := hdp i k hml hkl hlt
        rw [hke, hme] at this
        exact this hqz
      · have := hdp k i hkl hml hlt
        rw [hke, hme] at this
        exact this (same_symm hqz)
set_option maxRecDepth 100000 in
set_option maxHeartbeats 8000000 in
theorem implRibPut_any (l : List Hd) (v : Value) (p : Int) (r : Rt) (w : World) (h : HdsAt w v l) (hnb : l.length ≤ 1048576) :
    Calls Try.prog 22 #[v, .int .i64 p, r.val] w (RoPost (putR l p r) w) := by
  have Y0 := Blk.new w 35 #[.int .i64 r.kind, .int .i64 r.vni, .int .i64 r.mac, .int .i64 r.ip, .int .i64 r.org, .int .i64 r.seq, .bool r.st]
  have X0 := Blk.new (w.alloc (.cells #[.int .i64 r.kind, .int .i64 r.vni, .int .i64 r.mac, .int .i64 r.ip, .int .i64 r.org, .int .i64 r.seq, .bool r.st] 35)) 33 #[.slice none 0 0, .slice none 0 0, .int .i64 0]
  rw [World.size_alloc] at X0
  replace Y0 := Y0.alloc (.cells #[.slice none 0 0, .slice none 0 0, .int .i64 0] 33)
  have HB0 : Below w.heap.size w ((w.alloc (.cells #[.int .i64 r.kind, .int .i64 r.vni, .int .i64 r.mac, .int .i64 r.ip, .int .i64 r.org, .int .i64 r.seq, .bool r.st] 35)).alloc (.cells #[.slice none 0 0, .slice none 0 0, .int .i64 0] 33)) := ((Below.refl _ _).alloc (Nat.le_refl _) _).alloc (by simp) _
  have HF := Lib.hid (fun (W' : World) (hb : Below w.heap.size w W') => implRouteFault_any l v p r W' (SlAt.kept h hb) hnb)
  have HS1 := Lib.hid (fun (c : Int) (hc : faultR l p r = c) (h : c ≠ 0) => putR_ill hc h)
  unfold Rt.val rtV at *
  by_cases hc0 : faultR l p r = 0
  · obtain ⟨hf0, _⟩ := faultR_zero hc0
    obtain ⟨hok, h4⟩ := fault_zero hf0
    have hpw := ok_pw hok
    have HBs := Lib.hid (fun (W' : World) (hb : Below w.heap.size w W') => bySlots_any l v W' (SlAt.kept h hb) h4 hpw)
    have HR0 : Hid (putR l p r = putH ⟨p, false, r⟩ l) := Lib.hid (by rw [putR, if_pos hc0])
    have HSl := Lib.hid (slotOf_any ⟨p, false, r⟩)
    have HIo := Lib.hid (fun (M ck : Nat) (E : List (Hd × Nat)) (W' : World) (hM : MapS W' M E ck) (hE : E.length ≤ 1000) (hL : ∀ z, z ∈ insL LtH (⟨p, false, r⟩ : Hd) l ↔ ∃ b, (z, b) ∈ E) => inOrder_any M ck E (insL LtH ⟨p, false, r⟩ l) W' hM hE (insL_pw ordH _ l hpw) hL)
    have HPn := Lib.hid (fun (n : Nat) h => put_none (x := ⟨p, false, r⟩) hpw n h)
    have HPs := Lib.hid (fun (i : Nat) (u : Value) hd h => put_some (x := ⟨p, false, r⟩) (i := i) (v := u) hpw hd h)
    have HQ1 := Lib.hid (fun h h2 => putH_full (x := ⟨p, false, r⟩) (l := l) h h2)
    have HQ2 := Lib.hid (fun h => putH_new (x := ⟨p, false, r⟩) (l := l) h)
    have HQ3 := Lib.hid (fun h => putH_hit (x := ⟨p, false, r⟩) (l := l) h)
    have HZl : Hid (l.zipIdx.length = l.length) := Lib.hid (List.length_zipIdx)
    rw [hc0] at HF
    unfold BsPost at HBs
    unfold RowPost at HIo
    unfold Hd.val slotV at HSl
    obtain ⟨a, cap, rfl, h⟩ := h
    rw [List.length_map] at *
    clear h HS1 hok hf0 hc0 hpw
    generalize putH ⟨p, false, r⟩ l = S at *
    generalize insL LtH ⟨p, false, r⟩ l = K at *
    go_enter Try.func22, Try.ntmps22
    go_upto_region 1 with fail
    generalize (w.alloc (.cells #[.int .i64 r.kind, .int .i64 r.vni, .int .i64 r.mac, .int .i64 r.ip, .int .i64 r.org, .int .i64 r.seq, .bool r.st] 35)).alloc (.cells #[.slice none 0 0, .slice none 0 0, .int .i64 0] 33) = w0 at *
    have hcy := Y0.cell
    go_wp2_with fail
    refine (HF.out _ HB0).mono ?_
    rintro x w1 ⟨rfl, hb1⟩
    have X1 := X0.kept hb1
    have Y1 := Y0.kept hb1
    have HB1 := HB0.trans (hb1.mono HB0.size)
    clear hb1 hcy X0 Y0 HB0 HF
    go_wp2_with fail
    refine (HBs.out _ HB1).mono ?_
    rintro x w2 ⟨M, rfl, hMge, M2, hb2⟩
    have X2 := X1.kept hb2
    have Y2 := Y1.kept hb2
    have HB2 := HB1.trans (hb2.mono HB1.size)
    have hcy := Y2.cell
    have hwM : w.heap.size ≤ M := Nat.le_trans HB1.size hMge
    have hXM : w.heap.size + 1 ≠ M := fun e => by
      have := X2
      unfold Blk at this
      rw [e, M2.obj] at this
      cases this
    have XE := Blk.new w2 77 #[.int .i64 p, .bool false, .int .i64 r.kind, .int .i64 r.vni, .int .i64 r.mac, .int .i64 r.ip, .int .i64 r.org, .int .i64 r.seq, .bool r.st]
    have X5 := X2.alloc (.cells #[.int .i64 p, .bool false, .int .i64 r.kind, .int .i64 r.vni, .int .i64 r.mac, .int .i64 r.ip, .int .i64 r.org, .int .i64 r.seq, .bool r.st] 77)
    have HB5 := HB2.alloc HB2.size (.cells #[.int .i64 p, .bool false, .int .i64 r.kind, .int .i64 r.vni, .int .i64 r.mac, .int .i64 r.ip, .int .i64 r.org, .int .i64 r.seq, .bool r.st] 77)
    have M5 : MapS (w2.alloc (.cells #[.int .i64 p, .bool false, .int .i64 r.kind, .int .i64 r.vni, .int .i64 r.mac, .int .i64 r.ip, .int .i64 r.org, .int .i64 r.seq, .bool r.st] 77)) M l.zipIdx l.length := M2.kept (Below.heap_alloc _ _ _ M2.lt)
    have hqM : w2.heap.size ≠ M := (Nat.ne_of_lt M2.lt).symm
    clear hb2 hMge M2 X1 Y1 HB1 HBs
    go_upto_region 6 with fail
    generalize (w2.alloc (.cells #[.int .i64 p, .bool false, .int .i64 r.kind, .int .i64 r.vni, .int .i64 r.mac, .int .i64 r.ip, .int .i64 r.org, .int .i64 r.seq, .bool r.st] 77)) = W5 at *
    generalize w2.heap.size = q at *
    clear hcy X2 Y2 HB2
    have S0 := (show Blk W5.drew q _ _ ∧ Blk W5.drew (w.heap.size + 1) _ _ ∧ Below w.heap.size w W5.drew from ⟨XE.drew, X5.drew, HB5.drew⟩)
    have M0 : MapS W5.drew M l.zipIdx l.length := M5.kept rfl
    clear XE X5 HB5 M5
    have HDs := Lib.hid M0.dist
    cases hs : seekS ⟨p, false, r⟩ l.zipIdx 0 with
    | none =>
      obtain ⟨hno, hmem⟩ := HPn.out l.length hs
      have HNo := Lib.hid hno
      have HMm := Lib.hid hmem
      have HSK := Lib.hid hs
      clear hno hmem hs HPn HPs
      go_wp2_with fail
      refine wp_region_held_drew (S := fun W' => Blk W' q 77 #[.int .i64 p, .bool false, .int .i64 r.kind, .int .i64 r.vni, .int .i64 r.mac, .int .i64 r.ip, .int .i64 r.org, .int .i64 r.seq, .bool r.st] ∧ Blk W' (w.heap.size + 1) 33 #[.slice none 0 0, .slice none 0 0, .int .i64 0] ∧ Below w.heap.size w W') (by kernel_rfl) S0 (fun hHeld => ?_)
      clear hHeld
      refine wpAnyH_take (i := 0) (oi := o462cb_0) (v := ?vva1) rfl (by kernel_rfl) (by kernel_rfl) (by kernel_rfl) (fun _ _ _ h => h) (Or.inl ⟨by rfl, ?hya1⟩) S0 ?resta1
      case hya1 => (intro w hSw; go_simp <;> with_reducible rfl)
      try simp only [Act.put, List.setIfInBounds_toArray, List.set_cons_zero, List.set_cons_succ]
      refine wpAnyH_take (i := 1) (oi := o462cb_1) (v := ?vva2) rfl (by kernel_rfl) (by kernel_rfl) (by kernel_rfl) (fun _ _ _ h => h) (Or.inl ⟨by rfl, ?hya2⟩) S0 ?resta2
      case hya2 => (intro w hSw; have hc1 := hSw.1.cell;go_simp <;> with_reducible rfl)
      try simp only [Act.put, List.setIfInBounds_toArray, List.set_cons_zero, List.set_cons_succ]
      refine wpAnyH_take (i := 3) (oi := o462cb_2) (v := ?vva3) rfl (by kernel_rfl) (by kernel_rfl) (by kernel_rfl) (fun _ _ _ h => h) (Or.inl ⟨by rfl, ?hya3⟩) S0 ?resta3
      case hya3 => (intro w hSw; have hc1 := hSw.1.cell;go_simp <;> with_reducible rfl)
      try simp only [Act.put, List.setIfInBounds_toArray, List.set_cons_zero, List.set_cons_succ]
      refine wpAnyH_ready (rs := [2]) (by kernel_rfl) (by simp) ?_
      refine AllReadyH.cons (o := o462cb_3) rfl (fun K hK => ?_) AllReadyH.nil
      go_simp
      refine (HSl.out _).mono ?_
      rintro e w3 ⟨rfl, hb3⟩
      replace S0 := (show Blk w3 _ _ _ ∧ Blk w3 _ _ _ ∧ Below w.heap.size w w3 from ⟨S0.1.kept hb3, S0.2.1.kept hb3, S0.2.2.trans (hb3.mono S0.2.2.size)⟩)
      replace M0 : MapS w3 M l.zipIdx l.length := M0.kept (hb3.block _ M0.lt)
      have hmu := (M0.add HSK.out).1
      have HM1 := Lib.hid (M0.add HSK.out).2
      unfold Hd.val slotV at hmu
      dsimp only at hmu
      clear hb3
      refine hK.out _ _ S0 (fun hHeld => ?_)
      clear hK K hHeld
      try simp only [Act.put, List.setIfInBounds_toArray, List.set_cons_zero, List.set_cons_succ]
      refine wpAnyH_ready (rs := [4]) (by kernel_rfl) (by simp) ?_
      refine AllReadyH.cons (o := o462cb_4) rfl (fun K hK => ?_) AllReadyH.nil
      go_simp
      replace S0 := And.intro (S0.1.setB hqM (.map (mkE (l.zipIdx ++ [((⟨p, false, r⟩ : Hd), l.length)])).toArray (l.length + 1))) (And.intro (S0.2.1.setB hXM (.map (mkE (l.zipIdx ++ [((⟨p, false, r⟩ : Hd), l.length)])).toArray (l.length + 1))) (below_setB S0.2.2 hwM (.map (mkE (l.zipIdx ++ [((⟨p, false, r⟩ : Hd), l.length)])).toArray (l.length + 1))))
      refine hK.out _ _ S0 (fun hHeld => ?_)
      clear hK K hHeld
      try simp only [Act.put, List.setIfInBounds_toArray, List.set_cons_zero, List.set_cons_succ]
      refine wpAnyH_done (by kernel_rfl) ?_ _
      clear hmu M0
      obtain ⟨E, hE⟩ : ∃ E, E = l.zipIdx ++ [((⟨p, false, r⟩ : Hd), l.length)] := ⟨_, rfl⟩
      have HEl : Hid (E.length = l.length + 1) := Lib.hid (by rw [hE, List.length_append, HZl.out]; rfl)
      rw [← hE] at HM1 HMm S0 ⊢
      clear hE
      obtain ⟨W6, hW6⟩ : ∃ X, X = setM w3 M (.map (mkE E).toArray (l.length + 1)) := ⟨_, rfl⟩
      rw [← hW6] at HM1 S0 ⊢
      clear hW6
      have hlen := fun ty => HM1.out.len ty
      rw [HEl.out] at hlen
      have hcO := S0.2.1.cell
      have hfO := S0.2.1.frozen
      by_cases hfull : 60 ≤ l.length
      · have HR := Lib.hid (HR0.out.trans (HQ1.out hfull HNo.out))
        have hfz : (60 : Int) < ((l.length + 1 : Nat) : Int) := by omega
        go_wp2_with fail
        have HY := Lib.hid (fill3 S0.2.1 S0.2.2 (by omega) (.slice none 0 0) (.slice none 0 0) (.int .i64 9))
        generalize (((W6.setCell ⟨w.heap.size + 1, 0, none⟩ (.slice none 0 0)).setCell ⟨w.heap.size + 1, 1, none⟩ (.slice none 0 0)).setCell ⟨w.heap.size + 1, 2, none⟩ (.int .i64 9)) = w9 at *
        have hc9 := HY.out.1.cell
        refine bodyPost_ret (v := roV (.slice none 0 0) (.slice none 0 0) 9) (by simp [results, Try.results22, go_sem, roV, hc9]) rfl ?_
        exact RoPost.ill HR.out rfl HY.out.2
      · have HR := Lib.hid (HR0.out.trans (HQ2.out hfull))
        have hfz : ¬ (60 : Int) < ((l.length + 1 : Nat) : Int) := by omega
        go_wp2_with fail
        refine (HIo.out _ _ _ _ HM1.out (by rw [HEl.out]; omega) HMm.out).mono ?_
        rintro x w7 ⟨dv, rfl, ho, hb7⟩
        have X7 := S0.2.1.kept hb7
        have HB7 := S0.2.2.trans (hb7.mono S0.2.2.size)
        have hne : dv.ownBlock ≠ some (w.heap.size + 1) := fun e => by have := (ho.lt _ e).1; have := S0.2.1.lt; omega
        have HO := Lib.hid (rown_mono (B' := w.heap.size) ho S0.2.2.size)
        obtain ⟨da, dc, rfl⟩ := rown_form ho
        clear ho hb7 hcO hfO hlen S0
        have hcO := X7.cell
        have hfO := X7.frozen
        go_wp2_with fail
        have HO2 := Lib.hid (own_far3 HO.out hne (.slice da K.length dc) (.slice none 0 0) (.int .i64 0))
        have HY := Lib.hid (fill3 X7 HB7 (by omega) (.slice da K.length dc) (.slice none 0 0) (.int .i64 0))
        generalize (((w7.setCell ⟨w.heap.size + 1, 0, none⟩ (.slice da K.length dc)).setCell ⟨w.heap.size + 1, 1, none⟩ (.slice none 0 0)).setCell ⟨w.heap.size + 1, 2, none⟩ (.int .i64 0)) = w9 at *
        have hc9 := HY.out.1.cell
        refine bodyPost_ret (v := roV (.slice da K.length dc) (.slice none 0 0) 0) (by simp [results, Try.results22, go_sem, roV, hc9]) rfl ?_
        rw [HR.out]
        exact RoPost.good (r := ⟨K, [], 0⟩) rfl HO2.out (World.ownsRow_nil _ _ _ _) (apart_nil _) HY.out.2
    | some iv =>
      obtain ⟨i, u⟩ := iv
      obtain ⟨y, j, rfl, hij, hxy, hex, hmem⟩ := HPs.out i u HDs.out hs
      have HR := Lib.hid (HR0.out.trans (HQ3.out hex))
      have HMm := Lib.hid hmem
      have HUp := Lib.hid (fun (W : World) (hM : MapS W M l.zipIdx l.length) => hM.put hs hij hxy)
      clear hmem hs hij hxy hex HPn HPs HQ1 HQ2 HQ3
      go_wp2_with fail
      refine wp_region_held_drew (S := fun W' => Blk W' q 77 #[.int .i64 p, .bool false, .int .i64 r.kind, .int .i64 r.vni, .int .i64 r.mac, .int .i64 r.ip, .int .i64 r.org, .int .i64 r.seq, .bool r.st] ∧ Blk W' (w.heap.size + 1) 33 #[.slice none 0 0, .slice none 0 0, .int .i64 0] ∧ Below w.heap.size w W') (by kernel_rfl) S0 (fun hHeld => ?_)
      clear hHeld
      refine wpAnyH_take (i := 0) (oi := o462cb_0) (v := ?vvb1) rfl (by kernel_rfl) (by kernel_rfl) (by kernel_rfl) (fun _ _ _ h => h) (Or.inl ⟨by rfl, ?hyb1⟩) S0 ?restb1
      case hyb1 => (intro w hSw; go_simp <;> with_reducible rfl)
      try simp only [Act.put, List.setIfInBounds_toArray, List.set_cons_zero, List.set_cons_succ]
      refine wpAnyH_take (i := 1) (oi := o462cb_1) (v := ?vvb2) rfl (by kernel_rfl) (by kernel_rfl) (by kernel_rfl) (fun _ _ _ h => h) (Or.inl ⟨by rfl, ?hyb2⟩) S0 ?restb2
      case hyb2 => (intro w hSw; have hc1 := hSw.1.cell;go_simp <;> with_reducible rfl)
      try simp only [Act.put, List.setIfInBounds_toArray, List.set_cons_zero, List.set_cons_succ]
      refine wpAnyH_take (i := 3) (oi := o462cb_2) (v := ?vvb3) rfl (by kernel_rfl) (by kernel_rfl) (by kernel_rfl) (fun _ _ _ h => h) (Or.inl ⟨by rfl, ?hyb3⟩) S0 ?restb3
      case hyb3 => (intro w hSw; have hc1 := hSw.1.cell;go_simp <;> with_reducible rfl)
      try simp only [Act.put, List.setIfInBounds_toArray, List.set_cons_zero, List.set_cons_succ]
      refine wpAnyH_ready (rs := [2]) (by kernel_rfl) (by simp) ?_
      refine AllReadyH.cons (o := o462cb_3) rfl (fun K hK => ?_) AllReadyH.nil
      go_simp
      refine (HSl.out _).mono ?_
      rintro e w3 ⟨rfl, hb3⟩
      replace S0 := (show Blk w3 _ _ _ ∧ Blk w3 _ _ _ ∧ Below w.heap.size w w3 from ⟨S0.1.kept hb3, S0.2.1.kept hb3, S0.2.2.trans (hb3.mono S0.2.2.size)⟩)
      replace M0 : MapS w3 M l.zipIdx l.length := M0.kept (hb3.block _ M0.lt)
      have hmu := (HUp.out _ M0).1
      have HM1 := Lib.hid (HUp.out _ M0).2
      unfold Hd.val slotV at hmu
      dsimp only at hmu
      clear hb3
      refine hK.out _ _ S0 (fun hHeld => ?_)
      clear hK K hHeld
      try simp only [Act.put, List.setIfInBounds_toArray, List.set_cons_zero, List.set_cons_succ]
      refine wpAnyH_ready (rs := [4]) (by kernel_rfl) (by simp) ?_
      refine AllReadyH.cons (o := o462cb_4) rfl (fun K hK => ?_) AllReadyH.nil
      go_simp
      replace S0 := And.intro (S0.1.setB hqM (.map (mkE (l.zipIdx.set i ((⟨p, false, r⟩ : Hd), j))).toArray l.length)) (And.intro (S0.2.1.setB hXM (.map (mkE (l.zipIdx.set i ((⟨p, false, r⟩ : Hd), j))).toArray l.length)) (below_setB S0.2.2 hwM (.map (mkE (l.zipIdx.set i ((⟨p, false, r⟩ : Hd), j))).toArray l.length)))
      refine hK.out _ _ S0 (fun hHeld => ?_)
      clear hK K hHeld
      try simp only [Act.put, List.setIfInBounds_toArray, List.set_cons_zero, List.set_cons_succ]
      refine wpAnyH_done (by kernel_rfl) ?_ _
      clear hmu M0 HUp
      obtain ⟨E, hE⟩ : ∃ E, E = l.zipIdx.set i ((⟨p, false, r⟩ : Hd), j) := ⟨_, rfl⟩
      have HEl : Hid (E.length = l.length) := Lib.hid (by rw [hE, List.length_set, HZl.out])
      rw [← hE] at HM1 HMm S0 ⊢
      clear hE
      obtain ⟨W6, hW6⟩ : ∃ X, X = setM w3 M (.map (mkE E).toArray l.length) := ⟨_, rfl⟩
      rw [← hW6] at HM1 S0 ⊢
      clear hW6
      have hlen := fun ty => HM1.out.len ty
      rw [HEl.out] at hlen
      have hcO := S0.2.1.cell
      have hfO := S0.2.1.frozen
      have hfz : ¬ (60 : Int) < (l.length : Int) := by omega
      · go_wp2_with fail
        refine (HIo.out _ _ _ _ HM1.out (by rw [HEl.out]; omega) HMm.out).mono ?_
        rintro x w7 ⟨dv, rfl, ho, hb7⟩
        have X7 := S0.2.1.kept hb7
        have HB7 := S0.2.2.trans (hb7.mono S0.2.2.size)
        have hne : dv.ownBlock ≠ some (w.heap.size + 1) := fun e => by have := (ho.lt _ e).1; have := S0.2.1.lt; omega
        have HO := Lib.hid (rown_mono (B' := w.heap.size) ho S0.2.2.size)
        obtain ⟨da, dc, rfl⟩ := rown_form ho
        clear ho hb7 hcO hfO hlen S0
        have hcO := X7.cell
        have hfO := X7.frozen
        go_wp2_with fail
        have HO2 := Lib.hid (own_far3 HO.out hne (.slice da K.length dc) (.slice none 0 0) (.int .i64 0))
        have HY := Lib.hid (fill3 X7 HB7 (by omega) (.slice da K.length dc) (.slice none 0 0) (.int .i64 0))
        generalize (((w7.setCell ⟨w.heap.size + 1, 0, none⟩ (.slice da K.length dc)).setCell ⟨w.heap.size + 1, 1, none⟩ (.slice none 0 0)).setCell ⟨w.heap.size + 1, 2, none⟩ (.int .i64 0)) = w9 at *
        have hc9 := HY.out.1.cell
        refine bodyPost_ret (v := roV (.slice da K.length dc) (.slice none 0 0) 0) (by simp [results, Try.results22, go_sem, roV, hc9]) rfl ?_
        rw [HR.out]
        exact RoPost.good (r := ⟨K, [], 0⟩) rfl HO2.out (World.ownsRow_nil _ _ _ _) (apart_nil _) HY.out.2
  · have HR := Lib.hid (HS1.out _ rfl hc0)
    generalize putR l p r = S at *
    generalize faultR l p r = c at *
    clear HS1
    obtain ⟨a, cap, rfl, h⟩ := h
    rw [List.length_map] at *
    clear h
    go_enter Try.func22, Try.ntmps22
    go_upto_region 1 with fail
    generalize (w.alloc (.cells #[.int .i64 r.kind, .int .i64 r.vni, .int .i64 r.mac, .int .i64 r.ip, .int .i64 r.org, .int .i64 r.seq, .bool r.st] 35)).alloc (.cells #[.slice none 0 0, .slice none 0 0, .int .i64 0] 33) = w0 at *
    have hcy := Y0.cell
    go_wp2_with fail
    refine (HF.out _ HB0).mono ?_
    rintro x w1 ⟨rfl, hb1⟩
    have X1 := X0.kept hb1
    have HB1 := HB0.trans (hb1.mono HB0.size)
    have hc := X1.cell
    have hf := X1.frozen
    clear hb1 hcy
    go_wp2_with fail
    have HY := Lib.hid (fill3 X1 HB1 (by omega) (.slice none 0 0) (.slice none 0 0) (.int .i64 c))
    generalize (((w1.setCell ⟨w.heap.size + 1, 0, none⟩ (.slice none 0 0)).setCell ⟨w.heap.size + 1, 1, none⟩ (.slice none 0 0)).setCell ⟨w.heap.size + 1, 2, none⟩ (.int .i64 c)) = w9 at *
    have hc9 := HY.out.1.cell
    refine bodyPost_ret (v := roV (.slice none 0 0) (.slice none 0 0) c) (by simp [results, Try.results22, go_sem, roV, hc9]) rfl ?_
    exact RoPost.ill HR.out rfl HY.out.2
end Go.Proofs.Ytmkoppbbenombaa
