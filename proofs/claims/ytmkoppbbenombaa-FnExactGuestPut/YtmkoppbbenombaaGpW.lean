/- GuestPut of the program. -/
import Derived.Test.YtmkoppbbenombaaGpR
import Derived.Test.YtmkoppbbenombaaGlG
import Derived.Test.YtmkoppbbenombaaAgI
namespace Go.Proofs.Ytmkoppbbenombaa
open Go.RowKit
abbrev o23fe6_0 : Oper := { dst := some 19, op := Op.move (Operand.tmp 6), type := 103, pos := "l07_local.go:96", after := #[], guard := none }
abbrev o23fe6_1 : Oper := { dst := some 20, op := Op.load 59 (Operand.tmp 3), type := 59, pos := "l07_local.go:96", after := #[], guard := none }
abbrev o23fe6_2 : Oper := { dst := some 22, op := Op.load 59 (Operand.tmp 3), type := 59, pos := "l07_local.go:96", after := #[], guard := none }
abbrev o23fe6_3 : Oper := { dst := some 21, op := Op.call { callee := Callee.value (Operand.func 98), args := #[Operand.tmp 20], argTypes := #[59] }, type := 106, pos := "l07_local.go:96", after := #[{ on := 1, ground := Ground.data }], guard := none }
abbrev o23fe6_4 : Oper := { dst := none, op := Op.mapUpdate 103 (Operand.tmp 19) (Operand.tmp 21) (Operand.tmp 22), type := 0, pos := "l07_local.go:96", after := #[{ on := 0, ground := Ground.data }, { on := 2, ground := Ground.data }, { on := 3, ground := Ground.data }, { on := 2, ground := Ground.chain }, { on := 0, ground := Ground.phase }, { on := 1, ground := Ground.phase }, { on := 2, ground := Ground.phase }, { on := 3, ground := Ground.phase }], guard := none }

theorem MapG.len {W : World} {M clock : Nat} {E : List (Gu × Nat)} (h : MapG W M E clock) (ty : TypeId) : (Builtin.len_ #[103] ty #[.map (some M)]).run Try.prog W = .ok (.int .i64 (E.length : Int)) W := by
  simp [Builtin.len_, run_underlying mapG_type, MapKept.run_getObj_map h.obj, goInt, Result.andThen, mkG]
theorem zipG_some {l : List Gu} {z : Gu} (h : z ∈ l) : ∃ b, (z, b) ∈ l.zipIdx := by
  obtain ⟨k, hk, e⟩ := List.getElem_of_mem h
  exact ⟨k, List.mk_mem_zipIdx_iff_getElem?.2 (by rw [List.getElem?_eq_getElem hk, e])⟩
theorem putG_none {x : Gu} {l : List Gu} (hl : l.Pairwise LtG) (n : Nat) (h : seekG x l.zipIdx 0 = none) :
    (¬ ∃ y ∈ l, sameG x y) ∧ ∀ z, z ∈ insL LtG x l ↔ ∃ b, (z, b) ∈ l.zipIdx ++ [(x, n)] := by
  have hno : ∀ y ∈ l, ¬ sameG x y := fun y hy => by
    obtain ⟨b, hb⟩ := zipG_some hy
    exact seekG_none h _ hb
  refine ⟨fun ⟨y, hy, hs⟩ => hno y hy hs, fun z => ?_⟩
  rw [insL_mem ordG x l hl z]
  constructor
  · rintro (rfl | ⟨hz, _⟩)
    · exact ⟨n, by simp⟩
    · obtain ⟨b, hb⟩ := zipG_some hz
      exact ⟨b, List.mem_append_left _ hb⟩
  · rintro ⟨b, hb⟩
    rcases List.mem_append.1 hb with hb | hb
    · exact .inr ⟨zipA_mem hb, hno z (zipA_mem hb)⟩
    · simp at hb
      exact .inl hb.1
theorem putG_some {x : Gu} {l : List Gu} {i : Nat} {v : Value} (hl : l.Pairwise LtG) (hd : l.zipIdx.Pairwise fun a b => ¬ sameG a.1 b.1) (h : seekG x l.zipIdx 0 = some (i, v)) :
    ∃ y j, v = y.val ∧ l.zipIdx[i]? = some (y, j) ∧ sameG x y ∧ (∃ y ∈ l, sameG x y) ∧ ∀ z, z ∈ insL LtG x l ↔ ∃ b, (z, b) ∈ l.zipIdx.set i (x, j) := by
  obtain ⟨m, q, e1, hm, hsm, hv⟩ := seekG_some h
  rw [Nat.zero_add] at e1
  subst e1
  obtain ⟨hml, hme⟩ := List.getElem?_eq_some_iff.1 hm
  have hdp := List.pairwise_iff_getElem.1 hd
  refine ⟨q.1, q.2, hv, hm, hsm, ⟨q.1, zipA_mem (List.mem_of_getElem? hm), hsm⟩, fun z => ?_⟩
  rw [insL_mem ordG x l hl z]
  constructor
  · rintro (rfl | ⟨hz, hns⟩)
    · exact ⟨q.2, List.mem_iff_getElem?.2 ⟨i, by rw [List.getElem?_set_self hml]⟩⟩
    · obtain ⟨b, hb⟩ := zipG_some hz
      obtain ⟨k, e⟩ := List.mem_iff_getElem?.1 hb
      refine ⟨b, List.mem_iff_getElem?.2 ⟨k, ?_⟩⟩
      rw [List.getElem?_set_ne]
      · exact e
      · intro ek
        subst ek
        rw [hm] at e
        injection e with e
        apply hns
        rw [e] at hsm
        exact hsm
  · rintro ⟨b, hb⟩
    obtain ⟨k, e⟩ := List.mem_iff_getElem?.1 hb
    by_cases ek : i = k
    · subst ek
      rw [List.getElem?_set_self hml] at e
      injection e with e
      injection e with e1 e2
      exact .inl e1.symm
    · rw [List.getElem?_set_ne ek] at e
      obtain ⟨hkl, hke⟩ := List.getElem?_eq_some_iff.1 e
      refine .inr ⟨zipA_mem (List.mem_of_getElem? e), fun hs => ?_⟩
      have hqz : sameG q.1 z := sameG_trans (sameG_symm hsm) hs
      rcases Nat.lt_or_gt_of_ne ek with hlt | hlt
      · have := hdp i k hml hkl hlt
        rw [hke, hme] at this
        exact this hqz
      · have := hdp k i hkl hml hlt
        rw [hke, hme] at this
        exact this (sameG_symm hqz)
set_option maxRecDepth 100000 in
set_option maxHeartbeats 8000000 in
theorem implGuestPut_any (l : List Gu) (v : Value) (g : Gu) (w : World) (h : GusAt w v l) (hnb : l.length ≤ 1048576) :
    Calls Try.prog 53 #[v, g.val] w (GoPost (gputR l g) w) := by
  have Y0 := Blk.new w 59 #[.int .i64 g.vni, .int .i64 g.mac, .int .i64 g.ip, .int .i64 g.door, .int .i64 g.seq, .int .i64 g.seen, .bool g.st]
  have X0 := Blk.new (w.alloc (.cells #[.int .i64 g.vni, .int .i64 g.mac, .int .i64 g.ip, .int .i64 g.door, .int .i64 g.seq, .int .i64 g.seen, .bool g.st] 59)) 65 #[.slice none 0 0, .slice none 0 0, .int .i64 0]
  rw [World.size_alloc] at X0
  replace Y0 := Y0.alloc (.cells #[.slice none 0 0, .slice none 0 0, .int .i64 0] 65)
  have HB0 : Below w.heap.size w ((w.alloc (.cells #[.int .i64 g.vni, .int .i64 g.mac, .int .i64 g.ip, .int .i64 g.door, .int .i64 g.seq, .int .i64 g.seen, .bool g.st] 59)).alloc (.cells #[.slice none 0 0, .slice none 0 0, .int .i64 0] 65)) := ((Below.refl _ _).alloc (Nat.le_refl _) _).alloc (by simp) _
  have HF := Lib.hid (fun (W' : World) (hb : Below w.heap.size w W') => listFaultG_any l v W' (SlAt.kept h hb) hnb)
  have HT := Lib.hid (implGuest_any g)
  have HW := gfault_way l g.right
  have HLg := Lib.hid (fun h1 => gputR_long (l := l) (g := g) h1)
  have HWr := Lib.hid (fun h1 h2 => gputR_wrong (l := l) (g := g) h1 h2)
  have HAr := Lib.hid (fun h1 h2 => gputR_arg (l := l) (g := g) h1 h2)
  have HOk := Lib.hid (fun h1 h2 h3 => gputR_ok (l := l) (g := g) h1 h2 h3)
  rcases HW with ⟨h1⟩ | ⟨h1, h2⟩ | ⟨h1, h2, h3⟩ | ⟨h1, h2, h3, h4⟩
  · have HR := Lib.hid (HLg.out h1)
    rw [gCode_long h1] at HF
    obtain ⟨a, cap, rfl, h⟩ := h
    rw [List.length_map] at *
    generalize gputR l g = S at *
    generalize l.length = n at *
    clear HLg HWr HAr HOk h HT
    unfold Gu.val at *
    go_enter Try.func53, Try.ntmps53
    go_upto_region 1 with fail
    generalize (w.alloc (.cells #[.int .i64 g.vni, .int .i64 g.mac, .int .i64 g.ip, .int .i64 g.door, .int .i64 g.seq, .int .i64 g.seen, .bool g.st] 59)).alloc (.cells #[.slice none 0 0, .slice none 0 0, .int .i64 0] 65) = w0 at *
    go_wp2_with fail
    refine (HF.out _ HB0).mono ?_
    rintro x w1 ⟨rfl, hb1⟩
    have X1 := X0.kept hb1
    have HB1 := HB0.trans (hb1.mono HB0.size)
    have hc := X1.cell
    have hf := X1.frozen
    clear hb1
    go_wp2_with fail
    have HY := Lib.hid (fillO X1 HB1 (by omega) (.slice none 0 0) (.slice none 0 0) (.int .i64 2))
    generalize (((w1.setCell ⟨w.heap.size + 1, 0, none⟩ (.slice none 0 0)).setCell ⟨w.heap.size + 1, 1, none⟩ (.slice none 0 0)).setCell ⟨w.heap.size + 1, 2, none⟩ (.int .i64 2)) = w9 at *
    have hc9 := HY.out.1.cell
    refine bodyPost_ret (v := goV (.slice none 0 0) (.slice none 0 0) 2) (by simp [results, Try.results53, go_sem, goV, hc9]) rfl ?_
    exact GoPost.ill HR.out rfl HY.out.2
  · have HR := Lib.hid (HWr.out h1 h2)
    rw [gCode_wrong h1 h2] at HF
    obtain ⟨a, cap, rfl, h⟩ := h
    rw [List.length_map] at *
    generalize gputR l g = S at *
    generalize l.length = n at *
    clear HLg HWr HAr HOk h HT
    unfold Gu.val at *
    go_enter Try.func53, Try.ntmps53
    go_upto_region 1 with fail
    generalize (w.alloc (.cells #[.int .i64 g.vni, .int .i64 g.mac, .int .i64 g.ip, .int .i64 g.door, .int .i64 g.seq, .int .i64 g.seen, .bool g.st] 59)).alloc (.cells #[.slice none 0 0, .slice none 0 0, .int .i64 0] 65) = w0 at *
    go_wp2_with fail
    refine (HF.out _ HB0).mono ?_
    rintro x w1 ⟨rfl, hb1⟩
    have X1 := X0.kept hb1
    have HB1 := HB0.trans (hb1.mono HB0.size)
    have hc := X1.cell
    have hf := X1.frozen
    clear hb1
    go_wp2_with fail
    have HY := Lib.hid (fillO X1 HB1 (by omega) (.slice none 0 0) (.slice none 0 0) (.int .i64 1))
    generalize (((w1.setCell ⟨w.heap.size + 1, 0, none⟩ (.slice none 0 0)).setCell ⟨w.heap.size + 1, 1, none⟩ (.slice none 0 0)).setCell ⟨w.heap.size + 1, 2, none⟩ (.int .i64 1)) = w9 at *
    have hc9 := HY.out.1.cell
    refine bodyPost_ret (v := goV (.slice none 0 0) (.slice none 0 0) 1) (by simp [results, Try.results53, go_sem, goV, hc9]) rfl ?_
    exact GoPost.ill HR.out rfl HY.out.2
  · have HR := Lib.hid (HAr.out h1 h3)
    rw [gCode_ok h1 h2] at HF
    rw [h3] at HT
    obtain ⟨a, cap, rfl, h⟩ := h
    rw [List.length_map] at *
    generalize gputR l g = S at *
    generalize l.length = n at *
    clear HLg HWr HAr HOk h h2 h3
    unfold Gu.val at *
    go_enter Try.func53, Try.ntmps53
    go_upto_region 1 with fail
    generalize (w.alloc (.cells #[.int .i64 g.vni, .int .i64 g.mac, .int .i64 g.ip, .int .i64 g.door, .int .i64 g.seq, .int .i64 g.seen, .bool g.st] 59)).alloc (.cells #[.slice none 0 0, .slice none 0 0, .int .i64 0] 65) = w0 at *
    go_wp2_with fail
    refine (HF.out _ HB0).mono ?_
    rintro x w1 ⟨rfl, hb1⟩
    have X1 := X0.kept hb1
    have Y1 := Y0.kept hb1
    have HB1 := HB0.trans (hb1.mono HB0.size)
    have hcy := Y1.cell
    clear hb1
    go_wp2_with fail
    refine (HT.out _).mono ?_
    rintro x w3 ⟨rfl, hb3⟩
    have X3 := X1.kept hb3
    have HB3 := HB1.trans (hb3.mono HB1.size)
    have hc := X3.cell
    have hf := X3.frozen
    clear hb3 hcy
    go_wp2_with fail
    have HY := Lib.hid (fillO X3 HB3 (by omega) (.slice none 0 0) (.slice none 0 0) (.int .i64 1))
    generalize (((w3.setCell ⟨w.heap.size + 1, 0, none⟩ (.slice none 0 0)).setCell ⟨w.heap.size + 1, 1, none⟩ (.slice none 0 0)).setCell ⟨w.heap.size + 1, 2, none⟩ (.int .i64 1)) = w9 at *
    have hc9 := HY.out.1.cell
    refine bodyPost_ret (v := goV (.slice none 0 0) (.slice none 0 0) 1) (by simp [results, Try.results53, go_sem, goV, hc9]) rfl ?_
    exact GoPost.ill HR.out rfl HY.out.2
  · have hpw := gusOk_pw h2
    have HBs := Lib.hid (fun (W' : World) (hb : Below w.heap.size w W') => byNames_any l v W' (SlAt.kept h hb) h4 hpw)
    have HR0 : Hid (gputR l g = putG g l) := Lib.hid (HOk.out h1 h2 h3)
    have HSl := Lib.hid (nameOf_any g)
    have HIo := Lib.hid (fun (M ck : Nat) (E : List (Gu × Nat)) (W' : World) (hM : MapG W' M E ck) (hE : E.length ≤ 12) (hL : ∀ z, z ∈ insL LtG g l ↔ ∃ b, (z, b) ∈ E) => guestList_any M ck E (insL LtG g l) W' hM hE (insL_pw ordG _ l hpw) hL (by have := insL_len (lt := LtG) g l; omega))
    have HPn := Lib.hid (fun (n : Nat) h => putG_none (x := g) hpw n h)
    have HPs := Lib.hid (fun (i : Nat) (u : Value) hd h => putG_some (x := g) (i := i) (v := u) hpw hd h)
    have HQ1 := Lib.hid (fun h h2 => putG_full (x := g) (l := l) h h2)
    have HQ2 := Lib.hid (fun h => putG_new (x := g) (l := l) h)
    have HQ3 := Lib.hid (fun h => putG_hit (x := g) (l := l) h)
    have HZl : Hid (l.zipIdx.length = l.length) := Lib.hid (List.length_zipIdx)
    rw [gCode_ok h1 h2] at HF
    rw [h3] at HT
    unfold BnPost at HBs
    unfold RowPost at HIo
    unfold nmV at HSl
    obtain ⟨a, cap, rfl, h⟩ := h
    rw [List.length_map] at *
    clear h h1 h2 h3 hpw HLg HWr HAr HOk
    generalize gputR l g = S0' at *
    generalize putG g l = S at *
    generalize insL LtG g l = K at *
    unfold Gu.val at HSl HT ⊢
    go_enter Try.func53, Try.ntmps53
    go_upto_region 1 with fail
    generalize (w.alloc (.cells #[.int .i64 g.vni, .int .i64 g.mac, .int .i64 g.ip, .int .i64 g.door, .int .i64 g.seq, .int .i64 g.seen, .bool g.st] 59)).alloc (.cells #[.slice none 0 0, .slice none 0 0, .int .i64 0] 65) = w0 at *
    go_wp2_with fail
    refine (HF.out _ HB0).mono ?_
    rintro x w1 ⟨rfl, hb1⟩
    have X1 := X0.kept hb1
    have Y1 := Y0.kept hb1
    have HB1 := HB0.trans (hb1.mono HB0.size)
    have hcy := Y1.cell
    clear hb1 X0 Y0 HB0 HF
    go_wp2_with fail
    refine (HT.out _).mono ?_
    rintro x w1b ⟨rfl, hb1⟩
    replace X1 := X1.kept hb1
    replace Y1 := Y1.kept hb1
    replace HB1 := HB1.trans (hb1.mono HB1.size)
    clear hb1 HT hcy
    go_wp2_with fail
    refine (HBs.out _ HB1).mono ?_
    rintro x w2 ⟨M, rfl, hMge, M2, hb2⟩
    have X2 := X1.kept hb2
    have Y2 := Y1.kept hb2
    have HB2 := HB1.trans (hb2.mono HB1.size)
    have hwM : w.heap.size ≤ M := Nat.le_trans HB1.size hMge
    have hXM : w.heap.size + 1 ≠ M := fun e => by
      have := X2
      unfold Blk at this
      rw [e, M2.obj] at this
      cases this
    have hqM : w.heap.size ≠ M := fun e => by
      have := Y2
      unfold Blk at this
      rw [e, M2.obj] at this
      cases this
    have S0 := (show Blk w2.drew w.heap.size _ _ ∧ Blk w2.drew (w.heap.size + 1) _ _ ∧ Below w.heap.size w w2.drew from ⟨Y2.drew, X2.drew, HB2.drew⟩)
    have M0 : MapG w2.drew M l.zipIdx l.length := M2.kept rfl
    clear hb2 hMge M2 X1 Y1 HB1 HBs X2 Y2 HB2
    have HDs := Lib.hid M0.dist
    go_upto_region 7 with fail
    cases hs : seekG g l.zipIdx 0 with
    | none =>
      obtain ⟨hno, hmem⟩ := HPn.out l.length hs
      have HNo := Lib.hid hno
      have HMm := Lib.hid hmem
      have HSK := Lib.hid hs
      clear hno hmem hs HPn HPs
      go_wp2_with fail
      refine wp_region_held_drew (S := fun W' => Blk W' w.heap.size 59 #[.int .i64 g.vni, .int .i64 g.mac, .int .i64 g.ip, .int .i64 g.door, .int .i64 g.seq, .int .i64 g.seen, .bool g.st] ∧ Blk W' (w.heap.size + 1) 65 #[.slice none 0 0, .slice none 0 0, .int .i64 0] ∧ Below w.heap.size w W') (by kernel_rfl) S0 (fun hHeld => ?_)
      clear hHeld
      refine wpAnyH_take (i := 0) (oi := o23fe6_0) (v := ?vva1) rfl (by kernel_rfl) (by kernel_rfl) (by kernel_rfl) (fun _ _ _ h => h) (Or.inl ⟨by rfl, ?hya1⟩) S0 ?resta1
      case hya1 => (intro w hSw; go_simp <;> with_reducible rfl)
      try simp only [Act.put, List.setIfInBounds_toArray, List.set_cons_zero, List.set_cons_succ]
      refine wpAnyH_take (i := 1) (oi := o23fe6_1) (v := ?vva2) rfl (by kernel_rfl) (by kernel_rfl) (by kernel_rfl) (fun _ _ _ h => h) (Or.inl ⟨by rfl, ?hya2⟩) S0 ?resta2
      case hya2 => (intro w hSw; have hc1 := hSw.1.cell;go_simp <;> with_reducible rfl)
      try simp only [Act.put, List.setIfInBounds_toArray, List.set_cons_zero, List.set_cons_succ]
      refine wpAnyH_take (i := 3) (oi := o23fe6_2) (v := ?vva3) rfl (by kernel_rfl) (by kernel_rfl) (by kernel_rfl) (fun _ _ _ h => h) (Or.inl ⟨by rfl, ?hya3⟩) S0 ?resta3
      case hya3 => (intro w hSw; have hc1 := hSw.1.cell;go_simp <;> with_reducible rfl)
      try simp only [Act.put, List.setIfInBounds_toArray, List.set_cons_zero, List.set_cons_succ]
      refine wpAnyH_ready (rs := [2]) (by kernel_rfl) (by simp) ?_
      refine AllReadyH.cons (o := o23fe6_3) rfl (fun K hK => ?_) AllReadyH.nil
      go_simp
      refine (HSl.out _).mono ?_
      rintro e w3 ⟨rfl, hb3⟩
      replace S0 := (show Blk w3 _ _ _ ∧ Blk w3 _ _ _ ∧ Below w.heap.size w w3 from ⟨S0.1.kept hb3, S0.2.1.kept hb3, S0.2.2.trans (hb3.mono S0.2.2.size)⟩)
      replace M0 : MapG w3 M l.zipIdx l.length := M0.kept (hb3.block _ M0.lt)
      have hmu := (M0.add HSK.out).1
      have HM1 := Lib.hid (M0.add HSK.out).2
      unfold nameV Gu.val at hmu
      clear hb3
      refine hK.out _ _ S0 (fun hHeld => ?_)
      clear hK K hHeld
      try simp only [Act.put, List.setIfInBounds_toArray, List.set_cons_zero, List.set_cons_succ]
      refine wpAnyH_ready (rs := [4]) (by kernel_rfl) (by simp) ?_
      refine AllReadyH.cons (o := o23fe6_4) rfl (fun K hK => ?_) AllReadyH.nil
      go_simp
      replace S0 := And.intro (S0.1.setA hqM (.map (mkG (l.zipIdx ++ [(g, l.length)])).toArray (l.length + 1))) (And.intro (S0.2.1.setA hXM (.map (mkG (l.zipIdx ++ [(g, l.length)])).toArray (l.length + 1))) (below_setA S0.2.2 hwM (.map (mkG (l.zipIdx ++ [(g, l.length)])).toArray (l.length + 1))))
      refine hK.out _ _ S0 (fun hHeld => ?_)
      clear hK K hHeld
      try simp only [Act.put, List.setIfInBounds_toArray, List.set_cons_zero, List.set_cons_succ]
      refine wpAnyH_done (by kernel_rfl) ?_ _
      clear hmu M0
      obtain ⟨E, hE⟩ : ∃ E, E = l.zipIdx ++ [(g, l.length)] := ⟨_, rfl⟩
      have HEl : Hid (E.length = l.length + 1) := Lib.hid (by rw [hE, List.length_append, HZl.out]; rfl)
      rw [← hE] at HM1 HMm S0 ⊢
      clear hE
      obtain ⟨W6, hW6⟩ : ∃ X, X = setM w3 M (.map (mkG E).toArray (l.length + 1)) := ⟨_, rfl⟩
      rw [← hW6] at HM1 S0 ⊢
      clear hW6
      have hlen := fun ty => HM1.out.len ty
      rw [HEl.out] at hlen
      have hcO := S0.2.1.cell
      have hfO := S0.2.1.frozen
      by_cases hfull : 8 ≤ l.length
      · have HR := Lib.hid (HR0.out.trans (HQ1.out hfull HNo.out))
        have hfz : (8 : Int) < ((l.length + 1 : Nat) : Int) := by omega
        go_wp2_with fail
        have HY := Lib.hid (fillO S0.2.1 S0.2.2 (by omega) (.slice none 0 0) (.slice none 0 0) (.int .i64 9))
        generalize (((W6.setCell ⟨w.heap.size + 1, 0, none⟩ (.slice none 0 0)).setCell ⟨w.heap.size + 1, 1, none⟩ (.slice none 0 0)).setCell ⟨w.heap.size + 1, 2, none⟩ (.int .i64 9)) = w9 at *
        have hc9 := HY.out.1.cell
        refine bodyPost_ret (v := goV (.slice none 0 0) (.slice none 0 0) 9) (by simp [results, Try.results53, go_sem, goV, hc9]) rfl ?_
        exact GoPost.ill HR.out rfl HY.out.2
      · have HR := Lib.hid (HR0.out.trans (HQ2.out hfull))
        have hfz : ¬ (8 : Int) < ((l.length + 1 : Nat) : Int) := by omega
        go_wp2_with fail
        refine (HIo.out _ _ _ _ HM1.out (by rw [HEl.out]; omega) HMm.out).mono ?_
        rintro x w7 ⟨dv, rfl, ho, hb7⟩
        have X7 := S0.2.1.kept hb7
        have HB7 := S0.2.2.trans (hb7.mono S0.2.2.size)
        have hne : dv.ownBlock ≠ some (w.heap.size + 1) := fun e => by have := (ho.lt _ e).1; have := S0.2.1.lt; omega
        have HO := Lib.hid (rown_mono (B' := w.heap.size) ho S0.2.2.size)
        obtain ⟨da, dc, rfl⟩ := rown_form ho
        clear ho hb7 hcO hfO hlen S0
        have hcO := X7.cell
        have hfO := X7.frozen
        go_wp2_with fail
        have HO2 := Lib.hid (own_farO HO.out hne (.slice da K.length dc) (.slice none 0 0) (.int .i64 0))
        have HY := Lib.hid (fillO X7 HB7 (by omega) (.slice da K.length dc) (.slice none 0 0) (.int .i64 0))
        generalize (((w7.setCell ⟨w.heap.size + 1, 0, none⟩ (.slice da K.length dc)).setCell ⟨w.heap.size + 1, 1, none⟩ (.slice none 0 0)).setCell ⟨w.heap.size + 1, 2, none⟩ (.int .i64 0)) = w9 at *
        have hc9 := HY.out.1.cell
        refine bodyPost_ret (v := goV (.slice da K.length dc) (.slice none 0 0) 0) (by simp [results, Try.results53, go_sem, goV, hc9]) rfl ?_
        rw [HR.out]
        exact ⟨_, _, rfl, HO2.out, World.ownsRow_nil _ _ _ _, apart_Gp _, HY.out.2⟩
    | some iv =>
      obtain ⟨i, u⟩ := iv
      obtain ⟨y, j, rfl, hij, hxy, hex, hmem⟩ := HPs.out i u HDs.out hs
      have HR := Lib.hid (HR0.out.trans (HQ3.out hex))
      have HMm := Lib.hid hmem
      have HUp := Lib.hid (fun (W : World) (hM : MapG W M l.zipIdx l.length) => hM.put hs hij hxy)
      clear hmem hs hij hxy hex HPn HPs HQ1 HQ2 HQ3
      go_wp2_with fail
      refine wp_region_held_drew (S := fun W' => Blk W' w.heap.size 59 #[.int .i64 g.vni, .int .i64 g.mac, .int .i64 g.ip, .int .i64 g.door, .int .i64 g.seq, .int .i64 g.seen, .bool g.st] ∧ Blk W' (w.heap.size + 1) 65 #[.slice none 0 0, .slice none 0 0, .int .i64 0] ∧ Below w.heap.size w W') (by kernel_rfl) S0 (fun hHeld => ?_)
      clear hHeld
      refine wpAnyH_take (i := 0) (oi := o23fe6_0) (v := ?vvb1) rfl (by kernel_rfl) (by kernel_rfl) (by kernel_rfl) (fun _ _ _ h => h) (Or.inl ⟨by rfl, ?hyb1⟩) S0 ?restb1
      case hyb1 => (intro w hSw; go_simp <;> with_reducible rfl)
      try simp only [Act.put, List.setIfInBounds_toArray, List.set_cons_zero, List.set_cons_succ]
      refine wpAnyH_take (i := 1) (oi := o23fe6_1) (v := ?vvb2) rfl (by kernel_rfl) (by kernel_rfl) (by kernel_rfl) (fun _ _ _ h => h) (Or.inl ⟨by rfl, ?hyb2⟩) S0 ?restb2
      case hyb2 => (intro w hSw; have hc1 := hSw.1.cell;go_simp <;> with_reducible rfl)
      try simp only [Act.put, List.setIfInBounds_toArray, List.set_cons_zero, List.set_cons_succ]
      refine wpAnyH_take (i := 3) (oi := o23fe6_2) (v := ?vvb3) rfl (by kernel_rfl) (by kernel_rfl) (by kernel_rfl) (fun _ _ _ h => h) (Or.inl ⟨by rfl, ?hyb3⟩) S0 ?restb3
      case hyb3 => (intro w hSw; have hc1 := hSw.1.cell;go_simp <;> with_reducible rfl)
      try simp only [Act.put, List.setIfInBounds_toArray, List.set_cons_zero, List.set_cons_succ]
      refine wpAnyH_ready (rs := [2]) (by kernel_rfl) (by simp) ?_
      refine AllReadyH.cons (o := o23fe6_3) rfl (fun K hK => ?_) AllReadyH.nil
      go_simp
      refine (HSl.out _).mono ?_
      rintro e w3 ⟨rfl, hb3⟩
      replace S0 := (show Blk w3 _ _ _ ∧ Blk w3 _ _ _ ∧ Below w.heap.size w w3 from ⟨S0.1.kept hb3, S0.2.1.kept hb3, S0.2.2.trans (hb3.mono S0.2.2.size)⟩)
      replace M0 : MapG w3 M l.zipIdx l.length := M0.kept (hb3.block _ M0.lt)
      have hmu := (HUp.out _ M0).1
      have HM1 := Lib.hid (HUp.out _ M0).2
      unfold nameV Gu.val at hmu
      clear hb3
      refine hK.out _ _ S0 (fun hHeld => ?_)
      clear hK K hHeld
      try simp only [Act.put, List.setIfInBounds_toArray, List.set_cons_zero, List.set_cons_succ]
      refine wpAnyH_ready (rs := [4]) (by kernel_rfl) (by simp) ?_
      refine AllReadyH.cons (o := o23fe6_4) rfl (fun K hK => ?_) AllReadyH.nil
      go_simp
      replace S0 := And.intro (S0.1.setA hqM (.map (mkG (l.zipIdx.set i (g, j))).toArray l.length)) (And.intro (S0.2.1.setA hXM (.map (mkG (l.zipIdx.set i (g, j))).toArray l.length)) (below_setA S0.2.2 hwM (.map (mkG (l.zipIdx.set i (g, j))).toArray l.length)))
      refine hK.out _ _ S0 (fun hHeld => ?_)
      clear hK K hHeld
      try simp only [Act.put, List.setIfInBounds_toArray, List.set_cons_zero, List.set_cons_succ]
      refine wpAnyH_done (by kernel_rfl) ?_ _
      clear hmu M0 HUp
      obtain ⟨E, hE⟩ : ∃ E, E = l.zipIdx.set i (g, j) := ⟨_, rfl⟩
      have HEl : Hid (E.length = l.length) := Lib.hid (by rw [hE, List.length_set, HZl.out])
      rw [← hE] at HM1 HMm S0 ⊢
      clear hE
      obtain ⟨W6, hW6⟩ : ∃ X, X = setM w3 M (.map (mkG E).toArray l.length) := ⟨_, rfl⟩
      rw [← hW6] at HM1 S0 ⊢
      clear hW6
      have hlen := fun ty => HM1.out.len ty
      rw [HEl.out] at hlen
      have hcO := S0.2.1.cell
      have hfO := S0.2.1.frozen
      have hfz : ¬ (8 : Int) < (l.length : Int) := by omega
      · go_wp2_with fail
        refine (HIo.out _ _ _ _ HM1.out (by rw [HEl.out]; omega) HMm.out).mono ?_
        rintro x w7 ⟨dv, rfl, ho, hb7⟩
        have X7 := S0.2.1.kept hb7
        have HB7 := S0.2.2.trans (hb7.mono S0.2.2.size)
        have hne : dv.ownBlock ≠ some (w.heap.size + 1) := fun e => by have := (ho.lt _ e).1; have := S0.2.1.lt; omega
        have HO := Lib.hid (rown_mono (B' := w.heap.size) ho S0.2.2.size)
        obtain ⟨da, dc, rfl⟩ := rown_form ho
        clear ho hb7 hcO hfO hlen S0
        have hcO := X7.cell
        have hfO := X7.frozen
        go_wp2_with fail
        have HO2 := Lib.hid (own_farO HO.out hne (.slice da K.length dc) (.slice none 0 0) (.int .i64 0))
        have HY := Lib.hid (fillO X7 HB7 (by omega) (.slice da K.length dc) (.slice none 0 0) (.int .i64 0))
        generalize (((w7.setCell ⟨w.heap.size + 1, 0, none⟩ (.slice da K.length dc)).setCell ⟨w.heap.size + 1, 1, none⟩ (.slice none 0 0)).setCell ⟨w.heap.size + 1, 2, none⟩ (.int .i64 0)) = w9 at *
        have hc9 := HY.out.1.cell
        refine bodyPost_ret (v := goV (.slice da K.length dc) (.slice none 0 0) 0) (by simp [results, Try.results53, go_sem, goV, hc9]) rfl ?_
        rw [HR.out]
        exact ⟨_, _, rfl, HO2.out, World.ownsRow_nil _ _ _ _, apart_Gp _, HY.out.2⟩
end Go.Proofs.Ytmkoppbbenombaa
