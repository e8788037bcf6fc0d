/- GuestDrop of the program. -/
import Derived.Test.YtmkoppbbenombaaGdR
import Derived.Test.YtmkoppbbenombaaGlG
import Derived.Test.YtmkoppbbenombaaAgI
import Derived.Maps.OwnSet
namespace Go.Proofs.Ytmkoppbbenombaa
open Go.RowKit
abbrev o5f630_0 : Oper := { dst := some 35, op := Op.call { callee := Callee.value (Operand.func 99), args := #[Operand.tmp 34], argTypes := #[103] }, type := 54, pos := "l07_local.go:115", after := #[{ on := 0, ground := Ground.data }], guard := none }
abbrev o5f630_1 : Oper := { dst := some 36, op := Op.load 59 (Operand.tmp 10), type := 59, pos := "l07_local.go:115", after := #[], guard := none }
abbrev o5f630_2 : Oper := { dst := some 37, op := Op.buildSlice 54 1 #[(0, Operand.tmp 36)], type := 54, pos := "l07_local.go:115", after := #[{ on := 2, ground := Ground.data }], guard := none }
abbrev o5f630_3 : Oper := { dst := none, op := Op.store 65 (Operand.tmp 6) (Operand.tmp 38), type := 0, pos := "l07_local.go:115", after := #[{ on := 4, ground := Ground.data }, { on := 1, ground := Ground.chain }, { on := 0, ground := Ground.phase }, { on := 1, ground := Ground.phase }, { on := 2, ground := Ground.phase }, { on := 3, ground := Ground.phase }, { on := 4, ground := Ground.phase }], guard := none }

theorem wpList_delete_G (w : World) {ops : Array Oper} {rest : List Oper} {o : Oper} {a : Act} {Q : Exit → Act → World → Prop} (hg : o.guard = none) (m x : Operand) (hop : o.op = Op.call { callee := Callee.builtin Builtin.delete, args := #[m, x], argTypes := #[103, 106] })
    (M clock : Nat) (E : List (Gu × Nat)) (y : Gu) (j : Nat) (v : Value) (hm : a.eval m = .map (some M)) (hx : a.eval x = nameV y) (hM : MapG w M E clock) (hs : seekG y E 0 = some (j, v))
    (hK : MapG (setM w M (.map (mkG (E.eraseIdx j)).toArray clock)) M (E.eraseIdx j) clock → wpList Try.prog ops Q rest (a.put o.dst (.tuple #[])) (setM w M (.map (mkG (E.eraseIdx j)).toArray clock))) :
    wpList Try.prog ops Q (o :: rest) a w := by
  refine wpList_plain hg fun K' hK' => ?_
  have hd := hM.drop hs o.type
  unfold Oper.wp
  simp [execOp, hop, resolve, invoke, builtin, hm, hx, hd.1, Result.andThen]
  exact hK' _ _ (hK hd.2)
structure DgAt (w W : World) (M clock : Nat) (E : List (Gu × Nat)) : Prop where
  box : Blk W w.heap.size 65 #[.slice none 0 0, .slice none 0 0, .int .i64 0]
  map : MapG W M E clock
  bel : Below w.heap.size w W
  low : w.heap.size ≤ M
section
variable {w W W2 : World} {M clock : Nat} {E : List (Gu × Nat)}
theorem DgAt.kept (h : DgAt w W M clock E) (hb : Below W.heap.size W W2) : DgAt w W2 M clock E := ⟨h.box.kept hb, h.map.kept (hb.block _ h.map.lt), h.bel.trans (hb.mono h.bel.size), h.low⟩
theorem DgAt.alloc (h : DgAt w W M clock E) (o : Obj) : DgAt w (W.alloc o) M clock E := h.kept ((Below.refl _ _).alloc (Nat.le_refl _) o)
theorem DgAt.drew (h : DgAt w W M clock E) : DgAt w W.drew M clock E := ⟨h.box.drew, h.map.kept rfl, h.bel.drew, h.low⟩
theorem DgAt.ne (h : DgAt w W M clock E) : w.heap.size ≠ M := fun e => by
  have := h.box
  unfold Blk at this
  rw [e, h.map.obj] at this
  cases this
theorem DgAt.drop {E' : List (Gu × Nat)} (h : DgAt w W M clock E) (hM : MapG (setM W M (.map (mkG E').toArray clock)) M E' clock) : DgAt w (setM W M (.map (mkG E').toArray clock)) M clock E' :=
  ⟨h.box.setA h.ne _, hM, below_setA h.bel h.low _, h.low⟩
theorem DgAt.own7 (h : DgAt w W M clock E) (r : Gu) : (W.alloc (.cells #[.int .i64 r.vni, .int .i64 r.mac, .int .i64 r.ip, .int .i64 r.door, .int .i64 r.seq, .int .i64 r.seen, .bool r.st] 59)).ownsRow w.heap.size 59 7 (.slice (some ⟨W.heap.size, 0, none⟩) 1 1) 1 (rcells Gu.cl [r]) :=
  World.ownsRow_lit (base := w.heap.size) (e := 59) (size := 7) W #[.int .i64 r.vni, .int .i64 r.mac, .int .i64 r.ip, .int .i64 r.door, .int .i64 r.seq, .int .i64 r.seen, .bool r.st] 1 h.bel.size (by unfold maxLen; omega) rfl
theorem DgAt.finish {S : GsO} {D : List Gu} {y : Gu} {dv tv : Value} (h : DgAt w W M clock E) (HO : W.ownsRow w.heap.size 59 7 dv D.length (rcells Gu.cl D)) (XG : W.ownsRow w.heap.size 59 7 tv 1 (rcells Gu.cl [y])) (ha : dv.ownBlock = none ∨ dv.ownBlock ≠ tv.ownBlock) (hR : S = ⟨D, [y], 0⟩) :
    Blk (((W.setCell ⟨w.heap.size, 0, none⟩ dv).setCell ⟨w.heap.size, 1, none⟩ tv).setCell ⟨w.heap.size, 2, none⟩ (.int .i64 0)) w.heap.size 65 #[dv, tv, .int .i64 0] ∧
    GoPost S w (.returned (goV dv tv 0)) (((W.setCell ⟨w.heap.size, 0, none⟩ dv).setCell ⟨w.heap.size, 1, none⟩ tv).setCell ⟨w.heap.size, 2, none⟩ (.int .i64 0)) := by
  have T : Two2 w W dv tv D [y] := ⟨HO, XG, ha, h.bel⟩
  subst hR
  exact ⟨(fillO h.box h.bel (Nat.le_refl _) dv tv (.int .i64 0)).1, GoPost.two (r := ⟨D, [y], 0⟩) rfl (T.fillO (Nat.le_refl _) h.box dv tv (.int .i64 0))⟩
end
theorem ap_after {W W2 : World} {B n n' sz sz' : Nat} {t t' : TypeId} {v v' : Value} {xs xs' : List Value} (h : W.ownsRow B t sz v n xs) (k : W2.ownsRow W.heap.size t' sz' v' n' xs') : v'.ownBlock = none ∨ v'.ownBlock ≠ v.ownBlock := by
  cases hv : v'.ownBlock with
  | none => exact .inl rfl
  | some b =>
    refine .inr (fun e => ?_)
    have h1 := (k.lt b hv).1
    have h2 := (h.lt b e.symm).2
    omega
theorem ap_ahead {W : World} {B n sz : Nat} {t : TypeId} {v : Value} {xs : List Value} (h : W.ownsRow B t sz v n xs) (n2 c2 : Nat) : v.ownBlock = none ∨ v.ownBlock ≠ (Value.slice (some ⟨W.heap.size, 0, none⟩) n2 c2).ownBlock := by
  cases hv : v.ownBlock with
  | none => exact .inl rfl
  | some b =>
    refine .inr (fun e => ?_)
    have h2 := (h.lt b hv).2
    simp [Value.ownBlock] at e
    omega
set_option maxRecDepth 100000 in
set_option maxHeartbeats 8000000 in
theorem implGuestDrop_any (l : List Gu) (val : Value) (v m : Int) (w : World) (h : GusAt w val l) (hnb : l.length ≤ 1048576) :
    Calls Try.prog 59 #[val, .int .i64 v, .int .i64 m] w (GoPost (gdropR l v m) w) := by
  have X0 := Blk.new w 65 #[.slice none 0 0, .slice none 0 0, .int .i64 0]
  have HB0 : Below w.heap.size w (w.alloc (.cells #[.slice none 0 0, .slice none 0 0, .int .i64 0] 65)) := (Below.refl _ _).alloc (Nat.le_refl _) _
  have HF := Lib.hid (fun (W' : World) (hb : Below w.heap.size w W') => listFaultG_any l val W' (SlAt.kept h hb) hnb)
  have HW := gfault_way l true
  have HLg := Lib.hid (fun h1 => gdropR_long (l := l) (v := v) (m := m) h1)
  have HWr := Lib.hid (fun h1 h2 => gdropR_wrong (l := l) (v := v) (m := m) h1 h2)
  have HOk := Lib.hid (fun h1 h2 => gdropR_ok (l := l) (v := v) (m := m) h1 h2)
  rcases HW with ⟨h1⟩ | ⟨h1, h2⟩ | ⟨h1, h2, h3⟩ | ⟨h1, h2, h3, h4⟩
  · have HR := Lib.hid (HLg.out h1)
    rw [gCode_long h1] at HF
    obtain ⟨a, cap, rfl, h⟩ := h
    rw [List.length_map] at *
    generalize gdropR l v m = S at *
    generalize l.length = n at *
    clear HLg HWr HOk h
    go_enter Try.func59, Try.ntmps59
    go_upto_region 1 with fail
    generalize w.alloc (.cells #[.slice none 0 0, .slice none 0 0, .int .i64 0] 65) = w0 at *
    go_wp2_with fail
    refine (HF.out _ HB0).mono ?_
    rintro x w1 ⟨rfl, hb1⟩
    have X1 := X0.kept hb1
    have HB1 := HB0.trans (hb1.mono HB0.size)
    have hc := X1.cell
    have hf := X1.frozen
    clear hb1
    go_wp2_with fail
    have HY := Lib.hid (fillO X1 HB1 (Nat.le_refl _) (.slice none 0 0) (.slice none 0 0) (.int .i64 2))
    generalize (((w1.setCell ⟨w.heap.size, 0, none⟩ (.slice none 0 0)).setCell ⟨w.heap.size, 1, none⟩ (.slice none 0 0)).setCell ⟨w.heap.size, 2, none⟩ (.int .i64 2)) = w9 at *
    have hc9 := HY.out.1.cell
    refine bodyPost_ret (v := goV (.slice none 0 0) (.slice none 0 0) 2) (by simp [results, Try.results59, go_sem, goV, hc9]) rfl ?_
    exact GoPost.ill HR.out rfl HY.out.2
  · have HR := Lib.hid (HWr.out h1 h2)
    rw [gCode_wrong h1 h2] at HF
    obtain ⟨a, cap, rfl, h⟩ := h
    rw [List.length_map] at *
    generalize gdropR l v m = S at *
    generalize l.length = n at *
    clear HLg HWr HOk h
    go_enter Try.func59, Try.ntmps59
    go_upto_region 1 with fail
    generalize w.alloc (.cells #[.slice none 0 0, .slice none 0 0, .int .i64 0] 65) = w0 at *
    go_wp2_with fail
    refine (HF.out _ HB0).mono ?_
    rintro x w1 ⟨rfl, hb1⟩
    have X1 := X0.kept hb1
    have HB1 := HB0.trans (hb1.mono HB0.size)
    have hc := X1.cell
    have hf := X1.frozen
    clear hb1
    go_wp2_with fail
    have HY := Lib.hid (fillO X1 HB1 (Nat.le_refl _) (.slice none 0 0) (.slice none 0 0) (.int .i64 1))
    generalize (((w1.setCell ⟨w.heap.size, 0, none⟩ (.slice none 0 0)).setCell ⟨w.heap.size, 1, none⟩ (.slice none 0 0)).setCell ⟨w.heap.size, 2, none⟩ (.int .i64 1)) = w9 at *
    have hc9 := HY.out.1.cell
    refine bodyPost_ret (v := goV (.slice none 0 0) (.slice none 0 0) 1) (by simp [results, Try.results59, go_sem, goV, hc9]) rfl ?_
    exact GoPost.ill HR.out rfl HY.out.2
  · cases h3
  · have hpw := gusOk_pw h2
    have HBs := Lib.hid (fun (W' : World) (hb : Below w.heap.size w W') => byNames_any l val W' (SlAt.kept h hb) h4 hpw)
    have HR0 : Hid (gdropR l v m = dropIn (keyG v m) l) := Lib.hid (HOk.out h1 h2)
    rw [gCode_ok h1 h2] at HF
    unfold BnPost at HBs
    obtain ⟨a, cap, rfl, h⟩ := h
    rw [List.length_map] at *
    clear h h1 h2 h3 HLg HWr HOk
    generalize gdropR l v m = S0' at *
    go_enter Try.func59, Try.ntmps59
    go_upto_region 1 with fail
    generalize w.alloc (.cells #[.slice none 0 0, .slice none 0 0, .int .i64 0] 65) = w0 at *
    go_wp2_with fail
    refine (HF.out _ HB0).mono ?_
    rintro x w1 ⟨rfl, hb1⟩
    have X1 := X0.kept hb1
    have HB1 := HB0.trans (hb1.mono HB0.size)
    clear hb1 X0 HB0 HF
    go_wp2_with fail
    refine (HBs.out _ HB1).mono ?_
    rintro x w2 ⟨M, rfl, hMge, M2, hb2⟩
    have SA : DgAt w w2 M l.length l.zipIdx := ⟨X1.kept hb2, M2, HB1.trans (hb2.mono HB1.size), Nat.le_trans HB1.size hMge⟩
    have HDs := Lib.hid M2.dist
    clear hb2 hMge M2 X1 HB1 HBs
    have SA3 := SA.alloc (.cells #[.int .i64 v, .int .i64 m] 106)
    have XS3 := Blk.new w2 106 #[.int .i64 v, .int .i64 m]
    clear SA
    go_upto_region 6 with fail
    generalize (w2.alloc (.cells #[.int .i64 v, .int .i64 m] 106)) = w4 at *
    generalize w2.heap.size = qs at *
    have hlk := SA3.map.look (keyG v m)
    have hcS := XS3.cell
    cases hs : seekG (keyG v m) l.zipIdx 0 with
    | none =>
      have HR := Lib.hid (HR0.out.trans (dropIn_none (hitG_none hs)))
      rw [hs] at hlk
      unfold nameV keyG at hlk
      dsimp only at hlk
      have SA5 := SA3.alloc (.cells #[.int .i64 0, .int .i64 0, .int .i64 0, .int .i64 0, .int .i64 0, .int .i64 0, .bool false] 59)
      clear hs
      go_upto_region 7 with fail
      generalize (w4.alloc (.cells #[.int .i64 0, .int .i64 0, .int .i64 0, .int .i64 0, .int .i64 0, .int .i64 0, .bool false] 59)) = w5 at *
      have hc := SA5.box.cell
      have hf := SA5.box.frozen
      clear hlk hcS
      go_wp2_with fail
      have HY := Lib.hid (fillO SA5.box SA5.bel (Nat.le_refl _) (.slice none 0 0) (.slice none 0 0) (.int .i64 6))
      generalize (((w5.setCell ⟨w.heap.size, 0, none⟩ (.slice none 0 0)).setCell ⟨w.heap.size, 1, none⟩ (.slice none 0 0)).setCell ⟨w.heap.size, 2, none⟩ (.int .i64 6)) = w9 at *
      have hc9 := HY.out.1.cell
      refine bodyPost_ret (v := goV (.slice none 0 0) (.slice none 0 0) 6) (by simp [results, Try.results59, go_sem, goV, hc9]) rfl ?_
      exact GoPost.ill HR.out rfl HY.out.2
    | some jv =>
      obtain ⟨j, vj⟩ := jv
      obtain ⟨⟨yv, ym, yi, yd, yq, ye, yt⟩, rfl, hhit, hmem⟩ := dropG_found hpw HDs.out hs
      have HR := Lib.hid (HR0.out.trans (dropIn_some hhit))
      have HIo := Lib.hid (fun (W' : World) (hM : MapG W' M (l.zipIdx.eraseIdx j) l.length) => guestList_any M l.length (l.zipIdx.eraseIdx j) (leaveG (keyG v m) l) W' hM (by have := List.length_eraseIdx_le l.zipIdx j; rw [List.length_zipIdx] at this; omega) (leaveG_pw hpw) hmem (by have := leaveG_le (keyG v m) l; omega))
      have HSK := Lib.hid hs
      unfold RowPost at HIo
      rw [hs] at hlk
      unfold nameV keyG Gu.val at hlk
      dsimp only at hlk HR
      generalize leaveG (keyG v m) l = D at *
      have SA5 := SA3.alloc (.cells #[.int .i64 yv, .int .i64 ym, .int .i64 yi, .int .i64 yd, .int .i64 yq, .int .i64 ye, .bool yt] 59)
      have XH5 := Blk.new w4 59 #[.int .i64 yv, .int .i64 ym, .int .i64 yi, .int .i64 yd, .int .i64 yq, .int .i64 ye, .bool yt]
      have XS5 := XS3.alloc (.cells #[.int .i64 yv, .int .i64 ym, .int .i64 yi, .int .i64 yd, .int .i64 yq, .int .i64 ye, .bool yt] 59)
      have hqM : w4.heap.size ≠ M := (Nat.ne_of_lt SA3.map.lt).symm
      clear hs
      go_upto_region 7 with fail
      generalize (w4.alloc (.cells #[.int .i64 yv, .int .i64 ym, .int .i64 yi, .int .i64 yd, .int .i64 yq, .int .i64 ye, .bool yt] 59)) = w5 at *
      generalize w4.heap.size = qh at *
      clear hlk hcS hhit hmem SA3 XS3
      have hcS := XS5.cell
      go_wp2_with (at_delete; refine wpList_delete_G _ rfl _ _ rfl M l.length l.zipIdx (keyG v m) j (Gu.val ⟨yv, ym, yi, yd, yq, ye, yt⟩) rfl rfl SA5.map HSK.out ?_; intro hMd; have SA6 := (SA5.drop hMd).drew; have XH6 := (XH5.setA hqM (.map (mkG (l.zipIdx.eraseIdx j)).toArray l.length)).drew; clear hMd hcS; generalize (setM w5 M (.map (mkG (l.zipIdx.eraseIdx j)).toArray l.length)) = w6 at *)
      have hcH := XH6.cell
      have hcO := SA6.box.cell
      have hfO := SA6.box.frozen
      clear XS5 SA5 XH5
      refine wp_region_any (by kernel_rfl) ?_
      try (change wpAny _ _ _ _ _ _ _ (World.drew _))
      generalize w6.drew = Wd at *
      refine wpAny_take (i := 0) (v := ?vva1) rfl (by kernel_rfl) (by kernel_rfl) (by kernel_rfl) (fun _ _ _ h => h) (Or.inl ⟨by rfl, ?hya1⟩) ?resta1
      case hya1 => (intro w; go_simp <;> with_reducible rfl)
      refine wpAny_ready (rs := [1, 2]) (by kernel_rfl) (by simp) ?_
      refine (AllReady.cons (o := o5f630_0) rfl (fun K hK => ?_) (AllReady.cons (o := o5f630_1) rfl (fun K hK => ?_) AllReady.nil))
      focus
        go_simp
        refine (HIo.out _ SA6.map).mono ?_
        rintro e w7 ⟨dv, rfl, ho, hb7⟩
        try (have HAP := ap_after XG ho)
        have HO := rown_mono (B' := w.heap.size) ho SA6.bel.size
        replace SA6 := SA6.kept hb7
        replace XH6 := XH6.kept hb7
        try (replace XG := rown_below XG hb7)
        clear hcH hcO hfO ho hb7
        obtain ⟨da, dc, rfl⟩ := rown_form HO
        have hcH := XH6.cell
        have hcO := SA6.box.cell
        have hfO := SA6.box.frozen
        refine hK _ _ ?_
        clear hK K
        refine wpAny_ready (rs := [2]) (by kernel_rfl) (by simp) ?_
        refine AllReady.cons (o := o5f630_1) rfl (fun K hK => ?_) AllReady.nil
        go_simp
        refine hK _ _ ?_
        clear hK K
        refine wpAny_ready (rs := [3]) (by kernel_rfl) (by simp) ?_
        refine AllReady.cons (o := o5f630_2) rfl (fun K hK => ?_) AllReady.nil
        go_simp
        have XG := SA6.own7 ⟨yv, ym, yi, yd, yq, ye, yt⟩
        try (have HAP := ap_ahead HO 1 1)
        replace SA6 := SA6.alloc (.cells #[.int .i64 yv, .int .i64 ym, .int .i64 yi, .int .i64 yd, .int .i64 yq, .int .i64 ye, .bool yt] 59)
        replace XH6 := XH6.alloc (.cells #[.int .i64 yv, .int .i64 ym, .int .i64 yi, .int .i64 yd, .int .i64 yq, .int .i64 ye, .bool yt] 59)
        try (replace HO := HO.alloc (.cells #[.int .i64 yv, .int .i64 ym, .int .i64 yi, .int .i64 yd, .int .i64 yq, .int .i64 ye, .bool yt] 59))
        clear hcH hcO hfO
        have hcH := XH6.cell
        have hcO := SA6.box.cell
        have hfO := SA6.box.frozen
        refine hK _ _ ?_
        clear hK K
        refine wpAny_take (i := 4) (v := ?vva2) rfl (by kernel_rfl) (by kernel_rfl) (by kernel_rfl) (fun _ _ _ h => h) (Or.inl ⟨by rfl, ?hya2⟩) ?resta2
        case hya2 => (intro w; go_simp <;> with_reducible rfl)
        refine wpAny_ready (rs := [5]) (by kernel_rfl) (by simp) ?_
        refine AllReady.cons (o := o5f630_3) rfl (fun K hK => ?_) AllReady.nil
        go_simp
        refine hK _ _ ?_
        clear hK K
        refine wpAny_done (by kernel_rfl) ?_ _
      rotate_left 1
      focus
        go_simp
        refine hK _ _ ?_
        clear hK K
        refine wpAny_ready (rs := [1, 3]) (by kernel_rfl) (by simp) ?_
        refine (AllReady.cons (o := o5f630_0) rfl (fun K hK => ?_) (AllReady.cons (o := o5f630_2) rfl (fun K hK => ?_) AllReady.nil))
        focus
          go_simp
          refine (HIo.out _ SA6.map).mono ?_
          rintro e w7 ⟨dv, rfl, ho, hb7⟩
          try (have HAP := ap_after XG ho)
          have HO := rown_mono (B' := w.heap.size) ho SA6.bel.size
          replace SA6 := SA6.kept hb7
          replace XH6 := XH6.kept hb7
          try (replace XG := rown_below XG hb7)
          clear hcH hcO hfO ho hb7
          obtain ⟨da, dc, rfl⟩ := rown_form HO
          have hcH := XH6.cell
          have hcO := SA6.box.cell
          have hfO := SA6.box.frozen
          refine hK _ _ ?_
          clear hK K
          refine wpAny_ready (rs := [3]) (by kernel_rfl) (by simp) ?_
          refine AllReady.cons (o := o5f630_2) rfl (fun K hK => ?_) AllReady.nil
          go_simp
          have XG := SA6.own7 ⟨yv, ym, yi, yd, yq, ye, yt⟩
          try (have HAP := ap_ahead HO 1 1)
          replace SA6 := SA6.alloc (.cells #[.int .i64 yv, .int .i64 ym, .int .i64 yi, .int .i64 yd, .int .i64 yq, .int .i64 ye, .bool yt] 59)
          replace XH6 := XH6.alloc (.cells #[.int .i64 yv, .int .i64 ym, .int .i64 yi, .int .i64 yd, .int .i64 yq, .int .i64 ye, .bool yt] 59)
          try (replace HO := HO.alloc (.cells #[.int .i64 yv, .int .i64 ym, .int .i64 yi, .int .i64 yd, .int .i64 yq, .int .i64 ye, .bool yt] 59))
          clear hcH hcO hfO
          have hcH := XH6.cell
          have hcO := SA6.box.cell
          have hfO := SA6.box.frozen
          refine hK _ _ ?_
          clear hK K
          refine wpAny_take (i := 4) (v := ?vva3) rfl (by kernel_rfl) (by kernel_rfl) (by kernel_rfl) (fun _ _ _ h => h) (Or.inl ⟨by rfl, ?hya3⟩) ?resta3
          case hya3 => (intro w; go_simp <;> with_reducible rfl)
          refine wpAny_ready (rs := [5]) (by kernel_rfl) (by simp) ?_
          refine AllReady.cons (o := o5f630_3) rfl (fun K hK => ?_) AllReady.nil
          go_simp
          refine hK _ _ ?_
          clear hK K
          refine wpAny_done (by kernel_rfl) ?_ _
        rotate_left 1
        focus
          go_simp
          have XG := SA6.own7 ⟨yv, ym, yi, yd, yq, ye, yt⟩
          try (have HAP := ap_ahead HO 1 1)
          replace SA6 := SA6.alloc (.cells #[.int .i64 yv, .int .i64 ym, .int .i64 yi, .int .i64 yd, .int .i64 yq, .int .i64 ye, .bool yt] 59)
          replace XH6 := XH6.alloc (.cells #[.int .i64 yv, .int .i64 ym, .int .i64 yi, .int .i64 yd, .int .i64 yq, .int .i64 ye, .bool yt] 59)
          try (replace HO := HO.alloc (.cells #[.int .i64 yv, .int .i64 ym, .int .i64 yi, .int .i64 yd, .int .i64 yq, .int .i64 ye, .bool yt] 59))
          clear hcH hcO hfO
          have hcH := XH6.cell
          have hcO := SA6.box.cell
          have hfO := SA6.box.frozen
          refine hK _ _ ?_
          clear hK K
          refine wpAny_ready (rs := [1]) (by kernel_rfl) (by simp) ?_
          refine AllReady.cons (o := o5f630_0) rfl (fun K hK => ?_) AllReady.nil
          go_simp
          refine (HIo.out _ SA6.map).mono ?_
          rintro e w7 ⟨dv, rfl, ho, hb7⟩
          try (have HAP := ap_after XG ho)
          have HO := rown_mono (B' := w.heap.size) ho SA6.bel.size
          replace SA6 := SA6.kept hb7
          replace XH6 := XH6.kept hb7
          try (replace XG := rown_below XG hb7)
          clear hcH hcO hfO ho hb7
          obtain ⟨da, dc, rfl⟩ := rown_form HO
          have hcH := XH6.cell
          have hcO := SA6.box.cell
          have hfO := SA6.box.frozen
          refine hK _ _ ?_
          clear hK K
          refine wpAny_take (i := 4) (v := ?vva4) rfl (by kernel_rfl) (by kernel_rfl) (by kernel_rfl) (fun _ _ _ h => h) (Or.inl ⟨by rfl, ?hya4⟩) ?resta4
          case hya4 => (intro w; go_simp <;> with_reducible rfl)
          refine wpAny_ready (rs := [5]) (by kernel_rfl) (by simp) ?_
          refine AllReady.cons (o := o5f630_3) rfl (fun K hK => ?_) AllReady.nil
          go_simp
          refine hK _ _ ?_
          clear hK K
          refine wpAny_done (by kernel_rfl) ?_ _
        rotate_left 1
      rotate_left 2
      all_goals
        go_wp2_with fail
        have HY := Lib.hid (SA6.finish HO XG HAP HR.out)
        have hc2 := HY.out.1.cell
        refine bodyPost_ret ?_ rfl HY.out.2
        simp [results, Try.results59, go_sem, goV, hc2]
end Go.Proofs.Ytmkoppbbenombaa
