/- firstHeap of Hd: Push, Pop, which function a method is. -/
import Derived.Test.YtmkoppbbenombaaFmH
import Derived.Test.YtmkoppbbenombaaApB
import Derived.Deep.RegionLaw
namespace Go.Proofs.Ytmkoppbbenombaa
open Go.RowKit
abbrev o290ce_0 : Oper := { dst := some 16, op := Op.load 25 (Operand.tmp 15), type := 25, pos := "l06_rib.go:72", after := #[{ on := 3, ground := Ground.data }], guard := none }
abbrev o290ce_1 : Oper := { dst := some 17, op := Op.load 77 (Operand.tmp 4), type := 77, pos := "l06_rib.go:72", after := #[], guard := none }
abbrev o290ce_2 : Oper := { dst := some 18, op := Op.buildSlice 25 1 #[(0, Operand.tmp 17)], type := 25, pos := "l06_rib.go:72", after := #[{ on := 5, ground := Ground.data }], guard := none }
abbrev o290ce_3 : Oper := { dst := some 19, op := Op.call { callee := Callee.builtin Builtin.append, args := #[Operand.tmp 16, Operand.tmp 18], argTypes := #[25, 25] }, type := 25, pos := "l06_rib.go:72", after := #[{ on := 4, ground := Ground.data }, { on := 6, ground := Ground.data }], guard := none }
abbrev o290ce_4 : Oper := { dst := none, op := Op.store 25 (Operand.tmp 21) (Operand.tmp 19), type := 0, pos := "l06_rib.go:72", after := #[{ on := 9, ground := Ground.data }, { on := 7, ground := Ground.data }, { on := 7, ground := Ground.chain }, { on := 0, ground := Ground.phase }, { on := 1, ground := Ground.phase }, { on := 2, ground := Ground.phase }, { on := 3, ground := Ground.phase }, { on := 4, ground := Ground.phase }, { on := 5, ground := Ground.phase }, { on := 6, ground := Ground.phase }, { on := 7, ground := Ground.phase }], guard := none }

def FhPostH (B hb : Nat) (es es' : List Hd) (a : Option Addr) (c : Nat) (w : World) (e : Ending) (w' : World) : Prop :=
  (∃ v, e = .returned v) ∧ ∃ a' c', FhH w' B hb es' a' c' ∧ Fk2 w w' hb (.slice a es.length c) (.slice a' es'.length c')
theorem fhEndH {w Wd w5 : World} {B hb c n5 c5 : Nat} {a a5 : Option Addr} {es es' : List Hd} {o : Obj} (H : FhH w B hb es a c) (hbl : Below w.heap.size w Wd) (hOwn : Wd.ownsRow B 77 9 (.slice a es.length c) es.length (rcells Hd.cl es))
    (hn5 : n5 = es'.length) (ho : w5.ownsRow B 77 9 (.slice a5 n5 c5) n5 (rcells Hd.cl es')) (hg : (Wd.alloc o).grownBy w5 (Value.slice a es.length c).ownBlock) (hloc : (Value.slice a5 n5 c5).ownBlock = (Value.slice a es.length c).ownBlock ∨ (Value.slice a5 n5 c5).ownBlock = some (Wd.alloc o).heap.size) :
    Blk w5 hb 120 #[.slice a es.length c, .func (.func 116) #[] #[]] ∧ FhH (w5.setCell ⟨hb, 0, none⟩ (.slice a5 n5 c5)) B hb es' a5 c5 ∧ Fk2 w (w5.setCell ⟨hb, 0, none⟩ (.slice a5 n5 c5)) hb (.slice a es.length c) (.slice a5 es'.length c5) := by
  subst hn5
  have hb5 : Blk w5 hb 120 #[.slice a es.length c, .func (.func 116) #[] #[]] := ((H.box.kept hbl).alloc o).grown hg (fh_ne ((H.box.kept hbl).alloc o) (hOwn.alloc o) (by decide))
  refine ⟨hb5, ⟨?_, ?_⟩, ?_⟩
  · have := hb5.set 0 (.slice a5 es'.length c5)
    simp only [List.setIfInBounds_toArray, List.set_cons_zero] at this
    exact this
  · exact ho.kept (row := some hb) (grownSet (World.grownBy.refl _ _)) (.inr (fun e => fh_ne hb5 ho (by decide) e.symm))
  · refine ⟨hg.os.trans hbl.os, hg.tape.trans hbl.tape, hg.output.trans hbl.output, ?_, fun k hk1 h1 h2 => ?_, fun k hk1 => ?_⟩
    · have := hg.size
      have := hbl.size
      simp at *
      omega
    · have := hbl.size
      rw [Below.heap_setCell _ _ _ k h1, hg.block k (by simp; omega) h2, Below.heap_alloc Wd o k (by omega), hbl.block k hk1]
    · rcases hloc with e | e
      · exact .inl (by rw [← e]; exact hk1)
      · right
        rw [hk1] at e
        injection e with e
        have := hbl.size
        simp at e
        omega
theorem taH (v : Value) (w : World) : (Instr.typeAssert (.iface 77 v) 20 77 true).run Try.prog w = .ok (.tuple #[v, .bool true]) w := by kernel_rfl
theorem stepAppH {P : Program} {ops : Array Oper} {o : Oper} {a : Act} {w : World} {K : Act → World → Prop} {Q : Exit → Act → World → Prop} {E : Prop}
    (hg : o.guard = none) (s x : Operand) (t : TypeId) (hop : o.op = Op.call { callee := Callee.builtin Builtin.append, args := #[s, x], argTypes := #[t, t] })
    (v u r : Value) (w' : World) (hs : a.eval s = v) (hx : a.eval x = u) (hrun : (Builtin.append_ #[t, t] o.type #[v, u]).run P w = .ok r w') (hK : K (a.put o.dst r) w') :
    if Region.wanted o (yielded ops a.tmps) = true then Oper.wp P o a w K Q else E := by
  have hw : Region.wanted o (yielded ops a.tmps) = true := by simp [Region.wanted, hg]
  rw [if_pos hw]
  unfold Oper.wp
  simp [execOp, hop, resolve, invoke, builtin, hs, hx, hrun, Result.andThen]
  exact hK
set_option maxRecDepth 100000 in
set_option maxHeartbeats 4000000 in
theorem fhPushMH_any (B hb : Nat) (es : List Hd) (c : Nat) (a : Option Addr) (x : Hd) (w : World) (H : FhH w B hb es a c) (hn : es.length ≤ 1000000) (hB : B ≤ w.heap.size) :
    Calls Try.prog 193 #[.pointer (some ⟨hb, 0, none⟩), .iface 77 x.val] w (FhPostH B hb es (es ++ [x]) a c w) := by
  unfold FhPostH
  have hcB := H.box.cell
  have XA := Blk.new w 77 x.ar
  have BA : Below w.heap.size w (w.alloc (.cells x.ar 77)) := (Below.refl _ _).alloc (Nat.le_refl _) _
  have OA := H.row.alloc (.cells x.ar 77)
  have HBX := H.box.alloc (.cells x.ar 77)
  have hta := taH x.val
  unfold Hd.val at hta ⊢
  unfold Hd.ar at XA BA OA HBX
  go_enter Try.func193, Try.ntmps193
  go_upto_region 2 with fail
  generalize (w.alloc (.cells #[.int .i64 x.p, .bool x.s, .int .i64 x.r.kind, .int .i64 x.r.vni, .int .i64 x.r.mac, .int .i64 x.r.ip, .int .i64 x.r.org, .int .i64 x.r.seq, .bool x.r.st] 77)) = W6 at *
  replace XA : Blk W6.drew w.heap.size 77 #[.int .i64 x.p, .bool x.s, .int .i64 x.r.kind, .int .i64 x.r.vni, .int .i64 x.r.mac, .int .i64 x.r.ip, .int .i64 x.r.org, .int .i64 x.r.seq, .bool x.r.st] := XA
  replace BA : Below w.heap.size w W6.drew := BA.drew
  replace OA : W6.drew.ownsRow B 77 9 (.slice a es.length c) es.length (rcells Hd.cl es) := OA
  replace HBX : Blk W6.drew hb 120 #[.slice a es.length c, .func (.func 116) #[] #[]] := HBX
  clear hta hcB
  refine wp_region_any (by kernel_rfl) ?_
  try (change wpAny _ _ _ _ _ _ _ (World.drew _))
  generalize W6.drew = Wd at *
  have hlt1 := HBX.lt
  have hlt2 := XA.lt
  have cX := XA.cell
  have cB := HBX.cell
  obtain ⟨a5, c5, n5, w5, hrun, hn5, hown5, hg5, hloc5⟩ := run_append_rowB Hd.cl_len Hd.cl_one1 tyH Wd B (.slice a es.length c) es x #[.int .i64 x.p, .bool x.s, .int .i64 x.r.kind, .int .i64 x.r.vni, .int .i64 x.r.mac, .int .i64 x.r.ip, .int .i64 x.r.org, .int .i64 x.r.seq, .bool x.r.st] rfl OA (by omega) (Nat.le_trans hB BA.size) 25
  have HRUN := Lib.hid hrun
  have HE := Lib.hid (fhEndH H BA OA hn5 hown5 hg5 hloc5)
  have c5x := HE.out.1.cell
  have f5x := HE.out.1.frozen
  clear hrun hown5 hn5 hg5 hloc5 XA BA OA HBX
  refine wpAny_take (i := 0) (v := ?vva1) rfl (by kernel_rfl) (by kernel_rfl) (by kernel_rfl) (fun _ _ _ h => h) (Or.inl ⟨by rfl, ?hya1⟩) ?resta1
  case hya1 => (intro w; go_simp <;> with_reducible rfl)
  refine wpAny_take (i := 1) (v := ?vva2) rfl (by kernel_rfl) (by kernel_rfl) (by kernel_rfl) (fun _ _ _ h => h) (Or.inl ⟨by rfl, ?hya2⟩) ?resta2
  case hya2 => (intro w; go_simp <;> with_reducible rfl)
  refine wpAny_take (i := 2) (v := ?vva3) rfl (by kernel_rfl) (by kernel_rfl) (by kernel_rfl) (fun _ _ _ h => h) (Or.inl ⟨by rfl, ?hya3⟩) ?resta3
  case hya3 => (intro w; go_simp <;> with_reducible rfl)
  refine wpAny_take (i := 3) (v := ?vva4) rfl (by kernel_rfl) (by kernel_rfl) (by kernel_rfl) (fun _ _ _ h => h) (Or.inl ⟨by rfl, ?hya4⟩) ?resta4
  case hya4 => (intro w; go_simp <;> with_reducible rfl)
  refine wpAny_ready (rs := [4, 5]) (by kernel_rfl) (by simp) ?_
  refine (AllReady.cons (o := o290ce_0) rfl (fun K hK => ?_) (AllReady.cons (o := o290ce_1) rfl (fun K hK => ?_) AllReady.nil))
  focus
    go_simp
    refine hK _ _ ?_
    clear hK K
    refine wpAny_ready (rs := [5]) (by kernel_rfl) (by simp) ?_
    refine AllReady.cons (o := o290ce_1) rfl (fun K hK => ?_) AllReady.nil
    go_simp
    refine hK _ _ ?_
    clear hK K
    refine wpAny_ready (rs := [6]) (by kernel_rfl) (by simp) ?_
    refine AllReady.cons (o := o290ce_2) rfl (fun K hK => ?_) AllReady.nil
    go_simp
    refine hK _ _ ?_
    clear hK K
    refine wpAny_ready (rs := [7]) (by kernel_rfl) (by simp) ?_
    refine AllReady.cons (o := o290ce_3) rfl (fun K hK => ?_) AllReady.nil
    refine stepAppH rfl _ _ _ rfl _ _ _ _ rfl rfl HRUN.out ?_
    refine hK _ _ ?_
    clear hK K
    refine wpAny_take (i := 8) (v := ?vva5) rfl (by kernel_rfl) (by kernel_rfl) (by kernel_rfl) (fun _ _ _ h => h) (Or.inl ⟨by rfl, ?hya5⟩) ?resta5
    case hya5 => (intro w; go_simp <;> with_reducible rfl)
    refine wpAny_take (i := 9) (v := ?vva6) rfl (by kernel_rfl) (by kernel_rfl) (by kernel_rfl) (fun _ _ _ h => h) (Or.inl ⟨by rfl, ?hya6⟩) ?resta6
    case hya6 => (intro w; go_simp <;> with_reducible rfl)
    refine wpAny_ready (rs := [10]) (by kernel_rfl) (by simp) ?_
    refine AllReady.cons (o := o290ce_4) rfl (fun K hK => ?_) AllReady.nil
    go_simp
    refine hK _ _ ?_
    clear hK K
    refine wpAny_done (by kernel_rfl) ?_ _
  rotate_left 1
  focus
    go_simp
    refine hK _ _ ?_
    clear hK K
    refine wpAny_ready (rs := [4, 6]) (by kernel_rfl) (by simp) ?_
    refine (AllReady.cons (o := o290ce_0) rfl (fun K hK => ?_) (AllReady.cons (o := o290ce_2) rfl (fun K hK => ?_) AllReady.nil))
    focus
      go_simp
      refine hK _ _ ?_
      clear hK K
      refine wpAny_ready (rs := [6]) (by kernel_rfl) (by simp) ?_
      refine AllReady.cons (o := o290ce_2) rfl (fun K hK => ?_) AllReady.nil
      go_simp
      refine hK _ _ ?_
      clear hK K
      refine wpAny_ready (rs := [7]) (by kernel_rfl) (by simp) ?_
      refine AllReady.cons (o := o290ce_3) rfl (fun K hK => ?_) AllReady.nil
      refine stepAppH rfl _ _ _ rfl _ _ _ _ rfl rfl HRUN.out ?_
      refine hK _ _ ?_
      clear hK K
      refine wpAny_take (i := 8) (v := ?vva7) rfl (by kernel_rfl) (by kernel_rfl) (by kernel_rfl) (fun _ _ _ h => h) (Or.inl ⟨by rfl, ?hya7⟩) ?resta7
      case hya7 => (intro w; go_simp <;> with_reducible rfl)
      refine wpAny_take (i := 9) (v := ?vva8) rfl (by kernel_rfl) (by kernel_rfl) (by kernel_rfl) (fun _ _ _ h => h) (Or.inl ⟨by rfl, ?hya8⟩) ?resta8
      case hya8 => (intro w; go_simp <;> with_reducible rfl)
      refine wpAny_ready (rs := [10]) (by kernel_rfl) (by simp) ?_
      refine AllReady.cons (o := o290ce_4) rfl (fun K hK => ?_) AllReady.nil
      go_simp
      refine hK _ _ ?_
      clear hK K
      refine wpAny_done (by kernel_rfl) ?_ _
    rotate_left 1
    focus
      go_simp
      refine hK _ _ ?_
      clear hK K
      refine wpAny_ready (rs := [4]) (by kernel_rfl) (by simp) ?_
      refine AllReady.cons (o := o290ce_0) rfl (fun K hK => ?_) AllReady.nil
      go_simp
      refine hK _ _ ?_
      clear hK K
      refine wpAny_ready (rs := [7]) (by kernel_rfl) (by simp) ?_
      refine AllReady.cons (o := o290ce_3) rfl (fun K hK => ?_) AllReady.nil
      refine stepAppH rfl _ _ _ rfl _ _ _ _ rfl rfl HRUN.out ?_
      refine hK _ _ ?_
      clear hK K
      refine wpAny_take (i := 8) (v := ?vva9) rfl (by kernel_rfl) (by kernel_rfl) (by kernel_rfl) (fun _ _ _ h => h) (Or.inl ⟨by rfl, ?hya9⟩) ?resta9
      case hya9 => (intro w; go_simp <;> with_reducible rfl)
      refine wpAny_take (i := 9) (v := ?vva10) rfl (by kernel_rfl) (by kernel_rfl) (by kernel_rfl) (fun _ _ _ h => h) (Or.inl ⟨by rfl, ?hya10⟩) ?resta10
      case hya10 => (intro w; go_simp <;> with_reducible rfl)
      refine wpAny_ready (rs := [10]) (by kernel_rfl) (by simp) ?_
      refine AllReady.cons (o := o290ce_4) rfl (fun K hK => ?_) AllReady.nil
      go_simp
      refine hK _ _ ?_
      clear hK K
      refine wpAny_done (by kernel_rfl) ?_ _
    rotate_left 1
  rotate_left 2
  all_goals
    go_wp2_with fail
    go_end0
    exact ⟨⟨_, rfl⟩, _, _, HE.out.2.1, HE.out.2.2⟩
theorem elemFhH : Try.prog.elem 25 = 77 := by kernel_rfl
theorem underFhH : Try.prog.underlying 25 = some (.slice (Try.prog.elem 25)) := by rw [elemFhH]; exact tyH.under
theorem sizeFhH (W : World) : (sizeOf (Try.prog.elem 25)).run Try.prog W = .ok 9 W := by
  obtain ⟨i0, z, hi0, hz0, hz1, hz2, hz3⟩ := tyH.info
  rw [elemFhH]
  simp [sizeOf, typeInfo, hi0, hz1]
theorem cutFhH (g n c k : Nat) (hk : k ≤ n) (hc : n ≤ c) (W : World) :
    (Instr.slice 25 (.slice (some ⟨g, 0, none⟩) n c) none (some (.int .i64 (k : Int))) none).run Try.prog W = .ok (.slice (some ⟨g, 0, none⟩) k c) W := by
  rw [run_slice_h (P := Try.prog) W 25 (some ⟨g, 0, none⟩) n c underFhH .i64 k (by omega) (by omega), sizeFhH]
  simp [Result.andThen, sliced, Addr.add]
theorem takeFhH {W : World} {B g n c k : Nat} {es : List Hd} (h : W.ownsRow B 77 9 (.slice (some ⟨g, 0, none⟩) n c) n (rcells Hd.cl es)) (hk : k ≤ n) (hn : n = es.length) : W.ownsRow B 77 9 (.slice (some ⟨g, 0, none⟩) k c) k (rcells Hd.cl (es.take k)) := by
  subst hn
  refine ⟨by rw [rcells_len Hd.cl_len, List.length_take]; omega, ?_⟩
  rcases h.2 with ⟨e, _⟩ | ⟨g', cap, cur, e, hb, hh, hn, hm, hz, ht⟩
  · cases e
  · injection e with e1 e2 e3
    injection e1 with e1
    injection e1 with e1
    subst e1 e3
    refine .inr ⟨g, c, cur, rfl, hb, hh, by omega, hm, hz, ?_⟩
    have hle : k * 9 ≤ es.length * 9 := by omega
    have h1 : cur.toList.take (k * 9) = (rcells Hd.cl es).take (k * 9) := by rw [← ht, List.take_take, Nat.min_eq_left hle]
    rw [h1]
    have h2 : rcells Hd.cl es = rcells Hd.cl (es.take k) ++ rcells Hd.cl (es.drop k) := by rw [← rcells_app, List.take_append_drop]
    rw [h2, List.take_append_of_le_length (by rw [rcells_len Hd.cl_len, List.length_take]; omega), List.take_of_length_le (by rw [rcells_len Hd.cl_len, List.length_take]; omega)]
def FhPopH (B hb : Nat) (es es' : List Hd) (x : Hd) (a : Option Addr) (c : Nat) (w : World) (e : Ending) (w' : World) : Prop :=
  e = .returned (.iface 77 x.val) ∧ ∃ a' c', FhH w' B hb es' a' c' ∧ Fk2 w w' hb (.slice a es.length c) (.slice a' es'.length c')
set_option maxRecDepth 100000 in
set_option maxHeartbeats 4000000 in
theorem fhPopMH_any (B hb : Nat) (es : List Hd) (c : Nat) (a : Option Addr) (w : World) (H : FhH w B hb es a c) (hn : es.length ≤ 1000000) (h0 : 0 < es.length) :
    Calls Try.prog 192 #[.pointer (some ⟨hb, 0, none⟩)] w (FhPopH B hb es (es.take (es.length - 1)) (hG ordHd es (es.length - 1)) a c w) := by
  unfold FhPopH
  obtain ⟨g, hg⟩ : ∃ g, a = some ⟨g, 0, none⟩ := by
    rcases H.row.2 with ⟨e, _⟩ | ⟨g, cp, cu, e, _⟩
    · injection e with _ e2 _; omega
    · injection e with e1 _ _; exact ⟨g, e1⟩
  subst hg
  have hcap : es.length ≤ c := by
    rcases H.row.2 with ⟨e, _⟩ | ⟨g', cp, cu, e, _, _, hle, _⟩
    · cases e
    · injection e with _ _ e3; omega
  obtain ⟨a', c', e, hE⟩ := H.sl
  injection e with e1 e2 e3
  obtain ⟨b, off, e4, hbl, hE⟩ := hE (fun e => by have := congrArg List.length e; simp at this; rw [this] at h0; simp at h0)
  rw [← e1] at e4
  injection e4 with e4
  injection e4 with e4 e5
  subst e4 e5
  have hk : es.length - 1 < es.length := by omega
  have HEl := hE.hd (es.length - 1) hk
  rw [hG_eq hk]
  have HT := Lib.hid (takeFhH H.row (show es.length - 1 ≤ es.length by omega) rfl)
  have HTl : Hid ((es.take (es.length - 1)).length = es.length - 1) := Lib.hid (by rw [List.length_take]; omega)
  have hcut := cutFhH g es.length c (es.length - 1) (by omega) hcap
  have hbx := H.box
  have hgb : g ≠ hb := fun e => fh_ne H.box H.row (by decide) (by rw [← e]; rfl)
  obtain ⟨p0, p1, p2, p3, p4, p5, p6, p7, p8⟩ := HEl
  have XA := Blk.new w 77 (es[es.length - 1]).ar
  have OT := Lib.hid (HT.out.alloc (.cells (es[es.length - 1]).ar 77))
  have HBX := hbx.alloc (.cells (es[es.length - 1]).ar 77)
  have hqb : hb ≠ w.heap.size := Nat.ne_of_lt hbx.lt
  clear HT hE e1 e2 e3 hbl H
  generalize hC : rcells Hd.cl (es.take (es.length - 1)) = C at *
  unfold Hd.ar at XA OT HBX
  unfold Hd.val
  generalize es[es.length - 1] = x at *
  obtain ⟨n, hnn⟩ : ∃ n, n = es.length := ⟨_, rfl⟩
  rw [← hnn] at h0 hn hcut hbx HBX OT p0 p1 p2 p3 p4 p5 p6 p7 p8
  have HN := Lib.hid hnn
  obtain ⟨m, hm⟩ : ∃ m, n = m + 1 := ⟨n - 1, by omega⟩
  subst hm
  rw [Nat.add_sub_cancel] at *
  simp only [Nat.zero_add] at p0 p1 p2 p3 p4 p5 p6 p7 p8
  have hcB := hbx.cell
  clear hnn
  have hm1 : IntKind.i64.wrap (m : Int) = (m : Int) := by simp only [IntKind.wrap_i64]; omega
  go_enter Try.func192, Try.ntmps192
  go_upto_region 3 with fail
  have BA : Below w.heap.size w (w.alloc (.cells #[.int .i64 x.p, .bool x.s, .int .i64 x.r.kind, .int .i64 x.r.vni, .int .i64 x.r.mac, .int .i64 x.r.ip, .int .i64 x.r.org, .int .i64 x.r.seq, .bool x.r.st] 77)) := (Below.refl _ _).alloc (Nat.le_refl _) _
  generalize (w.alloc (.cells #[.int .i64 x.p, .bool x.s, .int .i64 x.r.kind, .int .i64 x.r.vni, .int .i64 x.r.mac, .int .i64 x.r.ip, .int .i64 x.r.org, .int .i64 x.r.seq, .bool x.r.st] 77)) = W6 at *
  clear p0 p1 p2 p3 p4 p5 p6 p7 p8 hcB
  have hc1 := HBX.cell
  have hf1 := HBX.frozen
  go_upto_region 4 with fail
  have HBY := HBX.set 0 (.slice (some ⟨g, 0, none⟩) m c)
  simp only [List.setIfInBounds_toArray, List.set_cons_zero] at HBY
  have XB := XA.far (b' := hb) (i := 0) (v := .slice (some ⟨g, 0, none⟩) m c) (Ne.symm hqb)
  have OB := Lib.hid (OT.out.kept (row := some hb) (grownSet (u := .slice (some ⟨g, 0, none⟩) m c) (j := 0) (World.grownBy.refl _ _)) (.inr (by simp [Value.ownBlock]; exact hgb)))
  have HP2 : Hid (Fk2 w (W6.setCell ⟨hb, 0, none⟩ (.slice (some ⟨g, 0, none⟩) m c)) hb (.slice (some ⟨g, 0, none⟩) (m + 1) c) (.slice (some ⟨g, 0, none⟩) m c)) := Lib.hid ⟨BA.os, BA.tape, BA.output, by have := BA.size; simp; exact this, fun k hk1 h1 _ => (Below.heap_setCell _ _ _ k h1).trans (BA.block k hk1), fun k hk1 => .inl hk1⟩
  generalize W6.setCell ⟨hb, 0, none⟩ (.slice (some ⟨g, 0, none⟩) m c) = W7 at *
  clear hc1 hf1
  have hc := XB.cell
  go_wp2_with fail
  go_ret
  refine ⟨rfl, some ⟨g, 0, none⟩, c, ⟨?_, ?_⟩, ?_⟩
  · rw [HTl.out, ← HN.out, Nat.add_sub_cancel]; exact HBY
  · rw [HTl.out, hC, ← HN.out, Nat.add_sub_cancel]; exact OB.out
  · rw [← HN.out, Nat.add_sub_cancel]; exact HP2.out
theorem methodFhH {P : Program} {t elem : TypeId} {A : Addr} {W : World} {f : FuncId} {i : TypeInfo} {m : _} {name : String} (fuel : Nat) (hi : P.info? t = some i) (hm : i.methods.find? (·.name == name) = some m) (hp : m.path = #[]) (hf : m.func = some (f, true))
    (hu : P.underlying t = some (.pointer elem)) : (method (fuel + 1) t (.pointer (some A)) name).run P W = .ok (f, .pointer (some A)) W := by
  have hu' := run_underlying hu
  simp [method, typeInfo, hi, hm, hp, hf, follow, receiverAt, hu', Place.get, Sem.run_bind, Result.andThen]
theorem underPfH : Try.prog.underlying 122 = some (.pointer 120) := by kernel_rfl
theorem infoLessH : (Try.prog.info? 122).map (fun i => (i.methods.find? (·.name == "Less")).map fun m => (m.path, m.func)) = some (some (#[], some (191, true))) := by kernel_rfl
theorem infoSwapH : (Try.prog.info? 122).map (fun i => (i.methods.find? (·.name == "Swap")).map fun m => (m.path, m.func)) = some (some (#[], some (194, true))) := by kernel_rfl
theorem infoLenH : (Try.prog.info? 122).map (fun i => (i.methods.find? (·.name == "Len")).map fun m => (m.path, m.func)) = some (some (#[], some (118, true))) := by kernel_rfl
theorem infoPushH : (Try.prog.info? 122).map (fun i => (i.methods.find? (·.name == "Push")).map fun m => (m.path, m.func)) = some (some (#[], some (193, true))) := by kernel_rfl
theorem infoPopH : (Try.prog.info? 122).map (fun i => (i.methods.find? (·.name == "Pop")).map fun m => (m.path, m.func)) = some (some (#[], some (192, true))) := by kernel_rfl
set_option maxRecDepth 100000 in
theorem methodOfH {f : FuncId} {A : Addr} {W : World} {name : String} (fuel : Nat) (hi : (Try.prog.info? 122).map (fun i => (i.methods.find? (·.name == name)).map fun m => (m.path, m.func)) = some (some (#[], some (f, true)))) :
    (method (fuel + 1) 122 (.pointer (some A)) name).run Try.prog W = .ok (f, .pointer (some A)) W := by
  obtain ⟨i, hi, hj⟩ := Option.map_eq_some_iff.1 hi
  obtain ⟨m, hm, hpf⟩ := Option.map_eq_some_iff.1 hj
  injection hpf with hp hf
  exact methodFhH fuel hi hm hp hf underPfH
theorem mLessH (A : Addr) (W : World) : (method 302 122 (.pointer (some A)) "Less").run Try.prog W = .ok (191, .pointer (some A)) W := methodOfH _ infoLessH
theorem mSwapH (A : Addr) (W : World) : (method 302 122 (.pointer (some A)) "Swap").run Try.prog W = .ok (194, .pointer (some A)) W := methodOfH _ infoSwapH
theorem mLenH (A : Addr) (W : World) : (method 302 122 (.pointer (some A)) "Len").run Try.prog W = .ok (118, .pointer (some A)) W := methodOfH _ infoLenH
theorem mPushH (A : Addr) (W : World) : (method 302 122 (.pointer (some A)) "Push").run Try.prog W = .ok (193, .pointer (some A)) W := methodOfH _ infoPushH
theorem mPopH (A : Addr) (W : World) : (method 302 122 (.pointer (some A)) "Pop").run Try.prog W = .ok (192, .pointer (some A)) W := methodOfH _ infoPopH
end Go.Proofs.Ytmkoppbbenombaa
