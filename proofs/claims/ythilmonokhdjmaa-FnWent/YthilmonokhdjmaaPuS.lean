/- WentPut of the model. -/
import Derived.Test.YthilmonokhdjmaaPuM
import Derived.Deep.RegionLaw
import Derived.Deep.CutRange
namespace Go.Proofs.Ythilmonokhdjmaa
open Go.RowKit

theorem stepAppW {P : Program} {ops : Array Oper} {o : Oper} {a : Act} {w : World} {K : Act → World → Prop} {Q : Exit → Act → World → Prop} {E : Prop}
    (hg : o.guard = none) (s x : Operand) (t : TypeId) (hop : o.op = Op.call { callee := Callee.builtin Builtin.append, args := #[s, x], argTypes := #[t, t] })
    (v u r : Value) (w' : World) (hs : a.eval s = v) (hx : a.eval x = u) (hrun : (Builtin.append_ #[t, t] o.type #[v, u]).run P w = .ok r w') (hK : K (a.put o.dst r) w') :
    if Region.wanted o (yielded ops a.tmps) = true then Oper.wp P o a w K Q else E := by
  have hw : Region.wanted o (yielded ops a.tmps) = true := by simp [Region.wanted, hg]
  rw [if_pos hw]
  unfold Oper.wp
  simp [execOp, hop, resolve, invoke, builtin, hs, hx, hrun, Result.andThen]
  exact hK
/- the key's box, and all that was there ahead -/
structure PuK (w W : World) (x : Mv) : Prop where
  key : Blk W w.heap.size 34 x.ar
  bel : Below w.heap.size w W
section
variable {w W W' : World} {x : Mv}
theorem PuK.kept (h : PuK w W x) (hb : Below W.heap.size W W') : PuK w W' x := ⟨h.key.kept hb, h.bel.trans (hb.mono h.bel.size)⟩
theorem PuK.grown (h : PuK w W x) {v : Value} {n sz : Nat} {t : TypeId} {xs : List Value} (ho : W.ownsRow (w.heap.size + 1) t sz v n xs) (hg : W.grownBy W' v.ownBlock) : PuK w W' x :=
  ⟨h.key.grown hg (fun e => by have := (ho.lt _ e.symm).1; omega), h.bel.grown hg h.bel.size (fun k hk => by have := (ho.lt k hk).1; omega)⟩
theorem PuK.low (h : PuK w W x) : w.heap.size + 1 ≤ W.heap.size := h.key.lt
theorem PuK.pack (h : PuK w W x) (cs : Array Value) (t : TypeId) : ∃ Wn q, W.alloc (.cells cs t) = Wn ∧ W.heap.size = q ∧ PuK w Wn x ∧ Blk Wn q t cs ∧ Below W.heap.size W Wn ∧ w.heap.size + 1 ≤ q :=
  ⟨_, _, rfl, rfl, h.kept ((Below.refl _ _).alloc (Nat.le_refl _) _), Blk.new _ _ _, (Below.refl _ _).alloc (Nat.le_refl _) _, h.low⟩
end
theorem rowW_lit {Wn : World} {q B : Nat} (h : Blk Wn q 34 #[]) (hB : B ≤ q) : Wn.ownsRow B 34 3 (.slice (some ⟨q, 0, none⟩) 0 0) ([] : List Mv).length (rcells Mv.cl []) := by
  refine ⟨by simp [rcells], .inr ⟨q, 0, #[], rfl, hB, h, Nat.le_refl _, Nat.zero_le _, rfl, by simp [rcells]⟩⟩
theorem lit_ne {W : World} {q q0 : Nat} {t : TypeId} {cs : Array Value} (h : Blk W q t cs) (e : W.heap.size = q0) : q ≠ q0 := by have := h.lt; omega
theorem row_ne {W : World} {q q4 B n sz : Nat} {t : TypeId} {c : Nat} {xs : List Value} (h : W.ownsRow B t sz (.slice (some ⟨q, 0, none⟩) n c) n xs) (e : W.heap.size = q4) : q4 ≠ q := by have := (h.lt q rfl).2; omega
theorem own_neS {q q4 n c : Nat} (h : q4 ≠ q) : some q4 ≠ (Value.slice (some ⟨q, 0, none⟩) n c).ownBlock := fun e => h (by simpa [Value.ownBlock] using e)
set_option maxRecDepth 100000 in
set_option maxHeartbeats 16000000 in
theorem specPutIn8_any (l : List Mv) (v : Value) (x : Mv) (w : World) (h : MvsAt w v l) (hc : NcOk v) (hn : l.length ≤ 30) :
    Calls Try.prog 88 #[v, x.val] w (RowPost Mv.cl 34 3 (putW l x) w) := by
  unfold RowPost
  have S0 : PuK w (w.alloc (.cells x.ar 34)) x := ⟨Blk.new _ _ _, (Below.refl _ _).alloc (Nat.le_refl _) _⟩
  have h0 := h
  obtain ⟨a, cap, rfl, hbox⟩ := h0
  rw [List.length_map] at *
  have HD := Lib.hid (fun (W' : World) (hb : Below w.heap.size w W') (h1 : 1 ≤ l.length) => cut_drop (SlAt.kept h hb) hc 1 h1)
  have HSl := Lib.hid (fun (W' : World) (hb : Below w.heap.size w W') => SlAt.kept h hb)
  have HNil : Hid (NilOk (.slice a l.length cap)) := Lib.hid (fun n c e => (hc _ _ _ e).1 rfl)
  have hpw := putW_cut l x
  clear h
  generalize putW l x = PL at *
  unfold Mv.ar at S0
  unfold Mv.val
  obtain ⟨xv, xm, xt⟩ := x
  dsimp only at *
  by_cases h30 : 30 ≤ l.length
  · have hg : (30 : Int) ≤ (l.length : Int) := by omega
    have hcw : cutW l = l.drop 1 := by unfold cutW; rw [if_pos h30]
    rw [hcw] at hpw
    have HPL := Lib.hid hpw
    clear hpw
    obtain ⟨b, off, rfl, _⟩ := hbox (fun e => by
      have := congrArg List.length e
      rw [List.length_map] at this
      simp at this
      rw [this] at h30
      simp at h30)
    have hle := (hc _ _ _ rfl).2
    have hcap1 : ¬ cap = 1 := by omega
    have e2 : sliced (some ⟨b, off, none⟩) 1 l.length cap 3 = .slice (some ⟨b, off + 3, none⟩) (l.length - 1) (cap - 1) := by
      unfold sliced
      simp [Addr.add]
      omega
    have HS2 := Lib.hid (fun (W' : World) (hb : Below w.heap.size w W') => (by
      obtain ⟨a3, e3, sl3, _⟩ := HD.out W' hb (by omega)
      rw [e2] at e3
      injection e3 with e3
      subst e3
      exact sl3 : SlAt W' 3 (.slice (some ⟨b, off + 3, none⟩) (l.length - 1) (cap - 1)) ((l.drop 1).map Mv.cl)))
    have HNl : Hid (NilOk (.slice (some ⟨b, off + 3, none⟩) (l.drop 1).length (cap - 1))) := Lib.hid (fun n c e => by cases e)
    have HLn : Hid ((l.drop 1).length = l.length - 1) := Lib.hid (by rw [List.length_drop])
    have hlen : (l.drop 1).length ≤ 30 := by rw [List.length_drop]; omega
    rw [← HLn.out] at HS2
    clear HD HSl HNil hcw e2 hbox
    generalize l.drop 1 = D at *
    generalize l.length = n at *
    go_enter Try.func88, Try.ntmps88
    go_upto_region 1 with fail
    generalize w.alloc (.cells #[.int .i64 xv, .int .i64 xm, .int .i64 xt] 34) = W0 at *
    go_upto_region 3 with fail
    rw [← HLn.out]
    replace S0 : PuK w W0.drew _ := ⟨S0.key.drew, S0.bel.drew⟩
    refine wp_region_held_drew (S := fun W' => PuK w W' _) (by kernel_rfl) S0 (fun hHeld => ?_)
    clear hHeld
    generalize W0.drew = Wd at *
    refine wpAnyH_take (i := 1) (oi := { dst := some 11, op := Op.move (Operand.tmp 0), type := 25, pos := "l08_moves.go:26", after := #[], guard := none }) (v := ?vva1) rfl (by kernel_rfl) (by kernel_rfl) (by kernel_rfl) (fun _ _ _ h => h) (Or.inl ⟨by rfl, ?hya1⟩) S0 ?resta1
    case hya1 => (intro w hSw; have hcx := hSw.key.cell; unfold Mv.ar at hcx; dsimp only at hcx;go_simp <;> with_reducible rfl)
    try simp only [Act.put, List.setIfInBounds_toArray, List.set_cons_zero, List.set_cons_succ]
    refine wpAnyH_take (i := 3) (oi := { dst := some 13, op := Op.load 34 (Operand.tmp 3), type := 34, pos := "l08_moves.go:26", after := #[], guard := none }) (v := ?vva2) rfl (by kernel_rfl) (by kernel_rfl) (by kernel_rfl) (fun _ _ _ h => h) (Or.inl ⟨by rfl, ?hya2⟩) S0 ?resta2
    case hya2 => (intro w hSw; have hcx := hSw.key.cell; unfold Mv.ar at hcx; dsimp only at hcx;go_simp <;> with_reducible rfl)
    try simp only [Act.put, List.setIfInBounds_toArray, List.set_cons_zero, List.set_cons_succ]
    refine wpAnyH_ready (rs := [0, 4]) (by kernel_rfl) (by simp) ?_
    refine (AllReadyH.cons (o := { dst := some 10, op := Op.buildSlice 25 0 #[], type := 25, pos := "l08_moves.go:26", after := #[], guard := none }) rfl (fun K hK => ?_) (AllReadyH.cons (o := { dst := some 14, op := Op.buildSlice 25 1 #[(0, Operand.tmp 13)], type := 25, pos := "l08_moves.go:26", after := #[{ on := 3, ground := Ground.data }], guard := none }) rfl (fun K hK => ?_) AllReadyH.nil))
    focus
      go_simp
      obtain ⟨Wn, q0, hWn, hq0, SN, N0, bn, hq1⟩ := S0.pack #[] 34
      try have hne := lit_ne N4 hq0
      rw [hWn, hq0]
      have R0 := rowW_lit N0 hq1
      try replace N4 := N4.kept bn
      clear N0
      replace S0 := SN
      clear hWn hq0 SN bn
      refine hK.out _ _ S0 (fun hHeld => ?_)
      clear hK K hHeld
      try simp only [Act.put, List.setIfInBounds_toArray, List.set_cons_zero, List.set_cons_succ]
      refine wpAnyH_ready (rs := [2, 4]) (by kernel_rfl) (by simp) ?_
      refine (AllReadyH.cons (o := { dst := some 12, op := Op.call { callee := Callee.builtin Builtin.append, args := #[Operand.tmp 10, Operand.tmp 11], argTypes := #[25, 25] }, type := 25, pos := "l08_moves.go:26", after := #[{ on := 0, ground := Ground.data }, { on := 1, ground := Ground.data }], guard := none }) rfl (fun K hK => ?_) (AllReadyH.cons (o := { dst := some 14, op := Op.buildSlice 25 1 #[(0, Operand.tmp 13)], type := 25, pos := "l08_moves.go:26", after := #[{ on := 3, ground := Ground.data }], guard := none }) rfl (fun K hK => ?_) AllReadyH.nil))
      focus
        obtain ⟨a5, c5, n5, w5, hr5, hn5, ho5, hg5⟩ := run_append_sl Mv.cl_len Mv.cl_one1 tyM _ (w.heap.size + 1) _ [] D (some ⟨b, off + 3, none⟩) (cap - 1) HNl.out (HS2.out _ S0.bel) R0 (by simp <;> omega) S0.low 25
        refine stepAppW rfl _ _ _ rfl _ _ _ _ rfl rfl hr5 ?_
        rw [List.nil_append] at hn5 ho5
        subst hn5
        have S5 := S0.grown R0 hg5
        try replace N4 := N4.grown hg5 (own_neS hne)
        replace S0 := S5
        clear R0 hg5 hr5 S5
        refine hK.out _ _ S0 (fun hHeld => ?_)
        clear hK K hHeld
        try simp only [Act.put, List.setIfInBounds_toArray, List.set_cons_zero, List.set_cons_succ]
        refine wpAnyH_ready (rs := [4]) (by kernel_rfl) (by simp) ?_
        refine AllReadyH.cons (o := { dst := some 14, op := Op.buildSlice 25 1 #[(0, Operand.tmp 13)], type := 25, pos := "l08_moves.go:26", after := #[{ on := 3, ground := Ground.data }], guard := none }) rfl (fun K hK => ?_) AllReadyH.nil
        go_simp
        obtain ⟨Wn, q4, hWn, hq4, SN, N4, bn, hq1⟩ := S0.pack #[.int .i64 xv, .int .i64 xm, .int .i64 xt] 34
        try have hne := row_ne R0 hq4
        rw [hWn, hq4]
        try replace R0 := rown_below R0 bn
        try replace ho5 := rown_below ho5 bn
        replace S0 := SN
        clear hWn hq4 SN bn
        refine hK.out _ _ S0 (fun hHeld => ?_)
        clear hK K hHeld
        try simp only [Act.put, List.setIfInBounds_toArray, List.set_cons_zero, List.set_cons_succ]
        refine wpAnyH_ready (rs := [5]) (by kernel_rfl) (by simp) ?_
        refine AllReadyH.cons (o := { dst := some 15, op := Op.call { callee := Callee.builtin Builtin.append, args := #[Operand.tmp 12, Operand.tmp 14], argTypes := #[25, 25] }, type := 25, pos := "l08_moves.go:26", after := #[{ on := 2, ground := Ground.data }, { on := 4, ground := Ground.data }, { on := 2, ground := Ground.chain }], guard := none }) rfl (fun K hK => ?_) AllReadyH.nil
        obtain ⟨a6, c6, n6, w6, hr6, hn6, ho6, hg6⟩ := run_append_one Mv.cl_len Mv.cl_one1 tyM _ (w.heap.size + 1) _ D (⟨xv, xm, xt⟩ : Mv) _ #[.int .i64 xv, .int .i64 xm, .int .i64 xt] rfl N4 ho5 (by omega) S0.low 25
        refine stepAppW rfl _ _ _ rfl _ _ _ _ rfl rfl hr6 ?_
        have HN6 := Lib.hid hn6
        clear hn6
        have S6 := S0.grown ho5 hg6
        replace S0 := S6
        clear ho5 hg6 hr6 S6 N4
        refine hK.out _ _ S0 (fun hHeld => ?_)
        clear hK K hHeld
        try simp only [Act.put, List.setIfInBounds_toArray, List.set_cons_zero, List.set_cons_succ]
        refine wpAnyH_take (i := 6) (oi := { dst := some 4, op := Op.assign (Operand.tmp 15), type := 25, pos := "l08_moves.go:26", after := #[{ on := 5, ground := Ground.data }, { on := 5, ground := Ground.chain }, { on := 0, ground := Ground.phase }, { on := 1, ground := Ground.phase }, { on := 2, ground := Ground.phase }, { on := 3, ground := Ground.phase }, { on := 4, ground := Ground.phase }, { on := 5, ground := Ground.phase }], guard := none }) (v := ?vva3) rfl (by kernel_rfl) (by kernel_rfl) (by kernel_rfl) (fun _ _ _ h => h) (Or.inl ⟨by rfl, ?hya3⟩) S0 ?resta3
        case hya3 => (intro w hSw; have hcx := hSw.key.cell; unfold Mv.ar at hcx; dsimp only at hcx;go_simp <;> with_reducible rfl)
        try simp only [Act.put, List.setIfInBounds_toArray, List.set_cons_zero, List.set_cons_succ]
        refine wpAnyH_done (by kernel_rfl) ?_ _
      rotate_left 1
      focus
        go_simp
        obtain ⟨Wn, q4, hWn, hq4, SN, N4, bn, hq1⟩ := S0.pack #[.int .i64 xv, .int .i64 xm, .int .i64 xt] 34
        try have hne := row_ne R0 hq4
        rw [hWn, hq4]
        try replace R0 := rown_below R0 bn
        try replace ho5 := rown_below ho5 bn
        replace S0 := SN
        clear hWn hq4 SN bn
        refine hK.out _ _ S0 (fun hHeld => ?_)
        clear hK K hHeld
        try simp only [Act.put, List.setIfInBounds_toArray, List.set_cons_zero, List.set_cons_succ]
        refine wpAnyH_ready (rs := [2]) (by kernel_rfl) (by simp) ?_
        refine AllReadyH.cons (o := { dst := some 12, op := Op.call { callee := Callee.builtin Builtin.append, args := #[Operand.tmp 10, Operand.tmp 11], argTypes := #[25, 25] }, type := 25, pos := "l08_moves.go:26", after := #[{ on := 0, ground := Ground.data }, { on := 1, ground := Ground.data }], guard := none }) rfl (fun K hK => ?_) AllReadyH.nil
        obtain ⟨a5, c5, n5, w5, hr5, hn5, ho5, hg5⟩ := run_append_sl Mv.cl_len Mv.cl_one1 tyM _ (w.heap.size + 1) _ [] D (some ⟨b, off + 3, none⟩) (cap - 1) HNl.out (HS2.out _ S0.bel) R0 (by simp <;> omega) S0.low 25
        refine stepAppW rfl _ _ _ rfl _ _ _ _ rfl rfl hr5 ?_
        rw [List.nil_append] at hn5 ho5
        subst hn5
        have S5 := S0.grown R0 hg5
        try replace N4 := N4.grown hg5 (own_neS hne)
        replace S0 := S5
        clear R0 hg5 hr5 S5
        refine hK.out _ _ S0 (fun hHeld => ?_)
        clear hK K hHeld
        try simp only [Act.put, List.setIfInBounds_toArray, List.set_cons_zero, List.set_cons_succ]
        refine wpAnyH_ready (rs := [5]) (by kernel_rfl) (by simp) ?_
        refine AllReadyH.cons (o := { dst := some 15, op := Op.call { callee := Callee.builtin Builtin.append, args := #[Operand.tmp 12, Operand.tmp 14], argTypes := #[25, 25] }, type := 25, pos := "l08_moves.go:26", after := #[{ on := 2, ground := Ground.data }, { on := 4, ground := Ground.data }, { on := 2, ground := Ground.chain }], guard := none }) rfl (fun K hK => ?_) AllReadyH.nil
        obtain ⟨a6, c6, n6, w6, hr6, hn6, ho6, hg6⟩ := run_append_one Mv.cl_len Mv.cl_one1 tyM _ (w.heap.size + 1) _ D (⟨xv, xm, xt⟩ : Mv) _ #[.int .i64 xv, .int .i64 xm, .int .i64 xt] rfl N4 ho5 (by omega) S0.low 25
        refine stepAppW rfl _ _ _ rfl _ _ _ _ rfl rfl hr6 ?_
        have HN6 := Lib.hid hn6
        clear hn6
        have S6 := S0.grown ho5 hg6
        replace S0 := S6
        clear ho5 hg6 hr6 S6 N4
        refine hK.out _ _ S0 (fun hHeld => ?_)
        clear hK K hHeld
        try simp only [Act.put, List.setIfInBounds_toArray, List.set_cons_zero, List.set_cons_succ]
        refine wpAnyH_take (i := 6) (oi := { dst := some 4, op := Op.assign (Operand.tmp 15), type := 25, pos := "l08_moves.go:26", after := #[{ on := 5, ground := Ground.data }, { on := 5, ground := Ground.chain }, { on := 0, ground := Ground.phase }, { on := 1, ground := Ground.phase }, { on := 2, ground := Ground.phase }, { on := 3, ground := Ground.phase }, { on := 4, ground := Ground.phase }, { on := 5, ground := Ground.phase }], guard := none }) (v := ?vva4) rfl (by kernel_rfl) (by kernel_rfl) (by kernel_rfl) (fun _ _ _ h => h) (Or.inl ⟨by rfl, ?hya4⟩) S0 ?resta4
        case hya4 => (intro w hSw; have hcx := hSw.key.cell; unfold Mv.ar at hcx; dsimp only at hcx;go_simp <;> with_reducible rfl)
        try simp only [Act.put, List.setIfInBounds_toArray, List.set_cons_zero, List.set_cons_succ]
        refine wpAnyH_done (by kernel_rfl) ?_ _
      rotate_left 1
    rotate_left 2
    focus
      go_simp
      obtain ⟨Wn, q4, hWn, hq4, SN, N4, bn, hq1⟩ := S0.pack #[.int .i64 xv, .int .i64 xm, .int .i64 xt] 34
      try have hne := row_ne R0 hq4
      rw [hWn, hq4]
      try replace R0 := rown_below R0 bn
      try replace ho5 := rown_below ho5 bn
      replace S0 := SN
      clear hWn hq4 SN bn
      refine hK.out _ _ S0 (fun hHeld => ?_)
      clear hK K hHeld
      try simp only [Act.put, List.setIfInBounds_toArray, List.set_cons_zero, List.set_cons_succ]
      refine wpAnyH_ready (rs := [0]) (by kernel_rfl) (by simp) ?_
      refine AllReadyH.cons (o := { dst := some 10, op := Op.buildSlice 25 0 #[], type := 25, pos := "l08_moves.go:26", after := #[], guard := none }) rfl (fun K hK => ?_) AllReadyH.nil
      go_simp
      obtain ⟨Wn, q0, hWn, hq0, SN, N0, bn, hq1⟩ := S0.pack #[] 34
      try have hne := lit_ne N4 hq0
      rw [hWn, hq0]
      have R0 := rowW_lit N0 hq1
      try replace N4 := N4.kept bn
      clear N0
      replace S0 := SN
      clear hWn hq0 SN bn
      refine hK.out _ _ S0 (fun hHeld => ?_)
      clear hK K hHeld
      try simp only [Act.put, List.setIfInBounds_toArray, List.set_cons_zero, List.set_cons_succ]
      refine wpAnyH_ready (rs := [2]) (by kernel_rfl) (by simp) ?_
      refine AllReadyH.cons (o := { dst := some 12, op := Op.call { callee := Callee.builtin Builtin.append, args := #[Operand.tmp 10, Operand.tmp 11], argTypes := #[25, 25] }, type := 25, pos := "l08_moves.go:26", after := #[{ on := 0, ground := Ground.data }, { on := 1, ground := Ground.data }], guard := none }) rfl (fun K hK => ?_) AllReadyH.nil
      obtain ⟨a5, c5, n5, w5, hr5, hn5, ho5, hg5⟩ := run_append_sl Mv.cl_len Mv.cl_one1 tyM _ (w.heap.size + 1) _ [] D (some ⟨b, off + 3, none⟩) (cap - 1) HNl.out (HS2.out _ S0.bel) R0 (by simp <;> omega) S0.low 25
      refine stepAppW rfl _ _ _ rfl _ _ _ _ rfl rfl hr5 ?_
      rw [List.nil_append] at hn5 ho5
      subst hn5
      have S5 := S0.grown R0 hg5
      try replace N4 := N4.grown hg5 (own_neS hne)
      replace S0 := S5
      clear R0 hg5 hr5 S5
      refine hK.out _ _ S0 (fun hHeld => ?_)
      clear hK K hHeld
      try simp only [Act.put, List.setIfInBounds_toArray, List.set_cons_zero, List.set_cons_succ]
      refine wpAnyH_ready (rs := [5]) (by kernel_rfl) (by simp) ?_
      refine AllReadyH.cons (o := { dst := some 15, op := Op.call { callee := Callee.builtin Builtin.append, args := #[Operand.tmp 12, Operand.tmp 14], argTypes := #[25, 25] }, type := 25, pos := "l08_moves.go:26", after := #[{ on := 2, ground := Ground.data }, { on := 4, ground := Ground.data }, { on := 2, ground := Ground.chain }], guard := none }) rfl (fun K hK => ?_) AllReadyH.nil
      obtain ⟨a6, c6, n6, w6, hr6, hn6, ho6, hg6⟩ := run_append_one Mv.cl_len Mv.cl_one1 tyM _ (w.heap.size + 1) _ D (⟨xv, xm, xt⟩ : Mv) _ #[.int .i64 xv, .int .i64 xm, .int .i64 xt] rfl N4 ho5 (by omega) S0.low 25
      refine stepAppW rfl _ _ _ rfl _ _ _ _ rfl rfl hr6 ?_
      have HN6 := Lib.hid hn6
      clear hn6
      have S6 := S0.grown ho5 hg6
      replace S0 := S6
      clear ho5 hg6 hr6 S6 N4
      refine hK.out _ _ S0 (fun hHeld => ?_)
      clear hK K hHeld
      try simp only [Act.put, List.setIfInBounds_toArray, List.set_cons_zero, List.set_cons_succ]
      refine wpAnyH_take (i := 6) (oi := { dst := some 4, op := Op.assign (Operand.tmp 15), type := 25, pos := "l08_moves.go:26", after := #[{ on := 5, ground := Ground.data }, { on := 5, ground := Ground.chain }, { on := 0, ground := Ground.phase }, { on := 1, ground := Ground.phase }, { on := 2, ground := Ground.phase }, { on := 3, ground := Ground.phase }, { on := 4, ground := Ground.phase }, { on := 5, ground := Ground.phase }], guard := none }) (v := ?vva5) rfl (by kernel_rfl) (by kernel_rfl) (by kernel_rfl) (fun _ _ _ h => h) (Or.inl ⟨by rfl, ?hya5⟩) S0 ?resta5
      case hya5 => (intro w hSw; have hcx := hSw.key.cell; unfold Mv.ar at hcx; dsimp only at hcx;go_simp <;> with_reducible rfl)
      try simp only [Act.put, List.setIfInBounds_toArray, List.set_cons_zero, List.set_cons_succ]
      refine wpAnyH_done (by kernel_rfl) ?_ _
    rotate_left 1
    all_goals
      have HO6 := Lib.hid ho6
      have HB6 := Lib.hid S0.bel
      clear ho6 S0
      go_wp2_with fail
      go_ret
      exact ⟨_, rfl, by rw [HPL.out, ← HN6.out]; exact rown_mono (B := w.heap.size + 1) HO6.out (Nat.le_succ _), HB6.out⟩
  · have hg : ¬ (30 : Int) ≤ (l.length : Int) := by omega
    have hcw : cutW l = l := by unfold cutW; rw [if_neg h30]
    rw [hcw] at hpw
    have HPL := Lib.hid hpw
    clear hpw
    have HS2 := HSl
    have HNl := HNil
    have hlen : l.length ≤ 30 := by omega
    clear HD HSl HNil hcw hbox
    go_enter Try.func88, Try.ntmps88
    go_upto_region 1 with fail
    generalize w.alloc (.cells #[.int .i64 xv, .int .i64 xm, .int .i64 xt] 34) = W0 at *
    go_upto_region 3 with fail
    replace S0 : PuK w W0.drew _ := ⟨S0.key.drew, S0.bel.drew⟩
    refine wp_region_held_drew (S := fun W' => PuK w W' _) (by kernel_rfl) S0 (fun hHeld => ?_)
    clear hHeld
    generalize W0.drew = Wd at *
    refine wpAnyH_take (i := 1) (oi := { dst := some 11, op := Op.move (Operand.tmp 0), type := 25, pos := "l08_moves.go:26", after := #[], guard := none }) (v := ?vvb1) rfl (by kernel_rfl) (by kernel_rfl) (by kernel_rfl) (fun _ _ _ h => h) (Or.inl ⟨by rfl, ?hyb1⟩) S0 ?restb1
    case hyb1 => (intro w hSw; have hcx := hSw.key.cell; unfold Mv.ar at hcx; dsimp only at hcx;go_simp <;> with_reducible rfl)
    try simp only [Act.put, List.setIfInBounds_toArray, List.set_cons_zero, List.set_cons_succ]
    refine wpAnyH_take (i := 3) (oi := { dst := some 13, op := Op.load 34 (Operand.tmp 3), type := 34, pos := "l08_moves.go:26", after := #[], guard := none }) (v := ?vvb2) rfl (by kernel_rfl) (by kernel_rfl) (by kernel_rfl) (fun _ _ _ h => h) (Or.inl ⟨by rfl, ?hyb2⟩) S0 ?restb2
    case hyb2 => (intro w hSw; have hcx := hSw.key.cell; unfold Mv.ar at hcx; dsimp only at hcx;go_simp <;> with_reducible rfl)
    try simp only [Act.put, List.setIfInBounds_toArray, List.set_cons_zero, List.set_cons_succ]
    refine wpAnyH_ready (rs := [0, 4]) (by kernel_rfl) (by simp) ?_
    refine (AllReadyH.cons (o := { dst := some 10, op := Op.buildSlice 25 0 #[], type := 25, pos := "l08_moves.go:26", after := #[], guard := none }) rfl (fun K hK => ?_) (AllReadyH.cons (o := { dst := some 14, op := Op.buildSlice 25 1 #[(0, Operand.tmp 13)], type := 25, pos := "l08_moves.go:26", after := #[{ on := 3, ground := Ground.data }], guard := none }) rfl (fun K hK => ?_) AllReadyH.nil))
    focus
      go_simp
      obtain ⟨Wn, q0, hWn, hq0, SN, N0, bn, hq1⟩ := S0.pack #[] 34
      try have hne := lit_ne N4 hq0
      rw [hWn, hq0]
      have R0 := rowW_lit N0 hq1
      try replace N4 := N4.kept bn
      clear N0
      replace S0 := SN
      clear hWn hq0 SN bn
      refine hK.out _ _ S0 (fun hHeld => ?_)
      clear hK K hHeld
      try simp only [Act.put, List.setIfInBounds_toArray, List.set_cons_zero, List.set_cons_succ]
      refine wpAnyH_ready (rs := [2, 4]) (by kernel_rfl) (by simp) ?_
      refine (AllReadyH.cons (o := { dst := some 12, op := Op.call { callee := Callee.builtin Builtin.append, args := #[Operand.tmp 10, Operand.tmp 11], argTypes := #[25, 25] }, type := 25, pos := "l08_moves.go:26", after := #[{ on := 0, ground := Ground.data }, { on := 1, ground := Ground.data }], guard := none }) rfl (fun K hK => ?_) (AllReadyH.cons (o := { dst := some 14, op := Op.buildSlice 25 1 #[(0, Operand.tmp 13)], type := 25, pos := "l08_moves.go:26", after := #[{ on := 3, ground := Ground.data }], guard := none }) rfl (fun K hK => ?_) AllReadyH.nil))
      focus
        obtain ⟨a5, c5, n5, w5, hr5, hn5, ho5, hg5⟩ := run_append_sl Mv.cl_len Mv.cl_one1 tyM _ (w.heap.size + 1) _ [] l a cap HNl.out (HS2.out _ S0.bel) R0 (by simp <;> omega) S0.low 25
        refine stepAppW rfl _ _ _ rfl _ _ _ _ rfl rfl hr5 ?_
        rw [List.nil_append] at hn5 ho5
        subst hn5
        have S5 := S0.grown R0 hg5
        try replace N4 := N4.grown hg5 (own_neS hne)
        replace S0 := S5
        clear R0 hg5 hr5 S5
        refine hK.out _ _ S0 (fun hHeld => ?_)
        clear hK K hHeld
        try simp only [Act.put, List.setIfInBounds_toArray, List.set_cons_zero, List.set_cons_succ]
        refine wpAnyH_ready (rs := [4]) (by kernel_rfl) (by simp) ?_
        refine AllReadyH.cons (o := { dst := some 14, op := Op.buildSlice 25 1 #[(0, Operand.tmp 13)], type := 25, pos := "l08_moves.go:26", after := #[{ on := 3, ground := Ground.data }], guard := none }) rfl (fun K hK => ?_) AllReadyH.nil
        go_simp
        obtain ⟨Wn, q4, hWn, hq4, SN, N4, bn, hq1⟩ := S0.pack #[.int .i64 xv, .int .i64 xm, .int .i64 xt] 34
        try have hne := row_ne R0 hq4
        rw [hWn, hq4]
        try replace R0 := rown_below R0 bn
        try replace ho5 := rown_below ho5 bn
        replace S0 := SN
        clear hWn hq4 SN bn
        refine hK.out _ _ S0 (fun hHeld => ?_)
        clear hK K hHeld
        try simp only [Act.put, List.setIfInBounds_toArray, List.set_cons_zero, List.set_cons_succ]
        refine wpAnyH_ready (rs := [5]) (by kernel_rfl) (by simp) ?_
        refine AllReadyH.cons (o := { dst := some 15, op := Op.call { callee := Callee.builtin Builtin.append, args := #[Operand.tmp 12, Operand.tmp 14], argTypes := #[25, 25] }, type := 25, pos := "l08_moves.go:26", after := #[{ on := 2, ground := Ground.data }, { on := 4, ground := Ground.data }, { on := 2, ground := Ground.chain }], guard := none }) rfl (fun K hK => ?_) AllReadyH.nil
        obtain ⟨a6, c6, n6, w6, hr6, hn6, ho6, hg6⟩ := run_append_one Mv.cl_len Mv.cl_one1 tyM _ (w.heap.size + 1) _ l (⟨xv, xm, xt⟩ : Mv) _ #[.int .i64 xv, .int .i64 xm, .int .i64 xt] rfl N4 ho5 (by omega) S0.low 25
        refine stepAppW rfl _ _ _ rfl _ _ _ _ rfl rfl hr6 ?_
        have HN6 := Lib.hid hn6
        clear hn6
        have S6 := S0.grown ho5 hg6
        replace S0 := S6
        clear ho5 hg6 hr6 S6 N4
        refine hK.out _ _ S0 (fun hHeld => ?_)
        clear hK K hHeld
        try simp only [Act.put, List.setIfInBounds_toArray, List.set_cons_zero, List.set_cons_succ]
        refine wpAnyH_take (i := 6) (oi := { dst := some 4, op := Op.assign (Operand.tmp 15), type := 25, pos := "l08_moves.go:26", after := #[{ on := 5, ground := Ground.data }, { on := 5, ground := Ground.chain }, { on := 0, ground := Ground.phase }, { on := 1, ground := Ground.phase }, { on := 2, ground := Ground.phase }, { on := 3, ground := Ground.phase }, { on := 4, ground := Ground.phase }, { on := 5, ground := Ground.phase }], guard := none }) (v := ?vvb3) rfl (by kernel_rfl) (by kernel_rfl) (by kernel_rfl) (fun _ _ _ h => h) (Or.inl ⟨by rfl, ?hyb3⟩) S0 ?restb3
        case hyb3 => (intro w hSw; have hcx := hSw.key.cell; unfold Mv.ar at hcx; dsimp only at hcx;go_simp <;> with_reducible rfl)
        try simp only [Act.put, List.setIfInBounds_toArray, List.set_cons_zero, List.set_cons_succ]
        refine wpAnyH_done (by kernel_rfl) ?_ _
      rotate_left 1
      focus
        go_simp
        obtain ⟨Wn, q4, hWn, hq4, SN, N4, bn, hq1⟩ := S0.pack #[.int .i64 xv, .int .i64 xm, .int .i64 xt] 34
        try have hne := row_ne R0 hq4
        rw [hWn, hq4]
        try replace R0 := rown_below R0 bn
        try replace ho5 := rown_below ho5 bn
        replace S0 := SN
        clear hWn hq4 SN bn
        refine hK.out _ _ S0 (fun hHeld => ?_)
        clear hK K hHeld
        try simp only [Act.put, List.setIfInBounds_toArray, List.set_cons_zero, List.set_cons_succ]
        refine wpAnyH_ready (rs := [2]) (by kernel_rfl) (by simp) ?_
        refine AllReadyH.cons (o := { dst := some 12, op := Op.call { callee := Callee.builtin Builtin.append, args := #[Operand.tmp 10, Operand.tmp 11], argTypes := #[25, 25] }, type := 25, pos := "l08_moves.go:26", after := #[{ on := 0, ground := Ground.data }, { on := 1, ground := Ground.data }], guard := none }) rfl (fun K hK => ?_) AllReadyH.nil
        obtain ⟨a5, c5, n5, w5, hr5, hn5, ho5, hg5⟩ := run_append_sl Mv.cl_len Mv.cl_one1 tyM _ (w.heap.size + 1) _ [] l a cap HNl.out (HS2.out _ S0.bel) R0 (by simp <;> omega) S0.low 25
        refine stepAppW rfl _ _ _ rfl _ _ _ _ rfl rfl hr5 ?_
        rw [List.nil_append] at hn5 ho5
        subst hn5
        have S5 := S0.grown R0 hg5
        try replace N4 := N4.grown hg5 (own_neS hne)
        replace S0 := S5
        clear R0 hg5 hr5 S5
        refine hK.out _ _ S0 (fun hHeld => ?_)
        clear hK K hHeld
        try simp only [Act.put, List.setIfInBounds_toArray, List.set_cons_zero, List.set_cons_succ]
        refine wpAnyH_ready (rs := [5]) (by kernel_rfl) (by simp) ?_
        refine AllReadyH.cons (o := { dst := some 15, op := Op.call { callee := Callee.builtin Builtin.append, args := #[Operand.tmp 12, Operand.tmp 14], argTypes := #[25, 25] }, type := 25, pos := "l08_moves.go:26", after := #[{ on := 2, ground := Ground.data }, { on := 4, ground := Ground.data }, { on := 2, ground := Ground.chain }], guard := none }) rfl (fun K hK => ?_) AllReadyH.nil
        obtain ⟨a6, c6, n6, w6, hr6, hn6, ho6, hg6⟩ := run_append_one Mv.cl_len Mv.cl_one1 tyM _ (w.heap.size + 1) _ l (⟨xv, xm, xt⟩ : Mv) _ #[.int .i64 xv, .int .i64 xm, .int .i64 xt] rfl N4 ho5 (by omega) S0.low 25
        refine stepAppW rfl _ _ _ rfl _ _ _ _ rfl rfl hr6 ?_
        have HN6 := Lib.hid hn6
        clear hn6
        have S6 := S0.grown ho5 hg6
        replace S0 := S6
        clear ho5 hg6 hr6 S6 N4
        refine hK.out _ _ S0 (fun hHeld => ?_)
        clear hK K hHeld
        try simp only [Act.put, List.setIfInBounds_toArray, List.set_cons_zero, List.set_cons_succ]
        refine wpAnyH_take (i := 6) (oi := { dst := some 4, op := Op.assign (Operand.tmp 15), type := 25, pos := "l08_moves.go:26", after := #[{ on := 5, ground := Ground.data }, { on := 5, ground := Ground.chain }, { on := 0, ground := Ground.phase }, { on := 1, ground := Ground.phase }, { on := 2, ground := Ground.phase }, { on := 3, ground := Ground.phase }, { on := 4, ground := Ground.phase }, { on := 5, ground := Ground.phase }], guard := none }) (v := ?vvb4) rfl (by kernel_rfl) (by kernel_rfl) (by kernel_rfl) (fun _ _ _ h => h) (Or.inl ⟨by rfl, ?hyb4⟩) S0 ?restb4
        case hyb4 => (intro w hSw; have hcx := hSw.key.cell; unfold Mv.ar at hcx; dsimp only at hcx;go_simp <;> with_reducible rfl)
        try simp only [Act.put, List.setIfInBounds_toArray, List.set_cons_zero, List.set_cons_succ]
        refine wpAnyH_done (by kernel_rfl) ?_ _
      rotate_left 1
    rotate_left 2
    focus
      go_simp
      obtain ⟨Wn, q4, hWn, hq4, SN, N4, bn, hq1⟩ := S0.pack #[.int .i64 xv, .int .i64 xm, .int .i64 xt] 34
      try have hne := row_ne R0 hq4
      rw [hWn, hq4]
      try replace R0 := rown_below R0 bn
      try replace ho5 := rown_below ho5 bn
      replace S0 := SN
      clear hWn hq4 SN bn
      refine hK.out _ _ S0 (fun hHeld => ?_)
      clear hK K hHeld
      try simp only [Act.put, List.setIfInBounds_toArray, List.set_cons_zero, List.set_cons_succ]
      refine wpAnyH_ready (rs := [0]) (by kernel_rfl) (by simp) ?_
      refine AllReadyH.cons (o := { dst := some 10, op := Op.buildSlice 25 0 #[], type := 25, pos := "l08_moves.go:26", after := #[], guard := none }) rfl (fun K hK => ?_) AllReadyH.nil
      go_simp
      obtain ⟨Wn, q0, hWn, hq0, SN, N0, bn, hq1⟩ := S0.pack #[] 34
      try have hne := lit_ne N4 hq0
      rw [hWn, hq0]
      have R0 := rowW_lit N0 hq1
      try replace N4 := N4.kept bn
      clear N0
      replace S0 := SN
      clear hWn hq0 SN bn
      refine hK.out _ _ S0 (fun hHeld => ?_)
      clear hK K hHeld
      try simp only [Act.put, List.setIfInBounds_toArray, List.set_cons_zero, List.set_cons_succ]
      refine wpAnyH_ready (rs := [2]) (by kernel_rfl) (by simp) ?_
      refine AllReadyH.cons (o := { dst := some 12, op := Op.call { callee := Callee.builtin Builtin.append, args := #[Operand.tmp 10, Operand.tmp 11], argTypes := #[25, 25] }, type := 25, pos := "l08_moves.go:26", after := #[{ on := 0, ground := Ground.data }, { on := 1, ground := Ground.data }], guard := none }) rfl (fun K hK => ?_) AllReadyH.nil
      obtain ⟨a5, c5, n5, w5, hr5, hn5, ho5, hg5⟩ := run_append_sl Mv.cl_len Mv.cl_one1 tyM _ (w.heap.size + 1) _ [] l a cap HNl.out (HS2.out _ S0.bel) R0 (by simp <;> omega) S0.low 25
      refine stepAppW rfl _ _ _ rfl _ _ _ _ rfl rfl hr5 ?_
      rw [List.nil_append] at hn5 ho5
      subst hn5
      have S5 := S0.grown R0 hg5
      try replace N4 := N4.grown hg5 (own_neS hne)
      replace S0 := S5
      clear R0 hg5 hr5 S5
      refine hK.out _ _ S0 (fun hHeld => ?_)
      clear hK K hHeld
      try simp only [Act.put, List.setIfInBounds_toArray, List.set_cons_zero, List.set_cons_succ]
      refine wpAnyH_ready (rs := [5]) (by kernel_rfl) (by simp) ?_
      refine AllReadyH.cons (o := { dst := some 15, op := Op.call { callee := Callee.builtin Builtin.append, args := #[Operand.tmp 12, Operand.tmp 14], argTypes := #[25, 25] }, type := 25, pos := "l08_moves.go:26", after := #[{ on := 2, ground := Ground.data }, { on := 4, ground := Ground.data }, { on := 2, ground := Ground.chain }], guard := none }) rfl (fun K hK => ?_) AllReadyH.nil
      obtain ⟨a6, c6, n6, w6, hr6, hn6, ho6, hg6⟩ := run_append_one Mv.cl_len Mv.cl_one1 tyM _ (w.heap.size + 1) _ l (⟨xv, xm, xt⟩ : Mv) _ #[.int .i64 xv, .int .i64 xm, .int .i64 xt] rfl N4 ho5 (by omega) S0.low 25
      refine stepAppW rfl _ _ _ rfl _ _ _ _ rfl rfl hr6 ?_
      have HN6 := Lib.hid hn6
      clear hn6
      have S6 := S0.grown ho5 hg6
      replace S0 := S6
      clear ho5 hg6 hr6 S6 N4
      refine hK.out _ _ S0 (fun hHeld => ?_)
      clear hK K hHeld
      try simp only [Act.put, List.setIfInBounds_toArray, List.set_cons_zero, List.set_cons_succ]
      refine wpAnyH_take (i := 6) (oi := { dst := some 4, op := Op.assign (Operand.tmp 15), type := 25, pos := "l08_moves.go:26", after := #[{ on := 5, ground := Ground.data }, { on := 5, ground := Ground.chain }, { on := 0, ground := Ground.phase }, { on := 1, ground := Ground.phase }, { on := 2, ground := Ground.phase }, { on := 3, ground := Ground.phase }, { on := 4, ground := Ground.phase }, { on := 5, ground := Ground.phase }], guard := none }) (v := ?vvb5) rfl (by kernel_rfl) (by kernel_rfl) (by kernel_rfl) (fun _ _ _ h => h) (Or.inl ⟨by rfl, ?hyb5⟩) S0 ?restb5
      case hyb5 => (intro w hSw; have hcx := hSw.key.cell; unfold Mv.ar at hcx; dsimp only at hcx;go_simp <;> with_reducible rfl)
      try simp only [Act.put, List.setIfInBounds_toArray, List.set_cons_zero, List.set_cons_succ]
      refine wpAnyH_done (by kernel_rfl) ?_ _
    rotate_left 1
    all_goals
      have HO6 := Lib.hid ho6
      have HB6 := Lib.hid S0.bel
      clear ho6 S0
      go_wp2_with fail
      go_ret
      exact ⟨_, rfl, by rw [HPL.out, ← HN6.out]; exact rown_mono (B := w.heap.size + 1) HO6.out (Nat.le_succ _), HB6.out⟩
end Go.Proofs.Ythilmonokhdjmaa
