/- A heap of held routes: Push and Pop, the methods. -/
import Derived.Test.YthdldanfmdnlfabHpW
namespace Go.Proofs.Ythdldanfmdnlfab
open Go.RowKit

theorem step_run_app {P : Program} {ops : Array Oper} {o : Oper} {a : Act} {w : World} {K : Act → World → Prop} {Q : Exit → Act → World → Prop} {E : Prop}
    (hg : o.guard = none) (s x : Operand) (t : TypeId) (hop : o.op = Op.call { callee := Callee.builtin Builtin.append, args := #[s, x], argTypes := #[t, t] })
    (v u r : Value) (w' : World) (hs : a.eval s = v) (hx : a.eval x = u) (hrun : (Builtin.append_ #[t, t] o.type #[v, u]).run P w = .ok r w') (hK : K (a.put o.dst r) w') :
    if Region.wanted o (yielded ops a.tmps) = true then Oper.wp P o a w K Q else E := by
  have hw : Region.wanted o (yielded ops a.tmps) = true := by simp [Region.wanted, hg]
  rw [if_pos hw]
  unfold Oper.wp
  simp [execOp, hop, resolve, invoke, builtin, hs, hx, hrun, Result.andThen]
  exact hK
theorem run_append_rowAt (W : World) (B : Nat) (v : Value) (l0 : List Hd) (p : Hd) (cs : Array Value) (hcs : cs.toList = p.cl) (hown : W.ownsRow B 74 9 v l0.length (rcells Hd.cl l0)) (h0 : l0.length ≤ 1100000) (hB : B ≤ W.heap.size) (ty : TypeId) :
    ∃ a' c' n' w', (Builtin.append_ #[116, 116] ty #[v, .slice (some ⟨W.heap.size, 0, none⟩) 1 1]).run Try.prog (W.alloc (.cells cs 74)) = .ok (.slice a' n' c') w' ∧ n' = (l0 ++ [p]).length ∧ w'.ownsRow B 74 9 (.slice a' n' c') n' (rcells Hd.cl (l0 ++ [p])) ∧ (W.alloc (.cells cs 74)).grownBy w' v.ownBlock ∧ ((Value.slice a' n' c').ownBlock = v.ownBlock ∨ (Value.slice a' n' c').ownBlock = some (W.heap.size + 1)) := by
  obtain ⟨i0, z, hi0, hz0, hz1, hz2, hz3⟩ := tyH.info
  have hc : ∀ j u, p.cl[j]? = some u → (W.alloc (.cells cs 74)).cell? ((⟨W.heap.size, 0, none⟩ : Addr).add j) = some u := fun j u hj => by
    rw [Addr.add_lit, (Blk.new W 74 cs).cell, Nat.zero_add, ← hj, ← hcs, Array.getElem?_toList]
  obtain ⟨v', w', hrun, ho, hg, _, hloc⟩ := run_append_own_at (P := Try.prog) (W.alloc (.cells cs 74)) B 116 ty 74 i0 z 9 72 Try.underlying116 hi0 hz0 hz1 hz2 hz3 (by decide) v l0.length (rcells Hd.cl l0) (hown.alloc _) ⟨W.heap.size, 0, none⟩ 1 1 p.cl rfl hc (Hd.cl_one1 p) (by unfold maxLen; omega) (by omega) (by simp; omega)
  have hl' : l0.length + 1 = (l0 ++ [p]).length := by simp
  rw [hl', ← rcells_snoc] at ho
  rw [World.size_alloc] at hloc
  obtain ⟨a', c', rfl⟩ := rown_form ho
  exact ⟨a', c', _, w', hrun, rfl, ho, hg, hloc⟩
def HpPost (B hb : Nat) (es es' : List Hd) (a : Option Addr) (c : Nat) (w : World) (e : Ending) (w' : World) : Prop :=
  (∃ v, e = .returned v) ∧ ∃ a' c', HpAt w' B hb es' a' c' ∧ Hp2 w w' hb (.slice a es.length c) (.slice a' es'.length c')
theorem push_end {w Wd w5 : World} {B hb c n5 c5 : Nat} {a a5 : Option Addr} {es es' : List Hd} {o : Obj} (H : HpAt w B hb es a c) (hsz : w.heap.size ≤ Wd.heap.size) (hos : Wd.os = w.os ∧ Wd.tape = w.tape ∧ Wd.output = w.output) (hk : ∀ k, k < w.heap.size → Wd.heap[k]? = w.heap[k]?) (hOwn : Wd.ownsRow B 74 9 (.slice a es.length c) es.length (rcells Hd.cl es))
    (ho : w5.ownsRow B 74 9 (.slice a5 n5 c5) n5 (rcells Hd.cl es')) (hn5 : n5 = es'.length) (hg : (Wd.alloc o).grownBy w5 (Value.slice a es.length c).ownBlock) (hloc : (Value.slice a5 n5 c5).ownBlock = (Value.slice a es.length c).ownBlock ∨ (Value.slice a5 n5 c5).ownBlock = some (Wd.heap.size + 1)) :
    Blk w5 hb 116 #[.slice a es.length c] ∧ (HpAt (w5.setCell ⟨hb, 0, none⟩ (.slice a5 n5 c5)) B hb es' a5 c5 ∧ Hp2 w (w5.setCell ⟨hb, 0, none⟩ (.slice a5 n5 c5)) hb (.slice a es.length c) (.slice a5 es'.length c5)) := by
  subst hn5
  have hbx : Blk (Wd.alloc o) hb 116 #[.slice a es.length c] := by
    unfold Blk
    rw [Below.heap_alloc Wd o hb (Nat.lt_of_lt_of_le H.box.lt hsz), hk hb H.box.lt]
    exact H.box
  have hne : ∀ {v : Value} {n : Nat} {xs : List Value} {W : World} {cs : Array Value}, Blk W hb 116 cs → W.ownsRow B 74 9 v n xs → some hb ≠ v.ownBlock := fun {v n xs W cs} h ho => by
    rcases ho.2 with ⟨rfl, _⟩ | ⟨g, cap, cu, rfl, _, hg, _⟩
    · simp [Value.ownBlock]
    · intro e
      simp [Value.ownBlock] at e
      subst e
      unfold Blk at h
      rw [h] at hg
      simp at hg
  have hb5 : Blk w5 hb 116 #[.slice a es.length c] := hbx.grown hg (hne hbx (hOwn.alloc o))
  refine ⟨hb5, ⟨?_, ?_⟩, ?_⟩
  · have := hb5.set 0 (.slice a5 es'.length c5)
    simp only [List.setIfInBounds_toArray, List.set_cons_zero] at this
    exact this
  · exact ho.kept (row := some hb) (grownSet (World.grownBy.refl _ _)) (.inr (fun e => hne hb5 ho e.symm))
  · refine ⟨hg.os.trans hos.1, hg.tape.trans hos.2.1, hg.output.trans hos.2.2, ?_, fun k hk1 h1 h2 => ?_, fun k hk1 => ?_⟩
    · have := hg.size
      simp at this ⊢
      omega
    · rw [Below.heap_setCell _ _ _ k h1, hg.block k (by simp; omega) h2, Below.heap_alloc Wd o k (by omega), hk k hk1]
    · rcases hloc with e | e
      · exact .inl (by rw [← e]; exact hk1)
      · right
        rw [hk1] at e
        injection e with e
        omega
theorem ta_held (v : Value) (w : World) : (Instr.typeAssert (.iface 74 v) 20 74 true).run Try.prog w = .ok (.tuple #[v, .bool true]) w := by kernel_rfl
set_option maxRecDepth 100000 in
set_option maxHeartbeats 4000000 in
theorem hpPushM_any (B hb : Nat) (es : List Hd) (c : Nat) (a : Option Addr) (x : Hd) (w : World) (H : HpAt w B hb es a c) (hn : es.length ≤ 1000000) (hB : B ≤ w.heap.size) :
    Calls Try.prog 188 #[.pointer (some ⟨hb, 0, none⟩), .iface 74 x.val] w (HpPost B hb es (es ++ [x]) a c w) := by
  unfold HpPost
  have hcB := H.box.cell
  have XA := Blk.new w 74 x.ar
  have BA : Below w.heap.size w (w.alloc (.cells x.ar 74)) := (Below.refl _ _).alloc (Nat.le_refl _) _
  have OA := H.row.alloc (.cells x.ar 74)
  have HBX := H.box.alloc (.cells x.ar 74)
  have hta := ta_held x.val
  unfold Hd.val at hta ⊢
  unfold Hd.ar at XA BA OA HBX
  go_enter Try.func188, Try.ntmps188
  go_upto_region 2 with fail
  generalize (w.alloc (.cells #[.int .i64 x.p, .bool x.s, .int .i64 x.r.kind, .int .i64 x.r.vni, .int .i64 x.r.mac, .int .i64 x.r.ip, .int .i64 x.r.org, .int .i64 x.r.seq, .bool x.r.st] 74)) = W6 at *
  replace XA : Blk W6.drew w.heap.size 74 #[.int .i64 x.p, .bool x.s, .int .i64 x.r.kind, .int .i64 x.r.vni, .int .i64 x.r.mac, .int .i64 x.r.ip, .int .i64 x.r.org, .int .i64 x.r.seq, .bool x.r.st] := XA
  replace BA : Below w.heap.size w W6.drew := BA.drew
  replace OA : W6.drew.ownsRow B 74 9 (.slice a es.length c) es.length (rcells Hd.cl es) := OA
  replace HBX : Blk W6.drew hb 116 #[.slice a es.length c] := HBX
  clear hta hcB
  refine wp_region_any (by kernel_rfl) ?_
  try (change wpAny _ _ _ _ _ _ _ (World.drew _))
  generalize W6.drew = Wd at *
  have hlt1 := HBX.lt
  have hlt2 := XA.lt
  have cX := XA.cell
  have cB := HBX.cell
  obtain ⟨a5, c5, n5, w5, hrun, hn5, hown5, hg5, hloc5⟩ := run_append_rowAt Wd B (.slice a es.length c) es x #[.int .i64 x.p, .bool x.s, .int .i64 x.r.kind, .int .i64 x.r.vni, .int .i64 x.r.mac, .int .i64 x.r.ip, .int .i64 x.r.org, .int .i64 x.r.seq, .bool x.r.st] rfl OA (by omega) (Nat.le_trans hB BA.size) 116
  have HRUN := Lib.hid hrun
  have HE := Lib.hid (push_end H BA.size ⟨BA.os, BA.tape, BA.output⟩ BA.block OA hown5 hn5 hg5 hloc5)
  have c5x := HE.out.1.cell
  have f5x := HE.out.1.frozen
  clear hrun hown5 hn5 hg5 hloc5 XA BA OA HBX
  refine wpAny_take (i := 0) (v := ?vva1) rfl (by kernel_rfl) (by kernel_rfl) (by kernel_rfl) (fun _ _ _ h => h) (Or.inl ⟨by rfl, ?hya1⟩) ?resta1
  case hya1 => (intro w; go_simp <;> with_reducible rfl)
  refine wpAny_take (i := 1) (v := ?vva2) rfl (by kernel_rfl) (by kernel_rfl) (by kernel_rfl) (fun _ _ _ h => h) (Or.inl ⟨by rfl, ?hya2⟩) ?resta2
  case hya2 => (intro w; go_simp <;> with_reducible rfl)
  refine wpAny_take (i := 2) (v := ?vva3) rfl (by kernel_rfl) (by kernel_rfl) (by kernel_rfl) (fun _ _ _ h => h) (Or.inl ⟨by rfl, ?hya3⟩) ?resta3
  case hya3 => (intro w; go_simp <;> with_reducible rfl)
  refine wpAny_ready (rs := [3, 4]) (by kernel_rfl) (by simp) ?_
  refine (AllReady.cons (o := { dst := some 15, op := Op.load 116 (Operand.tmp 14), type := 116, pos := "l06_rib.go:69", after := #[{ on := 2, ground := Ground.data }], guard := none }) rfl (fun K hK => ?_) (AllReady.cons (o := { dst := some 16, op := Op.load 74 (Operand.tmp 4), type := 74, pos := "l06_rib.go:69", after := #[], guard := none }) rfl (fun K hK => ?_) AllReady.nil))
  focus
    go_simp
    refine hK _ _ ?_
    clear hK K
    refine wpAny_ready (rs := [4]) (by kernel_rfl) (by simp) ?_
    refine AllReady.cons (o := { dst := some 16, op := Op.load 74 (Operand.tmp 4), type := 74, pos := "l06_rib.go:69", after := #[], guard := none }) rfl (fun K hK => ?_) AllReady.nil
    go_simp
    refine hK _ _ ?_
    clear hK K
    refine wpAny_ready (rs := [5]) (by kernel_rfl) (by simp) ?_
    refine AllReady.cons (o := { dst := some 17, op := Op.buildSlice 116 1 #[(0, Operand.tmp 16)], type := 116, pos := "l06_rib.go:69", after := #[{ on := 4, ground := Ground.data }], guard := none }) rfl (fun K hK => ?_) AllReady.nil
    go_simp
    refine hK _ _ ?_
    clear hK K
    refine wpAny_ready (rs := [6]) (by kernel_rfl) (by simp) ?_
    refine AllReady.cons (o := { dst := some 18, op := Op.call { callee := Callee.builtin Builtin.append, args := #[Operand.tmp 15, Operand.tmp 17], argTypes := #[116, 116] }, type := 116, pos := "l06_rib.go:69", after := #[{ on := 3, ground := Ground.data }, { on := 5, ground := Ground.data }], guard := none }) rfl (fun K hK => ?_) AllReady.nil
    refine step_run_app rfl _ _ _ rfl _ _ _ _ rfl rfl HRUN.out ?_
    refine hK _ _ ?_
    clear hK K
    refine wpAny_take (i := 7) (v := ?vva4) rfl (by kernel_rfl) (by kernel_rfl) (by kernel_rfl) (fun _ _ _ h => h) (Or.inl ⟨by rfl, ?hya4⟩) ?resta4
    case hya4 => (intro w; go_simp <;> with_reducible rfl)
    refine wpAny_ready (rs := [8]) (by kernel_rfl) (by simp) ?_
    refine AllReady.cons (o := { dst := none, op := Op.store 116 (Operand.tmp 19) (Operand.tmp 18), type := 0, pos := "l06_rib.go:69", after := #[{ on := 7, ground := Ground.data }, { on := 6, ground := Ground.data }, { on := 6, ground := Ground.chain }, { on := 0, ground := Ground.phase }, { on := 1, ground := Ground.phase }, { on := 2, ground := Ground.phase }, { on := 3, ground := Ground.phase }, { on := 4, ground := Ground.phase }, { on := 5, ground := Ground.phase }, { on := 6, ground := Ground.phase }], guard := none }) rfl (fun K hK => ?_) AllReady.nil
    go_simp
    refine hK _ _ ?_
    clear hK K
    refine wpAny_done (by kernel_rfl) ?_ _
  rotate_left 1
  focus
    go_simp
    refine hK _ _ ?_
    clear hK K
    refine wpAny_ready (rs := [3, 5]) (by kernel_rfl) (by simp) ?_
    refine (AllReady.cons (o := { dst := some 15, op := Op.load 116 (Operand.tmp 14), type := 116, pos := "l06_rib.go:69", after := #[{ on := 2, ground := Ground.data }], guard := none }) rfl (fun K hK => ?_) (AllReady.cons (o := { dst := some 17, op := Op.buildSlice 116 1 #[(0, Operand.tmp 16)], type := 116, pos := "l06_rib.go:69", after := #[{ on := 4, ground := Ground.data }], guard := none }) rfl (fun K hK => ?_) AllReady.nil))
    focus
      go_simp
      refine hK _ _ ?_
      clear hK K
      refine wpAny_ready (rs := [5]) (by kernel_rfl) (by simp) ?_
      refine AllReady.cons (o := { dst := some 17, op := Op.buildSlice 116 1 #[(0, Operand.tmp 16)], type := 116, pos := "l06_rib.go:69", after := #[{ on := 4, ground := Ground.data }], guard := none }) rfl (fun K hK => ?_) AllReady.nil
      go_simp
      refine hK _ _ ?_
      clear hK K
      refine wpAny_ready (rs := [6]) (by kernel_rfl) (by simp) ?_
      refine AllReady.cons (o := { dst := some 18, op := Op.call { callee := Callee.builtin Builtin.append, args := #[Operand.tmp 15, Operand.tmp 17], argTypes := #[116, 116] }, type := 116, pos := "l06_rib.go:69", after := #[{ on := 3, ground := Ground.data }, { on := 5, ground := Ground.data }], guard := none }) rfl (fun K hK => ?_) AllReady.nil
      refine step_run_app rfl _ _ _ rfl _ _ _ _ rfl rfl HRUN.out ?_
      refine hK _ _ ?_
      clear hK K
      refine wpAny_take (i := 7) (v := ?vva5) rfl (by kernel_rfl) (by kernel_rfl) (by kernel_rfl) (fun _ _ _ h => h) (Or.inl ⟨by rfl, ?hya5⟩) ?resta5
      case hya5 => (intro w; go_simp <;> with_reducible rfl)
      refine wpAny_ready (rs := [8]) (by kernel_rfl) (by simp) ?_
      refine AllReady.cons (o := { dst := none, op := Op.store 116 (Operand.tmp 19) (Operand.tmp 18), type := 0, pos := "l06_rib.go:69", after := #[{ on := 7, ground := Ground.data }, { on := 6, ground := Ground.data }, { on := 6, ground := Ground.chain }, { on := 0, ground := Ground.phase }, { on := 1, ground := Ground.phase }, { on := 2, ground := Ground.phase }, { on := 3, ground := Ground.phase }, { on := 4, ground := Ground.phase }, { on := 5, ground := Ground.phase }, { on := 6, ground := Ground.phase }], guard := none }) rfl (fun K hK => ?_) AllReady.nil
      go_simp
      refine hK _ _ ?_
      clear hK K
      refine wpAny_done (by kernel_rfl) ?_ _
    rotate_left 1
    focus
      go_simp
      refine hK _ _ ?_
      clear hK K
      refine wpAny_ready (rs := [3]) (by kernel_rfl) (by simp) ?_
      refine AllReady.cons (o := { dst := some 15, op := Op.load 116 (Operand.tmp 14), type := 116, pos := "l06_rib.go:69", after := #[{ on := 2, ground := Ground.data }], guard := none }) rfl (fun K hK => ?_) AllReady.nil
      go_simp
      refine hK _ _ ?_
      clear hK K
      refine wpAny_ready (rs := [6]) (by kernel_rfl) (by simp) ?_
      refine AllReady.cons (o := { dst := some 18, op := Op.call { callee := Callee.builtin Builtin.append, args := #[Operand.tmp 15, Operand.tmp 17], argTypes := #[116, 116] }, type := 116, pos := "l06_rib.go:69", after := #[{ on := 3, ground := Ground.data }, { on := 5, ground := Ground.data }], guard := none }) rfl (fun K hK => ?_) AllReady.nil
      refine step_run_app rfl _ _ _ rfl _ _ _ _ rfl rfl HRUN.out ?_
      refine hK _ _ ?_
      clear hK K
      refine wpAny_take (i := 7) (v := ?vva6) rfl (by kernel_rfl) (by kernel_rfl) (by kernel_rfl) (fun _ _ _ h => h) (Or.inl ⟨by rfl, ?hya6⟩) ?resta6
      case hya6 => (intro w; go_simp <;> with_reducible rfl)
      refine wpAny_ready (rs := [8]) (by kernel_rfl) (by simp) ?_
      refine AllReady.cons (o := { dst := none, op := Op.store 116 (Operand.tmp 19) (Operand.tmp 18), type := 0, pos := "l06_rib.go:69", after := #[{ on := 7, ground := Ground.data }, { on := 6, ground := Ground.data }, { on := 6, ground := Ground.chain }, { on := 0, ground := Ground.phase }, { on := 1, ground := Ground.phase }, { on := 2, ground := Ground.phase }, { on := 3, ground := Ground.phase }, { on := 4, ground := Ground.phase }, { on := 5, ground := Ground.phase }, { on := 6, ground := Ground.phase }], guard := none }) rfl (fun K hK => ?_) AllReady.nil
      go_simp
      refine hK _ _ ?_
      clear hK K
      refine wpAny_done (by kernel_rfl) ?_ _
    rotate_left 1
  rotate_left 2
  all_goals
    go_wp2_with fail
    go_end0
    exact ⟨⟨_, rfl⟩, _, _, HE.out.2.1, HE.out.2.2⟩
end Go.Proofs.Ythdldanfmdnlfab
