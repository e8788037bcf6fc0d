/- For every input, the law FnExactPipePut of this seat returns true and leaves its arguments as they were. Conditions: none beyond those of the row itself. -/
import Derived.Test.YtfmhccmaeonbhaaRows
import Derived.Test.YtfmhccmaeonbhaaPpW
import Derived.ChangeOld
import Derived.Below
import Derived.Carry
import Derived.WalkKit
import Derived.ProofKit
import Derived.OpenShut
import Derived.ShutString
namespace Go.Proofs.Ytfmhccmaeonbhaa.fnExactPipePut
open Go.ChangeShapes Go.WideShapes Go.ChangeAt Go.RowKit
set_option linter.unusedVariables false

theorem own : ownKnob Try.prog.godebug = none := by kernel_rfl
theorem laidOut : laidOutB Try.prog = true := by kernel_rfl

set_option maxRecDepth 100000 in
theorem str_open {H : Type} {enc : TypeId × Value → H} {w : World} {base : Nat} {sp : Nat → Bool} {held : Bool} {r : Reach} {b0 : Nat} {v : Value} {d : DataW H} {p : List MemPlace} (o : Value.okWide Try.prog w r b0 9 v) (h : DataW.Trod enc Try.prog w base sp held 9 v d p) : ∃ s, v = .string s ∧ s.size ≤ maxLen := by
  obtain ⟨s, rfl⟩ := okWide_string Try.underlying9 o
  obtain ⟨n, hn⟩ := h
  obtain ⟨a, e, _, hw⟩ := DataW.trod_string Try.underlying9 hn
  have : s = a := by simpa [Value.cells] using e
  subst this
  exact ⟨s, rfl, hw⟩
set_option maxRecDepth 100000 in
set_option maxHeartbeats 4000000 in
theorem walk {H : Type} {enc : TypeId × Value → H} (v0 v1 : Value) (d0 d1 : DataW H) (p0 p1 : List MemPlace) (base : Nat) (W : World) (o0 : Value.okWide Try.prog W .any base 38 v0) (o1 : Value.okWide Try.prog W .any base 9 v1) (h0 : DataW.Trod enc Try.prog W 0 (fun _ => true) true 38 v0 d0 p0) (h1 : DataW.Trod enc Try.prog W 0 (fun _ => true) true 9 v1 d1 p1) :
    Calls Try.prog 8 #[v0, v1] W fun e w' => e = .returned (.bool true) ∧ Below W.heap.size W w' := by
  obtain ⟨e, p, b, i, u, l, rfl, hu, hul⟩ := pipe_open o0 h0
  have HZ := Lib.hid (fun (W' : World) (hb : Below W.heap.size W W') => szPipe_any e p b i u l 1048576 W' (hu.kept hb) hul (by omega) (by omega))
  have HT0 := Lib.hid (fun (hn : l.length ≤ 1048576) (W' : World) (hb : Below W.heap.size W W') => toPipe_any e p b i u l W' (hu.kept hb) hn)
  obtain ⟨s, rfl, hs⟩ := str_open o1 h1
  clear o0 h0 o1 h1
  have hsm := putR_small e p b i l s
  have hsl : s.size ≤ 9223372036854775807 := by unfold maxLen at hs; exact hs
  have HS := Lib.hid (fun (v : Value) (W' : World) (h : StsAt W' v l) => specPipePut_any e p b i v l s W' h hs)
  have HI := Lib.hid (fun (v : Value) (W' : World) (h : StsAt W' v l) => implPipePut_any e p b i v l s W' h hs)
  generalize putR e p b i l s = r at HS HI hsm
  have hbig : r.l.length + r.m.length ≤ 100 := hsm
  clear hsm
  have HQ := Lib.hid (fun (v v' t t' : Value) (W' : World) (h : StsAt W' v r.l) (h' : StsAt W' v' r.l) (k : StsAt W' t r.m) (k' : StsAt W' t' r.m) => eqPipeOut_same r.e r.p r.b r.i v v' t t' r.f r.c r.l r.m W' h h' k k')
  have HM := Lib.hid (fun (B : Nat) (v t : Value) (W' : World) (hB : B ≤ W'.heap.size) (h : W'.ownsRow B 9 1 v r.l.length (strsV r.l)) (h' : W'.ownsRow B 9 1 t r.m.length (strsV r.m)) (ha : v.ownBlock = none ∨ v.ownBlock ≠ t.ownBlock) => markPipeOut_any B r.e r.p r.b r.i v t r.f r.c 1 r.l.length r.m.length _ _ W' hB h h' ha (apart_symm ha) (by omega) (by omega))
  have HD := Lib.hid (fun (v t : Value) (W' : World) (h : StsAt W' v (marks 1 r.l.length)) (h' : StsAt W' t (marks (1 + r.l.length) r.m.length)) => heldPipeOut_any r.e r.p r.b r.i v t r.f r.c 1 r.l.length r.m.length W' h h' (by omega) (by omega))
  obtain ⟨K, hK⟩ : ∃ K : Int, K = ((1 + r.l.length + r.m.length : Nat) : Int) := ⟨_, rfl⟩
  have hK0 : ¬ K < 0 := by omega
  have HK := Lib.hid hK
  clear hK
  have HE := Lib.hid (fun (v v' : Value) (W' : World) (h : StsAt W' v l) (h' : StsAt W' v' l) => eqPipe_same e p b i v v' l W' h h')
  have HX := Lib.hid (fun (hn : l.length ≤ 1048576) (B : Nat) (v : Value) (W' : World) (h : W'.ownsRow B 9 1 v l.length (strsV l)) => markPipe_any B e p b i v 1 l.length _ W' h (by omega) (by omega))
  obtain ⟨ua, uc, rfl⟩ := hu.form
  clear hu hul
  unfold ppV poV at *
  go_enter Try.func8, Try.ntmps8
  by_cases hbg : (1048576 : Int) < (s.size : Int)
  · go_wp2_with fail
    go_ret
    exact ⟨rfl, bel1 _ _⟩
  go_wp2_with fail
  refine (HZ.out _ (bel1 _ _)).mono ?_
  rintro x w0 ⟨y, rfl, hy, _, hb0⟩
  have A : LawAt W [(W.heap.size, 38, #[.int .i64 e, .int .i64 p, .int .i64 b, .int .i64 i, .slice ua l.length uc])] [] w0 := ((LawAt.start W).new _ _).kept hb0
  have HY := Lib.hid hy
  clear hb0 hy HZ
  by_cases hy0 : y < 0
  · have HB := Lib.hid A.bel
    clear A
    go_wp2_with fail
    go_ret
    exact ⟨rfl, HB.out⟩
  have HT := Lib.hid (HT0.out (HY.out (by omega)).1)
  replace HX := Lib.hid (HX.out (HY.out (by omega)).1)
  clear HT0 HY
  have hc := A.b0.cell
  go_wp2_with fail
  refine (HT.out _ A.bel).mono ?_
  rintro x w1 ⟨v1, rfl, ho1, hb1⟩
  replace A := A.kept hb1
  clear hb1 hc
  obtain ⟨a1, c1, rfl⟩ := own_form ho1
  unfold ppV
  go_wp2_with fail
  refine (HS.out _ _ (StsAt.of_own ho1)).mono ?_
  rintro x w2 ⟨wv, wt, rfl, ho, ht, apw, hb2⟩
  replace A := ((A.kept hb2).own ho).own ht
  obtain ⟨wa, wc, rfl⟩ := own_form ho
  obtain ⟨ta, tc, rfl⟩ := own_form ht
  clear hb2 ho ht apw ho1
  unfold poV
  go_upto_region 8 with fail
  replace A := A.new 33 #[.int .i64 r.e, .int .i64 r.p, .int .i64 r.b, .int .i64 r.i, .slice wa r.l.length wc, .slice ta r.m.length tc, .bool r.f, .int .i64 r.c]
  obtain ⟨W2, hW2⟩ : ∃ X, X = w2.alloc (.cells #[.int .i64 r.e, .int .i64 r.p, .int .i64 r.b, .int .i64 r.i, .slice wa r.l.length wc, .slice ta r.m.length tc, .bool r.f, .int .i64 r.c] 33) := ⟨_, rfl⟩
  obtain ⟨qw, hqw⟩ : ∃ q, q = w2.heap.size := ⟨_, rfl⟩
  rw [← hW2, ← hqw]
  rw [← hW2, ← hqw] at A
  clear hW2 hqw
  have hsz2 := A.bel.size
  have hc := A.b1.cell
  go_wp2_with fail
  refine (HT.out _ A.bel).mono ?_
  rintro x w3 ⟨v3, rfl, ho3, hb3⟩
  have AP1 := own_apart A.r0 ho3 (Nat.le_refl _)
  have AP2 := own_apart A.r1 ho3 (Nat.le_refl _)
  replace AP1 := Lib.hid AP1
  replace AP2 := Lib.hid AP2
  replace A := (A.kept hb3).own ho3
  clear hb3 hc
  have hlx := Lib.hid (fun k hk => Nat.le_trans hsz2 (ho3.lt k hk).1)
  obtain ⟨xa, xc, rfl⟩ := own_form ho3
  clear ho3
  unfold ppV
  go_upto_region 9 with fail
  replace A := A.new 31 #[.int .i64 e, .int .i64 p, .int .i64 b, .int .i64 i, .slice xa l.length xc]
  obtain ⟨W3, hW3⟩ : ∃ X, X = w3.alloc (.cells #[.int .i64 e, .int .i64 p, .int .i64 b, .int .i64 i, .slice xa l.length xc] 31) := ⟨_, rfl⟩
  obtain ⟨qx, hqx⟩ : ∃ q, q = w3.heap.size := ⟨_, rfl⟩
  rw [← hW3, ← hqx]
  rw [← hW3, ← hqx] at A
  clear hW3 hqx
  have hc := A.b0.cell
  go_wp2_with fail
  refine (HI.out _ _ (StsAt.of_own A.r0)).mono ?_
  rintro x w4 ⟨gv, gt, rfl, ho, ht, apg, hb4⟩
  have HLow := Lib.hid A.low
  have hszg := A.bel.size
  obtain ⟨Bg, hBg⟩ : ∃ B, B = W3.heap.size := ⟨_, rfl⟩
  rw [← hBg] at ho ht HLow hszg
  have AP3 : Hid (gv.ownBlock = none ∨ gv.ownBlock ≠ (Value.slice xa l.length xc).ownBlock) := Lib.hid (own_apart A.r0 ho (by omega))
  have AP4 : Hid (gt.ownBlock = none ∨ gt.ownBlock ≠ (Value.slice xa l.length xc).ownBlock) := Lib.hid (own_apart A.r0 ht (by omega))
  have hszB : Bg ≤ w4.heap.size := by have := hb4.size; omega
  replace A := ((A.kept hb4).own ho).own ht
  obtain ⟨ga, gc, rfl⟩ := own_form ho
  obtain ⟨ha, hc', rfl⟩ := own_form ht
  clear hb4 ho ht hBg hc
  replace apg := Lib.hid apg
  unfold poV
  go_upto_region 10 with fail
  replace A := A.new 33 #[.int .i64 r.e, .int .i64 r.p, .int .i64 r.b, .int .i64 r.i, .slice ga r.l.length gc, .slice ha r.m.length hc', .bool r.f, .int .i64 r.c]
  obtain ⟨W4, hW4⟩ : ∃ X, X = w4.alloc (.cells #[.int .i64 r.e, .int .i64 r.p, .int .i64 r.b, .int .i64 r.i, .slice ga r.l.length gc, .slice ha r.m.length hc', .bool r.f, .int .i64 r.c] 33) := ⟨_, rfl⟩
  obtain ⟨qg, hqg⟩ : ∃ q, q = w4.heap.size := ⟨_, rfl⟩
  rw [← hW4, ← hqg]
  rw [← hW4, ← hqg] at A
  have hszC : Bg ≤ W4.heap.size := by subst hW4; simp; omega
  clear hW4 hqg hszB
  have hc1 := A.b0.cell
  have hc2 := A.b2.cell
  go_wp2_with fail
  refine (HQ.out _ _ _ _ _ (StsAt.of_own A.r1) (StsAt.of_own A.r4) (StsAt.of_own A.r0) (StsAt.of_own A.r3)).mono ?_
  rintro x w5 ⟨rfl, hb5⟩
  replace hszC : Bg ≤ w5.heap.size := by have := hb5.size; omega
  replace A := A.kept hb5
  clear hb5 hc1 hc2
  replace A := A.drew
  replace hszC : Bg ≤ w5.drew.heap.size := hszC
  go_wp2_with fail
  refine wp_region_held_drew (S := fun W' => LawAt W _ _ W') (by kernel_rfl) A (fun hHeld => ?_)
  clear hHeld
  refine wpAnyH_take (i := 0) (oi := { dst := some 34, op := Op.load 31 (Operand.tmp 7), type := 31, pos := "exact.go:3305", after := #[], guard := none }) (v := ?vva1) rfl (by kernel_rfl) (by kernel_rfl) (by kernel_rfl) (fun _ _ _ h => h) (Or.inl ⟨by rfl, ?hya1⟩) A ?resta1
  case hya1 => (intro w hSw; have hc1 := hSw.b1.cell; have hc2 := hSw.b3.cell;go_simp <;> with_reducible rfl)
  try simp only [Act.put, List.setIfInBounds_toArray, List.set_cons_zero, List.set_cons_succ]
  refine wpAnyH_take (i := 1) (oi := { dst := some 35, op := Op.load 38 (Operand.tmp 2), type := 38, pos := "exact.go:3305", after := #[], guard := none }) (v := ?vva2) rfl (by kernel_rfl) (by kernel_rfl) (by kernel_rfl) (fun _ _ _ h => h) (Or.inl ⟨by rfl, ?hya2⟩) A ?resta2
  case hya2 => (intro w hSw; have hc1 := hSw.b1.cell; have hc2 := hSw.b3.cell;go_simp <;> with_reducible rfl)
  try simp only [Act.put, List.setIfInBounds_toArray, List.set_cons_zero, List.set_cons_succ]
  refine wpAnyH_ready (rs := [2]) (by kernel_rfl) (by simp) ?_
  refine AllReadyH.cons (o := { dst := some 36, op := Op.call { callee := Callee.value (Operand.func 25), args := #[Operand.tmp 35], argTypes := #[38] }, type := 31, pos := "exact.go:3305", after := #[{ on := 1, ground := Ground.data }], guard := none }) rfl (fun K hK => ?_) AllReadyH.nil
  go_simp
  refine (HT.out _ A.bel).mono ?_
  rintro x w6 ⟨v6, rfl, ho6, hb6⟩
  obtain ⟨a6, c6, rfl⟩ := own_form ho6
  replace hszC : Bg ≤ w6.heap.size := Nat.le_trans hszC hb6.size
  replace A := A.kept hb6
  have HO6 := Lib.hid ho6
  clear hb6 ho6
  unfold ppV
  refine hK.out _ _ A (fun hHeld => ?_)
  clear hK K hHeld
  try simp only [Act.put, List.setIfInBounds_toArray, List.set_cons_zero, List.set_cons_succ]
  refine wpAnyH_ready (rs := [3]) (by kernel_rfl) (by simp) ?_
  refine AllReadyH.cons (o := { dst := some 37, op := Op.call { callee := Callee.value (Operand.func 27), args := #[Operand.tmp 34, Operand.tmp 36], argTypes := #[31, 31] }, type := 4, pos := "exact.go:3305", after := #[{ on := 0, ground := Ground.data }, { on := 2, ground := Ground.data }, { on := 2, ground := Ground.chain }], guard := none }) rfl (fun K hK => ?_) AllReadyH.nil
  go_simp
  refine (HE.out _ _ _ (StsAt.of_own A.r2) (StsAt.of_own HO6.out)).mono ?_
  rintro x w7 ⟨rfl, hb7⟩
  replace hszC : Bg ≤ w7.heap.size := Nat.le_trans hszC hb7.size
  replace A := A.kept hb7
  clear hb7 HO6
  refine hK.out _ _ A (fun hHeld => ?_)
  clear hK K hHeld
  try simp only [Act.put, List.setIfInBounds_toArray, List.set_cons_zero, List.set_cons_succ]
  refine wpAnyH_take (i := 4) (oi := { dst := some 38, op := Op.unOp UnOp.not 4 (Operand.tmp 37), type := 4, pos := "exact.go:3305", after := #[{ on := 3, ground := Ground.data }], guard := none }) (v := ?vva3) rfl (by kernel_rfl) (by kernel_rfl) (by kernel_rfl) (fun _ _ _ h => h) (Or.inl ⟨by rfl, ?hya3⟩) A ?resta3
  case hya3 => (intro w hSw; have hc1 := hSw.b1.cell; have hc2 := hSw.b3.cell;go_simp <;> with_reducible rfl)
  try simp only [Act.put, List.setIfInBounds_toArray, List.set_cons_zero, List.set_cons_succ]
  refine wpAnyH_done (by kernel_rfl) ?_ _
  have hc := A.b1.cell
  go_wp2_with fail
  refine (HX.out _ _ _ A.r2).mono ?_
  rintro x w8 ⟨rfl, ho8, hg8⟩
  replace hszC : Bg ≤ w8.heap.size := by have := hg8.size; omega
  replace A := A.markedX hlx.out hg8 ho8 (by simp) AP3.out AP4.out (apart_symm AP1.out) (apart_symm AP2.out)
  clear hc ho8 hg8
  obtain ⟨K1, hK1⟩ : ∃ K : Int, K = ((1 + l.length : Nat) : Int) := ⟨_, rfl⟩
  rw [← hK1]
  have hK2 : ¬ K1 < 0 := by omega
  clear hK1
  have hc1 := A.b0.cell
  have hc2 := A.b2.cell
  go_wp2_with fail
  refine (HQ.out _ _ _ _ _ (StsAt.of_own A.r2) (StsAt.of_own A.r4) (StsAt.of_own A.r1) (StsAt.of_own A.r3)).mono ?_
  rintro x w9 ⟨rfl, hb9⟩
  replace hszC : Bg ≤ w9.heap.size := by have := hb9.size; omega
  replace A := A.kept hb9
  clear hb9 hc1 hc2
  have hc := A.b0.cell
  go_wp2_with fail
  refine (HM.out _ _ _ _ hszC A.r2 A.r1 apg.out).mono ?_
  rintro x w10 ⟨rfl, hov, hot, hbl, hbk⟩
  replace A := ((A.marked2 (R' := [_, _]) hbl hszg hbk (by simp) (List.forall_mem_cons.2 ⟨⟨.tail _ (.tail _ (.tail _ (.head _))), HLow.out _ (.tail _ (.head _))⟩, List.forall_mem_cons.2 ⟨⟨.tail _ (.tail _ (.tail _ (.tail _ (.head _)))), HLow.out _ (.tail _ (.tail _ (.head _)))⟩, (fun q hq => by cases hq)⟩⟩)).own hov).own hot
  clear hov hot hbl hbk hc HM hszC
  rw [← HK.out]
  have hc := A.b0.cell
  go_wp2_with fail
  refine (HD.out _ _ _ (StsAt.of_own A.r1) (StsAt.of_own A.r0)).mono ?_
  rintro x w11 ⟨rfl, hb⟩
  replace A := A.kept hb
  clear hb hc
  rw [← HK.out]
  have hc := A.b3.cell
  go_wp2_with fail
  refine (HT.out _ A.bel).mono ?_
  rintro x w12 ⟨v12, rfl, ho12, hb12⟩
  replace A := A.kept hb12
  clear hb12 hc
  obtain ⟨a12, c12, rfl⟩ := own_form ho12
  unfold ppV
  go_wp2_with fail
  refine (HI.out _ _ (StsAt.of_own ho12)).mono ?_
  rintro x w13 ⟨kv, kt, rfl, ho, ht, apk, hb13⟩
  replace A := ((A.kept hb13).own ho).own ht
  obtain ⟨ka, kc, rfl⟩ := own_form ho
  obtain ⟨kb, kd, rfl⟩ := own_form ht
  clear hb13 ho ht apk ho12
  unfold poV
  go_upto_region 27 with fail
  replace A := A.new 33 #[.int .i64 r.e, .int .i64 r.p, .int .i64 r.b, .int .i64 r.i, .slice ka r.l.length kc, .slice kb r.m.length kd, .bool r.f, .int .i64 r.c]
  obtain ⟨W13, hW13⟩ : ∃ X, X = w13.alloc (.cells #[.int .i64 r.e, .int .i64 r.p, .int .i64 r.b, .int .i64 r.i, .slice ka r.l.length kc, .slice kb r.m.length kd, .bool r.f, .int .i64 r.c] 33) := ⟨_, rfl⟩
  obtain ⟨qh, hqh⟩ : ∃ q, q = w13.heap.size := ⟨_, rfl⟩
  rw [← hW13, ← hqh]
  rw [← hW13, ← hqh] at A
  clear hW13 hqh
  have hc1 := A.b0.cell
  have hc2 := A.b3.cell
  go_wp2_with fail
  refine (HQ.out _ _ _ _ _ (StsAt.of_own A.r1) (StsAt.of_own A.r5) (StsAt.of_own A.r0) (StsAt.of_own A.r4)).mono ?_
  rintro x w14 ⟨rfl, hb14⟩
  replace A := A.kept hb14
  clear hb14 hc1 hc2
  have hc := A.b1.cell
  go_wp2_with fail
  refine (HD.out _ _ _ (StsAt.of_own A.r3) (StsAt.of_own A.r2)).mono ?_
  rintro x w15 ⟨rfl, hb⟩
  replace A := A.kept hb
  clear hb hc
  rw [← HK.out]
  have HB := Lib.hid A.bel
  clear A
  go_wp2_with fail
  go_ret
  exact ⟨rfl, HB.out⟩

set_option maxRecDepth 100000 in
theorem lifted (os : Os) (started : os.Started) (H : Type) (enc : TypeId × Value → H) :
    ReturnsInHanded {} Try.checked os 8 .any (Rows.fnExactPipePutSpec.pre6 enc Try.prog Try.f8 Rows.fnExactPipePutRow.domain false) (Rows.fnExactPipePutSpec.post enc Try.prog Try.f8 false true false false) := by
  refine returnsInHanded_of_change (C := Try.checked) own started (by kernel_rfl) Try.func8
    (ChangeSpec.witness6 (enc := enc) (C := Try.checked) false ⟨#[], #[.agg #[.int .i64 0, .int .i64 0, .int .i64 0, .int .i64 0, .slice none 0 0], .string ByteArray.empty], []⟩ 8 (by kernel_rfl) (by kernel_rfl) (by kernel_rfl) (by kernel_rfl)) ?_
  intro W base args ds gs before hval0 hW hcnd _
  have hval : ∀ (j : Nat) t v, Try.f8.params[j]? = some t → args[j]? = some v → Value.okWide Try.prog W .any base t v := hval0
  have hW' := hW
  obtain ⟨p, q, hA0, hV, rfl, hfz, hnd⟩ := hW
  have hA : DataW.TrodAll enc Try.prog W 0 (fun _ => true) true Try.f8.params.toList args.toList ds p := hA0
  rw [Try.params8] at hA hval
  obtain ⟨v0, vs0, d0, ds0, p0, q0, hargs, rfl, rfl, h0, r0⟩ := trodAll_cons hA
  obtain ⟨v1, vs1, d1, ds1, p1, q1, rfl, rfl, rfl, h1, r1⟩ := trodAll_cons r0
  obtain ⟨rfl, rfl, rfl⟩ := trodAll_nil r1
  have lt0 : ∀ x ∈ p0, x.block < W.heap.size := by obtain ⟨m, hm⟩ := h0; exact DataW.trod_lt m _ _ _ hm
  have lt1 : ∀ x ∈ p1, x.block < W.heap.size := by obtain ⟨m, hm⟩ := h1; exact DataW.trod_lt m _ _ _ hm
  obtain rfl : args = #[v0, v1] := by cases args; simp_all
  obtain ⟨rfl, rfl⟩ := trodVars_none hV
  clear hA0 hval0
  refine (walk _ _ _ _ _ _ base W (hval 0 38 v0 rfl rfl) (hval 1 9 v1 rfl rfl) h0 h1).mono fun e W' ⟨he, bel⟩ => ?_
  subst he
  exact ⟨_, rfl, _, _, _, [], _, [], hW', trodAll_mk1 (shut_bool Try.underlying4 _), (trodAll_cons_mk (Below.trod laidOut (by kernel_rfl) (of_decide_eq_true (by kernel_rfl)) h0 bel lt0) (trodAll_cons_mk (Below.trod laidOut (by kernel_rfl) (of_decide_eq_true (by kernel_rfl)) h1 bel lt1) trodAll_mk0)), rfl, bel.frame _, fun h => by cases h⟩

theorem over : Rows.fnExactPipePutRow.holds Try.pinned (OpenSpec.ofChange Rows.fnExactPipePutSpec) :=
  OpenClaim.holds_of_wide 8 Try.f8 rfl rfl rfl rfl rfl rfl rfl ⟨rfl, rfl, rfl, rfl, rfl⟩ rfl rfl rfl rfl rfl (by kernel_rfl) Try.func8 (by kernel_rfl)
    (of_decide_eq_true (by kernel_rfl)) (by unfold Func.isWrapper; first | (rw [if_pos (by decide +kernel)]; kernel_rfl) | (rw [if_neg (by decide +kernel)]; exact ⟨rfl, rfl⟩))
    (fun os started H enc _ => lifted os started H enc)

theorem proved : Rows.FnExactPipePutSaid := over
end Go.Proofs.Ytfmhccmaeonbhaa.fnExactPipePut
namespace Go.Proofs.Ytfmhccmaeonbhaa
theorem fnExactPipePut_holds : Rows.FnExactPipePutSaid := fnExactPipePut.proved
#print axioms fnExactPipePut_holds
end Go.Proofs.Ytfmhccmaeonbhaa
