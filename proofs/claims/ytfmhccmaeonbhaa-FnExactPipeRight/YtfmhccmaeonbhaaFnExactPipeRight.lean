/- For every input, the law FnExactPipeRight of this seat returns true and leaves its arguments as they were. Conditions: none beyond those of the row itself. -/
import Derived.Test.YtfmhccmaeonbhaaRows
import Derived.Test.YtfmhccmaeonbhaaLw
import Derived.ChangeOld
import Derived.Below
import Derived.Carry
import Derived.WalkKit
import Derived.ProofKit
import Derived.OpenShut
import Derived.ShutString
namespace Go.Proofs.Ytfmhccmaeonbhaa.fnExactPipeRight
open Go.ChangeShapes Go.WideShapes Go.ChangeAt Go.RowKit
set_option linter.unusedVariables false

theorem own : ownKnob Try.prog.godebug = none := by kernel_rfl
theorem laidOut : laidOutB Try.prog = true := by kernel_rfl

set_option maxRecDepth 100000 in
set_option maxHeartbeats 1000000 in
theorem walk {H : Type} {enc : TypeId × Value → H} (v0 : Value) (d0 : DataW H) (p0 : List MemPlace) (base : Nat) (W : World) (o0 : Value.okWide Try.prog W .any base 38 v0) (h0 : DataW.Trod enc Try.prog W 0 (fun _ => true) true 38 v0 d0 p0) :
    Calls Try.prog 5 #[v0] W fun e w' => e = .returned (.bool true) ∧ Below W.heap.size W w' := by
  obtain ⟨e, p, b, i, u, l, rfl, hu, hul⟩ := pipe_open o0 h0
  clear o0 h0
  have HZ := Lib.hid (fun (W' : World) (hb : Below W.heap.size W W') => szPipe_any e p b i u l 1048576 W' (hu.kept hb) hul (by omega) (by omega))
  have HT0 := Lib.hid (fun (hn : l.length ≤ 1048576) (W' : World) (hb : Below W.heap.size W W') => toPipe_any e p b i u l W' (hu.kept hb) hn)
  have HS := Lib.hid (fun (v : Value) (W' : World) (h : StsAt W' v l) => specPipeRight_any e p b i v l W' h)
  have HI := Lib.hid (fun (v : Value) (W' : World) (h : StsAt W' v l) => implPipeRight_any e p b i v l W' h)
  have HE := Lib.hid (fun (v v' : Value) (W' : World) (h : StsAt W' v l) (h' : StsAt W' v' l) => eqPipe_same e p b i v v' l W' h h')
  generalize ppRight e p b i l = r at HS HI
  obtain ⟨ua, uc, rfl⟩ := hu.form
  clear hu hul
  unfold ppV at *
  go_enter Try.func5, Try.ntmps5
  go_wp2_with fail
  refine (HZ.out _ (bel1 _ _)).mono ?_
  rintro x w0 ⟨y, rfl, hy, _, hb0⟩
  have A : LawAt W [(W.heap.size, 38, #[.int .i64 e, .int .i64 p, .int .i64 b, .int .i64 i, .slice ua l.length uc])] [] w0 := ((LawAt.start W).new _ _).kept hb0
  have HY := Lib.hid hy
  clear hb0 hy HZ
  by_cases hy0 : y < 0
  · have HB := Lib.hid A.bel
    clear A
    go_wp2_with fail
    go_ret
    exact ⟨rfl, HB.out⟩
  have HT := Lib.hid (HT0.out (HY.out (by omega)).1)
  clear HT0 HY
  have hc := A.b0.cell
  go_wp2_with fail
  refine (HT.out _ A.bel).mono ?_
  rintro x w1 ⟨v1, rfl, ho1, hb1⟩
  replace A := A.kept hb1
  clear hb1 hc
  obtain ⟨a1, c1, rfl⟩ := own_form ho1
  unfold ppV
  go_wp2_with fail
  refine (HS.out _ _ (StsAt.of_own ho1)).mono ?_
  rintro x w2 ⟨rfl, hb2⟩
  replace A := A.kept hb2
  clear hb2 ho1
  have hc := A.b0.cell
  go_wp2_with fail
  refine (HT.out _ A.bel).mono ?_
  rintro x w3 ⟨v3, rfl, ho3, hb3⟩
  replace A := (A.kept hb3).own ho3
  clear hb3 hc
  obtain ⟨a3, c3, rfl⟩ := own_form ho3
  clear ho3
  unfold ppV
  go_upto_region 7 with fail
  replace A := A.new 31 #[.int .i64 e, .int .i64 p, .int .i64 b, .int .i64 i, .slice a3 l.length c3]
  obtain ⟨W4, hW4⟩ : ∃ W4, W4 = w3.alloc (.cells #[.int .i64 e, .int .i64 p, .int .i64 b, .int .i64 i, .slice a3 l.length c3] 31) := ⟨_, rfl⟩
  obtain ⟨q, hq⟩ : ∃ q, q = w3.heap.size := ⟨_, rfl⟩
  rw [← hW4, ← hq]
  rw [← hW4, ← hq] at A
  clear hW4 hq
  have hc := A.b0.cell
  go_wp2_with fail
  refine (HI.out _ _ (StsAt.of_own A.r0)).mono ?_
  rintro x w5 ⟨rfl, hb5⟩
  replace A := A.kept hb5
  clear hb5 hc
  replace A := A.drew
  go_wp2_with fail
  refine wp_region_held_drew (S := fun W' => LawAt W _ _ W') (by kernel_rfl) A (fun hHeld => ?_)
  clear hHeld
  refine wpAnyH_take (i := 0) (oi := { dst := some 22, op := Op.load 31 (Operand.tmp 5), type := 31, pos := "exact.go:3251", after := #[], guard := none }) (v := ?vva1) rfl (by kernel_rfl) (by kernel_rfl) (by kernel_rfl) (fun _ _ _ h => h) (Or.inl ⟨by rfl, ?hya1⟩) A ?resta1
  case hya1 => (intro w hSw; have hc1 := hSw.b0.cell; have hc2 := hSw.b1.cell;go_simp <;> with_reducible rfl)
  try simp only [Act.put, List.setIfInBounds_toArray, List.set_cons_zero, List.set_cons_succ]
  refine wpAnyH_take (i := 1) (oi := { dst := some 23, op := Op.load 38 (Operand.tmp 1), type := 38, pos := "exact.go:3251", after := #[], guard := none }) (v := ?vva2) rfl (by kernel_rfl) (by kernel_rfl) (by kernel_rfl) (fun _ _ _ h => h) (Or.inl ⟨by rfl, ?hya2⟩) A ?resta2
  case hya2 => (intro w hSw; have hc1 := hSw.b0.cell; have hc2 := hSw.b1.cell;go_simp <;> with_reducible rfl)
  try simp only [Act.put, List.setIfInBounds_toArray, List.set_cons_zero, List.set_cons_succ]
  refine wpAnyH_ready (rs := [2]) (by kernel_rfl) (by simp) ?_
  refine AllReadyH.cons (o := { dst := some 24, op := Op.call { callee := Callee.value (Operand.func 25), args := #[Operand.tmp 23], argTypes := #[38] }, type := 31, pos := "exact.go:3251", after := #[{ on := 1, ground := Ground.data }], guard := none }) rfl (fun K hK => ?_) AllReadyH.nil
  go_simp
  refine (HT.out _ A.bel).mono ?_
  rintro x w6 ⟨v6, rfl, ho6, hb6⟩
  obtain ⟨a6, c6, rfl⟩ := own_form ho6
  replace A := A.kept hb6
  have HO6 := Lib.hid ho6
  clear hb6 ho6
  unfold ppV
  refine hK.out _ _ A (fun hHeld => ?_)
  clear hK K hHeld
  try simp only [Act.put, List.setIfInBounds_toArray, List.set_cons_zero, List.set_cons_succ]
  refine wpAnyH_ready (rs := [3]) (by kernel_rfl) (by simp) ?_
  refine AllReadyH.cons (o := { dst := some 25, op := Op.call { callee := Callee.value (Operand.func 27), args := #[Operand.tmp 22, Operand.tmp 24], argTypes := #[31, 31] }, type := 4, pos := "exact.go:3251", after := #[{ on := 0, ground := Ground.data }, { on := 2, ground := Ground.data }, { on := 2, ground := Ground.chain }], guard := none }) rfl (fun K hK => ?_) AllReadyH.nil
  go_simp
  refine (HE.out _ _ _ (StsAt.of_own A.r0) (StsAt.of_own HO6.out)).mono ?_
  rintro x w7 ⟨rfl, hb7⟩
  replace A := A.kept hb7
  clear hb7 HO6
  refine hK.out _ _ A (fun hHeld => ?_)
  clear hK K hHeld
  try simp only [Act.put, List.setIfInBounds_toArray, List.set_cons_zero, List.set_cons_succ]
  refine wpAnyH_take (i := 4) (oi := { dst := some 26, op := Op.unOp UnOp.not 4 (Operand.tmp 25), type := 4, pos := "exact.go:3251", after := #[{ on := 3, ground := Ground.data }], guard := none }) (v := ?vva3) rfl (by kernel_rfl) (by kernel_rfl) (by kernel_rfl) (fun _ _ _ h => h) (Or.inl ⟨by rfl, ?hya3⟩) A ?resta3
  case hya3 => (intro w hSw; have hc1 := hSw.b0.cell; have hc2 := hSw.b1.cell;go_simp <;> with_reducible rfl)
  try simp only [Act.put, List.setIfInBounds_toArray, List.set_cons_zero, List.set_cons_succ]
  refine wpAnyH_done (by kernel_rfl) ?_ _
  have HB := Lib.hid A.bel
  clear A
  go_wp2_with fail
  go_ret
  exact ⟨rfl, HB.out⟩

set_option maxRecDepth 100000 in
theorem lifted (os : Os) (started : os.Started) (H : Type) (enc : TypeId × Value → H) :
    ReturnsInHanded {} Try.checked os 5 .any (Rows.fnExactPipeRightSpec.pre6 enc Try.prog Try.f5 Rows.fnExactPipeRightRow.domain false) (Rows.fnExactPipeRightSpec.post enc Try.prog Try.f5 false true false false) := by
  refine returnsInHanded_of_change (C := Try.checked) own started (by kernel_rfl) Try.func5
    (ChangeSpec.witness6 (enc := enc) (C := Try.checked) false ⟨#[], #[.agg #[.int .i64 0, .int .i64 0, .int .i64 0, .int .i64 0, .slice none 0 0]], []⟩ 8 (by kernel_rfl) (by kernel_rfl) (by kernel_rfl) (by kernel_rfl)) ?_
  intro W base args ds gs before hval0 hW hcnd _
  have hval : ∀ (j : Nat) t v, Try.f5.params[j]? = some t → args[j]? = some v → Value.okWide Try.prog W .any base t v := hval0
  have hW' := hW
  obtain ⟨p, q, hA0, hV, rfl, hfz, hnd⟩ := hW
  have hA : DataW.TrodAll enc Try.prog W 0 (fun _ => true) true Try.f5.params.toList args.toList ds p := hA0
  rw [Try.params5] at hA hval
  obtain ⟨v0, vs0, d0, ds0, p0, q0, hargs, rfl, rfl, h0, r0⟩ := trodAll_cons hA
  obtain ⟨rfl, rfl, rfl⟩ := trodAll_nil r0
  have lt0 : ∀ x ∈ p0, x.block < W.heap.size := by obtain ⟨m, hm⟩ := h0; exact DataW.trod_lt m _ _ _ hm
  obtain rfl : args = #[v0] := by cases args; simp_all
  obtain ⟨rfl, rfl⟩ := trodVars_none hV
  clear hA0 hval0
  refine (walk _ _ _ base W (hval 0 38 v0 rfl rfl) h0).mono fun e W' ⟨he, bel⟩ => ?_
  subst he
  exact ⟨_, rfl, _, _, _, [], _, [], hW', trodAll_mk1 (shut_bool Try.underlying4 _), (trodAll_cons_mk (Below.trod laidOut (by kernel_rfl) (of_decide_eq_true (by kernel_rfl)) h0 bel lt0) trodAll_mk0), rfl, bel.frame _, fun h => by cases h⟩

theorem over : Rows.fnExactPipeRightRow.holds Try.pinned (OpenSpec.ofChange Rows.fnExactPipeRightSpec) :=
  OpenClaim.holds_of_wide 5 Try.f5 rfl rfl rfl rfl rfl rfl rfl ⟨rfl, rfl, rfl, rfl, rfl⟩ rfl rfl rfl rfl rfl (by kernel_rfl) Try.func5 (by kernel_rfl)
    (of_decide_eq_true (by kernel_rfl)) (by unfold Func.isWrapper; first | (rw [if_pos (by decide +kernel)]; kernel_rfl) | (rw [if_neg (by decide +kernel)]; exact ⟨rfl, rfl⟩))
    (fun os started H enc _ => lifted os started H enc)

theorem proved : Rows.FnExactPipeRightSaid := over
end Go.Proofs.Ytfmhccmaeonbhaa.fnExactPipeRight
namespace Go.Proofs.Ytfmhccmaeonbhaa
theorem fnExactPipeRight_holds : Rows.FnExactPipeRightSaid := fnExactPipeRight.proved
#print axioms fnExactPipeRight_holds
end Go.Proofs.Ytfmhccmaeonbhaa
