/- For every input, the law FnExactPipeNew of this seat returns true and leaves its arguments as they were. Conditions: none beyond those of the row itself. -/
import Derived.Test.YtfmhccmaeonbhaaRows
import Derived.Test.YtfmhccmaeonbhaaLw
import Derived.ChangeOld
import Derived.Below
import Derived.Carry
import Derived.WalkKit
import Derived.ProofKit
import Derived.OpenShut
import Derived.ShutString
namespace Go.Proofs.Ytfmhccmaeonbhaa.fnExactPipeNew
open Go.ChangeShapes Go.WideShapes Go.ChangeAt Go.RowKit
set_option linter.unusedVariables false

theorem own : ownKnob Try.prog.godebug = none := by kernel_rfl
theorem laidOut : laidOutB Try.prog = true := by kernel_rfl

set_option maxRecDepth 100000 in
set_option maxHeartbeats 4000000 in
theorem walk {H : Type} {enc : TypeId × Value → H} (v0 : Value) (d0 : DataW H) (p0 : List MemPlace) (base : Nat) (W : World) (o0 : Value.okWide Try.prog W .any base 2 v0) (h0 : DataW.Trod enc Try.prog W 0 (fun _ => true) true 2 v0 d0 p0) :
    Calls Try.prog 4 #[v0] W fun e w' => e = .returned (.bool true) ∧ Below W.heap.size W w' := by
  obtain ⟨n, rfl⟩ : ∃ n, v0 = .int .i64 n := by obtain ⟨n, e⟩ := okWide_int Try.underlying2 o0; exact ⟨n, e⟩
  clear o0 h0
  have hsm := newR_small n
  have HS := Lib.hid (specPipeNew_any n)
  have HI := Lib.hid (implPipeNew_any n)
  generalize newR n = r at HS HI hsm
  have hbig : r.l.length + r.m.length ≤ 100 := hsm
  clear hsm
  have HQ := Lib.hid (fun (v v' t t' : Value) (W' : World) (h : StsAt W' v r.l) (h' : StsAt W' v' r.l) (k : StsAt W' t r.m) (k' : StsAt W' t' r.m) => eqPipeOut_same r.e r.p r.b r.i v v' t t' r.f r.c r.l r.m W' h h' k k')
  have HM := Lib.hid (fun (B : Nat) (v t : Value) (W' : World) (hB : B ≤ W'.heap.size) (h : W'.ownsRow B 9 1 v r.l.length (strsV r.l)) (h' : W'.ownsRow B 9 1 t r.m.length (strsV r.m)) (ha : v.ownBlock = none ∨ v.ownBlock ≠ t.ownBlock) => markPipeOut_any B r.e r.p r.b r.i v t r.f r.c 1 r.l.length r.m.length _ _ W' hB h h' ha (apart_symm ha) (by omega) (by omega))
  have HD := Lib.hid (fun (v t : Value) (W' : World) (h : StsAt W' v (marks 1 r.l.length)) (h' : StsAt W' t (marks (1 + r.l.length) r.m.length)) => heldPipeOut_any r.e r.p r.b r.i v t r.f r.c 1 r.l.length r.m.length W' h h' (by omega) (by omega))
  obtain ⟨K, hK⟩ : ∃ K : Int, K = ((1 + r.l.length + r.m.length : Nat) : Int) := ⟨_, rfl⟩
  have hK0 : ¬ K < 0 := by omega
  have HK := Lib.hid hK
  clear hK
  unfold ppV poV at *
  go_enter Try.func4, Try.ntmps4
  have A := LawAt.start W
  go_wp2_with fail
  refine (HS.out _).mono ?_
  rintro x w2 ⟨wv, wt, rfl, ho, ht, apw, hb2⟩
  replace A := ((A.kept hb2).own ho).own ht
  obtain ⟨wa, wc, rfl⟩ := own_form ho
  obtain ⟨ta, tc, rfl⟩ := own_form ht
  clear hb2 ho ht apw
  unfold poV
  go_upto_region 2 with fail
  replace A := A.new 33 #[.int .i64 r.e, .int .i64 r.p, .int .i64 r.b, .int .i64 r.i, .slice wa r.l.length wc, .slice ta r.m.length tc, .bool r.f, .int .i64 r.c]
  obtain ⟨W2, hW2⟩ : ∃ X, X = w2.alloc (.cells #[.int .i64 r.e, .int .i64 r.p, .int .i64 r.b, .int .i64 r.i, .slice wa r.l.length wc, .slice ta r.m.length tc, .bool r.f, .int .i64 r.c] 33) := ⟨_, rfl⟩
  obtain ⟨qw, hqw⟩ : ∃ q, q = w2.heap.size := ⟨_, rfl⟩
  rw [← hW2, ← hqw]
  rw [← hW2, ← hqw] at A
  clear hW2 hqw
  go_wp2_with fail
  refine (HI.out _).mono ?_
  rintro x w4 ⟨gv, gt, rfl, ho, ht, apg, hb4⟩
  have HLow := Lib.hid A.low
  have hszg := A.bel.size
  obtain ⟨Bg, hBg⟩ : ∃ B, B = W2.heap.size := ⟨_, rfl⟩
  rw [← hBg] at ho ht HLow hszg
  have hszB : Bg ≤ w4.heap.size := by have := hb4.size; omega
  replace A := ((A.kept hb4).own ho).own ht
  obtain ⟨ga, gc, rfl⟩ := own_form ho
  obtain ⟨ha, hc', rfl⟩ := own_form ht
  clear hb4 ho ht hBg
  replace apg := Lib.hid apg
  unfold poV
  go_upto_region 3 with fail
  replace A := A.new 33 #[.int .i64 r.e, .int .i64 r.p, .int .i64 r.b, .int .i64 r.i, .slice ga r.l.length gc, .slice ha r.m.length hc', .bool r.f, .int .i64 r.c]
  obtain ⟨W4, hW4⟩ : ∃ X, X = w4.alloc (.cells #[.int .i64 r.e, .int .i64 r.p, .int .i64 r.b, .int .i64 r.i, .slice ga r.l.length gc, .slice ha r.m.length hc', .bool r.f, .int .i64 r.c] 33) := ⟨_, rfl⟩
  obtain ⟨qg, hqg⟩ : ∃ q, q = w4.heap.size := ⟨_, rfl⟩
  rw [← hW4, ← hqg]
  rw [← hW4, ← hqg] at A
  have hszC : Bg ≤ W4.heap.size := by subst hW4; simp; omega
  clear hW4 hqg hszB
  have hc1 := A.b0.cell
  have hc2 := A.b1.cell
  go_wp2_with fail
  refine (HQ.out _ _ _ _ _ (StsAt.of_own A.r1) (StsAt.of_own A.r3) (StsAt.of_own A.r0) (StsAt.of_own A.r2)).mono ?_
  rintro x w5 ⟨rfl, hb5⟩
  replace hszC : Bg ≤ w5.heap.size := by have := hb5.size; omega
  replace A := A.kept hb5
  clear hb5 hc1 hc2
  have hc := A.b0.cell
  go_wp2_with fail
  refine (HM.out _ _ _ _ hszC A.r1 A.r0 apg.out).mono ?_
  rintro x w10 ⟨rfl, hov, hot, hbl, hbk⟩
  replace A := ((A.marked2 (R' := [_, _]) hbl hszg hbk (by simp) (List.forall_mem_cons.2 ⟨⟨.tail _ (.tail _ (.head _)), HLow.out _ (.head _)⟩, List.forall_mem_cons.2 ⟨⟨.tail _ (.tail _ (.tail _ (.head _))), HLow.out _ (.tail _ (.head _))⟩, (fun q hq => by cases hq)⟩⟩)).own hov).own hot
  clear hov hot hbl hbk hc HM hszC
  rw [← HK.out]
  have hc := A.b0.cell
  go_wp2_with fail
  refine (HD.out _ _ _ (StsAt.of_own A.r1) (StsAt.of_own A.r0)).mono ?_
  rintro x w11 ⟨rfl, hb⟩
  replace A := A.kept hb
  clear hb hc
  rw [← HK.out]
  go_wp2_with fail
  refine (HI.out _).mono ?_
  rintro x w13 ⟨kv, kt, rfl, ho, ht, apk, hb13⟩
  replace A := ((A.kept hb13).own ho).own ht
  obtain ⟨ka, kc, rfl⟩ := own_form ho
  obtain ⟨kb, kd, rfl⟩ := own_form ht
  clear hb13 ho ht apk
  unfold poV
  go_upto_region 14 with fail
  replace A := A.new 33 #[.int .i64 r.e, .int .i64 r.p, .int .i64 r.b, .int .i64 r.i, .slice ka r.l.length kc, .slice kb r.m.length kd, .bool r.f, .int .i64 r.c]
  obtain ⟨W13, hW13⟩ : ∃ X, X = w13.alloc (.cells #[.int .i64 r.e, .int .i64 r.p, .int .i64 r.b, .int .i64 r.i, .slice ka r.l.length kc, .slice kb r.m.length kd, .bool r.f, .int .i64 r.c] 33) := ⟨_, rfl⟩
  obtain ⟨qh, hqh⟩ : ∃ q, q = w13.heap.size := ⟨_, rfl⟩
  rw [← hW13, ← hqh]
  rw [← hW13, ← hqh] at A
  clear hW13 hqh
  have hc1 := A.b0.cell
  have hc2 := A.b2.cell
  go_wp2_with fail
  refine (HQ.out _ _ _ _ _ (StsAt.of_own A.r1) (StsAt.of_own A.r5) (StsAt.of_own A.r0) (StsAt.of_own A.r4)).mono ?_
  rintro x w14 ⟨rfl, hb14⟩
  replace A := A.kept hb14
  clear hb14 hc1 hc2
  have hc := A.b1.cell
  go_wp2_with fail
  refine (HD.out _ _ _ (StsAt.of_own A.r3) (StsAt.of_own A.r2)).mono ?_
  rintro x w15 ⟨rfl, hb⟩
  replace A := A.kept hb
  clear hb hc
  rw [← HK.out]
  have HB := Lib.hid A.bel
  clear A
  go_wp2_with fail
  go_ret
  exact ⟨rfl, HB.out⟩

set_option maxRecDepth 100000 in
theorem lifted (os : Os) (started : os.Started) (H : Type) (enc : TypeId × Value → H) :
    ReturnsInHanded {} Try.checked os 4 .any (Rows.fnExactPipeNewSpec.pre6 enc Try.prog Try.f4 Rows.fnExactPipeNewRow.domain false) (Rows.fnExactPipeNewSpec.post enc Try.prog Try.f4 false true false false) := by
  refine returnsInHanded_of_change (C := Try.checked) own started (by kernel_rfl) Try.func4
    (ChangeSpec.witness6 (enc := enc) (C := Try.checked) false ⟨#[], #[.int .i64 0], []⟩ 8 (by kernel_rfl) (by kernel_rfl) (by kernel_rfl) (by kernel_rfl)) ?_
  intro W base args ds gs before hval0 hW hcnd _
  have hval : ∀ (j : Nat) t v, Try.f4.params[j]? = some t → args[j]? = some v → Value.okWide Try.prog W .any base t v := hval0
  have hW' := hW
  obtain ⟨p, q, hA0, hV, rfl, hfz, hnd⟩ := hW
  have hA : DataW.TrodAll enc Try.prog W 0 (fun _ => true) true Try.f4.params.toList args.toList ds p := hA0
  rw [Try.params4] at hA hval
  obtain ⟨v0, vs0, d0, ds0, p0, q0, hargs, rfl, rfl, h0, r0⟩ := trodAll_cons hA
  obtain ⟨rfl, rfl, rfl⟩ := trodAll_nil r0
  have lt0 : ∀ x ∈ p0, x.block < W.heap.size := by obtain ⟨m, hm⟩ := h0; exact DataW.trod_lt m _ _ _ hm
  obtain rfl : args = #[v0] := by cases args; simp_all
  obtain ⟨rfl, rfl⟩ := trodVars_none hV
  clear hA0 hval0
  refine (walk _ _ _ base W (hval 0 2 v0 rfl rfl) h0).mono fun e W' ⟨he, bel⟩ => ?_
  subst he
  exact ⟨_, rfl, _, _, _, [], _, [], hW', trodAll_mk1 (shut_bool Try.underlying4 _), (trodAll_cons_mk (Below.trod laidOut (by kernel_rfl) (of_decide_eq_true (by kernel_rfl)) h0 bel lt0) trodAll_mk0), rfl, bel.frame _, fun h => by cases h⟩

theorem over : Rows.fnExactPipeNewRow.holds Try.pinned (OpenSpec.ofChange Rows.fnExactPipeNewSpec) :=
  OpenClaim.holds_of_wide 4 Try.f4 rfl rfl rfl rfl rfl rfl rfl ⟨rfl, rfl, rfl, rfl, rfl⟩ rfl rfl rfl rfl rfl (by kernel_rfl) Try.func4 (by kernel_rfl)
    (of_decide_eq_true (by kernel_rfl)) (by unfold Func.isWrapper; first | (rw [if_pos (by decide +kernel)]; kernel_rfl) | (rw [if_neg (by decide +kernel)]; exact ⟨rfl, rfl⟩))
    (fun os started H enc _ => lifted os started H enc)

theorem proved : Rows.FnExactPipeNewSaid := over
end Go.Proofs.Ytfmhccmaeonbhaa.fnExactPipeNew
namespace Go.Proofs.Ytfmhccmaeonbhaa
theorem fnExactPipeNew_holds : Rows.FnExactPipeNewSaid := fnExactPipeNew.proved
#print axioms fnExactPipeNew_holds
end Go.Proofs.Ytfmhccmaeonbhaa
