/- For every input, the law FnExactRouteOf of this seat returns true and leaves its arguments as they were. Conditions: none beyond those of the row itself. -/
import Derived.Test.YthdldanfmdnlfaaRows
import Derived.Test.YthdldanfmdnlfaaRoG
import Derived.ChangeOld
import Derived.Below
import Derived.Carry
import Derived.WalkKit
import Derived.ProofKit
import Derived.OpenShut
import Derived.ShutString
namespace Go.Proofs.Ythdldanfmdnlfaa.fnExactRouteOf
open Go.ChangeShapes Go.WideShapes Go.ChangeAt Go.RowKit
set_option linter.unusedVariables false

theorem own : ownKnob Try.prog.godebug = none := by kernel_rfl
theorem laidOut : laidOutB Try.prog = true := by kernel_rfl

set_option maxRecDepth 100000 in
set_option maxHeartbeats 1000000 in
set_option maxRecDepth 100000 in
theorem walk {H : Type} {enc : TypeId × Value → H} (v0 v1 : Value) (d0 d1 : DataW H) (p0 p1 : List MemPlace) (base : Nat) (W : World) (o0 : Value.okWide Try.prog W .any base 34 v0) (o1 : Value.okWide Try.prog W .any base 2 v1) (h0 : DataW.Trod enc Try.prog W 0 (fun _ => true) true 34 v0 d0 p0) (h1 : DataW.Trod enc Try.prog W 0 (fun _ => true) true 2 v1 d1 p1) :
    Calls Try.prog 8 #[v0, v1] W fun e w' => e = .returned (.bool true) ∧ Below W.heap.size W w' := by
  obtain ⟨g, rfl⟩ := guest_open o0 h0
  obtain ⟨a1, rfl⟩ : ∃ a : Int, v1 = .int .i64 a := int_openG o1
  clear o0 h0 o1 h1
  have HA := Lib.hid (toGuest_any g)
  have HS := Lib.hid (specRouteOf_any g a1)
  have HI := Lib.hid (implRouteOf_any g a1)
  have HE := Lib.hid (eqRoute_same (roG g a1).kind (roG g a1).vni (roG g a1).mac (roG g a1).ip (roG g a1).org (roG g a1).seq (roG g a1).st)
  obtain ⟨v, m, i, d, s, n, t⟩ := g
  generalize roG _ _ = R at *
  obtain ⟨rk, rv, rm, ri, ro, rs, rt⟩ := R
  unfold Gu.val at *
  unfold Rt.val at HS HI
  unfold rtV at *
  dsimp only at *
  go_enter Try.func8, Try.ntmps8
  go_wp2_with fail
  refine (HA.out _).mono ?_
  rintro e w1 ⟨rfl, hb1⟩
  have hc : ∀ o, w1.cell? ⟨W.heap.size, o, none⟩ = _ := fun o => hb1.cell (p := ⟨W.heap.size, o, none⟩) (by simp)
  have hz1 : W.heap.size < w1.heap.size := by have := hb1.size; simp at this; omega
  have HB1 : Hid (Below W.heap.size W w1) := Lib.hid (((Below.refl _ _).alloc (Nat.le_refl _) _).trans (hb1.mono (by simp)))
  clear hb1
  go_wp2_with (go_at_call 28; refine (HS.out _).mono ?_; rintro e w2 ⟨rfl, hb2⟩; have hc2 : ∀ o, w2.cell? ⟨W.heap.size, o, none⟩ = _ := fun o => hb2.cell (p := ⟨W.heap.size, o, none⟩) hz1; have hz2 : W.heap.size < w2.heap.size := (by have := hb2.size; omega); have HB2 : Hid (Below W.heap.size W w2) := Lib.hid (HB1.out.trans (hb2.mono (by omega))); clear hb2)
  refine (HA.out _).mono ?_
  rintro e w3 ⟨rfl, hb3⟩
  have hd : ∀ o, w3.cell? ⟨w2.heap.size, o, none⟩ = _ := fun o => hb3.cell (p := ⟨w2.heap.size, o, none⟩) (by simp)
  have HB3 : Hid (Below W.heap.size W w3) := Lib.hid ((HB2.out.alloc (by omega) _).trans (hb3.mono (by simp; omega)))
  have hz3 : w2.heap.size < w3.heap.size := by have := hb3.size; simp at this; omega
  clear hb3
  go_wp2_with (first | (go_at_call 29; refine (HI.out _).mono ?_; rintro e w4 ⟨rfl, hb4⟩; have hd4 : ∀ o, w4.cell? ⟨w2.heap.size, o, none⟩ = _ := fun o => hb4.cell (p := ⟨w2.heap.size, o, none⟩) hz3; have hz4 : w2.heap.size < w4.heap.size := (by have := hb4.size; omega); have HB4 : Hid (Below W.heap.size W w4) := Lib.hid (HB3.out.trans (hb4.mono (by omega))); clear hb4) | (go_at_call 30; refine (HE.out _).mono ?_; rintro e w5 ⟨rfl, hb5⟩; have HB5 : Hid (Below W.heap.size W w5) := Lib.hid ((HB4.out.alloc (by omega) _).trans (hb5.mono (by simp; omega))); clear hb5))
  go_ret
  exact ⟨rfl, HB5.out⟩

set_option maxRecDepth 100000 in
theorem lifted (os : Os) (started : os.Started) (H : Type) (enc : TypeId × Value → H) :
    ReturnsInHanded {} Try.checked os 8 .any (Rows.fnExactRouteOfSpec.pre6 enc Try.prog Try.f8 Rows.fnExactRouteOfRow.domain false) (Rows.fnExactRouteOfSpec.post enc Try.prog Try.f8 false true false false) := by
  refine returnsInHanded_of_change (C := Try.checked) own started (by kernel_rfl) Try.func8
    (ChangeSpec.witness6 (enc := enc) (C := Try.checked) false ⟨#[], #[.agg #[.int .i64 0, .int .i64 0, .int .i64 0, .int .i64 0, .int .i64 0, .int .i64 0, .bool false], .int .i64 0], []⟩ 8 (by kernel_rfl) (by kernel_rfl) (by kernel_rfl) (by kernel_rfl)) ?_
  intro W base args ds gs before hval0 hW hcnd _
  have hval : ∀ (j : Nat) t v, Try.f8.params[j]? = some t → args[j]? = some v → Value.okWide Try.prog W .any base t v := hval0
  have hW' := hW
  obtain ⟨p, q, hA0, hV, rfl, hfz, hnd⟩ := hW
  have hA : DataW.TrodAll enc Try.prog W 0 (fun _ => true) true Try.f8.params.toList args.toList ds p := hA0
  rw [Try.params8] at hA hval
  obtain ⟨v0, vs0, d0, ds0, p0, q0, hargs, rfl, rfl, h0, r0⟩ := trodAll_cons hA
  obtain ⟨v1, vs1, d1, ds1, p1, q1, rfl, rfl, rfl, h1, r1⟩ := trodAll_cons r0
  obtain ⟨rfl, rfl, rfl⟩ := trodAll_nil r1
  have lt0 : ∀ x ∈ p0, x.block < W.heap.size := by obtain ⟨m, hm⟩ := h0; exact DataW.trod_lt m _ _ _ hm
  have lt1 : ∀ x ∈ p1, x.block < W.heap.size := by obtain ⟨m, hm⟩ := h1; exact DataW.trod_lt m _ _ _ hm
  obtain rfl : args = #[v0, v1] := by cases args; simp_all
  obtain ⟨rfl, rfl⟩ := trodVars_none hV
  clear hA0 hval0
  refine (walk _ _ _ _ _ _ base W (hval 0 34 v0 rfl rfl) (hval 1 2 v1 rfl rfl) h0 h1).mono fun e W' ⟨he, bel⟩ => ?_
  subst he
  exact ⟨_, rfl, _, _, _, [], _, [], hW', trodAll_mk1 (shut_bool Try.underlying4 _), (trodAll_cons_mk (Below.trod laidOut (by kernel_rfl) (of_decide_eq_true (by kernel_rfl)) h0 bel lt0) (trodAll_cons_mk (Below.trod laidOut (by kernel_rfl) (of_decide_eq_true (by kernel_rfl)) h1 bel lt1) trodAll_mk0)), rfl, bel.frame _, fun h => by cases h⟩

theorem over : Rows.fnExactRouteOfRow.holds Try.pinned (OpenSpec.ofChange Rows.fnExactRouteOfSpec) :=
  OpenClaim.holds_of_wide 8 Try.f8 rfl rfl rfl rfl rfl rfl rfl ⟨rfl, rfl, rfl, rfl, rfl⟩ rfl rfl rfl rfl rfl (by kernel_rfl) Try.func8 (by kernel_rfl)
    (of_decide_eq_true (by kernel_rfl)) (by unfold Func.isWrapper; first | (rw [if_pos (by decide +kernel)]; kernel_rfl) | (rw [if_neg (by decide +kernel)]; exact ⟨rfl, rfl⟩))
    (fun os started H enc _ => lifted os started H enc)

theorem proved : Rows.FnExactRouteOfSaid := over
end Go.Proofs.Ythdldanfmdnlfaa.fnExactRouteOf
namespace Go.Proofs.Ythdldanfmdnlfaa
theorem fnExactRouteOf_holds : Rows.FnExactRouteOfSaid := fnExactRouteOf.proved
#print axioms fnExactRouteOf_holds
end Go.Proofs.Ythdldanfmdnlfaa
