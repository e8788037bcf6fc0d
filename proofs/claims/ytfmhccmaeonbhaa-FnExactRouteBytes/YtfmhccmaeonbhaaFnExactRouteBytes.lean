/- For every input, the law FnExactRouteBytes of this seat returns true and leaves its arguments as they were. Conditions: none beyond those of the row itself. -/
import Derived.Test.YtfmhccmaeonbhaaRows
import Derived.Test.YtfmhccmaeonbhaaB7
import Derived.Test.YtfmhccmaeonbhaaB3
import Derived.ChangeOld
import Derived.Below
import Derived.Carry
import Derived.WalkKit
import Derived.ProofKit
import Derived.OpenShut
import Derived.ShutString
namespace Go.Proofs.Ytfmhccmaeonbhaa.fnExactRouteBytes
open Go.ChangeShapes Go.WideShapes Go.ChangeAt Go.RowKit
set_option linter.unusedVariables false

theorem own : ownKnob Try.prog.godebug = none := by kernel_rfl
theorem laidOut : laidOutB Try.prog = true := by kernel_rfl

theorem cells_route : Try.prog.cellsOf 67 = 7 := by kernel_rfl
set_option maxHeartbeats 1000000 in
set_option maxRecDepth 100000 in
theorem walk {H : Type} {enc : TypeId × Value → H} (v0 : Value) (d0 : DataW H) (p0 : List MemPlace) (base : Nat) (W : World) (o0 : Value.okWide Try.prog W .any base 67 v0) (h0 : DataW.Trod enc Try.prog W 0 (fun _ => true) true 67 v0 d0 p0) :
    Calls Try.prog 12 #[v0] W fun e w' => e = .returned (.bool true) ∧ Below W.heap.size W w' := by
  obtain ⟨cs, rfl, hsz, hf⟩ := struct_open Try.underlying67 o0 h0
  obtain ⟨a0, e0, _⟩ := int_at Try.underlying2 cells_int (hf 0 _ rfl)
  obtain ⟨a1, e1, _⟩ := int_at Try.underlying2 cells_int (hf 1 _ rfl)
  obtain ⟨a2, e2, _⟩ := int_at Try.underlying2 cells_int (hf 2 _ rfl)
  obtain ⟨a3, e3, _⟩ := int_at Try.underlying2 cells_int (hf 3 _ rfl)
  obtain ⟨a4, e4, _⟩ := int_at Try.underlying2 cells_int (hf 4 _ rfl)
  obtain ⟨a5, e5, _⟩ := int_at Try.underlying2 cells_int (hf 5 _ rfl)
  obtain ⟨a6, e6⟩ := bool_at Try.underlying4 cells_bool (hf 6 _ rfl)
  obtain rfl := arr7 (hsz.trans cells_route) e0 e1 e2 e3 e4 e5 e6
  clear hsz hf e0 e1 e2 e3 e4 e5 e6 o0 h0
  have HA := Lib.hid (toRoute_any a0 a1 a2 a3 a4 a5 a6)
  have HS := Lib.hid (specRouteBytes_any ⟨a0, a1, a2, a3, a4, a5, a6⟩)
  have HI := Lib.hid (implRouteBytes_any ⟨a0, a1, a2, a3, a4, a5, a6⟩)
  generalize Rt.bytes _ = r at HS HI
  unfold Rt.val rtV at HS HI
  unfold rtV at HA
  dsimp only at HS HI
  go_enter Try.func12, Try.ntmps12
  go_wp2_with fail
  refine (HA.out _).mono ?_
  rintro e w1 ⟨rfl, hb1⟩
  have hc : ∀ o, w1.cell? ⟨W.heap.size, o, none⟩ = _ := fun o => hb1.cell (p := ⟨W.heap.size, o, none⟩) (by simp)
  have hz1 : W.heap.size < w1.heap.size := by have := hb1.size; simp at this; omega
  have HB1 : Hid (Below W.heap.size W w1) := Lib.hid (((Below.refl _ _).alloc (Nat.le_refl _) _).trans (hb1.mono (by simp)))
  clear hb1
  go_wp2_with (go_at_call 51; refine (HS.out _).mono ?_; rintro e w2 ⟨rfl, hb2⟩; have hc2 : ∀ o, w2.cell? ⟨W.heap.size, o, none⟩ = _ := fun o => hb2.cell (p := ⟨W.heap.size, o, none⟩) hz1; have hz2 : W.heap.size < w2.heap.size := (by have := hb2.size; omega); have HB2 : Hid (Below W.heap.size W w2) := Lib.hid (HB1.out.trans (hb2.mono (by omega))); clear hb2)
  refine (HA.out _).mono ?_
  rintro e w3 ⟨rfl, hb3⟩
  have HB3 : Hid (Below W.heap.size W w3) := Lib.hid (HB2.out.trans (hb3.mono (by omega)))
  have hz3 : W.heap.size < w3.heap.size := by have := hb3.size; omega
  clear hb3
  go_wp2_with (go_at_call 53; refine (HI.out _).mono ?_; rintro e w4 ⟨rfl, hb4⟩; have hz4 : W.heap.size < w4.heap.size := (by have := hb4.size; omega); have HB4 : Hid (Below W.heap.size W w4) := Lib.hid (HB3.out.trans (hb4.mono (by omega))); clear hb4)
  go_ret
  exact ⟨rfl, HB4.out⟩

set_option maxRecDepth 100000 in
theorem lifted (os : Os) (started : os.Started) (H : Type) (enc : TypeId × Value → H) :
    ReturnsInHanded {} Try.checked os 12 .any (Rows.fnExactRouteBytesSpec.pre6 enc Try.prog Try.f12 Rows.fnExactRouteBytesRow.domain false) (Rows.fnExactRouteBytesSpec.post enc Try.prog Try.f12 false true false false) := by
  refine returnsInHanded_of_change (C := Try.checked) own started (by kernel_rfl) Try.func12
    (ChangeSpec.witness6 (enc := enc) (C := Try.checked) false ⟨#[], #[.agg #[.int .i64 0, .int .i64 0, .int .i64 0, .int .i64 0, .int .i64 0, .int .i64 0, .bool false]], []⟩ 8 (by kernel_rfl) (by kernel_rfl) (by kernel_rfl) (by kernel_rfl)) ?_
  intro W base args ds gs before hval0 hW hcnd _
  have hval : ∀ (j : Nat) t v, Try.f12.params[j]? = some t → args[j]? = some v → Value.okWide Try.prog W .any base t v := hval0
  have hW' := hW
  obtain ⟨p, q, hA0, hV, rfl, hfz, hnd⟩ := hW
  have hA : DataW.TrodAll enc Try.prog W 0 (fun _ => true) true Try.f12.params.toList args.toList ds p := hA0
  rw [Try.params12] at hA hval
  obtain ⟨v0, vs0, d0, ds0, p0, q0, hargs, rfl, rfl, h0, r0⟩ := trodAll_cons hA
  obtain ⟨rfl, rfl, rfl⟩ := trodAll_nil r0
  have lt0 : ∀ x ∈ p0, x.block < W.heap.size := by obtain ⟨m, hm⟩ := h0; exact DataW.trod_lt m _ _ _ hm
  obtain rfl : args = #[v0] := by cases args; simp_all
  obtain ⟨rfl, rfl⟩ := trodVars_none hV
  clear hA0 hval0
  refine (walk _ _ _ base W (hval 0 67 v0 rfl rfl) h0).mono fun e W' ⟨he, bel⟩ => ?_
  subst he
  exact ⟨_, rfl, _, _, _, [], _, [], hW', trodAll_mk1 (shut_bool Try.underlying4 _), (trodAll_cons_mk (Below.trod laidOut (by kernel_rfl) (of_decide_eq_true (by kernel_rfl)) h0 bel lt0) trodAll_mk0), rfl, bel.frame _, fun h => by cases h⟩

theorem over : Rows.fnExactRouteBytesRow.holds Try.pinned (OpenSpec.ofChange Rows.fnExactRouteBytesSpec) :=
  OpenClaim.holds_of_wide 12 Try.f12 rfl rfl rfl rfl rfl rfl rfl ⟨rfl, rfl, rfl, rfl, rfl⟩ rfl rfl rfl rfl rfl (by kernel_rfl) Try.func12 (by kernel_rfl)
    (of_decide_eq_true (by kernel_rfl)) (by unfold Func.isWrapper; first | (rw [if_pos (by decide +kernel)]; kernel_rfl) | (rw [if_neg (by decide +kernel)]; exact ⟨rfl, rfl⟩))
    (fun os started H enc _ => lifted os started H enc)

theorem proved : Rows.FnExactRouteBytesSaid := over
end Go.Proofs.Ytfmhccmaeonbhaa.fnExactRouteBytes
namespace Go.Proofs.Ytfmhccmaeonbhaa
theorem fnExactRouteBytes_holds : Rows.FnExactRouteBytesSaid := fnExactRouteBytes.proved
#print axioms fnExactRouteBytes_holds
end Go.Proofs.Ytfmhccmaeonbhaa
