/- For every input, the law FnExactVxRead of this seat returns true and leaves its arguments as they were. Conditions: none beyond those of the row itself. -/
import Derived.Test.YtjcjohapmaiecaaRows
import Derived.Test.YtjcjohapmaiecaaEthX
import Derived.Test.YtjcjohapmaiecaaEthU
import Derived.ChangeOld
import Derived.Below
import Derived.WalkKit
import Derived.ProofKit
import Derived.OpenShut
import Derived.ShutString
namespace Go.Proofs.Ytjcjohapmaiecaa.fnExactVxRead
open Go.ChangeShapes Go.WideShapes Go.ChangeAt Go.RowKit
open Go.ChangeMaps (open_string shut_string)
set_option linter.unusedVariables false

theorem own : ownKnob Try.prog.godebug = none := by kernel_rfl

theorem vx_shape (s : ByteArray) : ∃ x0 x1 x2, vxR s = vxOutV x0 x1 x2 := by
  unfold vxR; repeat' split
  all_goals exact ⟨_, _, _, rfl⟩
set_option maxHeartbeats 1000000 in
theorem walk (a0 : ByteArray) (w0 : a0.size ≤ maxLen) (w : World) :
    Calls Try.prog 10 #[.string a0] w fun e w' => e = .returned (.bool true) ∧ Below w.heap.size w w' := by
  have HM := Lib.hid w0
  unfold maxLen at w0
  by_cases hbig : 1048576 < a0.size
  · go_enter Try.func10, Try.ntmps10
    go_wp2_with fail
    go_ret
    exact ⟨rfl, Below.refl _ _⟩
  · obtain ⟨x0, x1, x2, hv⟩ := vx_shape a0
    have HV := Lib.hid hv; clear hv
    have heq := eqVxOut_same x0 x1 x2
    unfold vxOutV at heq
    have HE := Lib.hid heq; clear heq
    go_enter Try.func10, Try.ntmps10
    go_wp2_with (first | (go_at_call 29; refine (specVxRead_any _ _ HM.out).mono ?_; rintro e w1 ⟨rfl, hb1⟩; rw [HV.out]; unfold vxOutV) | (go_at_call 22; refine (implVxRead_any _ _ HM.out).mono ?_; rintro e w2 ⟨rfl, hb2⟩; rw [HV.out]; unfold vxOutV; obtain ⟨hc2, hf2⟩ := bcell hb2; have hz2 : w1.heap.size < w2.heap.size := (by have := hb2.size; simp at this; omega)) | (go_at_call 37; refine (HE.out _).mono ?_; rintro e w3 ⟨rfl, hb3⟩))
    go_ret
    have hbw : Below w.heap.size w w2 := hb1.trans (Below.trans ((Below.refl _ _).alloc (by have := hb1.size; omega) _) (hb2.mono (by have := hb1.size; simp; omega)))
    exact ⟨rfl, (hbw.alloc (by have := hbw.size; omega) _).trans (hb3.mono (by have := hbw.size; simp; omega))⟩

set_option maxRecDepth 100000 in
theorem lifted (os : Os) (started : os.Started) (H : Type) (enc : TypeId × Value → H) :
    ReturnsInHanded {} Try.checked os 10 .any (Rows.fnExactVxReadSpec.pre6 enc Try.prog Try.f10 Rows.fnExactVxReadRow.domain false) (Rows.fnExactVxReadSpec.post enc Try.prog Try.f10 false true false false) := by
  refine returnsInHanded_of_change (C := Try.checked) own started (by kernel_rfl) Try.func10
    (ChangeSpec.witness6 (enc := enc) (C := Try.checked) false ⟨#[], #[.string ByteArray.empty], []⟩ 8 (by kernel_rfl) (by kernel_rfl) (by kernel_rfl) (by kernel_rfl)) ?_
  intro W base args ds gs before hval0 hW hcnd _
  have hval : ∀ (j : Nat) t v, Try.f10.params[j]? = some t → args[j]? = some v → Value.okWide Try.prog W .any base t v := hval0
  have hW' := hW
  obtain ⟨p, q, hA0, hV, rfl, hfz, hnd⟩ := hW
  have hA : DataW.TrodAll enc Try.prog W 0 (fun _ => true) true Try.f10.params.toList args.toList ds p := hA0
  rw [Try.params10] at hA hval
  obtain ⟨v0, vs0, d0, ds0, p0, q0, hargs, rfl, rfl, h0, r0⟩ := trodAll_cons hA
  obtain ⟨rfl, rfl, rfl⟩ := trodAll_nil r0
  obtain rfl : args = #[v0] := by cases args; simp_all
  obtain ⟨rfl, rfl⟩ := trodVars_none hV
  obtain ⟨a0, rfl, rfl, rfl, w0⟩ := open_string Try.underlying9 (hval 0 9 v0 rfl rfl) h0
  clear hA0 hval0
  refine (walk a0 w0 W).mono fun e W' ⟨he, bel⟩ => ?_
  subst he
  exact ⟨_, rfl, _, _, _, [], _, [], hW', trodAll_mk1 (shut_bool Try.underlying4 _), (trodAll_cons_mk (shut_string Try.underlying9 w0) trodAll_mk0), rfl, bel.frame _, fun h => by cases h⟩

theorem over : Rows.fnExactVxReadRow.holds Try.pinned (OpenSpec.ofChange Rows.fnExactVxReadSpec) :=
  OpenClaim.holds_of_wide 10 Try.f10 rfl rfl rfl rfl rfl rfl rfl ⟨rfl, rfl, rfl, rfl, rfl⟩ rfl rfl rfl rfl rfl (by kernel_rfl) Try.func10 (by kernel_rfl)
    (of_decide_eq_true (by kernel_rfl)) (by unfold Func.isWrapper; first | (rw [if_pos (by decide +kernel)]; kernel_rfl) | (rw [if_neg (by decide +kernel)]; exact ⟨rfl, rfl⟩))
    (fun os started H enc _ => lifted os started H enc)

theorem proved : Rows.FnExactVxReadSaid :=
  over
end Go.Proofs.Ytjcjohapmaiecaa.fnExactVxRead
namespace Go.Proofs.Ytjcjohapmaiecaa
theorem fnExactVxRead_holds : Rows.FnExactVxReadSaid := fnExactVxRead.proved
#print axioms fnExactVxRead_holds
end Go.Proofs.Ytjcjohapmaiecaa
