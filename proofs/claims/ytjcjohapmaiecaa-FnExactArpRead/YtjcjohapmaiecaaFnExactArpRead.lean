/- For every input, the law FnExactArpRead of this seat returns true and leaves its arguments as they were. Conditions: none beyond those of the row itself. -/
import Derived.Test.YtjcjohapmaiecaaRows
import Derived.Test.YtjcjohapmaiecaaEthX
import Derived.Test.YtjcjohapmaiecaaEthQ
import Derived.Test.YtjcjohapmaiecaaEthU
import Derived.ChangeOld
import Derived.Below
import Derived.WalkKit
import Derived.ProofKit
import Derived.OpenShut
import Derived.ShutString
namespace Go.Proofs.Ytjcjohapmaiecaa.fnExactArpRead
open Go.ChangeShapes Go.WideShapes Go.ChangeAt Go.RowKit
open Go.ChangeMaps (open_string shut_string)
set_option linter.unusedVariables false

theorem own : ownKnob Try.prog.godebug = none := by kernel_rfl

theorem arp_shape (s : ByteArray) : ∃ x0 x1 x2 x3 x4 x5, arpR s = arpOutV x0 x1 x2 x3 x4 x5 := by
  unfold arpR; repeat' split
  all_goals exact ⟨_, _, _, _, _, _, rfl⟩
set_option maxHeartbeats 1000000 in
theorem walk (a0 : ByteArray) (w0 : a0.size ≤ maxLen) (w : World) :
    Calls Try.prog 8 #[.string a0] w fun e w' => e = .returned (.bool true) ∧ Below w.heap.size w w' := by
  have HM := Lib.hid w0
  unfold maxLen at w0
  by_cases hbig : 1048576 < a0.size
  · go_enter Try.func8, Try.ntmps8
    go_wp2_with fail
    go_ret
    exact ⟨rfl, Below.refl _ _⟩
  · obtain ⟨x0, x1, x2, x3, x4, x5, hv⟩ := arp_shape a0
    have HV := Lib.hid hv; clear hv
    have heq := eqArpOut_same x0 x1 x2 x3 x4 x5
    have HE := Lib.hid heq; clear heq
    go_enter Try.func8, Try.ntmps8
    go_wp2_with (first | (go_at_call 28; refine (specArpRead_any _ _ HM.out).mono ?_; rintro e w1 ⟨rfl, hb1⟩; rw [HV.out]; unfold arpOutV) | (go_at_call 21; refine (implArpRead_any _ _ HM.out).mono ?_; rintro e w2 ⟨rfl, hb2⟩; rw [HV.out]; unfold arpOutV; obtain ⟨hc2, hf2⟩ := bcell hb2; have hz2 : w1.heap.size < w2.heap.size := (by have := hb2.size; simp at this; omega)) | (go_at_call 36; refine (HE.out _).mono ?_; rintro e w3 ⟨rfl, hb3⟩))
    go_ret
    have hbw : Below w.heap.size w w2 := hb1.trans (Below.trans ((Below.refl _ _).alloc (by have := hb1.size; omega) _) (hb2.mono (by have := hb1.size; simp; omega)))
    exact ⟨rfl, (hbw.alloc (by have := hbw.size; omega) _).trans (hb3.mono (by have := hbw.size; simp; omega))⟩

set_option maxRecDepth 100000 in
theorem lifted (os : Os) (started : os.Started) (H : Type) (enc : TypeId × Value → H) :
    ReturnsInHanded {} Try.checked os 8 .any (Rows.fnExactArpReadSpec.pre6 enc Try.prog Try.f8 Rows.fnExactArpReadRow.domain false) (Rows.fnExactArpReadSpec.post enc Try.prog Try.f8 false true false false) := by
  refine returnsInHanded_of_change (C := Try.checked) own started (by kernel_rfl) Try.func8
    (ChangeSpec.witness6 (enc := enc) (C := Try.checked) false ⟨#[], #[.string ByteArray.empty], []⟩ 8 (by kernel_rfl) (by kernel_rfl) (by kernel_rfl) (by kernel_rfl)) ?_
  intro W base args ds gs before hval0 hW hcnd _
  have hval : ∀ (j : Nat) t v, Try.f8.params[j]? = some t → args[j]? = some v → Value.okWide Try.prog W .any base t v := hval0
  have hW' := hW
  obtain ⟨p, q, hA0, hV, rfl, hfz, hnd⟩ := hW
  have hA : DataW.TrodAll enc Try.prog W 0 (fun _ => true) true Try.f8.params.toList args.toList ds p := hA0
  rw [Try.params8] at hA hval
  obtain ⟨v0, vs0, d0, ds0, p0, q0, hargs, rfl, rfl, h0, r0⟩ := trodAll_cons hA
  obtain ⟨rfl, rfl, rfl⟩ := trodAll_nil r0
  obtain rfl : args = #[v0] := by cases args; simp_all
  obtain ⟨rfl, rfl⟩ := trodVars_none hV
  obtain ⟨a0, rfl, rfl, rfl, w0⟩ := open_string Try.underlying9 (hval 0 9 v0 rfl rfl) h0
  clear hA0 hval0
  refine (walk a0 w0 W).mono fun e W' ⟨he, bel⟩ => ?_
  subst he
  exact ⟨_, rfl, _, _, _, [], _, [], hW', trodAll_mk1 (shut_bool Try.underlying4 _), (trodAll_cons_mk (shut_string Try.underlying9 w0) trodAll_mk0), rfl, bel.frame _, fun h => by cases h⟩

theorem over : Rows.fnExactArpReadRow.holds Try.pinned (OpenSpec.ofChange Rows.fnExactArpReadSpec) :=
  OpenClaim.holds_of_wide 8 Try.f8 rfl rfl rfl rfl rfl rfl rfl ⟨rfl, rfl, rfl, rfl, rfl⟩ rfl rfl rfl rfl rfl (by kernel_rfl) Try.func8 (by kernel_rfl)
    (of_decide_eq_true (by kernel_rfl)) (by unfold Func.isWrapper; first | (rw [if_pos (by decide +kernel)]; kernel_rfl) | (rw [if_neg (by decide +kernel)]; exact ⟨rfl, rfl⟩))
    (fun os started H enc _ => lifted os started H enc)

theorem proved : Rows.FnExactArpReadSaid :=
  over
end Go.Proofs.Ytjcjohapmaiecaa.fnExactArpRead
namespace Go.Proofs.Ytjcjohapmaiecaa
theorem fnExactArpRead_holds : Rows.FnExactArpReadSaid := fnExactArpRead.proved
#print axioms fnExactArpRead_holds
end Go.Proofs.Ytjcjohapmaiecaa
