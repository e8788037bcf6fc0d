/- For every input, the law FnExactRibRight of this seat returns true and leaves its arguments as they were. Conditions: none beyond those of the row itself. -/
import Derived.Test.YtmkoppbbenombaaRows
import Derived.Test.YtmkoppbbenombaaHdO
import Derived.Test.YtmkoppbbenombaaRbI
import Derived.ChangeOld
import Derived.Below
import Derived.Carry
import Derived.WalkKit
import Derived.ProofKit
import Derived.OpenShut
import Derived.ShutString
namespace Go.Proofs.Ytmkoppbbenombaa.fnExactRibRight
open Go.ChangeShapes Go.WideShapes Go.ChangeAt Go.RowKit
set_option linter.unusedVariables false

theorem own : ownKnob Try.prog.godebug = none := by kernel_rfl
theorem laidOut : laidOutB Try.prog = true := by kernel_rfl

set_option maxRecDepth 100000 in
set_option maxHeartbeats 4000000 in
set_option maxRecDepth 100000 in
theorem walk {H : Type} {enc : TypeId × Value → H} (v0 : Value) (d0 : DataW H) (p0 : List MemPlace) (base : Nat) (W : World) (o0 : Value.okWide Try.prog W .any base 22 v0) (h0 : DataW.Trod enc Try.prog W 0 (fun _ => true) true 22 v0 d0 p0) :
    Calls Try.prog 3 #[v0] W fun e w' => e = .returned (.bool true) ∧ Below W.heap.size W w' := by
  obtain ⟨l, hsl, hml, va, vc, rfl⟩ := hds_open o0 h0
  clear o0 h0
  have HZ := Lib.hid (Hd.szS_any _ _ W hsl (by simpa using hml))
  rw [List.length_map] at HZ
  by_cases hbig : 1048576 < l.length
  · rw [if_pos hbig] at HZ
    go_enter Try.func3, Try.ntmps3
    go_wp2_with fail
    refine HZ.out.mono ?_
    rintro e w1 ⟨rfl, rfl⟩
    go_wp2_with fail
    go_ret
    exact ⟨rfl, Below.refl _ _⟩
  rw [if_neg hbig] at HZ
  have hle : l.length ≤ 1048576 := by omega
  have hneg : ¬ (1048576 - (l.length : Int) : Int) < 0 := by omega
  have HT := Lib.hid (fun (W' : World) (hb : Below W.heap.size W W') => Hd.toS_any l _ W' (SlAt.kept hsl hb) hle)
  have HS := Lib.hid (fun (x : Value) (W' : World) (h : HdsAt W' x l) => specRibRight_any l x W' h hle)
  have HI := Lib.hid (fun (x : Value) (W' : World) (h : HdsAt W' x l) => implRibRight_any l x W' h hle)
  have HE := Lib.hid (fun (x y : Value) (W' : World) (h : HdsAt W' x l) (h' : HdsAt W' y l) => Hd.eqS_same l x y W' h h' hle)
  have HR := Lib.hid (fun (W' : World) (B : Nat) (x : Value) (h : W'.ownsRow B 77 9 x l.length (rcells Hd.cl l)) => rows_of_own Hd.cl_len h)
  unfold RowPost at HT
  unfold RrPost at HS HI
  generalize ribOk l = R at *
  generalize rcells Hd.cl l = C at *
  clear hsl hml hle hbig
  go_enter Try.func3, Try.ntmps3
  go_wp2_with fail
  refine HZ.out.mono ?_
  rintro e w0 ⟨rfl, rfl⟩
  have A := MemAt.start W
  go_wp2_with fail
  refine (HT.out _ A.bel).mono ?_
  rintro x w1 ⟨v1, rfl, ho1, hb1⟩
  replace A := A.kept hb1
  clear hb1
  obtain ⟨a1, c1, rfl⟩ := rown_form ho1
  have HX := Lib.hid (HR.out _ _ _ ho1)
  clear ho1
  go_wp2_with fail
  refine (HS.out _ _ HX.out).mono ?_
  rintro x w2 ⟨rfl, hb2⟩
  replace A := A.kept hb2
  clear hb2 HX
  go_wp2_with fail
  refine (HT.out _ A.bel).mono ?_
  rintro x w3 ⟨v3, rfl, ho3, hb3⟩
  replace A := A.made hb3 ho3
  obtain ⟨a3, c3, rfl⟩ := rown_form ho3
  clear ho3 hb3
  have HX := Lib.hid (HR.out _ _ _ A.r0)
  go_wp2_with fail
  refine (HI.out _ _ HX.out).mono ?_
  rintro x w4 ⟨rfl, hb4⟩
  replace A := A.kept hb4
  clear hb4 HX
  go_wp2_with fail
  refine (HT.out _ A.bel).mono ?_
  rintro x w5 ⟨v5, rfl, ho5, hb5⟩
  replace A := A.kept hb5
  obtain ⟨a5, c5, rfl⟩ := rown_form ho5
  have HX := Lib.hid (HR.out _ _ _ A.r0)
  have HX5 := Lib.hid (HR.out _ _ _ ho5)
  clear ho5 hb5
  go_wp2_with fail
  refine (HE.out _ _ _ HX.out HX5.out).mono ?_
  rintro x w6 ⟨rfl, hb6⟩
  have HB := Lib.hid (A.kept hb6).bel
  clear A HX HX5 hb6
  go_wp2_with fail
  go_ret
  exact ⟨rfl, HB.out⟩

set_option maxRecDepth 100000 in
theorem lifted (os : Os) (started : os.Started) (H : Type) (enc : TypeId × Value → H) :
    ReturnsInHanded {} Try.checked os 3 .any (Rows.fnExactRibRightSpec.pre6 enc Try.prog Try.f3 Rows.fnExactRibRightRow.domain false) (Rows.fnExactRibRightSpec.post enc Try.prog Try.f3 false true false false) := by
  refine returnsInHanded_of_change (C := Try.checked) own started (by kernel_rfl) Try.func3
    (ChangeSpec.witness6 (enc := enc) (C := Try.checked) false ⟨#[], #[.slice none 0 0], []⟩ 8 (by kernel_rfl) (by kernel_rfl) (by kernel_rfl) (by kernel_rfl)) ?_
  intro W base args ds gs before hval0 hW hcnd _
  have hval : ∀ (j : Nat) t v, Try.f3.params[j]? = some t → args[j]? = some v → Value.okWide Try.prog W .any base t v := hval0
  have hW' := hW
  obtain ⟨p, q, hA0, hV, rfl, hfz, hnd⟩ := hW
  have hA : DataW.TrodAll enc Try.prog W 0 (fun _ => true) true Try.f3.params.toList args.toList ds p := hA0
  rw [Try.params3] at hA hval
  obtain ⟨v0, vs0, d0, ds0, p0, q0, hargs, rfl, rfl, h0, r0⟩ := trodAll_cons hA
  obtain ⟨rfl, rfl, rfl⟩ := trodAll_nil r0
  have lt0 : ∀ x ∈ p0, x.block < W.heap.size := by obtain ⟨m, hm⟩ := h0; exact DataW.trod_lt m _ _ _ hm
  obtain rfl : args = #[v0] := by cases args; simp_all
  obtain ⟨rfl, rfl⟩ := trodVars_none hV
  clear hA0 hval0
  refine (walk _ _ _ base W (hval 0 22 v0 rfl rfl) h0).mono fun e W' ⟨he, bel⟩ => ?_
  subst he
  exact ⟨_, rfl, _, _, _, [], _, [], hW', trodAll_mk1 (shut_bool Try.underlying4 _), (trodAll_cons_mk (Below.trod laidOut (by kernel_rfl) (of_decide_eq_true (by kernel_rfl)) h0 bel lt0) trodAll_mk0), rfl, bel.frame _, fun h => by cases h⟩

theorem over : Rows.fnExactRibRightRow.holds Try.pinned (OpenSpec.ofChange Rows.fnExactRibRightSpec) :=
  OpenClaim.holds_of_wide 3 Try.f3 rfl rfl rfl rfl rfl rfl rfl ⟨rfl, rfl, rfl, rfl, rfl⟩ rfl rfl rfl rfl rfl (by kernel_rfl) Try.func3 (by kernel_rfl)
    (of_decide_eq_true (by kernel_rfl)) (by unfold Func.isWrapper; first | (rw [if_pos (by decide +kernel)]; kernel_rfl) | (rw [if_neg (by decide +kernel)]; exact ⟨rfl, rfl⟩))
    (fun os started H enc _ => lifted os started H enc)

theorem proved : Rows.FnExactRibRightSaid := over
end Go.Proofs.Ytmkoppbbenombaa.fnExactRibRight
namespace Go.Proofs.Ytmkoppbbenombaa
theorem fnExactRibRight_holds : Rows.FnExactRibRightSaid := fnExactRibRight.proved
#print axioms fnExactRibRight_holds
end Go.Proofs.Ytmkoppbbenombaa
