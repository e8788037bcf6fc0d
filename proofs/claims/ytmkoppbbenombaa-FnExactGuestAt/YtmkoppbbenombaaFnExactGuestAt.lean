/- For every input, the law FnExactGuestAt of this seat returns true and leaves its arguments as they were. Conditions: none beyond those of the row itself. -/
import Derived.Test.YtmkoppbbenombaaRows
import Derived.Test.YtmkoppbbenombaaRw
import Derived.Test.YtmkoppbbenombaaRGu
import Derived.Test.YtmkoppbbenombaaMg
import Derived.Test.YtmkoppbbenombaaGaM
import Derived.ChangeOld
import Derived.Below
import Derived.Carry
import Derived.WalkKit
import Derived.ProofKit
import Derived.OpenShut
import Derived.ShutString
namespace Go.Proofs.Ytmkoppbbenombaa.fnExactGuestAt
open Go.ChangeShapes Go.WideShapes Go.ChangeAt Go.RowKit
set_option linter.unusedVariables false

theorem own : ownKnob Try.prog.godebug = none := by kernel_rfl
theorem laidOut : laidOutB Try.prog = true := by kernel_rfl

set_option maxRecDepth 100000 in
set_option maxHeartbeats 4000000 in
set_option maxRecDepth 100000 in
theorem walk {H : Type} {enc : TypeId × Value → H} (v0 v1 v2 : Value) (d0 d1 d2 : DataW H) (p0 p1 p2 : List MemPlace) (base : Nat) (W : World) (o0 : Value.okWide Try.prog W .any base 51 v0) (o1 : Value.okWide Try.prog W .any base 2 v1) (o2 : Value.okWide Try.prog W .any base 2 v2) (h0 : DataW.Trod enc Try.prog W 0 (fun _ => true) true 51 v0 d0 p0) (h1 : DataW.Trod enc Try.prog W 0 (fun _ => true) true 2 v1 d1 p1) (h2 : DataW.Trod enc Try.prog W 0 (fun _ => true) true 2 v2 d2 p2) :
    Calls Try.prog 11 #[v0, v1, v2] W fun e w' => e = .returned (.bool true) ∧ Below W.heap.size W w' := by
  obtain ⟨l, hsl, hml, va, vc, rfl⟩ := guests_open o0 h0
  obtain ⟨a1, rfl⟩ : ∃ a : Int, v1 = .int .i64 a := int_openG o1
  obtain ⟨a2, rfl⟩ : ∃ a : Int, v2 = .int .i64 a := int_openG o2
  clear o0 h0 o1 h1 o2 h2
  have HZ := Lib.hid (Gu.szS_any _ _ W hsl (by simpa using hml))
  rw [List.length_map] at HZ
  by_cases hbig : 1048576 < l.length
  · rw [if_pos hbig] at HZ
    go_enter Try.func11, Try.ntmps11
    go_wp2_with fail
    refine HZ.out.mono ?_
    rintro e w1 ⟨rfl, rfl⟩
    go_wp2_with fail
    go_ret
    exact ⟨rfl, Below.refl _ _⟩
  rw [if_neg hbig] at HZ
  have hle : l.length ≤ 1048576 := by omega
  have hneg : ¬ (1048576 - (l.length : Int) : Int) < 0 := by omega
  have HT := Lib.hid (fun (W' : World) (hb : Below W.heap.size W W') => Gu.toS_any l _ W' (SlAt.kept hsl hb) hle)
  have HS := Lib.hid (fun (x : Value) (W' : World) (h : GusAt W' x l) => specGuestAt_any l x a1 a2 W' h hle)
  have HI := Lib.hid (fun (x : Value) (W' : World) (h : GusAt W' x l) => implGuestAt_any l x a1 a2 W' h hle)
  have HE := Lib.hid (fun (x y : Value) (W' : World) (h : GusAt W' x l) (h' : GusAt W' y l) => Gu.eqS_same l x y W' h h' hle)
  have HR := Lib.hid (fun (W' : World) (B : Nat) (x : Value) (h : W'.ownsRow B 59 7 x l.length (rcells Gu.cl l)) => rows_of_own Gu.cl_len h)
  unfold RowPost at HT
  have HQ := Lib.hid (eqGuest_same (gaOf l a1 a2))
  unfold Gu.val at HS HI HQ
  generalize gaOf l a1 a2 = R at *
  generalize rcells Gu.cl l = C at *
  clear hsl hml hle hbig
  go_enter Try.func11, Try.ntmps11
  go_wp2_with fail
  refine HZ.out.mono ?_
  rintro e w0 ⟨rfl, rfl⟩
  have A := MemAt.start W
  go_wp2_with fail
  refine (HT.out _ A.bel).mono ?_
  rintro x w1 ⟨v1, rfl, ho1, hb1⟩
  replace A := A.kept hb1
  clear hb1
  obtain ⟨a1', c1, rfl⟩ := rown_form ho1
  have HX := Lib.hid (HR.out _ _ _ ho1)
  clear ho1
  go_wp2_with fail
  refine (HS.out _ _ HX.out).mono ?_
  rintro x w2 ⟨rfl, hb2⟩
  replace A := A.kept hb2
  clear hb2 HX
  go_upto_region 6 with fail
  replace A := A.new 59 #[.int .i64 R.vni, .int .i64 R.mac, .int .i64 R.ip, .int .i64 R.door, .int .i64 R.seq, .int .i64 R.seen, .bool R.st]
  obtain ⟨W2, hW2⟩ : ∃ X, X = w2.alloc (.cells #[.int .i64 R.vni, .int .i64 R.mac, .int .i64 R.ip, .int .i64 R.door, .int .i64 R.seq, .int .i64 R.seen, .bool R.st] 59) := ⟨_, rfl⟩
  obtain ⟨qw, hqw⟩ : ∃ q, q = w2.heap.size := ⟨_, rfl⟩
  rw [← hW2, ← hqw]
  rw [← hW2, ← hqw] at A
  clear hW2 hqw
  go_wp2_with fail
  refine (HT.out _ A.bel).mono ?_
  rintro x w3 ⟨v3, rfl, ho3, hb3⟩
  replace A := A.made hb3 ho3
  obtain ⟨a3, c3, rfl⟩ := rown_form ho3
  clear ho3 hb3
  have HX := Lib.hid (HR.out _ _ _ A.r0)
  go_wp2_with fail
  refine (HI.out _ _ HX.out).mono ?_
  rintro x w4 ⟨rfl, hb4⟩
  replace A := A.kept hb4
  clear hb4 HX
  go_upto_region 8 with fail
  replace A := A.new 59 #[.int .i64 R.vni, .int .i64 R.mac, .int .i64 R.ip, .int .i64 R.door, .int .i64 R.seq, .int .i64 R.seen, .bool R.st]
  obtain ⟨W4, hW4⟩ : ∃ X, X = w4.alloc (.cells #[.int .i64 R.vni, .int .i64 R.mac, .int .i64 R.ip, .int .i64 R.door, .int .i64 R.seq, .int .i64 R.seen, .bool R.st] 59) := ⟨_, rfl⟩
  obtain ⟨qg, hqg⟩ : ∃ q, q = w4.heap.size := ⟨_, rfl⟩
  rw [← hW4, ← hqg]
  rw [← hW4, ← hqg] at A
  clear hW4 hqg
  have hc1 := A.b0.cell
  have hc2 := A.b1.cell
  go_wp2_with fail
  refine (HQ.out _).mono ?_
  rintro x w5 ⟨rfl, hb⟩
  replace A := A.kept hb
  clear hb hc1 hc2
  go_wp2_with fail
  refine (HT.out _ A.bel).mono ?_
  rintro x w6 ⟨v6, rfl, ho6, hb6⟩
  replace A := A.kept hb6
  obtain ⟨a6, c6, rfl⟩ := rown_form ho6
  have HX := Lib.hid (HR.out _ _ _ A.r0)
  have HX6 := Lib.hid (HR.out _ _ _ ho6)
  clear ho6 hb6
  go_wp2_with fail
  refine (HE.out _ _ _ HX.out HX6.out).mono ?_
  rintro x w7 ⟨rfl, hb7⟩
  have HB := Lib.hid (A.kept hb7).bel
  clear A HX HX6 hb7
  go_wp2_with fail
  go_ret
  exact ⟨rfl, HB.out⟩

set_option maxRecDepth 100000 in
theorem lifted (os : Os) (started : os.Started) (H : Type) (enc : TypeId × Value → H) :
    ReturnsInHanded {} Try.checked os 11 .any (Rows.fnExactGuestAtSpec.pre6 enc Try.prog Try.f11 Rows.fnExactGuestAtRow.domain false) (Rows.fnExactGuestAtSpec.post enc Try.prog Try.f11 false true false false) := by
  refine returnsInHanded_of_change (C := Try.checked) own started (by kernel_rfl) Try.func11
    (ChangeSpec.witness6 (enc := enc) (C := Try.checked) false ⟨#[], #[.slice none 0 0, .int .i64 0, .int .i64 0], []⟩ 8 (by kernel_rfl) (by kernel_rfl) (by kernel_rfl) (by kernel_rfl)) ?_
  intro W base args ds gs before hval0 hW hcnd _
  have hval : ∀ (j : Nat) t v, Try.f11.params[j]? = some t → args[j]? = some v → Value.okWide Try.prog W .any base t v := hval0
  have hW' := hW
  obtain ⟨p, q, hA0, hV, rfl, hfz, hnd⟩ := hW
  have hA : DataW.TrodAll enc Try.prog W 0 (fun _ => true) true Try.f11.params.toList args.toList ds p := hA0
  rw [Try.params11] at hA hval
  obtain ⟨v0, vs0, d0, ds0, p0, q0, hargs, rfl, rfl, h0, r0⟩ := trodAll_cons hA
  obtain ⟨v1, vs1, d1, ds1, p1, q1, rfl, rfl, rfl, h1, r1⟩ := trodAll_cons r0
  obtain ⟨v2, vs2, d2, ds2, p2, q2, rfl, rfl, rfl, h2, r2⟩ := trodAll_cons r1
  obtain ⟨rfl, rfl, rfl⟩ := trodAll_nil r2
  have lt0 : ∀ x ∈ p0, x.block < W.heap.size := by obtain ⟨m, hm⟩ := h0; exact DataW.trod_lt m _ _ _ hm
  have lt1 : ∀ x ∈ p1, x.block < W.heap.size := by obtain ⟨m, hm⟩ := h1; exact DataW.trod_lt m _ _ _ hm
  have lt2 : ∀ x ∈ p2, x.block < W.heap.size := by obtain ⟨m, hm⟩ := h2; exact DataW.trod_lt m _ _ _ hm
  obtain rfl : args = #[v0, v1, v2] := by cases args; simp_all
  obtain ⟨rfl, rfl⟩ := trodVars_none hV
  clear hA0 hval0
  refine (walk _ _ _ _ _ _ _ _ _ base W (hval 0 51 v0 rfl rfl) (hval 1 2 v1 rfl rfl) (hval 2 2 v2 rfl rfl) h0 h1 h2).mono fun e W' ⟨he, bel⟩ => ?_
  subst he
  exact ⟨_, rfl, _, _, _, [], _, [], hW', trodAll_mk1 (shut_bool Try.underlying4 _), (trodAll_cons_mk (Below.trod laidOut (by kernel_rfl) (of_decide_eq_true (by kernel_rfl)) h0 bel lt0) (trodAll_cons_mk (Below.trod laidOut (by kernel_rfl) (of_decide_eq_true (by kernel_rfl)) h1 bel lt1) (trodAll_cons_mk (Below.trod laidOut (by kernel_rfl) (of_decide_eq_true (by kernel_rfl)) h2 bel lt2) trodAll_mk0))), rfl, bel.frame _, fun h => by cases h⟩

theorem over : Rows.fnExactGuestAtRow.holds Try.pinned (OpenSpec.ofChange Rows.fnExactGuestAtSpec) :=
  OpenClaim.holds_of_wide 11 Try.f11 rfl rfl rfl rfl rfl rfl rfl ⟨rfl, rfl, rfl, rfl, rfl⟩ rfl rfl rfl rfl rfl (by kernel_rfl) Try.func11 (by kernel_rfl)
    (of_decide_eq_true (by kernel_rfl)) (by unfold Func.isWrapper; first | (rw [if_pos (by decide +kernel)]; kernel_rfl) | (rw [if_neg (by decide +kernel)]; exact ⟨rfl, rfl⟩))
    (fun os started H enc _ => lifted os started H enc)

theorem proved : Rows.FnExactGuestAtSaid := over
end Go.Proofs.Ytmkoppbbenombaa.fnExactGuestAt
namespace Go.Proofs.Ytmkoppbbenombaa
theorem fnExactGuestAt_holds : Rows.FnExactGuestAtSaid := fnExactGuestAt.proved
#print axioms fnExactGuestAt_holds
end Go.Proofs.Ytmkoppbbenombaa
