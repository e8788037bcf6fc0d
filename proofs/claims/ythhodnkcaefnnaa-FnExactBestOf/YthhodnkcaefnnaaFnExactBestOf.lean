/- For every input, the law FnExactBestOf of this seat returns true and leaves its arguments as they were. Conditions: none beyond those of the row itself. -/
import Derived.Test.YthhodnkcaefnnaaRows
import Derived.Test.YthhodnkcaefnnaaRtX
import Derived.Test.YthhodnkcaefnnaaRtT
import Derived.Deep.CutRange
import Derived.ChangeOld
import Derived.Below
import Derived.Carry
import Derived.WalkKit
import Derived.ProofKit
import Derived.OpenShut
import Derived.ShutString
namespace Go.Proofs.Ythhodnkcaefnnaa.fnExactBestOf
open Go.ChangeShapes Go.WideShapes Go.ChangeAt Go.RowKit
set_option linter.unusedVariables false

theorem own : ownKnob Try.prog.godebug = none := by kernel_rfl
theorem laidOut : laidOutB Try.prog = true := by kernel_rfl

theorem cells_route : Try.prog.cellsOf 23 = 7 := by kernel_rfl
theorem rts_of {H : Type} {enc : TypeId × Value → H} {w : World} {base : Nat} {sp : Nat → Bool} {held : Bool} (vs : List (List Value)) (h : ∀ cs ∈ vs, cs.length = 7 ∧ Reads enc Try.prog w base sp held 23 cs) : ∃ rs : List Rt, vs = rs.map Rt.cl := by
  induction vs with
  | nil => exact ⟨[], rfl⟩
  | cons cs vs ih =>
    obtain ⟨rs, hrs⟩ := ih (fun c hc => h c (by simp [hc]))
    obtain ⟨hl, hr⟩ := h cs (by simp)
    have hf := struct_reads Try.underlying23 hr
    obtain ⟨a0, e0, _⟩ := int_at Try.underlying2 cells_int (hf 0 _ rfl)
    obtain ⟨a1, e1, _⟩ := int_at Try.underlying2 cells_int (hf 1 _ rfl)
    obtain ⟨a2, e2, _⟩ := int_at Try.underlying2 cells_int (hf 2 _ rfl)
    obtain ⟨a3, e3, _⟩ := int_at Try.underlying2 cells_int (hf 3 _ rfl)
    obtain ⟨a4, e4, _⟩ := int_at Try.underlying2 cells_int (hf 4 _ rfl)
    obtain ⟨a5, e5, _⟩ := int_at Try.underlying2 cells_int (hf 5 _ rfl)
    obtain ⟨a6, e6⟩ := bool_at Try.underlying4 cells_bool (hf 6 _ rfl)
    have := arr7 (cs := cs.toArray) (by simpa using hl) (by simpa using e0) (by simpa using e1) (by simpa using e2) (by simpa using e3) (by simpa using e4) (by simpa using e5) (by simpa using e6)
    have hcs : cs = [.int .i64 a0, .int .i64 a1, .int .i64 a2, .int .i64 a3, .int .i64 a4, .int .i64 a5, .bool a6] := by simpa using congrArg Array.toList this
    exact ⟨⟨a0, a1, a2, a3, a4, a5, a6⟩ :: rs, by rw [hcs, hrs]; rfl⟩
set_option maxHeartbeats 1000000 in
theorem szRouteS_any (v : Value) (vs : List (List Value)) (w : World) (h : SlAt w 7 v vs) (hm : vs.length ≤ maxLen) :
    Calls Try.prog 18 #[v, .int .i64 1048576] w fun e w' => e = .returned (.int .i64 (if 1048576 < vs.length then -1 else 1048576 - vs.length)) ∧ w = w' := by
  obtain ⟨a, cap, rfl, _⟩ := h
  unfold maxLen at hm
  by_cases hb : 1048576 < vs.length
  · rw [if_pos hb]
    have hw : IntKind.i64.wrap (1048576 - (vs.length : Int)) = 1048576 - (vs.length : Int) := by simp only [IntKind.wrap_i64]; omega
    have hneg : (1048576 - (vs.length : Int) : Int) < 0 := by omega
    go_enter Try.func18, Try.ntmps18
    go_wp2
    go_ret
    exact ⟨rfl, rfl⟩
  · rw [if_neg hb]
    have hw : IntKind.i64.wrap (1048576 - (vs.length : Int)) = 1048576 - (vs.length : Int) := by simp only [IntKind.wrap_i64]; omega
    have hneg : ¬ (1048576 - (vs.length : Int) : Int) < 0 := by omega
    go_enter Try.func18, Try.ntmps18
    go_wp2
    go_ret
    exact ⟨rfl, rfl⟩
set_option maxHeartbeats 2000000 in
theorem walk {H : Type} {enc : TypeId × Value → H} (v0 v1 v2 : Value) (d0 d1 d2 : DataW H) (p0 p1 p2 : List MemPlace) (base : Nat) (W : World) (o0 : Value.okWide Try.prog W .any base 32 v0) (o1 : Value.okWide Try.prog W .any base 2 v1) (o2 : Value.okWide Try.prog W .any base 2 v2) (h0 : DataW.Trod enc Try.prog W 0 (fun _ => true) true 32 v0 d0 p0) (h1 : DataW.Trod enc Try.prog W 0 (fun _ => true) true 2 v1 d1 p1) (h2 : DataW.Trod enc Try.prog W 0 (fun _ => true) true 2 v2 d2 p2) :
    Calls Try.prog 7 #[v0, v1, v2] W fun e w' => e = .returned (.bool true) ∧ Below W.heap.size W w' := by
  obtain ⟨vs, hsl, hml, hrd⟩ := slice_open 7 (by omega) Try.underlying32 cells_route o0 h0
  obtain ⟨rs, rfl⟩ := rts_of vs hrd
  obtain ⟨b, rfl⟩ : ∃ b, v1 = .int .i64 b := by obtain ⟨b, e⟩ := okWide_int Try.underlying2 o1; exact ⟨b, e⟩
  obtain ⟨c, rfl⟩ : ∃ c, v2 = .int .i64 c := by obtain ⟨c, e⟩ := okWide_int Try.underlying2 o2; exact ⟨c, e⟩
  clear hrd o0 h0 o1 h1 o2 h2
  have HZ := Lib.hid (fun (W' : World) (hb : Below W.heap.size W W') => szRouteS_any v0 _ W' (hsl.kept hb) hml)
  rw [List.length_map] at HZ hml
  by_cases hbig : 1048576 < rs.length
  · rw [if_pos hbig] at HZ
    go_enter Try.func7, Try.ntmps7
    go_wp2_with fail
    refine (HZ.out _ (Below.refl _ _)).mono ?_
    rintro e w1 ⟨rfl, rfl⟩
    go_wp2_with fail
    go_ret
    exact ⟨rfl, Below.refl _ _⟩
  · rw [if_neg hbig] at HZ
    have hle : rs.length ≤ 1048576 := by omega
    have hneg : ¬ (1048576 - (rs.length : Int) : Int) < 0 := by omega
    have HT := Lib.hid (fun (W' : World) (hb : Below W.heap.size W W') => toRouteS_any rs v0 W' (hsl.kept hb) hle)
    obtain ⟨bb, hbb⟩ : ∃ bb, bb = bestS b c rs := ⟨_, rfl⟩
    have HS := Lib.hid (fun (x : Value) (W' : World) (h : RtsAt W' x rs) => specBestOf_any rs b c x W' h hle)
    have HI := Lib.hid (fun (x : Value) (W' : World) (h : RtsAt W' x rs) => implBestOf_any rs b c x W' h hle)
    rw [← hbb] at HS HI
    clear hbb
    have HE := Lib.hid (fun (x y : Value) (W' : World) (h : RtsAt W' x rs) (h' : RtsAt W' y rs) => eqRouteS_same rs x y W' h h' hle)
    have HQ := Lib.hid (eqRoute_same bb.kind bb.vni bb.mac bb.ip bb.org bb.seq bb.st)
    unfold Rt.val rtV at HS HI
    unfold rtV at HQ
    clear hsl hml
    go_enter Try.func7, Try.ntmps7
    go_wp2_with fail
    refine (HZ.out _ (Below.refl _ _)).mono ?_
    rintro e w1 ⟨rfl, rfl⟩
    go_wp2_with fail
    refine (HT.out _ (Below.refl _ _)).mono ?_
    rintro e w1 ⟨x1, rfl, hx1, hb1⟩
    have HB := Lib.hid hb1
    clear hb1
    go_wp2_with fail
    refine (HS.out _ _ hx1).mono ?_
    rintro e w2 ⟨rfl, hb2⟩
    replace HB : Hid (Below W.heap.size W w2) := Lib.hid (HB.out.trans (hb2.mono HB.out.size))
    clear hb2 hx1
    go_upto_region 6 with fail
    obtain ⟨W1, hW1⟩ : ∃ W1, W1 = w2.alloc (.cells #[.int .i64 bb.kind, .int .i64 bb.vni, .int .i64 bb.mac, .int .i64 bb.ip, .int .i64 bb.org, .int .i64 bb.seq, .bool bb.st] 25) := ⟨_, rfl⟩
    obtain ⟨q1, hq1⟩ : ∃ q, q = w2.heap.size := ⟨_, rfl⟩
    rw [← hW1, ← hq1]
    have B1 : Blk W1 q1 25 #[.int .i64 bb.kind, .int .i64 bb.vni, .int .i64 bb.mac, .int .i64 bb.ip, .int .i64 bb.org, .int .i64 bb.seq, .bool bb.st] := by subst hW1 hq1; exact Blk.new _ _ _
    replace HB : Hid (Below W.heap.size W W1) := Lib.hid (by subst hW1; exact HB.out.alloc HB.out.size _)
    clear hW1 hq1
    go_wp2_with fail
    refine (HT.out _ HB.out).mono ?_
    rintro e w3 ⟨x3, rfl, hx3, hb3⟩
    replace HB : Hid (Below W.heap.size W w3) := Lib.hid (HB.out.trans (hb3.mono HB.out.size))
    replace B1 := B1.kept hb3
    clear hb3
    go_wp2_with fail
    refine (HI.out _ _ hx3).mono ?_
    rintro e w4 ⟨rfl, hb4⟩
    replace HB : Hid (Below W.heap.size W w4) := Lib.hid (HB.out.trans (hb4.mono HB.out.size))
    replace B1 := B1.kept hb4
    have HX := hx3.kept hb4
    clear hb4 hx3
    go_upto_region 8 with fail
    obtain ⟨W2, hW2⟩ : ∃ W2, W2 = w4.alloc (.cells #[.int .i64 bb.kind, .int .i64 bb.vni, .int .i64 bb.mac, .int .i64 bb.ip, .int .i64 bb.org, .int .i64 bb.seq, .bool bb.st] 25) := ⟨_, rfl⟩
    obtain ⟨q2, hq2⟩ : ∃ q, q = w4.heap.size := ⟨_, rfl⟩
    rw [← hW2, ← hq2]
    have B2 : Blk W2 q2 25 #[.int .i64 bb.kind, .int .i64 bb.vni, .int .i64 bb.mac, .int .i64 bb.ip, .int .i64 bb.org, .int .i64 bb.seq, .bool bb.st] := by subst hW2 hq2; exact Blk.new _ _ _
    replace B1 : Blk W2 q1 25 #[.int .i64 bb.kind, .int .i64 bb.vni, .int .i64 bb.mac, .int .i64 bb.ip, .int .i64 bb.org, .int .i64 bb.seq, .bool bb.st] := by subst hW2; exact B1.alloc _
    replace HX : RtsAt W2 x3 rs := by subst hW2; exact SlAt.alloc HX _
    replace HB : Hid (Below W.heap.size W W2) := Lib.hid (by subst hW2; exact HB.out.alloc HB.out.size _)
    clear hW2 hq2
    have c1 := B1.cell
    have c2 := B2.cell
    replace HX := Lib.hid HX
    go_wp2_with fail
    refine (HQ.out _).mono ?_
    rintro e w5 ⟨rfl, hb5⟩
    replace HB : Hid (Below W.heap.size W w5) := Lib.hid (HB.out.trans (hb5.mono HB.out.size))
    replace HX := Lib.hid (HX.out.kept hb5)
    clear hb5 c1 c2 B1 B2
    go_wp2_with fail
    refine (HT.out _ HB.out).mono ?_
    rintro e w6 ⟨x6, rfl, hx6, hb6⟩
    replace HB : Hid (Below W.heap.size W w6) := Lib.hid (HB.out.trans (hb6.mono HB.out.size))
    replace HX := Lib.hid (HX.out.kept hb6)
    have HX6 := Lib.hid hx6
    clear hb6 hx6
    go_wp2_with fail
    refine (HE.out _ _ _ HX.out HX6.out).mono ?_
    rintro e w7 ⟨rfl, hb7⟩
    replace HB : Hid (Below W.heap.size W w7) := Lib.hid (HB.out.trans (hb7.mono HB.out.size))
    clear hb7
    go_wp2_with fail
    go_ret
    exact ⟨rfl, HB.out⟩

set_option maxRecDepth 100000 in
theorem lifted (os : Os) (started : os.Started) (H : Type) (enc : TypeId × Value → H) :
    ReturnsInHanded {} Try.checked os 7 .any (Rows.fnExactBestOfSpec.pre6 enc Try.prog Try.f7 Rows.fnExactBestOfRow.domain false) (Rows.fnExactBestOfSpec.post enc Try.prog Try.f7 false true false false) := by
  refine returnsInHanded_of_change (C := Try.checked) own started (by kernel_rfl) Try.func7
    (ChangeSpec.witness6 (enc := enc) (C := Try.checked) false ⟨#[], #[.slice none 0 0, .int .i64 0, .int .i64 0], []⟩ 8 (by kernel_rfl) (by kernel_rfl) (by kernel_rfl) (by kernel_rfl)) ?_
  intro W base args ds gs before hval0 hW hcnd _
  have hval : ∀ (j : Nat) t v, Try.f7.params[j]? = some t → args[j]? = some v → Value.okWide Try.prog W .any base t v := hval0
  have hW' := hW
  obtain ⟨p, q, hA0, hV, rfl, hfz, hnd⟩ := hW
  have hA : DataW.TrodAll enc Try.prog W 0 (fun _ => true) true Try.f7.params.toList args.toList ds p := hA0
  rw [Try.params7] at hA hval
  obtain ⟨v0, vs0, d0, ds0, p0, q0, hargs, rfl, rfl, h0, r0⟩ := trodAll_cons hA
  obtain ⟨v1, vs1, d1, ds1, p1, q1, rfl, rfl, rfl, h1, r1⟩ := trodAll_cons r0
  obtain ⟨v2, vs2, d2, ds2, p2, q2, rfl, rfl, rfl, h2, r2⟩ := trodAll_cons r1
  obtain ⟨rfl, rfl, rfl⟩ := trodAll_nil r2
  have lt0 : ∀ x ∈ p0, x.block < W.heap.size := by obtain ⟨m, hm⟩ := h0; exact DataW.trod_lt m _ _ _ hm
  have lt1 : ∀ x ∈ p1, x.block < W.heap.size := by obtain ⟨m, hm⟩ := h1; exact DataW.trod_lt m _ _ _ hm
  have lt2 : ∀ x ∈ p2, x.block < W.heap.size := by obtain ⟨m, hm⟩ := h2; exact DataW.trod_lt m _ _ _ hm
  obtain rfl : args = #[v0, v1, v2] := by cases args; simp_all
  obtain ⟨rfl, rfl⟩ := trodVars_none hV
  clear hA0 hval0
  refine (walk _ _ _ _ _ _ _ _ _ base W (hval 0 32 v0 rfl rfl) (hval 1 2 v1 rfl rfl) (hval 2 2 v2 rfl rfl) h0 h1 h2).mono fun e W' ⟨he, bel⟩ => ?_
  subst he
  exact ⟨_, rfl, _, _, _, [], _, [], hW', trodAll_mk1 (shut_bool Try.underlying4 _), (trodAll_cons_mk (Below.trod laidOut (by kernel_rfl) (of_decide_eq_true (by kernel_rfl)) h0 bel lt0) (trodAll_cons_mk (Below.trod laidOut (by kernel_rfl) (of_decide_eq_true (by kernel_rfl)) h1 bel lt1) (trodAll_cons_mk (Below.trod laidOut (by kernel_rfl) (of_decide_eq_true (by kernel_rfl)) h2 bel lt2) trodAll_mk0))), rfl, bel.frame _, fun h => by cases h⟩

theorem over : Rows.fnExactBestOfRow.holds Try.pinned (OpenSpec.ofChange Rows.fnExactBestOfSpec) :=
  OpenClaim.holds_of_wide 7 Try.f7 rfl rfl rfl rfl rfl rfl rfl ⟨rfl, rfl, rfl, rfl, rfl⟩ rfl rfl rfl rfl rfl (by kernel_rfl) Try.func7 (by kernel_rfl)
    (of_decide_eq_true (by kernel_rfl)) (by unfold Func.isWrapper; first | (rw [if_pos (by decide +kernel)]; kernel_rfl) | (rw [if_neg (by decide +kernel)]; exact ⟨rfl, rfl⟩))
    (fun os started H enc _ => lifted os started H enc)

theorem proved : Rows.FnExactBestOfSaid := over
end Go.Proofs.Ythhodnkcaefnnaa.fnExactBestOf
namespace Go.Proofs.Ythhodnkcaefnnaa
theorem fnExactBestOf_holds : Rows.FnExactBestOfSaid := fnExactBestOf.proved
#print axioms fnExactBestOf_holds
end Go.Proofs.Ythhodnkcaefnnaa
