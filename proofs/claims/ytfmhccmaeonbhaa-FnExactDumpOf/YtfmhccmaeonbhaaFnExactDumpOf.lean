/- For every input, the law FnExactDumpOf of this seat returns true and leaves its arguments as they were. Conditions: none beyond those of the row itself. -/
import Derived.Test.YtfmhccmaeonbhaaRows
import Derived.Test.YtfmhccmaeonbhaaDpS
import Derived.ChangeOld
import Derived.Below
import Derived.Carry
import Derived.WalkKit
import Derived.ProofKit
import Derived.OpenShut
import Derived.ShutString
namespace Go.Proofs.Ytfmhccmaeonbhaa.fnExactDumpOf
open Go.ChangeShapes Go.WideShapes Go.ChangeAt Go.RowKit
set_option linter.unusedVariables false

theorem own : ownKnob Try.prog.godebug = none := by kernel_rfl
theorem laidOut : laidOutB Try.prog = true := by kernel_rfl

theorem cells_route : Try.prog.cellsOf 67 = 7 := by kernel_rfl
theorem rts_of {H : Type} {enc : TypeId × Value → H} {w : World} {base : Nat} {sp : Nat → Bool} {held : Bool} (vs : List (List Value)) (h : ∀ cs ∈ vs, cs.length = 7 ∧ Reads enc Try.prog w base sp held 67 cs) : ∃ rs : List Rt, vs = rs.map Rt.cl := by
  induction vs with
  | nil => exact ⟨[], rfl⟩
  | cons cs vs ih =>
    obtain ⟨rs, hrs⟩ := ih (fun c hc => h c (by simp [hc]))
    obtain ⟨hl, hr⟩ := h cs (by simp)
    have hf := struct_reads Try.underlying67 hr
    obtain ⟨a0, e0, _⟩ := int_at Try.underlying2 cells_int (hf 0 _ rfl)
    obtain ⟨a1, e1, _⟩ := int_at Try.underlying2 cells_int (hf 1 _ rfl)
    obtain ⟨a2, e2, _⟩ := int_at Try.underlying2 cells_int (hf 2 _ rfl)
    obtain ⟨a3, e3, _⟩ := int_at Try.underlying2 cells_int (hf 3 _ rfl)
    obtain ⟨a4, e4, _⟩ := int_at Try.underlying2 cells_int (hf 4 _ rfl)
    obtain ⟨a5, e5, _⟩ := int_at Try.underlying2 cells_int (hf 5 _ rfl)
    obtain ⟨a6, e6⟩ := bool_at Try.underlying4 cells_bool (hf 6 _ rfl)
    have := arr7 (cs := cs.toArray) (by simpa using hl) (by simpa using e0) (by simpa using e1) (by simpa using e2) (by simpa using e3) (by simpa using e4) (by simpa using e5) (by simpa using e6)
    have hcs : cs = [.int .i64 a0, .int .i64 a1, .int .i64 a2, .int .i64 a3, .int .i64 a4, .int .i64 a5, .bool a6] := by simpa using congrArg Array.toList this
    exact ⟨⟨a0, a1, a2, a3, a4, a5, a6⟩ :: rs, by rw [hcs, hrs]; rfl⟩
set_option maxHeartbeats 1000000 in
theorem szRouteS_any (v : Value) (vs : List (List Value)) (w : World) (h : SlAt w 7 v vs) (hm : vs.length ≤ maxLen) :
    Calls Try.prog 42 #[v, .int .i64 1048576] w fun e w' => e = .returned (.int .i64 (if 1048576 < vs.length then -1 else 1048576 - vs.length)) ∧ w = w' := by
  obtain ⟨a, cap, rfl, _⟩ := h
  unfold maxLen at hm
  by_cases hb : 1048576 < vs.length
  · rw [if_pos hb]
    have hw : IntKind.i64.wrap (1048576 - (vs.length : Int)) = 1048576 - (vs.length : Int) := by simp only [IntKind.wrap_i64]; omega
    have hneg : (1048576 - (vs.length : Int) : Int) < 0 := by omega
    go_enter Try.func42, Try.ntmps42
    go_wp2
    go_ret
    exact ⟨rfl, rfl⟩
  · rw [if_neg hb]
    have hw : IntKind.i64.wrap (1048576 - (vs.length : Int)) = 1048576 - (vs.length : Int) := by simp only [IntKind.wrap_i64]; omega
    have hneg : ¬ (1048576 - (vs.length : Int) : Int) < 0 := by omega
    go_enter Try.func42, Try.ntmps42
    go_wp2
    go_ret
    exact ⟨rfl, rfl⟩
theorem dump_small (rs : List Rt) : (dumpL rs).length ≤ 61 := by
  unfold dumpL
  split
  · rename_i h; rw [List.length_append]; unfold notesL; rw [List.length_map]; simp; exact h.1
  · simp
theorem law_grown2 {W cur cur' : World} {row : Option Nat} {B0 B1 : Nat} {v0 v1 : Value} {l0 l1 : List ByteArray} (h : LawAt W [] [(B0, v0, l0), (B1, v1, l1)] cur) (hg : cur.grownBy cur' row) (hr : ∀ k, row = some k → W.heap.size ≤ k) (a0 : v0.ownBlock = none ∨ v0.ownBlock ≠ row) (a1 : v1.ownBlock = none ∨ v1.ownBlock ≠ row) : LawAt W [] [(B0, v0, l0), (B1, v1, l1)] cur' := by
  refine ⟨h.bel.grown hg h.bel.size hr, (fun q hq => by cases hq), fun q hq => ?_⟩
  simp only [List.mem_cons, List.not_mem_nil, or_false] at hq
  rcases hq with rfl | rfl
  · exact h.r0.kept hg a0
  · exact h.r1.kept hg a1
set_option maxRecDepth 100000 in
set_option maxHeartbeats 4000000 in
set_option maxRecDepth 100000 in
theorem walk {H : Type} {enc : TypeId × Value → H} (v0 : Value) (d0 : DataW H) (p0 : List MemPlace) (base : Nat) (W : World) (o0 : Value.okWide Try.prog W .any base 56 v0) (h0 : DataW.Trod enc Try.prog W 0 (fun _ => true) true 56 v0 d0 p0) :
    Calls Try.prog 11 #[v0] W fun e w' => e = .returned (.bool true) ∧ Below W.heap.size W w' := by
  obtain ⟨vs, hsl, hml, hrd⟩ := slice_open 7 (by omega) Try.underlying56 cells_route o0 h0
  obtain ⟨rs, rfl⟩ := rts_of vs hrd
  clear hrd o0 h0
  have HZ := Lib.hid (fun (W' : World) (hb : Below W.heap.size W W') => szRouteS_any v0 _ W' (hsl.kept hb) hml)
  rw [List.length_map] at HZ hml
  by_cases hbig : 1048576 < rs.length
  · rw [if_pos hbig] at HZ
    go_enter Try.func11, Try.ntmps11
    go_wp2_with fail
    refine (HZ.out _ (Below.refl _ _)).mono ?_
    rintro e w1 ⟨rfl, rfl⟩
    go_wp2_with fail
    go_ret
    exact ⟨rfl, Below.refl _ _⟩
  rw [if_neg hbig] at HZ
  have hle : rs.length ≤ 1048576 := by omega
  have hneg : ¬ (1048576 - (rs.length : Int) : Int) < 0 := by omega
  have HT := Lib.hid (fun (W' : World) (hb : Below W.heap.size W W') => toRouteS_own rs v0 W' (hsl.kept hb) hle)
  have HS := Lib.hid (fun (x : Value) (W' : World) (h : RtsAt W' x rs) => specDumpOf_any rs x W' h hle)
  have HI := Lib.hid (fun (x : Value) (W' : World) (h : RtsAt W' x rs) => implDumpOf_any rs x W' h hle)
  have HE := Lib.hid (fun (x y : Value) (W' : World) (h : RtsAt W' x rs) (h' : RtsAt W' y rs) => eqRouteS_same rs x y W' h h' hle)
  have HX := Lib.hid (fun (B : Nat) (x : Value) (ys : List Value) (W' : World) (h : W'.ownsRow B 69 7 x rs.length ys) => markRouteS_any B x 1 rs.length ys W' h (by omega) (by omega))
  have hsm := dump_small rs
  generalize dumpL rs = D at HS HI hsm
  have HQ := Lib.hid (fun (x y : Value) (W' : World) (h : StsAt W' x D) (h' : StsAt W' y D) => eqStringS_same D x y W' h h')
  have HM := Lib.hid (fun (B : Nat) (x : Value) (W' : World) (h : W'.ownsRow B 9 1 x D.length (strsV D)) => markStringS_any B x 1 D.length _ W' h (by omega) (by omega))
  have HD := Lib.hid (fun (x : Value) (W' : World) (h : StsAt W' x (marks 1 D.length)) => heldStringS_any x 1 D.length W' h (by omega) (by omega))
  obtain ⟨K, hK⟩ : ∃ K : Int, K = ((1 + D.length : Nat) : Int) := ⟨_, rfl⟩
  have hK0 : ¬ K < 0 := by omega
  have HK := Lib.hid hK
  obtain ⟨K1, hK1⟩ : ∃ K : Int, K = ((1 + 7 * rs.length : Nat) : Int) := ⟨_, rfl⟩
  have hK2 : ¬ K1 < 0 := by omega
  have HK1 := Lib.hid hK1
  clear hK hK1 hsm hml
  obtain ⟨va, vc, rfl⟩ : ∃ a c, v0 = .slice a rs.length c := by
    obtain ⟨a, c, e, _⟩ := hsl
    exact ⟨a, c, by rw [e, List.length_map]⟩
  clear hsl
  go_enter Try.func11, Try.ntmps11
  go_wp2_with fail
  refine (HZ.out _ (Below.refl _ _)).mono ?_
  rintro e w0 ⟨rfl, rfl⟩
  have A := LawAt.start W
  go_wp2_with fail
  refine (HT.out _ A.bel).mono ?_
  rintro x w1 ⟨v1, y1, rfl, hx1, _, hb1⟩
  replace A := A.kept hb1
  clear hb1
  go_wp2_with fail
  refine (HS.out _ _ hx1).mono ?_
  rintro x w2 ⟨wv, rfl, ho2, hb2⟩
  replace A := (A.kept hb2).own (own_mono (B' := W.heap.size) ho2 A.bel.size)
  obtain ⟨wa, wd, rfl⟩ := own_form ho2
  clear hb2 ho2 hx1
  go_wp2_with fail
  refine (HT.out _ A.bel).mono ?_
  rintro x w3 ⟨xv, yx, rfl, hx3, hxo, hb3⟩
  have AP1 := Lib.hid (own_apart A.r0 hxo (Nat.le_refl _))
  have hlx := Lib.hid (fun k hk => Nat.le_trans A.bel.size (hxo.lt k hk).1)
  replace A := A.kept hb3
  obtain ⟨xa, xd, rfl⟩ := own_form hxo
  have HXA := Lib.hid hx3
  have HXO := Lib.hid hxo
  clear hb3 hx3 hxo
  go_wp2_with fail
  refine (HI.out _ _ HXA.out).mono ?_
  rintro x w4 ⟨gv, rfl, ho4, hb4⟩
  have AP2 := Lib.hid (own_apart HXO.out ho4 (Nat.le_refl _))
  have AP3 := Lib.hid (own_apart A.r0 ho4 (Nat.le_refl _))
  replace A := (A.kept hb4).own (own_mono (B' := W.heap.size) ho4 A.bel.size)
  replace HXA := Lib.hid (SlAt.kept HXA.out hb4)
  replace HXO := Lib.hid (own_below HXO.out hb4)
  obtain ⟨ga, gd, rfl⟩ := own_form ho4
  clear hb4 ho4
  go_wp2_with fail
  refine (HQ.out _ _ _ (StsAt.of_own A.r0) (StsAt.of_own A.r1)).mono ?_
  rintro x w5 ⟨rfl, hb5⟩
  replace A := A.kept hb5
  replace HXA := Lib.hid (SlAt.kept HXA.out hb5)
  replace HXO := Lib.hid (own_below HXO.out hb5)
  clear hb5
  go_wp2_with fail
  refine (HT.out _ A.bel).mono ?_
  rintro x w6 ⟨v6, y6, rfl, hx6, _, hb6⟩
  replace A := A.kept hb6
  replace HXA := Lib.hid (SlAt.kept HXA.out hb6)
  replace HXO := Lib.hid (own_below HXO.out hb6)
  have HX6 := Lib.hid hx6
  clear hb6 hx6
  go_wp2_with fail
  refine (HE.out _ _ _ HXA.out HX6.out).mono ?_
  rintro x w7 ⟨rfl, hb7⟩
  replace A := A.kept hb7
  replace HXO := Lib.hid (own_below HXO.out hb7)
  clear hb7 HX6 HXA
  go_wp2_with fail
  refine (HX.out _ _ _ _ HXO.out).mono ?_
  rintro x w8 ⟨rfl, hg8⟩
  replace A := law_grown2 A hg8 hlx.out AP2.out (apart_symm AP1.out)
  clear hg8 HX HXO
  rw [← HK1.out]
  go_wp2_with fail
  refine (HQ.out _ _ _ (StsAt.of_own A.r0) (StsAt.of_own A.r1)).mono ?_
  rintro x w9 ⟨rfl, hb9⟩
  replace A := A.kept hb9
  clear hb9
  go_wp2_with fail
  refine (HM.out _ _ _ A.r0).mono ?_
  rintro x w10 ⟨rfl, ho10, hg10⟩
  replace A := A.marked (R' := [(W.heap.size, .slice wa D.length wd, D)]) A.r0 (Nat.le_refl _) hg10 ho10 (fun q hq => by cases hq) (fun q hq => by
    simp only [List.mem_cons, List.not_mem_nil, or_false] at hq
    subst hq
    exact ⟨.tail _ (.head _), apart_symm AP3.out⟩)
  clear ho10 hg10 HM
  rw [← HK.out]
  go_wp2_with fail
  refine (HD.out _ _ (StsAt.of_own A.r0)).mono ?_
  rintro x w11 ⟨rfl, hb11⟩
  replace A := A.kept hb11
  clear hb11
  rw [← HK.out]
  go_wp2_with fail
  refine (HT.out _ A.bel).mono ?_
  rintro x w12 ⟨v12, y12, rfl, hx12, _, hb12⟩
  replace A := A.kept hb12
  clear hb12
  go_wp2_with fail
  refine (HI.out _ _ hx12).mono ?_
  rintro x w13 ⟨kv, rfl, ho13, hb13⟩
  replace A := (A.kept hb13).own (own_mono (B' := W.heap.size) ho13 A.bel.size)
  obtain ⟨ka, kd, rfl⟩ := own_form ho13
  clear hb13 ho13 hx12
  go_wp2_with fail
  refine (HQ.out _ _ _ (StsAt.of_own A.r0) (StsAt.of_own A.r2)).mono ?_
  rintro x w14 ⟨rfl, hb14⟩
  replace A := A.kept hb14
  clear hb14
  go_wp2_with fail
  refine (HD.out _ _ (StsAt.of_own A.r1)).mono ?_
  rintro x w15 ⟨rfl, hb15⟩
  replace A := A.kept hb15
  clear hb15
  rw [← HK.out]
  have HB := Lib.hid A.bel
  clear A
  go_wp2_with fail
  go_ret
  exact ⟨rfl, HB.out⟩

set_option maxRecDepth 100000 in
theorem lifted (os : Os) (started : os.Started) (H : Type) (enc : TypeId × Value → H) :
    ReturnsInHanded {} Try.checked os 11 .any (Rows.fnExactDumpOfSpec.pre6 enc Try.prog Try.f11 Rows.fnExactDumpOfRow.domain false) (Rows.fnExactDumpOfSpec.post enc Try.prog Try.f11 false true false false) := by
  refine returnsInHanded_of_change (C := Try.checked) own started (by kernel_rfl) Try.func11
    (ChangeSpec.witness6 (enc := enc) (C := Try.checked) false ⟨#[], #[.slice none 0 0], []⟩ 8 (by kernel_rfl) (by kernel_rfl) (by kernel_rfl) (by kernel_rfl)) ?_
  intro W base args ds gs before hval0 hW hcnd _
  have hval : ∀ (j : Nat) t v, Try.f11.params[j]? = some t → args[j]? = some v → Value.okWide Try.prog W .any base t v := hval0
  have hW' := hW
  obtain ⟨p, q, hA0, hV, rfl, hfz, hnd⟩ := hW
  have hA : DataW.TrodAll enc Try.prog W 0 (fun _ => true) true Try.f11.params.toList args.toList ds p := hA0
  rw [Try.params11] at hA hval
  obtain ⟨v0, vs0, d0, ds0, p0, q0, hargs, rfl, rfl, h0, r0⟩ := trodAll_cons hA
  obtain ⟨rfl, rfl, rfl⟩ := trodAll_nil r0
  have lt0 : ∀ x ∈ p0, x.block < W.heap.size := by obtain ⟨m, hm⟩ := h0; exact DataW.trod_lt m _ _ _ hm
  obtain rfl : args = #[v0] := by cases args; simp_all
  obtain ⟨rfl, rfl⟩ := trodVars_none hV
  clear hA0 hval0
  refine (walk _ _ _ base W (hval 0 56 v0 rfl rfl) h0).mono fun e W' ⟨he, bel⟩ => ?_
  subst he
  exact ⟨_, rfl, _, _, _, [], _, [], hW', trodAll_mk1 (shut_bool Try.underlying4 _), (trodAll_cons_mk (Below.trod laidOut (by kernel_rfl) (of_decide_eq_true (by kernel_rfl)) h0 bel lt0) trodAll_mk0), rfl, bel.frame _, fun h => by cases h⟩

theorem over : Rows.fnExactDumpOfRow.holds Try.pinned (OpenSpec.ofChange Rows.fnExactDumpOfSpec) :=
  OpenClaim.holds_of_wide 11 Try.f11 rfl rfl rfl rfl rfl rfl rfl ⟨rfl, rfl, rfl, rfl, rfl⟩ rfl rfl rfl rfl rfl (by kernel_rfl) Try.func11 (by kernel_rfl)
    (of_decide_eq_true (by kernel_rfl)) (by unfold Func.isWrapper; first | (rw [if_pos (by decide +kernel)]; kernel_rfl) | (rw [if_neg (by decide +kernel)]; exact ⟨rfl, rfl⟩))
    (fun os started H enc _ => lifted os started H enc)

theorem proved : Rows.FnExactDumpOfSaid := over
end Go.Proofs.Ytfmhccmaeonbhaa.fnExactDumpOf
namespace Go.Proofs.Ytfmhccmaeonbhaa
theorem fnExactDumpOf_holds : Rows.FnExactDumpOfSaid := fnExactDumpOf.proved
#print axioms fnExactDumpOf_holds
end Go.Proofs.Ytfmhccmaeonbhaa
