/- For every input, the law FnExactRoomsOf of this seat returns true and leaves its arguments as they were. Conditions: none beyond those of the row itself. -/
import Derived.Test.YtmkoppbbenombaaRows
import Derived.Test.YtmkoppbbenombaaHdO
import Derived.Test.YtmkoppbbenombaaRmS
import Derived.Test.YtmkoppbbenombaaRmI
import Derived.ChangeOld
import Derived.Below
import Derived.Carry
import Derived.WalkKit
import Derived.ProofKit
import Derived.OpenShut
import Derived.ShutString
namespace Go.Proofs.Ytmkoppbbenombaa.fnExactRoomsOf
open Go.ChangeShapes Go.WideShapes Go.ChangeAt Go.RowKit
set_option linter.unusedVariables false

theorem own : ownKnob Try.prog.godebug = none := by kernel_rfl
theorem laidOut : laidOutB Try.prog = true := by kernel_rfl

set_option maxRecDepth 100000 in
set_option maxHeartbeats 4000000 in
set_option maxRecDepth 100000 in
theorem walk {H : Type} {enc : TypeId × Value → H} (v0 v1 v2 : Value) (d0 d1 d2 : DataW H) (p0 p1 p2 : List MemPlace) (base : Nat) (W : World) (o0 : Value.okWide Try.prog W .any base 22 v0) (o1 : Value.okWide Try.prog W .any base 2 v1) (o2 : Value.okWide Try.prog W .any base 2 v2) (h0 : DataW.Trod enc Try.prog W 0 (fun _ => true) true 22 v0 d0 p0) (h1 : DataW.Trod enc Try.prog W 0 (fun _ => true) true 2 v1 d1 p1) (h2 : DataW.Trod enc Try.prog W 0 (fun _ => true) true 2 v2 d2 p2) :
    Calls Try.prog 9 #[v0, v1, v2] W fun e w' => e = .returned (.bool true) ∧ Below W.heap.size W w' := by
  obtain ⟨l, hsl, hml, va, vc, rfl⟩ := hds_open o0 h0
  obtain ⟨a1, rfl⟩ : ∃ a : Int, v1 = .int .i64 a := int_open o1
  obtain ⟨a2, rfl⟩ : ∃ a : Int, v2 = .int .i64 a := int_open o2
  clear o0 h0 o1 h1 o2 h2
  have HZ := Lib.hid (Hd.szS_any _ _ W hsl (by simpa using hml))
  rw [List.length_map] at HZ
  by_cases hbig : 1048576 < l.length
  · rw [if_pos hbig] at HZ
    go_enter Try.func9, Try.ntmps9
    go_wp2_with fail
    refine HZ.out.mono ?_
    rintro e w1 ⟨rfl, rfl⟩
    go_wp2_with fail
    go_ret
    exact ⟨rfl, Below.refl _ _⟩
  rw [if_neg hbig] at HZ
  have hle : l.length ≤ 1048576 := by omega
  have hneg : ¬ (1048576 - (l.length : Int) : Int) < 0 := by omega
  have HT := Lib.hid (fun (W' : World) (hb : Below W.heap.size W W') => Hd.toS_any l _ W' (SlAt.kept hsl hb) hle)
  have HS := Lib.hid (fun (x : Value) (W' : World) (h : HdsAt W' x l) => specRoomsOf_any l x a1 a2 W' h hle)
  have HI := Lib.hid (fun (x : Value) (W' : World) (h : HdsAt W' x l) => implRoomsOf_any l x a1 a2 W' h hle)
  have HE := Lib.hid (fun (x y : Value) (W' : World) (h : HdsAt W' x l) (h' : HdsAt W' y l) => Hd.eqS_same l x y W' h h' hle)
  have HX := Lib.hid (fun (B : Nat) (x : Value) (ys : List Value) (W' : World) (h : W'.ownsRow B 77 9 x l.length ys) => Hd.markS_any B x 1 l.length ys W' h (by omega) (by omega))
  have HRH := Lib.hid (fun (W' : World) (B : Nat) (x : Value) (h : W'.ownsRow B 77 9 x l.length (rcells Hd.cl l)) => rows_of_own Hd.cl_len h)
  have hsm := roomsOf_len l a1 a2
  generalize roomsOf l a1 a2 = D at HS HI hsm
  have HQ := Lib.hid (fun (x y : Value) (W' : World) (B B' : Nat) (h : W'.ownsRow B 2 1 x D.length (rcells clI D)) (h' : W'.ownsRow B' 2 1 y D.length (rcells clI D)) => Iv.eqS_same D x y W' (rows_of_own clI_len h) (rows_of_own clI_len h') (by omega))
  have HM := Lib.hid (fun (B : Nat) (x : Value) (W' : World) (h : W'.ownsRow B 2 1 x D.length (rcells clI D)) => Iv.markS_any B x 1 D.length _ W' h (by omega) (by omega))
  have HD := Lib.hid (fun (B : Nat) (x : Value) (W' : World) (h : W'.ownsRow B 2 1 x (Iv.marks 1 D.length).length (rcells clI (Iv.marks 1 D.length))) => Iv.heldS_any x 1 D.length W' (rows_of_own clI_len h) (by omega) (by omega))
  unfold MarkPost at HX HM
  rw [Hd.marks_len] at HX
  rw [Iv.marks_len] at HM HD
  obtain ⟨K, hK⟩ : ∃ K : Int, K = ((1 + 1 * D.length : Nat) : Int) := ⟨_, rfl⟩
  have hK0 : ¬ K < 0 := by omega
  rw [← hK] at HM HD
  obtain ⟨K1, hK1⟩ : ∃ K : Int, K = ((1 + 9 * l.length : Nat) : Int) := ⟨_, rfl⟩
  have hK2 : ¬ K1 < 0 := by omega
  rw [← hK1] at HX
  clear hK hK1 hsm hml hsl hle hbig
  unfold RowPost at HT HS HI
  generalize rcells Hd.cl l = C at *
  generalize rcells Hd.cl (Hd.marks 1 l.length) = CM at *
  generalize rcells clI D = E at *
  generalize rcells clI (Iv.marks 1 D.length) = EM at *
  generalize D.length = dn at *
  go_enter Try.func9, Try.ntmps9
  go_wp2_with fail
  refine HZ.out.mono ?_
  rintro e w0 ⟨rfl, rfl⟩
  have A := MemAt.start W
  go_wp2_with fail
  refine (HT.out _ A.bel).mono ?_
  rintro x tw ⟨tv, rfl, ho, hb⟩
  replace A := A.kept hb
  obtain ⟨ta, tc, rfl⟩ := rown_form ho
  have HXO := Lib.hid (HRH.out _ _ _ ho)
  clear ho hb
  go_wp2_with fail
  refine (HS.out _ _ HXO.out).mono ?_
  rintro x w2 ⟨wv, rfl, ho, hb⟩
  replace A := A.made0 hb ho
  obtain ⟨wa, wc, rfl⟩ := rown_form ho
  clear ho hb HXO
  go_wp2_with fail
  refine (HT.out _ A.bel).mono ?_
  rintro x xw ⟨xv, rfl, ho, hb⟩
  have APw := Lib.hid (rown_apart A.r0 ho (Nat.le_refl _))
  replace A := A.made0 hb ho
  obtain ⟨xa, xc, rfl⟩ := rown_form ho
  have HXO := Lib.hid (HRH.out _ _ _ ho)
  clear ho hb
  go_wp2_with fail
  refine (HI.out _ _ HXO.out).mono ?_
  rintro x w4 ⟨gv, rfl, ho, hb⟩
  have APx := Lib.hid (rown_apart A.r0 ho (Nat.le_refl _))
  have APg := Lib.hid (rown_apart A.r1 ho (Nat.le_refl _))
  replace A := A.made0 hb ho
  obtain ⟨ga, gc, rfl⟩ := rown_form ho
  clear ho hb HXO
  go_wp2_with fail
  refine (HQ.out _ _ _ _ _ A.r0 A.r2).mono ?_
  rintro x w5 ⟨rfl, hb⟩
  replace A := A.kept hb
  clear hb
  go_wp2_with fail
  refine (HT.out _ A.bel).mono ?_
  rintro x w6 ⟨v6, rfl, ho, hb⟩
  replace A := A.kept hb
  obtain ⟨a6, c6, rfl⟩ := rown_form ho
  have H6 := Lib.hid (HRH.out _ _ _ ho)
  have HX1 := Lib.hid (HRH.out _ _ _ A.r1)
  clear ho hb
  go_wp2_with fail
  refine (HE.out _ _ _ HX1.out H6.out).mono ?_
  rintro x w7 ⟨rfl, hb⟩
  replace A := A.kept hb
  clear hb H6 HX1
  go_wp2_with fail
  refine (HX.out _ _ _ _ A.r1).mono ?_
  rintro x w8 ⟨rfl, ho, hg⟩
  have A8 := A.grown (L' := []) (R' := [⟨W.heap.size, 2, 1, .slice ga dn gc, dn, E⟩, ⟨W.heap.size, 2, 1, .slice wa dn wc, dn, E⟩]) hg (fun k hk => (A.r1.lt k hk).1) (fun q hq => by cases hq) (fun q hq => by
    simp only [List.mem_cons, List.not_mem_nil, or_false] at hq
    rcases hq with rfl | rfl
    · exact ⟨.head _, APx.out⟩
    · exact ⟨.tail _ (.tail _ (.head _)), rapart_symm APw.out⟩)
  clear A
  have A := A8
  clear A8 ho hg HX
  go_wp2_with fail
  refine (HQ.out _ _ _ _ _ A.r0 A.r1).mono ?_
  rintro x w9 ⟨rfl, hb⟩
  replace A := A.kept hb
  clear hb
  go_wp2_with fail
  refine (HM.out _ _ _ A.r0).mono ?_
  rintro x w10 ⟨rfl, ho, hg⟩
  have A8 := A.grown (L' := []) (R' := [⟨W.heap.size, 2, 1, .slice wa dn wc, dn, E⟩]) hg (fun k hk => (A.r0.lt k hk).1) (fun q hq => by cases hq) (fun q hq => by
    simp only [List.mem_cons, List.not_mem_nil, or_false] at hq
    subst hq
    exact ⟨.tail _ (.head _), rapart_symm APg.out⟩)
  replace A8 := A8.own ho
  clear A
  have A := A8
  clear A8 ho hg HM
  go_wp2_with fail
  refine (HD.out _ _ _ A.r0).mono ?_
  rintro x w11 ⟨rfl, rfl⟩
  go_wp2_with fail
  refine (HT.out _ A.bel).mono ?_
  rintro x uw ⟨uv, rfl, ho, hb⟩
  replace A := A.kept hb
  obtain ⟨ua, uc, rfl⟩ := rown_form ho
  have HXO := Lib.hid (HRH.out _ _ _ ho)
  clear ho hb
  go_wp2_with fail
  refine (HI.out _ _ HXO.out).mono ?_
  rintro x w13 ⟨kv, rfl, ho, hb⟩
  replace A := A.made0 hb ho
  obtain ⟨ka, kc, rfl⟩ := rown_form ho
  clear ho hb HXO
  go_wp2_with fail
  refine (HQ.out _ _ _ _ _ A.r0 A.r2).mono ?_
  rintro x w14 ⟨rfl, hb⟩
  replace A := A.kept hb
  clear hb
  go_wp2_with fail
  refine (HD.out _ _ _ A.r1).mono ?_
  rintro x w15 ⟨rfl, rfl⟩
  have HB := Lib.hid A.bel
  clear A
  go_wp2_with fail
  go_ret
  exact ⟨rfl, HB.out⟩

set_option maxRecDepth 100000 in
theorem lifted (os : Os) (started : os.Started) (H : Type) (enc : TypeId × Value → H) :
    ReturnsInHanded {} Try.checked os 9 .any (Rows.fnExactRoomsOfSpec.pre6 enc Try.prog Try.f9 Rows.fnExactRoomsOfRow.domain false) (Rows.fnExactRoomsOfSpec.post enc Try.prog Try.f9 false true false false) := by
  refine returnsInHanded_of_change (C := Try.checked) own started (by kernel_rfl) Try.func9
    (ChangeSpec.witness6 (enc := enc) (C := Try.checked) false ⟨#[], #[.slice none 0 0, .int .i64 0, .int .i64 0], []⟩ 8 (by kernel_rfl) (by kernel_rfl) (by kernel_rfl) (by kernel_rfl)) ?_
  intro W base args ds gs before hval0 hW hcnd _
  have hval : ∀ (j : Nat) t v, Try.f9.params[j]? = some t → args[j]? = some v → Value.okWide Try.prog W .any base t v := hval0
  have hW' := hW
  obtain ⟨p, q, hA0, hV, rfl, hfz, hnd⟩ := hW
  have hA : DataW.TrodAll enc Try.prog W 0 (fun _ => true) true Try.f9.params.toList args.toList ds p := hA0
  rw [Try.params9] at hA hval
  obtain ⟨v0, vs0, d0, ds0, p0, q0, hargs, rfl, rfl, h0, r0⟩ := trodAll_cons hA
  obtain ⟨v1, vs1, d1, ds1, p1, q1, rfl, rfl, rfl, h1, r1⟩ := trodAll_cons r0
  obtain ⟨v2, vs2, d2, ds2, p2, q2, rfl, rfl, rfl, h2, r2⟩ := trodAll_cons r1
  obtain ⟨rfl, rfl, rfl⟩ := trodAll_nil r2
  have lt0 : ∀ x ∈ p0, x.block < W.heap.size := by obtain ⟨m, hm⟩ := h0; exact DataW.trod_lt m _ _ _ hm
  have lt1 : ∀ x ∈ p1, x.block < W.heap.size := by obtain ⟨m, hm⟩ := h1; exact DataW.trod_lt m _ _ _ hm
  have lt2 : ∀ x ∈ p2, x.block < W.heap.size := by obtain ⟨m, hm⟩ := h2; exact DataW.trod_lt m _ _ _ hm
  obtain rfl : args = #[v0, v1, v2] := by cases args; simp_all
  obtain ⟨rfl, rfl⟩ := trodVars_none hV
  clear hA0 hval0
  refine (walk _ _ _ _ _ _ _ _ _ base W (hval 0 22 v0 rfl rfl) (hval 1 2 v1 rfl rfl) (hval 2 2 v2 rfl rfl) h0 h1 h2).mono fun e W' ⟨he, bel⟩ => ?_
  subst he
  exact ⟨_, rfl, _, _, _, [], _, [], hW', trodAll_mk1 (shut_bool Try.underlying4 _), (trodAll_cons_mk (Below.trod laidOut (by kernel_rfl) (of_decide_eq_true (by kernel_rfl)) h0 bel lt0) (trodAll_cons_mk (Below.trod laidOut (by kernel_rfl) (of_decide_eq_true (by kernel_rfl)) h1 bel lt1) (trodAll_cons_mk (Below.trod laidOut (by kernel_rfl) (of_decide_eq_true (by kernel_rfl)) h2 bel lt2) trodAll_mk0))), rfl, bel.frame _, fun h => by cases h⟩

theorem over : Rows.fnExactRoomsOfRow.holds Try.pinned (OpenSpec.ofChange Rows.fnExactRoomsOfSpec) :=
  OpenClaim.holds_of_wide 9 Try.f9 rfl rfl rfl rfl rfl rfl rfl ⟨rfl, rfl, rfl, rfl, rfl⟩ rfl rfl rfl rfl rfl (by kernel_rfl) Try.func9 (by kernel_rfl)
    (of_decide_eq_true (by kernel_rfl)) (by unfold Func.isWrapper; first | (rw [if_pos (by decide +kernel)]; kernel_rfl) | (rw [if_neg (by decide +kernel)]; exact ⟨rfl, rfl⟩))
    (fun os started H enc _ => lifted os started H enc)

theorem proved : Rows.FnExactRoomsOfSaid := over
end Go.Proofs.Ytmkoppbbenombaa.fnExactRoomsOf
namespace Go.Proofs.Ytmkoppbbenombaa
theorem fnExactRoomsOf_holds : Rows.FnExactRoomsOfSaid := fnExactRoomsOf.proved
#print axioms fnExactRoomsOf_holds
end Go.Proofs.Ytmkoppbbenombaa
