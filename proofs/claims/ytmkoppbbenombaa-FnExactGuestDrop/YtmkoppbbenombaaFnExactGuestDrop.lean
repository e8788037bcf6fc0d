/- For every input, the law FnExactGuestDrop of this seat returns true and leaves its arguments as they were. Conditions: none beyond those of the row itself. -/
import Derived.Test.YtmkoppbbenombaaRows
import Derived.Test.YtmkoppbbenombaaRw
import Derived.Test.YtmkoppbbenombaaRGu
import Derived.Test.YtmkoppbbenombaaMg
import Derived.Test.YtmkoppbbenombaaAgQ
import Derived.Test.YtmkoppbbenombaaGdW
import Derived.ChangeOld
import Derived.Below
import Derived.Carry
import Derived.WalkKit
import Derived.ProofKit
import Derived.OpenShut
import Derived.ShutString
namespace Go.Proofs.Ytmkoppbbenombaa.fnExactGuestDrop
open Go.ChangeShapes Go.WideShapes Go.ChangeAt Go.RowKit
set_option linter.unusedVariables false

theorem own : ownKnob Try.prog.godebug = none := by kernel_rfl
theorem laidOut : laidOutB Try.prog = true := by kernel_rfl

set_option maxRecDepth 100000 in
set_option maxHeartbeats 8000000 in
set_option maxRecDepth 100000 in
theorem walk {H : Type} {enc : TypeId × Value → H} (v0 v1 v2 : Value) (d0 d1 d2 : DataW H) (p0 p1 p2 : List MemPlace) (base : Nat) (W : World) (o0 : Value.okWide Try.prog W .any base 51 v0) (o1 : Value.okWide Try.prog W .any base 2 v1) (o2 : Value.okWide Try.prog W .any base 2 v2) (h0 : DataW.Trod enc Try.prog W 0 (fun _ => true) true 51 v0 d0 p0) (h1 : DataW.Trod enc Try.prog W 0 (fun _ => true) true 2 v1 d1 p1) (h2 : DataW.Trod enc Try.prog W 0 (fun _ => true) true 2 v2 d2 p2) :
    Calls Try.prog 13 #[v0, v1, v2] W fun e w' => e = .returned (.bool true) ∧ Below W.heap.size W w' := by
  obtain ⟨l, hsl, hml, va, vc, rfl⟩ := guests_open o0 h0
  obtain ⟨a1, rfl⟩ : ∃ a : Int, v1 = .int .i64 a := int_openG o1
  obtain ⟨a2, rfl⟩ : ∃ a : Int, v2 = .int .i64 a := int_openG o2
  clear o0 h0 o1 h1 o2 h2
  have HZ := Lib.hid (Gu.szS_any _ _ W hsl (by simpa using hml))
  rw [List.length_map] at HZ
  by_cases hbig : 1048576 < l.length
  · rw [if_pos hbig] at HZ
    go_enter Try.func13, Try.ntmps13
    go_wp2_with fail
    refine HZ.out.mono ?_
    rintro e w1 ⟨rfl, rfl⟩
    go_wp2_with fail
    go_ret
    exact ⟨rfl, Below.refl _ _⟩
  rw [if_neg hbig] at HZ
  have hle : l.length ≤ 1048576 := by omega
  have hneg : ¬ (1048576 - (l.length : Int) : Int) < 0 := by omega
  have HT := Lib.hid (fun (W' : World) (hb : Below W.heap.size W W') => Gu.toS_any l _ W' (SlAt.kept hsl hb) hle)
  have HS := Lib.hid (fun (x : Value) (W' : World) (B : Nat) (h : W'.ownsRow B 59 7 x l.length (rcells Gu.cl l)) => specGuestDrop_any l x a1 a2 W' (rows_of_own Gu.cl_len h) hle)
  have HI := Lib.hid (fun (x : Value) (W' : World) (B : Nat) (h : W'.ownsRow B 59 7 x l.length (rcells Gu.cl l)) => implGuestDrop_any l x a1 a2 W' (rows_of_own Gu.cl_len h) hle)
  have HE := Lib.hid (fun (x y : Value) (W' : World) (B B' : Nat) (h : W'.ownsRow B 59 7 x l.length (rcells Gu.cl l)) (h' : W'.ownsRow B' 59 7 y l.length (rcells Gu.cl l)) => Gu.eqS_same l x y W' (rows_of_own Gu.cl_len h) (rows_of_own Gu.cl_len h') hle)
  have HX := Lib.hid (fun (B : Nat) (x : Value) (ys : List Value) (W' : World) (h : W'.ownsRow B 59 7 x l.length ys) => Gu.markS_any B x 1 l.length ys W' h (by omega) (by omega))
  have hsm := gdropR_len l a1 a2
  generalize gdropR l a1 a2 = D at HS HI hsm
  have HQ := Lib.hid (fun (v v' t t' : Value) (W' : World) (B B' C C' : Nat) (h : W'.ownsRow B 59 7 v D.gus.length (rcells Gu.cl D.gus)) (h' : W'.ownsRow B' 59 7 v' D.gus.length (rcells Gu.cl D.gus)) (k : W'.ownsRow C 59 7 t D.gone.length (rcells Gu.cl D.gone)) (k' : W'.ownsRow C' 59 7 t' D.gone.length (rcells Gu.cl D.gone)) => goEq_same D.gus D.gus D.gone D.gone v v' t t' D.code W' rfl rfl (rows_of_own Gu.cl_len h) (rows_of_own Gu.cl_len h') (rows_of_own Gu.cl_len k) (rows_of_own Gu.cl_len k') (by omega) (by omega))
  have HM := Lib.hid (fun (B : Nat) (v t : Value) (xs ys : List Value) (W' : World) (hB : B ≤ W'.heap.size) (h : W'.ownsRow B 59 7 v D.gus.length xs) (h' : W'.ownsRow B 59 7 t D.gone.length ys) (ha : v.ownBlock = none ∨ v.ownBlock ≠ t.ownBlock) => goMark_any B v t D.code 1 D.gus.length D.gone.length xs ys W' hB h h' ha (by omega) (by omega))
  have HD := Lib.hid (fun (v t : Value) (W' : World) (B C : Nat) (h : W'.ownsRow B 59 7 v (Gu.marks 1 D.gus.length).length (rcells Gu.cl (Gu.marks 1 D.gus.length))) (k : W'.ownsRow C 59 7 t (Gu.marks (1 + 7 * D.gus.length) D.gone.length).length (rcells Gu.cl (Gu.marks (1 + 7 * D.gus.length) D.gone.length))) => goHeld_any v t D.code 1 D.gus.length D.gone.length W' (rows_of_own Gu.cl_len h) (rows_of_own Gu.cl_len k) (by omega) (by omega))
  unfold GoMark at HM
  unfold MarkPost at HX
  unfold RowPost at HT
  unfold GoPost at HS HI
  rw [Gu.marks_len, Gu.marks_len] at HM HD
  rw [Gu.marks_len] at HX
  obtain ⟨K, hK⟩ : ∃ K : Int, K = ((1 + 7 * D.gus.length + 7 * D.gone.length : Nat) : Int) := ⟨_, rfl⟩
  have hK0 : ¬ K < 0 := by omega
  rw [← hK] at HM HD
  obtain ⟨K1, hK1⟩ : ∃ K : Int, K = ((1 + 7 * l.length : Nat) : Int) := ⟨_, rfl⟩
  have hK2 : ¬ K1 < 0 := by omega
  rw [← hK1] at HX
  clear hK hK1 hsm hml hsl hle hbig
  generalize rcells Gu.cl l = C at *
  generalize rcells Gu.cl (Gu.marks 1 l.length) = CM at *
  generalize rcells Gu.cl (Gu.marks 1 D.gus.length) = EM at *
  generalize rcells Gu.cl (Gu.marks (1 + 7 * D.gus.length) D.gone.length) = FM at *
  generalize rcells Gu.cl D.gus = E at *
  generalize rcells Gu.cl D.gone = F at *
  generalize D.gus.length = dn at *
  generalize D.gone.length = dm at *
  generalize D.code = dc at *
  clear D
  unfold goV at *
  go_enter Try.func13, Try.ntmps13
  go_wp2_with fail
  refine HZ.out.mono ?_
  rintro e w0 ⟨rfl, rfl⟩
  have A := MemAt.start W
  go_wp2_with fail
  refine (HT.out _ A.bel).mono ?_
  rintro x w1 ⟨tv, rfl, ho, hb⟩
  replace A := A.kept hb
  obtain ⟨ta, tc, rfl⟩ := rown_form ho
  have HXO := Lib.hid ho
  clear ho hb
  go_wp2_with fail
  refine (HS.out _ _ _ HXO.out).mono ?_
  rintro x w2 ⟨wv, wt, rfl, ho, ht, ap, hb⟩
  replace A := ((A.kept hb).own (rown_mono (B' := W.heap.size) ho A.bel.size)).own (rown_mono (B' := W.heap.size) ht A.bel.size)
  obtain ⟨wa, wc, rfl⟩ := rown_form ho
  obtain ⟨ya, yc, rfl⟩ := rown_form ht
  clear ho ht ap hb HXO
  go_upto_region 6 with fail
  replace A := A.new 65 #[.slice wa dn wc, .slice ya dm yc, .int .i64 dc]
  obtain ⟨W2, hW2⟩ : ∃ X, X = w2.alloc (.cells #[.slice wa dn wc, .slice ya dm yc, .int .i64 dc] 65) := ⟨_, rfl⟩
  obtain ⟨qw, hqw⟩ : ∃ q, q = w2.heap.size := ⟨_, rfl⟩
  rw [← hW2, ← hqw]
  rw [← hW2, ← hqw] at A
  clear hW2 hqw
  go_wp2_with fail
  refine (HT.out _ A.bel).mono ?_
  rintro x w3 ⟨xv, rfl, ho, hb⟩
  have AP1 := Lib.hid (rown_apart A.r0 ho (Nat.le_refl _))
  have AP2 := Lib.hid (rown_apart A.r1 ho (Nat.le_refl _))
  replace A := A.made0 hb ho
  obtain ⟨xa, xc, rfl⟩ := rown_form ho
  clear ho hb
  go_wp2_with fail
  refine (HI.out _ _ _ A.r0).mono ?_
  rintro x w4 ⟨gv, gt, rfl, ho, ht, ap, hb⟩
  have HLow := Lib.hid A.low
  have hszW := A.bel.size
  have AP3 := Lib.hid (rown_apart A.r0 ho (Nat.le_refl _))
  have AP4 := Lib.hid (rown_apart A.r0 ht (Nat.le_refl _))
  have hszB := hb.size
  obtain ⟨Bg, hBg⟩ : ∃ B, B = w3.heap.size := ⟨_, rfl⟩
  rw [← hBg] at ho ht HLow hszW hszB
  replace A := ((A.kept hb).own ho).own ht
  obtain ⟨ga, gc, rfl⟩ := rown_form ho
  obtain ⟨ha, hc, rfl⟩ := rown_form ht
  have APG := Lib.hid ap
  clear ho ht ap hb hBg
  go_upto_region 8 with fail
  replace A := A.new 65 #[.slice ga dn gc, .slice ha dm hc, .int .i64 dc]
  obtain ⟨W4, hW4⟩ : ∃ X, X = w4.alloc (.cells #[.slice ga dn gc, .slice ha dm hc, .int .i64 dc] 65) := ⟨_, rfl⟩
  obtain ⟨qg, hqg⟩ : ∃ q, q = w4.heap.size := ⟨_, rfl⟩
  rw [← hW4, ← hqg]
  rw [← hW4, ← hqg] at A
  replace hszB : Bg ≤ W4.heap.size := by rw [hW4]; simp; omega
  clear hW4 hqg
  have hc1 := A.b0.cell
  have hc2 := A.b1.cell
  go_wp2_with fail
  refine (HQ.out _ _ _ _ _ _ _ _ _ A.r1 A.r4 A.r0 A.r3).mono ?_
  rintro x w5 ⟨rfl, hb⟩
  replace A := A.kept hb
  try replace hszB := Nat.le_trans hszB hb.size
  clear hb hc1 hc2
  go_wp2_with fail
  refine (HT.out _ A.bel).mono ?_
  rintro x w6 ⟨v6, rfl, ho, hb⟩
  replace A := A.kept hb
  replace hszB := Nat.le_trans hszB hb.size
  obtain ⟨a6, c6, rfl⟩ := rown_form ho
  have H6 := Lib.hid ho
  clear ho hb
  go_wp2_with fail
  refine (HE.out _ _ _ _ _ A.r2 H6.out).mono ?_
  rintro x w7 ⟨rfl, hb⟩
  replace A := A.kept hb
  replace hszB := Nat.le_trans hszB hb.size
  clear hb H6
  go_wp2_with fail
  refine (HX.out _ _ _ _ A.r2).mono ?_
  rintro x w8 ⟨rfl, ho, hg⟩
  have A8 := A.grown (L' := [(qg, 65, #[.slice ga dn gc, .slice ha dm hc, .int .i64 dc]), (qw, 65, #[.slice wa dn wc, .slice ya dm yc, .int .i64 dc])]) (R' := [⟨Bg, 59, 7, .slice ha dm hc, dm, F⟩, ⟨Bg, 59, 7, .slice ga dn gc, dn, E⟩, ⟨W.heap.size, 59, 7, .slice ya dm yc, dm, F⟩, ⟨W.heap.size, 59, 7, .slice wa dn wc, dn, E⟩]) hg (fun k hk => (A.r2.lt k hk).1) (fun q hq => by
    simp only [List.mem_cons, List.not_mem_nil, or_false] at hq
    rcases hq with rfl | rfl
    · exact ⟨.head _, blk_not_ownG A.b0 A.r2 (show (65 : Nat) ≠ 59 by decide)⟩
    · exact ⟨.tail _ (.head _), blk_not_ownG A.b1 A.r2 (show (65 : Nat) ≠ 59 by decide)⟩) (fun q hq => by
    simp only [List.mem_cons, List.not_mem_nil, or_false] at hq
    rcases hq with rfl | rfl | rfl | rfl
    · exact ⟨.head _, AP4.out⟩
    · exact ⟨.tail _ (.head _), AP3.out⟩
    · exact ⟨.tail _ (.tail _ (.tail _ (.head _))), rapart_symm AP1.out⟩
    · exact ⟨.tail _ (.tail _ (.tail _ (.tail _ (.head _)))), rapart_symm AP2.out⟩)
  replace hszB := Nat.le_trans hszB hg.size
  clear A
  have A := A8
  clear A8 ho hg HX AP1 AP2 AP3 AP4
  have hc1 := A.b0.cell
  have hc2 := A.b1.cell
  go_wp2_with fail
  refine (HQ.out _ _ _ _ _ _ _ _ _ A.r1 A.r3 A.r0 A.r2).mono ?_
  rintro x w5 ⟨rfl, hb⟩
  replace A := A.kept hb
  try replace hszB := Nat.le_trans hszB hb.size
  clear hb hc1 hc2
  have hc1 := A.b0.cell
  go_wp2_with fail
  refine (HM.out _ _ _ _ _ _ hszB A.r1 A.r0 APG.out).mono ?_
  rintro x w10 ⟨rfl, ho, ht, hb, hk⟩
  have A8 := ((A.markedG (R' := [⟨W.heap.size, 59, 7, .slice ya dm yc, dm, F⟩, ⟨W.heap.size, 59, 7, .slice wa dn wc, dn, E⟩]) hb hszW hk (fun q hq => by
    simp only [List.mem_cons, List.not_mem_nil, or_false] at hq
    rcases hq with rfl | rfl
    · exact (show (65 : Nat) ≠ 59 by decide)
    · exact (show (65 : Nat) ≠ 59 by decide)) (fun q hq => by
    simp only [List.mem_cons, List.not_mem_nil, or_false] at hq
    rcases hq with rfl | rfl
    · exact ⟨.tail _ (.tail _ (.head _)), HLow.out _ (.tail _ (.head _))⟩
    · exact ⟨.tail _ (.tail _ (.tail _ (.head _))), HLow.out _ (.tail _ (.tail _ (.head _)))⟩)).own ho).own ht
  clear A
  have A := A8
  clear A8 ho ht hb hk HM hc1 hszB hszW HLow APG
  have hc1 := A.b0.cell
  go_wp2_with fail
  refine (HD.out _ _ _ _ _ A.r1 A.r0).mono ?_
  rintro x w11 ⟨rfl, hb⟩
  replace A := A.kept hb
  clear hb hc1
  go_wp2_with fail
  refine (HT.out _ A.bel).mono ?_
  rintro x w12 ⟨uv, rfl, ho, hb⟩
  replace A := A.kept hb
  obtain ⟨ua, uc, rfl⟩ := rown_form ho
  have HXO := Lib.hid ho
  clear ho hb
  go_wp2_with fail
  refine (HI.out _ _ _ HXO.out).mono ?_
  rintro x w13 ⟨kv, kt, rfl, ho, ht, ap, hb⟩
  replace A := ((A.kept hb).own (rown_mono (B' := W.heap.size) ho A.bel.size)).own (rown_mono (B' := W.heap.size) ht A.bel.size)
  obtain ⟨ka, kc, rfl⟩ := rown_form ho
  obtain ⟨ja, jc, rfl⟩ := rown_form ht
  clear ho ht ap hb HXO
  go_upto_region 25 with fail
  replace A := A.new 65 #[.slice ka dn kc, .slice ja dm jc, .int .i64 dc]
  obtain ⟨W13, hW13⟩ : ∃ X, X = w13.alloc (.cells #[.slice ka dn kc, .slice ja dm jc, .int .i64 dc] 65) := ⟨_, rfl⟩
  obtain ⟨qh, hqh⟩ : ∃ q, q = w13.heap.size := ⟨_, rfl⟩
  rw [← hW13, ← hqh]
  rw [← hW13, ← hqh] at A
  clear hW13 hqh
  have hc1 := A.b0.cell
  have hc2 := A.b2.cell
  go_wp2_with fail
  refine (HQ.out _ _ _ _ _ _ _ _ _ A.r1 A.r5 A.r0 A.r4).mono ?_
  rintro x w5 ⟨rfl, hb⟩
  replace A := A.kept hb
  try replace hszB := Nat.le_trans hszB hb.size
  clear hb hc1 hc2
  have hc1 := A.b1.cell
  go_wp2_with fail
  refine (HD.out _ _ _ _ _ A.r3 A.r2).mono ?_
  rintro x w11 ⟨rfl, hb⟩
  replace A := A.kept hb
  clear hb hc1
  have HB := Lib.hid A.bel
  clear A
  go_wp2_with fail
  go_ret
  exact ⟨rfl, HB.out⟩

set_option maxRecDepth 100000 in
theorem lifted (os : Os) (started : os.Started) (H : Type) (enc : TypeId × Value → H) :
    ReturnsInHanded {} Try.checked os 13 .any (Rows.fnExactGuestDropSpec.pre6 enc Try.prog Try.f13 Rows.fnExactGuestDropRow.domain false) (Rows.fnExactGuestDropSpec.post enc Try.prog Try.f13 false true false false) := by
  refine returnsInHanded_of_change (C := Try.checked) own started (by kernel_rfl) Try.func13
    (ChangeSpec.witness6 (enc := enc) (C := Try.checked) false ⟨#[], #[.slice none 0 0, .int .i64 0, .int .i64 0], []⟩ 8 (by kernel_rfl) (by kernel_rfl) (by kernel_rfl) (by kernel_rfl)) ?_
  intro W base args ds gs before hval0 hW hcnd _
  have hval : ∀ (j : Nat) t v, Try.f13.params[j]? = some t → args[j]? = some v → Value.okWide Try.prog W .any base t v := hval0
  have hW' := hW
  obtain ⟨p, q, hA0, hV, rfl, hfz, hnd⟩ := hW
  have hA : DataW.TrodAll enc Try.prog W 0 (fun _ => true) true Try.f13.params.toList args.toList ds p := hA0
  rw [Try.params13] at hA hval
  obtain ⟨v0, vs0, d0, ds0, p0, q0, hargs, rfl, rfl, h0, r0⟩ := trodAll_cons hA
  obtain ⟨v1, vs1, d1, ds1, p1, q1, rfl, rfl, rfl, h1, r1⟩ := trodAll_cons r0
  obtain ⟨v2, vs2, d2, ds2, p2, q2, rfl, rfl, rfl, h2, r2⟩ := trodAll_cons r1
  obtain ⟨rfl, rfl, rfl⟩ := trodAll_nil r2
  have lt0 : ∀ x ∈ p0, x.block < W.heap.size := by obtain ⟨m, hm⟩ := h0; exact DataW.trod_lt m _ _ _ hm
  have lt1 : ∀ x ∈ p1, x.block < W.heap.size := by obtain ⟨m, hm⟩ := h1; exact DataW.trod_lt m _ _ _ hm
  have lt2 : ∀ x ∈ p2, x.block < W.heap.size := by obtain ⟨m, hm⟩ := h2; exact DataW.trod_lt m _ _ _ hm
  obtain rfl : args = #[v0, v1, v2] := by cases args; simp_all
  obtain ⟨rfl, rfl⟩ := trodVars_none hV
  clear hA0 hval0
  refine (walk _ _ _ _ _ _ _ _ _ base W (hval 0 51 v0 rfl rfl) (hval 1 2 v1 rfl rfl) (hval 2 2 v2 rfl rfl) h0 h1 h2).mono fun e W' ⟨he, bel⟩ => ?_
  subst he
  exact ⟨_, rfl, _, _, _, [], _, [], hW', trodAll_mk1 (shut_bool Try.underlying4 _), (trodAll_cons_mk (Below.trod laidOut (by kernel_rfl) (of_decide_eq_true (by kernel_rfl)) h0 bel lt0) (trodAll_cons_mk (Below.trod laidOut (by kernel_rfl) (of_decide_eq_true (by kernel_rfl)) h1 bel lt1) (trodAll_cons_mk (Below.trod laidOut (by kernel_rfl) (of_decide_eq_true (by kernel_rfl)) h2 bel lt2) trodAll_mk0))), rfl, bel.frame _, fun h => by cases h⟩

theorem over : Rows.fnExactGuestDropRow.holds Try.pinned (OpenSpec.ofChange Rows.fnExactGuestDropSpec) :=
  OpenClaim.holds_of_wide 13 Try.f13 rfl rfl rfl rfl rfl rfl rfl ⟨rfl, rfl, rfl, rfl, rfl⟩ rfl rfl rfl rfl rfl (by kernel_rfl) Try.func13 (by kernel_rfl)
    (of_decide_eq_true (by kernel_rfl)) (by unfold Func.isWrapper; first | (rw [if_pos (by decide +kernel)]; kernel_rfl) | (rw [if_neg (by decide +kernel)]; exact ⟨rfl, rfl⟩))
    (fun os started H enc _ => lifted os started H enc)

theorem proved : Rows.FnExactGuestDropSaid := over
end Go.Proofs.Ytmkoppbbenombaa.fnExactGuestDrop
namespace Go.Proofs.Ytmkoppbbenombaa
theorem fnExactGuestDrop_holds : Rows.FnExactGuestDropSaid := fnExactGuestDrop.proved
#print axioms fnExactGuestDrop_holds
end Go.Proofs.Ytmkoppbbenombaa
