/- For every input, the law FnExactHouseRight of this seat returns true and leaves its arguments as they were. Conditions: none beyond those of the row itself. -/
import Derived.Test.YtglealihdkecpaaGreatRows
import Derived.Test.YtglealihdkecpaaGreatHoT
import Derived.Test.YtglealihdkecpaaGreatH1
import Derived.Test.YtglealihdkecpaaGreatH2
import Derived.ChangeOld
import Derived.Below
import Derived.Carry
import Derived.WalkKit
import Derived.ProofKit
import Derived.OpenShut
import Derived.ShutString
namespace Go.Proofs.YtglealihdkecpaaGreat.fnExactHouseRight
open Go.ChangeShapes Go.WideShapes Go.ChangeAt Go.RowKit
set_option linter.unusedVariables false

theorem own : ownKnob Tryz.prog.godebug = none := by kernel_rfl
theorem laidOut : laidOutB Tryz.prog = true := by kernel_rfl

set_option maxRecDepth 100000 in
set_option maxHeartbeats 8000000 in
set_option maxRecDepth 100000 in
theorem walk {H : Type} {enc : TypeId × Value → H} (v0 : Value) (d0 : DataW H) (p0 : List MemPlace) (base : Nat) (W : World) (o0 : Value.okWide Tryz.prog W .any base 29 v0) (h0 : DataW.Trod enc Tryz.prog W 0 (fun _ => true) true 29 v0 d0 p0) :
    Calls Tryz.prog 3 #[v0] W fun e w' => e = .returned (.bool true) ∧ Below W.heap.size W w' := by
  obtain ⟨h, vd, vp, vr, vg, vw, vf, rfl, hA, hF⟩ := house_open o0 h0
  clear o0 h0
  have HZ := Lib.hid (fun (W' : World) (hb : Below W.heap.size W W') => szHouse_any h vd vp vr vg vw vf W' (hA.kept hb) hF)
  have HT0 := Lib.hid (fun (hs : h.small 1048576) (W' : World) (hb : Below W.heap.size W W') => toHouse_any h vd vp vr vg vw vf W' (hA.kept hb) hs)
  have HS0 := Lib.hid (fun (hs : h.small 1048576) (q : List Pi) (hq : q.map Pi.num = h.pipes.map Pi.num) (ud up ur ug uw uf : Value) (W' : World) (k : HoAt W' ud up ur ug uw uf (h.with q)) => (show Calls Tryz.prog 10 #[hoV (h.with q) ud up ur ug uw uf] W' fun e w' => e = .returned (.bool (hoRight h)) ∧ Below W'.heap.size W' w' from by have := specHouseRight_any (h.with q) ud up ur ug uw uf W' k (small_with hq hs); rw [hoRight_with hq] at this; exact this))
  have HI0 := Lib.hid (fun (hs : h.small 1048576) (q : List Pi) (hq : q.map Pi.num = h.pipes.map Pi.num) (ud up ur ug uw uf : Value) (W' : World) (k : HoAt W' ud up ur ug uw uf (h.with q)) => (show Calls Tryz.prog 12 #[hoV (h.with q) ud up ur ug uw uf] W' fun e w' => e = .returned (.bool (hoRight h)) ∧ Below W'.heap.size W' w' from by have := implHouseRight_any (h.with q) ud up ur ug uw uf W' k (small_with hq hs); rw [hoRight_with hq] at this; exact this))
  have HE0 := Lib.hid (fun (hs : h.small 1048576) (q q' : List Pi) (hq : q.map Pi.num = h.pipes.map Pi.num) (hq' : q'.map Pi.num = h.pipes.map Pi.num) (ud up ur ug uw uf xd xp xr xg xw xf : Value) (W' : World) (k : HoAt W' ud up ur ug uw uf (h.with q)) (k' : HoAt W' xd xp xr xg xw xf (h.with q')) => eqHouse_same h q q' (hq.trans hq'.symm) ud up ur ug uw uf xd xp xr xg xw xf W' k k' (small_with hq hs))
  unfold SzPostH at HZ
  unfold ThPost at HT0
  obtain ⟨ad, cd, ap, cp, ar, cr, ag, cg, aw, cw, af, cf, hvd, hvp, hvr, hvg, hvw, hvf⟩ := hA.forms
  subst hvd hvp hvr hvg hvw hvf
  clear hA hF
  simp only [hoV_with] at *
  simp only [hoV_own] at *
  generalize hoRight h = R at *
  go_enter Tryz.func3, Tryz.ntmps3
  go_wp2_with fail
  have A := (MemAt.start W).new 29 #[.int .i64 h.id, .int .i64 h.now, .int .i64 h.ep, .slice ad h.doors.length cd, .slice ap h.pipes.length cp, .slice ar h.rib.length cr, .slice ag h.gus.length cg, .slice aw h.went.length cw, .slice af h.froz.length cf]
  refine (HZ.out _ A.bel).mono ?_
  rintro x w0 ⟨y, rfl, hy, hb0⟩
  replace A := A.kept hb0
  have HY := Lib.hid hy
  clear hb0 hy HZ
  by_cases hy0 : y < 0
  · have HB := Lib.hid A.bel
    clear A
    go_wp2_with fail
    go_ret
    exact ⟨rfl, HB.out⟩
  have hs := HY.out (by omega)
  have HT := Lib.hid (HT0.out hs)
  have HS := Lib.hid (HS0.out hs)
  have HI := Lib.hid (HI0.out hs)
  have HE := Lib.hid (HE0.out hs)
  clear HT0 HS0 HI0 HE0 HY hs
  have hc := A.b0.cell
  go_wp2_with fail
  refine (HT.out _ A.bel).mono ?_
  rintro x w1 ⟨ud, up, ur, ug, uw, uf, q, rfl, ho, hq, hb1⟩
  replace A := A.kept hb1
  have HSq := Lib.hid (HS.out q hq ud up ur ug uw uf w1 ho.at)
  obtain ⟨xd, yd, xp, yp, xr, yr, xg, yg, xw, yw, xf, yf, h3, h4, h5, h6, h7, h8⟩ := ho.forms
  subst h3 h4 h5 h6 h7 h8
  clear hb1 hc ho hq HS
  go_wp2_with fail
  refine HSq.out.mono ?_
  rintro x w2 ⟨rfl, hb2⟩
  replace A := A.kept hb2
  clear hb2 HSq
  have hc := A.b0.cell
  go_wp2_with fail
  refine (HT.out _ A.bel).mono ?_
  rintro x w3 ⟨ud, up, ur, ug, uw, uf, q, rfl, ho, hq, hb3⟩
  replace A := A.kept hb3
  obtain ⟨xd, yd, xp, yp, xr, yr, xg, yg, xw, yw, xf, yf, h3, h4, h5, h6, h7, h8⟩ := ho.forms
  subst h3 h4 h5 h6 h7 h8
  clear hb3 hc
  go_upto_region 7 with fail
  have S0 := And.intro (A.new 38 #[.int .i64 h.id, .int .i64 h.now, .int .i64 h.ep, .slice xd h.doors.length yd, .slice xp q.length yp, .slice xr h.rib.length yr, .slice xg h.gus.length yg, .slice xw h.went.length yw, .slice xf h.froz.length yf]) (ho.kept ((Below.refl _ _).alloc (Nat.le_refl _) (.cells #[.int .i64 h.id, .int .i64 h.now, .int .i64 h.ep, .slice xd h.doors.length yd, .slice xp q.length yp, .slice xr h.rib.length yr, .slice xg h.gus.length yg, .slice xw h.went.length yw, .slice xf h.froz.length yf] 38)))
  have HQ := Lib.hid hq
  clear A ho hq
  generalize w3.alloc (.cells #[.int .i64 h.id, .int .i64 h.now, .int .i64 h.ep, .slice xd h.doors.length yd, .slice xp q.length yp, .slice xr h.rib.length yr, .slice xg h.gus.length yg, .slice xw h.went.length yw, .slice xf h.froz.length yf] 38) = W4 at *
  have hc := S0.1.b0.cell
  go_wp2_with fail
  refine (HI.out _ HQ.out _ _ _ _ _ _ _ S0.2.at).mono ?_
  rintro x w5 ⟨rfl, hb5⟩
  replace S0 := And.intro (S0.1.kept hb5).drew ((S0.2.kept hb5).kept ((Below.refl _ _).drew))
  clear hb5 hc
  go_wp2_with fail
  refine wp_region_held_drew (S := fun W' => MemAt W _ _ W' ∧ HoOwn W' _ _ _ _ _ _ _ _) (by kernel_rfl) S0 (fun hHeld => ?_)
  clear hHeld
  refine wpAnyH_take (i := 0) (oi := { dst := some 22, op := Op.load 38 (Operand.tmp 5), type := 38, pos := "exact.go:4150", after := #[], guard := none }) (v := ?vva1) rfl (by kernel_rfl) (by kernel_rfl) (by kernel_rfl) (fun _ _ _ h => h) (Or.inl ⟨by rfl, ?hya1⟩) S0 ?resta1
  case hya1 => (intro w hSw; have hc1 := hSw.1.b0.cell; have hc2 := hSw.1.b1.cell;go_simp <;> with_reducible rfl)
  try simp only [Act.put, List.setIfInBounds_toArray, List.set_cons_zero, List.set_cons_succ]
  refine wpAnyH_take (i := 1) (oi := { dst := some 23, op := Op.load 29 (Operand.tmp 1), type := 29, pos := "exact.go:4150", after := #[], guard := none }) (v := ?vva2) rfl (by kernel_rfl) (by kernel_rfl) (by kernel_rfl) (fun _ _ _ h => h) (Or.inl ⟨by rfl, ?hya2⟩) S0 ?resta2
  case hya2 => (intro w hSw; have hc1 := hSw.1.b0.cell; have hc2 := hSw.1.b1.cell;go_simp <;> with_reducible rfl)
  try simp only [Act.put, List.setIfInBounds_toArray, List.set_cons_zero, List.set_cons_succ]
  refine wpAnyH_ready (rs := [2]) (by kernel_rfl) (by simp) ?_
  refine AllReadyH.cons (o := { dst := some 24, op := Op.call { callee := Callee.value (Operand.func 11), args := #[Operand.tmp 23], argTypes := #[29] }, type := 38, pos := "exact.go:4150", after := #[{ on := 1, ground := Ground.data }], guard := none }) rfl (fun K hK => ?_) AllReadyH.nil
  go_simp
  refine (HT.out _ S0.1.bel).mono ?_
  rintro x w6 ⟨zd, zp, zr, zg, zw, zf, q', rfl, ho6, hq6, hb6⟩
  replace S0 := And.intro (S0.1.kept hb6) (S0.2.kept hb6)
  have HEq := Lib.hid (HE.out q q' HQ.out hq6 _ _ _ _ _ _ _ _ _ _ _ _ w6 S0.2.at ho6.at)
  obtain ⟨sd, td, sp, tp, sr, tr, sg, tg, sw, tw, sf, tf, h3, h4, h5, h6, h7, h8⟩ := ho6.forms
  subst h3 h4 h5 h6 h7 h8
  clear hb6 ho6 hq6
  refine hK.out _ _ S0 (fun hHeld => ?_)
  clear hK K hHeld
  try simp only [Act.put, List.setIfInBounds_toArray, List.set_cons_zero, List.set_cons_succ]
  refine wpAnyH_ready (rs := [3]) (by kernel_rfl) (by simp) ?_
  refine AllReadyH.cons (o := { dst := some 25, op := Op.call { callee := Callee.value (Operand.func 13), args := #[Operand.tmp 22, Operand.tmp 24], argTypes := #[38, 38] }, type := 4, pos := "exact.go:4150", after := #[{ on := 0, ground := Ground.data }, { on := 2, ground := Ground.data }, { on := 2, ground := Ground.chain }], guard := none }) rfl (fun K hK => ?_) AllReadyH.nil
  go_simp
  refine HEq.out.mono ?_
  rintro x w7 ⟨rfl, hb7⟩
  replace S0 := And.intro (S0.1.kept hb7) (S0.2.kept hb7)
  clear hb7 HEq
  refine hK.out _ _ S0 (fun hHeld => ?_)
  clear hK K hHeld
  try simp only [Act.put, List.setIfInBounds_toArray, List.set_cons_zero, List.set_cons_succ]
  refine wpAnyH_take (i := 4) (oi := { dst := some 26, op := Op.unOp UnOp.not 4 (Operand.tmp 25), type := 4, pos := "exact.go:4150", after := #[{ on := 3, ground := Ground.data }], guard := none }) (v := ?vva3) rfl (by kernel_rfl) (by kernel_rfl) (by kernel_rfl) (fun _ _ _ h => h) (Or.inl ⟨by rfl, ?hya3⟩) S0 ?resta3
  case hya3 => (intro w hSw; have hc1 := hSw.1.b0.cell; have hc2 := hSw.1.b1.cell;go_simp <;> with_reducible rfl)
  try simp only [Act.put, List.setIfInBounds_toArray, List.set_cons_zero, List.set_cons_succ]
  refine wpAnyH_done (by kernel_rfl) ?_ _
  have HB := Lib.hid S0.1.bel
  clear S0
  go_wp2_with fail
  go_ret
  exact ⟨rfl, HB.out⟩

set_option maxRecDepth 100000 in
theorem lifted (os : Os) (started : os.Started) (H : Type) (enc : TypeId × Value → H) :
    ReturnsInHanded {} Tryz.checked os 3 .any (Rows.fnExactHouseRightSpec.pre6 enc Tryz.prog Tryz.f3 Rows.fnExactHouseRightRow.domain false) (Rows.fnExactHouseRightSpec.post enc Tryz.prog Tryz.f3 false true false false) := by
  refine returnsInHanded_of_change (C := Tryz.checked) own started (by kernel_rfl) Tryz.func3
    (ChangeSpec.witness6 (enc := enc) (C := Tryz.checked) false ⟨#[], #[.agg #[.int .i64 0, .int .i64 0, .int .i64 0, .slice none 0 0, .slice none 0 0, .slice none 0 0, .slice none 0 0, .slice none 0 0, .slice none 0 0]], []⟩ 8 (by kernel_rfl) (by kernel_rfl) (by kernel_rfl) (by kernel_rfl)) ?_
  intro W base args ds gs before hval0 hW hcnd _
  have hval : ∀ (j : Nat) t v, Tryz.f3.params[j]? = some t → args[j]? = some v → Value.okWide Tryz.prog W .any base t v := hval0
  have hW' := hW
  obtain ⟨p, q, hA0, hV, rfl, hfz, hnd⟩ := hW
  have hA : DataW.TrodAll enc Tryz.prog W 0 (fun _ => true) true Tryz.f3.params.toList args.toList ds p := hA0
  rw [Tryz.params3] at hA hval
  obtain ⟨v0, vs0, d0, ds0, p0, q0, hargs, rfl, rfl, h0, r0⟩ := trodAll_cons hA
  obtain ⟨rfl, rfl, rfl⟩ := trodAll_nil r0
  have lt0 : ∀ x ∈ p0, x.block < W.heap.size := by obtain ⟨m, hm⟩ := h0; exact DataW.trod_lt m _ _ _ hm
  obtain rfl : args = #[v0] := by cases args; simp_all
  obtain ⟨rfl, rfl⟩ := trodVars_none hV
  clear hA0 hval0
  refine (walk _ _ _ base W (hval 0 29 v0 rfl rfl) h0).mono fun e W' ⟨he, bel⟩ => ?_
  subst he
  exact ⟨_, rfl, _, _, _, [], _, [], hW', trodAll_mk1 (shut_bool Tryz.underlying4 _), (trodAll_cons_mk (Below.trod laidOut (by kernel_rfl) (of_decide_eq_true (by kernel_rfl)) h0 bel lt0) trodAll_mk0), rfl, bel.frame _, fun h => by cases h⟩

theorem over : Rows.fnExactHouseRightRow.holds Tryz.pinned (OpenSpec.ofChange Rows.fnExactHouseRightSpec) :=
  OpenClaim.holds_of_wide 3 Tryz.f3 rfl rfl rfl rfl rfl rfl rfl ⟨rfl, rfl, rfl, rfl, rfl⟩ rfl rfl rfl rfl rfl (by kernel_rfl) Tryz.func3 (by kernel_rfl)
    (of_decide_eq_true (by kernel_rfl)) (by unfold Func.isWrapper; first | (rw [if_pos (by decide +kernel)]; kernel_rfl) | (rw [if_neg (by decide +kernel)]; exact ⟨rfl, rfl⟩))
    (fun os started H enc _ => lifted os started H enc)

theorem proved : Rows.FnExactHouseRightSaid := over
end Go.Proofs.YtglealihdkecpaaGreat.fnExactHouseRight
namespace Go.Proofs.YtglealihdkecpaaGreat
theorem fnExactHouseRight_holds : Rows.FnExactHouseRightSaid := fnExactHouseRight.proved
#print axioms fnExactHouseRight_holds
end Go.Proofs.YtglealihdkecpaaGreat
