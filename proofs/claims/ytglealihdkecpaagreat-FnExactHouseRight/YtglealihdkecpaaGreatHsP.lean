/- Slices of pipes: turned, found equal, their size. -/
import Derived.Test.YtglealihdkecpaaGreatHs
import Derived.Test.YtglealihdkecpaaGreatRw
import Derived.Deep.RegionHeld3
namespace Go.Proofs.YtglealihdkecpaaGreat
open Go.RowKit Go.WideShapes Go.ChangeShapes

theorem RPart.congr {W : World} {B sz g cap n i j0 : Nat} {t : TypeId} {f f' : Nat → List Value} (h : RPart W B t sz g cap n f i j0) (he : ∀ m, m < i → f m = f' m) (hi : j0 = 0 ∨ f i = f' i) : RPart W B t sz g cap n f' i j0 := by
  obtain ⟨zs, h1, h2, h3⟩ := h
  refine ⟨zs, h1, fun m hm j hj => by rw [← he m hm]; exact h2 m hm j hj, fun j hj => ?_⟩
  rcases hi with rfl | hi
  · omega
  · rw [← hi]; exact h3 j hj
theorem Pi.cl_len (x : Pi) : x.cl.length = 5 := rfl
theorem Pi.info : (Tryz.prog.info? 81).map (fun i => (i.zero, i.size, i.bytes)) = some (some (.agg #[.int .i64 0, .int .i64 0, .int .i64 0, .int .i64 0, .slice none 0 0]), 5, 56) := by kernel_rfl
structure Pn where
  e : Int
  p : Int
  b : Int
  i : Int
  l : List ByteArray
def Pi.num (x : Pi) : Pn := ⟨x.e, x.p, x.b, x.i, x.l⟩
def clOf (us : List Pi) (m : Nat) : List Value := match us[m]? with | none => [] | some x => x.cl
theorem clOf_at {us : List Pi} {m : Nat} (h : m < us.length) : clOf us m = (us[m]).cl := by simp [clOf, List.getElem?_eq_getElem h]
theorem clOf_snoc {us : List Pi} {x : Pi} {m : Nat} (h : m < us.length) : clOf us m = clOf (us ++ [x]) m := by
  rw [clOf, clOf, List.getElem?_append_left h]
theorem clOf_last {us : List Pi} {x : Pi} {i : Nat} (h : us.length = i) : clOf (us ++ [x]) i = x.cl := by
  subst h
  simp [clOf]
/- what was made so far: the texts of each pipe lie in a block of their own -/
def Outs (W : World) (B g : Nat) (us : List Pi) : Prop := ∀ x ∈ us, W.ownsRow B 9 1 x.v x.l.length (strsV x.l) ∧ x.v.ownBlock ≠ some g
theorem Outs.kept {W W' : World} {B g : Nat} {us : List Pi} (h : Outs W B g us) (hb : Below W.heap.size W W') : Outs W' B g us := fun x hx => ⟨rown_below (h x hx).1 hb, (h x hx).2⟩
theorem Outs.grown {W W' : World} {B g : Nat} {us : List Pi} (h : Outs W B g us) (hg : W.grownBy W' (some g)) : Outs W' B g us := fun x hx => ⟨(h x hx).1.kept hg (.inr (h x hx).2), (h x hx).2⟩
theorem Outs.snoc {W : World} {B g : Nat} {us : List Pi} {x : Pi} (h : Outs W B g us) (hx : W.ownsRow B 9 1 x.v x.l.length (strsV x.l)) (hn : x.v.ownBlock ≠ some g) : Outs W B g (us ++ [x]) := fun y hy => by
  rcases List.mem_append.1 hy with hy | hy
  · exact h y hy
  · rw [List.mem_singleton] at hy; subst hy; exact ⟨hx, hn⟩
/- a slice of pipes that is a call's own -/
structure PisOwn (W : World) (B : Nat) (v : Value) (q : List Pi) : Prop where
  row : W.ownsRow B 81 5 v q.length (rcells Pi.cl q)
  out : ∀ x ∈ q, W.ownsRow B 9 1 x.v x.l.length (strsV x.l)
theorem PisOwn.at {W : World} {B : Nat} {v : Value} {q : List Pi} (h : PisOwn W B v q) : PisAt W v q := ⟨rows_of_own Pi.cl_len h.row, fun x hx => StsAt.of_own (h.out x hx)⟩
theorem PisOwn.kept {W W' : World} {B : Nat} {v : Value} {q : List Pi} (h : PisOwn W B v q) (hb : Below W.heap.size W W') : PisOwn W' B v q := ⟨rown_below h.row hb, fun x hx => rown_below (h.out x hx) hb⟩
theorem PisOwn.mono {W : World} {B B' : Nat} {v : Value} {q : List Pi} (h : PisOwn W B v q) (hb : B' ≤ B) : PisOwn W B' v q := ⟨rown_mono h.row hb, fun x hx => rown_mono (h.out x hx) hb⟩
theorem nums_snoc {us l : List Pi} {x : Pi} {i : Nat} (h : us.map Pi.num = (l.take i).map Pi.num) (hi : i < l.length) (hx : x.num = (l[i]).num) : (us ++ [x]).map Pi.num = (l.take (i + 1)).map Pi.num := by
  rw [List.take_succ_eq_append_getElem hi, List.map_append, List.map_append, h]
  simp [hx]
def PisPost (l : List Pi) (w : World) (e : Ending) (w' : World) : Prop := ∃ (v : Value) (q : List Pi), e = .returned v ∧ PisOwn w' w.heap.size v q ∧ q.map Pi.num = l.map Pi.num ∧ Below w.heap.size w w'
set_option maxRecDepth 100000 in
set_option maxHeartbeats 2000000 in
theorem toPipeS_any (l : List Pi) (v : Value) (w : World) (h : PisAt w v l) (hn : l.length ≤ 1048576) (hm : ∀ x ∈ l, x.l.length ≤ 1048576) :
    Calls Tryz.prog 51 #[v] w (PisPost l w) := by
  obtain ⟨i0, hi0, hz0, hz1, hz2⟩ := info_parts Pi.info
  obtain ⟨h, hO⟩ := h
  obtain ⟨a, cap, rfl, h⟩ := h
  rw [List.length_map] at *
  have HH := Lib.hid h
  have HO := Lib.hid hO
  have HM := Lib.hid hm
  clear h hO hm
  unfold PisPost
  obtain ⟨n, hnn⟩ : ∃ n, n = l.length := ⟨_, rfl⟩
  rw [← hnn] at hn ⊢
  have HN := Lib.hid hnn
  clear hnn
  go_enter Tryz.func51, Tryz.ntmps51
  go_wp2_with (refine wpList_make_full _ rfl _ _ 32 rfl w.heap.size 81 i0 _ 5 Tryz.underlying32 hi0 hz0 hz1 .i64 .i64 _ _ n rfl rfl rfl rfl (by rw [hz2]; omega) (by unfold maxLen; omega) (Nat.le_refl _) ?_; intro w0 hown hg0; have HF : Hid (RPart w0 w.heap.size 81 5 w.heap.size n n (clOf []) 0 0) := Lib.hid (made_at hown); have HB0 : Hid (Below w.heap.size w w0) := Lib.hid ((Below.refl _ _).grown hg0 (Nat.le_refl _) (fun k hk => by cases hk)); clear hown hg0)
  go_loopw [4] (fun u wr => ∃ (i : Nat) (us : List Pi), i ≤ n ∧ u = .int .i64 (i : Int) ∧ Hid (us.length = i) ∧ Hid (us.map Pi.num = (l.take i).map Pi.num) ∧ Hid (RPart wr w.heap.size 81 5 w.heap.size n n (clOf us) i 0) ∧ Hid (Outs wr w.heap.size w.heap.size us) ∧ Hid (Below w.heap.size w wr)) (fun u _ => n - (intOf u).toNat)
  case atStart => exact ⟨0, [], Nat.zero_le _, rfl, Lib.hid rfl, Lib.hid rfl, HF, Lib.hid (fun x hx => by cases hx), HB0⟩
  case round =>
    clear HF HB0
    obtain ⟨i, us, hi, rfl, HUL, HUN, HF, HU, HB⟩ := hrel
    by_cases hlt : i < n
    · have hir : i < l.length := by rw [← HN.out]; exact hlt
      have hne : l.map Pi.cl ≠ [] := fun e => by
        have := congrArg List.length e
        rw [List.length_map, ← HN.out] at this
        simp at this; omega
      obtain ⟨b, off, ha, hb, HE⟩ := HH.out hne
      subst ha
      have hl1 : (i : Int) < n := by omega
      have hsz : w.heap.size < wr.heap.size := (HF.out.choose_spec.1.lt _ rfl).2
      have HQ := Lib.hid (toPipe_any (l[i]).e (l[i]).p (l[i]).b (l[i]).i (l[i]).v (l[i]).l wr ((HO.out _ (List.getElem_mem hir)).kept HB.out) (HM.out _ (List.getElem_mem hir)))
      have HS := Lib.hid ((HO.out _ (List.getElem_mem hir)).form)
      obtain ⟨p0, p1, p2, p3, p4⟩ := (Elems.below HE HB.out hb).pi i hir
      have HNx := Lib.hid (fun (x : Pi) (hx : x.num = (l[i]).num) => nums_snoc HUN.out hir hx)
      unfold PpPost ppV at HQ
      clear HE
      generalize l[i] = y at *
      obtain ⟨ye, yp, yb, yi, yv, yl⟩ := y
      dsimp only at *
      obtain ⟨ya, yc, rfl⟩ := HS.out
      clear HS
      go_wp2_with fail
      refine HQ.out.mono ?_
      rintro e w1 ⟨xv, rfl, hown, hb1⟩
      have HF1 := HF.out.kept hb1
      have HU1 := HU.out.kept hb1
      have HB1 : Hid (Below w.heap.size w w1) := Lib.hid (HB.out.trans (hb1.mono HB.out.size))
      have HST := Lib.hid (rown_mono hown (Nat.le_of_lt hsz))
      obtain ⟨xa, xc, rfl⟩ := rown_form hown
      have HXN : Hid ((Value.slice xa yl.length xc).ownBlock ≠ some w.heap.size) := Lib.hid (fun e => by have := (hown.lt _ e).1; omega)
      obtain ⟨z0, c0⟩ := HF1.cell 0 hlt (by omega)
      obtain ⟨z1, c1⟩ := HF1.cell 1 hlt (by omega)
      obtain ⟨z2, c2⟩ := HF1.cell 2 hlt (by omega)
      obtain ⟨z3, c3⟩ := HF1.cell 3 hlt (by omega)
      obtain ⟨z4, c4⟩ := HF1.cell 4 hlt (by omega)
      rw [Nat.add_zero] at c0
      have fz := HF1.frozen
      have hfl : clOf (us ++ [⟨ye, yp, yb, yi, .slice xa yl.length xc, yl⟩]) i = [.int .i64 ye, .int .i64 yp, .int .i64 yb, .int .i64 yi, .slice xa yl.length xc] := clOf_last HUL.out
      have HF0 := HF1.congr (f' := clOf (us ++ [⟨ye, yp, yb, yi, .slice xa yl.length xc, yl⟩])) (fun m hm => clOf_snoc (by rw [HUL.out]; exact hm)) (.inl rfl)
      have HF2 := Lib.hid (RPart.next (RPart.set (RPart.set (RPart.set (RPart.set (RPart.set HF0 hlt (by omega) (by rw [hfl]; rfl)) hlt (by omega) (by rw [hfl]; rfl)) hlt (by omega) (by rw [hfl]; rfl)) hlt (by omega) (by rw [hfl]; rfl)) hlt (by omega) (by rw [hfl]; rfl)))
      have HU2 := Lib.hid (HU1.snoc (x := ⟨ye, yp, yb, yi, .slice xa yl.length xc, yl⟩) HST.out HXN.out)
      have HN2 := Lib.hid (HNx.out ⟨ye, yp, yb, yi, .slice xa yl.length xc, yl⟩ rfl)
      have HL2 : Hid ((us ++ [(⟨ye, yp, yb, yi, .slice xa yl.length xc, yl⟩ : Pi)]).length = i + 1) := Lib.hid (by rw [List.length_append, HUL.out]; rfl)
      clear hb1 HF1 HF0 hfl p0 p1 p2 p3 p4 HF HB HQ hown HU HU1 HUN HUL HNx HST HXN
      generalize us ++ [(⟨ye, yp, yb, yi, .slice xa yl.length xc, yl⟩ : Pi)] = us' at *
      go_wp2_with fail
      go_roundw
      case rel =>
        refine ⟨i + 1, us', by omega, by simp, HL2, HN2, HF2, Lib.hid (HU2.out.grown (grownSet (grownSet (grownSet (grownSet (grownSet (World.grownBy.refl _ _))))))), Lib.hid ?_⟩
        have := HB1.out
        go_grown
      case measure => simp [intOf]; omega
    · have hin : i = n := by omega
      subst hin
      go_wp2_with fail
      go_ret
      have hlen : us.length = l.length := by rw [HUL.out, HN.out]
      refine ⟨_, us, rfl, ⟨by have := HF.out.done Pi.cl_len (by omega) HUL.out (fun m hm => clOf_at hm); rw [HUL.out]; exact this, fun x hx => (HU.out x hx).1⟩, ?_, HB.out⟩
      have := HUN.out
      rw [HN.out, List.take_length] at this
      exact this
set_option maxRecDepth 100000 in
set_option maxHeartbeats 2000000 in
theorem eqPipeS_same (l l' : List Pi) (hs : l.map Pi.num = l'.map Pi.num) (v v' : Value) (w : World) (h : PisAt w v l) (h' : PisAt w v' l') (hn : l.length ≤ 1048576) :
    Calls Tryz.prog 65 #[v, v'] w fun e w' => e = .returned (.bool true) ∧ Below w.heap.size w w' := by
  have hll : l.length = l'.length := by have := congrArg List.length hs; simpa using this
  have HEQ := Lib.hid (fun (i : Nat) (hi : i < l.length) (hi' : i < l'.length) => (show (l[i]).num = (l'[i]).num from by
    have := congrArg (fun q => q[i]?) hs
    try dsimp only at this
    rw [List.getElem?_map, List.getElem?_map, List.getElem?_eq_getElem hi, List.getElem?_eq_getElem hi'] at this
    simpa using this))
  obtain ⟨h, hO⟩ := h
  obtain ⟨h', hO'⟩ := h'
  obtain ⟨a, cap, rfl, h⟩ := h
  obtain ⟨a', cap', rfl, h'⟩ := h'
  simp only [List.length_map] at *
  rw [← hll]
  have HH := Lib.hid h
  have HH' := Lib.hid h'
  have HO := Lib.hid hO
  have HO' := Lib.hid hO'
  clear h h' hO hO' hs
  obtain ⟨n, hnn⟩ : ∃ n, n = l.length := ⟨_, rfl⟩
  rw [← hnn] at hn hll ⊢
  have HN := Lib.hid hnn
  have HN' := Lib.hid hll
  clear hnn hll
  go_enter Tryz.func65, Tryz.ntmps65
  go_wp2_with fail
  go_loopw [5] (fun u wr => ∃ i : Nat, i ≤ n ∧ u = .int .i64 (i : Int) ∧ Hid (Below w.heap.size w wr)) (fun u _ => n - (intOf u).toNat)
  case atStart => exact ⟨0, Nat.zero_le _, rfl, Lib.hid (Below.refl _ _)⟩
  case round =>
    obtain ⟨i, hi, rfl, HB⟩ := hrel
    by_cases hlt : i < n
    · have hne : l.map Pi.cl ≠ [] := fun e => by
        have := congrArg List.length e
        rw [List.length_map, ← HN.out] at this
        simp at this; omega
      have hne' : l'.map Pi.cl ≠ [] := fun e => by
        have := congrArg List.length e
        rw [List.length_map, ← HN'.out] at this
        simp at this; omega
      obtain ⟨b, off, ha, hb, HE⟩ := HH.out hne
      obtain ⟨b', off', ha', hb', HE'⟩ := HH'.out hne'
      subst ha ha'
      have hir : i < l.length := by rw [← HN.out]; exact hlt
      have hir' : i < l'.length := by rw [← HN'.out]; exact hlt
      have hl1 : (i : Int) < n := by omega
      have HQ := Lib.hid (fun (W : World) (h1 : StsAt W (l[i]).v (l[i]).l) (h2 : StsAt W (l'[i]).v (l[i]).l) => eqPipe_same (l[i]).e (l[i]).p (l[i]).b (l[i]).i (l[i]).v (l'[i]).v (l[i]).l W h1 h2)
      have HSA := Lib.hid (fun (W : World) (hS : Below w.heap.size w W) => (HO.out _ (List.getElem_mem hir)).kept hS)
      have HSB := Lib.hid (fun (W : World) (hS : Below w.heap.size w W) => (HO'.out _ (List.getElem_mem hir')).kept hS)
      have HC := Lib.hid (fun (W : World) (hS : Below w.heap.size w W) => (Elems.below HE hS hb).pi i hir)
      have HC' := Lib.hid (fun (W : World) (hS : Below w.heap.size w W) => (Elems.below HE' hS hb').pi i hir')
      have HSf := Lib.hid ((HO.out _ (List.getElem_mem hir)).form)
      have HSf' := Lib.hid ((HO'.out _ (List.getElem_mem hir')).form)
      have heq := HEQ.out i hir hir'
      unfold ppV at HQ
      clear HE HE'
      generalize l[i] = y at *
      generalize l'[i] = y' at *
      obtain ⟨ye, yp, yb, yi, yv, yl⟩ := y
      obtain ⟨ye', yp', yb', yi', yv', yl'⟩ := y'
      unfold Pi.num at heq
      injection heq with e1 e2 e3 e4 e5
      dsimp only at *
      subst e1 e2 e3 e4 e5
      obtain ⟨ya, yc, rfl⟩ := HSf.out
      obtain ⟨ya', yc', rfl⟩ := HSf'.out
      clear HSf HSf'
      have S0 : Below w.heap.size w wr.drew := HB.out.drew
      go_wp2_with fail
      refine wp_region_held_drew (S := fun W' => Below w.heap.size w W') (by kernel_rfl) S0 (fun hHeld => ?_)
      clear hHeld
      refine wpAnyH_take (i := 0) (oi := { dst := some 17, op := Op.move (Operand.tmp 0), type := 32, pos := "exact.go:1240", after := #[], guard := none }) (v := ?vva1) rfl (by kernel_rfl) (by kernel_rfl) (by kernel_rfl) (fun _ _ _ h => h) (Or.inl ⟨by rfl, ?hya1⟩) S0 ?resta1
      case hya1 => (intro w hSw; obtain ⟨p0, p1, p2, p3, p4⟩ := HC.out _ hSw; obtain ⟨q0, q1, q2, q3, q4⟩ := HC'.out _ hSw;go_simp <;> with_reducible rfl)
      try simp only [Act.put, List.setIfInBounds_toArray, List.set_cons_zero, List.set_cons_succ]
      refine wpAnyH_take (i := 1) (oi := { dst := some 18, op := Op.move (Operand.tmp 5), type := 3, pos := "exact.go:1240", after := #[], guard := none }) (v := ?vva2) rfl (by kernel_rfl) (by kernel_rfl) (by kernel_rfl) (fun _ _ _ h => h) (Or.inl ⟨by rfl, ?hya2⟩) S0 ?resta2
      case hya2 => (intro w hSw; obtain ⟨p0, p1, p2, p3, p4⟩ := HC.out _ hSw; obtain ⟨q0, q1, q2, q3, q4⟩ := HC'.out _ hSw;go_simp <;> with_reducible rfl)
      try simp only [Act.put, List.setIfInBounds_toArray, List.set_cons_zero, List.set_cons_succ]
      refine wpAnyH_take (i := 2) (oi := { dst := some 19, op := Op.indexAddr 32 (Operand.tmp 17) (Operand.tmp 18), type := 0, pos := "exact.go:1240", after := #[{ on := 0, ground := Ground.data }, { on := 1, ground := Ground.data }], guard := none }) (v := ?vva3) rfl (by kernel_rfl) (by kernel_rfl) (by kernel_rfl) (fun _ _ _ h => h) (Or.inl ⟨by rfl, ?hya3⟩) S0 ?resta3
      case hya3 => (intro w hSw; obtain ⟨p0, p1, p2, p3, p4⟩ := HC.out _ hSw; obtain ⟨q0, q1, q2, q3, q4⟩ := HC'.out _ hSw;go_simp <;> with_reducible rfl)
      try simp only [Act.put, List.setIfInBounds_toArray, List.set_cons_zero, List.set_cons_succ]
      refine wpAnyH_take (i := 3) (oi := { dst := some 20, op := Op.load 81 (Operand.tmp 19), type := 81, pos := "exact.go:1240", after := #[{ on := 2, ground := Ground.data }], guard := none }) (v := ?vva4) rfl (by kernel_rfl) (by kernel_rfl) (by kernel_rfl) (fun _ _ _ h => h) (Or.inl ⟨by rfl, ?hya4⟩) S0 ?resta4
      case hya4 => (intro w hSw; obtain ⟨p0, p1, p2, p3, p4⟩ := HC.out _ hSw; obtain ⟨q0, q1, q2, q3, q4⟩ := HC'.out _ hSw;go_simp <;> with_reducible rfl)
      try simp only [Act.put, List.setIfInBounds_toArray, List.set_cons_zero, List.set_cons_succ]
      refine wpAnyH_take (i := 4) (oi := { dst := some 21, op := Op.move (Operand.tmp 1), type := 32, pos := "exact.go:1240", after := #[], guard := none }) (v := ?vva5) rfl (by kernel_rfl) (by kernel_rfl) (by kernel_rfl) (fun _ _ _ h => h) (Or.inl ⟨by rfl, ?hya5⟩) S0 ?resta5
      case hya5 => (intro w hSw; obtain ⟨p0, p1, p2, p3, p4⟩ := HC.out _ hSw; obtain ⟨q0, q1, q2, q3, q4⟩ := HC'.out _ hSw;go_simp <;> with_reducible rfl)
      try simp only [Act.put, List.setIfInBounds_toArray, List.set_cons_zero, List.set_cons_succ]
      refine wpAnyH_take (i := 5) (oi := { dst := some 22, op := Op.move (Operand.tmp 5), type := 3, pos := "exact.go:1240", after := #[], guard := none }) (v := ?vva6) rfl (by kernel_rfl) (by kernel_rfl) (by kernel_rfl) (fun _ _ _ h => h) (Or.inl ⟨by rfl, ?hya6⟩) S0 ?resta6
      case hya6 => (intro w hSw; obtain ⟨p0, p1, p2, p3, p4⟩ := HC.out _ hSw; obtain ⟨q0, q1, q2, q3, q4⟩ := HC'.out _ hSw;go_simp <;> with_reducible rfl)
      try simp only [Act.put, List.setIfInBounds_toArray, List.set_cons_zero, List.set_cons_succ]
      refine wpAnyH_take (i := 6) (oi := { dst := some 23, op := Op.indexAddr 32 (Operand.tmp 21) (Operand.tmp 22), type := 0, pos := "exact.go:1240", after := #[{ on := 4, ground := Ground.data }, { on := 5, ground := Ground.data }], guard := none }) (v := ?vva7) rfl (by kernel_rfl) (by kernel_rfl) (by kernel_rfl) (fun _ _ _ h => h) (Or.inl ⟨by rfl, ?hya7⟩) S0 ?resta7
      case hya7 => (intro w hSw; obtain ⟨p0, p1, p2, p3, p4⟩ := HC.out _ hSw; obtain ⟨q0, q1, q2, q3, q4⟩ := HC'.out _ hSw;go_simp <;> with_reducible rfl)
      try simp only [Act.put, List.setIfInBounds_toArray, List.set_cons_zero, List.set_cons_succ]
      refine wpAnyH_take (i := 7) (oi := { dst := some 24, op := Op.load 81 (Operand.tmp 23), type := 81, pos := "exact.go:1240", after := #[{ on := 6, ground := Ground.data }], guard := none }) (v := ?vva8) rfl (by kernel_rfl) (by kernel_rfl) (by kernel_rfl) (fun _ _ _ h => h) (Or.inl ⟨by rfl, ?hya8⟩) S0 ?resta8
      case hya8 => (intro w hSw; obtain ⟨p0, p1, p2, p3, p4⟩ := HC.out _ hSw; obtain ⟨q0, q1, q2, q3, q4⟩ := HC'.out _ hSw;go_simp <;> with_reducible rfl)
      try simp only [Act.put, List.setIfInBounds_toArray, List.set_cons_zero, List.set_cons_succ]
      refine wpAnyH_ready (rs := [8]) (by kernel_rfl) (by simp) ?_
      refine AllReadyH.cons (o := { dst := some 25, op := Op.call { callee := Callee.value (Operand.func 129), args := #[Operand.tmp 20, Operand.tmp 24], argTypes := #[81, 81] }, type := 4, pos := "exact.go:1240", after := #[{ on := 3, ground := Ground.data }, { on := 7, ground := Ground.data }], guard := none }) rfl (fun K hK => ?_) AllReadyH.nil
      go_simp
      refine (HQ.out _ (HSA.out _ S0) (HSB.out _ S0)).mono ?_
      rintro e w1 ⟨rfl, hb1⟩
      replace S0 := S0.trans (hb1.mono S0.size)
      clear hb1
      refine hK.out _ _ S0 (fun hHeld => ?_)
      clear hK K hHeld
      try simp only [Act.put, List.setIfInBounds_toArray, List.set_cons_zero, List.set_cons_succ]
      refine wpAnyH_take (i := 9) (oi := { dst := some 26, op := Op.unOp UnOp.not 4 (Operand.tmp 25), type := 4, pos := "exact.go:1240", after := #[{ on := 8, ground := Ground.data }], guard := none }) (v := ?vva9) rfl (by kernel_rfl) (by kernel_rfl) (by kernel_rfl) (fun _ _ _ h => h) (Or.inl ⟨by rfl, ?hya9⟩) S0 ?resta9
      case hya9 => (intro w hSw; obtain ⟨p0, p1, p2, p3, p4⟩ := HC.out _ hSw; obtain ⟨q0, q1, q2, q3, q4⟩ := HC'.out _ hSw;go_simp <;> with_reducible rfl)
      try simp only [Act.put, List.setIfInBounds_toArray, List.set_cons_zero, List.set_cons_succ]
      refine wpAnyH_done (by kernel_rfl) ?_ _
      go_wp2_with fail
      go_roundw
      case rel => exact ⟨i + 1, by omega, by simp, Lib.hid S0⟩
      case measure => simp [intOf]; omega
    · have : i = n := by omega
      subst this
      go_wp2_with fail
      go_ret
      exact ⟨rfl, HB.out⟩
end Go.Proofs.YtglealihdkecpaaGreat
