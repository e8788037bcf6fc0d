import Derived.Test.YtglealihdkecpaaGreatHoO
import Derived.Test.YtglealihdkecpaaGreatMg
import Derived.Test.YtglealihdkecpaaGreatRHd
import Derived.Test.YtglealihdkecpaaGreatRGu
import Derived.Test.YtglealihdkecpaaGreatRMv
import Derived.Test.YtglealihdkecpaaGreatRFz
import Derived.Test.YtglealihdkecpaaGreatRIv
/- A law's own house: its size. -/
namespace Go.Proofs.YtglealihdkecpaaGreat
open Go.RowKit Go.WideShapes Go.ChangeShapes

theorem szW {P : Program} {k : Nat} {v : Value} {n : Nat} {L : Int} {w : World} (h : Calls P k #[v, .int .i64 L] w fun e w' => e = .returned (.int .i64 (if L < n then -1 else L - n)) ∧ w = w') (h1 : L ≤ 1048576) :
    Calls P k #[v, .int .i64 L] w fun e w' => ∃ x : Int, e = .returned (.int .i64 x) ∧ (0 ≤ x → n ≤ 1048576) ∧ x ≤ 1048576 ∧ Below w.heap.size w w' := by
  refine h.mono ?_
  rintro e w' ⟨rfl, rfl⟩
  by_cases hb : L < n
  · rw [if_pos hb]
    exact ⟨_, rfl, fun h => absurd h (by omega), by omega, Below.refl _ _⟩
  · rw [if_neg hb]
    exact ⟨_, rfl, fun h => by omega, by omega, Below.refl _ _⟩
def SzPostH (h : Ho) (w : World) (e : Ending) (w' : World) : Prop := ∃ x : Int, e = .returned (.int .i64 x) ∧ (0 ≤ x → h.small 1048576) ∧ Below w.heap.size w w'
theorem SlAt.form {W : World} {sz : Nat} {v : Value} {vs : List (List Value)} (h : SlAt W sz v vs) : ∃ a c, v = .slice a vs.length c := by
  obtain ⟨a, c, e, _⟩ := h
  exact ⟨a, c, e⟩
set_option maxRecDepth 100000 in
set_option maxHeartbeats 4000000 in
theorem szHouse_any (h : Ho) (vd vp vr vg vw vf : Value) (w : World) (A : HoAt w vd vp vr vg vw vf h) (F : h.fits) :
    Calls Tryz.prog 9 #[hoV h vd vp vr vg vw vf, .int .i64 1048576] w (SzPostH h w) := by
  have H3 := Lib.hid (fun (W' : World) (hb : Below w.heap.size w W') (L : Int) (h0 : 0 ≤ L) (h1 : L ≤ 1048576) => szW (n := (h.doors.map clI).length) (szInt64L_any vd _ L W' (A.doors.kept hb) (by rw [List.length_map]; exact F.doors) h0 h1) h1)
  have H4 := Lib.hid (fun (W' : World) (hb : Below w.heap.size w W') (L : Int) (h0 : 0 ≤ L) (h1 : L ≤ 1048576) => szPipeS_any h.pipes vp L W' (A.pipes.kept hb) F.pipes F.out h0 h1)
  have H5 := Lib.hid (fun (W' : World) (hb : Below w.heap.size w W') (L : Int) (h0 : 0 ≤ L) (h1 : L ≤ 1048576) => szW (n := (h.rib.map Hd.cl).length) (szHeldL_any vr _ L W' (SlAt.kept A.rib hb) (by rw [List.length_map]; exact F.rib) h0 h1) h1)
  have H6 := Lib.hid (fun (W' : World) (hb : Below w.heap.size w W') (L : Int) (h0 : 0 ≤ L) (h1 : L ≤ 1048576) => szW (n := (h.gus.map Gu.cl).length) (szGuestL_any vg _ L W' (SlAt.kept A.gus hb) (by rw [List.length_map]; exact F.gus) h0 h1) h1)
  have H7 := Lib.hid (fun (W' : World) (hb : Below w.heap.size w W') (L : Int) (h0 : 0 ≤ L) (h1 : L ≤ 1048576) => szW (n := (h.went.map Mv.cl).length) (szWentL_any vw _ L W' (SlAt.kept A.went hb) (by rw [List.length_map]; exact F.went) h0 h1) h1)
  have H8 := Lib.hid (fun (W' : World) (hb : Below w.heap.size w W') (L : Int) (h0 : 0 ≤ L) (h1 : L ≤ 1048576) => szW (n := (h.froz.map Fz.cl).length) (szFrozenL_any vf _ L W' (SlAt.kept A.froz hb) (by rw [List.length_map]; exact F.froz) h0 h1) h1)
  have HF : Hid (h.doors.length ≤ 1048576 → h.pipes.length ≤ 1048576 ∧ (∀ p ∈ h.pipes, p.l.length ≤ 1048576) → h.rib.length ≤ 1048576 → h.gus.length ≤ 1048576 → h.went.length ≤ 1048576 → h.froz.length ≤ 1048576 → h.small 1048576) := Lib.hid (fun a b c d e f => ⟨a, b.1, b.2, c, d, e, f⟩)
  simp only [List.length_map] at H3 H5 H6 H7 H8
  unfold SzPostN at H4
  unfold SzPostH
  obtain ⟨ad, cd, rfl⟩ := A.doors.form
  obtain ⟨ap, cp, rfl⟩ := A.pipes.sl.form
  obtain ⟨ar, cr, rfl⟩ := SlAt.form A.rib
  obtain ⟨ag, cg, rfl⟩ := SlAt.form A.gus
  obtain ⟨aw, cw, rfl⟩ := SlAt.form A.went
  obtain ⟨af, cf, rfl⟩ := SlAt.form A.froz
  simp only [List.length_map] at *
  clear A F
  obtain ⟨i0, i1, i2, l3, l4, l5, l6, l7, l8⟩ := h
  dsimp only at *
  generalize Ho.small _ _ = Q at *
  unfold hoV
  dsimp only
  have X0 := Blk.new w 29 #[.int .i64 i0, .int .i64 i1, .int .i64 i2, .slice ad l3.length cd, .slice ap l4.length cp, .slice ar l5.length cr, .slice ag l6.length cg, .slice aw l7.length cw, .slice af l8.length cf]
  have hb0 : Below w.heap.size w (w.alloc (.cells #[.int .i64 i0, .int .i64 i1, .int .i64 i2, .slice ad l3.length cd, .slice ap l4.length cp, .slice ar l5.length cr, .slice ag l6.length cg, .slice aw l7.length cw, .slice af l8.length cf] 29)) := (Below.refl _ _).alloc (Nat.le_refl _) _
  have HX := Lib.hid X0
  have HB := Lib.hid hb0
  clear X0 hb0
  go_enter Tryz.func9, Tryz.ntmps9
  go_upto_region 1 with fail
  generalize w.alloc (.cells #[.int .i64 i0, .int .i64 i1, .int .i64 i2, .slice ad l3.length cd, .slice ap l4.length cp, .slice ar l5.length cr, .slice ag l6.length cg, .slice aw l7.length cw, .slice af l8.length cf] 29) = W1 at *
  have cX := HX.out.cell
  go_wp2_with fail
  refine (H3.out _ HB.out _ (by omega) (by omega)).mono ?_
  rintro e w3 ⟨x3, rfl, hx3, hy3, hb3⟩
  have HX3 := Lib.hid hx3
  replace HX := Lib.hid (HX.out.kept hb3)
  replace HB := Lib.hid (HB.out.trans (hb3.mono HB.out.size))
  clear hb3 hx3 cX
  have cX := HX.out.cell
  by_cases hn3 : x3 < 0
  · clear cX
    go_wp2_with fail
    go_ret
    exact ⟨-1, rfl, fun h => absurd h (by omega), HB.out⟩
  go_wp2_with fail
  refine (H4.out _ HB.out _ (by omega) (by omega)).mono ?_
  rintro e w4 ⟨x4, rfl, hx4, hy4, hb4⟩
  have HX4 := Lib.hid hx4
  replace HX := Lib.hid (HX.out.kept hb4)
  replace HB := Lib.hid (HB.out.trans (hb4.mono HB.out.size))
  clear hb4 hx4 cX
  have cX := HX.out.cell
  by_cases hn4 : x4 < 0
  · clear cX
    go_wp2_with fail
    go_ret
    exact ⟨-1, rfl, fun h => absurd h (by omega), HB.out⟩
  go_wp2_with fail
  refine (H5.out _ HB.out _ (by omega) (by omega)).mono ?_
  rintro e w5 ⟨x5, rfl, hx5, hy5, hb5⟩
  have HX5 := Lib.hid hx5
  replace HX := Lib.hid (HX.out.kept hb5)
  replace HB := Lib.hid (HB.out.trans (hb5.mono HB.out.size))
  clear hb5 hx5 cX
  have cX := HX.out.cell
  by_cases hn5 : x5 < 0
  · clear cX
    go_wp2_with fail
    go_ret
    exact ⟨-1, rfl, fun h => absurd h (by omega), HB.out⟩
  go_wp2_with fail
  refine (H6.out _ HB.out _ (by omega) (by omega)).mono ?_
  rintro e w6 ⟨x6, rfl, hx6, hy6, hb6⟩
  have HX6 := Lib.hid hx6
  replace HX := Lib.hid (HX.out.kept hb6)
  replace HB := Lib.hid (HB.out.trans (hb6.mono HB.out.size))
  clear hb6 hx6 cX
  have cX := HX.out.cell
  by_cases hn6 : x6 < 0
  · clear cX
    go_wp2_with fail
    go_ret
    exact ⟨-1, rfl, fun h => absurd h (by omega), HB.out⟩
  go_wp2_with fail
  refine (H7.out _ HB.out _ (by omega) (by omega)).mono ?_
  rintro e w7 ⟨x7, rfl, hx7, hy7, hb7⟩
  have HX7 := Lib.hid hx7
  replace HX := Lib.hid (HX.out.kept hb7)
  replace HB := Lib.hid (HB.out.trans (hb7.mono HB.out.size))
  clear hb7 hx7 cX
  have cX := HX.out.cell
  by_cases hn7 : x7 < 0
  · clear cX
    go_wp2_with fail
    go_ret
    exact ⟨-1, rfl, fun h => absurd h (by omega), HB.out⟩
  go_wp2_with fail
  refine (H8.out _ HB.out _ (by omega) (by omega)).mono ?_
  rintro e w8 ⟨x8, rfl, hx8, hy8, hb8⟩
  have HX8 := Lib.hid hx8
  replace HX := Lib.hid (HX.out.kept hb8)
  replace HB := Lib.hid (HB.out.trans (hb8.mono HB.out.size))
  clear hb8 hx8 cX
  have cX := HX.out.cell
  by_cases hn8 : x8 < 0
  · clear cX
    go_wp2_with fail
    go_ret
    exact ⟨-1, rfl, fun h => absurd h (by omega), HB.out⟩
  go_wp2_with fail
  go_ret
  exact ⟨x8, rfl, fun h => HF.out (HX3.out (by omega)) (HX4.out (by omega)) (HX5.out (by omega)) (HX6.out (by omega)) (HX7.out (by omega)) (HX8.out (by omega)), HB.out⟩
end Go.Proofs.YtglealihdkecpaaGreat

/- A law's own house turned into the program's. -/
namespace Go.Proofs.YtglealihdkecpaaGreat
open Go.RowKit Go.WideShapes Go.ChangeShapes

/- a house whose lists are a call's own -/
structure HoOwn (W : World) (B : Nat) (vd vp vr vg vw vf : Value) (h : Ho) : Prop where
  doors : W.ownsRow B 2 1 vd h.doors.length (rcells clI h.doors)
  pipes : PisOwn W B vp h.pipes
  rib : W.ownsRow B 83 9 vr h.rib.length (rcells Hd.cl h.rib)
  gus : W.ownsRow B 87 7 vg h.gus.length (rcells Gu.cl h.gus)
  went : W.ownsRow B 89 3 vw h.went.length (rcells Mv.cl h.went)
  froz : W.ownsRow B 85 4 vf h.froz.length (rcells Fz.cl h.froz)
theorem HoOwn.at {W : World} {B : Nat} {vd vp vr vg vw vf : Value} {h : Ho} (x : HoOwn W B vd vp vr vg vw vf h) : HoAt W vd vp vr vg vw vf h :=
  ⟨rows_of_own clI_len x.doors, x.pipes.at, rows_of_own Hd.cl_len x.rib, rows_of_own Gu.cl_len x.gus, rows_of_own Mv.cl_len x.went, rows_of_own Fz.cl_len x.froz⟩
theorem HoOwn.kept {W W' : World} {B : Nat} {vd vp vr vg vw vf : Value} {h : Ho} (x : HoOwn W B vd vp vr vg vw vf h) (hb : Below W.heap.size W W') : HoOwn W' B vd vp vr vg vw vf h :=
  ⟨rown_below x.doors hb, x.pipes.kept hb, rown_below x.rib hb, rown_below x.gus hb, rown_below x.went hb, rown_below x.froz hb⟩
theorem HoOwn.mono {W : World} {B B' : Nat} {vd vp vr vg vw vf : Value} {h : Ho} (x : HoOwn W B vd vp vr vg vw vf h) (hb : B' ≤ B) : HoOwn W B' vd vp vr vg vw vf h :=
  ⟨rown_mono x.doors hb, x.pipes.mono hb, rown_mono x.rib hb, rown_mono x.gus hb, rown_mono x.went hb, rown_mono x.froz hb⟩
/- the same house, its pipes lying elsewhere -/
def Ho.with (h : Ho) (q : List Pi) : Ho := ⟨h.id, h.now, h.ep, h.doors, q, h.rib, h.gus, h.went, h.froz⟩
/- what toHouse holds while it fills a house -/
def RowQ.low (b : Nat) (q : RowQ) : Prop := b < q.B
structure TH (w : World) (b0 b1 b2 : Nat) (cp cx : Array Value) (R : List RowQ) (cur : World) : Prop where
  bel : Below w.heap.size w cur
  p : Blk cur b0 29 cp
  y : Blk cur b1 38 #[.int .i64 0, .int .i64 0, .int .i64 0, .slice none 0 0, .slice none 0 0, .slice none 0 0, .slice none 0 0, .slice none 0 0, .slice none 0 0]
  x : Blk cur b2 38 cx
  lo : w.heap.size ≤ b0 ∧ b0 < b1 ∧ b1 < b2
  row : ∀ q ∈ R, q.own cur ∧ b2 < q.B
section
variable {w cur cur' : World} {b0 b1 b2 : Nat} {cp cx : Array Value} {R : List RowQ}
theorem TH.kept (h : TH w b0 b1 b2 cp cx R cur) (hb : Below cur.heap.size cur cur') : TH w b0 b1 b2 cp cx R cur' :=
  ⟨h.bel.trans (hb.mono h.bel.size), h.p.kept hb, h.y.kept hb, h.x.kept hb, h.lo, fun q hq => ⟨rown_below (h.row q hq).1 hb, (h.row q hq).2⟩⟩
theorem TH.add (h : TH w b0 b1 b2 cp cx R cur) (hb : Below cur.heap.size cur cur') {t : TypeId} {sz n : Nat} {v : Value} {xs : List Value} (ho : cur'.ownsRow cur.heap.size t sz v n xs) : TH w b0 b1 b2 cp cx (⟨cur.heap.size, t, sz, v, n, xs⟩ :: R) cur' := by
  have k := h.kept hb
  refine ⟨k.bel, k.p, k.y, k.x, k.lo, fun q hq => ?_⟩
  rcases List.mem_cons.1 hq with rfl | hq
  · exact ⟨ho, h.x.lt⟩
  · exact k.row q hq
theorem TH.adds (h : TH w b0 b1 b2 cp cx R cur) (hb : Below cur.heap.size cur cur') {Q : List RowQ} (ho : ∀ q ∈ Q, q.own cur' ∧ q.B = cur.heap.size) : TH w b0 b1 b2 cp cx (Q ++ R) cur' := by
  have k := h.kept hb
  refine ⟨k.bel, k.p, k.y, k.x, k.lo, fun q hq => ?_⟩
  rcases List.mem_append.1 hq with hq | hq
  · exact ⟨(ho q hq).1, by rw [(ho q hq).2]; exact h.x.lt⟩
  · exact k.row q hq
theorem TH.put (h : TH w b0 b1 b2 cp cx R cur) (i : Nat) (v : Value) : TH w b0 b1 b2 cp (cx.setIfInBounds i v) R (cur.setCell ⟨b2, i, none⟩ v) :=
  ⟨h.bel.setCell (p := ⟨b2, i, none⟩) (by show w.heap.size ≤ b2; have := h.lo; omega) v, h.p.far (b' := b2) (by have := h.lo; omega), h.y.far (b' := b2) (by have := h.lo; omega), h.x.set i v, h.lo, fun q hq => ⟨ownsRow_setCell_below (h.row q hq).1 (h.row q hq).2 v, (h.row q hq).2⟩⟩
/- a store into the answer's block -/
structure TY (w : World) (b1 b2 : Nat) (cy : Array Value) (R : List RowQ) (cur : World) : Prop where
  bel : Below w.heap.size w cur
  y : Blk cur b1 38 cy
  lo : w.heap.size ≤ b1 ∧ b1 < b2
  row : ∀ q ∈ R, q.own cur ∧ b2 < q.B
theorem TH.ty (h : TH w b0 b1 b2 cp cx R cur) : TY w b1 b2 #[.int .i64 0, .int .i64 0, .int .i64 0, .slice none 0 0, .slice none 0 0, .slice none 0 0, .slice none 0 0, .slice none 0 0, .slice none 0 0] R cur := ⟨h.bel, h.y, by have := h.lo; omega, h.row⟩
theorem TY.put {cy : Array Value} (h : TY w b1 b2 cy R cur) (i : Nat) (v : Value) : TY w b1 b2 (cy.setIfInBounds i v) R (cur.setCell ⟨b1, i, none⟩ v) :=
  ⟨h.bel.setCell (p := ⟨b1, i, none⟩) (by show w.heap.size ≤ b1; have := h.lo; omega) v, h.y.set i v, h.lo, fun q hq => ⟨ownsRow_setCell_below (h.row q hq).1 (by show b1 < q.B; have := h.lo; have := (h.row q hq).2; omega) v, (h.row q hq).2⟩⟩
end
def outQ (B : Nat) (q : List Pi) : List RowQ := q.map fun x => ⟨B, 9, 1, x.v, x.l.length, strsV x.l⟩
theorem HoOwn.of {W : World} {B : Nat} {vd vp vr vg vw vf : Value} {h : Ho} {R : List RowQ} (hr : ∀ q ∈ R, q.own W ∧ B < q.B) {B3 B4 B5 B6 B7 B8 : Nat} (e3 : ⟨B3, 2, 1, vd, h.doors.length, rcells clI h.doors⟩ ∈ R) (e4 : ⟨B4, 81, 5, vp, h.pipes.length, rcells Pi.cl h.pipes⟩ ∈ R) (e4' : ∀ q ∈ outQ B4 h.pipes, q ∈ R) (e5 : ⟨B5, 83, 9, vr, h.rib.length, rcells Hd.cl h.rib⟩ ∈ R) (e6 : ⟨B6, 87, 7, vg, h.gus.length, rcells Gu.cl h.gus⟩ ∈ R) (e7 : ⟨B7, 89, 3, vw, h.went.length, rcells Mv.cl h.went⟩ ∈ R) (e8 : ⟨B8, 85, 4, vf, h.froz.length, rcells Fz.cl h.froz⟩ ∈ R) : HoOwn W B vd vp vr vg vw vf h :=
  ⟨rown_mono (hr _ e3).1 (Nat.le_of_lt (hr _ e3).2), ⟨rown_mono (hr _ e4).1 (Nat.le_of_lt (hr _ e4).2), fun x hx => by
    have := hr _ (e4' _ (List.mem_map.2 ⟨x, hx, rfl⟩))
    exact rown_mono this.1 (Nat.le_of_lt this.2)⟩, rown_mono (hr _ e5).1 (Nat.le_of_lt (hr _ e5).2), rown_mono (hr _ e6).1 (Nat.le_of_lt (hr _ e6).2), rown_mono (hr _ e7).1 (Nat.le_of_lt (hr _ e7).2), rown_mono (hr _ e8).1 (Nat.le_of_lt (hr _ e8).2)⟩
def ThPost (h : Ho) (w : World) (e : Ending) (w' : World) : Prop := ∃ (vd vp vr vg vw vf : Value) (q : List Pi), e = .returned (hoV (h.with q) vd vp vr vg vw vf) ∧ HoOwn w' w.heap.size vd vp vr vg vw vf (h.with q) ∧ q.map Pi.num = h.pipes.map Pi.num ∧ Below w.heap.size w w'
set_option maxRecDepth 100000 in
set_option maxHeartbeats 8000000 in
theorem toHouse_any (h : Ho) (vd vp vr vg vw vf : Value) (w : World) (A : HoAt w vd vp vr vg vw vf h) (hs : h.small 1048576) :
    Calls Tryz.prog 11 #[hoV h vd vp vr vg vw vf] w (ThPost h w) := by
  have H3 := Lib.hid (fun (W : World) (hb : Below w.heap.size w W) => Iv.toS_any h.doors vd W (A.doors.kept hb) hs.doors)
  have H4 := Lib.hid (fun (W : World) (hb : Below w.heap.size w W) => toPipeS_any h.pipes vp W (A.pipes.kept hb) hs.pipes hs.out)
  have H5 := Lib.hid (fun (W : World) (hb : Below w.heap.size w W) => Hd.toS_any h.rib vr W (SlAt.kept A.rib hb) hs.rib)
  have H6 := Lib.hid (fun (W : World) (hb : Below w.heap.size w W) => Gu.toS_any h.gus vg W (SlAt.kept A.gus hb) hs.gus)
  have H7 := Lib.hid (fun (W : World) (hb : Below w.heap.size w W) => Mv.toS_any h.went vw W (SlAt.kept A.went hb) hs.went)
  have H8 := Lib.hid (fun (W : World) (hb : Below w.heap.size w W) => Fz.toS_any h.froz vf W (SlAt.kept A.froz hb) hs.froz)
  unfold RowPost at H3 H5 H6 H7 H8
  unfold PisPost at H4
  unfold ThPost
  obtain ⟨ad, cd, hvd⟩ : ∃ a c, vd = .slice a h.doors.length c := by obtain ⟨a, c, e, _⟩ := A.doors; exact ⟨a, c, by rw [e, List.length_map]⟩
  obtain ⟨ap, cp, hvp⟩ : ∃ a c, vp = .slice a h.pipes.length c := by obtain ⟨a, c, e, _⟩ := A.pipes.sl; exact ⟨a, c, by rw [e, List.length_map]⟩
  obtain ⟨ar, cr, hvr⟩ : ∃ a c, vr = .slice a h.rib.length c := by obtain ⟨a, c, e, _⟩ := A.rib; exact ⟨a, c, by rw [e, List.length_map]⟩
  obtain ⟨ag, cg, hvg⟩ : ∃ a c, vg = .slice a h.gus.length c := by obtain ⟨a, c, e, _⟩ := A.gus; exact ⟨a, c, by rw [e, List.length_map]⟩
  obtain ⟨aw, cw, hvw⟩ : ∃ a c, vw = .slice a h.went.length c := by obtain ⟨a, c, e, _⟩ := A.went; exact ⟨a, c, by rw [e, List.length_map]⟩
  obtain ⟨af, cf, hvf⟩ : ∃ a c, vf = .slice a h.froz.length c := by obtain ⟨a, c, e, _⟩ := A.froz; exact ⟨a, c, by rw [e, List.length_map]⟩
  subst hvd hvp hvr hvg hvw hvf
  clear A hs
  unfold Ho.with hoV
  dsimp only
  obtain ⟨i0, i1, i2, l3, l4, l5, l6, l7, l8⟩ := h
  dsimp only at *
  have A : TH w w.heap.size (w.heap.size + 1) (w.heap.size + 1 + 1) #[.int .i64 i0, .int .i64 i1, .int .i64 i2, .slice ad l3.length cd, .slice ap l4.length cp, .slice ar l5.length cr, .slice ag l6.length cg, .slice aw l7.length cw, .slice af l8.length cf] #[.int .i64 i0, .int .i64 i1, .int .i64 i2, .slice none 0 0, .slice none 0 0, .slice none 0 0, .slice none 0 0, .slice none 0 0, .slice none 0 0] [] (((w.alloc (.cells #[.int .i64 i0, .int .i64 i1, .int .i64 i2, .slice ad l3.length cd, .slice ap l4.length cp, .slice ar l5.length cr, .slice ag l6.length cg, .slice aw l7.length cw, .slice af l8.length cf] 29)).alloc (.cells #[.int .i64 0, .int .i64 0, .int .i64 0, .slice none 0 0, .slice none 0 0, .slice none 0 0, .slice none 0 0, .slice none 0 0, .slice none 0 0] 38)).alloc (.cells #[.int .i64 i0, .int .i64 i1, .int .i64 i2, .slice none 0 0, .slice none 0 0, .slice none 0 0, .slice none 0 0, .slice none 0 0, .slice none 0 0] 38)) := by
    have hp := ((Blk.new w 29 #[.int .i64 i0, .int .i64 i1, .int .i64 i2, .slice ad l3.length cd, .slice ap l4.length cp, .slice ar l5.length cr, .slice ag l6.length cg, .slice aw l7.length cw, .slice af l8.length cf]).alloc (.cells #[.int .i64 0, .int .i64 0, .int .i64 0, .slice none 0 0, .slice none 0 0, .slice none 0 0, .slice none 0 0, .slice none 0 0, .slice none 0 0] 38)).alloc (.cells #[.int .i64 i0, .int .i64 i1, .int .i64 i2, .slice none 0 0, .slice none 0 0, .slice none 0 0, .slice none 0 0, .slice none 0 0, .slice none 0 0] 38)
    have hy := (Blk.new (w.alloc (.cells #[.int .i64 i0, .int .i64 i1, .int .i64 i2, .slice ad l3.length cd, .slice ap l4.length cp, .slice ar l5.length cr, .slice ag l6.length cg, .slice aw l7.length cw, .slice af l8.length cf] 29)) 38 #[.int .i64 0, .int .i64 0, .int .i64 0, .slice none 0 0, .slice none 0 0, .slice none 0 0, .slice none 0 0, .slice none 0 0, .slice none 0 0]).alloc (.cells #[.int .i64 i0, .int .i64 i1, .int .i64 i2, .slice none 0 0, .slice none 0 0, .slice none 0 0, .slice none 0 0, .slice none 0 0, .slice none 0 0] 38)
    have hx := Blk.new ((w.alloc (.cells #[.int .i64 i0, .int .i64 i1, .int .i64 i2, .slice ad l3.length cd, .slice ap l4.length cp, .slice ar l5.length cr, .slice ag l6.length cg, .slice aw l7.length cw, .slice af l8.length cf] 29)).alloc (.cells #[.int .i64 0, .int .i64 0, .int .i64 0, .slice none 0 0, .slice none 0 0, .slice none 0 0, .slice none 0 0, .slice none 0 0, .slice none 0 0] 38)) 38 #[.int .i64 i0, .int .i64 i1, .int .i64 i2, .slice none 0 0, .slice none 0 0, .slice none 0 0, .slice none 0 0, .slice none 0 0, .slice none 0 0]
    rw [World.size_alloc] at hy hx
    rw [World.size_alloc] at hx
    exact ⟨(((Below.refl _ _).alloc (Nat.le_refl _) _).alloc (by simp) _).alloc (by simp; omega) _, hp, hy, hx, by omega, fun q hq => by cases hq⟩
  go_enter Tryz.func11, Tryz.ntmps11
  go_upto_region 5 with fail
  generalize ((w.alloc (.cells #[.int .i64 i0, .int .i64 i1, .int .i64 i2, .slice ad l3.length cd, .slice ap l4.length cp, .slice ar l5.length cr, .slice ag l6.length cg, .slice aw l7.length cw, .slice af l8.length cf] 29)).alloc (.cells #[.int .i64 0, .int .i64 0, .int .i64 0, .slice none 0 0, .slice none 0 0, .slice none 0 0, .slice none 0 0, .slice none 0 0, .slice none 0 0] 38)).alloc (.cells #[.int .i64 i0, .int .i64 i1, .int .i64 i2, .slice none 0 0, .slice none 0 0, .slice none 0 0, .slice none 0 0, .slice none 0 0, .slice none 0 0] 38) = W3 at *
  generalize w.heap.size + 1 + 1 = b2 at *
  generalize w.heap.size + 1 = b1 at *
  have cP := A.p.cell
  go_wp2_with fail
  refine (H3.out _ A.bel).mono ?_
  rintro e w3 ⟨x3, rfl, ho, hb⟩
  replace A := A.add hb ho
  obtain ⟨a3, c3, rfl⟩ := rown_form ho
  clear ho hb cP
  have cP := A.p.cell
  have cX := A.x.cell
  have fX := A.x.frozen
  go_upto_region 6 with fail
  replace A := A.put 3 (.slice a3 l3.length c3)
  simp only [List.setIfInBounds_toArray, List.set_cons_zero, List.set_cons_succ] at A
  clear cP cX fX
  generalize w3.setCell ⟨b2, 3, none⟩ (.slice a3 l3.length c3) = u3w at *
  have cP := A.p.cell
  go_wp2_with fail
  refine (H4.out _ A.bel).mono ?_
  rintro e w4 ⟨x4, q4, rfl, ho, hq4, hb⟩
  replace A := A.adds hb (Q := ⟨_, 81, 5, x4, q4.length, rcells Pi.cl q4⟩ :: outQ _ q4) (fun r hr => by
    rcases List.mem_cons.1 hr with rfl | hr
    · exact ⟨ho.row, rfl⟩
    · obtain ⟨x, hx, rfl⟩ := List.mem_map.1 hr
      exact ⟨ho.out x hx, rfl⟩)
  obtain ⟨a4, c4, rfl⟩ := rown_form ho.row
  have HQ4 := Lib.hid hq4
  clear ho hb cP hq4
  have cP := A.p.cell
  have cX := A.x.cell
  have fX := A.x.frozen
  go_upto_region 7 with fail
  replace A := A.put 4 (.slice a4 q4.length c4)
  simp only [List.setIfInBounds_toArray, List.set_cons_zero, List.set_cons_succ] at A
  clear cP cX fX
  generalize w4.setCell ⟨b2, 4, none⟩ (.slice a4 q4.length c4) = u4w at *
  have cP := A.p.cell
  go_wp2_with fail
  refine (H5.out _ A.bel).mono ?_
  rintro e w5 ⟨x5, rfl, ho, hb⟩
  replace A := A.add hb ho
  obtain ⟨a5, c5, rfl⟩ := rown_form ho
  clear ho hb cP
  have cP := A.p.cell
  have cX := A.x.cell
  have fX := A.x.frozen
  go_upto_region 8 with fail
  replace A := A.put 5 (.slice a5 l5.length c5)
  simp only [List.setIfInBounds_toArray, List.set_cons_zero, List.set_cons_succ] at A
  clear cP cX fX
  generalize w5.setCell ⟨b2, 5, none⟩ (.slice a5 l5.length c5) = u5w at *
  have cP := A.p.cell
  go_wp2_with fail
  refine (H6.out _ A.bel).mono ?_
  rintro e w6 ⟨x6, rfl, ho, hb⟩
  replace A := A.add hb ho
  obtain ⟨a6, c6, rfl⟩ := rown_form ho
  clear ho hb cP
  have cP := A.p.cell
  have cX := A.x.cell
  have fX := A.x.frozen
  go_upto_region 9 with fail
  replace A := A.put 6 (.slice a6 l6.length c6)
  simp only [List.setIfInBounds_toArray, List.set_cons_zero, List.set_cons_succ] at A
  clear cP cX fX
  generalize w6.setCell ⟨b2, 6, none⟩ (.slice a6 l6.length c6) = u6w at *
  have cP := A.p.cell
  go_wp2_with fail
  refine (H7.out _ A.bel).mono ?_
  rintro e w7 ⟨x7, rfl, ho, hb⟩
  replace A := A.add hb ho
  obtain ⟨a7, c7, rfl⟩ := rown_form ho
  clear ho hb cP
  have cP := A.p.cell
  have cX := A.x.cell
  have fX := A.x.frozen
  go_upto_region 10 with fail
  replace A := A.put 7 (.slice a7 l7.length c7)
  simp only [List.setIfInBounds_toArray, List.set_cons_zero, List.set_cons_succ] at A
  clear cP cX fX
  generalize w7.setCell ⟨b2, 7, none⟩ (.slice a7 l7.length c7) = u7w at *
  have cP := A.p.cell
  go_wp2_with fail
  refine (H8.out _ A.bel).mono ?_
  rintro e w8 ⟨x8, rfl, ho, hb⟩
  replace A := A.add hb ho
  obtain ⟨a8, c8, rfl⟩ := rown_form ho
  clear ho hb cP
  have cP := A.p.cell
  have cX := A.x.cell
  have fX := A.x.frozen
  go_upto_region 11 with fail
  replace A := A.put 8 (.slice a8 l8.length c8)
  simp only [List.setIfInBounds_toArray, List.set_cons_zero, List.set_cons_succ] at A
  clear cP cX fX
  generalize w8.setCell ⟨b2, 8, none⟩ (.slice a8 l8.length c8) = u8w at *
  have Y := A.ty
  have cX := A.x.cell
  have cY := Y.y.cell
  have fY := Y.y.frozen
  have HY := Lib.hid (((((((((Y.put 0 (.int .i64 i0)).put 1 (.int .i64 i1)).put 2 (.int .i64 i2)).put 3 (.slice a3 l3.length c3)).put 4 (.slice a4 q4.length c4)).put 5 (.slice a5 l5.length c5)).put 6 (.slice a6 l6.length c6)).put 7 (.slice a7 l7.length c7)).put 8 (.slice a8 l8.length c8))
  simp only [List.setIfInBounds_toArray, List.set_cons_zero, List.set_cons_succ] at HY
  have hlt : w.heap.size ≤ b2 := by have := A.lo; omega
  have HLt := Lib.hid hlt
  clear A Y hlt
  go_wp2_with fail
  have cY2 := HY.out.y.cell
  refine bodyPost_ret (v := .agg #[.int .i64 i0, .int .i64 i1, .int .i64 i2, .slice a3 l3.length c3, .slice a4 q4.length c4, .slice a5 l5.length c5, .slice a6 l6.length c6, .slice a7 l7.length c7, .slice a8 l8.length c8]) (by simp [results, Tryz.results11, go_sem, cY2]) rfl ⟨_, _, _, _, _, _, q4, rfl, ?_, HQ4.out, HY.out.bel⟩
  have hr := HY.out.row
  have ho := HoOwn.of (h := ⟨i0, i1, i2, l3, q4, l5, l6, l7, l8⟩) (vd := .slice a3 l3.length c3) (vp := .slice a4 q4.length c4) (vr := .slice a5 l5.length c5) (vg := .slice a6 l6.length c6) (vw := .slice a7 l7.length c7) (vf := .slice a8 l8.length c8) hr (.tail _ (.tail _ (.tail _ (.tail _ (List.mem_append_right _ (.head _)))))) (.tail _ (.tail _ (.tail _ (.tail _ (List.mem_append_left _ (.head _)))))) (fun q hq => .tail _ (.tail _ (.tail _ (.tail _ (List.mem_append_left _ (.tail _ hq)))))) (.tail _ (.tail _ (.tail _ (.head _)))) (.tail _ (.tail _ (.head _))) (.tail _ (.head _)) (.head _)
  exact ho.mono HLt.out
end Go.Proofs.YtglealihdkecpaaGreat

/- Two houses that hold the same are found equal; what HouseRight asks of the pipes lies in their numbers. -/
namespace Go.Proofs.YtglealihdkecpaaGreat
open Go.RowKit

theorem Pi.right_num {x y : Pi} (h : x.num = y.num) : x.right = y.right ∧ x.e = y.e := by
  unfold Pi.num at h
  injection h with e1 e2 e3 e4 e5
  exact ⟨by unfold Pi.right; rw [e1, e2, e3, e4, e5], e1⟩
theorem pipesOk_num {ep : Int} {q p : List Pi} (h : q.map Pi.num = p.map Pi.num) : pipesOk ep q = pipesOk ep p := by
  have hl : q.length = p.length := by have := congrArg List.length h; simpa using this
  have ha : q.all (fun p => p.right && decide (p.e ≤ ep)) = p.all (fun p => p.right && decide (p.e ≤ ep)) := by
    induction q generalizing p with
    | nil =>
      cases p with
      | nil => rfl
      | cons b t => simp at h
    | cons a t ih =>
      cases p with
      | nil => simp at h
      | cons b s =>
        rw [List.map_cons, List.map_cons] at h
        injection h with h1 h2
        obtain ⟨r1, r2⟩ := Pi.right_num h1
        rw [List.all_cons, List.all_cons, ih h2 (by have := congrArg List.length h2; simpa using this), r1, r2]
  unfold pipesOk
  rw [ha, hl]
theorem hoRight_with {h : Ho} {q : List Pi} (hq : q.map Pi.num = h.pipes.map Pi.num) : hoRight (h.with q) = hoRight h := by
  have hl : q.length = h.pipes.length := by have := congrArg List.length hq; simpa using this
  unfold hoRight Ho.with
  dsimp only
  rw [pipesOk_num hq, hl]
theorem small_with {h : Ho} {q : List Pi} {n : Nat} (hq : q.map Pi.num = h.pipes.map Pi.num) (hs : h.small n) : (h.with q).small n := by
  have hl : q.length = h.pipes.length := by have := congrArg List.length hq; simpa using this
  refine ⟨hs.doors, by show q.length ≤ n; rw [hl]; exact hs.pipes, fun x hx => ?_, hs.rib, hs.gus, hs.went, hs.froz⟩
  obtain ⟨i, hi, rfl⟩ := List.getElem_of_mem (show x ∈ q from hx)
  have hi' : i < h.pipes.length := by rw [← hl]; exact hi
  have : (q[i]).num = (h.pipes[i]).num := by
    have := congrArg (fun z => z[i]?) hq
    try dsimp only at this
    rw [List.getElem?_map, List.getElem?_map, List.getElem?_eq_getElem hi, List.getElem?_eq_getElem hi'] at this
    simpa using this
  unfold Pi.num at this
  injection this with _ _ _ _ e5
  rw [e5]
  exact hs.out _ (List.getElem_mem hi')
set_option maxRecDepth 100000 in
set_option maxHeartbeats 8000000 in
theorem eqHouse_same (h : Ho) (q q' : List Pi) (hq : q.map Pi.num = q'.map Pi.num) (vd vp vr vg vw vf ud up ur ug uw uf : Value) (w : World) (A : HoAt w vd vp vr vg vw vf (h.with q)) (A' : HoAt w ud up ur ug uw uf (h.with q')) (hs : (h.with q).small 1048576) :
    Calls Tryz.prog 13 #[hoV (h.with q) vd vp vr vg vw vf, hoV (h.with q') ud up ur ug uw uf] w fun e w' => e = .returned (.bool true) ∧ Below w.heap.size w w' := by
  have H3 := Lib.hid (fun (W : World) (hb : Below w.heap.size w W) => Iv.eqS_same h.doors vd ud W (A.doors.kept hb) (A'.doors.kept hb) hs.doors)
  have H4 := Lib.hid (fun (W : World) (hb : Below w.heap.size w W) => eqPipeS_same q q' hq vp up W (A.pipes.kept hb) (A'.pipes.kept hb) hs.pipes)
  have H5 := Lib.hid (fun (W : World) (hb : Below w.heap.size w W) => Hd.eqS_same h.rib vr ur W (SlAt.kept A.rib hb) (SlAt.kept A'.rib hb) hs.rib)
  have H6 := Lib.hid (fun (W : World) (hb : Below w.heap.size w W) => Gu.eqS_same h.gus vg ug W (SlAt.kept A.gus hb) (SlAt.kept A'.gus hb) hs.gus)
  have H7 := Lib.hid (fun (W : World) (hb : Below w.heap.size w W) => Mv.eqS_same h.went vw uw W (SlAt.kept A.went hb) (SlAt.kept A'.went hb) hs.went)
  have H8 := Lib.hid (fun (W : World) (hb : Below w.heap.size w W) => Fz.eqS_same h.froz vf uf W (SlAt.kept A.froz hb) (SlAt.kept A'.froz hb) hs.froz)
  obtain ⟨ad, cd, hvd⟩ : ∃ a c, vd = .slice a h.doors.length c := by obtain ⟨a, c, e, _⟩ := A.doors; exact ⟨a, c, by rw [e, List.length_map]; rfl⟩
  obtain ⟨ap, cp, hvp⟩ : ∃ a c, vp = .slice a q.length c := by obtain ⟨a, c, e, _⟩ := A.pipes.sl; exact ⟨a, c, by rw [e, List.length_map]; rfl⟩
  obtain ⟨ar, cr, hvr⟩ : ∃ a c, vr = .slice a h.rib.length c := by obtain ⟨a, c, e, _⟩ := A.rib; exact ⟨a, c, by rw [e, List.length_map]; rfl⟩
  obtain ⟨ag, cg, hvg⟩ : ∃ a c, vg = .slice a h.gus.length c := by obtain ⟨a, c, e, _⟩ := A.gus; exact ⟨a, c, by rw [e, List.length_map]; rfl⟩
  obtain ⟨aw, cw, hvw⟩ : ∃ a c, vw = .slice a h.went.length c := by obtain ⟨a, c, e, _⟩ := A.went; exact ⟨a, c, by rw [e, List.length_map]; rfl⟩
  obtain ⟨af, cf, hvf⟩ : ∃ a c, vf = .slice a h.froz.length c := by obtain ⟨a, c, e, _⟩ := A.froz; exact ⟨a, c, by rw [e, List.length_map]; rfl⟩
  obtain ⟨bd, dd, hud⟩ : ∃ a c, ud = .slice a h.doors.length c := by obtain ⟨a, c, e, _⟩ := A'.doors; exact ⟨a, c, by rw [e, List.length_map]; rfl⟩
  obtain ⟨bp, dp, hup⟩ : ∃ a c, up = .slice a q'.length c := by obtain ⟨a, c, e, _⟩ := A'.pipes.sl; exact ⟨a, c, by rw [e, List.length_map]; rfl⟩
  obtain ⟨br, dr, hur⟩ : ∃ a c, ur = .slice a h.rib.length c := by obtain ⟨a, c, e, _⟩ := A'.rib; exact ⟨a, c, by rw [e, List.length_map]; rfl⟩
  obtain ⟨bg, dg, hug⟩ : ∃ a c, ug = .slice a h.gus.length c := by obtain ⟨a, c, e, _⟩ := A'.gus; exact ⟨a, c, by rw [e, List.length_map]; rfl⟩
  obtain ⟨bw, dw, huw⟩ : ∃ a c, uw = .slice a h.went.length c := by obtain ⟨a, c, e, _⟩ := A'.went; exact ⟨a, c, by rw [e, List.length_map]; rfl⟩
  obtain ⟨bf, df, huf⟩ : ∃ a c, uf = .slice a h.froz.length c := by obtain ⟨a, c, e, _⟩ := A'.froz; exact ⟨a, c, by rw [e, List.length_map]; rfl⟩
  subst hvd hvp hvr hvg hvw hvf hud hup hur hug huw huf
  clear A A' hs
  unfold Ho.with hoV
  dsimp only
  generalize h.doors.length = n3 at *
  generalize q.length = n4 at *
  generalize q'.length = n4' at *
  generalize h.rib.length = n5 at *
  generalize h.gus.length = n6 at *
  generalize h.went.length = n7 at *
  generalize h.froz.length = n8 at *
  have A : MemAt w [(w.heap.size + 1, 38, #[.int .i64 h.id, .int .i64 h.now, .int .i64 h.ep, .slice bd n3 dd, .slice bp n4' dp, .slice br n5 dr, .slice bg n6 dg, .slice bw n7 dw, .slice bf n8 df]), (w.heap.size, 38, #[.int .i64 h.id, .int .i64 h.now, .int .i64 h.ep, .slice ad n3 cd, .slice ap n4 cp, .slice ar n5 cr, .slice ag n6 cg, .slice aw n7 cw, .slice af n8 cf])] [] ((w.alloc (.cells #[.int .i64 h.id, .int .i64 h.now, .int .i64 h.ep, .slice ad n3 cd, .slice ap n4 cp, .slice ar n5 cr, .slice ag n6 cg, .slice aw n7 cw, .slice af n8 cf] 38)).alloc (.cells #[.int .i64 h.id, .int .i64 h.now, .int .i64 h.ep, .slice bd n3 dd, .slice bp n4' dp, .slice br n5 dr, .slice bg n6 dg, .slice bw n7 dw, .slice bf n8 df] 38)) := by
    have := ((MemAt.start w).new 38 #[.int .i64 h.id, .int .i64 h.now, .int .i64 h.ep, .slice ad n3 cd, .slice ap n4 cp, .slice ar n5 cr, .slice ag n6 cg, .slice aw n7 cw, .slice af n8 cf]).new 38 #[.int .i64 h.id, .int .i64 h.now, .int .i64 h.ep, .slice bd n3 dd, .slice bp n4' dp, .slice br n5 dr, .slice bg n6 dg, .slice bw n7 dw, .slice bf n8 df]
    rw [World.size_alloc] at this
    exact this
  go_enter Tryz.func13, Tryz.ntmps13
  go_upto_region 1 with fail
  generalize (w.alloc _).alloc _ = W2 at *
  have c0 := A.b0.cell
  have c1 := A.b1.cell
  have HA := Lib.hid A
  clear A
  go_wp2_with (first | (go_at_call 18; refine (H3.out _ HA.out.bel).mono ?_; rintro e w3 ⟨rfl, hb⟩; replace HA := Lib.hid (HA.out.kept hb); clear hb c0 c1; have c0 := HA.out.b0.cell; have c1 := HA.out.b1.cell) | (go_at_call 65; refine (H4.out _ HA.out.bel).mono ?_; rintro e w4 ⟨rfl, hb⟩; replace HA := Lib.hid (HA.out.kept hb); clear hb c0 c1; have c0 := HA.out.b0.cell; have c1 := HA.out.b1.cell) | (go_at_call 66; refine (H5.out _ HA.out.bel).mono ?_; rintro e w5 ⟨rfl, hb⟩; replace HA := Lib.hid (HA.out.kept hb); clear hb c0 c1; have c0 := HA.out.b0.cell; have c1 := HA.out.b1.cell) | (go_at_call 67; refine (H6.out _ HA.out.bel).mono ?_; rintro e w6 ⟨rfl, hb⟩; replace HA := Lib.hid (HA.out.kept hb); clear hb c0 c1; have c0 := HA.out.b0.cell; have c1 := HA.out.b1.cell) | (go_at_call 68; refine (H7.out _ HA.out.bel).mono ?_; rintro e w7 ⟨rfl, hb⟩; replace HA := Lib.hid (HA.out.kept hb); clear hb c0 c1; have c0 := HA.out.b0.cell; have c1 := HA.out.b1.cell) | (go_at_call 69; refine (H8.out _ HA.out.bel).mono ?_; rintro e w8 ⟨rfl, hb⟩; replace HA := Lib.hid (HA.out.kept hb); clear hb c0 c1; have c0 := HA.out.b0.cell; have c1 := HA.out.b1.cell))
  go_ret
  exact ⟨rfl, HA.out.bel⟩
end Go.Proofs.YtglealihdkecpaaGreat

/- A law over a house: its own one opened and turned, what the calls ask. -/
namespace Go.Proofs.YtglealihdkecpaaGreat
open Go.RowKit

theorem hoV_with (h : Ho) (q : List Pi) (ud up ur ug uw uf : Value) : hoV (h.with q) ud up ur ug uw uf = .agg #[.int .i64 h.id, .int .i64 h.now, .int .i64 h.ep, ud, up, ur, ug, uw, uf] := rfl
theorem hoV_own (h : Ho) (ud up ur ug uw uf : Value) : hoV h ud up ur ug uw uf = .agg #[.int .i64 h.id, .int .i64 h.now, .int .i64 h.ep, ud, up, ur, ug, uw, uf] := rfl
theorem HoOwn.forms {W : World} {B : Nat} {ud up ur ug uw uf : Value} {h : Ho} {q : List Pi} (x : HoOwn W B ud up ur ug uw uf (h.with q)) :
    ∃ ad cd ap cp ar cr ag cg aw cw af cf, ud = .slice ad h.doors.length cd ∧ up = .slice ap q.length cp ∧ ur = .slice ar h.rib.length cr ∧ ug = .slice ag h.gus.length cg ∧ uw = .slice aw h.went.length cw ∧ uf = .slice af h.froz.length cf := by
  obtain ⟨ad, cd, e3⟩ := rown_form x.doors
  obtain ⟨ap, cp, e4⟩ := rown_form x.pipes.row
  obtain ⟨ar, cr, e5⟩ := rown_form x.rib
  obtain ⟨ag, cg, e6⟩ := rown_form x.gus
  obtain ⟨aw, cw, e7⟩ := rown_form x.went
  obtain ⟨af, cf, e8⟩ := rown_form x.froz
  exact ⟨ad, cd, ap, cp, ar, cr, ag, cg, aw, cw, af, cf, e3, e4, e5, e6, e7, e8⟩
theorem HoAt.forms {W : World} {ud up ur ug uw uf : Value} {h : Ho} (x : HoAt W ud up ur ug uw uf h) :
    ∃ ad cd ap cp ar cr ag cg aw cw af cf, ud = .slice ad h.doors.length cd ∧ up = .slice ap h.pipes.length cp ∧ ur = .slice ar h.rib.length cr ∧ ug = .slice ag h.gus.length cg ∧ uw = .slice aw h.went.length cw ∧ uf = .slice af h.froz.length cf := by
  obtain ⟨ad, cd, e3, _⟩ := x.doors
  obtain ⟨ap, cp, e4, _⟩ := x.pipes.sl
  obtain ⟨ar, cr, e5, _⟩ := x.rib
  obtain ⟨ag, cg, e6, _⟩ := x.gus
  obtain ⟨aw, cw, e7, _⟩ := x.went
  obtain ⟨af, cf, e8, _⟩ := x.froz
  rw [List.length_map] at e3 e4 e5 e6 e7 e8
  exact ⟨ad, cd, ap, cp, ar, cr, ag, cg, aw, cw, af, cf, e3, e4, e5, e6, e7, e8⟩
end Go.Proofs.YtglealihdkecpaaGreat
