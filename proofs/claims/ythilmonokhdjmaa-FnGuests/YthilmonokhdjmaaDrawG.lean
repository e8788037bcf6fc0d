/- Draws of chapter 8: a guest. -/
import Derived.Test.YthilmonokhdjmaaDraw5
import Derived.Test.YthilmonokhdjmaaGu
import Derived.Deep.CutRange
namespace Go.Proofs.Ythilmonokhdjmaa
open Go.RowKit

/- the answer's block and the guest at work -/
structure GrAt (w W : World) (g : Nat) (a : Option Addr) (len cap B : Nat) (k v m i o q : Int) (t : Bool) : Prop where
  from_ : Src w g a len cap
  drawn : Drawn g a len cap w W
  far : w.heap.size < B
  out : Blk W w.heap.size 58 #[.int .i64 0, .int .i64 0, .int .i64 0, .int .i64 0, .int .i64 0, .int .i64 0, .bool false]
  rt : Blk W B 58 #[.int .i64 k, .int .i64 v, .int .i64 m, .int .i64 i, .int .i64 o, .int .i64 q, .bool t]
section
variable {w W W' : World} {g : Nat} {a : Option Addr} {len cap B : Nat} {k v m i o q : Int} {t : Bool}
theorem GrAt.step (h : GrAt w W g a len cap B k v m i o q t) (hd : Drawn g a len cap W W') : GrAt w W' g a len cap B k v m i o q t := by
  have hl := h.from_.src.lt
  have hf := h.far
  exact ⟨h.from_, h.drawn.trans hd, hf, h.out.grown hd.2 (by intro e; injection e; omega), h.rt.grown hd.2 (by intro e; injection e; omega)⟩
theorem GrAt.alloc (h : GrAt w W g a len cap B k v m i o q t) (ob : Obj) : GrAt w (W.alloc ob) g a len cap B k v m i o q t :=
  ⟨h.from_, h.drawn.alloc ob, h.far, h.out.alloc ob, h.rt.alloc ob⟩
theorem GrAt.set0 (h : GrAt w W g a len cap B k v m i o q t) (z : Int) : GrAt w (W.setCell ⟨B, 0, none⟩ (.int .i64 z)) g a len cap B z v m i o q t := by
  have hf := h.far
  exact ⟨h.from_, h.drawn.set h.from_ (by omega) _ _, hf, h.out.far (by omega), h.rt.set 0 _⟩
theorem GrAt.set1 (h : GrAt w W g a len cap B k v m i o q t) (z : Int) : GrAt w (W.setCell ⟨B, 1, none⟩ (.int .i64 z)) g a len cap B k z m i o q t := by
  have hf := h.far
  exact ⟨h.from_, h.drawn.set h.from_ (by omega) _ _, hf, h.out.far (by omega), h.rt.set 1 _⟩
theorem GrAt.set2 (h : GrAt w W g a len cap B k v m i o q t) (z : Int) : GrAt w (W.setCell ⟨B, 2, none⟩ (.int .i64 z)) g a len cap B k v z i o q t := by
  have hf := h.far
  exact ⟨h.from_, h.drawn.set h.from_ (by omega) _ _, hf, h.out.far (by omega), h.rt.set 2 _⟩
theorem GrAt.set3 (h : GrAt w W g a len cap B k v m i o q t) (z : Int) : GrAt w (W.setCell ⟨B, 3, none⟩ (.int .i64 z)) g a len cap B k v m z o q t := by
  have hf := h.far
  exact ⟨h.from_, h.drawn.set h.from_ (by omega) _ _, hf, h.out.far (by omega), h.rt.set 3 _⟩
theorem GrAt.set4 (h : GrAt w W g a len cap B k v m i o q t) (z : Int) : GrAt w (W.setCell ⟨B, 4, none⟩ (.int .i64 z)) g a len cap B k v m i z q t := by
  have hf := h.far
  exact ⟨h.from_, h.drawn.set h.from_ (by omega) _ _, hf, h.out.far (by omega), h.rt.set 4 _⟩
theorem GrAt.set5 (h : GrAt w W g a len cap B k v m i o q t) (z : Int) : GrAt w (W.setCell ⟨B, 5, none⟩ (.int .i64 z)) g a len cap B k v m i o z t := by
  have hf := h.far
  exact ⟨h.from_, h.drawn.set h.from_ (by omega) _ _, hf, h.out.far (by omega), h.rt.set 5 _⟩
theorem GrAt.set6 (h : GrAt w W g a len cap B k v m i o q t) (z : Bool) : GrAt w (W.setCell ⟨B, 6, none⟩ (.bool z)) g a len cap B k v m i o q z := by
  have hf := h.far
  exact ⟨h.from_, h.drawn.set h.from_ (by omega) _ _, hf, h.out.far (by omega), h.rt.set 6 _⟩
theorem GrAt.put (h : GrAt w W g a len cap B k v m i o q t) (k' v' m' i' o' q' : Int) (t' : Bool) :
    GrAt w (((((((W.setCell ⟨B, 0, none⟩ (.int .i64 k')).setCell ⟨B, 1, none⟩ (.int .i64 v')).setCell ⟨B, 2, none⟩ (.int .i64 m')).setCell ⟨B, 3, none⟩ (.int .i64 i')).setCell ⟨B, 4, none⟩ (.int .i64 o')).setCell ⟨B, 5, none⟩ (.int .i64 q')).setCell ⟨B, 6, none⟩ (.bool t')) g a len cap B k' v' m' i' o' q' t' :=
  ((((((h.set0 k').set1 v').set2 m').set3 i').set4 o').set5 q').set6 t'
end
def GuestPost (g : Nat) (a : Option Addr) (len cap : Nat) (w : World) (e : Ending) (w' : World) : Prop := ∃ r : Gu, e = .returned r.val ∧ Drawn g a len cap w w'
theorem GrAt.start {w w0 : World} {g : Nat} {a : Option Addr} {len cap : Nat} {k v m i o q : Int} {t : Bool} (hs : Src w g a len cap) (hd : Drawn g a len cap (w.alloc (.cells #[.int .i64 0, .int .i64 0, .int .i64 0, .int .i64 0, .int .i64 0, .int .i64 0, .bool false] 58)) w0) :
    GrAt w (w0.alloc (.cells #[.int .i64 k, .int .i64 v, .int .i64 m, .int .i64 i, .int .i64 o, .int .i64 q, .bool t] 58)) g a len cap w0.heap.size k v m i o q t := by
  have hl := hs.src.lt
  have hsz := hd.2.size
  simp at hsz
  exact ⟨hs, hd.from.alloc _, by omega, ((Blk.new w _ _).grown hd.2 (by intro e; injection e; omega)).alloc _, Blk.new _ _ _⟩
theorem three_cell (x y z : Int) (w : World) (j : Nat) (h : j < 3) : (w.alloc (.cells #[.int .i64 x, .int .i64 y, .int .i64 z] 2)).cell? ⟨w.heap.size, j, none⟩ = some (.int .i64 ([x, y, z].getD j 0)) := by
  rcases (by omega : j = 0 ∨ j = 1 ∨ j = 2) with h | h | h <;> subst h <;> simp
set_option maxRecDepth 100000 in
set_option maxHeartbeats 4000000 in
theorem draw_guest {g len cap : Nat} {a : Option Addr} {w : World} (h : Src w g a len cap) :
    Calls Try.prog 106 #[.pointer (some ⟨g, 0, none⟩)] w (GuestPost g a len cap w) := by
  have H := Lib.hid h; clear h
  have hgl := H.out.src.lt
  go_enter Try.func106, Try.ntmps106
  go_wp2_with fail
  refine (draw_n 2 (by omega) (by omega) (H.out.alloc _)).mono ?_
  rintro e w1 ⟨x1, rfl, ⟨hx10, hx11⟩, hd⟩
  have HD := Lib.hid hd; clear hd
  go_wp2_with fail
  refine (draw_n 3 (by omega) (by omega) HD.out.1).mono ?_
  rintro e w2 ⟨x2, rfl, ⟨hx20, hx21⟩, hd⟩
  replace HD := Lib.hid (HD.out.trans hd); clear hd
  go_wp2_with fail
  refine (draw_n 3 (by omega) (by omega) HD.out.1).mono ?_
  rintro e w3 ⟨x3, rfl, ⟨hx30, hx31⟩, hd⟩
  replace HD := Lib.hid (HD.out.trans hd); clear hd
  go_wp2_with fail
  refine (draw_n 3 (by omega) (by omega) HD.out.1).mono ?_
  rintro e w4 ⟨x4, rfl, ⟨hx40, hx41⟩, hd⟩
  replace HD := Lib.hid (HD.out.trans hd); clear hd
  go_wp2_with fail
  refine (draw_n 4 (by omega) (by omega) HD.out.1).mono ?_
  rintro e w5 ⟨x5, rfl, ⟨hx50, hx51⟩, hd⟩
  replace HD := Lib.hid (HD.out.trans hd); clear hd
  go_wp2_with fail
  refine (draw_n 9 (by omega) (by omega) HD.out.1).mono ?_
  rintro e w6 ⟨x6, rfl, ⟨hx60, hx61⟩, hd⟩
  replace HD := Lib.hid (HD.out.trans hd); clear hd
  go_wp2_with fail
  refine (draw_one 8 (by omega) (by omega) HD.out.1).mono ?_
  rintro e w7 ⟨x7, rfl, hd⟩
  replace HD := Lib.hid (HD.out.trans hd); clear hd
  go_upto_region 2 with fail
  obtain ⟨W, hW⟩ : ∃ W, W = w7.alloc (.cells #[.int .i64 (5 + x1), .int .i64 (161 + x2), .int .i64 (11 + x3), .int .i64 (1 + x4), .int .i64 x5, .int .i64 x6, .bool x7] 58) := ⟨_, rfl⟩
  obtain ⟨B, hB⟩ : ∃ B, B = w7.heap.size := ⟨_, rfl⟩
  rw [← hW, ← hB]
  have S : GrAt w W g a len cap B (5 + x1) (161 + x2) (11 + x3) (1 + x4) x5 x6 x7 := by subst hW hB; exact GrAt.start H.out HD.out
  clear hW hB HD
  go_wp2_with fail
  refine (draw_one 15 (by omega) (by omega) S.drawn.1).mono ?_
  rintro e w10 ⟨z, rfl, hd⟩
  replace S := S.step hd
  clear hd
  cases z
  · obtain ⟨r, S⟩ : ∃ r : Gu, GrAt w _ g a len cap B r.vni r.mac r.ip r.door r.seq r.seen r.st := ⟨⟨_, _, _, _, _, _, _⟩, S⟩
    have cR := S.rt.cell
    have cO := S.out.cell
    have fO := S.out.frozen
    have HF := Lib.hid S.from_
    have HDD := Lib.hid S.drawn
    clear S
    go_wp2_with fail
    refine bodyPost_ret (v := r.val) (by simp [results, Try.results106, go_sem, Gu.val, cO]) rfl (show GuestPost g a len cap w _ _ from ⟨r, rfl, ?_⟩)
    exact ((((((HDD.out.set HF.out (Nat.le_refl _) 0 _).set HF.out (Nat.le_refl _) 1 _).set HF.out (Nat.le_refl _) 2 _).set HF.out (Nat.le_refl _) 3 _).set HF.out (Nat.le_refl _) 4 _).set HF.out (Nat.le_refl _) 5 _).set HF.out (Nat.le_refl _) 6 _
  · go_wp2_with fail
    refine (draw_n 4 (by omega) (by omega) S.drawn.1).mono ?_
    rintro e w11 ⟨sw, rfl, ⟨hs0, hs1⟩, hd⟩
    replace S := S.step hd
    clear hd
    have hsw : sw = 0 ∨ sw = 1 ∨ sw = 2 ∨ sw = 3 := by omega
    clear hs0 hs1
    rcases hsw with rfl | rfl | rfl | rfl
    · go_wp2_with fail
      refine (draw_vni S.drawn.1).mono ?_
      rintro e w12 ⟨y, rfl, _, hd⟩
      replace S := S.step hd
      clear hd
      have cR := S.rt.cell
      have fR := S.rt.frozen
      go_upto_region 11 with fail
      obtain ⟨W9, hW9⟩ : ∃ W, W = w12.setCell ⟨B, 0, none⟩ (.int .i64 (y)) := ⟨_, rfl⟩
      rw [← hW9]
      replace S := S.set0 (y)
      rw [← hW9] at S
      clear hW9 cR fR
      obtain ⟨r, S⟩ : ∃ r : Gu, GrAt w _ g a len cap B r.vni r.mac r.ip r.door r.seq r.seen r.st := ⟨⟨_, _, _, _, _, _, _⟩, S⟩
      have cR := S.rt.cell
      have cO := S.out.cell
      have fO := S.out.frozen
      have HF := Lib.hid S.from_
      have HDD := Lib.hid S.drawn
      clear S
      go_wp2_with fail
      refine bodyPost_ret (v := r.val) (by simp [results, Try.results106, go_sem, Gu.val, cO]) rfl (show GuestPost g a len cap w _ _ from ⟨r, rfl, ?_⟩)
      exact ((((((HDD.out.set HF.out (Nat.le_refl _) 0 _).set HF.out (Nat.le_refl _) 1 _).set HF.out (Nat.le_refl _) 2 _).set HF.out (Nat.le_refl _) 3 _).set HF.out (Nat.le_refl _) 4 _).set HF.out (Nat.le_refl _) 5 _).set HF.out (Nat.le_refl _) 6 _
    · go_wp2_with fail
      refine (draw_mac S.drawn.1).mono ?_
      rintro e w12 ⟨y, rfl, _, hd⟩
      replace S := S.step hd
      clear hd
      have cR := S.rt.cell
      have fR := S.rt.frozen
      go_upto_region 11 with fail
      obtain ⟨W9, hW9⟩ : ∃ W, W = w12.setCell ⟨B, 1, none⟩ (.int .i64 (y)) := ⟨_, rfl⟩
      rw [← hW9]
      replace S := S.set1 (y)
      rw [← hW9] at S
      clear hW9 cR fR
      obtain ⟨r, S⟩ : ∃ r : Gu, GrAt w _ g a len cap B r.vni r.mac r.ip r.door r.seq r.seen r.st := ⟨⟨_, _, _, _, _, _, _⟩, S⟩
      have cR := S.rt.cell
      have cO := S.out.cell
      have fO := S.out.frozen
      have HF := Lib.hid S.from_
      have HDD := Lib.hid S.drawn
      clear S
      go_wp2_with fail
      refine bodyPost_ret (v := r.val) (by simp [results, Try.results106, go_sem, Gu.val, cO]) rfl (show GuestPost g a len cap w _ _ from ⟨r, rfl, ?_⟩)
      exact ((((((HDD.out.set HF.out (Nat.le_refl _) 0 _).set HF.out (Nat.le_refl _) 1 _).set HF.out (Nat.le_refl _) 2 _).set HF.out (Nat.le_refl _) 3 _).set HF.out (Nat.le_refl _) 4 _).set HF.out (Nat.le_refl _) 5 _).set HF.out (Nat.le_refl _) 6 _
    · have hgl2 := S.drawn.1.src.lt
      go_wp2_with fail
      refine (draw_n 3 (by omega) (by omega) (S.alloc _).drawn.1).mono ?_
      rintro e w12 ⟨y, rfl, ⟨hy0, hy1⟩, hd⟩
      have hc := hd.2.cell (three_cell 0 4 5 w11 y.toNat (by omega)) (by simp; omega)
      replace S := (S.alloc _).step hd
      clear hd
      obtain ⟨yy, hyy⟩ : ∃ yy : Int, yy = [0, 4, 5].getD y.toNat 0 := ⟨_, rfl⟩
      rw [← hyy] at hc
      clear hyy
      have cR := S.rt.cell
      have fR := S.rt.frozen
      go_upto_region 11 with fail
      obtain ⟨W9, hW9⟩ : ∃ W, W = w12.setCell ⟨B, 3, none⟩ (.int .i64 (yy)) := ⟨_, rfl⟩
      rw [← hW9]
      replace S := S.set3 (yy)
      rw [← hW9] at S
      clear hW9 cR fR
      obtain ⟨r, S⟩ : ∃ r : Gu, GrAt w _ g a len cap B r.vni r.mac r.ip r.door r.seq r.seen r.st := ⟨⟨_, _, _, _, _, _, _⟩, S⟩
      have cR := S.rt.cell
      have cO := S.out.cell
      have fO := S.out.frozen
      have HF := Lib.hid S.from_
      have HDD := Lib.hid S.drawn
      clear S
      go_wp2_with fail
      refine bodyPost_ret (v := r.val) (by simp [results, Try.results106, go_sem, Gu.val, cO]) rfl (show GuestPost g a len cap w _ _ from ⟨r, rfl, ?_⟩)
      exact ((((((HDD.out.set HF.out (Nat.le_refl _) 0 _).set HF.out (Nat.le_refl _) 1 _).set HF.out (Nat.le_refl _) 2 _).set HF.out (Nat.le_refl _) 3 _).set HF.out (Nat.le_refl _) 4 _).set HF.out (Nat.le_refl _) 5 _).set HF.out (Nat.le_refl _) 6 _
    · have hgl2 := S.drawn.1.src.lt
      go_wp2_with fail
      refine (draw_n 3 (by omega) (by omega) (S.alloc _).drawn.1).mono ?_
      rintro e w12 ⟨y, rfl, ⟨hy0, hy1⟩, hd⟩
      have hc := hd.2.cell (three_cell (-1) 1000000 1000001 w11 y.toNat (by omega)) (by simp; omega)
      replace S := (S.alloc _).step hd
      clear hd
      obtain ⟨yy, hyy⟩ : ∃ yy : Int, yy = [-1, 1000000, 1000001].getD y.toNat 0 := ⟨_, rfl⟩
      rw [← hyy] at hc
      clear hyy
      have cR := S.rt.cell
      have fR := S.rt.frozen
      go_upto_region 11 with fail
      obtain ⟨W9, hW9⟩ : ∃ W, W = w12.setCell ⟨B, 5, none⟩ (.int .i64 (yy)) := ⟨_, rfl⟩
      rw [← hW9]
      replace S := S.set5 (yy)
      rw [← hW9] at S
      clear hW9 cR fR
      obtain ⟨r, S⟩ : ∃ r : Gu, GrAt w _ g a len cap B r.vni r.mac r.ip r.door r.seq r.seen r.st := ⟨⟨_, _, _, _, _, _, _⟩, S⟩
      have cR := S.rt.cell
      have cO := S.out.cell
      have fO := S.out.frozen
      have HF := Lib.hid S.from_
      have HDD := Lib.hid S.drawn
      clear S
      go_wp2_with fail
      refine bodyPost_ret (v := r.val) (by simp [results, Try.results106, go_sem, Gu.val, cO]) rfl (show GuestPost g a len cap w _ _ from ⟨r, rfl, ?_⟩)
      exact ((((((HDD.out.set HF.out (Nat.le_refl _) 0 _).set HF.out (Nat.le_refl _) 1 _).set HF.out (Nat.le_refl _) 2 _).set HF.out (Nat.le_refl _) 3 _).set HF.out (Nat.le_refl _) 4 _).set HF.out (Nat.le_refl _) 5 _).set HF.out (Nat.le_refl _) 6 _
end Go.Proofs.Ythilmonokhdjmaa
