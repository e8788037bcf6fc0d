/- RouteRead, of the model. -/
import Derived.Test.YthhodnkcaefnnaaDoorRdS
import Derived.Test.YthhodnkcaefnnaaDoorBlk
namespace Go.Proofs.YthhodnkcaefnnaaDoor
open Go.RowKit

def rtOutV (r : Rt) (c : Int) : Value := .agg #[.int .i64 r.kind, .int .i64 r.vni, .int .i64 r.mac, .int .i64 r.ip, .int .i64 r.org, .int .i64 r.seq, .bool r.st, .int .i64 c]
def rt0 : Rt := ⟨0, 0, 0, 0, 0, 0, false⟩
def rrV (s : ByteArray) : Value := if 8000 < s.size then rtOutV rt0 2 else if rrOk s = true then rtOutV (rtOf (runS s 7).l) 0 else rtOutV rt0 3
/- the reader, the answer's block, the route's block, at work -/
structure RrAt (w W : World) (B : Nat) (s : ByteArray) (x : RdS) (k v m i o q : Int) (t : Bool) : Prop where
  rd : RdAt W (w.heap.size + 1) s x.at_ x.bad
  out : Blk W w.heap.size 29 #[.int .i64 0, .int .i64 0, .int .i64 0, .int .i64 0, .int .i64 0, .int .i64 0, .bool false, .int .i64 0]
  rt : Blk W B 24 #[.int .i64 k, .int .i64 v, .int .i64 m, .int .i64 i, .int .i64 o, .int .i64 q, .bool t]
  hB : w.heap.size + 1 < B
  low : Below w.heap.size w W
section
variable {w W W' : World} {B : Nat} {s : ByteArray} {x x' : RdS} {k v m i o q : Int} {t : Bool}
theorem RrAt.num (h : RrAt w W B s x k v m i o q t) (hr : RdAt W' (w.heap.size + 1) s x'.at_ x'.bad) (hg : W.grownBy W' (some (w.heap.size + 1))) : RrAt w W' B s x' k v m i o q t := by
  have := h.hB
  exact ⟨hr, h.out.grown hg (by simp), h.rt.grown hg (by intro e; injection e; omega), h.hB, h.low.grown hg h.low.size (fun j hj => by injection hj; omega)⟩
theorem RdAt.far {g b' j : Nat} {z : Value} {y : Int} {c : Bool} (h : RdAt W g s y c) (hne : g ≠ b') : RdAt (W.setCell ⟨b', j, none⟩ z) g s y c := (Below.heap_setCell W _ _ g hne).trans h
theorem RrAt.set1 (h : RrAt w W B s x k v m i o q t) (z : Int) : RrAt w (W.setCell ⟨B, 1, none⟩ (.int .i64 z)) B s x k z m i o q t := by
  have := h.hB
  exact ⟨h.rd.far (by omega), h.out.far (by omega), h.rt.set 1 _, h.hB, h.low.setCell (p := ⟨B, 1, none⟩) (by show w.heap.size ≤ B; omega) _⟩
theorem RrAt.set2 (h : RrAt w W B s x k v m i o q t) (z : Int) : RrAt w (W.setCell ⟨B, 2, none⟩ (.int .i64 z)) B s x k v z i o q t := by
  have := h.hB
  exact ⟨h.rd.far (by omega), h.out.far (by omega), h.rt.set 2 _, h.hB, h.low.setCell (p := ⟨B, 2, none⟩) (by show w.heap.size ≤ B; omega) _⟩
theorem RrAt.set3 (h : RrAt w W B s x k v m i o q t) (z : Int) : RrAt w (W.setCell ⟨B, 3, none⟩ (.int .i64 z)) B s x k v m z o q t := by
  have := h.hB
  exact ⟨h.rd.far (by omega), h.out.far (by omega), h.rt.set 3 _, h.hB, h.low.setCell (p := ⟨B, 3, none⟩) (by show w.heap.size ≤ B; omega) _⟩
theorem RrAt.set4 (h : RrAt w W B s x k v m i o q t) (z : Int) : RrAt w (W.setCell ⟨B, 4, none⟩ (.int .i64 z)) B s x k v m i z q t := by
  have := h.hB
  exact ⟨h.rd.far (by omega), h.out.far (by omega), h.rt.set 4 _, h.hB, h.low.setCell (p := ⟨B, 4, none⟩) (by show w.heap.size ≤ B; omega) _⟩
theorem RrAt.set5 (h : RrAt w W B s x k v m i o q t) (z : Int) : RrAt w (W.setCell ⟨B, 5, none⟩ (.int .i64 z)) B s x k v m i o z t := by
  have := h.hB
  exact ⟨h.rd.far (by omega), h.out.far (by omega), h.rt.set 5 _, h.hB, h.low.setCell (p := ⟨B, 5, none⟩) (by show w.heap.size ≤ B; omega) _⟩
theorem RrAt.set6 (h : RrAt w W B s x k v m i o q t) (z : Bool) : RrAt w (W.setCell ⟨B, 6, none⟩ (.bool z)) B s x k v m i o q z := by
  have := h.hB
  exact ⟨h.rd.far (by omega), h.out.far (by omega), h.rt.set 6 _, h.hB, h.low.setCell (p := ⟨B, 6, none⟩) (by show w.heap.size ≤ B; omega) _⟩
end
theorem bytes_eq (a b : ByteArray) : (a.toList == b.toList) = decide (a = b) := by
  by_cases h : a = b
  · subst h; simp
  · have : ¬ a.toList = b.toList := fun e => h (ByteArray.ext (Array.ext' (by rw [ByteArray.toList_eq, ByteArray.toList_eq] at e; exact e)))
    simp [h, this]
set_option maxHeartbeats 4000000 in
theorem specRouteRead_any (s : ByteArray) (w : World) (hs : s.size ≤ maxLen) :
    Calls Tryd.prog 14 #[.string s] w fun e w' => e = .returned (rrV s) ∧ Below w.heap.size w w' := by
  unfold maxLen at hs
  by_cases h8 : 8000 < s.size
  · have HR : Hid (rrV s = rtOutV rt0 2) := Lib.hid (by rw [rrV, if_pos h8])
    have hb : decide (8000 < (s.size : Int)) = true := by simp; omega
    go_enter Tryd.func14, Tryd.ntmps14
    go_wp2_with fail
    refine bodyPost_ret (v := rtOutV rt0 2) (by simp [results, Tryd.results14, go_sem, rtOutV, rt0]) rfl ⟨by rw [HR.out], ?_⟩
    go_grown
  have h8' : s.size ≤ 8000 := by omega
  have hb : decide (8000 < (s.size : Int)) = false := by simp; omega
  have HV : Hid (rrV s = if (!(runS s 7).bad && decide ((⟨numAt7 s 0, numAt7 s 1, numAt7 s 2, numAt7 s 3, numAt7 s 4, numAt7 s 5, numAt7 s 6 == 1⟩ : Rt).bytes = s)) = true then rtOutV ⟨numAt7 s 0, numAt7 s 1, numAt7 s 2, numAt7 s 3, numAt7 s 4, numAt7 s 5, numAt7 s 6 == 1⟩ 0 else rtOutV rt0 3) := Lib.hid (by
    rw [rrV, if_neg h8, ← rr_model s h8']; rfl)
  have HN0 := Lib.hid (fun g w h => specNum_run g s 0 w h8' (by omega) h)
  have HN1 := Lib.hid (fun g w h => specNum_run g s 1 w h8' (by omega) h)
  have HN2 := Lib.hid (fun g w h => specNum_run g s 2 w h8' (by omega) h)
  have HN3 := Lib.hid (fun g w h => specNum_run g s 3 w h8' (by omega) h)
  have HN4 := Lib.hid (fun g w h => specNum_run g s 4 w h8' (by omega) h)
  have HN5 := Lib.hid (fun g w h => specNum_run g s 5 w h8' (by omega) h)
  have HN6 := Lib.hid (fun g w h => specNum_run g s 6 w h8' (by omega) h)
  generalize numAt7 s 0 = n0 at *
  generalize numAt7 s 1 = n1 at *
  generalize numAt7 s 2 = n2 at *
  generalize numAt7 s 3 = n3 at *
  generalize numAt7 s 4 = n4 at *
  generalize numAt7 s 5 = n5 at *
  generalize numAt7 s 6 = n6 at *
  have hx0 : runS s 0 = ⟨[], 0, false⟩ := rfl
  have HB := Lib.hid (specRouteBytes_any ⟨n0, n1, n2, n3, n4, n5, n6 == 1⟩)
  generalize hx7 : runS s 7 = x7 at *
  generalize runS s 6 = x6 at *
  generalize runS s 5 = x5 at *
  generalize runS s 4 = x4 at *
  generalize runS s 3 = x3 at *
  generalize runS s 2 = x2 at *
  generalize runS s 1 = x1 at *
  rw [hx0] at HN0
  clear hx0 hx7 h8 hs
  go_enter Tryd.func14, Tryd.ntmps14
  go_wp2_with fail
  refine (HN0.out (w.heap.size + 1) _ (by have h := heap_alloc_new (w.alloc (.cells #[.int .i64 0, .int .i64 0, .int .i64 0, .int .i64 0, .int .i64 0, .int .i64 0, .bool false, .int .i64 0] 29)) (.cells #[.string s, .int .i64 0, .bool false] 64); simpa [RdAt] using h)).mono ?_
  rintro e w1 ⟨rfl, hr1, hg1⟩
  have S : RrAt w (w1.alloc (.cells #[.int .i64 n0, .int .i64 0, .int .i64 0, .int .i64 0, .int .i64 0, .int .i64 0, .bool false] 24)) w1.heap.size s x1 n0 0 0 0 0 0 false := by
    have hz := hg1.size
    simp at hz
    exact ⟨(Below.heap_alloc w1 _ _ (by omega)).trans hr1, (((Blk.new w _ _).alloc _).grown hg1 (by simp)).alloc _, Blk.new _ _ _, by omega, ((((Below.refl _ _).alloc (Nat.le_refl _) _).alloc (by simp) _).grown hg1 (by simp; omega) (fun j hj => by injection hj; omega)).alloc (by omega) _⟩
  clear hr1
  obtain ⟨B, hBB⟩ : ∃ B, B = w1.heap.size := ⟨_, rfl⟩
  rw [← hBB] at S
  have hz1 : w1.heap.size = B := hBB.symm
  clear hBB hg1
  go_wp2_with fail
  refine (HN1.out (w.heap.size + 1) _ S.rd).mono ?_
  rintro e w2 ⟨rfl, hr, hg⟩
  replace S := S.num hr hg
  clear hr hg
  have c1 := S.rt.cell
  have f1 := S.rt.frozen
  replace S := S.set1 n1
  go_wp2_with fail
  refine (HN2.out (w.heap.size + 1) _ S.rd).mono ?_
  rintro e w3 ⟨rfl, hr, hg⟩
  replace S := S.num hr hg
  clear hr hg
  have c2 := S.rt.cell
  have f2 := S.rt.frozen
  replace S := S.set2 n2
  go_wp2_with fail
  refine (HN3.out (w.heap.size + 1) _ S.rd).mono ?_
  rintro e w4 ⟨rfl, hr, hg⟩
  replace S := S.num hr hg
  clear hr hg
  have c3 := S.rt.cell
  have f3 := S.rt.frozen
  replace S := S.set3 n3
  go_wp2_with fail
  refine (HN4.out (w.heap.size + 1) _ S.rd).mono ?_
  rintro e w5 ⟨rfl, hr, hg⟩
  replace S := S.num hr hg
  clear hr hg
  have c4 := S.rt.cell
  have f4 := S.rt.frozen
  replace S := S.set4 n4
  go_wp2_with fail
  refine (HN5.out (w.heap.size + 1) _ S.rd).mono ?_
  rintro e w6 ⟨rfl, hr, hg⟩
  replace S := S.num hr hg
  clear hr hg
  have c5 := S.rt.cell
  have f5 := S.rt.frozen
  replace S := S.set5 n5
  go_wp2_with fail
  refine (HN6.out (w.heap.size + 1) _ S.rd).mono ?_
  rintro e w7 ⟨rfl, hr, hg⟩
  replace S := S.num hr hg
  clear hr hg
  have c6 := S.rt.cell
  have f6 := S.rt.frozen
  have cO := S.out.cell
  have fO := S.out.frozen
  obtain ⟨q0, q1, q2, qf, _⟩ := S.rd.cells
  have hB := S.hB
  have hB1 : ¬ B = w.heap.size := by omega
  have hB2 : ¬ B = w.heap.size + 1 := by omega
  have hB3 : ¬ w.heap.size = B := by omega
  have hB4 : ¬ w.heap.size + 1 = B := by omega
  obtain ⟨l7, k7, b7⟩ := x7
  dsimp only at q1 q2 HV
  replace S := S.set6 (n6 == 1)
  cases b7
  · go_wp2_with fail
    unfold Rt.val rtV at HB
    refine (HB.out _).mono ?_
    rintro e w8 ⟨rfl, hb8⟩
    have S8r := (S.rt.kept hb8).cell
    have S8o := S.out.kept hb8
    have S8c := S8o.cell
    have S8f := S8o.frozen
    have HL : Hid (Below w.heap.size w w8) := Lib.hid (S.low.trans (hb8.mono S.low.size))
    clear hb8 S S8o c1 c2 c3 c4 c5 c6 f1 f2 f3 f4 f5 f6 cO fO q0 q1 q2 qf
    generalize hR : Rt.bytes _ = R at HV ⊢
    clear hR
    cases h3 : R.toList == s.toList
    · have HR : Hid (rrV s = rtOutV rt0 3) := Lib.hid (by rw [HV.out]; rw [bytes_eq] at h3; rw [h3]; rfl)
      go_wp2_with fail
      refine bodyPost_ret (v := rtOutV rt0 3) (by simp [results, Tryd.results14, go_sem, rtOutV, rt0, S8c]) rfl ⟨by rw [HR.out], ?_⟩
      have := HL.out
      go_grown
    · have HR : Hid (rrV s = rtOutV ⟨n0, n1, n2, n3, n4, n5, n6 == 1⟩ 0) := Lib.hid (by rw [HV.out]; rw [bytes_eq] at h3; rw [h3]; rfl)
      go_wp2_with fail
      refine bodyPost_ret (v := rtOutV ⟨n0, n1, n2, n3, n4, n5, n6 == 1⟩ 0) (by simp [results, Tryd.results14, go_sem, rtOutV, S8c]) rfl ⟨by rw [HR.out], ?_⟩
      have := HL.out
      go_grown
  · have HR : Hid (rrV s = rtOutV rt0 3) := Lib.hid (by rw [HV.out]; rfl)
    have HL := Lib.hid S.low
    clear S
    go_wp2_with fail
    refine bodyPost_ret (v := rtOutV rt0 3) (by simp [results, Tryd.results14, go_sem, rtOutV, rt0, cO]) rfl ⟨by rw [HR.out], ?_⟩
    have := HL.out
    go_grown
end Go.Proofs.YthhodnkcaefnnaaDoor
