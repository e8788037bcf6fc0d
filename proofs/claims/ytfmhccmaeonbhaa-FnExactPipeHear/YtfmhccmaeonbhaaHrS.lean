/- PipeHear, of the model (written by tools/genHear.py): the ways that cut nothing. -/
import Derived.Test.YtfmhccmaeonbhaaHrM
namespace Go.Proofs.Ytfmhccmaeonbhaa
open Go.RowKit
set_option linter.unusedVariables false
set_option maxRecDepth 100000 in
set_option maxHeartbeats 2000000 in
theorem hear_past (e p b i : Int) (v : Value) (l : List ByteArray) (xe xc xn xa : Int) (xt : ByteArray) (w : World) (h : StsAt w v l) (hr : ppRight e p b i l = true) (hx : pkRight xe xc xn xa xt = true) (g1 : xe < p) :
    Calls Try.prog 79 #[ppV e p b i v, pkV xe xc xn xa xt] w (PoPost (hearIn e p b i l xe xc xn xa xt) w) := by
  obtain ⟨hb0, hb1, hn, hsum, _, hi0, hi1, hp0, hp1⟩ := ppRight_more hr
  obtain ⟨hx0, hx1, hx2, hx3, hx4⟩ := pkRight_more hx
  clear hr hx
  have HC := Lib.hid (fun (W' : World) (hb : Below w.heap.size w W') => specCopy_any e p b i v l W' (h.kept hb) (by omega))
  obtain ⟨a, cap, rfl⟩ := h.form
  clear h
  have HR : Hid (hearIn e p b i l xe xc xn xa xt = ⟨e, p, b, i, l, [], false, 0⟩) := Lib.hid (by unfold hearIn; rw [if_pos g1])
  unfold ppV pkV at *
  go_enter Try.func79, Try.ntmps79
  go_wp2_with fail
  refine (HC.out _ (bel3 _ _ _ _)).mono ?_
  rintro x w1 ⟨u, rfl, hown, hb1⟩
  have A := (((LawAt.start3 w 31 #[.int .i64 e, .int .i64 p, .int .i64 b, .int .i64 i, .slice a l.length cap] 26 #[.int .i64 xe, .int .i64 xc, .int .i64 xn, .int .i64 xa, .string xt] 33 zeroPo).kept hb1).own (own_mono (B' := w.heap.size) hown (by simp only [World.size_alloc]; omega)))
  have hapu := (hown.lt)
  obtain ⟨ua, uc, rfl⟩ := own_form hown
  clear hown hb1 hapu
  have hbs := A.b0.lt
  unfold ppV
  go_upto_region 2 with fail
  replace A := A.new 33 #[.int .i64 e, .int .i64 p, .int .i64 b, .int .i64 i, .slice ua l.length uc, .slice none 0 0, .bool false, .int .i64 0]
  obtain ⟨q, hq⟩ : ∃ q, q = w1.heap.size := ⟨_, rfl⟩
  obtain ⟨W2, hW2⟩ : ∃ X, X = w1.alloc (.cells #[.int .i64 e, .int .i64 p, .int .i64 b, .int .i64 i, .slice ua l.length uc, .slice none 0 0, .bool false, .int .i64 0] 33) := ⟨_, rfl⟩
  have hq3 : w.heap.size + 1 + 1 < q := by rw [hq]; exact hbs
  rw [← hW2, ← hq]
  rw [← hW2, ← hq] at A
  clear hW2 hq hbs HC
  have hcO := A.b0.cell
  have fO := A.b0.frozen
  have hcZ := A.b1.cell
  have fZ := A.b1.frozen
  have hcX := A.b2.cell
  have hcP := A.b3.cell
  have hzz : w.heap.size ≤ w.heap.size + 1 + 1 := by omega
  have LST := Lib.hid (A.last A.b1 hzz)
  unfold zeroPo at hcZ
  go_wp2_with fail
  refine bodyPost_ret (v := poV e p b i (.slice ua l.length uc) (.slice none 0 0) false 0) (by simp [results, Try.results79, go_sem, poV, *]) rfl ?_
  refine ⟨_, _, by rw [HR.out], ?_, ?_, (apart_symm (.inl rfl)), (LST.out _ _ _ _ _ _ _ _).1⟩
  · rw [HR.out]
    exact (LST.out _ _ _ _ _ _ _ _).2 _ (.head _)
  · rw [HR.out]
    exact World.ownsRow_nil _ _ _ _
set_option maxRecDepth 100000 in
set_option maxHeartbeats 2000000 in
theorem hear_fresh_echo (e p b i : Int) (v : Value) (l : List ByteArray) (xe xc xn xa : Int) (xt : ByteArray) (w : World) (h : StsAt w v l) (hr : ppRight e p b i l = true) (hx : pkRight xe xc xn xa xt = true) (g1 : p < xe) (g2 : ¬ xc = e) :
    Calls Try.prog 79 #[ppV e p b i v, pkV xe xc xn xa xt] w (PoPost (hearIn e p b i l xe xc xn xa xt) w) := by
  obtain ⟨hb0, hb1, hn, hsum, _, hi0, hi1, hp0, hp1⟩ := ppRight_more hr
  obtain ⟨hx0, hx1, hx2, hx3, hx4⟩ := pkRight_more hx
  clear hr hx
  have HC := Lib.hid (fun (W' : World) (hb : Below w.heap.size w W') => specCopy_any e p b i v l W' (h.kept hb) (by omega))
  obtain ⟨a, cap, rfl⟩ := h.form
  clear h
  have HR : Hid (hearIn e p b i l xe xc xn xa xt = ⟨e, xe, 0, 0, [], [], true, 0⟩) := Lib.hid (by unfold hearIn; rw [if_neg (by omega), if_pos g1, if_neg g2])
  unfold ppV pkV at *
  go_enter Try.func79, Try.ntmps79
  go_wp2_with fail
  refine (HC.out _ (bel3 _ _ _ _)).mono ?_
  rintro x w1 ⟨u, rfl, hown, hb1⟩
  have A := (((LawAt.start3 w 31 #[.int .i64 e, .int .i64 p, .int .i64 b, .int .i64 i, .slice a l.length cap] 26 #[.int .i64 xe, .int .i64 xc, .int .i64 xn, .int .i64 xa, .string xt] 33 zeroPo).kept hb1).own (own_mono (B' := w.heap.size) hown (by simp only [World.size_alloc]; omega)))
  have hapu := (hown.lt)
  obtain ⟨ua, uc, rfl⟩ := own_form hown
  clear hown hb1 hapu
  have hbs := A.b0.lt
  unfold ppV
  go_upto_region 2 with fail
  replace A := A.new 33 #[.int .i64 e, .int .i64 p, .int .i64 b, .int .i64 i, .slice ua l.length uc, .slice none 0 0, .bool false, .int .i64 0]
  obtain ⟨q, hq⟩ : ∃ q, q = w1.heap.size := ⟨_, rfl⟩
  obtain ⟨W2, hW2⟩ : ∃ X, X = w1.alloc (.cells #[.int .i64 e, .int .i64 p, .int .i64 b, .int .i64 i, .slice ua l.length uc, .slice none 0 0, .bool false, .int .i64 0] 33) := ⟨_, rfl⟩
  have hq3 : w.heap.size + 1 + 1 < q := by rw [hq]; exact hbs
  rw [← hW2, ← hq]
  rw [← hW2, ← hq] at A
  clear hW2 hq hbs HC
  have hcO := A.b0.cell
  have fO := A.b0.frozen
  have hcZ := A.b1.cell
  have fZ := A.b1.frozen
  have hcX := A.b2.cell
  have hcP := A.b3.cell
  go_upto_region 7 with fail
  have hne : ∀ x ∈ [(w.heap.size + 1 + 1, 33, zeroPo), (w.heap.size + 1, 26, #[.int .i64 xe, .int .i64 xc, .int .i64 xn, .int .i64 xa, .string xt]), (w.heap.size, 31, #[.int .i64 e, .int .i64 p, .int .i64 b, .int .i64 i, .slice a l.length cap])], x.1 ≠ q := by simp; omega
  have hwq : w.heap.size ≤ q := by omega
  replace A := A.set hwq hne (by decide) 6 (.bool true)
  replace A := A.set hwq hne (by decide) 0 (.int .i64 e)
  replace A := A.set hwq hne (by decide) 1 (.int .i64 xe)
  replace A := A.set hwq hne (by decide) 2 (.int .i64 0)
  replace A := A.set hwq hne (by decide) 3 (.int .i64 0)
  replace A := A.set hwq hne (by decide) 4 (.slice none 0 0)
  simp only [List.setIfInBounds_toArray, List.set_cons_zero, List.set_cons_succ] at A
  obtain ⟨W3, hW3⟩ : ∃ X, X = (((((W2.setCell ⟨q, 6, none⟩ (.bool true)).setCell ⟨q, 0, none⟩ (.int .i64 e)).setCell ⟨q, 1, none⟩ (.int .i64 xe)).setCell ⟨q, 2, none⟩ (.int .i64 0)).setCell ⟨q, 3, none⟩ (.int .i64 0)).setCell ⟨q, 4, none⟩ (.slice none 0 0) := ⟨_, rfl⟩
  rw [← hW3]
  rw [← hW3] at A
  clear hW3
  clear hcO fO hcZ fZ hcX hcP
  have hcO := A.b0.cell
  have fO := A.b0.frozen
  have hcZ := A.b1.cell
  have fZ := A.b1.frozen
  have hcX := A.b2.cell
  have hcP := A.b3.cell
  have hzz : w.heap.size ≤ w.heap.size + 1 + 1 := by omega
  have LST := Lib.hid (A.last A.b1 hzz)
  unfold zeroPo at hcZ
  go_wp2_with fail
  refine bodyPost_ret (v := poV e xe 0 0 (.slice none 0 0) (.slice none 0 0) true 0) (by simp [results, Try.results79, go_sem, poV, *]) rfl ?_
  refine ⟨_, _, by rw [HR.out], ?_, ?_, (apart_symm (.inl rfl)), (LST.out _ _ _ _ _ _ _ _).1⟩
  · rw [HR.out]
    exact World.ownsRow_nil _ _ _ _
  · rw [HR.out]
    exact World.ownsRow_nil _ _ _ _
set_option maxRecDepth 100000 in
set_option maxHeartbeats 2000000 in
theorem hear_same_echo (e p b i : Int) (v : Value) (l : List ByteArray) (xe xc xn xa : Int) (xt : ByteArray) (w : World) (h : StsAt w v l) (hr : ppRight e p b i l = true) (hx : pkRight xe xc xn xa xt = true) (g1 : p = xe) (g2 : ¬ xc = e) :
    Calls Try.prog 79 #[ppV e p b i v, pkV xe xc xn xa xt] w (PoPost (hearIn e p b i l xe xc xn xa xt) w) := by
  obtain ⟨hb0, hb1, hn, hsum, _, hi0, hi1, hp0, hp1⟩ := ppRight_more hr
  obtain ⟨hx0, hx1, hx2, hx3, hx4⟩ := pkRight_more hx
  clear hr hx
  have HC := Lib.hid (fun (W' : World) (hb : Below w.heap.size w W') => specCopy_any e p b i v l W' (h.kept hb) (by omega))
  obtain ⟨a, cap, rfl⟩ := h.form
  clear h
  have HR : Hid (hearIn e p b i l xe xc xn xa xt = ⟨e, p, b, i, l, [], false, 0⟩) := Lib.hid (by unfold hearIn; rw [if_neg (by omega), if_neg (by omega), if_neg g2])
  subst g1
  unfold ppV pkV at *
  go_enter Try.func79, Try.ntmps79
  go_wp2_with fail
  refine (HC.out _ (bel3 _ _ _ _)).mono ?_
  rintro x w1 ⟨u, rfl, hown, hb1⟩
  have A := (((LawAt.start3 w 31 #[.int .i64 e, .int .i64 p, .int .i64 b, .int .i64 i, .slice a l.length cap] 26 #[.int .i64 p, .int .i64 xc, .int .i64 xn, .int .i64 xa, .string xt] 33 zeroPo).kept hb1).own (own_mono (B' := w.heap.size) hown (by simp only [World.size_alloc]; omega)))
  have hapu := (hown.lt)
  obtain ⟨ua, uc, rfl⟩ := own_form hown
  clear hown hb1 hapu
  have hbs := A.b0.lt
  unfold ppV
  go_upto_region 2 with fail
  replace A := A.new 33 #[.int .i64 e, .int .i64 p, .int .i64 b, .int .i64 i, .slice ua l.length uc, .slice none 0 0, .bool false, .int .i64 0]
  obtain ⟨q, hq⟩ : ∃ q, q = w1.heap.size := ⟨_, rfl⟩
  obtain ⟨W2, hW2⟩ : ∃ X, X = w1.alloc (.cells #[.int .i64 e, .int .i64 p, .int .i64 b, .int .i64 i, .slice ua l.length uc, .slice none 0 0, .bool false, .int .i64 0] 33) := ⟨_, rfl⟩
  have hq3 : w.heap.size + 1 + 1 < q := by rw [hq]; exact hbs
  rw [← hW2, ← hq]
  rw [← hW2, ← hq] at A
  clear hW2 hq hbs HC
  have hcO := A.b0.cell
  have fO := A.b0.frozen
  have hcZ := A.b1.cell
  have fZ := A.b1.frozen
  have hcX := A.b2.cell
  have hcP := A.b3.cell
  have hzz : w.heap.size ≤ w.heap.size + 1 + 1 := by omega
  have LST := Lib.hid (A.last A.b1 hzz)
  unfold zeroPo at hcZ
  go_wp2_with fail
  refine bodyPost_ret (v := poV e p b i (.slice ua l.length uc) (.slice none 0 0) false 0) (by simp [results, Try.results79, go_sem, poV, *]) rfl ?_
  refine ⟨_, _, by rw [HR.out], ?_, ?_, (apart_symm (.inl rfl)), (LST.out _ _ _ _ _ _ _ _).1⟩
  · rw [HR.out]
    exact (LST.out _ _ _ _ _ _ _ _).2 _ (.head _)
  · rw [HR.out]
    exact World.ownsRow_nil _ _ _ _
set_option maxRecDepth 100000 in
set_option maxHeartbeats 2000000 in
theorem hear_fresh_0 (e p b i : Int) (v : Value) (l : List ByteArray) (xe xc xn xa : Int) (xt : ByteArray) (w : World) (h : StsAt w v l) (hr : ppRight e p b i l = true) (hx : pkRight xe xc xn xa xt = true) (g1 : p < xe) (g2 : e = xc) (g3 : ¬ 0 < xa) (hnum : ¬ xn = 0 + 1) :
    Calls Try.prog 79 #[ppV e p b i v, pkV xe xc xn xa xt] w (PoPost (hearIn e p b i l xe xc xn xa xt) w) := by
  obtain ⟨hb0, hb1, hn, hsum, _, hi0, hi1, hp0, hp1⟩ := ppRight_more hr
  obtain ⟨hx0, hx1, hx2, hx3, hx4⟩ := pkRight_more hx
  clear hr hx
  have HC := Lib.hid (fun (W' : World) (hb : Below w.heap.size w W') => specCopy_any e p b i v l W' (h.kept hb) (by omega))
  obtain ⟨a, cap, rfl⟩ := h.form
  clear h
  have HR : Hid (hearIn e p b i l xe xc xn xa xt = ⟨e, xe, 0, 0, [], [], true, 0⟩) := Lib.hid (by unfold hearIn; rw [if_neg (by omega), if_pos g1, if_pos g2.symm]; unfold hearB; rw [if_neg (by rw [List.length_nil]; omega), if_neg hnum])
  subst g2
  unfold ppV pkV at *
  go_enter Try.func79, Try.ntmps79
  go_wp2_with fail
  refine (HC.out _ (bel3 _ _ _ _)).mono ?_
  rintro x w1 ⟨u, rfl, hown, hb1⟩
  have A := (((LawAt.start3 w 31 #[.int .i64 e, .int .i64 p, .int .i64 b, .int .i64 i, .slice a l.length cap] 26 #[.int .i64 xe, .int .i64 e, .int .i64 xn, .int .i64 xa, .string xt] 33 zeroPo).kept hb1).own (own_mono (B' := w.heap.size) hown (by simp only [World.size_alloc]; omega)))
  have hapu := (hown.lt)
  obtain ⟨ua, uc, rfl⟩ := own_form hown
  clear hown hb1 hapu
  have hbs := A.b0.lt
  unfold ppV
  go_upto_region 2 with fail
  replace A := A.new 33 #[.int .i64 e, .int .i64 p, .int .i64 b, .int .i64 i, .slice ua l.length uc, .slice none 0 0, .bool false, .int .i64 0]
  obtain ⟨q, hq⟩ : ∃ q, q = w1.heap.size := ⟨_, rfl⟩
  obtain ⟨W2, hW2⟩ : ∃ X, X = w1.alloc (.cells #[.int .i64 e, .int .i64 p, .int .i64 b, .int .i64 i, .slice ua l.length uc, .slice none 0 0, .bool false, .int .i64 0] 33) := ⟨_, rfl⟩
  have hq3 : w.heap.size + 1 + 1 < q := by rw [hq]; exact hbs
  rw [← hW2, ← hq]
  rw [← hW2, ← hq] at A
  clear hW2 hq hbs HC
  have hcO := A.b0.cell
  have fO := A.b0.frozen
  have hcZ := A.b1.cell
  have fZ := A.b1.frozen
  have hcX := A.b2.cell
  have hcP := A.b3.cell
  go_upto_region 7 with fail
  have hne : ∀ x ∈ [(w.heap.size + 1 + 1, 33, zeroPo), (w.heap.size + 1, 26, #[.int .i64 xe, .int .i64 e, .int .i64 xn, .int .i64 xa, .string xt]), (w.heap.size, 31, #[.int .i64 e, .int .i64 p, .int .i64 b, .int .i64 i, .slice a l.length cap])], x.1 ≠ q := by simp; omega
  have hwq : w.heap.size ≤ q := by omega
  replace A := A.set hwq hne (by decide) 6 (.bool true)
  replace A := A.set hwq hne (by decide) 0 (.int .i64 e)
  replace A := A.set hwq hne (by decide) 1 (.int .i64 xe)
  replace A := A.set hwq hne (by decide) 2 (.int .i64 0)
  replace A := A.set hwq hne (by decide) 3 (.int .i64 0)
  replace A := A.set hwq hne (by decide) 4 (.slice none 0 0)
  simp only [List.setIfInBounds_toArray, List.set_cons_zero, List.set_cons_succ] at A
  obtain ⟨W3, hW3⟩ : ∃ X, X = (((((W2.setCell ⟨q, 6, none⟩ (.bool true)).setCell ⟨q, 0, none⟩ (.int .i64 e)).setCell ⟨q, 1, none⟩ (.int .i64 xe)).setCell ⟨q, 2, none⟩ (.int .i64 0)).setCell ⟨q, 3, none⟩ (.int .i64 0)).setCell ⟨q, 4, none⟩ (.slice none 0 0) := ⟨_, rfl⟩
  rw [← hW3]
  rw [← hW3] at A
  clear hW3
  clear hcO fO hcZ fZ hcX hcP
  have hcO := A.b0.cell
  have fO := A.b0.frozen
  have hcZ := A.b1.cell
  have fZ := A.b1.frozen
  have hcX := A.b2.cell
  have hcP := A.b3.cell
  go_wp2_with fail
  have hd1 : decide (0 < xa) = false := decide_eq_false (by omega)
  go_quiet (fail)
  replace A := A.drewN nq
  generalize W3.drewN nq = W4 at A ⊢
  clear hcO fO hcZ fZ hcX hcP hd1
  have hcO := A.b0.cell
  have fO := A.b0.frozen
  have hcZ := A.b1.cell
  have fZ := A.b1.frozen
  have hcX := A.b2.cell
  have hcP := A.b3.cell
  go_wp2_with fail
  have hd3 : (xn == 0 + 1) = false := by simpa using hnum
  have hwi : IntKind.i64.wrap (0 + 1) = 0 + 1 := by simp only [IntKind.wrap_i64]; omega
  go_quiet (fail)
  replace A := A.drewN nq
  generalize W4.drewN nq = W8 at A ⊢
  clear hcO fO hcZ fZ hcX hcP hd3 hwi
  have hcO := A.b0.cell
  have fO := A.b0.frozen
  have hcZ := A.b1.cell
  have fZ := A.b1.frozen
  have hcX := A.b2.cell
  have hcP := A.b3.cell
  have hzz : w.heap.size ≤ w.heap.size + 1 + 1 := by omega
  have LST := Lib.hid (A.last A.b1 hzz)
  unfold zeroPo at hcZ
  go_wp2_with fail
  refine bodyPost_ret (v := poV e xe 0 0 (.slice none 0 0) (.slice none 0 0) true 0) (by simp [results, Try.results79, go_sem, poV, *]) rfl ?_
  refine ⟨_, _, by rw [HR.out], ?_, ?_, (apart_symm (.inl rfl)), (LST.out _ _ _ _ _ _ _ _).1⟩
  · rw [HR.out]
    exact World.ownsRow_nil _ _ _ _
  · rw [HR.out]
    exact World.ownsRow_nil _ _ _ _
set_option maxRecDepth 100000 in
set_option maxHeartbeats 2000000 in
theorem hear_fresh_0n (e p b i : Int) (v : Value) (l : List ByteArray) (xe xc xn xa : Int) (xt : ByteArray) (w : World) (h : StsAt w v l) (hr : ppRight e p b i l = true) (hx : pkRight xe xc xn xa xt = true) (g1 : p < xe) (g2 : e = xc) (g3 : ¬ 0 < xa) (hnum : xn = 0 + 1) :
    Calls Try.prog 79 #[ppV e p b i v, pkV xe xc xn xa xt] w (PoPost (hearIn e p b i l xe xc xn xa xt) w) := by
  obtain ⟨hb0, hb1, hn, hsum, _, hi0, hi1, hp0, hp1⟩ := ppRight_more hr
  obtain ⟨hx0, hx1, hx2, hx3, hx4⟩ := pkRight_more hx
  clear hr hx
  have HC := Lib.hid (fun (W' : World) (hb : Below w.heap.size w W') => specCopy_any e p b i v l W' (h.kept hb) (by omega))
  obtain ⟨a, cap, rfl⟩ := h.form
  clear h
  have HR : Hid (hearIn e p b i l xe xc xn xa xt = ⟨e, xe, 0, xn, [], [xt], true, 0⟩) := Lib.hid (by unfold hearIn; rw [if_neg (by omega), if_pos g1, if_pos g2.symm]; unfold hearB; rw [if_neg (by rw [List.length_nil]; omega), if_pos hnum])
  subst g2
  rw [Int.zero_add] at hnum
  subst hnum
  unfold ppV pkV at *
  go_enter Try.func79, Try.ntmps79
  go_wp2_with fail
  refine (HC.out _ (bel3 _ _ _ _)).mono ?_
  rintro x w1 ⟨u, rfl, hown, hb1⟩
  have A := (((LawAt.start3 w 31 #[.int .i64 e, .int .i64 p, .int .i64 b, .int .i64 i, .slice a l.length cap] 26 #[.int .i64 xe, .int .i64 e, .int .i64 1, .int .i64 xa, .string xt] 33 zeroPo).kept hb1).own (own_mono (B' := w.heap.size) hown (by simp only [World.size_alloc]; omega)))
  have hapu := (hown.lt)
  obtain ⟨ua, uc, rfl⟩ := own_form hown
  clear hown hb1 hapu
  have hbs := A.b0.lt
  unfold ppV
  go_upto_region 2 with fail
  replace A := A.new 33 #[.int .i64 e, .int .i64 p, .int .i64 b, .int .i64 i, .slice ua l.length uc, .slice none 0 0, .bool false, .int .i64 0]
  obtain ⟨q, hq⟩ : ∃ q, q = w1.heap.size := ⟨_, rfl⟩
  obtain ⟨W2, hW2⟩ : ∃ X, X = w1.alloc (.cells #[.int .i64 e, .int .i64 p, .int .i64 b, .int .i64 i, .slice ua l.length uc, .slice none 0 0, .bool false, .int .i64 0] 33) := ⟨_, rfl⟩
  have hq3 : w.heap.size + 1 + 1 < q := by rw [hq]; exact hbs
  rw [← hW2, ← hq]
  rw [← hW2, ← hq] at A
  clear hW2 hq hbs HC
  have hcO := A.b0.cell
  have fO := A.b0.frozen
  have hcZ := A.b1.cell
  have fZ := A.b1.frozen
  have hcX := A.b2.cell
  have hcP := A.b3.cell
  go_upto_region 7 with fail
  have hne : ∀ x ∈ [(w.heap.size + 1 + 1, 33, zeroPo), (w.heap.size + 1, 26, #[.int .i64 xe, .int .i64 e, .int .i64 1, .int .i64 xa, .string xt]), (w.heap.size, 31, #[.int .i64 e, .int .i64 p, .int .i64 b, .int .i64 i, .slice a l.length cap])], x.1 ≠ q := by simp; omega
  have hwq : w.heap.size ≤ q := by omega
  replace A := A.set hwq hne (by decide) 6 (.bool true)
  replace A := A.set hwq hne (by decide) 0 (.int .i64 e)
  replace A := A.set hwq hne (by decide) 1 (.int .i64 xe)
  replace A := A.set hwq hne (by decide) 2 (.int .i64 0)
  replace A := A.set hwq hne (by decide) 3 (.int .i64 0)
  replace A := A.set hwq hne (by decide) 4 (.slice none 0 0)
  simp only [List.setIfInBounds_toArray, List.set_cons_zero, List.set_cons_succ] at A
  obtain ⟨W3, hW3⟩ : ∃ X, X = (((((W2.setCell ⟨q, 6, none⟩ (.bool true)).setCell ⟨q, 0, none⟩ (.int .i64 e)).setCell ⟨q, 1, none⟩ (.int .i64 xe)).setCell ⟨q, 2, none⟩ (.int .i64 0)).setCell ⟨q, 3, none⟩ (.int .i64 0)).setCell ⟨q, 4, none⟩ (.slice none 0 0) := ⟨_, rfl⟩
  rw [← hW3]
  rw [← hW3] at A
  clear hW3
  clear hcO fO hcZ fZ hcX hcP
  have hcO := A.b0.cell
  have fO := A.b0.frozen
  have hcZ := A.b1.cell
  have fZ := A.b1.frozen
  have hcX := A.b2.cell
  have hcP := A.b3.cell
  go_wp2_with fail
  have hd1 : decide (0 < xa) = false := decide_eq_false (by omega)
  go_quiet (fail)
  replace A := A.drewN nq
  generalize W3.drewN nq = W4 at A ⊢
  clear hcO fO hcZ fZ hcX hcP hd1
  have hcO := A.b0.cell
  have fO := A.b0.frozen
  have hcZ := A.b1.cell
  have fZ := A.b1.frozen
  have hcX := A.b2.cell
  have hcP := A.b3.cell
  go_wp2_with fail
  have hd3 : (1 == 0 + 1) = true := by simp
  have hwi : IntKind.i64.wrap (0 + 1) = 0 + 1 := by simp only [IntKind.wrap_i64]; omega
  go_quiet (fail)
  replace A := A.drewN nq
  generalize W4.drewN nq = W8 at A ⊢
  clear hcO fO hcZ fZ hcX hcP hd3 hwi
  have hcO := A.b0.cell
  have fO := A.b0.frozen
  have hcZ := A.b1.cell
  have fZ := A.b1.frozen
  have hcX := A.b2.cell
  have hcP := A.b3.cell
  have hqlt : q < W8.heap.size := A.b0.lt
  go_upto_region 16 with fail
  clear hqlt
  have HNE := Lib.hid hne
  replace A := A.set hwq HNE.out (by decide) 3 (.int .i64 1)
  replace A := A.set hwq HNE.out (by decide) 5 (.slice (some ⟨W8.heap.size, 0, none⟩) 1 1)
  simp only [List.setIfInBounds_toArray, List.set_cons_zero, List.set_cons_succ] at A
  obtain ⟨W9, hW9⟩ : ∃ X, X = (W8.setCell ⟨q, 3, none⟩ (.int .i64 1)).setCell ⟨q, 5, none⟩ (.slice (some ⟨W8.heap.size, 0, none⟩) 1 1) := ⟨_, rfl⟩
  have hsz9 : W9.heap.size = W8.heap.size := by rw [hW9]; simp
  rw [← hW9]
  rw [← hW9] at A
  clear hW9
  have ht9 := World.ownsRow_lit (base := W9.heap.size) (e := 9) (size := 1) W9 #[.string xt] 1 (Nat.le_refl _) (by unfold maxLen; omega) rfl
  have HAP := Lib.hid (own_apart A.r0 ht9 (Nat.le_refl _))
  replace A := (A.alloc (.cells #[.string xt] 9)).own (l := [xt]) (own_mono ht9 A.bel.size)
  rw [hsz9] at A HAP
  obtain ⟨W10, hW10⟩ : ∃ X, X = W9.alloc (.cells #[.string xt] 9) := ⟨_, rfl⟩
  rw [← hW10]
  rw [← hW10] at A
  clear hW10
  clear ht9 hsz9
  clear hcO fO hcZ fZ hcX hcP
  have hcO := A.b0.cell
  have fO := A.b0.frozen
  have hcZ := A.b1.cell
  have fZ := A.b1.frozen
  have hcX := A.b2.cell
  have hcP := A.b3.cell
  have hzz : w.heap.size ≤ w.heap.size + 1 + 1 := by omega
  have LST := Lib.hid (A.last A.b1 hzz)
  unfold zeroPo at hcZ
  go_wp2_with fail
  refine bodyPost_ret (v := poV e xe 0 1 (.slice none 0 0) (.slice (some ⟨W8.heap.size, 0, none⟩) 1 1) true 0) (by simp [results, Try.results79, go_sem, poV, *]) rfl ?_
  refine ⟨_, _, by rw [HR.out], ?_, ?_, (.inl rfl), (LST.out _ _ _ _ _ _ _ _).1⟩
  · rw [HR.out]
    exact World.ownsRow_nil _ _ _ _
  · rw [HR.out]
    exact (LST.out _ _ _ _ _ _ _ _).2 _ (.head _)
set_option maxRecDepth 100000 in
set_option maxHeartbeats 2000000 in
theorem hear_fresh_1 (e p b i : Int) (v : Value) (l : List ByteArray) (xe xc xn xa : Int) (xt : ByteArray) (w : World) (h : StsAt w v l) (hr : ppRight e p b i l = true) (hx : pkRight xe xc xn xa xt = true) (g1 : p < xe) (g2 : e = xc) (g3 : 0 < xa) (g4 : ¬ xa ≤ 0 + (0 : Int)) (hnum : ¬ xn = 0 + 1) :
    Calls Try.prog 79 #[ppV e p b i v, pkV xe xc xn xa xt] w (PoPost (hearIn e p b i l xe xc xn xa xt) w) := by
  obtain ⟨hb0, hb1, hn, hsum, _, hi0, hi1, hp0, hp1⟩ := ppRight_more hr
  obtain ⟨hx0, hx1, hx2, hx3, hx4⟩ := pkRight_more hx
  clear hr hx
  have HC := Lib.hid (fun (W' : World) (hb : Below w.heap.size w W') => specCopy_any e p b i v l W' (h.kept hb) (by omega))
  obtain ⟨a, cap, rfl⟩ := h.form
  clear h
  have HR : Hid (hearIn e p b i l xe xc xn xa xt = ⟨e, xe, 0, 0, [], [], true, 0⟩) := Lib.hid (by unfold hearIn; rw [if_neg (by omega), if_pos g1, if_pos g2.symm]; unfold hearB; rw [if_neg (by rw [List.length_nil]; omega), if_neg hnum])
  subst g2
  unfold ppV pkV at *
  go_enter Try.func79, Try.ntmps79
  go_wp2_with fail
  refine (HC.out _ (bel3 _ _ _ _)).mono ?_
  rintro x w1 ⟨u, rfl, hown, hb1⟩
  have A := (((LawAt.start3 w 31 #[.int .i64 e, .int .i64 p, .int .i64 b, .int .i64 i, .slice a l.length cap] 26 #[.int .i64 xe, .int .i64 e, .int .i64 xn, .int .i64 xa, .string xt] 33 zeroPo).kept hb1).own (own_mono (B' := w.heap.size) hown (by simp only [World.size_alloc]; omega)))
  have hapu := (hown.lt)
  obtain ⟨ua, uc, rfl⟩ := own_form hown
  clear hown hb1 hapu
  have hbs := A.b0.lt
  unfold ppV
  go_upto_region 2 with fail
  replace A := A.new 33 #[.int .i64 e, .int .i64 p, .int .i64 b, .int .i64 i, .slice ua l.length uc, .slice none 0 0, .bool false, .int .i64 0]
  obtain ⟨q, hq⟩ : ∃ q, q = w1.heap.size := ⟨_, rfl⟩
  obtain ⟨W2, hW2⟩ : ∃ X, X = w1.alloc (.cells #[.int .i64 e, .int .i64 p, .int .i64 b, .int .i64 i, .slice ua l.length uc, .slice none 0 0, .bool false, .int .i64 0] 33) := ⟨_, rfl⟩
  have hq3 : w.heap.size + 1 + 1 < q := by rw [hq]; exact hbs
  rw [← hW2, ← hq]
  rw [← hW2, ← hq] at A
  clear hW2 hq hbs HC
  have hcO := A.b0.cell
  have fO := A.b0.frozen
  have hcZ := A.b1.cell
  have fZ := A.b1.frozen
  have hcX := A.b2.cell
  have hcP := A.b3.cell
  go_upto_region 7 with fail
  have hne : ∀ x ∈ [(w.heap.size + 1 + 1, 33, zeroPo), (w.heap.size + 1, 26, #[.int .i64 xe, .int .i64 e, .int .i64 xn, .int .i64 xa, .string xt]), (w.heap.size, 31, #[.int .i64 e, .int .i64 p, .int .i64 b, .int .i64 i, .slice a l.length cap])], x.1 ≠ q := by simp; omega
  have hwq : w.heap.size ≤ q := by omega
  replace A := A.set hwq hne (by decide) 6 (.bool true)
  replace A := A.set hwq hne (by decide) 0 (.int .i64 e)
  replace A := A.set hwq hne (by decide) 1 (.int .i64 xe)
  replace A := A.set hwq hne (by decide) 2 (.int .i64 0)
  replace A := A.set hwq hne (by decide) 3 (.int .i64 0)
  replace A := A.set hwq hne (by decide) 4 (.slice none 0 0)
  simp only [List.setIfInBounds_toArray, List.set_cons_zero, List.set_cons_succ] at A
  obtain ⟨W3, hW3⟩ : ∃ X, X = (((((W2.setCell ⟨q, 6, none⟩ (.bool true)).setCell ⟨q, 0, none⟩ (.int .i64 e)).setCell ⟨q, 1, none⟩ (.int .i64 xe)).setCell ⟨q, 2, none⟩ (.int .i64 0)).setCell ⟨q, 3, none⟩ (.int .i64 0)).setCell ⟨q, 4, none⟩ (.slice none 0 0) := ⟨_, rfl⟩
  rw [← hW3]
  rw [← hW3] at A
  clear hW3
  clear hcO fO hcZ fZ hcX hcP
  have hcO := A.b0.cell
  have fO := A.b0.frozen
  have hcZ := A.b1.cell
  have fZ := A.b1.frozen
  have hcX := A.b2.cell
  have hcP := A.b3.cell
  go_wp2_with fail
  have hd1 : decide (0 < xa) = true := decide_eq_true (by omega)
  have hlt1 : 0 < xa := by omega
  have hd2 : decide (xa ≤ 0 + 0) = false := decide_eq_false (by omega)
  have hws : IntKind.i64.wrap (0 + 0) = 0 + 0 := by simp only [IntKind.wrap_i64]; omega
  go_quiet (fail)
  replace A := A.drewN nq
  generalize W3.drewN nq = W4 at A ⊢
  clear hcO fO hcZ fZ hcX hcP hd1 hd2 hws
  have hcO := A.b0.cell
  have fO := A.b0.frozen
  have hcZ := A.b1.cell
  have fZ := A.b1.frozen
  have hcX := A.b2.cell
  have hcP := A.b3.cell
  go_wp2_with fail
  have hd3 : (xn == 0 + 1) = false := by simpa using hnum
  have hwi : IntKind.i64.wrap (0 + 1) = 0 + 1 := by simp only [IntKind.wrap_i64]; omega
  go_quiet (fail)
  replace A := A.drewN nq
  generalize W4.drewN nq = W8 at A ⊢
  clear hcO fO hcZ fZ hcX hcP hd3 hwi
  have hcO := A.b0.cell
  have fO := A.b0.frozen
  have hcZ := A.b1.cell
  have fZ := A.b1.frozen
  have hcX := A.b2.cell
  have hcP := A.b3.cell
  have hzz : w.heap.size ≤ w.heap.size + 1 + 1 := by omega
  have LST := Lib.hid (A.last A.b1 hzz)
  unfold zeroPo at hcZ
  go_wp2_with fail
  refine bodyPost_ret (v := poV e xe 0 0 (.slice none 0 0) (.slice none 0 0) true 0) (by simp [results, Try.results79, go_sem, poV, *]) rfl ?_
  refine ⟨_, _, by rw [HR.out], ?_, ?_, (apart_symm (.inl rfl)), (LST.out _ _ _ _ _ _ _ _).1⟩
  · rw [HR.out]
    exact World.ownsRow_nil _ _ _ _
  · rw [HR.out]
    exact World.ownsRow_nil _ _ _ _
set_option maxRecDepth 100000 in
set_option maxHeartbeats 2000000 in
theorem hear_fresh_1n (e p b i : Int) (v : Value) (l : List ByteArray) (xe xc xn xa : Int) (xt : ByteArray) (w : World) (h : StsAt w v l) (hr : ppRight e p b i l = true) (hx : pkRight xe xc xn xa xt = true) (g1 : p < xe) (g2 : e = xc) (g3 : 0 < xa) (g4 : ¬ xa ≤ 0 + (0 : Int)) (hnum : xn = 0 + 1) :
    Calls Try.prog 79 #[ppV e p b i v, pkV xe xc xn xa xt] w (PoPost (hearIn e p b i l xe xc xn xa xt) w) := by
  obtain ⟨hb0, hb1, hn, hsum, _, hi0, hi1, hp0, hp1⟩ := ppRight_more hr
  obtain ⟨hx0, hx1, hx2, hx3, hx4⟩ := pkRight_more hx
  clear hr hx
  have HC := Lib.hid (fun (W' : World) (hb : Below w.heap.size w W') => specCopy_any e p b i v l W' (h.kept hb) (by omega))
  obtain ⟨a, cap, rfl⟩ := h.form
  clear h
  have HR : Hid (hearIn e p b i l xe xc xn xa xt = ⟨e, xe, 0, xn, [], [xt], true, 0⟩) := Lib.hid (by unfold hearIn; rw [if_neg (by omega), if_pos g1, if_pos g2.symm]; unfold hearB; rw [if_neg (by rw [List.length_nil]; omega), if_pos hnum])
  subst g2
  rw [Int.zero_add] at hnum
  subst hnum
  unfold ppV pkV at *
  go_enter Try.func79, Try.ntmps79
  go_wp2_with fail
  refine (HC.out _ (bel3 _ _ _ _)).mono ?_
  rintro x w1 ⟨u, rfl, hown, hb1⟩
  have A := (((LawAt.start3 w 31 #[.int .i64 e, .int .i64 p, .int .i64 b, .int .i64 i, .slice a l.length cap] 26 #[.int .i64 xe, .int .i64 e, .int .i64 1, .int .i64 xa, .string xt] 33 zeroPo).kept hb1).own (own_mono (B' := w.heap.size) hown (by simp only [World.size_alloc]; omega)))
  have hapu := (hown.lt)
  obtain ⟨ua, uc, rfl⟩ := own_form hown
  clear hown hb1 hapu
  have hbs := A.b0.lt
  unfold ppV
  go_upto_region 2 with fail
  replace A := A.new 33 #[.int .i64 e, .int .i64 p, .int .i64 b, .int .i64 i, .slice ua l.length uc, .slice none 0 0, .bool false, .int .i64 0]
  obtain ⟨q, hq⟩ : ∃ q, q = w1.heap.size := ⟨_, rfl⟩
  obtain ⟨W2, hW2⟩ : ∃ X, X = w1.alloc (.cells #[.int .i64 e, .int .i64 p, .int .i64 b, .int .i64 i, .slice ua l.length uc, .slice none 0 0, .bool false, .int .i64 0] 33) := ⟨_, rfl⟩
  have hq3 : w.heap.size + 1 + 1 < q := by rw [hq]; exact hbs
  rw [← hW2, ← hq]
  rw [← hW2, ← hq] at A
  clear hW2 hq hbs HC
  have hcO := A.b0.cell
  have fO := A.b0.frozen
  have hcZ := A.b1.cell
  have fZ := A.b1.frozen
  have hcX := A.b2.cell
  have hcP := A.b3.cell
  go_upto_region 7 with fail
  have hne : ∀ x ∈ [(w.heap.size + 1 + 1, 33, zeroPo), (w.heap.size + 1, 26, #[.int .i64 xe, .int .i64 e, .int .i64 1, .int .i64 xa, .string xt]), (w.heap.size, 31, #[.int .i64 e, .int .i64 p, .int .i64 b, .int .i64 i, .slice a l.length cap])], x.1 ≠ q := by simp; omega
  have hwq : w.heap.size ≤ q := by omega
  replace A := A.set hwq hne (by decide) 6 (.bool true)
  replace A := A.set hwq hne (by decide) 0 (.int .i64 e)
  replace A := A.set hwq hne (by decide) 1 (.int .i64 xe)
  replace A := A.set hwq hne (by decide) 2 (.int .i64 0)
  replace A := A.set hwq hne (by decide) 3 (.int .i64 0)
  replace A := A.set hwq hne (by decide) 4 (.slice none 0 0)
  simp only [List.setIfInBounds_toArray, List.set_cons_zero, List.set_cons_succ] at A
  obtain ⟨W3, hW3⟩ : ∃ X, X = (((((W2.setCell ⟨q, 6, none⟩ (.bool true)).setCell ⟨q, 0, none⟩ (.int .i64 e)).setCell ⟨q, 1, none⟩ (.int .i64 xe)).setCell ⟨q, 2, none⟩ (.int .i64 0)).setCell ⟨q, 3, none⟩ (.int .i64 0)).setCell ⟨q, 4, none⟩ (.slice none 0 0) := ⟨_, rfl⟩
  rw [← hW3]
  rw [← hW3] at A
  clear hW3
  clear hcO fO hcZ fZ hcX hcP
  have hcO := A.b0.cell
  have fO := A.b0.frozen
  have hcZ := A.b1.cell
  have fZ := A.b1.frozen
  have hcX := A.b2.cell
  have hcP := A.b3.cell
  go_wp2_with fail
  have hd1 : decide (0 < xa) = true := decide_eq_true (by omega)
  have hlt1 : 0 < xa := by omega
  have hd2 : decide (xa ≤ 0 + 0) = false := decide_eq_false (by omega)
  have hws : IntKind.i64.wrap (0 + 0) = 0 + 0 := by simp only [IntKind.wrap_i64]; omega
  go_quiet (fail)
  replace A := A.drewN nq
  generalize W3.drewN nq = W4 at A ⊢
  clear hcO fO hcZ fZ hcX hcP hd1 hd2 hws
  have hcO := A.b0.cell
  have fO := A.b0.frozen
  have hcZ := A.b1.cell
  have fZ := A.b1.frozen
  have hcX := A.b2.cell
  have hcP := A.b3.cell
  go_wp2_with fail
  have hd3 : (1 == 0 + 1) = true := by simp
  have hwi : IntKind.i64.wrap (0 + 1) = 0 + 1 := by simp only [IntKind.wrap_i64]; omega
  go_quiet (fail)
  replace A := A.drewN nq
  generalize W4.drewN nq = W8 at A ⊢
  clear hcO fO hcZ fZ hcX hcP hd3 hwi
  have hcO := A.b0.cell
  have fO := A.b0.frozen
  have hcZ := A.b1.cell
  have fZ := A.b1.frozen
  have hcX := A.b2.cell
  have hcP := A.b3.cell
  have hqlt : q < W8.heap.size := A.b0.lt
  go_upto_region 16 with fail
  clear hqlt
  have HNE := Lib.hid hne
  replace A := A.set hwq HNE.out (by decide) 3 (.int .i64 1)
  replace A := A.set hwq HNE.out (by decide) 5 (.slice (some ⟨W8.heap.size, 0, none⟩) 1 1)
  simp only [List.setIfInBounds_toArray, List.set_cons_zero, List.set_cons_succ] at A
  obtain ⟨W9, hW9⟩ : ∃ X, X = (W8.setCell ⟨q, 3, none⟩ (.int .i64 1)).setCell ⟨q, 5, none⟩ (.slice (some ⟨W8.heap.size, 0, none⟩) 1 1) := ⟨_, rfl⟩
  have hsz9 : W9.heap.size = W8.heap.size := by rw [hW9]; simp
  rw [← hW9]
  rw [← hW9] at A
  clear hW9
  have ht9 := World.ownsRow_lit (base := W9.heap.size) (e := 9) (size := 1) W9 #[.string xt] 1 (Nat.le_refl _) (by unfold maxLen; omega) rfl
  have HAP := Lib.hid (own_apart A.r0 ht9 (Nat.le_refl _))
  replace A := (A.alloc (.cells #[.string xt] 9)).own (l := [xt]) (own_mono ht9 A.bel.size)
  rw [hsz9] at A HAP
  obtain ⟨W10, hW10⟩ : ∃ X, X = W9.alloc (.cells #[.string xt] 9) := ⟨_, rfl⟩
  rw [← hW10]
  rw [← hW10] at A
  clear hW10
  clear ht9 hsz9
  clear hcO fO hcZ fZ hcX hcP
  have hcO := A.b0.cell
  have fO := A.b0.frozen
  have hcZ := A.b1.cell
  have fZ := A.b1.frozen
  have hcX := A.b2.cell
  have hcP := A.b3.cell
  have hzz : w.heap.size ≤ w.heap.size + 1 + 1 := by omega
  have LST := Lib.hid (A.last A.b1 hzz)
  unfold zeroPo at hcZ
  go_wp2_with fail
  refine bodyPost_ret (v := poV e xe 0 1 (.slice none 0 0) (.slice (some ⟨W8.heap.size, 0, none⟩) 1 1) true 0) (by simp [results, Try.results79, go_sem, poV, *]) rfl ?_
  refine ⟨_, _, by rw [HR.out], ?_, ?_, (.inl rfl), (LST.out _ _ _ _ _ _ _ _).1⟩
  · rw [HR.out]
    exact World.ownsRow_nil _ _ _ _
  · rw [HR.out]
    exact (LST.out _ _ _ _ _ _ _ _).2 _ (.head _)
set_option maxRecDepth 100000 in
set_option maxHeartbeats 2000000 in
theorem hear_same_0 (e p b i : Int) (v : Value) (l : List ByteArray) (xe xc xn xa : Int) (xt : ByteArray) (w : World) (h : StsAt w v l) (hr : ppRight e p b i l = true) (hx : pkRight xe xc xn xa xt = true) (g1 : p = xe) (g2 : e = xc) (g3 : ¬ b < xa) (hnum : ¬ xn = i + 1) :
    Calls Try.prog 79 #[ppV e p b i v, pkV xe xc xn xa xt] w (PoPost (hearIn e p b i l xe xc xn xa xt) w) := by
  obtain ⟨hb0, hb1, hn, hsum, _, hi0, hi1, hp0, hp1⟩ := ppRight_more hr
  obtain ⟨hx0, hx1, hx2, hx3, hx4⟩ := pkRight_more hx
  clear hr hx
  have HC := Lib.hid (fun (W' : World) (hb : Below w.heap.size w W') => specCopy_any e p b i v l W' (h.kept hb) (by omega))
  obtain ⟨a, cap, rfl⟩ := h.form
  clear h
  have HR : Hid (hearIn e p b i l xe xc xn xa xt = ⟨e, p, b, i, l, [], false, 0⟩) := Lib.hid (by unfold hearIn; rw [if_neg (by omega), if_neg (by omega), if_pos g2.symm]; unfold hearB; rw [if_neg (by omega), if_neg hnum])
  subst g1
  subst g2
  unfold ppV pkV at *
  go_enter Try.func79, Try.ntmps79
  go_wp2_with fail
  refine (HC.out _ (bel3 _ _ _ _)).mono ?_
  rintro x w1 ⟨u, rfl, hown, hb1⟩
  have A := (((LawAt.start3 w 31 #[.int .i64 e, .int .i64 p, .int .i64 b, .int .i64 i, .slice a l.length cap] 26 #[.int .i64 p, .int .i64 e, .int .i64 xn, .int .i64 xa, .string xt] 33 zeroPo).kept hb1).own (own_mono (B' := w.heap.size) hown (by simp only [World.size_alloc]; omega)))
  have hapu := (hown.lt)
  obtain ⟨ua, uc, rfl⟩ := own_form hown
  clear hown hb1 hapu
  have hbs := A.b0.lt
  unfold ppV
  go_upto_region 2 with fail
  replace A := A.new 33 #[.int .i64 e, .int .i64 p, .int .i64 b, .int .i64 i, .slice ua l.length uc, .slice none 0 0, .bool false, .int .i64 0]
  obtain ⟨q, hq⟩ : ∃ q, q = w1.heap.size := ⟨_, rfl⟩
  obtain ⟨W2, hW2⟩ : ∃ X, X = w1.alloc (.cells #[.int .i64 e, .int .i64 p, .int .i64 b, .int .i64 i, .slice ua l.length uc, .slice none 0 0, .bool false, .int .i64 0] 33) := ⟨_, rfl⟩
  have hq3 : w.heap.size + 1 + 1 < q := by rw [hq]; exact hbs
  rw [← hW2, ← hq]
  rw [← hW2, ← hq] at A
  clear hW2 hq hbs HC
  have hcO := A.b0.cell
  have fO := A.b0.frozen
  have hcZ := A.b1.cell
  have fZ := A.b1.frozen
  have hcX := A.b2.cell
  have hcP := A.b3.cell
  go_wp2_with fail
  have hd1 : decide (b < xa) = false := decide_eq_false (by omega)
  go_quiet (fail)
  replace A := A.drewN nq
  generalize W2.drewN nq = W4 at A ⊢
  clear hcO fO hcZ fZ hcX hcP hd1
  have hcO := A.b0.cell
  have fO := A.b0.frozen
  have hcZ := A.b1.cell
  have fZ := A.b1.frozen
  have hcX := A.b2.cell
  have hcP := A.b3.cell
  go_wp2_with fail
  have hd3 : (xn == i + 1) = false := by simpa using hnum
  have hwi : IntKind.i64.wrap (i + 1) = i + 1 := by simp only [IntKind.wrap_i64]; omega
  go_quiet (fail)
  replace A := A.drewN nq
  generalize W4.drewN nq = W8 at A ⊢
  clear hcO fO hcZ fZ hcX hcP hd3 hwi
  have hcO := A.b0.cell
  have fO := A.b0.frozen
  have hcZ := A.b1.cell
  have fZ := A.b1.frozen
  have hcX := A.b2.cell
  have hcP := A.b3.cell
  have hzz : w.heap.size ≤ w.heap.size + 1 + 1 := by omega
  have LST := Lib.hid (A.last A.b1 hzz)
  unfold zeroPo at hcZ
  go_wp2_with fail
  refine bodyPost_ret (v := poV e p b i (.slice ua l.length uc) (.slice none 0 0) false 0) (by simp [results, Try.results79, go_sem, poV, *]) rfl ?_
  refine ⟨_, _, by rw [HR.out], ?_, ?_, (apart_symm (.inl rfl)), (LST.out _ _ _ _ _ _ _ _).1⟩
  · rw [HR.out]
    exact (LST.out _ _ _ _ _ _ _ _).2 _ (.head _)
  · rw [HR.out]
    exact World.ownsRow_nil _ _ _ _
set_option maxRecDepth 100000 in
set_option maxHeartbeats 2000000 in
theorem hear_same_0n (e p b i : Int) (v : Value) (l : List ByteArray) (xe xc xn xa : Int) (xt : ByteArray) (w : World) (h : StsAt w v l) (hr : ppRight e p b i l = true) (hx : pkRight xe xc xn xa xt = true) (g1 : p = xe) (g2 : e = xc) (g3 : ¬ b < xa) (hnum : xn = i + 1) :
    Calls Try.prog 79 #[ppV e p b i v, pkV xe xc xn xa xt] w (PoPost (hearIn e p b i l xe xc xn xa xt) w) := by
  obtain ⟨hb0, hb1, hn, hsum, _, hi0, hi1, hp0, hp1⟩ := ppRight_more hr
  obtain ⟨hx0, hx1, hx2, hx3, hx4⟩ := pkRight_more hx
  clear hr hx
  have HC := Lib.hid (fun (W' : World) (hb : Below w.heap.size w W') => specCopy_any e p b i v l W' (h.kept hb) (by omega))
  obtain ⟨a, cap, rfl⟩ := h.form
  clear h
  have HR : Hid (hearIn e p b i l xe xc xn xa xt = ⟨e, p, b, xn, l, [xt], false, 0⟩) := Lib.hid (by unfold hearIn; rw [if_neg (by omega), if_neg (by omega), if_pos g2.symm]; unfold hearB; rw [if_neg (by omega), if_pos hnum])
  subst g1
  subst g2
  subst hnum
  unfold ppV pkV at *
  go_enter Try.func79, Try.ntmps79
  go_wp2_with fail
  refine (HC.out _ (bel3 _ _ _ _)).mono ?_
  rintro x w1 ⟨u, rfl, hown, hb1⟩
  have A := (((LawAt.start3 w 31 #[.int .i64 e, .int .i64 p, .int .i64 b, .int .i64 i, .slice a l.length cap] 26 #[.int .i64 p, .int .i64 e, .int .i64 (i + 1), .int .i64 xa, .string xt] 33 zeroPo).kept hb1).own (own_mono (B' := w.heap.size) hown (by simp only [World.size_alloc]; omega)))
  have hapu := (hown.lt)
  obtain ⟨ua, uc, rfl⟩ := own_form hown
  clear hown hb1 hapu
  have hbs := A.b0.lt
  unfold ppV
  go_upto_region 2 with fail
  replace A := A.new 33 #[.int .i64 e, .int .i64 p, .int .i64 b, .int .i64 i, .slice ua l.length uc, .slice none 0 0, .bool false, .int .i64 0]
  obtain ⟨q, hq⟩ : ∃ q, q = w1.heap.size := ⟨_, rfl⟩
  obtain ⟨W2, hW2⟩ : ∃ X, X = w1.alloc (.cells #[.int .i64 e, .int .i64 p, .int .i64 b, .int .i64 i, .slice ua l.length uc, .slice none 0 0, .bool false, .int .i64 0] 33) := ⟨_, rfl⟩
  have hq3 : w.heap.size + 1 + 1 < q := by rw [hq]; exact hbs
  rw [← hW2, ← hq]
  rw [← hW2, ← hq] at A
  clear hW2 hq hbs HC
  have hcO := A.b0.cell
  have fO := A.b0.frozen
  have hcZ := A.b1.cell
  have fZ := A.b1.frozen
  have hcX := A.b2.cell
  have hcP := A.b3.cell
  go_wp2_with fail
  have hd1 : decide (b < xa) = false := decide_eq_false (by omega)
  go_quiet (fail)
  replace A := A.drewN nq
  generalize W2.drewN nq = W4 at A ⊢
  clear hcO fO hcZ fZ hcX hcP hd1
  have hcO := A.b0.cell
  have fO := A.b0.frozen
  have hcZ := A.b1.cell
  have fZ := A.b1.frozen
  have hcX := A.b2.cell
  have hcP := A.b3.cell
  go_wp2_with fail
  have hd3 : ((i + 1) == i + 1) = true := by simp
  have hwi : IntKind.i64.wrap (i + 1) = i + 1 := by simp only [IntKind.wrap_i64]; omega
  go_quiet (fail)
  replace A := A.drewN nq
  generalize W4.drewN nq = W8 at A ⊢
  clear hcO fO hcZ fZ hcX hcP hd3 hwi
  have hcO := A.b0.cell
  have fO := A.b0.frozen
  have hcZ := A.b1.cell
  have fZ := A.b1.frozen
  have hcX := A.b2.cell
  have hcP := A.b3.cell
  have hqlt : q < W8.heap.size := A.b0.lt
  go_upto_region 16 with fail
  clear hqlt
  have hne : ∀ x ∈ [(w.heap.size + 1 + 1, 33, zeroPo), (w.heap.size + 1, 26, #[.int .i64 p, .int .i64 e, .int .i64 (i + 1), .int .i64 xa, .string xt]), (w.heap.size, 31, #[.int .i64 e, .int .i64 p, .int .i64 b, .int .i64 i, .slice a l.length cap])], x.1 ≠ q := by simp; omega
  have hwq : w.heap.size ≤ q := by omega
  have HNE := Lib.hid hne
  replace A := A.set hwq HNE.out (by decide) 3 (.int .i64 (i + 1))
  replace A := A.set hwq HNE.out (by decide) 5 (.slice (some ⟨W8.heap.size, 0, none⟩) 1 1)
  simp only [List.setIfInBounds_toArray, List.set_cons_zero, List.set_cons_succ] at A
  obtain ⟨W9, hW9⟩ : ∃ X, X = (W8.setCell ⟨q, 3, none⟩ (.int .i64 (i + 1))).setCell ⟨q, 5, none⟩ (.slice (some ⟨W8.heap.size, 0, none⟩) 1 1) := ⟨_, rfl⟩
  have hsz9 : W9.heap.size = W8.heap.size := by rw [hW9]; simp
  rw [← hW9]
  rw [← hW9] at A
  clear hW9
  have ht9 := World.ownsRow_lit (base := W9.heap.size) (e := 9) (size := 1) W9 #[.string xt] 1 (Nat.le_refl _) (by unfold maxLen; omega) rfl
  have HAP := Lib.hid (own_apart A.r0 ht9 (Nat.le_refl _))
  replace A := (A.alloc (.cells #[.string xt] 9)).own (l := [xt]) (own_mono ht9 A.bel.size)
  rw [hsz9] at A HAP
  obtain ⟨W10, hW10⟩ : ∃ X, X = W9.alloc (.cells #[.string xt] 9) := ⟨_, rfl⟩
  rw [← hW10]
  rw [← hW10] at A
  clear hW10
  clear ht9 hsz9
  clear hcO fO hcZ fZ hcX hcP
  have hcO := A.b0.cell
  have fO := A.b0.frozen
  have hcZ := A.b1.cell
  have fZ := A.b1.frozen
  have hcX := A.b2.cell
  have hcP := A.b3.cell
  have hzz : w.heap.size ≤ w.heap.size + 1 + 1 := by omega
  have LST := Lib.hid (A.last A.b1 hzz)
  unfold zeroPo at hcZ
  go_wp2_with fail
  refine bodyPost_ret (v := poV e p b (i + 1) (.slice ua l.length uc) (.slice (some ⟨W8.heap.size, 0, none⟩) 1 1) false 0) (by simp [results, Try.results79, go_sem, poV, *]) rfl ?_
  refine ⟨_, _, by rw [HR.out], ?_, ?_, (apart_symm HAP.out), (LST.out _ _ _ _ _ _ _ _).1⟩
  · rw [HR.out]
    exact (LST.out _ _ _ _ _ _ _ _).2 _ (.tail _ (.head _))
  · rw [HR.out]
    exact (LST.out _ _ _ _ _ _ _ _).2 _ (.head _)
set_option maxRecDepth 100000 in
set_option maxHeartbeats 2000000 in
theorem hear_same_1 (e p b i : Int) (v : Value) (l : List ByteArray) (xe xc xn xa : Int) (xt : ByteArray) (w : World) (h : StsAt w v l) (hr : ppRight e p b i l = true) (hx : pkRight xe xc xn xa xt = true) (g1 : p = xe) (g2 : e = xc) (g3 : b < xa) (g4 : ¬ xa ≤ b + (l.length : Int)) (hnum : ¬ xn = i + 1) :
    Calls Try.prog 79 #[ppV e p b i v, pkV xe xc xn xa xt] w (PoPost (hearIn e p b i l xe xc xn xa xt) w) := by
  obtain ⟨hb0, hb1, hn, hsum, _, hi0, hi1, hp0, hp1⟩ := ppRight_more hr
  obtain ⟨hx0, hx1, hx2, hx3, hx4⟩ := pkRight_more hx
  clear hr hx
  have HC := Lib.hid (fun (W' : World) (hb : Below w.heap.size w W') => specCopy_any e p b i v l W' (h.kept hb) (by omega))
  obtain ⟨a, cap, rfl⟩ := h.form
  clear h
  have HR : Hid (hearIn e p b i l xe xc xn xa xt = ⟨e, p, b, i, l, [], false, 0⟩) := Lib.hid (by unfold hearIn; rw [if_neg (by omega), if_neg (by omega), if_pos g2.symm]; unfold hearB; rw [if_neg (by omega), if_neg hnum])
  subst g1
  subst g2
  unfold ppV pkV at *
  go_enter Try.func79, Try.ntmps79
  go_wp2_with fail
  refine (HC.out _ (bel3 _ _ _ _)).mono ?_
  rintro x w1 ⟨u, rfl, hown, hb1⟩
  have A := (((LawAt.start3 w 31 #[.int .i64 e, .int .i64 p, .int .i64 b, .int .i64 i, .slice a l.length cap] 26 #[.int .i64 p, .int .i64 e, .int .i64 xn, .int .i64 xa, .string xt] 33 zeroPo).kept hb1).own (own_mono (B' := w.heap.size) hown (by simp only [World.size_alloc]; omega)))
  have hapu := (hown.lt)
  obtain ⟨ua, uc, rfl⟩ := own_form hown
  clear hown hb1 hapu
  have hbs := A.b0.lt
  unfold ppV
  go_upto_region 2 with fail
  replace A := A.new 33 #[.int .i64 e, .int .i64 p, .int .i64 b, .int .i64 i, .slice ua l.length uc, .slice none 0 0, .bool false, .int .i64 0]
  obtain ⟨q, hq⟩ : ∃ q, q = w1.heap.size := ⟨_, rfl⟩
  obtain ⟨W2, hW2⟩ : ∃ X, X = w1.alloc (.cells #[.int .i64 e, .int .i64 p, .int .i64 b, .int .i64 i, .slice ua l.length uc, .slice none 0 0, .bool false, .int .i64 0] 33) := ⟨_, rfl⟩
  have hq3 : w.heap.size + 1 + 1 < q := by rw [hq]; exact hbs
  rw [← hW2, ← hq]
  rw [← hW2, ← hq] at A
  clear hW2 hq hbs HC
  have hcO := A.b0.cell
  have fO := A.b0.frozen
  have hcZ := A.b1.cell
  have fZ := A.b1.frozen
  have hcX := A.b2.cell
  have hcP := A.b3.cell
  go_wp2_with fail
  have hd1 : decide (b < xa) = true := decide_eq_true (by omega)
  have hlt1 : b < xa := by omega
  have hd2 : decide (xa ≤ b + (l.length : Int)) = false := decide_eq_false (by omega)
  have hws : IntKind.i64.wrap (b + (l.length : Int)) = b + (l.length : Int) := by simp only [IntKind.wrap_i64]; omega
  go_quiet (fail)
  replace A := A.drewN nq
  generalize W2.drewN nq = W4 at A ⊢
  clear hcO fO hcZ fZ hcX hcP hd1 hd2 hws
  have hcO := A.b0.cell
  have fO := A.b0.frozen
  have hcZ := A.b1.cell
  have fZ := A.b1.frozen
  have hcX := A.b2.cell
  have hcP := A.b3.cell
  go_wp2_with fail
  have hd3 : (xn == i + 1) = false := by simpa using hnum
  have hwi : IntKind.i64.wrap (i + 1) = i + 1 := by simp only [IntKind.wrap_i64]; omega
  go_quiet (fail)
  replace A := A.drewN nq
  generalize W4.drewN nq = W8 at A ⊢
  clear hcO fO hcZ fZ hcX hcP hd3 hwi
  have hcO := A.b0.cell
  have fO := A.b0.frozen
  have hcZ := A.b1.cell
  have fZ := A.b1.frozen
  have hcX := A.b2.cell
  have hcP := A.b3.cell
  have hzz : w.heap.size ≤ w.heap.size + 1 + 1 := by omega
  have LST := Lib.hid (A.last A.b1 hzz)
  unfold zeroPo at hcZ
  go_wp2_with fail
  refine bodyPost_ret (v := poV e p b i (.slice ua l.length uc) (.slice none 0 0) false 0) (by simp [results, Try.results79, go_sem, poV, *]) rfl ?_
  refine ⟨_, _, by rw [HR.out], ?_, ?_, (apart_symm (.inl rfl)), (LST.out _ _ _ _ _ _ _ _).1⟩
  · rw [HR.out]
    exact (LST.out _ _ _ _ _ _ _ _).2 _ (.head _)
  · rw [HR.out]
    exact World.ownsRow_nil _ _ _ _
set_option maxRecDepth 100000 in
set_option maxHeartbeats 2000000 in
theorem hear_same_1n (e p b i : Int) (v : Value) (l : List ByteArray) (xe xc xn xa : Int) (xt : ByteArray) (w : World) (h : StsAt w v l) (hr : ppRight e p b i l = true) (hx : pkRight xe xc xn xa xt = true) (g1 : p = xe) (g2 : e = xc) (g3 : b < xa) (g4 : ¬ xa ≤ b + (l.length : Int)) (hnum : xn = i + 1) :
    Calls Try.prog 79 #[ppV e p b i v, pkV xe xc xn xa xt] w (PoPost (hearIn e p b i l xe xc xn xa xt) w) := by
  obtain ⟨hb0, hb1, hn, hsum, _, hi0, hi1, hp0, hp1⟩ := ppRight_more hr
  obtain ⟨hx0, hx1, hx2, hx3, hx4⟩ := pkRight_more hx
  clear hr hx
  have HC := Lib.hid (fun (W' : World) (hb : Below w.heap.size w W') => specCopy_any e p b i v l W' (h.kept hb) (by omega))
  obtain ⟨a, cap, rfl⟩ := h.form
  clear h
  have HR : Hid (hearIn e p b i l xe xc xn xa xt = ⟨e, p, b, xn, l, [xt], false, 0⟩) := Lib.hid (by unfold hearIn; rw [if_neg (by omega), if_neg (by omega), if_pos g2.symm]; unfold hearB; rw [if_neg (by omega), if_pos hnum])
  subst g1
  subst g2
  subst hnum
  unfold ppV pkV at *
  go_enter Try.func79, Try.ntmps79
  go_wp2_with fail
  refine (HC.out _ (bel3 _ _ _ _)).mono ?_
  rintro x w1 ⟨u, rfl, hown, hb1⟩
  have A := (((LawAt.start3 w 31 #[.int .i64 e, .int .i64 p, .int .i64 b, .int .i64 i, .slice a l.length cap] 26 #[.int .i64 p, .int .i64 e, .int .i64 (i + 1), .int .i64 xa, .string xt] 33 zeroPo).kept hb1).own (own_mono (B' := w.heap.size) hown (by simp only [World.size_alloc]; omega)))
  have hapu := (hown.lt)
  obtain ⟨ua, uc, rfl⟩ := own_form hown
  clear hown hb1 hapu
  have hbs := A.b0.lt
  unfold ppV
  go_upto_region 2 with fail
  replace A := A.new 33 #[.int .i64 e, .int .i64 p, .int .i64 b, .int .i64 i, .slice ua l.length uc, .slice none 0 0, .bool false, .int .i64 0]
  obtain ⟨q, hq⟩ : ∃ q, q = w1.heap.size := ⟨_, rfl⟩
  obtain ⟨W2, hW2⟩ : ∃ X, X = w1.alloc (.cells #[.int .i64 e, .int .i64 p, .int .i64 b, .int .i64 i, .slice ua l.length uc, .slice none 0 0, .bool false, .int .i64 0] 33) := ⟨_, rfl⟩
  have hq3 : w.heap.size + 1 + 1 < q := by rw [hq]; exact hbs
  rw [← hW2, ← hq]
  rw [← hW2, ← hq] at A
  clear hW2 hq hbs HC
  have hcO := A.b0.cell
  have fO := A.b0.frozen
  have hcZ := A.b1.cell
  have fZ := A.b1.frozen
  have hcX := A.b2.cell
  have hcP := A.b3.cell
  go_wp2_with fail
  have hd1 : decide (b < xa) = true := decide_eq_true (by omega)
  have hlt1 : b < xa := by omega
  have hd2 : decide (xa ≤ b + (l.length : Int)) = false := decide_eq_false (by omega)
  have hws : IntKind.i64.wrap (b + (l.length : Int)) = b + (l.length : Int) := by simp only [IntKind.wrap_i64]; omega
  go_quiet (fail)
  replace A := A.drewN nq
  generalize W2.drewN nq = W4 at A ⊢
  clear hcO fO hcZ fZ hcX hcP hd1 hd2 hws
  have hcO := A.b0.cell
  have fO := A.b0.frozen
  have hcZ := A.b1.cell
  have fZ := A.b1.frozen
  have hcX := A.b2.cell
  have hcP := A.b3.cell
  go_wp2_with fail
  have hd3 : ((i + 1) == i + 1) = true := by simp
  have hwi : IntKind.i64.wrap (i + 1) = i + 1 := by simp only [IntKind.wrap_i64]; omega
  go_quiet (fail)
  replace A := A.drewN nq
  generalize W4.drewN nq = W8 at A ⊢
  clear hcO fO hcZ fZ hcX hcP hd3 hwi
  have hcO := A.b0.cell
  have fO := A.b0.frozen
  have hcZ := A.b1.cell
  have fZ := A.b1.frozen
  have hcX := A.b2.cell
  have hcP := A.b3.cell
  have hqlt : q < W8.heap.size := A.b0.lt
  go_upto_region 16 with fail
  clear hqlt
  have hne : ∀ x ∈ [(w.heap.size + 1 + 1, 33, zeroPo), (w.heap.size + 1, 26, #[.int .i64 p, .int .i64 e, .int .i64 (i + 1), .int .i64 xa, .string xt]), (w.heap.size, 31, #[.int .i64 e, .int .i64 p, .int .i64 b, .int .i64 i, .slice a l.length cap])], x.1 ≠ q := by simp; omega
  have hwq : w.heap.size ≤ q := by omega
  have HNE := Lib.hid hne
  replace A := A.set hwq HNE.out (by decide) 3 (.int .i64 (i + 1))
  replace A := A.set hwq HNE.out (by decide) 5 (.slice (some ⟨W8.heap.size, 0, none⟩) 1 1)
  simp only [List.setIfInBounds_toArray, List.set_cons_zero, List.set_cons_succ] at A
  obtain ⟨W9, hW9⟩ : ∃ X, X = (W8.setCell ⟨q, 3, none⟩ (.int .i64 (i + 1))).setCell ⟨q, 5, none⟩ (.slice (some ⟨W8.heap.size, 0, none⟩) 1 1) := ⟨_, rfl⟩
  have hsz9 : W9.heap.size = W8.heap.size := by rw [hW9]; simp
  rw [← hW9]
  rw [← hW9] at A
  clear hW9
  have ht9 := World.ownsRow_lit (base := W9.heap.size) (e := 9) (size := 1) W9 #[.string xt] 1 (Nat.le_refl _) (by unfold maxLen; omega) rfl
  have HAP := Lib.hid (own_apart A.r0 ht9 (Nat.le_refl _))
  replace A := (A.alloc (.cells #[.string xt] 9)).own (l := [xt]) (own_mono ht9 A.bel.size)
  rw [hsz9] at A HAP
  obtain ⟨W10, hW10⟩ : ∃ X, X = W9.alloc (.cells #[.string xt] 9) := ⟨_, rfl⟩
  rw [← hW10]
  rw [← hW10] at A
  clear hW10
  clear ht9 hsz9
  clear hcO fO hcZ fZ hcX hcP
  have hcO := A.b0.cell
  have fO := A.b0.frozen
  have hcZ := A.b1.cell
  have fZ := A.b1.frozen
  have hcX := A.b2.cell
  have hcP := A.b3.cell
  have hzz : w.heap.size ≤ w.heap.size + 1 + 1 := by omega
  have LST := Lib.hid (A.last A.b1 hzz)
  unfold zeroPo at hcZ
  go_wp2_with fail
  refine bodyPost_ret (v := poV e p b (i + 1) (.slice ua l.length uc) (.slice (some ⟨W8.heap.size, 0, none⟩) 1 1) false 0) (by simp [results, Try.results79, go_sem, poV, *]) rfl ?_
  refine ⟨_, _, by rw [HR.out], ?_, ?_, (apart_symm HAP.out), (LST.out _ _ _ _ _ _ _ _).1⟩
  · rw [HR.out]
    exact (LST.out _ _ _ _ _ _ _ _).2 _ (.tail _ (.head _))
  · rw [HR.out]
    exact (LST.out _ _ _ _ _ _ _ _).2 _ (.head _)
end Go.Proofs.Ytfmhccmaeonbhaa
