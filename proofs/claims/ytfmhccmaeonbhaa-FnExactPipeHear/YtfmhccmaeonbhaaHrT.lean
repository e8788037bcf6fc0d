/- PipeHear, of the model (written by tools/genHear.py): the ways that cut what is acknowledged. -/
import Derived.Test.YtfmhccmaeonbhaaHrM
namespace Go.Proofs.Ytfmhccmaeonbhaa
open Go.RowKit
set_option linter.unusedVariables false
set_option maxRecDepth 100000 in
set_option maxHeartbeats 2000000 in
theorem hear_same_2 (e p b i : Int) (v : Value) (l : List ByteArray) (xe xc xn xa : Int) (xt : ByteArray) (w : World) (h : StsAt w v l) (hr : ppRight e p b i l = true) (hx : pkRight xe xc xn xa xt = true) (g1 : p = xe) (g2 : e = xc) (g3 : b < xa) (g4 : xa ≤ b + (l.length : Int)) (hnum : ¬ xn = i + 1) :
    Calls Try.prog 79 #[ppV e p b i v, pkV xe xc xn xa xt] w (PoPost (hearIn e p b i l xe xc xn xa xt) w) := by
  obtain ⟨hb0, hb1, hn, hsum, _, hi0, hi1, hp0, hp1⟩ := ppRight_more hr
  obtain ⟨hx0, hx1, hx2, hx3, hx4⟩ := pkRight_more hx
  clear hr hx
  have HC := Lib.hid (fun (W' : World) (hb : Below w.heap.size w W') => specCopy_any e p b i v l W' (h.kept hb) (by omega))
  obtain ⟨a, cap, rfl⟩ := h.form
  clear h
  have HR : Hid (hearIn e p b i l xe xc xn xa xt = ⟨e, p, xa, i, l.drop (xa - b).toNat, [], false, 0⟩) := Lib.hid (by unfold hearIn; rw [if_neg (by omega), if_neg (by omega), if_pos g2.symm]; unfold hearB; rw [if_pos ⟨g3, g4⟩, if_neg hnum])
  subst g1
  subst g2
  unfold ppV pkV at *
  go_enter Try.func79, Try.ntmps79
  go_wp2_with fail
  refine (HC.out _ (bel3 _ _ _ _)).mono ?_
  rintro x w1 ⟨u, rfl, hown, hb1⟩
  have A := (((LawAt.start3 w 31 #[.int .i64 e, .int .i64 p, .int .i64 b, .int .i64 i, .slice a l.length cap] 26 #[.int .i64 p, .int .i64 e, .int .i64 xn, .int .i64 xa, .string xt] 33 zeroPo).kept hb1).own (own_mono (B' := w.heap.size) hown (by simp only [World.size_alloc]; omega)))
  have hapu := (hown.lt)
  obtain ⟨ua, uc, rfl⟩ := own_form hown
  clear hown hb1 hapu
  have hbs := A.b0.lt
  unfold ppV
  go_upto_region 2 with fail
  replace A := A.new 33 #[.int .i64 e, .int .i64 p, .int .i64 b, .int .i64 i, .slice ua l.length uc, .slice none 0 0, .bool false, .int .i64 0]
  obtain ⟨q, hq⟩ : ∃ q, q = w1.heap.size := ⟨_, rfl⟩
  obtain ⟨W2, hW2⟩ : ∃ X, X = w1.alloc (.cells #[.int .i64 e, .int .i64 p, .int .i64 b, .int .i64 i, .slice ua l.length uc, .slice none 0 0, .bool false, .int .i64 0] 33) := ⟨_, rfl⟩
  have hq3 : w.heap.size + 1 + 1 < q := by rw [hq]; exact hbs
  rw [← hW2, ← hq]
  rw [← hW2, ← hq] at A
  clear hW2 hq hbs HC
  have hcO := A.b0.cell
  have fO := A.b0.frozen
  have hcZ := A.b1.cell
  have fZ := A.b1.frozen
  have hcX := A.b2.cell
  have hcP := A.b3.cell
  go_wp2_with fail
  have hd1 : decide (b < xa) = true := decide_eq_true (by omega)
  have hlt1 : b < xa := by omega
  have hd2 : decide (xa ≤ b + (l.length : Int)) = true := decide_eq_true (by omega)
  have hws : IntKind.i64.wrap (b + (l.length : Int)) = b + (l.length : Int) := by simp only [IntKind.wrap_i64]; omega
  go_quiet (fail)
  replace A := A.drewN nq
  generalize W2.drewN nq = W4 at A ⊢
  clear hcO fO hcZ fZ hcX hcP hd1 hd2 hws
  have hcO := A.b0.cell
  have fO := A.b0.frozen
  have hcZ := A.b1.cell
  have fZ := A.b1.frozen
  have hcX := A.b2.cell
  have hcP := A.b3.cell
  go_upto_region 11 with fail
  obtain ⟨k, hk⟩ : ∃ k : Nat, xa - b = (k : Int) := ⟨(xa - b).toNat, by omega⟩
  have hkl : k ≤ l.length := by omega
  obtain ⟨hS, sa, sc, hsv⟩ := cutL_at (StsAt.of_own A.r0) k hkl rfl
  have hsl := fun W => cutL_run ua l.length uc k (xa - b) hk hkl W
  rw [hsv] at hsl hS
  have hwd : IntKind.i64.wrap (xa - b) = xa - b := by simp only [IntKind.wrap_i64]; omega
  have HD : Hid (l.drop (xa - b).toNat = l.drop k) := Lib.hid (by rw [hk]; rfl)
  have hl2 : (l.drop k).length ≤ 60 := by rw [List.length_drop]; omega
  generalize l.drop k = l2 at *
  have hempty : ((W4.alloc (.cells #[] 9)).drew).ownsRow w.heap.size 9 1 (.slice (some ⟨W4.heap.size, 0, none⟩) 0 0) ([] : List ByteArray).length (strsV []) := World.ownsRow_lit (base := w.heap.size) (e := 9) (size := 1) W4 #[] 0 A.bel.size (Nat.zero_le _) rfl
  obtain ⟨a5, c5, n5, w5, hrun, hn5, hown5, hg5⟩ := run_append_strs ((W4.alloc (.cells #[] 9)).drew) w.heap.size (.slice (some ⟨W4.heap.size, 0, none⟩) 0 0) [] l2 hempty sa sc (hS.alloc _).drew (Nat.zero_le _) (by omega) (by have := A.bel.size; simp; omega) 29
  have HB5 : Hid (Below W4.drew.heap.size W4.drew w5) := Lib.hid (grown_new (W := W4.drew) hg5)
  rw [List.nil_append] at hn5 hown5
  have HO5 : Hid (w5.ownsRow w.heap.size 9 1 (.slice a5 n5 c5) l2.length (strsV l2)) := Lib.hid (by rw [← hn5]; exact hown5)
  have HN5 := Lib.hid hn5
  have hne : ∀ x ∈ [(w.heap.size + 1 + 1, 33, zeroPo), (w.heap.size + 1, 26, #[.int .i64 p, .int .i64 e, .int .i64 xn, .int .i64 xa, .string xt]), (w.heap.size, 31, #[.int .i64 e, .int .i64 p, .int .i64 b, .int .i64 i, .slice a l.length cap])], x.1 ≠ q := by simp; omega
  have hwq : w.heap.size ≤ q := by omega
  replace A := A.drew
  clear hS hsv hempty hown5 hn5 hg5 hk
  have HNE := Lib.hid hne
  clear hne
  clear hcO fO hcZ fZ hcX hcP
  have A5 := (A.kept HB5.out).own HO5.out
  have hc5 := A5.b0.cell
  have f5 := A5.b0.frozen
  have hcO : ∀ o, W4.cell? ⟨q, o, none⟩ = _ := A.b0.cell
  have hcX : ∀ o, W4.cell? ⟨w.heap.size + 1, o, none⟩ = _ := A.b2.cell
  have hqlt : q < W4.heap.size := A.b0.lt
  have hxlt : w.heap.size + 1 < W4.heap.size := A.b2.lt
  have HRUN := Lib.hid hrun
  clear hrun
  go_cut [71] from 57 to 73 (fun s71 wx => wx = w5.setCell ⟨q, 4, none⟩ (.slice a5 n5 c5))
  case first =>
    go_region_law (refine step_run_append rfl _ _ _ rfl _ _ _ _ rfl rfl HRUN.out ?_)
    all_goals
      go_wp2_with fail
      go_meet
      rfl
  case rest =>
  obtain rfl := hcut
  clear hqlt hxlt hc5 f5 hcO hcX
  replace A := A5.set hwq HNE.out (by decide) 4 (.slice a5 n5 c5)
  clear A5
  simp only [List.setIfInBounds_toArray, List.set_cons_zero, List.set_cons_succ] at A
  obtain ⟨W6, hW6⟩ : ∃ X, X = w5.setCell ⟨q, 4, none⟩ (.slice a5 n5 c5) := ⟨_, rfl⟩
  rw [← hW6]
  rw [← hW6] at A
  clear hW6 HRUN HB5 HO5 hsl
  have hcO := A.b0.cell
  have fO := A.b0.frozen
  have hcZ := A.b1.cell
  have fZ := A.b1.frozen
  have hcX := A.b2.cell
  have hcP := A.b3.cell
  go_upto_region 13 with fail
  replace A := A.set hwq HNE.out (by decide) 2 (.int .i64 xa)
  simp only [List.setIfInBounds_toArray, List.set_cons_zero, List.set_cons_succ] at A
  obtain ⟨W7, hW7⟩ : ∃ X, X = W6.setCell ⟨q, 2, none⟩ (.int .i64 xa) := ⟨_, rfl⟩
  rw [← hW7]
  rw [← hW7] at A
  clear hW7
  clear hcO fO hcZ fZ hcX hcP
  have hcO := A.b0.cell
  have fO := A.b0.frozen
  have hcZ := A.b1.cell
  have fZ := A.b1.frozen
  have hcX := A.b2.cell
  have hcP := A.b3.cell
  have hd3 : (xn == i + 1) = false := by simpa using hnum
  have hwi : IntKind.i64.wrap (i + 1) = i + 1 := by simp only [IntKind.wrap_i64]; omega
  go_quiet (fail)
  replace A := A.drewN nq
  generalize W7.drewN nq = W8 at A ⊢
  clear hcO fO hcZ fZ hcX hcP hd3 hwi
  have hcO := A.b0.cell
  have fO := A.b0.frozen
  have hcZ := A.b1.cell
  have fZ := A.b1.frozen
  have hcX := A.b2.cell
  have hcP := A.b3.cell
  have hzz : w.heap.size ≤ w.heap.size + 1 + 1 := by omega
  have LST := Lib.hid (A.last A.b1 hzz)
  unfold zeroPo at hcZ
  go_wp2_with fail
  refine bodyPost_ret (v := poV e p xa i (.slice a5 n5 c5) (.slice none 0 0) false 0) (by simp [results, Try.results79, go_sem, poV, *]) rfl ?_
  refine ⟨_, _, by rw [HR.out], ?_, ?_, (apart_symm (.inl rfl)), (LST.out _ _ _ _ _ _ _ _).1⟩
  · rw [HR.out]
    dsimp only
    rw [HD.out]
    exact (LST.out _ _ _ _ _ _ _ _).2 _ (.head _)
  · rw [HR.out]
    exact World.ownsRow_nil _ _ _ _
set_option maxRecDepth 100000 in
set_option maxHeartbeats 2000000 in
theorem hear_same_2n (e p b i : Int) (v : Value) (l : List ByteArray) (xe xc xn xa : Int) (xt : ByteArray) (w : World) (h : StsAt w v l) (hr : ppRight e p b i l = true) (hx : pkRight xe xc xn xa xt = true) (g1 : p = xe) (g2 : e = xc) (g3 : b < xa) (g4 : xa ≤ b + (l.length : Int)) (hnum : xn = i + 1) :
    Calls Try.prog 79 #[ppV e p b i v, pkV xe xc xn xa xt] w (PoPost (hearIn e p b i l xe xc xn xa xt) w) := by
  obtain ⟨hb0, hb1, hn, hsum, _, hi0, hi1, hp0, hp1⟩ := ppRight_more hr
  obtain ⟨hx0, hx1, hx2, hx3, hx4⟩ := pkRight_more hx
  clear hr hx
  have HC := Lib.hid (fun (W' : World) (hb : Below w.heap.size w W') => specCopy_any e p b i v l W' (h.kept hb) (by omega))
  obtain ⟨a, cap, rfl⟩ := h.form
  clear h
  have HR : Hid (hearIn e p b i l xe xc xn xa xt = ⟨e, p, xa, xn, l.drop (xa - b).toNat, [xt], false, 0⟩) := Lib.hid (by unfold hearIn; rw [if_neg (by omega), if_neg (by omega), if_pos g2.symm]; unfold hearB; rw [if_pos ⟨g3, g4⟩, if_pos hnum])
  subst g1
  subst g2
  subst hnum
  unfold ppV pkV at *
  go_enter Try.func79, Try.ntmps79
  go_wp2_with fail
  refine (HC.out _ (bel3 _ _ _ _)).mono ?_
  rintro x w1 ⟨u, rfl, hown, hb1⟩
  have A := (((LawAt.start3 w 31 #[.int .i64 e, .int .i64 p, .int .i64 b, .int .i64 i, .slice a l.length cap] 26 #[.int .i64 p, .int .i64 e, .int .i64 (i + 1), .int .i64 xa, .string xt] 33 zeroPo).kept hb1).own (own_mono (B' := w.heap.size) hown (by simp only [World.size_alloc]; omega)))
  have hapu := (hown.lt)
  obtain ⟨ua, uc, rfl⟩ := own_form hown
  clear hown hb1 hapu
  have hbs := A.b0.lt
  unfold ppV
  go_upto_region 2 with fail
  replace A := A.new 33 #[.int .i64 e, .int .i64 p, .int .i64 b, .int .i64 i, .slice ua l.length uc, .slice none 0 0, .bool false, .int .i64 0]
  obtain ⟨q, hq⟩ : ∃ q, q = w1.heap.size := ⟨_, rfl⟩
  obtain ⟨W2, hW2⟩ : ∃ X, X = w1.alloc (.cells #[.int .i64 e, .int .i64 p, .int .i64 b, .int .i64 i, .slice ua l.length uc, .slice none 0 0, .bool false, .int .i64 0] 33) := ⟨_, rfl⟩
  have hq3 : w.heap.size + 1 + 1 < q := by rw [hq]; exact hbs
  rw [← hW2, ← hq]
  rw [← hW2, ← hq] at A
  clear hW2 hq hbs HC
  have hcO := A.b0.cell
  have fO := A.b0.frozen
  have hcZ := A.b1.cell
  have fZ := A.b1.frozen
  have hcX := A.b2.cell
  have hcP := A.b3.cell
  go_wp2_with fail
  have hd1 : decide (b < xa) = true := decide_eq_true (by omega)
  have hlt1 : b < xa := by omega
  have hd2 : decide (xa ≤ b + (l.length : Int)) = true := decide_eq_true (by omega)
  have hws : IntKind.i64.wrap (b + (l.length : Int)) = b + (l.length : Int) := by simp only [IntKind.wrap_i64]; omega
  go_quiet (fail)
  replace A := A.drewN nq
  generalize W2.drewN nq = W4 at A ⊢
  clear hcO fO hcZ fZ hcX hcP hd1 hd2 hws
  have hcO := A.b0.cell
  have fO := A.b0.frozen
  have hcZ := A.b1.cell
  have fZ := A.b1.frozen
  have hcX := A.b2.cell
  have hcP := A.b3.cell
  go_upto_region 11 with fail
  obtain ⟨k, hk⟩ : ∃ k : Nat, xa - b = (k : Int) := ⟨(xa - b).toNat, by omega⟩
  have hkl : k ≤ l.length := by omega
  obtain ⟨hS, sa, sc, hsv⟩ := cutL_at (StsAt.of_own A.r0) k hkl rfl
  have hsl := fun W => cutL_run ua l.length uc k (xa - b) hk hkl W
  rw [hsv] at hsl hS
  have hwd : IntKind.i64.wrap (xa - b) = xa - b := by simp only [IntKind.wrap_i64]; omega
  have HD : Hid (l.drop (xa - b).toNat = l.drop k) := Lib.hid (by rw [hk]; rfl)
  have hl2 : (l.drop k).length ≤ 60 := by rw [List.length_drop]; omega
  generalize l.drop k = l2 at *
  have hempty : ((W4.alloc (.cells #[] 9)).drew).ownsRow w.heap.size 9 1 (.slice (some ⟨W4.heap.size, 0, none⟩) 0 0) ([] : List ByteArray).length (strsV []) := World.ownsRow_lit (base := w.heap.size) (e := 9) (size := 1) W4 #[] 0 A.bel.size (Nat.zero_le _) rfl
  obtain ⟨a5, c5, n5, w5, hrun, hn5, hown5, hg5⟩ := run_append_strs ((W4.alloc (.cells #[] 9)).drew) w.heap.size (.slice (some ⟨W4.heap.size, 0, none⟩) 0 0) [] l2 hempty sa sc (hS.alloc _).drew (Nat.zero_le _) (by omega) (by have := A.bel.size; simp; omega) 29
  have HB5 : Hid (Below W4.drew.heap.size W4.drew w5) := Lib.hid (grown_new (W := W4.drew) hg5)
  rw [List.nil_append] at hn5 hown5
  have HO5 : Hid (w5.ownsRow w.heap.size 9 1 (.slice a5 n5 c5) l2.length (strsV l2)) := Lib.hid (by rw [← hn5]; exact hown5)
  have HN5 := Lib.hid hn5
  have hne : ∀ x ∈ [(w.heap.size + 1 + 1, 33, zeroPo), (w.heap.size + 1, 26, #[.int .i64 p, .int .i64 e, .int .i64 (i + 1), .int .i64 xa, .string xt]), (w.heap.size, 31, #[.int .i64 e, .int .i64 p, .int .i64 b, .int .i64 i, .slice a l.length cap])], x.1 ≠ q := by simp; omega
  have hwq : w.heap.size ≤ q := by omega
  replace A := A.drew
  clear hS hsv hempty hown5 hn5 hg5 hk
  have HNE := Lib.hid hne
  clear hne
  clear hcO fO hcZ fZ hcX hcP
  have A5 := (A.kept HB5.out).own HO5.out
  have hc5 := A5.b0.cell
  have f5 := A5.b0.frozen
  have hcO : ∀ o, W4.cell? ⟨q, o, none⟩ = _ := A.b0.cell
  have hcX : ∀ o, W4.cell? ⟨w.heap.size + 1, o, none⟩ = _ := A.b2.cell
  have hqlt : q < W4.heap.size := A.b0.lt
  have hxlt : w.heap.size + 1 < W4.heap.size := A.b2.lt
  have HRUN := Lib.hid hrun
  clear hrun
  go_cut [71] from 57 to 73 (fun s71 wx => wx = w5.setCell ⟨q, 4, none⟩ (.slice a5 n5 c5))
  case first =>
    go_region_law (refine step_run_append rfl _ _ _ rfl _ _ _ _ rfl rfl HRUN.out ?_)
    all_goals
      go_wp2_with fail
      go_meet
      rfl
  case rest =>
  obtain rfl := hcut
  clear hqlt hxlt hc5 f5 hcO hcX
  replace A := A5.set hwq HNE.out (by decide) 4 (.slice a5 n5 c5)
  clear A5
  simp only [List.setIfInBounds_toArray, List.set_cons_zero, List.set_cons_succ] at A
  obtain ⟨W6, hW6⟩ : ∃ X, X = w5.setCell ⟨q, 4, none⟩ (.slice a5 n5 c5) := ⟨_, rfl⟩
  rw [← hW6]
  rw [← hW6] at A
  clear hW6 HRUN HB5 HO5 hsl
  have hcO := A.b0.cell
  have fO := A.b0.frozen
  have hcZ := A.b1.cell
  have fZ := A.b1.frozen
  have hcX := A.b2.cell
  have hcP := A.b3.cell
  go_upto_region 13 with fail
  replace A := A.set hwq HNE.out (by decide) 2 (.int .i64 xa)
  simp only [List.setIfInBounds_toArray, List.set_cons_zero, List.set_cons_succ] at A
  obtain ⟨W7, hW7⟩ : ∃ X, X = W6.setCell ⟨q, 2, none⟩ (.int .i64 xa) := ⟨_, rfl⟩
  rw [← hW7]
  rw [← hW7] at A
  clear hW7
  clear hcO fO hcZ fZ hcX hcP
  have hcO := A.b0.cell
  have fO := A.b0.frozen
  have hcZ := A.b1.cell
  have fZ := A.b1.frozen
  have hcX := A.b2.cell
  have hcP := A.b3.cell
  have hd3 : ((i + 1) == i + 1) = true := by simp
  have hwi : IntKind.i64.wrap (i + 1) = i + 1 := by simp only [IntKind.wrap_i64]; omega
  go_quiet (fail)
  replace A := A.drewN nq
  generalize W7.drewN nq = W8 at A ⊢
  clear hcO fO hcZ fZ hcX hcP hd3 hwi
  have hcO := A.b0.cell
  have fO := A.b0.frozen
  have hcZ := A.b1.cell
  have fZ := A.b1.frozen
  have hcX := A.b2.cell
  have hcP := A.b3.cell
  have hqlt : q < W8.heap.size := A.b0.lt
  go_upto_region 16 with fail
  clear hqlt
  replace A := A.set hwq HNE.out (by decide) 3 (.int .i64 (i + 1))
  replace A := A.set hwq HNE.out (by decide) 5 (.slice (some ⟨W8.heap.size, 0, none⟩) 1 1)
  simp only [List.setIfInBounds_toArray, List.set_cons_zero, List.set_cons_succ] at A
  obtain ⟨W9, hW9⟩ : ∃ X, X = (W8.setCell ⟨q, 3, none⟩ (.int .i64 (i + 1))).setCell ⟨q, 5, none⟩ (.slice (some ⟨W8.heap.size, 0, none⟩) 1 1) := ⟨_, rfl⟩
  have hsz9 : W9.heap.size = W8.heap.size := by rw [hW9]; simp
  rw [← hW9]
  rw [← hW9] at A
  clear hW9
  have ht9 := World.ownsRow_lit (base := W9.heap.size) (e := 9) (size := 1) W9 #[.string xt] 1 (Nat.le_refl _) (by unfold maxLen; omega) rfl
  have HAP := Lib.hid (own_apart A.r0 ht9 (Nat.le_refl _))
  replace A := (A.alloc (.cells #[.string xt] 9)).own (l := [xt]) (own_mono ht9 A.bel.size)
  rw [hsz9] at A HAP
  obtain ⟨W10, hW10⟩ : ∃ X, X = W9.alloc (.cells #[.string xt] 9) := ⟨_, rfl⟩
  rw [← hW10]
  rw [← hW10] at A
  clear hW10
  clear ht9 hsz9
  clear hcO fO hcZ fZ hcX hcP
  have hcO := A.b0.cell
  have fO := A.b0.frozen
  have hcZ := A.b1.cell
  have fZ := A.b1.frozen
  have hcX := A.b2.cell
  have hcP := A.b3.cell
  have hzz : w.heap.size ≤ w.heap.size + 1 + 1 := by omega
  have LST := Lib.hid (A.last A.b1 hzz)
  unfold zeroPo at hcZ
  go_wp2_with fail
  refine bodyPost_ret (v := poV e p xa (i + 1) (.slice a5 n5 c5) (.slice (some ⟨W8.heap.size, 0, none⟩) 1 1) false 0) (by simp [results, Try.results79, go_sem, poV, *]) rfl ?_
  refine ⟨_, _, by rw [HR.out], ?_, ?_, (apart_symm HAP.out), (LST.out _ _ _ _ _ _ _ _).1⟩
  · rw [HR.out]
    dsimp only
    rw [HD.out]
    exact (LST.out _ _ _ _ _ _ _ _).2 _ (.tail _ (.head _))
  · rw [HR.out]
    exact (LST.out _ _ _ _ _ _ _ _).2 _ (.head _)
end Go.Proofs.Ytfmhccmaeonbhaa
