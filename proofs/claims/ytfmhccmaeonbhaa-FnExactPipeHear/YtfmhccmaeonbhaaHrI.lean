/- PipeHear, of the program (written by tools/genHearI.py). -/
import Derived.Test.YtfmhccmaeonbhaaHrA
namespace Go.Proofs.Ytfmhccmaeonbhaa
open Go.RowKit
set_option linter.unusedVariables false

set_option maxRecDepth 100000 in
set_option maxHeartbeats 2000000 in
theorem hearI_past (e p b i : Int) (v : Value) (l : List ByteArray) (xe xc xn xa : Int) (xt : ByteArray) (w : World) (h : StsAt w v l) (hr : ppRight e p b i l = true) (hx : pkRight xe xc xn xa xt = true) (g1 : xe < p) :
    Calls Try.prog 36 #[ppV e p b i v, pkV xe xc xn xa xt] w (PoPost (hearIn e p b i l xe xc xn xa xt) w) := by
  obtain ⟨hb0, hb1, hn, hsum, hsz, hi0, hi1, hp0, hp1⟩ := ppRight_more hr
  obtain ⟨hx0, hx1, hx2, hx3, hx4⟩ := pkRight_more hx
  have HP := Lib.hid (fun (W' : World) (hb : Below w.heap.size w W') => implPipeRight_any e p b i v l W' (h.kept hb))
  have HK := Lib.hid (implPacketRight_any xe xc xn xa xt)
  rw [hr] at HP
  rw [hx] at HK
  clear hr hx
  have HCT := Lib.hid (fun (u : Value) (W' : World) (hu : StsAt W' u [xt]) => copied_any u [xt] W' hu (by simp) (fun s hs => by simp at hs; subst hs; omega))
  have HR : Hid (hearIn e p b i l xe xc xn xa xt = ⟨e, p, b, i, l, [], false, 0⟩) := Lib.hid (by unfold hearIn; rw [if_pos g1])
  obtain ⟨a, cap, rfl⟩ := h.form
  have hcl : l.length ≤ cap := by
    obtain ⟨a', cap', e, k1, _⟩ := h
    injection e with e1 e2 e3
    omega
  have HSL := Lib.hid h
  have HCL := Lib.hid (fun (u : Value) (W' : World) (hu : StsAt W' u l) => copied_any u l W' hu (by omega) (fun s hs => by have := hsz s hs; omega))
  clear h hsz hcl
  have g5 : ¬ p < xe := by omega
  have g6 : (xe == p) = false := by simp; omega
  unfold ppV pkV at *
  go_enter Try.func36, Try.ntmps36
  go_wp2_with fail
  refine (HP.out _ (bel3 _ _ _ _)).mono ?_
  rintro x w1 ⟨rfl, hb1⟩
  have A := (LawAt.start3 w 31 #[.int .i64 e, .int .i64 p, .int .i64 b, .int .i64 i, .slice a l.length cap] 26 #[.int .i64 xe, .int .i64 xc, .int .i64 xn, .int .i64 xa, .string xt] 33 zeroPo).kept hb1
  clear hb1
  have hcX := A.b1.cell
  have hcP := A.b2.cell
  go_wp2_with fail
  refine (HK.out _).mono ?_
  rintro x w2 ⟨rfl, hb2⟩
  replace A := A.kept hb2
  clear hb2 hcX hcP HP HK
  have hbs := A.b0.lt
  have hcX := A.b1.cell
  have hcP := A.b2.cell
  go_upto_region 4 with fail
  replace A := A.new 33 #[.int .i64 e, .int .i64 p, .int .i64 b, .int .i64 i, .slice a l.length cap, .slice none 0 0, .bool false, .int .i64 0]
  obtain ⟨q, hq⟩ : ∃ q, q = w2.heap.size := ⟨_, rfl⟩
  obtain ⟨W2, hW2⟩ : ∃ X, X = w2.alloc (.cells #[.int .i64 e, .int .i64 p, .int .i64 b, .int .i64 i, .slice a l.length cap, .slice none 0 0, .bool false, .int .i64 0] 33) := ⟨_, rfl⟩
  have hq3 : w.heap.size + 1 + 1 < q := by rw [hq]; exact hbs
  rw [← hW2, ← hq]
  rw [← hW2, ← hq] at A
  clear hW2 hq hbs hcX hcP
  have hne : ∀ x ∈ [(w.heap.size + 1 + 1, 33, zeroPo), (w.heap.size + 1, 26, #[.int .i64 xe, .int .i64 xc, .int .i64 xn, .int .i64 xa, .string xt]), (w.heap.size, 31, #[.int .i64 e, .int .i64 p, .int .i64 b, .int .i64 i, .slice a l.length cap])], x.1 ≠ q := by simp; omega
  have HNE := Lib.hid hne
  clear hne
  have hwq : w.heap.size ≤ q := by omega
  have hcO := A.b0.cell
  have fO := A.b0.frozen
  have hcX := A.b2.cell
  have hcP := A.b3.cell
  go_wp2_with fail
  refine (HCL.out _ _ (HSL.out.kept A.bel)).mono ?_
  rintro x w9 ⟨u9, rfl, ho9, hb9⟩
  replace A := (A.kept hb9).own (own_mono (B' := w.heap.size) ho9 A.bel.size)
  obtain ⟨ua, uc, rfl⟩ := own_form ho9
  clear hb9 ho9
  clear hcO fO hcX hcP
  have hcO := A.b0.cell
  have fO := A.b0.frozen
  have hcX := A.b2.cell
  have hcP := A.b3.cell
  go_upto_region 13 with fail
  replace A := A.set hwq HNE.out (by decide) 4 (.slice ua l.length uc)
  simp only [List.setIfInBounds_toArray, List.set_cons_zero, List.set_cons_succ] at A
  obtain ⟨W10, hW10⟩ : ∃ X, X = w9.setCell ⟨q, 4, none⟩ (.slice ua l.length uc) := ⟨_, rfl⟩
  rw [← hW10]
  rw [← hW10] at A
  clear hW10
  clear hcO fO hcX hcP
  have hcO := A.b0.cell
  have fO := A.b0.frozen
  have hcX := A.b2.cell
  have hcP := A.b3.cell
  have hcZ := A.b1.cell
  have fZ := A.b1.frozen
  have hzz : w.heap.size ≤ w.heap.size + 1 + 1 := by omega
  have LST := Lib.hid (A.last A.b1 hzz)
  unfold zeroPo at hcZ
  go_wp2_with fail
  refine bodyPost_ret (v := poV e p b i (.slice ua l.length uc) (.slice none 0 0) false 0) (by simp [results, Try.results36, go_sem, poV, *]) rfl ?_
  refine ⟨_, _, by rw [HR.out], ?_, ?_, (apart_symm (.inl rfl)), (LST.out _ _ _ _ _ _ _ _).1⟩
  · rw [HR.out]
    exact (LST.out _ _ _ _ _ _ _ _).2 _ (.head _)
  · rw [HR.out]
    exact World.ownsRow_nil _ _ _ _
set_option maxRecDepth 100000 in
set_option maxHeartbeats 2000000 in
theorem hearI_fresh_echo (e p b i : Int) (v : Value) (l : List ByteArray) (xe xc xn xa : Int) (xt : ByteArray) (w : World) (h : StsAt w v l) (hr : ppRight e p b i l = true) (hx : pkRight xe xc xn xa xt = true) (g1 : p < xe) (g2 : ¬ xc = e) :
    Calls Try.prog 36 #[ppV e p b i v, pkV xe xc xn xa xt] w (PoPost (hearIn e p b i l xe xc xn xa xt) w) := by
  obtain ⟨hb0, hb1, hn, hsum, hsz, hi0, hi1, hp0, hp1⟩ := ppRight_more hr
  obtain ⟨hx0, hx1, hx2, hx3, hx4⟩ := pkRight_more hx
  have HP := Lib.hid (fun (W' : World) (hb : Below w.heap.size w W') => implPipeRight_any e p b i v l W' (h.kept hb))
  have HK := Lib.hid (implPacketRight_any xe xc xn xa xt)
  rw [hr] at HP
  rw [hx] at HK
  clear hr hx
  have HCT := Lib.hid (fun (u : Value) (W' : World) (hu : StsAt W' u [xt]) => copied_any u [xt] W' hu (by simp) (fun s hs => by simp at hs; subst hs; omega))
  have HR : Hid (hearIn e p b i l xe xc xn xa xt = ⟨e, xe, 0, 0, [], [], true, 0⟩) := Lib.hid (by unfold hearIn; rw [if_neg (by omega), if_pos g1, if_neg g2])
  obtain ⟨a, cap, rfl⟩ := h.form
  have hcl : l.length ≤ cap := by
    obtain ⟨a', cap', e, k1, _⟩ := h
    injection e with e1 e2 e3
    omega
  have HSL := Lib.hid h
  have HCL := Lib.hid (fun (u : Value) (W' : World) (hu : StsAt W' u []) => copied_any u [] W' hu (by simp) (fun s hs => by cases hs))
  clear h hsz hcl
  have g6 : (xc == e) = false := by simpa using g2
  unfold ppV pkV at *
  go_enter Try.func36, Try.ntmps36
  go_wp2_with fail
  refine (HP.out _ (bel3 _ _ _ _)).mono ?_
  rintro x w1 ⟨rfl, hb1⟩
  have A := (LawAt.start3 w 31 #[.int .i64 e, .int .i64 p, .int .i64 b, .int .i64 i, .slice a l.length cap] 26 #[.int .i64 xe, .int .i64 xc, .int .i64 xn, .int .i64 xa, .string xt] 33 zeroPo).kept hb1
  clear hb1
  have hcX := A.b1.cell
  have hcP := A.b2.cell
  go_wp2_with fail
  refine (HK.out _).mono ?_
  rintro x w2 ⟨rfl, hb2⟩
  replace A := A.kept hb2
  clear hb2 hcX hcP HP HK
  have hbs := A.b0.lt
  have hcX := A.b1.cell
  have hcP := A.b2.cell
  go_upto_region 4 with fail
  replace A := A.new 33 #[.int .i64 e, .int .i64 p, .int .i64 b, .int .i64 i, .slice a l.length cap, .slice none 0 0, .bool false, .int .i64 0]
  obtain ⟨q, hq⟩ : ∃ q, q = w2.heap.size := ⟨_, rfl⟩
  obtain ⟨W2, hW2⟩ : ∃ X, X = w2.alloc (.cells #[.int .i64 e, .int .i64 p, .int .i64 b, .int .i64 i, .slice a l.length cap, .slice none 0 0, .bool false, .int .i64 0] 33) := ⟨_, rfl⟩
  have hq3 : w.heap.size + 1 + 1 < q := by rw [hq]; exact hbs
  rw [← hW2, ← hq]
  rw [← hW2, ← hq] at A
  clear hW2 hq hbs hcX hcP
  have hne : ∀ x ∈ [(w.heap.size + 1 + 1, 33, zeroPo), (w.heap.size + 1, 26, #[.int .i64 xe, .int .i64 xc, .int .i64 xn, .int .i64 xa, .string xt]), (w.heap.size, 31, #[.int .i64 e, .int .i64 p, .int .i64 b, .int .i64 i, .slice a l.length cap])], x.1 ≠ q := by simp; omega
  have HNE := Lib.hid hne
  clear hne
  have hwq : w.heap.size ≤ q := by omega
  have hcO := A.b0.cell
  have fO := A.b0.frozen
  have hcX := A.b2.cell
  have hcP := A.b3.cell
  go_upto_region 7 with fail
  replace A := A.set hwq HNE.out (by decide) 0 (.int .i64 e)
  replace A := A.set hwq HNE.out (by decide) 1 (.int .i64 xe)
  replace A := A.set hwq HNE.out (by decide) 2 (.int .i64 0)
  replace A := A.set hwq HNE.out (by decide) 3 (.int .i64 0)
  replace A := A.set hwq HNE.out (by decide) 4 (.slice none 0 0)
  replace A := A.set hwq HNE.out (by decide) 6 (.bool true)
  simp only [List.setIfInBounds_toArray, List.set_cons_zero, List.set_cons_succ] at A
  obtain ⟨W3, hW3⟩ : ∃ X, X = ((((((W2).setCell ⟨q, 0, none⟩ (.int .i64 e)).setCell ⟨q, 1, none⟩ (.int .i64 xe)).setCell ⟨q, 2, none⟩ (.int .i64 0)).setCell ⟨q, 3, none⟩ (.int .i64 0)).setCell ⟨q, 4, none⟩ (.slice none 0 0)).setCell ⟨q, 6, none⟩ (.bool true) := ⟨_, rfl⟩
  rw [← hW3]
  rw [← hW3] at A
  clear hW3
  clear hcO fO hcX hcP
  have hcO := A.b0.cell
  have fO := A.b0.frozen
  have hcX := A.b2.cell
  have hcP := A.b3.cell
  go_wp2_with fail
  refine (HCL.out _ _ ((StsAt.nil w).kept A.bel)).mono ?_
  rintro x w9 ⟨u9, rfl, ho9, hb9⟩
  replace A := (A.kept hb9).own (own_mono (B' := w.heap.size) ho9 A.bel.size)
  obtain ⟨ua, uc, hu9⟩ := own_form ho9
  have hu9' : u9 = .slice ua 0 uc := hu9
  clear hu9
  subst hu9'
  clear hb9 ho9
  clear hcO fO hcX hcP
  have hcO := A.b0.cell
  have fO := A.b0.frozen
  have hcX := A.b2.cell
  have hcP := A.b3.cell
  go_upto_region 13 with fail
  replace A := A.set hwq HNE.out (by decide) 4 (.slice ua 0 uc)
  simp only [List.setIfInBounds_toArray, List.set_cons_zero, List.set_cons_succ] at A
  obtain ⟨W10, hW10⟩ : ∃ X, X = w9.setCell ⟨q, 4, none⟩ (.slice ua 0 uc) := ⟨_, rfl⟩
  rw [← hW10]
  rw [← hW10] at A
  clear hW10
  clear hcO fO hcX hcP
  have hcO := A.b0.cell
  have fO := A.b0.frozen
  have hcX := A.b2.cell
  have hcP := A.b3.cell
  have hcZ := A.b1.cell
  have fZ := A.b1.frozen
  have hzz : w.heap.size ≤ w.heap.size + 1 + 1 := by omega
  have LST := Lib.hid (A.last A.b1 hzz)
  unfold zeroPo at hcZ
  go_wp2_with fail
  refine bodyPost_ret (v := poV e xe 0 0 (.slice ua 0 uc) (.slice none 0 0) true 0) (by simp [results, Try.results36, go_sem, poV, *]) rfl ?_
  refine ⟨_, _, by rw [HR.out], ?_, ?_, (apart_symm (.inl rfl)), (LST.out _ _ _ _ _ _ _ _).1⟩
  · rw [HR.out]
    exact (LST.out _ _ _ _ _ _ _ _).2 _ (.head _)
  · rw [HR.out]
    exact World.ownsRow_nil _ _ _ _
set_option maxRecDepth 100000 in
set_option maxHeartbeats 2000000 in
theorem hearI_same_echo (e p b i : Int) (v : Value) (l : List ByteArray) (xe xc xn xa : Int) (xt : ByteArray) (w : World) (h : StsAt w v l) (hr : ppRight e p b i l = true) (hx : pkRight xe xc xn xa xt = true) (g1 : p = xe) (g2 : ¬ xc = e) :
    Calls Try.prog 36 #[ppV e p b i v, pkV xe xc xn xa xt] w (PoPost (hearIn e p b i l xe xc xn xa xt) w) := by
  obtain ⟨hb0, hb1, hn, hsum, hsz, hi0, hi1, hp0, hp1⟩ := ppRight_more hr
  obtain ⟨hx0, hx1, hx2, hx3, hx4⟩ := pkRight_more hx
  have HP := Lib.hid (fun (W' : World) (hb : Below w.heap.size w W') => implPipeRight_any e p b i v l W' (h.kept hb))
  have HK := Lib.hid (implPacketRight_any xe xc xn xa xt)
  rw [hr] at HP
  rw [hx] at HK
  clear hr hx
  have HCT := Lib.hid (fun (u : Value) (W' : World) (hu : StsAt W' u [xt]) => copied_any u [xt] W' hu (by simp) (fun s hs => by simp at hs; subst hs; omega))
  have HR : Hid (hearIn e p b i l xe xc xn xa xt = ⟨e, p, b, i, l, [], false, 0⟩) := Lib.hid (by unfold hearIn; rw [if_neg (by omega), if_neg (by omega), if_neg g2])
  obtain ⟨a, cap, rfl⟩ := h.form
  have hcl : l.length ≤ cap := by
    obtain ⟨a', cap', e, k1, _⟩ := h
    injection e with e1 e2 e3
    omega
  have HSL := Lib.hid h
  have HCL := Lib.hid (fun (u : Value) (W' : World) (hu : StsAt W' u l) => copied_any u l W' hu (by omega) (fun s hs => by have := hsz s hs; omega))
  clear h hsz hcl
  subst g1
  have g6 : (xc == e) = false := by simpa using g2
  unfold ppV pkV at *
  go_enter Try.func36, Try.ntmps36
  go_wp2_with fail
  refine (HP.out _ (bel3 _ _ _ _)).mono ?_
  rintro x w1 ⟨rfl, hb1⟩
  have A := (LawAt.start3 w 31 #[.int .i64 e, .int .i64 p, .int .i64 b, .int .i64 i, .slice a l.length cap] 26 #[.int .i64 p, .int .i64 xc, .int .i64 xn, .int .i64 xa, .string xt] 33 zeroPo).kept hb1
  clear hb1
  have hcX := A.b1.cell
  have hcP := A.b2.cell
  go_wp2_with fail
  refine (HK.out _).mono ?_
  rintro x w2 ⟨rfl, hb2⟩
  replace A := A.kept hb2
  clear hb2 hcX hcP HP HK
  have hbs := A.b0.lt
  have hcX := A.b1.cell
  have hcP := A.b2.cell
  go_upto_region 4 with fail
  replace A := A.new 33 #[.int .i64 e, .int .i64 p, .int .i64 b, .int .i64 i, .slice a l.length cap, .slice none 0 0, .bool false, .int .i64 0]
  obtain ⟨q, hq⟩ : ∃ q, q = w2.heap.size := ⟨_, rfl⟩
  obtain ⟨W2, hW2⟩ : ∃ X, X = w2.alloc (.cells #[.int .i64 e, .int .i64 p, .int .i64 b, .int .i64 i, .slice a l.length cap, .slice none 0 0, .bool false, .int .i64 0] 33) := ⟨_, rfl⟩
  have hq3 : w.heap.size + 1 + 1 < q := by rw [hq]; exact hbs
  rw [← hW2, ← hq]
  rw [← hW2, ← hq] at A
  clear hW2 hq hbs hcX hcP
  have hne : ∀ x ∈ [(w.heap.size + 1 + 1, 33, zeroPo), (w.heap.size + 1, 26, #[.int .i64 p, .int .i64 xc, .int .i64 xn, .int .i64 xa, .string xt]), (w.heap.size, 31, #[.int .i64 e, .int .i64 p, .int .i64 b, .int .i64 i, .slice a l.length cap])], x.1 ≠ q := by simp; omega
  have HNE := Lib.hid hne
  clear hne
  have hwq : w.heap.size ≤ q := by omega
  have hcO := A.b0.cell
  have fO := A.b0.frozen
  have hcX := A.b2.cell
  have hcP := A.b3.cell
  go_wp2_with fail
  refine (HCL.out _ _ (HSL.out.kept A.bel)).mono ?_
  rintro x w9 ⟨u9, rfl, ho9, hb9⟩
  replace A := (A.kept hb9).own (own_mono (B' := w.heap.size) ho9 A.bel.size)
  obtain ⟨ua, uc, rfl⟩ := own_form ho9
  clear hb9 ho9
  clear hcO fO hcX hcP
  have hcO := A.b0.cell
  have fO := A.b0.frozen
  have hcX := A.b2.cell
  have hcP := A.b3.cell
  go_upto_region 13 with fail
  replace A := A.set hwq HNE.out (by decide) 4 (.slice ua l.length uc)
  simp only [List.setIfInBounds_toArray, List.set_cons_zero, List.set_cons_succ] at A
  obtain ⟨W10, hW10⟩ : ∃ X, X = w9.setCell ⟨q, 4, none⟩ (.slice ua l.length uc) := ⟨_, rfl⟩
  rw [← hW10]
  rw [← hW10] at A
  clear hW10
  clear hcO fO hcX hcP
  have hcO := A.b0.cell
  have fO := A.b0.frozen
  have hcX := A.b2.cell
  have hcP := A.b3.cell
  have hcZ := A.b1.cell
  have fZ := A.b1.frozen
  have hzz : w.heap.size ≤ w.heap.size + 1 + 1 := by omega
  have LST := Lib.hid (A.last A.b1 hzz)
  unfold zeroPo at hcZ
  go_wp2_with fail
  refine bodyPost_ret (v := poV e p b i (.slice ua l.length uc) (.slice none 0 0) false 0) (by simp [results, Try.results36, go_sem, poV, *]) rfl ?_
  refine ⟨_, _, by rw [HR.out], ?_, ?_, (apart_symm (.inl rfl)), (LST.out _ _ _ _ _ _ _ _).1⟩
  · rw [HR.out]
    exact (LST.out _ _ _ _ _ _ _ _).2 _ (.head _)
  · rw [HR.out]
    exact World.ownsRow_nil _ _ _ _
set_option maxRecDepth 100000 in
set_option maxHeartbeats 2000000 in
theorem hearI_fresh_o (e p b i : Int) (v : Value) (l : List ByteArray) (xe xc xn xa : Int) (xt : ByteArray) (w : World) (h : StsAt w v l) (hr : ppRight e p b i l = true) (hx : pkRight xe xc xn xa xt = true) (g1 : p < xe) (g2 : e = xc) (hnum : ¬ xn = 0 + 1) :
    Calls Try.prog 36 #[ppV e p b i v, pkV xe xc xn xa xt] w (PoPost (hearIn e p b i l xe xc xn xa xt) w) := by
  obtain ⟨hb0, hb1, hn, hsum, hsz, hi0, hi1, hp0, hp1⟩ := ppRight_more hr
  obtain ⟨hx0, hx1, hx2, hx3, hx4⟩ := pkRight_more hx
  have HP := Lib.hid (fun (W' : World) (hb : Below w.heap.size w W') => implPipeRight_any e p b i v l W' (h.kept hb))
  have HK := Lib.hid (implPacketRight_any xe xc xn xa xt)
  rw [hr] at HP
  rw [hx] at HK
  clear hr hx
  have HCT := Lib.hid (fun (u : Value) (W' : World) (hu : StsAt W' u [xt]) => copied_any u [xt] W' hu (by simp) (fun s hs => by simp at hs; subst hs; omega))
  have HR : Hid (hearIn e p b i l xe xc xn xa xt = ⟨e, xe, 0, 0, [], [], true, 0⟩) := Lib.hid (by unfold hearIn; rw [if_neg (by omega), if_pos g1, if_pos g2.symm]; unfold hearB; rw [if_neg (by rw [List.length_nil]; omega), if_neg hnum])
  obtain ⟨a, cap, rfl⟩ := h.form
  have hcl : l.length ≤ cap := by
    obtain ⟨a', cap', e, k1, _⟩ := h
    injection e with e1 e2 e3
    omega
  have HA := Lib.hid (fun W' => ackNo_any e xe 0 0 xa none 0 0 W' (by omega) (by omega) (by omega) (by omega))
  have HSL := Lib.hid h
  have HCL := Lib.hid (fun (u : Value) (W' : World) (hu : StsAt W' u []) => copied_any u [] W' hu (by simp) (fun s hs => by cases hs))
  clear h hsz hcl
  subst g2
  unfold ppV pkV at *
  go_enter Try.func36, Try.ntmps36
  go_wp2_with fail
  refine (HP.out _ (bel3 _ _ _ _)).mono ?_
  rintro x w1 ⟨rfl, hb1⟩
  have A := (LawAt.start3 w 31 #[.int .i64 e, .int .i64 p, .int .i64 b, .int .i64 i, .slice a l.length cap] 26 #[.int .i64 xe, .int .i64 e, .int .i64 xn, .int .i64 xa, .string xt] 33 zeroPo).kept hb1
  clear hb1
  have hcX := A.b1.cell
  have hcP := A.b2.cell
  go_wp2_with fail
  refine (HK.out _).mono ?_
  rintro x w2 ⟨rfl, hb2⟩
  replace A := A.kept hb2
  clear hb2 hcX hcP HP HK
  have hbs := A.b0.lt
  have hcX := A.b1.cell
  have hcP := A.b2.cell
  go_upto_region 4 with fail
  replace A := A.new 33 #[.int .i64 e, .int .i64 p, .int .i64 b, .int .i64 i, .slice a l.length cap, .slice none 0 0, .bool false, .int .i64 0]
  obtain ⟨q, hq⟩ : ∃ q, q = w2.heap.size := ⟨_, rfl⟩
  obtain ⟨W2, hW2⟩ : ∃ X, X = w2.alloc (.cells #[.int .i64 e, .int .i64 p, .int .i64 b, .int .i64 i, .slice a l.length cap, .slice none 0 0, .bool false, .int .i64 0] 33) := ⟨_, rfl⟩
  have hq3 : w.heap.size + 1 + 1 < q := by rw [hq]; exact hbs
  rw [← hW2, ← hq]
  rw [← hW2, ← hq] at A
  clear hW2 hq hbs hcX hcP
  have hne : ∀ x ∈ [(w.heap.size + 1 + 1, 33, zeroPo), (w.heap.size + 1, 26, #[.int .i64 xe, .int .i64 e, .int .i64 xn, .int .i64 xa, .string xt]), (w.heap.size, 31, #[.int .i64 e, .int .i64 p, .int .i64 b, .int .i64 i, .slice a l.length cap])], x.1 ≠ q := by simp; omega
  have HNE := Lib.hid hne
  clear hne
  have hwq : w.heap.size ≤ q := by omega
  have hcO := A.b0.cell
  have fO := A.b0.frozen
  have hcX := A.b2.cell
  have hcP := A.b3.cell
  go_upto_region 7 with fail
  replace A := A.set hwq HNE.out (by decide) 0 (.int .i64 e)
  replace A := A.set hwq HNE.out (by decide) 1 (.int .i64 xe)
  replace A := A.set hwq HNE.out (by decide) 2 (.int .i64 0)
  replace A := A.set hwq HNE.out (by decide) 3 (.int .i64 0)
  replace A := A.set hwq HNE.out (by decide) 4 (.slice none 0 0)
  replace A := A.set hwq HNE.out (by decide) 6 (.bool true)
  simp only [List.setIfInBounds_toArray, List.set_cons_zero, List.set_cons_succ] at A
  obtain ⟨W3, hW3⟩ : ∃ X, X = ((((((W2).setCell ⟨q, 0, none⟩ (.int .i64 e)).setCell ⟨q, 1, none⟩ (.int .i64 xe)).setCell ⟨q, 2, none⟩ (.int .i64 0)).setCell ⟨q, 3, none⟩ (.int .i64 0)).setCell ⟨q, 4, none⟩ (.slice none 0 0)).setCell ⟨q, 6, none⟩ (.bool true) := ⟨_, rfl⟩
  rw [← hW3]
  rw [← hW3] at A
  clear hW3
  clear hcO fO hcX hcP
  have hcO := A.b0.cell
  have fO := A.b0.frozen
  have hcX := A.b2.cell
  have hcP := A.b3.cell
  go_wp2_with fail
  refine (HA.out _).mono ?_
  rintro x w4 ⟨rfl, hb4⟩
  replace A := A.kept hb4
  clear hb4 HA
  clear hcO fO hcX hcP
  have hcO := A.b0.cell
  have fO := A.b0.frozen
  have hcX := A.b2.cell
  have hcP := A.b3.cell
  go_upto_region 9 with fail
  replace A := A.set hwq HNE.out (by decide) 0 (.int .i64 e)
  replace A := A.set hwq HNE.out (by decide) 1 (.int .i64 xe)
  replace A := A.set hwq HNE.out (by decide) 2 (.int .i64 0)
  replace A := A.set hwq HNE.out (by decide) 3 (.int .i64 0)
  replace A := A.set hwq HNE.out (by decide) 4 (.slice none 0 0)
  simp only [List.setIfInBounds_toArray, List.set_cons_zero, List.set_cons_succ] at A
  obtain ⟨W5, hW5⟩ : ∃ X, X = (((((w4).setCell ⟨q, 0, none⟩ (.int .i64 e)).setCell ⟨q, 1, none⟩ (.int .i64 xe)).setCell ⟨q, 2, none⟩ (.int .i64 0)).setCell ⟨q, 3, none⟩ (.int .i64 0)).setCell ⟨q, 4, none⟩ (.slice none 0 0) := ⟨_, rfl⟩
  rw [← hW5]
  rw [← hW5] at A
  clear hW5
  clear hcO fO hcX hcP
  have hcO := A.b0.cell
  have fO := A.b0.frozen
  have hcX := A.b2.cell
  have hcP := A.b3.cell
  have hd3 : (xn == 0 + 1) = false := by simpa using hnum
  go_wp2_with fail
  refine (HCL.out _ _ ((StsAt.nil w).kept A.bel)).mono ?_
  rintro x w9 ⟨u9, rfl, ho9, hb9⟩
  replace A := (A.kept hb9).own (own_mono (B' := w.heap.size) ho9 A.bel.size)
  obtain ⟨ua, uc, hu9⟩ := own_form ho9
  have hu9' : u9 = .slice ua 0 uc := hu9
  clear hu9
  subst hu9'
  clear hb9 ho9
  clear hcO fO hcX hcP
  have hcO := A.b0.cell
  have fO := A.b0.frozen
  have hcX := A.b2.cell
  have hcP := A.b3.cell
  go_upto_region 13 with fail
  replace A := A.set hwq HNE.out (by decide) 4 (.slice ua 0 uc)
  simp only [List.setIfInBounds_toArray, List.set_cons_zero, List.set_cons_succ] at A
  obtain ⟨W10, hW10⟩ : ∃ X, X = w9.setCell ⟨q, 4, none⟩ (.slice ua 0 uc) := ⟨_, rfl⟩
  rw [← hW10]
  rw [← hW10] at A
  clear hW10
  clear hcO fO hcX hcP
  have hcO := A.b0.cell
  have fO := A.b0.frozen
  have hcX := A.b2.cell
  have hcP := A.b3.cell
  have hcZ := A.b1.cell
  have fZ := A.b1.frozen
  have hzz : w.heap.size ≤ w.heap.size + 1 + 1 := by omega
  have LST := Lib.hid (A.last A.b1 hzz)
  unfold zeroPo at hcZ
  go_wp2_with fail
  refine bodyPost_ret (v := poV e xe 0 0 (.slice ua 0 uc) (.slice none 0 0) true 0) (by simp [results, Try.results36, go_sem, poV, *]) rfl ?_
  refine ⟨_, _, by rw [HR.out], ?_, ?_, (apart_symm (.inl rfl)), (LST.out _ _ _ _ _ _ _ _).1⟩
  · rw [HR.out]
    exact (LST.out _ _ _ _ _ _ _ _).2 _ (.head _)
  · rw [HR.out]
    exact World.ownsRow_nil _ _ _ _
set_option maxRecDepth 100000 in
set_option maxHeartbeats 2000000 in
theorem hearI_fresh_on (e p b i : Int) (v : Value) (l : List ByteArray) (xe xc xn xa : Int) (xt : ByteArray) (w : World) (h : StsAt w v l) (hr : ppRight e p b i l = true) (hx : pkRight xe xc xn xa xt = true) (g1 : p < xe) (g2 : e = xc) (hnum : xn = 0 + 1) :
    Calls Try.prog 36 #[ppV e p b i v, pkV xe xc xn xa xt] w (PoPost (hearIn e p b i l xe xc xn xa xt) w) := by
  obtain ⟨hb0, hb1, hn, hsum, hsz, hi0, hi1, hp0, hp1⟩ := ppRight_more hr
  obtain ⟨hx0, hx1, hx2, hx3, hx4⟩ := pkRight_more hx
  have HP := Lib.hid (fun (W' : World) (hb : Below w.heap.size w W') => implPipeRight_any e p b i v l W' (h.kept hb))
  have HK := Lib.hid (implPacketRight_any xe xc xn xa xt)
  rw [hr] at HP
  rw [hx] at HK
  clear hr hx
  have HCT := Lib.hid (fun (u : Value) (W' : World) (hu : StsAt W' u [xt]) => copied_any u [xt] W' hu (by simp) (fun s hs => by simp at hs; subst hs; omega))
  have HR : Hid (hearIn e p b i l xe xc xn xa xt = ⟨e, xe, 0, xn, [], [xt], true, 0⟩) := Lib.hid (by unfold hearIn; rw [if_neg (by omega), if_pos g1, if_pos g2.symm]; unfold hearB; rw [if_neg (by rw [List.length_nil]; omega), if_pos hnum])
  obtain ⟨a, cap, rfl⟩ := h.form
  have hcl : l.length ≤ cap := by
    obtain ⟨a', cap', e, k1, _⟩ := h
    injection e with e1 e2 e3
    omega
  have HA := Lib.hid (fun W' => ackNo_any e xe 0 0 xa none 0 0 W' (by omega) (by omega) (by omega) (by omega))
  have HSL := Lib.hid h
  have HCL := Lib.hid (fun (u : Value) (W' : World) (hu : StsAt W' u []) => copied_any u [] W' hu (by simp) (fun s hs => by cases hs))
  clear h hsz hcl
  subst g2
  rw [Int.zero_add] at hnum
  subst hnum
  unfold ppV pkV at *
  go_enter Try.func36, Try.ntmps36
  go_wp2_with fail
  refine (HP.out _ (bel3 _ _ _ _)).mono ?_
  rintro x w1 ⟨rfl, hb1⟩
  have A := (LawAt.start3 w 31 #[.int .i64 e, .int .i64 p, .int .i64 b, .int .i64 i, .slice a l.length cap] 26 #[.int .i64 xe, .int .i64 e, .int .i64 1, .int .i64 xa, .string xt] 33 zeroPo).kept hb1
  clear hb1
  have hcX := A.b1.cell
  have hcP := A.b2.cell
  go_wp2_with fail
  refine (HK.out _).mono ?_
  rintro x w2 ⟨rfl, hb2⟩
  replace A := A.kept hb2
  clear hb2 hcX hcP HP HK
  have hbs := A.b0.lt
  have hcX := A.b1.cell
  have hcP := A.b2.cell
  go_upto_region 4 with fail
  replace A := A.new 33 #[.int .i64 e, .int .i64 p, .int .i64 b, .int .i64 i, .slice a l.length cap, .slice none 0 0, .bool false, .int .i64 0]
  obtain ⟨q, hq⟩ : ∃ q, q = w2.heap.size := ⟨_, rfl⟩
  obtain ⟨W2, hW2⟩ : ∃ X, X = w2.alloc (.cells #[.int .i64 e, .int .i64 p, .int .i64 b, .int .i64 i, .slice a l.length cap, .slice none 0 0, .bool false, .int .i64 0] 33) := ⟨_, rfl⟩
  have hq3 : w.heap.size + 1 + 1 < q := by rw [hq]; exact hbs
  rw [← hW2, ← hq]
  rw [← hW2, ← hq] at A
  clear hW2 hq hbs hcX hcP
  have hne : ∀ x ∈ [(w.heap.size + 1 + 1, 33, zeroPo), (w.heap.size + 1, 26, #[.int .i64 xe, .int .i64 e, .int .i64 1, .int .i64 xa, .string xt]), (w.heap.size, 31, #[.int .i64 e, .int .i64 p, .int .i64 b, .int .i64 i, .slice a l.length cap])], x.1 ≠ q := by simp; omega
  have HNE := Lib.hid hne
  clear hne
  have hwq : w.heap.size ≤ q := by omega
  have hcO := A.b0.cell
  have fO := A.b0.frozen
  have hcX := A.b2.cell
  have hcP := A.b3.cell
  go_upto_region 7 with fail
  replace A := A.set hwq HNE.out (by decide) 0 (.int .i64 e)
  replace A := A.set hwq HNE.out (by decide) 1 (.int .i64 xe)
  replace A := A.set hwq HNE.out (by decide) 2 (.int .i64 0)
  replace A := A.set hwq HNE.out (by decide) 3 (.int .i64 0)
  replace A := A.set hwq HNE.out (by decide) 4 (.slice none 0 0)
  replace A := A.set hwq HNE.out (by decide) 6 (.bool true)
  simp only [List.setIfInBounds_toArray, List.set_cons_zero, List.set_cons_succ] at A
  obtain ⟨W3, hW3⟩ : ∃ X, X = ((((((W2).setCell ⟨q, 0, none⟩ (.int .i64 e)).setCell ⟨q, 1, none⟩ (.int .i64 xe)).setCell ⟨q, 2, none⟩ (.int .i64 0)).setCell ⟨q, 3, none⟩ (.int .i64 0)).setCell ⟨q, 4, none⟩ (.slice none 0 0)).setCell ⟨q, 6, none⟩ (.bool true) := ⟨_, rfl⟩
  rw [← hW3]
  rw [← hW3] at A
  clear hW3
  clear hcO fO hcX hcP
  have hcO := A.b0.cell
  have fO := A.b0.frozen
  have hcX := A.b2.cell
  have hcP := A.b3.cell
  go_wp2_with fail
  refine (HA.out _).mono ?_
  rintro x w4 ⟨rfl, hb4⟩
  replace A := A.kept hb4
  clear hb4 HA
  clear hcO fO hcX hcP
  have hcO := A.b0.cell
  have fO := A.b0.frozen
  have hcX := A.b2.cell
  have hcP := A.b3.cell
  go_upto_region 9 with fail
  replace A := A.set hwq HNE.out (by decide) 0 (.int .i64 e)
  replace A := A.set hwq HNE.out (by decide) 1 (.int .i64 xe)
  replace A := A.set hwq HNE.out (by decide) 2 (.int .i64 0)
  replace A := A.set hwq HNE.out (by decide) 3 (.int .i64 0)
  replace A := A.set hwq HNE.out (by decide) 4 (.slice none 0 0)
  simp only [List.setIfInBounds_toArray, List.set_cons_zero, List.set_cons_succ] at A
  obtain ⟨W5, hW5⟩ : ∃ X, X = (((((w4).setCell ⟨q, 0, none⟩ (.int .i64 e)).setCell ⟨q, 1, none⟩ (.int .i64 xe)).setCell ⟨q, 2, none⟩ (.int .i64 0)).setCell ⟨q, 3, none⟩ (.int .i64 0)).setCell ⟨q, 4, none⟩ (.slice none 0 0) := ⟨_, rfl⟩
  rw [← hW5]
  rw [← hW5] at A
  clear hW5
  clear hcO fO hcX hcP
  have hcO := A.b0.cell
  have fO := A.b0.frozen
  have hcX := A.b2.cell
  have hcP := A.b3.cell
  have hd3 : (1 == 0 + 1) = true := by simp
  have hqlt : q < W5.heap.size := A.b0.lt
  go_wp2_with fail
  have A6 := A.set hwq HNE.out (by decide) 3 (.int .i64 1)
  simp only [List.setIfInBounds_toArray, List.set_cons_zero, List.set_cons_succ] at A6
  obtain ⟨W6, hW6⟩ : ∃ X, X = W5.setCell ⟨q, 3, none⟩ (.int .i64 1) := ⟨_, rfl⟩
  have hsz6 : W6.heap.size = W5.heap.size := by rw [hW6]; simp
  rw [← hW6]
  rw [← hW6] at A6
  clear hW6 A
  have A := A6
  clear A6
  have hs1 := sts1 W6 xt
  rw [hsz6] at hs1
  refine (HCT.out _ _ hs1).mono ?_
  rintro x w7 ⟨t7, rfl, ho7, hb7⟩
  replace A := ((A.alloc (.cells #[.string xt] 9)).kept hb7).own (own_mono (B' := w.heap.size) ho7 (by have := A.bel.size; simp only [World.size_alloc]; omega))
  clear hb7 hs1 hsz6 hqlt hd3
  obtain ⟨ta, tc, ht7⟩ := own_form ho7
  have ht7' : t7 = .slice ta 1 tc := ht7
  clear ht7
  subst ht7'
  clear ho7
  clear hcO fO hcX hcP
  have hcO := A.b0.cell
  have fO := A.b0.frozen
  have hcX := A.b2.cell
  have hcP := A.b3.cell
  go_upto_region 12 with fail
  replace A := A.set hwq HNE.out (by decide) 5 (.slice ta 1 tc)
  simp only [List.setIfInBounds_toArray, List.set_cons_zero, List.set_cons_succ] at A
  obtain ⟨W8, hW8⟩ : ∃ X, X = w7.setCell ⟨q, 5, none⟩ (.slice ta 1 tc) := ⟨_, rfl⟩
  rw [← hW8]
  rw [← hW8] at A
  clear hW8
  clear hcO fO hcX hcP
  have hcO := A.b0.cell
  have fO := A.b0.frozen
  have hcX := A.b2.cell
  have hcP := A.b3.cell
  go_wp2_with fail
  refine (HCL.out _ _ ((StsAt.nil w).kept A.bel)).mono ?_
  rintro x w9 ⟨u9, rfl, ho9, hb9⟩
  have HAP := Lib.hid (own_apart A.r0 ho9 (Nat.le_refl _))
  replace A := (A.kept hb9).own (own_mono (B' := w.heap.size) ho9 A.bel.size)
  obtain ⟨ua, uc, hu9⟩ := own_form ho9
  have hu9' : u9 = .slice ua 0 uc := hu9
  clear hu9
  subst hu9'
  clear hb9 ho9
  clear hcO fO hcX hcP
  have hcO := A.b0.cell
  have fO := A.b0.frozen
  have hcX := A.b2.cell
  have hcP := A.b3.cell
  go_upto_region 13 with fail
  replace A := A.set hwq HNE.out (by decide) 4 (.slice ua 0 uc)
  simp only [List.setIfInBounds_toArray, List.set_cons_zero, List.set_cons_succ] at A
  obtain ⟨W10, hW10⟩ : ∃ X, X = w9.setCell ⟨q, 4, none⟩ (.slice ua 0 uc) := ⟨_, rfl⟩
  rw [← hW10]
  rw [← hW10] at A
  clear hW10
  clear hcO fO hcX hcP
  have hcO := A.b0.cell
  have fO := A.b0.frozen
  have hcX := A.b2.cell
  have hcP := A.b3.cell
  have hcZ := A.b1.cell
  have fZ := A.b1.frozen
  have hzz : w.heap.size ≤ w.heap.size + 1 + 1 := by omega
  have LST := Lib.hid (A.last A.b1 hzz)
  unfold zeroPo at hcZ
  go_wp2_with fail
  refine bodyPost_ret (v := poV e xe 0 1 (.slice ua 0 uc) (.slice ta 1 tc) true 0) (by simp [results, Try.results36, go_sem, poV, *]) rfl ?_
  refine ⟨_, _, by rw [HR.out], ?_, ?_, HAP.out, (LST.out _ _ _ _ _ _ _ _).1⟩
  · rw [HR.out]
    exact (LST.out _ _ _ _ _ _ _ _).2 _ (.head _)
  · rw [HR.out]
    exact (LST.out _ _ _ _ _ _ _ _).2 _ (.tail _ (.head _))
set_option maxRecDepth 100000 in
set_option maxHeartbeats 2000000 in
theorem hearI_same_o (e p b i : Int) (v : Value) (l : List ByteArray) (xe xc xn xa : Int) (xt : ByteArray) (w : World) (h : StsAt w v l) (hr : ppRight e p b i l = true) (hx : pkRight xe xc xn xa xt = true) (g1 : p = xe) (g2 : e = xc) (g3 : ¬ (b < xa ∧ xa ≤ b + (l.length : Int))) (hnum : ¬ xn = i + 1) :
    Calls Try.prog 36 #[ppV e p b i v, pkV xe xc xn xa xt] w (PoPost (hearIn e p b i l xe xc xn xa xt) w) := by
  obtain ⟨hb0, hb1, hn, hsum, hsz, hi0, hi1, hp0, hp1⟩ := ppRight_more hr
  obtain ⟨hx0, hx1, hx2, hx3, hx4⟩ := pkRight_more hx
  have HP := Lib.hid (fun (W' : World) (hb : Below w.heap.size w W') => implPipeRight_any e p b i v l W' (h.kept hb))
  have HK := Lib.hid (implPacketRight_any xe xc xn xa xt)
  rw [hr] at HP
  rw [hx] at HK
  clear hr hx
  have HCT := Lib.hid (fun (u : Value) (W' : World) (hu : StsAt W' u [xt]) => copied_any u [xt] W' hu (by simp) (fun s hs => by simp at hs; subst hs; omega))
  have HR : Hid (hearIn e p b i l xe xc xn xa xt = ⟨e, p, b, i, l, [], false, 0⟩) := Lib.hid (by unfold hearIn; rw [if_neg (by omega), if_neg (by omega), if_pos g2.symm]; unfold hearB; rw [if_neg g3, if_neg hnum])
  obtain ⟨a, cap, rfl⟩ := h.form
  have hcl : l.length ≤ cap := by
    obtain ⟨a', cap', e, k1, _⟩ := h
    injection e with e1 e2 e3
    omega
  have HA := Lib.hid (fun W' => ackNo_any e p b i xa a l.length cap W' hb0 hb1 hn g3)
  have HSL := Lib.hid h
  have HCL := Lib.hid (fun (u : Value) (W' : World) (hu : StsAt W' u l) => copied_any u l W' hu (by omega) (fun s hs => by have := hsz s hs; omega))
  clear h hsz hcl
  subst g1
  subst g2
  unfold ppV pkV at *
  go_enter Try.func36, Try.ntmps36
  go_wp2_with fail
  refine (HP.out _ (bel3 _ _ _ _)).mono ?_
  rintro x w1 ⟨rfl, hb1⟩
  have A := (LawAt.start3 w 31 #[.int .i64 e, .int .i64 p, .int .i64 b, .int .i64 i, .slice a l.length cap] 26 #[.int .i64 p, .int .i64 e, .int .i64 xn, .int .i64 xa, .string xt] 33 zeroPo).kept hb1
  clear hb1
  have hcX := A.b1.cell
  have hcP := A.b2.cell
  go_wp2_with fail
  refine (HK.out _).mono ?_
  rintro x w2 ⟨rfl, hb2⟩
  replace A := A.kept hb2
  clear hb2 hcX hcP HP HK
  have hbs := A.b0.lt
  have hcX := A.b1.cell
  have hcP := A.b2.cell
  go_upto_region 4 with fail
  replace A := A.new 33 #[.int .i64 e, .int .i64 p, .int .i64 b, .int .i64 i, .slice a l.length cap, .slice none 0 0, .bool false, .int .i64 0]
  obtain ⟨q, hq⟩ : ∃ q, q = w2.heap.size := ⟨_, rfl⟩
  obtain ⟨W2, hW2⟩ : ∃ X, X = w2.alloc (.cells #[.int .i64 e, .int .i64 p, .int .i64 b, .int .i64 i, .slice a l.length cap, .slice none 0 0, .bool false, .int .i64 0] 33) := ⟨_, rfl⟩
  have hq3 : w.heap.size + 1 + 1 < q := by rw [hq]; exact hbs
  rw [← hW2, ← hq]
  rw [← hW2, ← hq] at A
  clear hW2 hq hbs hcX hcP
  have hne : ∀ x ∈ [(w.heap.size + 1 + 1, 33, zeroPo), (w.heap.size + 1, 26, #[.int .i64 p, .int .i64 e, .int .i64 xn, .int .i64 xa, .string xt]), (w.heap.size, 31, #[.int .i64 e, .int .i64 p, .int .i64 b, .int .i64 i, .slice a l.length cap])], x.1 ≠ q := by simp; omega
  have HNE := Lib.hid hne
  clear hne
  have hwq : w.heap.size ≤ q := by omega
  have hcO := A.b0.cell
  have fO := A.b0.frozen
  have hcX := A.b2.cell
  have hcP := A.b3.cell
  go_wp2_with fail
  refine (HA.out _).mono ?_
  rintro x w4 ⟨rfl, hb4⟩
  replace A := A.kept hb4
  clear hb4 HA
  clear hcO fO hcX hcP
  have hcO := A.b0.cell
  have fO := A.b0.frozen
  have hcX := A.b2.cell
  have hcP := A.b3.cell
  go_upto_region 9 with fail
  replace A := A.set hwq HNE.out (by decide) 0 (.int .i64 e)
  replace A := A.set hwq HNE.out (by decide) 1 (.int .i64 p)
  replace A := A.set hwq HNE.out (by decide) 2 (.int .i64 b)
  replace A := A.set hwq HNE.out (by decide) 3 (.int .i64 i)
  replace A := A.set hwq HNE.out (by decide) 4 (.slice a l.length cap)
  simp only [List.setIfInBounds_toArray, List.set_cons_zero, List.set_cons_succ] at A
  obtain ⟨W5, hW5⟩ : ∃ X, X = (((((w4).setCell ⟨q, 0, none⟩ (.int .i64 e)).setCell ⟨q, 1, none⟩ (.int .i64 p)).setCell ⟨q, 2, none⟩ (.int .i64 b)).setCell ⟨q, 3, none⟩ (.int .i64 i)).setCell ⟨q, 4, none⟩ (.slice a l.length cap) := ⟨_, rfl⟩
  rw [← hW5]
  rw [← hW5] at A
  clear hW5
  clear hcO fO hcX hcP
  have hcO := A.b0.cell
  have fO := A.b0.frozen
  have hcX := A.b2.cell
  have hcP := A.b3.cell
  have hd3 : (xn == i + 1) = false := by simpa using hnum
  go_wp2_with fail
  refine (HCL.out _ _ (HSL.out.kept A.bel)).mono ?_
  rintro x w9 ⟨u9, rfl, ho9, hb9⟩
  replace A := (A.kept hb9).own (own_mono (B' := w.heap.size) ho9 A.bel.size)
  obtain ⟨ua, uc, rfl⟩ := own_form ho9
  clear hb9 ho9
  clear hcO fO hcX hcP
  have hcO := A.b0.cell
  have fO := A.b0.frozen
  have hcX := A.b2.cell
  have hcP := A.b3.cell
  go_upto_region 13 with fail
  replace A := A.set hwq HNE.out (by decide) 4 (.slice ua l.length uc)
  simp only [List.setIfInBounds_toArray, List.set_cons_zero, List.set_cons_succ] at A
  obtain ⟨W10, hW10⟩ : ∃ X, X = w9.setCell ⟨q, 4, none⟩ (.slice ua l.length uc) := ⟨_, rfl⟩
  rw [← hW10]
  rw [← hW10] at A
  clear hW10
  clear hcO fO hcX hcP
  have hcO := A.b0.cell
  have fO := A.b0.frozen
  have hcX := A.b2.cell
  have hcP := A.b3.cell
  have hcZ := A.b1.cell
  have fZ := A.b1.frozen
  have hzz : w.heap.size ≤ w.heap.size + 1 + 1 := by omega
  have LST := Lib.hid (A.last A.b1 hzz)
  unfold zeroPo at hcZ
  go_wp2_with fail
  refine bodyPost_ret (v := poV e p b i (.slice ua l.length uc) (.slice none 0 0) false 0) (by simp [results, Try.results36, go_sem, poV, *]) rfl ?_
  refine ⟨_, _, by rw [HR.out], ?_, ?_, (apart_symm (.inl rfl)), (LST.out _ _ _ _ _ _ _ _).1⟩
  · rw [HR.out]
    exact (LST.out _ _ _ _ _ _ _ _).2 _ (.head _)
  · rw [HR.out]
    exact World.ownsRow_nil _ _ _ _
set_option maxRecDepth 100000 in
set_option maxHeartbeats 2000000 in
theorem hearI_same_on (e p b i : Int) (v : Value) (l : List ByteArray) (xe xc xn xa : Int) (xt : ByteArray) (w : World) (h : StsAt w v l) (hr : ppRight e p b i l = true) (hx : pkRight xe xc xn xa xt = true) (g1 : p = xe) (g2 : e = xc) (g3 : ¬ (b < xa ∧ xa ≤ b + (l.length : Int))) (hnum : xn = i + 1) :
    Calls Try.prog 36 #[ppV e p b i v, pkV xe xc xn xa xt] w (PoPost (hearIn e p b i l xe xc xn xa xt) w) := by
  obtain ⟨hb0, hb1, hn, hsum, hsz, hi0, hi1, hp0, hp1⟩ := ppRight_more hr
  obtain ⟨hx0, hx1, hx2, hx3, hx4⟩ := pkRight_more hx
  have HP := Lib.hid (fun (W' : World) (hb : Below w.heap.size w W') => implPipeRight_any e p b i v l W' (h.kept hb))
  have HK := Lib.hid (implPacketRight_any xe xc xn xa xt)
  rw [hr] at HP
  rw [hx] at HK
  clear hr hx
  have HCT := Lib.hid (fun (u : Value) (W' : World) (hu : StsAt W' u [xt]) => copied_any u [xt] W' hu (by simp) (fun s hs => by simp at hs; subst hs; omega))
  have HR : Hid (hearIn e p b i l xe xc xn xa xt = ⟨e, p, b, xn, l, [xt], false, 0⟩) := Lib.hid (by unfold hearIn; rw [if_neg (by omega), if_neg (by omega), if_pos g2.symm]; unfold hearB; rw [if_neg g3, if_pos hnum])
  obtain ⟨a, cap, rfl⟩ := h.form
  have hcl : l.length ≤ cap := by
    obtain ⟨a', cap', e, k1, _⟩ := h
    injection e with e1 e2 e3
    omega
  have HA := Lib.hid (fun W' => ackNo_any e p b i xa a l.length cap W' hb0 hb1 hn g3)
  have HSL := Lib.hid h
  have HCL := Lib.hid (fun (u : Value) (W' : World) (hu : StsAt W' u l) => copied_any u l W' hu (by omega) (fun s hs => by have := hsz s hs; omega))
  clear h hsz hcl
  subst g1
  subst g2
  subst hnum
  unfold ppV pkV at *
  go_enter Try.func36, Try.ntmps36
  go_wp2_with fail
  refine (HP.out _ (bel3 _ _ _ _)).mono ?_
  rintro x w1 ⟨rfl, hb1⟩
  have A := (LawAt.start3 w 31 #[.int .i64 e, .int .i64 p, .int .i64 b, .int .i64 i, .slice a l.length cap] 26 #[.int .i64 p, .int .i64 e, .int .i64 (i + 1), .int .i64 xa, .string xt] 33 zeroPo).kept hb1
  clear hb1
  have hcX := A.b1.cell
  have hcP := A.b2.cell
  go_wp2_with fail
  refine (HK.out _).mono ?_
  rintro x w2 ⟨rfl, hb2⟩
  replace A := A.kept hb2
  clear hb2 hcX hcP HP HK
  have hbs := A.b0.lt
  have hcX := A.b1.cell
  have hcP := A.b2.cell
  go_upto_region 4 with fail
  replace A := A.new 33 #[.int .i64 e, .int .i64 p, .int .i64 b, .int .i64 i, .slice a l.length cap, .slice none 0 0, .bool false, .int .i64 0]
  obtain ⟨q, hq⟩ : ∃ q, q = w2.heap.size := ⟨_, rfl⟩
  obtain ⟨W2, hW2⟩ : ∃ X, X = w2.alloc (.cells #[.int .i64 e, .int .i64 p, .int .i64 b, .int .i64 i, .slice a l.length cap, .slice none 0 0, .bool false, .int .i64 0] 33) := ⟨_, rfl⟩
  have hq3 : w.heap.size + 1 + 1 < q := by rw [hq]; exact hbs
  rw [← hW2, ← hq]
  rw [← hW2, ← hq] at A
  clear hW2 hq hbs hcX hcP
  have hne : ∀ x ∈ [(w.heap.size + 1 + 1, 33, zeroPo), (w.heap.size + 1, 26, #[.int .i64 p, .int .i64 e, .int .i64 (i + 1), .int .i64 xa, .string xt]), (w.heap.size, 31, #[.int .i64 e, .int .i64 p, .int .i64 b, .int .i64 i, .slice a l.length cap])], x.1 ≠ q := by simp; omega
  have HNE := Lib.hid hne
  clear hne
  have hwq : w.heap.size ≤ q := by omega
  have hcO := A.b0.cell
  have fO := A.b0.frozen
  have hcX := A.b2.cell
  have hcP := A.b3.cell
  go_wp2_with fail
  refine (HA.out _).mono ?_
  rintro x w4 ⟨rfl, hb4⟩
  replace A := A.kept hb4
  clear hb4 HA
  clear hcO fO hcX hcP
  have hcO := A.b0.cell
  have fO := A.b0.frozen
  have hcX := A.b2.cell
  have hcP := A.b3.cell
  go_upto_region 9 with fail
  replace A := A.set hwq HNE.out (by decide) 0 (.int .i64 e)
  replace A := A.set hwq HNE.out (by decide) 1 (.int .i64 p)
  replace A := A.set hwq HNE.out (by decide) 2 (.int .i64 b)
  replace A := A.set hwq HNE.out (by decide) 3 (.int .i64 i)
  replace A := A.set hwq HNE.out (by decide) 4 (.slice a l.length cap)
  simp only [List.setIfInBounds_toArray, List.set_cons_zero, List.set_cons_succ] at A
  obtain ⟨W5, hW5⟩ : ∃ X, X = (((((w4).setCell ⟨q, 0, none⟩ (.int .i64 e)).setCell ⟨q, 1, none⟩ (.int .i64 p)).setCell ⟨q, 2, none⟩ (.int .i64 b)).setCell ⟨q, 3, none⟩ (.int .i64 i)).setCell ⟨q, 4, none⟩ (.slice a l.length cap) := ⟨_, rfl⟩
  rw [← hW5]
  rw [← hW5] at A
  clear hW5
  clear hcO fO hcX hcP
  have hcO := A.b0.cell
  have fO := A.b0.frozen
  have hcX := A.b2.cell
  have hcP := A.b3.cell
  have hd3 : ((i + 1) == i + 1) = true := by simp
  have hqlt : q < W5.heap.size := A.b0.lt
  go_wp2_with fail
  have A6 := A.set hwq HNE.out (by decide) 3 (.int .i64 (i + 1))
  simp only [List.setIfInBounds_toArray, List.set_cons_zero, List.set_cons_succ] at A6
  obtain ⟨W6, hW6⟩ : ∃ X, X = W5.setCell ⟨q, 3, none⟩ (.int .i64 (i + 1)) := ⟨_, rfl⟩
  have hsz6 : W6.heap.size = W5.heap.size := by rw [hW6]; simp
  rw [← hW6]
  rw [← hW6] at A6
  clear hW6 A
  have A := A6
  clear A6
  have hs1 := sts1 W6 xt
  rw [hsz6] at hs1
  refine (HCT.out _ _ hs1).mono ?_
  rintro x w7 ⟨t7, rfl, ho7, hb7⟩
  replace A := ((A.alloc (.cells #[.string xt] 9)).kept hb7).own (own_mono (B' := w.heap.size) ho7 (by have := A.bel.size; simp only [World.size_alloc]; omega))
  clear hb7 hs1 hsz6 hqlt hd3
  obtain ⟨ta, tc, ht7⟩ := own_form ho7
  have ht7' : t7 = .slice ta 1 tc := ht7
  clear ht7
  subst ht7'
  clear ho7
  clear hcO fO hcX hcP
  have hcO := A.b0.cell
  have fO := A.b0.frozen
  have hcX := A.b2.cell
  have hcP := A.b3.cell
  go_upto_region 12 with fail
  replace A := A.set hwq HNE.out (by decide) 5 (.slice ta 1 tc)
  simp only [List.setIfInBounds_toArray, List.set_cons_zero, List.set_cons_succ] at A
  obtain ⟨W8, hW8⟩ : ∃ X, X = w7.setCell ⟨q, 5, none⟩ (.slice ta 1 tc) := ⟨_, rfl⟩
  rw [← hW8]
  rw [← hW8] at A
  clear hW8
  clear hcO fO hcX hcP
  have hcO := A.b0.cell
  have fO := A.b0.frozen
  have hcX := A.b2.cell
  have hcP := A.b3.cell
  go_wp2_with fail
  refine (HCL.out _ _ (HSL.out.kept A.bel)).mono ?_
  rintro x w9 ⟨u9, rfl, ho9, hb9⟩
  have HAP := Lib.hid (own_apart A.r0 ho9 (Nat.le_refl _))
  replace A := (A.kept hb9).own (own_mono (B' := w.heap.size) ho9 A.bel.size)
  obtain ⟨ua, uc, rfl⟩ := own_form ho9
  clear hb9 ho9
  clear hcO fO hcX hcP
  have hcO := A.b0.cell
  have fO := A.b0.frozen
  have hcX := A.b2.cell
  have hcP := A.b3.cell
  go_upto_region 13 with fail
  replace A := A.set hwq HNE.out (by decide) 4 (.slice ua l.length uc)
  simp only [List.setIfInBounds_toArray, List.set_cons_zero, List.set_cons_succ] at A
  obtain ⟨W10, hW10⟩ : ∃ X, X = w9.setCell ⟨q, 4, none⟩ (.slice ua l.length uc) := ⟨_, rfl⟩
  rw [← hW10]
  rw [← hW10] at A
  clear hW10
  clear hcO fO hcX hcP
  have hcO := A.b0.cell
  have fO := A.b0.frozen
  have hcX := A.b2.cell
  have hcP := A.b3.cell
  have hcZ := A.b1.cell
  have fZ := A.b1.frozen
  have hzz : w.heap.size ≤ w.heap.size + 1 + 1 := by omega
  have LST := Lib.hid (A.last A.b1 hzz)
  unfold zeroPo at hcZ
  go_wp2_with fail
  refine bodyPost_ret (v := poV e p b (i + 1) (.slice ua l.length uc) (.slice ta 1 tc) false 0) (by simp [results, Try.results36, go_sem, poV, *]) rfl ?_
  refine ⟨_, _, by rw [HR.out], ?_, ?_, HAP.out, (LST.out _ _ _ _ _ _ _ _).1⟩
  · rw [HR.out]
    exact (LST.out _ _ _ _ _ _ _ _).2 _ (.head _)
  · rw [HR.out]
    exact (LST.out _ _ _ _ _ _ _ _).2 _ (.tail _ (.head _))
set_option maxRecDepth 100000 in
set_option maxHeartbeats 2000000 in
theorem hearI_same_y (e p b i : Int) (v : Value) (l : List ByteArray) (xe xc xn xa : Int) (xt : ByteArray) (w : World) (h : StsAt w v l) (hr : ppRight e p b i l = true) (hx : pkRight xe xc xn xa xt = true) (g1 : p = xe) (g2 : e = xc) (g3 : b < xa) (g4 : xa ≤ b + (l.length : Int)) (hnum : ¬ xn = i + 1) :
    Calls Try.prog 36 #[ppV e p b i v, pkV xe xc xn xa xt] w (PoPost (hearIn e p b i l xe xc xn xa xt) w) := by
  obtain ⟨hb0, hb1, hn, hsum, hsz, hi0, hi1, hp0, hp1⟩ := ppRight_more hr
  obtain ⟨hx0, hx1, hx2, hx3, hx4⟩ := pkRight_more hx
  have HP := Lib.hid (fun (W' : World) (hb : Below w.heap.size w W') => implPipeRight_any e p b i v l W' (h.kept hb))
  have HK := Lib.hid (implPacketRight_any xe xc xn xa xt)
  rw [hr] at HP
  rw [hx] at HK
  clear hr hx
  have HCT := Lib.hid (fun (u : Value) (W' : World) (hu : StsAt W' u [xt]) => copied_any u [xt] W' hu (by simp) (fun s hs => by simp at hs; subst hs; omega))
  have HR : Hid (hearIn e p b i l xe xc xn xa xt = ⟨e, p, xa, i, l.drop (xa - b).toNat, [], false, 0⟩) := Lib.hid (by unfold hearIn; rw [if_neg (by omega), if_neg (by omega), if_pos g2.symm]; unfold hearB; rw [if_pos ⟨g3, g4⟩, if_neg hnum])
  obtain ⟨a, cap, rfl⟩ := h.form
  have hcl : l.length ≤ cap := by
    obtain ⟨a', cap', e, k1, _⟩ := h
    injection e with e1 e2 e3
    omega
  obtain ⟨k, hk⟩ : ∃ k : Nat, xa - b = (k : Int) := ⟨(xa - b).toNat, by omega⟩
  obtain ⟨hS, a', hsv⟩ := cut_at h k (by omega) rfl
  have HD : Hid (l.drop (xa - b).toNat = l.drop k) := Lib.hid (by rw [hk]; rfl)
  have HA := Lib.hid (fun W' => ackYes_any e p b i xa a a' l.length cap k (l.length - k) W' hb0 hb1 hn hcl g3 g4 hk hsv)
  rw [hsv] at hS
  have HSK := Lib.hid hS
  clear hS hsv
  have HSL := Lib.hid h
  have HCL := Lib.hid (fun (u : Value) (W' : World) (hu : StsAt W' u (l.drop k)) => copied_any u (l.drop k) W' hu (by rw [List.length_drop]; omega) (fun s hs => by have := hsz s (List.mem_of_mem_drop hs); omega))
  clear h hsz hcl
  subst g1
  subst g2
  unfold ppV pkV at *
  go_enter Try.func36, Try.ntmps36
  go_wp2_with fail
  refine (HP.out _ (bel3 _ _ _ _)).mono ?_
  rintro x w1 ⟨rfl, hb1⟩
  have A := (LawAt.start3 w 31 #[.int .i64 e, .int .i64 p, .int .i64 b, .int .i64 i, .slice a l.length cap] 26 #[.int .i64 p, .int .i64 e, .int .i64 xn, .int .i64 xa, .string xt] 33 zeroPo).kept hb1
  clear hb1
  have hcX := A.b1.cell
  have hcP := A.b2.cell
  go_wp2_with fail
  refine (HK.out _).mono ?_
  rintro x w2 ⟨rfl, hb2⟩
  replace A := A.kept hb2
  clear hb2 hcX hcP HP HK
  have hbs := A.b0.lt
  have hcX := A.b1.cell
  have hcP := A.b2.cell
  go_upto_region 4 with fail
  replace A := A.new 33 #[.int .i64 e, .int .i64 p, .int .i64 b, .int .i64 i, .slice a l.length cap, .slice none 0 0, .bool false, .int .i64 0]
  obtain ⟨q, hq⟩ : ∃ q, q = w2.heap.size := ⟨_, rfl⟩
  obtain ⟨W2, hW2⟩ : ∃ X, X = w2.alloc (.cells #[.int .i64 e, .int .i64 p, .int .i64 b, .int .i64 i, .slice a l.length cap, .slice none 0 0, .bool false, .int .i64 0] 33) := ⟨_, rfl⟩
  have hq3 : w.heap.size + 1 + 1 < q := by rw [hq]; exact hbs
  rw [← hW2, ← hq]
  rw [← hW2, ← hq] at A
  clear hW2 hq hbs hcX hcP
  have hne : ∀ x ∈ [(w.heap.size + 1 + 1, 33, zeroPo), (w.heap.size + 1, 26, #[.int .i64 p, .int .i64 e, .int .i64 xn, .int .i64 xa, .string xt]), (w.heap.size, 31, #[.int .i64 e, .int .i64 p, .int .i64 b, .int .i64 i, .slice a l.length cap])], x.1 ≠ q := by simp; omega
  have HNE := Lib.hid hne
  clear hne
  have hwq : w.heap.size ≤ q := by omega
  have hcO := A.b0.cell
  have fO := A.b0.frozen
  have hcX := A.b2.cell
  have hcP := A.b3.cell
  go_wp2_with fail
  refine (HA.out _).mono ?_
  rintro x w4 ⟨rfl, hb4⟩
  replace A := A.kept hb4
  clear hb4 HA
  clear hcO fO hcX hcP
  have hcO := A.b0.cell
  have fO := A.b0.frozen
  have hcX := A.b2.cell
  have hcP := A.b3.cell
  go_upto_region 9 with fail
  replace A := A.set hwq HNE.out (by decide) 0 (.int .i64 e)
  replace A := A.set hwq HNE.out (by decide) 1 (.int .i64 p)
  replace A := A.set hwq HNE.out (by decide) 2 (.int .i64 xa)
  replace A := A.set hwq HNE.out (by decide) 3 (.int .i64 i)
  replace A := A.set hwq HNE.out (by decide) 4 (.slice a' (l.length - k) (l.length - k))
  simp only [List.setIfInBounds_toArray, List.set_cons_zero, List.set_cons_succ] at A
  obtain ⟨W5, hW5⟩ : ∃ X, X = (((((w4).setCell ⟨q, 0, none⟩ (.int .i64 e)).setCell ⟨q, 1, none⟩ (.int .i64 p)).setCell ⟨q, 2, none⟩ (.int .i64 xa)).setCell ⟨q, 3, none⟩ (.int .i64 i)).setCell ⟨q, 4, none⟩ (.slice a' (l.length - k) (l.length - k)) := ⟨_, rfl⟩
  rw [← hW5]
  rw [← hW5] at A
  clear hW5
  clear hcO fO hcX hcP
  have hcO := A.b0.cell
  have fO := A.b0.frozen
  have hcX := A.b2.cell
  have hcP := A.b3.cell
  have hd3 : (xn == i + 1) = false := by simpa using hnum
  go_wp2_with fail
  refine (HCL.out _ _ (HSK.out.kept A.bel)).mono ?_
  rintro x w9 ⟨u9, rfl, ho9, hb9⟩
  replace A := (A.kept hb9).own (own_mono (B' := w.heap.size) ho9 A.bel.size)
  obtain ⟨ua, uc, hu9⟩ := own_form ho9
  have hu9' : u9 = .slice ua (l.length - k) uc := by rw [hu9, List.length_drop]
  clear hu9
  subst hu9'
  clear hb9 ho9
  clear hcO fO hcX hcP
  have hcO := A.b0.cell
  have fO := A.b0.frozen
  have hcX := A.b2.cell
  have hcP := A.b3.cell
  go_upto_region 13 with fail
  replace A := A.set hwq HNE.out (by decide) 4 (.slice ua (l.length - k) uc)
  simp only [List.setIfInBounds_toArray, List.set_cons_zero, List.set_cons_succ] at A
  obtain ⟨W10, hW10⟩ : ∃ X, X = w9.setCell ⟨q, 4, none⟩ (.slice ua (l.length - k) uc) := ⟨_, rfl⟩
  rw [← hW10]
  rw [← hW10] at A
  clear hW10
  clear hcO fO hcX hcP
  have hcO := A.b0.cell
  have fO := A.b0.frozen
  have hcX := A.b2.cell
  have hcP := A.b3.cell
  have hcZ := A.b1.cell
  have fZ := A.b1.frozen
  have hzz : w.heap.size ≤ w.heap.size + 1 + 1 := by omega
  have LST := Lib.hid (A.last A.b1 hzz)
  unfold zeroPo at hcZ
  go_wp2_with fail
  refine bodyPost_ret (v := poV e p xa i (.slice ua (l.length - k) uc) (.slice none 0 0) false 0) (by simp [results, Try.results36, go_sem, poV, *]) rfl ?_
  refine ⟨_, _, by rw [HR.out], ?_, ?_, (apart_symm (.inl rfl)), (LST.out _ _ _ _ _ _ _ _).1⟩
  · rw [HR.out]
    dsimp only
    rw [HD.out]
    exact (LST.out _ _ _ _ _ _ _ _).2 _ (.head _)
  · rw [HR.out]
    exact World.ownsRow_nil _ _ _ _
set_option maxRecDepth 100000 in
set_option maxHeartbeats 2000000 in
theorem hearI_same_yn (e p b i : Int) (v : Value) (l : List ByteArray) (xe xc xn xa : Int) (xt : ByteArray) (w : World) (h : StsAt w v l) (hr : ppRight e p b i l = true) (hx : pkRight xe xc xn xa xt = true) (g1 : p = xe) (g2 : e = xc) (g3 : b < xa) (g4 : xa ≤ b + (l.length : Int)) (hnum : xn = i + 1) :
    Calls Try.prog 36 #[ppV e p b i v, pkV xe xc xn xa xt] w (PoPost (hearIn e p b i l xe xc xn xa xt) w) := by
  obtain ⟨hb0, hb1, hn, hsum, hsz, hi0, hi1, hp0, hp1⟩ := ppRight_more hr
  obtain ⟨hx0, hx1, hx2, hx3, hx4⟩ := pkRight_more hx
  have HP := Lib.hid (fun (W' : World) (hb : Below w.heap.size w W') => implPipeRight_any e p b i v l W' (h.kept hb))
  have HK := Lib.hid (implPacketRight_any xe xc xn xa xt)
  rw [hr] at HP
  rw [hx] at HK
  clear hr hx
  have HCT := Lib.hid (fun (u : Value) (W' : World) (hu : StsAt W' u [xt]) => copied_any u [xt] W' hu (by simp) (fun s hs => by simp at hs; subst hs; omega))
  have HR : Hid (hearIn e p b i l xe xc xn xa xt = ⟨e, p, xa, xn, l.drop (xa - b).toNat, [xt], false, 0⟩) := Lib.hid (by unfold hearIn; rw [if_neg (by omega), if_neg (by omega), if_pos g2.symm]; unfold hearB; rw [if_pos ⟨g3, g4⟩, if_pos hnum])
  obtain ⟨a, cap, rfl⟩ := h.form
  have hcl : l.length ≤ cap := by
    obtain ⟨a', cap', e, k1, _⟩ := h
    injection e with e1 e2 e3
    omega
  obtain ⟨k, hk⟩ : ∃ k : Nat, xa - b = (k : Int) := ⟨(xa - b).toNat, by omega⟩
  obtain ⟨hS, a', hsv⟩ := cut_at h k (by omega) rfl
  have HD : Hid (l.drop (xa - b).toNat = l.drop k) := Lib.hid (by rw [hk]; rfl)
  have HA := Lib.hid (fun W' => ackYes_any e p b i xa a a' l.length cap k (l.length - k) W' hb0 hb1 hn hcl g3 g4 hk hsv)
  rw [hsv] at hS
  have HSK := Lib.hid hS
  clear hS hsv
  have HSL := Lib.hid h
  have HCL := Lib.hid (fun (u : Value) (W' : World) (hu : StsAt W' u (l.drop k)) => copied_any u (l.drop k) W' hu (by rw [List.length_drop]; omega) (fun s hs => by have := hsz s (List.mem_of_mem_drop hs); omega))
  clear h hsz hcl
  subst g1
  subst g2
  subst hnum
  unfold ppV pkV at *
  go_enter Try.func36, Try.ntmps36
  go_wp2_with fail
  refine (HP.out _ (bel3 _ _ _ _)).mono ?_
  rintro x w1 ⟨rfl, hb1⟩
  have A := (LawAt.start3 w 31 #[.int .i64 e, .int .i64 p, .int .i64 b, .int .i64 i, .slice a l.length cap] 26 #[.int .i64 p, .int .i64 e, .int .i64 (i + 1), .int .i64 xa, .string xt] 33 zeroPo).kept hb1
  clear hb1
  have hcX := A.b1.cell
  have hcP := A.b2.cell
  go_wp2_with fail
  refine (HK.out _).mono ?_
  rintro x w2 ⟨rfl, hb2⟩
  replace A := A.kept hb2
  clear hb2 hcX hcP HP HK
  have hbs := A.b0.lt
  have hcX := A.b1.cell
  have hcP := A.b2.cell
  go_upto_region 4 with fail
  replace A := A.new 33 #[.int .i64 e, .int .i64 p, .int .i64 b, .int .i64 i, .slice a l.length cap, .slice none 0 0, .bool false, .int .i64 0]
  obtain ⟨q, hq⟩ : ∃ q, q = w2.heap.size := ⟨_, rfl⟩
  obtain ⟨W2, hW2⟩ : ∃ X, X = w2.alloc (.cells #[.int .i64 e, .int .i64 p, .int .i64 b, .int .i64 i, .slice a l.length cap, .slice none 0 0, .bool false, .int .i64 0] 33) := ⟨_, rfl⟩
  have hq3 : w.heap.size + 1 + 1 < q := by rw [hq]; exact hbs
  rw [← hW2, ← hq]
  rw [← hW2, ← hq] at A
  clear hW2 hq hbs hcX hcP
  have hne : ∀ x ∈ [(w.heap.size + 1 + 1, 33, zeroPo), (w.heap.size + 1, 26, #[.int .i64 p, .int .i64 e, .int .i64 (i + 1), .int .i64 xa, .string xt]), (w.heap.size, 31, #[.int .i64 e, .int .i64 p, .int .i64 b, .int .i64 i, .slice a l.length cap])], x.1 ≠ q := by simp; omega
  have HNE := Lib.hid hne
  clear hne
  have hwq : w.heap.size ≤ q := by omega
  have hcO := A.b0.cell
  have fO := A.b0.frozen
  have hcX := A.b2.cell
  have hcP := A.b3.cell
  go_wp2_with fail
  refine (HA.out _).mono ?_
  rintro x w4 ⟨rfl, hb4⟩
  replace A := A.kept hb4
  clear hb4 HA
  clear hcO fO hcX hcP
  have hcO := A.b0.cell
  have fO := A.b0.frozen
  have hcX := A.b2.cell
  have hcP := A.b3.cell
  go_upto_region 9 with fail
  replace A := A.set hwq HNE.out (by decide) 0 (.int .i64 e)
  replace A := A.set hwq HNE.out (by decide) 1 (.int .i64 p)
  replace A := A.set hwq HNE.out (by decide) 2 (.int .i64 xa)
  replace A := A.set hwq HNE.out (by decide) 3 (.int .i64 i)
  replace A := A.set hwq HNE.out (by decide) 4 (.slice a' (l.length - k) (l.length - k))
  simp only [List.setIfInBounds_toArray, List.set_cons_zero, List.set_cons_succ] at A
  obtain ⟨W5, hW5⟩ : ∃ X, X = (((((w4).setCell ⟨q, 0, none⟩ (.int .i64 e)).setCell ⟨q, 1, none⟩ (.int .i64 p)).setCell ⟨q, 2, none⟩ (.int .i64 xa)).setCell ⟨q, 3, none⟩ (.int .i64 i)).setCell ⟨q, 4, none⟩ (.slice a' (l.length - k) (l.length - k)) := ⟨_, rfl⟩
  rw [← hW5]
  rw [← hW5] at A
  clear hW5
  clear hcO fO hcX hcP
  have hcO := A.b0.cell
  have fO := A.b0.frozen
  have hcX := A.b2.cell
  have hcP := A.b3.cell
  have hd3 : ((i + 1) == i + 1) = true := by simp
  have hqlt : q < W5.heap.size := A.b0.lt
  go_wp2_with fail
  have A6 := A.set hwq HNE.out (by decide) 3 (.int .i64 (i + 1))
  simp only [List.setIfInBounds_toArray, List.set_cons_zero, List.set_cons_succ] at A6
  obtain ⟨W6, hW6⟩ : ∃ X, X = W5.setCell ⟨q, 3, none⟩ (.int .i64 (i + 1)) := ⟨_, rfl⟩
  have hsz6 : W6.heap.size = W5.heap.size := by rw [hW6]; simp
  rw [← hW6]
  rw [← hW6] at A6
  clear hW6 A
  have A := A6
  clear A6
  have hs1 := sts1 W6 xt
  rw [hsz6] at hs1
  refine (HCT.out _ _ hs1).mono ?_
  rintro x w7 ⟨t7, rfl, ho7, hb7⟩
  replace A := ((A.alloc (.cells #[.string xt] 9)).kept hb7).own (own_mono (B' := w.heap.size) ho7 (by have := A.bel.size; simp only [World.size_alloc]; omega))
  clear hb7 hs1 hsz6 hqlt hd3
  obtain ⟨ta, tc, ht7⟩ := own_form ho7
  have ht7' : t7 = .slice ta 1 tc := ht7
  clear ht7
  subst ht7'
  clear ho7
  clear hcO fO hcX hcP
  have hcO := A.b0.cell
  have fO := A.b0.frozen
  have hcX := A.b2.cell
  have hcP := A.b3.cell
  go_upto_region 12 with fail
  replace A := A.set hwq HNE.out (by decide) 5 (.slice ta 1 tc)
  simp only [List.setIfInBounds_toArray, List.set_cons_zero, List.set_cons_succ] at A
  obtain ⟨W8, hW8⟩ : ∃ X, X = w7.setCell ⟨q, 5, none⟩ (.slice ta 1 tc) := ⟨_, rfl⟩
  rw [← hW8]
  rw [← hW8] at A
  clear hW8
  clear hcO fO hcX hcP
  have hcO := A.b0.cell
  have fO := A.b0.frozen
  have hcX := A.b2.cell
  have hcP := A.b3.cell
  go_wp2_with fail
  refine (HCL.out _ _ (HSK.out.kept A.bel)).mono ?_
  rintro x w9 ⟨u9, rfl, ho9, hb9⟩
  have HAP := Lib.hid (own_apart A.r0 ho9 (Nat.le_refl _))
  replace A := (A.kept hb9).own (own_mono (B' := w.heap.size) ho9 A.bel.size)
  obtain ⟨ua, uc, hu9⟩ := own_form ho9
  have hu9' : u9 = .slice ua (l.length - k) uc := by rw [hu9, List.length_drop]
  clear hu9
  subst hu9'
  clear hb9 ho9
  clear hcO fO hcX hcP
  have hcO := A.b0.cell
  have fO := A.b0.frozen
  have hcX := A.b2.cell
  have hcP := A.b3.cell
  go_upto_region 13 with fail
  replace A := A.set hwq HNE.out (by decide) 4 (.slice ua (l.length - k) uc)
  simp only [List.setIfInBounds_toArray, List.set_cons_zero, List.set_cons_succ] at A
  obtain ⟨W10, hW10⟩ : ∃ X, X = w9.setCell ⟨q, 4, none⟩ (.slice ua (l.length - k) uc) := ⟨_, rfl⟩
  rw [← hW10]
  rw [← hW10] at A
  clear hW10
  clear hcO fO hcX hcP
  have hcO := A.b0.cell
  have fO := A.b0.frozen
  have hcX := A.b2.cell
  have hcP := A.b3.cell
  have hcZ := A.b1.cell
  have fZ := A.b1.frozen
  have hzz : w.heap.size ≤ w.heap.size + 1 + 1 := by omega
  have LST := Lib.hid (A.last A.b1 hzz)
  unfold zeroPo at hcZ
  go_wp2_with fail
  refine bodyPost_ret (v := poV e p xa (i + 1) (.slice ua (l.length - k) uc) (.slice ta 1 tc) false 0) (by simp [results, Try.results36, go_sem, poV, *]) rfl ?_
  refine ⟨_, _, by rw [HR.out], ?_, ?_, HAP.out, (LST.out _ _ _ _ _ _ _ _).1⟩
  · rw [HR.out]
    dsimp only
    rw [HD.out]
    exact (LST.out _ _ _ _ _ _ _ _).2 _ (.head _)
  · rw [HR.out]
    exact (LST.out _ _ _ _ _ _ _ _).2 _ (.tail _ (.head _))
end Go.Proofs.Ytfmhccmaeonbhaa
