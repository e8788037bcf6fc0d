/- PipeHear, whole. -/
import Derived.Test.YtfmhccmaeonbhaaHrS
import Derived.Test.YtfmhccmaeonbhaaHrT
import Derived.Test.YtfmhccmaeonbhaaHrI
namespace Go.Proofs.Ytfmhccmaeonbhaa
open Go.RowKit
set_option linter.unusedVariables false

theorem specHearIn_any (e p b i : Int) (v : Value) (l : List ByteArray) (xe xc xn xa : Int) (xt : ByteArray) (w : World) (h : StsAt w v l) (hr : ppRight e p b i l = true) (hx : pkRight xe xc xn xa xt = true) :
    Calls Try.prog 79 #[ppV e p b i v, pkV xe xc xn xa xt] w (PoPost (hearIn e p b i l xe xc xn xa xt) w) := by
  by_cases g1 : xe < p
  · exact hear_past e p b i v l xe xc xn xa xt w h hr hx g1
  by_cases g2 : p < xe
  · by_cases g3 : xc = e
    · by_cases g4 : (0 : Int) < xa
      · by_cases g5 : xn = 0 + 1
        · exact hear_fresh_1n e p b i v l xe xc xn xa xt w h hr hx g2 g3.symm g4 (by omega) g5
        · exact hear_fresh_1 e p b i v l xe xc xn xa xt w h hr hx g2 g3.symm g4 (by omega) g5
      · by_cases g5 : xn = 0 + 1
        · exact hear_fresh_0n e p b i v l xe xc xn xa xt w h hr hx g2 g3.symm g4 g5
        · exact hear_fresh_0 e p b i v l xe xc xn xa xt w h hr hx g2 g3.symm g4 g5
    · exact hear_fresh_echo e p b i v l xe xc xn xa xt w h hr hx g2 g3
  · have g0 : p = xe := by omega
    by_cases g3 : xc = e
    · by_cases g4 : b < xa
      · by_cases g6 : xa ≤ b + (l.length : Int)
        · by_cases g5 : xn = i + 1
          · exact hear_same_2n e p b i v l xe xc xn xa xt w h hr hx g0 g3.symm g4 g6 g5
          · exact hear_same_2 e p b i v l xe xc xn xa xt w h hr hx g0 g3.symm g4 g6 g5
        · by_cases g5 : xn = i + 1
          · exact hear_same_1n e p b i v l xe xc xn xa xt w h hr hx g0 g3.symm g4 g6 g5
          · exact hear_same_1 e p b i v l xe xc xn xa xt w h hr hx g0 g3.symm g4 g6 g5
      · by_cases g5 : xn = i + 1
        · exact hear_same_0n e p b i v l xe xc xn xa xt w h hr hx g0 g3.symm g4 g5
        · exact hear_same_0 e p b i v l xe xc xn xa xt w h hr hx g0 g3.symm g4 g5
    · exact hear_same_echo e p b i v l xe xc xn xa xt w h hr hx g0 g3
theorem implHearIn_any (e p b i : Int) (v : Value) (l : List ByteArray) (xe xc xn xa : Int) (xt : ByteArray) (w : World) (h : StsAt w v l) (hr : ppRight e p b i l = true) (hx : pkRight xe xc xn xa xt = true) :
    Calls Try.prog 36 #[ppV e p b i v, pkV xe xc xn xa xt] w (PoPost (hearIn e p b i l xe xc xn xa xt) w) := by
  by_cases g1 : xe < p
  · exact hearI_past e p b i v l xe xc xn xa xt w h hr hx g1
  by_cases g2 : p < xe
  · by_cases g3 : xc = e
    · by_cases g5 : xn = 0 + 1
      · exact hearI_fresh_on e p b i v l xe xc xn xa xt w h hr hx g2 g3.symm g5
      · exact hearI_fresh_o e p b i v l xe xc xn xa xt w h hr hx g2 g3.symm g5
    · exact hearI_fresh_echo e p b i v l xe xc xn xa xt w h hr hx g2 g3
  · have g0 : p = xe := by omega
    by_cases g3 : xc = e
    · by_cases g4 : b < xa ∧ xa ≤ b + (l.length : Int)
      · by_cases g5 : xn = i + 1
        · exact hearI_same_yn e p b i v l xe xc xn xa xt w h hr hx g0 g3.symm g4.1 g4.2 g5
        · exact hearI_same_y e p b i v l xe xc xn xa xt w h hr hx g0 g3.symm g4.1 g4.2 g5
      · by_cases g5 : xn = i + 1
        · exact hearI_same_on e p b i v l xe xc xn xa xt w h hr hx g0 g3.symm g4 g5
        · exact hearI_same_o e p b i v l xe xc xn xa xt w h hr hx g0 g3.symm g4 g5
    · exact hearI_same_echo e p b i v l xe xc xn xa xt w h hr hx g0 g3
set_option maxRecDepth 100000 in
set_option maxHeartbeats 2000000 in
theorem implPipeHear_any (e p b i : Int) (v : Value) (l : List ByteArray) (xe xc xn xa : Int) (xt : ByteArray) (w : World) (h : StsAt w v l) :
    Calls Try.prog 36 #[ppV e p b i v, pkV xe xc xn xa xt] w (PoPost (hearR e p b i l xe xc xn xa xt) w) := by
  have HP := Lib.hid (fun (W' : World) (hb : Below w.heap.size w W') => implPipeRight_any e p b i v l W' (h.kept hb))
  have HK := Lib.hid (implPacketRight_any xe xc xn xa xt)
  cases hr : ppRight e p b i l
  · have HR : Hid (hearR e p b i l xe xc xn xa xt = poIll 1) := Lib.hid (by unfold hearR; rw [hr]; simp)
    rw [hr] at HP
    clear hr HK
    obtain ⟨a, cap, rfl⟩ := h.form
    clear h
    unfold ppV pkV at *
    go_enter Try.func36, Try.ntmps36
    go_wp2_with fail
    refine (HP.out _ (bel3 _ _ _ _)).mono ?_
    rintro x w1 ⟨rfl, hb1⟩
    have A := (LawAt.start3 w 31 #[.int .i64 e, .int .i64 p, .int .i64 b, .int .i64 i, .slice a l.length cap] 26 #[.int .i64 xe, .int .i64 xc, .int .i64 xn, .int .i64 xa, .string xt] 33 zeroPo).kept hb1
    clear hb1 HP
    have hcZ := A.b0.cell
    have fZ := A.b0.frozen
    unfold zeroPo at hcZ
    have HB := Lib.hid A.bel
    clear A
    go_wp2_with fail
    refine bodyPost_ret (v := poV 0 0 0 0 (.slice none 0 0) (.slice none 0 0) false 1) (by simp [results, Try.results36, go_sem, poV, *]) rfl ?_
    exact PoPost.plain (by rw [HR.out]; rfl) (by rw [HR.out]; rfl) (by rw [HR.out]; rfl) (set8 HB.out (by omega) _ _ _ _ _ _ _ _)
  cases hx : pkRight xe xc xn xa xt
  · have HR : Hid (hearR e p b i l xe xc xn xa xt = poIll 1) := Lib.hid (by unfold hearR; rw [hx]; simp)
    rw [hr] at HP
    rw [hx] at HK
    clear hr hx
    obtain ⟨a, cap, rfl⟩ := h.form
    clear h
    unfold ppV pkV at *
    go_enter Try.func36, Try.ntmps36
    go_wp2_with fail
    refine (HP.out _ (bel3 _ _ _ _)).mono ?_
    rintro x w1 ⟨rfl, hb1⟩
    have A := (LawAt.start3 w 31 #[.int .i64 e, .int .i64 p, .int .i64 b, .int .i64 i, .slice a l.length cap] 26 #[.int .i64 xe, .int .i64 xc, .int .i64 xn, .int .i64 xa, .string xt] 33 zeroPo).kept hb1
    clear hb1 HP
    have hcX := A.b1.cell
    go_wp2_with fail
    refine (HK.out _).mono ?_
    rintro x w2 ⟨rfl, hb2⟩
    replace A := A.kept hb2
    clear hb2 hcX HK
    have hcZ := A.b0.cell
    have fZ := A.b0.frozen
    unfold zeroPo at hcZ
    have HB := Lib.hid A.bel
    clear A
    go_wp2_with fail
    refine bodyPost_ret (v := poV 0 0 0 0 (.slice none 0 0) (.slice none 0 0) false 1) (by simp [results, Try.results36, go_sem, poV, *]) rfl ?_
    exact PoPost.plain (by rw [HR.out]; rfl) (by rw [HR.out]; rfl) (by rw [HR.out]; rfl) (set8 HB.out (by omega) _ _ _ _ _ _ _ _)
  · have HR : hearR e p b i l xe xc xn xa xt = hearIn e p b i l xe xc xn xa xt := by unfold hearR; rw [if_pos ⟨hr, hx⟩]
    rw [HR]
    exact implHearIn_any e p b i v l xe xc xn xa xt w h hr hx
set_option maxRecDepth 100000 in
set_option maxHeartbeats 2000000 in
theorem specPipeHear_any (e p b i : Int) (v : Value) (l : List ByteArray) (xe xc xn xa : Int) (xt : ByteArray) (w : World) (h : StsAt w v l) :
    Calls Try.prog 35 #[ppV e p b i v, pkV xe xc xn xa xt] w (PoPost (hearR e p b i l xe xc xn xa xt) w) := by
  have HP := Lib.hid (fun (W' : World) (hb : Below w.heap.size w W') => specPipeRight_any e p b i v l W' (h.kept hb))
  have HK := Lib.hid (specPacketRight_any xe xc xn xa xt)
  have HI := Lib.hid specIll_any
  cases hr : ppRight e p b i l
  · have HR : Hid (hearR e p b i l xe xc xn xa xt = poIll 1) := Lib.hid (by unfold hearR; rw [hr]; simp)
    rw [hr] at HP
    clear hr HK
    obtain ⟨a, cap, rfl⟩ := h.form
    clear h
    unfold ppV pkV poV at *
    go_enter Try.func35, Try.ntmps35
    go_wp2_with fail
    refine (HP.out _ (bel3 _ _ _ _)).mono ?_
    rintro x w1 ⟨rfl, hb1⟩
    have A := (LawAt.start3 w 31 #[.int .i64 e, .int .i64 p, .int .i64 b, .int .i64 i, .slice a l.length cap] 26 #[.int .i64 xe, .int .i64 xc, .int .i64 xn, .int .i64 xa, .string xt] 33 zeroPo).kept hb1
    clear hb1 HP
    go_wp2_with fail
    refine (HI.out _ _).mono ?_
    rintro x w2 ⟨rfl, hb2⟩
    replace A := A.kept hb2
    clear hb2 HI
    have hcZ := A.b0.cell
    have fZ := A.b0.frozen
    unfold zeroPo at hcZ
    have HB := Lib.hid A.bel
    clear A
    go_wp2_with fail
    refine bodyPost_ret (v := poV 0 0 0 0 (.slice none 0 0) (.slice none 0 0) false 1) (by simp [results, Try.results35, go_sem, poV, *]) rfl ?_
    exact PoPost.plain (by rw [HR.out]; rfl) (by rw [HR.out]; rfl) (by rw [HR.out]; rfl) (set8 HB.out (by omega) _ _ _ _ _ _ _ _)
  cases hx : pkRight xe xc xn xa xt
  · have HR : Hid (hearR e p b i l xe xc xn xa xt = poIll 1) := Lib.hid (by unfold hearR; rw [hx]; simp)
    rw [hr] at HP
    rw [hx] at HK
    clear hr hx
    obtain ⟨a, cap, rfl⟩ := h.form
    clear h
    unfold ppV pkV poV at *
    go_enter Try.func35, Try.ntmps35
    go_wp2_with fail
    refine (HP.out _ (bel3 _ _ _ _)).mono ?_
    rintro x w1 ⟨rfl, hb1⟩
    have A := (LawAt.start3 w 31 #[.int .i64 e, .int .i64 p, .int .i64 b, .int .i64 i, .slice a l.length cap] 26 #[.int .i64 xe, .int .i64 xc, .int .i64 xn, .int .i64 xa, .string xt] 33 zeroPo).kept hb1
    clear hb1 HP
    have hcX := A.b1.cell
    go_wp2_with fail
    refine (HK.out _).mono ?_
    rintro x w2 ⟨rfl, hb2⟩
    replace A := A.kept hb2
    clear hb2 hcX HK
    go_wp2_with fail
    refine (HI.out _ _).mono ?_
    rintro x w3 ⟨rfl, hb3⟩
    replace A := A.kept hb3
    clear hb3 HI
    have hcZ := A.b0.cell
    have fZ := A.b0.frozen
    unfold zeroPo at hcZ
    have HB := Lib.hid A.bel
    clear A
    go_wp2_with fail
    refine bodyPost_ret (v := poV 0 0 0 0 (.slice none 0 0) (.slice none 0 0) false 1) (by simp [results, Try.results35, go_sem, poV, *]) rfl ?_
    exact PoPost.plain (by rw [HR.out]; rfl) (by rw [HR.out]; rfl) (by rw [HR.out]; rfl) (set8 HB.out (by omega) _ _ _ _ _ _ _ _)
  · have HR : hearR e p b i l xe xc xn xa xt = hearIn e p b i l xe xc xn xa xt := by unfold hearR; rw [if_pos ⟨hr, hx⟩]
    rw [HR]
    have HU := Lib.hid (fun (W' : World) (hb : Below w.heap.size w W') => specHearIn_any e p b i v l xe xc xn xa xt W' (h.kept hb) hr hx)
    rw [hr] at HP
    rw [hx] at HK
    clear hr hx HR HI
    obtain ⟨a, cap, rfl⟩ := h.form
    clear h
    generalize hearIn e p b i l xe xc xn xa xt = r at *
    unfold ppV pkV at *
    go_enter Try.func35, Try.ntmps35
    go_wp2_with fail
    refine (HP.out _ (bel3 _ _ _ _)).mono ?_
    rintro x w1 ⟨rfl, hb1⟩
    have A := (LawAt.start3 w 31 #[.int .i64 e, .int .i64 p, .int .i64 b, .int .i64 i, .slice a l.length cap] 26 #[.int .i64 xe, .int .i64 xc, .int .i64 xn, .int .i64 xa, .string xt] 33 zeroPo).kept hb1
    clear hb1 HP
    have hcX := A.b1.cell
    go_wp2_with fail
    refine (HK.out _).mono ?_
    rintro x w2 ⟨rfl, hb2⟩
    replace A := A.kept hb2
    clear hb2 hcX HK
    have hcX := A.b1.cell
    have hcP := A.b2.cell
    go_wp2_with fail
    refine (HU.out _ A.bel).mono ?_
    rintro x w3 ⟨rv, rt, rfl, ho, ht, hap, hb3⟩
    replace A := ((A.kept hb3).own (own_mono (B' := w.heap.size) ho A.bel.size)).own (own_mono (B' := w.heap.size) ht A.bel.size)
    obtain ⟨ra, rc, rfl⟩ := own_form ho
    obtain ⟨ta, tc, rfl⟩ := own_form ht
    have HAP := Lib.hid hap
    clear hb3 ho ht hap hcX hcP HU
    have hzz : w.heap.size ≤ w.heap.size + 1 + 1 := by omega
    have LST := Lib.hid (A.last A.b0 hzz)
    have hcZ := A.b0.cell
    have fZ := A.b0.frozen
    unfold zeroPo at hcZ
    unfold poV
    go_wp2_with fail
    refine bodyPost_ret (v := poV r.e r.p r.b r.i (.slice ra r.l.length rc) (.slice ta r.m.length tc) r.f r.c) (by simp [results, Try.results35, go_sem, poV, *]) rfl ?_
    exact ⟨_, _, rfl, (LST.out _ _ _ _ _ _ _ _).2 _ (.tail _ (.head _)), (LST.out _ _ _ _ _ _ _ _).2 _ (.head _), HAP.out, (LST.out _ _ _ _ _ _ _ _).1⟩
end Go.Proofs.Ytfmhccmaeonbhaa
