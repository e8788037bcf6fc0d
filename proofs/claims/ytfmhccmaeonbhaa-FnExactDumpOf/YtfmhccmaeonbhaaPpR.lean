/- PipeReset, of the model and of the program. -/
import Derived.Test.YtfmhccmaeonbhaaLw
namespace Go.Proofs.Ytfmhccmaeonbhaa
open Go.RowKit

theorem ppRight_b {e p b i : Int} {l : List ByteArray} (h : ppRight e p b i l = true) : 1 ≤ e ∧ e ≤ 1000000 := by
  have h1 : isEpoch e = true := by
    unfold ppRight ppHead at h
    simp only [Bool.and_eq_true] at h
    exact h.1.1
  unfold isEpoch inR at h1
  simpa using h1
def resetR (e p b i : Int) (l : List ByteArray) (n : Int) : Po := if ppRight e p b i l = true ∧ e < n ∧ n ≤ 1000000 then ⟨n, p, 0, 0, [], [], false, 0⟩ else poIll 1
theorem resetR_small (e p b i : Int) (l : List ByteArray) (n : Int) : (resetR e p b i l n).l.length + (resetR e p b i l n).m.length ≤ 100 := by
  unfold resetR
  split <;> simp [poIll]
def zeroPo : Array Value := #[.int .i64 0, .int .i64 0, .int .i64 0, .int .i64 0, .slice none 0 0, .slice none 0 0, .bool false, .int .i64 0]
theorem set8 {B : Nat} {w w1 : World} {b : Nat} (h : Below B w w1) (hb : B ≤ b) (v0 v1 v2 v3 v4 v5 v6 v7 : Value) :
    Below B w ((((((((w1.setCell ⟨b, 0, none⟩ v0).setCell ⟨b, 1, none⟩ v1).setCell ⟨b, 2, none⟩ v2).setCell ⟨b, 3, none⟩ v3).setCell ⟨b, 4, none⟩ v4).setCell ⟨b, 5, none⟩ v5).setCell ⟨b, 6, none⟩ v6).setCell ⟨b, 7, none⟩ v7) :=
  (((((((h.setCell hb _).setCell hb _).setCell hb _).setCell hb _).setCell hb _).setCell hb _).setCell hb _).setCell hb _
set_option maxHeartbeats 1000000 in
theorem specPipeReset_any (e p b i : Int) (v : Value) (l : List ByteArray) (n : Int) (w : World) (h : StsAt w v l) : Calls Try.prog 28 #[ppV e p b i v, .int .i64 n] w (PoPost (resetR e p b i l n) w) := by
  have HP := Lib.hid (fun (W' : World) (hb : Below w.heap.size w W') => specPipeRight_any e p b i v l W' (h.kept hb))
  have HI := Lib.hid (specIll_any 1)
  obtain ⟨a, cap, rfl⟩ := h.form
  clear h
  cases hr : ppRight e p b i l
  · have HR : Hid (resetR e p b i l n = poIll 1) := Lib.hid (by simp [resetR, hr])
    rw [hr] at HP
    clear hr
    unfold ppV poV at *
    go_enter Try.func28, Try.ntmps28
    go_wp2_with fail
    refine (HP.out _ (bel2 _ _ _)).mono ?_
    rintro x w1 ⟨rfl, hb1⟩
    have X := (Blk.new (w.alloc (.cells #[.int .i64 e, .int .i64 p, .int .i64 b, .int .i64 i, .slice a l.length cap] 31)) 33 zeroPo).kept hb1
    rw [World.size_alloc] at X
    have HB : Hid (Below w.heap.size w w1) := Lib.hid ((bel2 _ _ _).trans (hb1.mono (by simp; omega)))
    clear hb1
    go_wp2_with fail
    refine (HI.out _).mono ?_
    rintro x w2 ⟨rfl, hb2⟩
    replace X := X.kept hb2
    replace HB : Hid (Below w.heap.size w w2) := Lib.hid (HB.out.trans (hb2.mono HB.out.size))
    clear hb2
    unfold zeroPo at X
    have hc := X.cell
    have hf := X.frozen
    go_wp2_with fail
    refine bodyPost_ret (v := poV 0 0 0 0 (.slice none 0 0) (.slice none 0 0) false 1) (by simp [results, Try.results28, go_sem, poV, *]) rfl ?_
    exact PoPost.plain (by rw [HR.out]; rfl) (by rw [HR.out]; rfl) (by rw [HR.out]; rfl) (set8 HB.out (Nat.le_succ _) _ _ _ _ _ _ _ _)
  · have hb := ppRight_b hr
    have hw : IntKind.i64.wrap (e + 1) = e + 1 := by simp only [IntKind.wrap_i64]; omega
    cases hn : inR n (e + 1) 1000000
    · have HR : Hid (resetR e p b i l n = poIll 1) := Lib.hid (by
        unfold resetR
        rw [if_neg]
        intro hh
        unfold inR at hn
        simp at hn
        omega)
      have HN := Lib.hid (specIs_any n (e + 1) 1000000)
      rw [hn] at HN
      rw [hr] at HP
      clear hr hn
      unfold ppV poV at *
      go_enter Try.func28, Try.ntmps28
      go_wp2_with fail
      refine (HP.out _ (bel2 _ _ _)).mono ?_
      rintro x w1 ⟨rfl, hb1⟩
      have Z := (Blk.new w 31 #[.int .i64 e, .int .i64 p, .int .i64 b, .int .i64 i, .slice a l.length cap]).alloc (.cells zeroPo 33) |>.kept hb1
      have X := (Blk.new (w.alloc (.cells #[.int .i64 e, .int .i64 p, .int .i64 b, .int .i64 i, .slice a l.length cap] 31)) 33 zeroPo).kept hb1
      rw [World.size_alloc] at X
      have HB : Hid (Below w.heap.size w w1) := Lib.hid ((bel2 _ _ _).trans (hb1.mono (by simp; omega)))
      clear hb1
      have hz := Z.cell
      go_wp2_with (go_at_call 57; refine (HN.out _).mono ?_; rintro x w' ⟨rfl, rfl⟩)
      refine (HI.out _).mono ?_
      rintro x w2 ⟨rfl, hb2⟩
      replace X := X.kept hb2
      replace HB : Hid (Below w.heap.size w w2) := Lib.hid (HB.out.trans (hb2.mono HB.out.size))
      clear hb2 hz Z
      unfold zeroPo at X
      have hc := X.cell
      have hf := X.frozen
      go_wp2_with fail
      refine bodyPost_ret (v := poV 0 0 0 0 (.slice none 0 0) (.slice none 0 0) false 1) (by simp [results, Try.results28, go_sem, poV, *]) rfl ?_
      exact PoPost.plain (by rw [HR.out]; rfl) (by rw [HR.out]; rfl) (by rw [HR.out]; rfl) (set8 HB.out (Nat.le_succ _) _ _ _ _ _ _ _ _)
    · have HR : Hid (resetR e p b i l n = ⟨n, p, 0, 0, [], [], false, 0⟩) := Lib.hid (by
        unfold resetR
        rw [if_pos]
        unfold inR at hn
        simp at hn
        exact ⟨hr, by omega, by omega⟩)
      have HN := Lib.hid (specIs_any n (e + 1) 1000000)
      rw [hn] at HN
      rw [hr] at HP
      clear hr hn
      unfold ppV at *
      go_enter Try.func28, Try.ntmps28
      go_wp2_with fail
      refine (HP.out _ (bel2 _ _ _)).mono ?_
      rintro x w1 ⟨rfl, hb1⟩
      have Z := (Blk.new w 31 #[.int .i64 e, .int .i64 p, .int .i64 b, .int .i64 i, .slice a l.length cap]).alloc (.cells zeroPo 33) |>.kept hb1
      have X := (Blk.new (w.alloc (.cells #[.int .i64 e, .int .i64 p, .int .i64 b, .int .i64 i, .slice a l.length cap] 31)) 33 zeroPo).kept hb1
      rw [World.size_alloc] at X
      have HB : Hid (Below w.heap.size w w1) := Lib.hid ((bel2 _ _ _).trans (hb1.mono (by simp; omega)))
      clear hb1
      have hz := Z.cell
      unfold zeroPo at X
      have hc := X.cell
      have hf := X.frozen
      go_wp2_with (go_at_call 57; refine (HN.out _).mono ?_; rintro x w' ⟨rfl, rfl⟩)
      refine bodyPost_ret (v := poV n p 0 0 (.slice none 0 0) (.slice none 0 0) false 0) (by simp [results, Try.results28, go_sem, poV, *]) rfl ?_
      exact PoPost.plain (by rw [HR.out]) (by rw [HR.out]) (by rw [HR.out]) (set8 HB.out (Nat.le_succ _) _ _ _ _ _ _ _ _)
set_option maxHeartbeats 1000000 in
theorem implPipeReset_any (e p b i : Int) (v : Value) (l : List ByteArray) (n : Int) (w : World) (h : StsAt w v l) : Calls Try.prog 29 #[ppV e p b i v, .int .i64 n] w (PoPost (resetR e p b i l n) w) := by
  have HP := Lib.hid (fun (W' : World) (hb : Below w.heap.size w W') => implPipeRight_any e p b i v l W' (h.kept hb))
  obtain ⟨a, cap, rfl⟩ := h.form
  clear h
  have hcs : ppRight e p b i l = false ∨ (ppRight e p b i l = true ∧ n ≤ e) ∨ (ppRight e p b i l = true ∧ e < n ∧ 1000000 < n) ∨ (ppRight e p b i l = true ∧ e < n ∧ n ≤ 1000000) := by
    cases ppRight e p b i l
    · exact .inl rfl
    · by_cases h1 : n ≤ e
      · exact .inr (.inl ⟨rfl, h1⟩)
      · by_cases h2 : n ≤ 1000000
        · exact .inr (.inr (.inr ⟨rfl, by omega, h2⟩))
        · exact .inr (.inr (.inl ⟨rfl, by omega, by omega⟩))
  rcases hcs with hr | ⟨hr, q1⟩ | ⟨hr, q1, q2⟩ | ⟨hr, q1, q2⟩
  case inr.inr.inr =>
    have HR : Hid (resetR e p b i l n = ⟨n, p, 0, 0, [], [], false, 0⟩) := Lib.hid (by unfold resetR; rw [if_pos ⟨hr, q1, q2⟩])
    rw [hr] at HP
    clear hr
    have q3 : ¬ n ≤ e := by omega
    have q4 : ¬ 1000000 < n := by omega
    unfold ppV at *
    go_enter Try.func29, Try.ntmps29
    go_wp2_with fail
    refine (HP.out _ (bel2 _ _ _)).mono ?_
    rintro x w1 ⟨rfl, hb1⟩
    have Z := (Blk.new w 31 #[.int .i64 e, .int .i64 p, .int .i64 b, .int .i64 i, .slice a l.length cap]).alloc (.cells zeroPo 33) |>.kept hb1
    have X := (Blk.new (w.alloc (.cells #[.int .i64 e, .int .i64 p, .int .i64 b, .int .i64 i, .slice a l.length cap] 31)) 33 zeroPo).kept hb1
    rw [World.size_alloc] at X
    have HB : Hid (Below w.heap.size w w1) := Lib.hid ((bel2 _ _ _).trans (hb1.mono (by simp; omega)))
    clear hb1
    have hz := Z.cell
    unfold zeroPo at X
    have hc := X.cell
    have hf := X.frozen
    go_wp2_with fail
    refine bodyPost_ret (v := poV n p 0 0 (.slice none 0 0) (.slice none 0 0) false 0) (by simp [results, Try.results29, go_sem, poV, *]) rfl ?_
    exact PoPost.plain (by rw [HR.out]) (by rw [HR.out]) (by rw [HR.out]) (set8 HB.out (Nat.le_succ _) _ _ _ _ _ _ _ _)
  all_goals
    have HR : Hid (resetR e p b i l n = poIll 1) := Lib.hid (by
      unfold resetR
      rw [if_neg]
      rintro ⟨k1, k2, k3⟩
      first | omega | (rw [hr] at k1; cases k1))
    rw [hr] at HP
    clear hr
    try have q3 : ¬ n ≤ e := by omega
    unfold ppV at *
    go_enter Try.func29, Try.ntmps29
    go_wp2_with fail
    refine (HP.out _ (bel2 _ _ _)).mono ?_
    rintro x w1 ⟨rfl, hb1⟩
    have Z := (Blk.new w 31 #[.int .i64 e, .int .i64 p, .int .i64 b, .int .i64 i, .slice a l.length cap]).alloc (.cells zeroPo 33) |>.kept hb1
    have X := (Blk.new (w.alloc (.cells #[.int .i64 e, .int .i64 p, .int .i64 b, .int .i64 i, .slice a l.length cap] 31)) 33 zeroPo).kept hb1
    rw [World.size_alloc] at X
    have HB : Hid (Below w.heap.size w w1) := Lib.hid ((bel2 _ _ _).trans (hb1.mono (by simp; omega)))
    clear hb1
    have hz := Z.cell
    unfold zeroPo at X
    have hc := X.cell
    have hf := X.frozen
    go_wp2_with fail
    refine bodyPost_ret (v := poV 0 0 0 0 (.slice none 0 0) (.slice none 0 0) false 1) (by simp [results, Try.results29, go_sem, poV, *]) rfl ?_
    exact PoPost.plain (by rw [HR.out]; rfl) (by rw [HR.out]; rfl) (by rw [HR.out]; rfl) (set8 HB.out (Nat.le_succ _) _ _ _ _ _ _ _ _)
end Go.Proofs.Ytfmhccmaeonbhaa
