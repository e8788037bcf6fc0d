/- PipePut, whole. -/
import Derived.Test.YtfmhccmaeonbhaaPpV
namespace Go.Proofs.Ytfmhccmaeonbhaa
open Go.RowKit

set_option maxRecDepth 100000 in
set_option maxHeartbeats 2000000 in
theorem specPipePut_any (e p b i : Int) (v : Value) (l : List ByteArray) (s : ByteArray) (w : World) (h : StsAt w v l) (hs : s.size ≤ maxLen) :
    Calls Try.prog 33 #[ppV e p b i v, .string s] w (PoPost (putR e p b i l s) w) := by
  unfold maxLen at hs
  have HP := Lib.hid (fun (W' : World) (hb : Below w.heap.size w W') => specPipeRight_any e p b i v l W' (h.kept hb))
  have HI := Lib.hid specIll_any
  have HU0 := Lib.hid (fun (hr : ppRight e p b i l = true) (W' : World) (hb : Below w.heap.size w W') => specPutIn_any e p b i v l s W' (h.kept hb) (ppRight_more hr).1 (ppRight_more hr).2.1 (ppRight_more hr).2.2.1)
  obtain ⟨a, cap, rfl⟩ := h.form
  clear h
  have hw := put_way e p b i l s
  unfold poV at HI
  unfold ppV at *
  rcases hw with ⟨h1, hr⟩ | ⟨h1, h2, hr⟩ | ⟨h1, h2, h3, hr⟩ | ⟨h1, h2, h3, hr⟩
  case long =>
    go_enter Try.func33, Try.ntmps33
    go_wp2_with fail
    refine (HI.out _ _).mono ?_
    rintro x w1 ⟨rfl, hb1⟩
    have X := (Blk.new (w.alloc (.cells #[.int .i64 e, .int .i64 p, .int .i64 b, .int .i64 i, .slice a l.length cap] 31)) 33 zeroPo).kept hb1
    rw [World.size_alloc] at X
    have HB : Hid (Below w.heap.size w w1) := Lib.hid ((bel2 _ _ _).trans (hb1.mono (by simp; omega)))
    clear hb1
    unfold zeroPo at X
    have hc := X.cell
    have hf := X.frozen
    go_wp2_with fail
    refine bodyPost_ret (v := poV 0 0 0 0 (.slice none 0 0) (.slice none 0 0) false 2) (by simp [results, Try.results33, go_sem, poV, *]) rfl ?_
    exact PoPost.plain (by rw [hr.out]; rfl) (by rw [hr.out]; rfl) (by rw [hr.out]; rfl) (set8 HB.out (Nat.le_succ _) _ _ _ _ _ _ _ _)
  case right =>
    have HU := Lib.hid (HU0.out h2)
    rw [h2] at HP
    rw [hr.out]
    clear HU0 h2 hr
    have h4 : ¬ (60 : Int) < (s.size : Int) := by omega
    generalize putIn e p b i l s = r at *
    go_enter Try.func33, Try.ntmps33
    go_wp2_with fail
    refine (HP.out _ (bel2 _ _ _)).mono ?_
    rintro x w1 ⟨rfl, hb1⟩
    have Z := (Blk.new w 31 #[.int .i64 e, .int .i64 p, .int .i64 b, .int .i64 i, .slice a l.length cap]).alloc (.cells zeroPo 33) |>.kept hb1
    have X := (Blk.new (w.alloc (.cells #[.int .i64 e, .int .i64 p, .int .i64 b, .int .i64 i, .slice a l.length cap] 31)) 33 zeroPo).kept hb1
    rw [World.size_alloc] at X
    have HB : Hid (Below w.heap.size w w1) := Lib.hid ((bel2 _ _ _).trans (hb1.mono (by simp; omega)))
    clear hb1
    have hz := Z.cell
    go_wp2_with fail
    refine (HU.out _ HB.out).mono ?_
    rintro x w2 ⟨rv, rt, rfl, ho, ht, hap, hb2⟩
    have HO := Lib.hid (own_mono ho HB.out.size)
    have HO' := Lib.hid (own_mono ht HB.out.size)
    have HA := Lib.hid hap
    replace X := X.kept hb2
    replace HB : Hid (Below w.heap.size w w2) := Lib.hid (HB.out.trans (hb2.mono HB.out.size))
    clear hb2 ho ht hap hz Z HU HP HI
    obtain ⟨ra, rc, rfl⟩ := own_form HO.out
    obtain ⟨ta, tc, rfl⟩ := own_form HO'.out
    have HS1 := Lib.hid (own_set8 X HO.out (by decide))
    have HS2 := Lib.hid (own_set8 X HO'.out (by decide))
    unfold poV
    unfold zeroPo at X
    have hc := X.cell
    have hf := X.frozen
    go_wp2_with fail
    refine bodyPost_ret (v := poV r.e r.p r.b r.i (.slice ra r.l.length rc) (.slice ta r.m.length tc) r.f r.c) (by simp [results, Try.results33, go_sem, poV, *]) rfl ?_
    exact ⟨_, _, rfl, HS1.out _ _ _ _ _ _ _ _, HS2.out _ _ _ _ _ _ _ _, HA.out, set8 HB.out (Nat.le_succ _) _ _ _ _ _ _ _ _⟩
  all_goals
    rw [h2] at HP
    clear h2
    try have h4 : (60 : Int) < (s.size : Int) := by omega
    go_enter Try.func33, Try.ntmps33
    go_wp2_with fail
    refine (HP.out _ (bel2 _ _ _)).mono ?_
    rintro x w1 ⟨rfl, hb1⟩
    have X := (Blk.new (w.alloc (.cells #[.int .i64 e, .int .i64 p, .int .i64 b, .int .i64 i, .slice a l.length cap] 31)) 33 zeroPo).kept hb1
    rw [World.size_alloc] at X
    have HB : Hid (Below w.heap.size w w1) := Lib.hid ((bel2 _ _ _).trans (hb1.mono (by simp; omega)))
    clear hb1
    go_wp2_with fail
    refine (HI.out _ _).mono ?_
    rintro x w2 ⟨rfl, hb2⟩
    replace X := X.kept hb2
    replace HB : Hid (Below w.heap.size w w2) := Lib.hid (HB.out.trans (hb2.mono HB.out.size))
    clear hb2
    unfold zeroPo at X
    have hc := X.cell
    have hf := X.frozen
    go_wp2_with fail
    refine bodyPost_ret (v := poV 0 0 0 0 (.slice none 0 0) (.slice none 0 0) false 1) (by simp [results, Try.results33, go_sem, poV, *]) rfl ?_
    exact PoPost.plain (by rw [hr.out]; rfl) (by rw [hr.out]; rfl) (by rw [hr.out]; rfl) (set8 HB.out (Nat.le_succ _) _ _ _ _ _ _ _ _)

/- the program's -/
set_option maxRecDepth 100000 in
set_option maxHeartbeats 4000000 in
theorem implPipePut_any (e p b i : Int) (v : Value) (l : List ByteArray) (s : ByteArray) (w : World) (h : StsAt w v l) (hs : s.size ≤ maxLen) :
    Calls Try.prog 34 #[ppV e p b i v, .string s] w (PoPost (putR e p b i l s) w) := by
  have HL := Lib.hid (fun W' : World => tooLong_any s W' hs)
  have HP := Lib.hid (fun (W' : World) (hb : Below w.heap.size w W') => implPipeRight_any e p b i v l W' (h.kept hb))
  have HK := Lib.hid (fun (W' : World) (hb : Below w.heap.size w W') => cut0_any v l W' (h.kept hb))
  unfold maxLen at hs
  obtain ⟨a, cap, rfl⟩ := h.form
  clear h
  have hw := put_way e p b i l s
  rcases hw with ⟨h1, hr⟩ | ⟨h1, h2, hr⟩ | ⟨h1, h2, h3, hr⟩ | ⟨h1, h2, h3, hr⟩
  case long =>
    rw [decide_eq_true h1] at HL
    unfold ppV at *
    go_enter Try.func34, Try.ntmps34
    go_wp2_with (go_at_call 76; refine (HL.out _).mono ?_; rintro x w' ⟨rfl, rfl⟩)
    refine bodyPost_ret (v := poV 0 0 0 0 (.slice none 0 0) (.slice none 0 0) false 2) (by simp [results, Try.results34, go_sem, poV, *]) rfl ?_
    refine PoPost.plain (by rw [hr.out]; rfl) (by rw [hr.out]; rfl) (by rw [hr.out]; rfl) ?_
    go_grown
  case right =>
    rw [decide_eq_false h1] at HL
    obtain ⟨hb0, hb1, hn, hsum, hsh, _, _, hp0, _⟩ := ppRight_more h2
    have HSH := Lib.hid hsh
    have HLN := Lib.hid (fun w => lastNum_any e p b i a l.length cap w hb0 hb1 hn)
    have HM := Lib.hid (fun w => implMessage_yes s w h3)
    rw [h2] at HP
    rw [hr.out]
    clear h2 hr hsh
    by_cases q1 : p = 0
    · have HR : Hid (putIn e p b i l s = poIll 10) := Lib.hid (by rw [putIn, if_pos q1])
      subst q1
      unfold ppV at *
      go_enter Try.func34, Try.ntmps34
      go_wp2_with (go_at_call 76; refine (HL.out _).mono ?_; rintro x w' ⟨rfl, rfl⟩)
      refine (HP.out _ (bel2 _ _ _)).mono ?_
      rintro x w1 ⟨rfl, hb1⟩
      have Z := (Blk.new w 31 #[.int .i64 e, .int .i64 0, .int .i64 b, .int .i64 i, .slice a l.length cap]).alloc (.cells zeroPo 33) |>.kept hb1
      have X := (Blk.new (w.alloc (.cells #[.int .i64 e, .int .i64 0, .int .i64 b, .int .i64 i, .slice a l.length cap] 31)) 33 zeroPo).kept hb1
      rw [World.size_alloc] at X
      have HB : Hid (Below w.heap.size w w1) := Lib.hid ((bel2 _ _ _).trans (hb1.mono (by simp; omega)))
      clear hb1
      unfold zeroPo at X
      have hz := Z.cell
      have hc := X.cell
      have hf := X.frozen
      go_wp2_with (go_at_call 61; refine (HM.out _).mono ?_; rintro x w' ⟨rfl, rfl⟩)
      refine bodyPost_ret (v := poV 0 0 0 0 (.slice none 0 0) (.slice none 0 0) false 10) (by simp [results, Try.results34, go_sem, poV, *]) rfl ?_
      exact PoPost.plain (by rw [HR.out]; rfl) (by rw [HR.out]; rfl) (by rw [HR.out]; rfl) (set8 HB.out (Nat.le_succ _) _ _ _ _ _ _ _ _)
    have hcs : Hid (l.length = 60) ∨ (¬ (l.length : Int) = 60 ∧ ¬ l.length = 60 ∧ Hid (b + (l.length : Int) = 1000000)) ∨ (¬ (l.length : Int) = 60 ∧ ¬ l.length = 60 ∧ ¬ b + (l.length : Int) = 1000000) := by
      by_cases k1 : l.length = 60
      · exact .inl (Lib.hid k1)
      · by_cases k2 : b + (l.length : Int) = 1000000
        · exact .inr (.inl ⟨by omega, k1, Lib.hid k2⟩)
        · exact .inr (.inr ⟨by omega, k1, k2⟩)
    rcases hcs with q2 | ⟨q2, q3, q4⟩ | ⟨q2, q3, q4⟩
    · have HR : Hid (putIn e p b i l s = poIll 9) := Lib.hid (by rw [putIn, if_neg q1, if_pos (.inl (by have := q2.out; omega))])
      rw [q2.out] at HP ⊢
      clear q2 HLN HK hsum
      unfold ppV at *
      go_enter Try.func34, Try.ntmps34
      go_wp2_with (go_at_call 76; refine (HL.out _).mono ?_; rintro x w' ⟨rfl, rfl⟩)
      refine (HP.out _ (bel2 _ _ _)).mono ?_
      rintro x w1 ⟨rfl, hb1⟩
      have Z := (Blk.new w 31 #[.int .i64 e, .int .i64 p, .int .i64 b, .int .i64 i, .slice a 60 cap]).alloc (.cells zeroPo 33) |>.kept hb1
      have X := (Blk.new (w.alloc (.cells #[.int .i64 e, .int .i64 p, .int .i64 b, .int .i64 i, .slice a 60 cap] 31)) 33 zeroPo).kept hb1
      rw [World.size_alloc] at X
      have HB : Hid (Below w.heap.size w w1) := Lib.hid ((bel2 _ _ _).trans (hb1.mono (by simp; omega)))
      clear hb1
      unfold zeroPo at X
      have hz := Z.cell
      have hc := X.cell
      have hf := X.frozen
      go_wp2_with (go_at_call 61; refine (HM.out _).mono ?_; rintro x w' ⟨rfl, rfl⟩)
      refine bodyPost_ret (v := poV 0 0 0 0 (.slice none 0 0) (.slice none 0 0) false 9) (by simp [results, Try.results34, go_sem, poV, *]) rfl ?_
      exact PoPost.plain (by rw [HR.out]; rfl) (by rw [HR.out]; rfl) (by rw [HR.out]; rfl) (set8 HB.out (Nat.le_succ _) _ _ _ _ _ _ _ _)
    · have HR : Hid (putIn e p b i l s = poIll 9) := Lib.hid (by rw [putIn, if_neg q1, if_pos (.inr (by have := q4.out; omega))])
      rw [q4.out] at HLN
      clear q4 hsum
      unfold ppV at *
      go_enter Try.func34, Try.ntmps34
      go_wp2_with (go_at_call 76; refine (HL.out _).mono ?_; rintro x w' ⟨rfl, rfl⟩)
      refine (HP.out _ (bel2 _ _ _)).mono ?_
      rintro x w1 ⟨rfl, hb1⟩
      have Z := (Blk.new w 31 #[.int .i64 e, .int .i64 p, .int .i64 b, .int .i64 i, .slice a l.length cap]).alloc (.cells zeroPo 33) |>.kept hb1
      have X := (Blk.new (w.alloc (.cells #[.int .i64 e, .int .i64 p, .int .i64 b, .int .i64 i, .slice a l.length cap] 31)) 33 zeroPo).kept hb1
      rw [World.size_alloc] at X
      have HB : Hid (Below w.heap.size w w1) := Lib.hid ((bel2 _ _ _).trans (hb1.mono (by simp; omega)))
      clear hb1
      have hz := Z.cell
      go_wp2_with (go_at_call 61; refine (HM.out _).mono ?_; rintro x w' ⟨rfl, rfl⟩)
      refine (HLN.out _).mono ?_
      rintro x w2 ⟨rfl, hb2⟩
      replace X := X.kept hb2
      replace HB : Hid (Below w.heap.size w w2) := Lib.hid (HB.out.trans (hb2.mono HB.out.size))
      clear hb2 hz Z
      unfold zeroPo at X
      have hc := X.cell
      have hf := X.frozen
      go_wp2_with fail
      refine bodyPost_ret (v := poV 0 0 0 0 (.slice none 0 0) (.slice none 0 0) false 9) (by simp [results, Try.results34, go_sem, poV, *]) rfl ?_
      exact PoPost.plain (by rw [HR.out]; rfl) (by rw [HR.out]; rfl) (by rw [HR.out]; rfl) (set8 HB.out (Nat.le_succ _) _ _ _ _ _ _ _ _)
    · have HR : Hid (putIn e p b i l s = ⟨e, p, b, i, l ++ [s], [], false, 0⟩) := Lib.hid (by rw [putIn, if_neg q1, if_neg (by omega)])
      have HC := Lib.hid (fun (u : Value) (W' : World) (hu : StsAt W' u (l ++ [s])) => copied_any u (l ++ [s]) W' hu (by simp; omega) (fun x hx => by
        rcases List.mem_append.1 hx with hx | hx
        · have := HSH.out x hx; omega
        · simp at hx; subst hx; omega))
      clear hsum
      have q5 : (b + (l.length : Int) == 1000000) = false := by simpa using q4
      have q6 : ((l.length : Int) == 60) = false := by simpa using q2
      unfold ppV at *
      go_enter Try.func34, Try.ntmps34
      go_wp2_with (go_at_call 76; refine (HL.out _).mono ?_; rintro x w' ⟨rfl, rfl⟩)
      refine (HP.out _ (bel2 _ _ _)).mono ?_
      rintro x w1 ⟨rfl, hb1⟩
      have Z := (Blk.new w 31 #[.int .i64 e, .int .i64 p, .int .i64 b, .int .i64 i, .slice a l.length cap]).alloc (.cells zeroPo 33) |>.kept hb1
      have X := (Blk.new (w.alloc (.cells #[.int .i64 e, .int .i64 p, .int .i64 b, .int .i64 i, .slice a l.length cap] 31)) 33 zeroPo).kept hb1
      rw [World.size_alloc] at X
      have HB : Hid (Below w.heap.size w w1) := Lib.hid ((bel2 _ _ _).trans (hb1.mono (by simp; omega)))
      clear hb1
      have hz := Z.cell
      go_wp2_with (go_at_call 61; refine (HM.out _).mono ?_; rintro x w' ⟨rfl, rfl⟩)
      refine (HLN.out _).mono ?_
      rintro x w2 ⟨rfl, hb2⟩
      replace X := X.kept hb2
      replace Z := Z.kept hb2
      replace HB : Hid (Below w.heap.size w w2) := Lib.hid (HB.out.trans (hb2.mono HB.out.size))
      clear hb2 hz
      have hz := Z.cell
      go_wp2_with fail
      refine (HK.out _ HB.out).mono ?_
      rintro x w3 ⟨ka, rfl, hk, rfl⟩
      have HKS := Lib.hid hk
      clear hk HLN HM HP HL HK hz
      have hsz := HB.out.size
      go_wp2_with (at_builtin; refine wpList_append_full _ rfl _ _ rfl l s ka rfl (HKS.out.alloc _) ⟨w2.heap.size, 0, none⟩ rfl (by simp) (by omega) ?_; intro a' c' n' w4 HN4 hown4 hg4; replace X := (X.alloc _).grown hg4 (by simp); replace Z := (Z.alloc _).grown hg4 (by simp); replace HB : Hid (Below w.heap.size w w4) := Lib.hid ((HB.out.alloc hsz _).grown hg4 (by simp; omega) (fun k hk => by cases hk)); have HO4 := Lib.hid hown4; clear hown4 hg4 hsz HKS)
      have hn4 := HN4.out
      subst hn4
      clear HN4
      refine (HC.out _ _ (StsAt.of_own HO4.out)).mono ?_
      rintro x w5 ⟨u, rfl, hown5, hb5⟩
      replace X := X.kept hb5
      replace Z := Z.kept hb5
      have HO5 := Lib.hid (own_mono hown5 HB.out.size)
      replace HB : Hid (Below w.heap.size w w5) := Lib.hid (HB.out.trans (hb5.mono HB.out.size))
      clear hb5 hown5 HO4 HC
      obtain ⟨ua, uc, rfl⟩ := own_form HO5.out
      obtain ⟨m, hm⟩ : ∃ m, m = (l ++ [s]).length := ⟨_, rfl⟩
      rw [← hm] at HO5 ⊢
      have HM5 := Lib.hid hm
      clear hm
      have cZ := Z.cell
      have fZ := Z.frozen
      go_upto_region 10 with fail
      obtain ⟨W3, hW3⟩ : ∃ W, W = w5.setCell ⟨w.heap.size, 4, none⟩ (.slice ua m uc) := ⟨_, rfl⟩
      rw [← hW3]
      replace HO5 : Hid (W3.ownsRow w.heap.size 9 1 (.slice ua m uc) m (strsV (l ++ [s]))) := Lib.hid (by
        subst hW3
        exact ownsRow_setCell_other HO5.out (fun e => blk_not_own Z HO5.out (by decide) e.symm) _)
      replace Z : Blk W3 w.heap.size 31 #[.int .i64 e, .int .i64 p, .int .i64 b, .int .i64 i, .slice ua m uc] := by
        have := Z.set 4 (.slice ua m uc)
        subst hW3
        simpa using this
      replace X : Blk W3 (w.heap.size + 1) 33 zeroPo := by subst hW3; exact X.far (by omega)
      replace HB : Hid (Below w.heap.size w W3) := Lib.hid (by subst hW3; exact HB.out.setCell (Nat.le_refl _) _)
      clear hW3 cZ fZ
      have HS1 := Lib.hid (own_set8 X HO5.out (by decide))
      unfold zeroPo at X
      have cZ := Z.cell
      have cX := X.cell
      have fX := X.frozen
      go_wp2_with fail
      refine bodyPost_ret (v := poV e p b i (.slice ua m uc) (.slice none 0 0) false 0) (by simp [results, Try.results34, go_sem, poV, *]) rfl ?_
      refine ⟨_, _, by rw [HR.out], ?_, by rw [HR.out]; exact World.ownsRow_nil _ _ _ _, apart_symm (.inl rfl), set8 HB.out (Nat.le_succ _) _ _ _ _ _ _ _ _⟩
      rw [HR.out]
      dsimp only
      rw [← HM5.out]
      exact HS1.out _ _ _ _ _ _ _ _
  all_goals
    rw [decide_eq_false h1] at HL
    rw [h2] at HP
    clear h2
    unfold ppV at *
    go_enter Try.func34, Try.ntmps34
    go_wp2_with (go_at_call 76; refine (HL.out _).mono ?_; rintro x w' ⟨rfl, rfl⟩)
    refine (HP.out _ (bel2 _ _ _)).mono ?_
    rintro x w1 ⟨rfl, hb1⟩
    have X := (Blk.new (w.alloc (.cells #[.int .i64 e, .int .i64 p, .int .i64 b, .int .i64 i, .slice a l.length cap] 31)) 33 zeroPo).kept hb1
    rw [World.size_alloc] at X
    have HB : Hid (Below w.heap.size w w1) := Lib.hid ((bel2 _ _ _).trans (hb1.mono (by simp; omega)))
    clear hb1
    unfold zeroPo at X
    have hc := X.cell
    have hf := X.frozen
    go_wp2_with (go_at_call 61; refine (implMessage_no _ _ h3).mono ?_; rintro x w' ⟨rfl, rfl⟩)
    refine bodyPost_ret (v := poV 0 0 0 0 (.slice none 0 0) (.slice none 0 0) false 1) (by simp [results, Try.results34, go_sem, poV, *]) rfl ?_
    exact PoPost.plain (by rw [hr.out]; rfl) (by rw [hr.out]; rfl) (by rw [hr.out]; rfl) (set8 HB.out (Nat.le_succ _) _ _ _ _ _ _ _ _)
end Go.Proofs.Ytfmhccmaeonbhaa
