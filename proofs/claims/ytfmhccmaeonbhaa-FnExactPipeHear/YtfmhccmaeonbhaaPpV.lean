/- PipePut, of the model and of the program. -/
import Derived.Test.YtfmhccmaeonbhaaPpU
namespace Go.Proofs.Ytfmhccmaeonbhaa
open Go.RowKit

def putIn (e p b i : Int) (l : List ByteArray) (s : ByteArray) : Po := if p = 0 then poIll 10 else if 60 ≤ l.length ∨ 1000000 ≤ b + l.length then poIll 9 else ⟨e, p, b, i, l ++ [s], [], false, 0⟩
def putR (e p b i : Int) (l : List ByteArray) (s : ByteArray) : Po := if 8000 < s.size then poIll 2 else if ppRight e p b i l = false ∨ 60 < s.size then poIll 1 else putIn e p b i l s
theorem sts1 (W : World) (s : ByteArray) : StsAt (W.alloc (.cells #[.string s] 9)) (.slice (some ⟨W.heap.size, 0, none⟩) 1 1) [s] :=
  StsAt.of_own (B := 0) (World.ownsRow_lit (base := 0) (e := 9) (size := 1) W #[.string s] 1 (Nat.zero_le _) (by unfold maxLen; omega) rfl)
theorem afterA {W w2 : World} {B b n sz : Nat} {t : TypeId} {c : Array Value} {u : Value} {xs : List Value} {o : Obj} (Y : Blk W b t c) (own : W.ownsRow B 9 sz u n xs) (hg : (W.alloc o).grownBy w2 u.ownBlock) (ht : t ≠ 9) : Blk w2 b t c :=
  (Y.alloc o).grown hg (blk_not_own (Y.alloc o) (own.alloc o) ht)
theorem ppRight_more {e p b i : Int} {l : List ByteArray} (h : ppRight e p b i l = true) : 0 ≤ b ∧ b ≤ 1000000 ∧ l.length ≤ 60 ∧ b + l.length ≤ 1000000 ∧ (∀ s ∈ l, s.size ≤ 60) ∧ 0 ≤ i ∧ i ≤ 1000000 ∧ 0 ≤ p ∧ p ≤ 1000000 := by
  unfold ppRight ppHead shortL at h
  simp only [Bool.and_eq_true, decide_eq_true_eq] at h
  obtain ⟨⟨_, h1, h2, h3⟩, ⟨h4, h5⟩, h6, _⟩ := h
  have := isTime_b h2
  have := isTime_b h3
  have := isTime_b h1
  exact ⟨by omega, by omega, h4, h6, h5, by omega, by omega, by omega, by omega⟩
def ppCells (e p b i : Int) (v : Value) : Array Value := #[.int .i64 e, .int .i64 p, .int .i64 b, .int .i64 i, v]
/- the model's answer to what is wrong, stored into the result -/
set_option maxRecDepth 100000 in
set_option maxHeartbeats 2000000 in
theorem specPutIn_any (e p b i : Int) (v : Value) (l : List ByteArray) (s : ByteArray) (w : World) (h : StsAt w v l) (hb0 : 0 ≤ b) (hb1 : b ≤ 1000000) (hn : l.length ≤ 60) :
    Calls Try.prog 75 #[ppV e p b i v, .string s] w (PoPost (putIn e p b i l s) w) := by
  have HC := Lib.hid (fun (W' : World) (hb : Below w.heap.size w W') => specCopy_any e p b i v l W' (h.kept hb) (by omega))
  have HI := Lib.hid specIll_any
  obtain ⟨a, cap, rfl⟩ := h.form
  clear h
  unfold poV at HI
  unfold ppV at *
  by_cases q1 : p = 0
  · have HR : Hid (putIn e p b i l s = poIll 10) := Lib.hid (by rw [putIn, if_pos q1])
    subst q1
    go_enter Try.func75, Try.ntmps75
    go_wp2_with fail
    refine (HI.out _ _).mono ?_
    rintro x w1 ⟨rfl, hb1⟩
    have X := (Blk.new (w.alloc (.cells #[.int .i64 e, .int .i64 0, .int .i64 b, .int .i64 i, .slice a l.length cap] 31)) 33 zeroPo).kept hb1
    rw [World.size_alloc] at X
    have HB : Hid (Below w.heap.size w w1) := Lib.hid ((bel2 _ _ _).trans (hb1.mono (by simp; omega)))
    clear hb1
    unfold zeroPo at X
    have hc := X.cell
    have hf := X.frozen
    go_wp2_with fail
    refine bodyPost_ret (v := poV 0 0 0 0 (.slice none 0 0) (.slice none 0 0) false 10) (by simp [results, Try.results75, go_sem, poV, *]) rfl ?_
    exact PoPost.plain (by rw [HR.out]; rfl) (by rw [HR.out]; rfl) (by rw [HR.out]; rfl) (set8 HB.out (Nat.le_succ _) _ _ _ _ _ _ _ _)
  by_cases q2 : 60 ≤ l.length ∨ 1000000 ≤ b + l.length
  · have HR : Hid (putIn e p b i l s = poIll 9) := Lib.hid (by rw [putIn, if_neg q1, if_pos q2])
    have hcs : (60 : Int) ≤ (l.length : Int) ∨ (¬ (60 : Int) ≤ (l.length : Int) ∧ 1000000 ≤ b + (l.length : Int)) := by omega
    rcases hcs with q3 | ⟨q3, q4⟩
    all_goals
      clear q2
      go_enter Try.func75, Try.ntmps75
      go_wp2_with fail
      refine (HI.out _ _).mono ?_
      rintro x w1 ⟨rfl, hb1⟩
      have X := (Blk.new (w.alloc (.cells #[.int .i64 e, .int .i64 p, .int .i64 b, .int .i64 i, .slice a l.length cap] 31)) 33 zeroPo).kept hb1
      rw [World.size_alloc] at X
      have HB : Hid (Below w.heap.size w w1) := Lib.hid ((bel2 _ _ _).trans (hb1.mono (by simp; omega)))
      clear hb1
      unfold zeroPo at X
      have hc := X.cell
      have hf := X.frozen
      go_wp2_with fail
      refine bodyPost_ret (v := poV 0 0 0 0 (.slice none 0 0) (.slice none 0 0) false 9) (by simp [results, Try.results75, go_sem, poV, *]) rfl ?_
      exact PoPost.plain (by rw [HR.out]; rfl) (by rw [HR.out]; rfl) (by rw [HR.out]; rfl) (set8 HB.out (Nat.le_succ _) _ _ _ _ _ _ _ _)
  · have HR : Hid (putIn e p b i l s = ⟨e, p, b, i, l ++ [s], [], false, 0⟩) := Lib.hid (by rw [putIn, if_neg q1, if_neg q2])
    have q3 : ¬ (60 : Int) ≤ (l.length : Int) := by omega
    have q4 : ¬ 1000000 ≤ b + (l.length : Int) := by omega
    clear q2
    go_enter Try.func75, Try.ntmps75
    go_wp2_with fail
    refine (HC.out _ (bel2 _ _ _)).mono ?_
    rintro x w1 ⟨u, rfl, hown, hb1⟩
    have Y := (Blk.new (w.alloc (.cells #[.int .i64 e, .int .i64 p, .int .i64 b, .int .i64 i, .slice a l.length cap] 31)) 33 zeroPo).kept hb1
    rw [World.size_alloc] at Y
    have HB : Hid (Below w.heap.size w w1) := Lib.hid ((bel2 _ _ _).trans (hb1.mono (by simp; omega)))
    have HO : Hid (w1.ownsRow w.heap.size 9 1 u l.length (strsV l)) := Lib.hid (own_mono hown (by simp; omega))
    clear hb1 hown
    obtain ⟨ua, uc, rfl⟩ := own_form HO.out
    unfold ppV
    go_upto_region 6 with fail
    obtain ⟨W2, hW2⟩ : ∃ W, W = w1.alloc (.cells #[.int .i64 e, .int .i64 p, .int .i64 b, .int .i64 i, .slice ua l.length uc] 31) := ⟨_, rfl⟩
    obtain ⟨q, hq⟩ : ∃ q, q = w1.heap.size := ⟨_, rfl⟩
    rw [← hW2, ← hq]
    have X : Blk W2 q 31 #[.int .i64 e, .int .i64 p, .int .i64 b, .int .i64 i, .slice ua l.length uc] := by subst hW2 hq; exact Blk.new _ _ _
    replace Y : Blk W2 (w.heap.size + 1) 33 zeroPo := by subst hW2; exact Y.alloc _
    replace HO : Hid (W2.ownsRow w.heap.size 9 1 (.slice ua l.length uc) l.length (strsV l)) := Lib.hid (by subst hW2; exact HO.out.alloc _)
    have hle : w.heap.size ≤ q := by subst hq; exact HB.out.size
    have hne : w.heap.size + 1 ≠ q := by
      intro e
      have h1 := X
      have h2 := Y
      rw [← e] at h1
      unfold Blk at h1 h2
      rw [h1] at h2
      simp at h2
    replace HB : Hid (Below w.heap.size w W2) := Lib.hid (by subst hW2; exact HB.out.alloc HB.out.size _)
    clear hW2 hq HC HI
    have hsz := HB.out.size
    have cX := X.cell
    go_upto_region 7 with (at_builtin; refine wpList_append_strs _ rfl _ _ rfl w.heap.size (.slice ua l.length uc) l [s] rfl (HO.out.alloc _) (some ⟨W2.heap.size, 0, none⟩) 1 rfl (sts1 W2 s) (by omega) (by simp) (by simp only [World.size_alloc]; omega) ?_; intro a' c' n' w2 HN2 hown2 hg; replace X := afterA X HO.out hg (by decide); replace Y := afterA Y HO.out hg (by decide); have HB2 : Hid (Below w.heap.size w w2) := Lib.hid ((HB.out.alloc hsz _).grown hg (by simp only [World.size_alloc]; omega) (fun k hk => (HO.out.lt k hk).1)); have HO2 := Lib.hid hown2; clear hown2 hg HO cX hsz; have cX := X.cell; have fX := X.frozen)
    obtain ⟨W3, hW3⟩ : ∃ W, W = w2.setCell ⟨q, 4, none⟩ (.slice a' n' c') := ⟨_, rfl⟩
    rw [← hW3]
    replace HO2 : Hid (W3.ownsRow w.heap.size 9 1 (.slice a' n' c') n' (strsV (l ++ [s]))) := Lib.hid (by
      subst hW3
      exact ownsRow_setCell_other HO2.out (fun e => blk_not_own X HO2.out (by decide) e.symm) _)
    replace X : Blk W3 q 31 #[.int .i64 e, .int .i64 p, .int .i64 b, .int .i64 i, .slice a' n' c'] := by
      have := X.set 4 (.slice a' n' c')
      subst hW3
      simpa using this
    replace Y : Blk W3 (w.heap.size + 1) 33 zeroPo := by subst hW3; exact Y.far hne
    replace HB2 : Hid (Below w.heap.size w W3) := Lib.hid (by subst hW3; exact HB2.out.setCell hle _)
    clear hW3 cX fX HB
    have HO3 := Lib.hid (own_set8 Y HO2.out (by decide))
    unfold zeroPo at Y
    have cX := X.cell
    have cY := Y.cell
    have fY := Y.frozen
    go_wp2_with fail
    refine bodyPost_ret (v := poV e p b i (.slice a' n' c') (.slice none 0 0) false 0) (by simp [results, Try.results75, go_sem, poV, *]) rfl ?_
    refine ⟨_, _, by rw [HR.out], ?_, by rw [HR.out]; exact World.ownsRow_nil _ _ _ _, apart_symm (.inl rfl), set8 HB2.out (Nat.le_succ _) _ _ _ _ _ _ _ _⟩
    rw [HR.out]
    dsimp only
    rw [← HN2.out]
    exact HO3.out _ _ _ _ _ _ _ _
theorem cut0_any (v : Value) (l : List ByteArray) (w : World) (h : StsAt w v l) :
    Calls Try.prog 78 #[v, .int .i64 0] w fun x w' => ∃ a, x = .returned (.slice a l.length l.length) ∧ StsAt w (.slice a l.length l.length) l ∧ w = w' := by
  refine (cutFrom_any v l 0 w h (Nat.zero_le _)).mono ?_
  rintro x w' ⟨a, h1, h2, h3⟩
  exact ⟨a, h1, h2, h3⟩
/- the ways through PipePut -/
inductive PutWay (e p b i : Int) (l : List ByteArray) (s : ByteArray) : Prop
  | long (h1 : (8000 : Int) < (s.size : Int)) (hr : Hid (putR e p b i l s = poIll 2))
  | wrong (h1 : ¬ (8000 : Int) < (s.size : Int)) (h2 : ppRight e p b i l = false) (hr : Hid (putR e p b i l s = poIll 1))
  | text (h1 : ¬ (8000 : Int) < (s.size : Int)) (h2 : ppRight e p b i l = true) (h3 : ¬ s.size ≤ 60) (hr : Hid (putR e p b i l s = poIll 1))
  | right (h1 : ¬ (8000 : Int) < (s.size : Int)) (h2 : ppRight e p b i l = true) (h3 : s.size ≤ 60) (hr : Hid (putR e p b i l s = putIn e p b i l s))
theorem put_way (e p b i : Int) (l : List ByteArray) (s : ByteArray) : PutWay e p b i l s := by
  by_cases h1 : 8000 < s.size
  · exact .long (by omega) (Lib.hid (by rw [putR, if_pos h1]))
  cases h2 : ppRight e p b i l
  · exact .wrong (by omega) h2 (Lib.hid (by rw [putR, if_neg h1, if_pos (.inl h2)]))
  by_cases h3 : s.size ≤ 60
  · exact .right (by omega) h2 h3 (Lib.hid (by rw [putR, if_neg h1, if_neg]; rintro (h | h); exact absurd (h2.symm.trans h) (by decide); omega))
  · exact .text (by omega) h2 h3 (Lib.hid (by rw [putR, if_neg h1, if_pos (.inr (by omega))]))
theorem putIn_small (e p b i : Int) (l : List ByteArray) (s : ByteArray) : (putIn e p b i l s).l.length + (putIn e p b i l s).m.length ≤ 100 := by
  unfold putIn
  split
  · simp [poIll]
  · split
    · simp [poIll]
    · simp; omega
theorem putR_small (e p b i : Int) (l : List ByteArray) (s : ByteArray) : (putR e p b i l s).l.length + (putR e p b i l s).m.length ≤ 100 := by
  unfold putR
  split
  · simp [poIll]
  · split
    · simp [poIll]
    · exact putIn_small _ _ _ _ _ _
end Go.Proofs.Ytfmhccmaeonbhaa
