/- Pipes: a law's own opened, turned into the program's, compared, its size; marked and held. -/
import Derived.Test.YtfmhccmaeonbhaaPp
namespace Go.Proofs.Ytfmhccmaeonbhaa
open Go.RowKit

def PpPost (e p b i : Int) (l : List ByteArray) (w : World) (x : Ending) (w' : World) : Prop := ∃ v, x = .returned (ppV e p b i v) ∧ w'.ownsRow w.heap.size 9 1 v l.length (strsV l) ∧ Below w.heap.size w w'
set_option maxHeartbeats 2000000 in
theorem toPipe_any (e p b i : Int) (v : Value) (l : List ByteArray) (w : World) (h : StsAt w v l) (hn : l.length ≤ 1048576) :
    Calls Try.prog 25 #[ppV e p b i v] w (PpPost e p b i l w) := by
  have HT := Lib.hid (fun (W' : World) (hb : Below w.heap.size w W') => toStringS_any l v W' (h.kept hb) hn)
  clear h
  obtain ⟨S, hS⟩ : ∃ S, S = strsV l := ⟨_, rfl⟩
  unfold ppV
  go_enter Try.func25, Try.ntmps25
  go_wp2_with fail
  refine (HT.out _ (((Below.refl _ _).alloc (Nat.le_refl _) _).alloc (by simp) _ |>.alloc (by simp; omega) _)).mono ?_
  rintro x w1 ⟨u, rfl, hown, hb1⟩
  obtain ⟨B1, h1⟩ : ∃ q, q = w.heap.size + 1 := ⟨_, rfl⟩
  obtain ⟨B2, h2⟩ : ∃ q, q = w.heap.size + 1 + 1 := ⟨_, rfl⟩
  have Y : Blk w1 B1 31 #[.int .i64 0, .int .i64 0, .int .i64 0, .int .i64 0, .slice none 0 0] := by
    refine Blk.kept ?_ hb1
    refine Blk.alloc ?_ _
    have := Blk.new (w.alloc (.cells #[.int .i64 e, .int .i64 p, .int .i64 b, .int .i64 i, v] 38)) 31 #[.int .i64 0, .int .i64 0, .int .i64 0, .int .i64 0, .slice none 0 0]
    subst h1
    simpa using this
  have X : Blk w1 B2 31 #[.int .i64 e, .int .i64 p, .int .i64 b, .int .i64 i, .slice none 0 0] := by
    refine Blk.kept ?_ hb1
    have := Blk.new ((w.alloc (.cells #[.int .i64 e, .int .i64 p, .int .i64 b, .int .i64 i, v] 38)).alloc (.cells #[.int .i64 0, .int .i64 0, .int .i64 0, .int .i64 0, .slice none 0 0] 31)) 31 #[.int .i64 e, .int .i64 p, .int .i64 b, .int .i64 i, .slice none 0 0]
    subst h2
    simpa using this
  have HB : Hid (Below w.heap.size w w1) := Lib.hid (by
    refine Below.trans ?_ (hb1.mono (by simp; omega))
    go_grown)
  have hw1 : w.heap.size ≤ B1 := by omega
  have hw2 : w.heap.size ≤ B2 := by omega
  have h12 : B1 ≠ B2 := by omega
  have h13 : B1 < B2 + 1 := by omega
  have HO : Hid (w1.ownsRow (B2 + 1) 9 1 u l.length (strsV l)) := Lib.hid (by subst h2; simpa using hown)
  clear hb1 hown
  rw [← h2, ← h1]
  clear h1 h2
  have cX := X.cell
  have fX := X.frozen
  obtain ⟨⟨ua, un, uc, rfl⟩⟩ : Nonempty (∃ a n c, u = .slice a n c) := ⟨by
    rcases HO.out.2 with ⟨rfl, _⟩ | ⟨g, cap, cur, rfl, _⟩
    · exact ⟨_, _, _, rfl⟩
    · exact ⟨_, _, _, rfl⟩⟩
  go_upto_region 7 with fail
  obtain ⟨W2, hW2⟩ : ∃ W, W = w1.setCell ⟨B2, 4, none⟩ (.slice ua un uc) := ⟨_, rfl⟩
  rw [← hW2]
  have hO2 : ∀ k, (Value.slice ua un uc).ownBlock = some k → B2 + 1 ≤ k := fun k hk => (HO.out.lt k hk).1
  replace X : Blk W2 B2 31 #[.int .i64 e, .int .i64 p, .int .i64 b, .int .i64 i, .slice ua un uc] := by
    have := X.set 4 (.slice ua un uc)
    subst hW2
    simpa using this
  replace Y : Blk W2 B1 31 #[.int .i64 0, .int .i64 0, .int .i64 0, .int .i64 0, .slice none 0 0] := by subst hW2; exact Y.far h12
  replace HB : Hid (Below w.heap.size w W2) := Lib.hid (by subst hW2; exact HB.out.setCell hw2 _)
  replace HO : Hid (W2.ownsRow (B2 + 1) 9 1 (.slice ua un uc) l.length (strsV l)) := Lib.hid (by subst hW2; exact ownsRow_setCell_below HO.out (by simp) _)
  clear hW2 cX fX
  have cX := X.cell
  have cY := Y.cell
  have fY := Y.frozen
  go_wp2_with fail
  refine bodyPost_ret (v := ppV e p b i (.slice ua un uc)) (by simp [results, Try.results25, go_sem, ppV, *]) rfl ⟨_, rfl, ?_, ?_⟩
  · refine own_mono ?_ (Nat.le_trans hw2 (Nat.le_succ B2))
    have hlt : B1 < B2 + 1 := h13
    exact ownsRow_setCell_below (ownsRow_setCell_below (ownsRow_setCell_below (ownsRow_setCell_below (ownsRow_setCell_below HO.out hlt _) hlt _) hlt _) hlt _) hlt _
  · exact ((((HB.out.setCell hw1 _).setCell hw1 _).setCell hw1 _).setCell hw1 _).setCell hw1 _

theorem bel2 (w : World) (o o' : Obj) : Below w.heap.size w ((w.alloc o).alloc o') := ((Below.refl _ _).alloc (Nat.le_refl _) _).alloc (by simp) _
theorem bel1 (w : World) (o : Obj) : Below w.heap.size w (w.alloc o) := (Below.refl _ _).alloc (Nat.le_refl _) _
theorem StsAt.form {W : World} {v : Value} {l : List ByteArray} (h : StsAt W v l) : ∃ a cap, v = .slice a l.length cap := by
  obtain ⟨a, cap, e, _⟩ := h
  exact ⟨a, cap, e⟩
set_option maxHeartbeats 2000000 in
theorem eqPipe_same (e p b i : Int) (v v' : Value) (l : List ByteArray) (w : World) (h : StsAt w v l) (h' : StsAt w v' l) :
    Calls Try.prog 27 #[ppV e p b i v, ppV e p b i v'] w fun x w' => x = .returned (.bool true) ∧ Below w.heap.size w w' := by
  have HQ := Lib.hid (fun (W' : World) (hb : Below w.heap.size w W') => eqStringS_same l v v' W' (h.kept hb) (h'.kept hb))
  obtain ⟨a, cap, rfl⟩ := h.form
  obtain ⟨a', cap', rfl⟩ := h'.form
  clear h h'
  unfold ppV
  go_enter Try.func27, Try.ntmps27
  go_wp2_with fail
  refine (HQ.out _ (bel2 _ _ _)).mono ?_
  rintro x w1 ⟨rfl, hb1⟩
  have HB : Hid (Below w.heap.size w w1) := Lib.hid ((bel2 _ _ _).trans (hb1.mono (by simp; omega)))
  clear hb1
  go_wp2_with fail
  go_ret
  exact ⟨rfl, HB.out⟩
def poV (e p b i : Int) (v t : Value) (f : Bool) (c : Int) : Value := .agg #[.int .i64 e, .int .i64 p, .int .i64 b, .int .i64 i, v, t, .bool f, .int .i64 c]
set_option maxHeartbeats 2000000 in
theorem eqPipeOut_same (e p b i : Int) (v v' t t' : Value) (f : Bool) (c : Int) (l m : List ByteArray) (w : World) (h : StsAt w v l) (h' : StsAt w v' l) (k : StsAt w t m) (k' : StsAt w t' m) :
    Calls Try.prog 20 #[poV e p b i v t f c, poV e p b i v' t' f c] w fun x w' => x = .returned (.bool true) ∧ Below w.heap.size w w' := by
  have HP := Lib.hid (fun (W' : World) (hb : Below w.heap.size w W') => eqPipe_same e p b i v v' l W' (h.kept hb) (h'.kept hb))
  have HQ := Lib.hid (fun (W' : World) (hb : Below w.heap.size w W') => eqStringS_same m t t' W' (k.kept hb) (k'.kept hb))
  obtain ⟨a, cap, rfl⟩ := h.form
  obtain ⟨a', cap', rfl⟩ := h'.form
  obtain ⟨a2, cap2, rfl⟩ := k.form
  obtain ⟨a3, cap3, rfl⟩ := k'.form
  clear h h' k k'
  unfold poV
  unfold ppV at HP
  go_enter Try.func20, Try.ntmps20
  go_wp2_with fail
  refine (HP.out _ (bel2 _ _ _)).mono ?_
  rintro x w1 ⟨rfl, hb1⟩
  have hc : ∀ o, w1.cell? ⟨w.heap.size, o, none⟩ = _ := fun o => hb1.cell (p := ⟨w.heap.size, o, none⟩) (by simp; omega)
  have hc' : ∀ o, w1.cell? ⟨w.heap.size + 1, o, none⟩ = _ := fun o => hb1.cell (p := ⟨w.heap.size + 1, o, none⟩) (by simp)
  have hz1 : w.heap.size + 1 < w1.heap.size := by have := hb1.size; simp at this; omega
  have HB : Hid (Below w.heap.size w w1) := Lib.hid ((bel2 _ _ _).trans (hb1.mono (by simp; omega)))
  clear hb1
  go_wp2_with fail
  refine (HQ.out _ HB.out).mono ?_
  rintro x w2 ⟨rfl, hb2⟩
  have hd : ∀ o, w2.cell? ⟨w.heap.size, o, none⟩ = _ := fun o => hb2.cell (p := ⟨w.heap.size, o, none⟩) (by simp; omega)
  have hd' : ∀ o, w2.cell? ⟨w.heap.size + 1, o, none⟩ = _ := fun o => hb2.cell (p := ⟨w.heap.size + 1, o, none⟩) hz1
  replace HB : Hid (Below w.heap.size w w2) := Lib.hid (HB.out.trans (hb2.mono HB.out.size))
  clear hb2
  go_wp2_with fail
  go_ret
  exact ⟨rfl, HB.out⟩
set_option maxHeartbeats 1000000 in
theorem markPipe_any (B : Nat) (e p b i : Int) (v : Value) (k n : Nat) (xs : List Value) (w : World) (h : w.ownsRow B 9 1 v n xs) (h0 : 0 < k) (hk : k + n ≤ 1000000000) :
    Calls Try.prog 30 #[ppV e p b i v, .int .i64 (k : Int)] w (MkPost B v k n w) := by
  have HM := Lib.hid (markStringS_any B v k n xs _ (h.alloc (.cells #[.int .i64 e, .int .i64 p, .int .i64 b, .int .i64 i, v] 31)) h0 hk)
  obtain ⟨a, c, rfl⟩ : ∃ a c, v = .slice a n c := by
    rcases h.2 with ⟨rfl, rfl⟩ | ⟨g, cap, cur, rfl, _⟩
    · exact ⟨_, _, rfl⟩
    · exact ⟨_, _, rfl⟩
  clear h
  unfold ppV
  go_enter Try.func30, Try.ntmps30
  go_wp2_with fail
  refine HM.out.mono ?_
  rintro x w1 ⟨rfl, ho, hg⟩
  have HO := Lib.hid ho
  have HG := Lib.hid (grown_trans (World.grownBy_alloc w _ _) hg)
  clear ho hg HM
  go_wp2_with fail
  go_ret
  exact ⟨rfl, HO.out, HG.out⟩
theorem blk_not_own {cur : World} {b B n sz : Nat} {t t' : TypeId} {cs : Array Value} {v : Value} {xs : List Value} (h : Blk cur b t cs) (ho : cur.ownsRow B t' sz v n xs) (hne : t ≠ t') : some b ≠ v.ownBlock := by
  rcases ho.2 with ⟨rfl, _⟩ | ⟨g, cap, cu, rfl, _, hg, _⟩
  · simp [Value.ownBlock]
  · intro e
    simp [Value.ownBlock] at e
    subst e
    unfold Blk at h
    rw [h] at hg
    simp at hg
    exact hne hg.2
def MoPost (B : Nat) (v t : Value) (k n m : Nat) (w : World) (x : Ending) (w' : World) : Prop :=
  x = .returned (.int .i64 ((k + n + m : Nat) : Int)) ∧ w'.ownsRow B 9 1 v (marks k n).length (strsV (marks k n)) ∧ w'.ownsRow B 9 1 t (marks (k + n) m).length (strsV (marks (k + n) m)) ∧ Below B w w' ∧ ∀ b t' vs, t' ≠ 9 → Blk w b t' vs → Blk w' b t' vs
set_option maxHeartbeats 1000000 in
theorem markPipeOut_any (B : Nat) (e p b i : Int) (v t : Value) (f : Bool) (c : Int) (k n m : Nat) (xs ys : List Value) (w : World) (hB : B ≤ w.heap.size) (h : w.ownsRow B 9 1 v n xs) (h' : w.ownsRow B 9 1 t m ys) (ha : v.ownBlock = none ∨ v.ownBlock ≠ t.ownBlock) (ha' : t.ownBlock = none ∨ t.ownBlock ≠ v.ownBlock) (h0 : 0 < k) (hk : k + n + m ≤ 1000000000) :
    Calls Try.prog 21 #[poV e p b i v t f c, .int .i64 (k : Int)] w (MoPost B v t k n m w) := by
  have HM := Lib.hid (markPipe_any B e p b i v k n xs _ (h.alloc (.cells #[.int .i64 e, .int .i64 p, .int .i64 b, .int .i64 i, v, t, .bool f, .int .i64 c] 33)) h0 (by omega))
  have HT := Lib.hid (fun (W' : World) (hr : W'.ownsRow B 9 1 t m ys) => markStringS_any B t (k + n) m ys W' hr (by omega) (by omega))
  have HA := Lib.hid ha
  have HA' := Lib.hid ha'
  have HV := Lib.hid h.lt
  have HT1 := Lib.hid h'.lt
  have HK0 := Lib.hid h
  have HO' := Lib.hid (h'.alloc (.cells #[.int .i64 e, .int .i64 p, .int .i64 b, .int .i64 i, v, t, .bool f, .int .i64 c] 33))
  obtain ⟨a, cc, rfl⟩ : ∃ a c, v = .slice a n c := by
    rcases h.2 with ⟨rfl, rfl⟩ | ⟨g, cap, cur, rfl, _⟩
    · exact ⟨_, _, rfl⟩
    · exact ⟨_, _, rfl⟩
  obtain ⟨a', cc', rfl⟩ : ∃ a c, t = .slice a m c := by
    rcases h'.2 with ⟨rfl, rfl⟩ | ⟨g, cap, cur, rfl, _⟩
    · exact ⟨_, _, rfl⟩
    · exact ⟨_, _, rfl⟩
  clear h h' ha ha'
  unfold ppV at HM
  unfold poV
  go_enter Try.func21, Try.ntmps21
  go_wp2_with fail
  refine HM.out.mono ?_
  rintro x w1 ⟨rfl, ho, hg⟩
  have HO := Lib.hid ho
  have hsz : w.heap.size < w1.heap.size := by have := hg.size; simp at this; omega
  have hbox : some w.heap.size ≠ (Value.slice a n cc).ownBlock := fun e => by have := (HV.out _ e.symm).2; omega
  have X := Blk.new w 33 #[.int .i64 e, .int .i64 p, .int .i64 b, .int .i64 i, .slice a n cc, .slice a' m cc', .bool f, .int .i64 c]
  replace X := X.grown hg hbox
  have hc := X.cell
  have HB : Hid (Below B w w1) := Lib.hid (((Below.refl _ _).alloc hB _).grown hg (by simp; omega) (fun k hk => (HV.out k hk).1))
  have HG2 := Lib.hid (HO'.out.kept hg HA'.out)
  have HK1 : Hid (∀ b t' vs, t' ≠ 9 → Blk w b t' vs → Blk w1 b t' vs) := Lib.hid (fun b' t' vs ht hk => (hk.alloc _).grown hg (blk_not_own (hk.alloc _) (HK0.out.alloc (.cells #[.int .i64 e, .int .i64 p, .int .i64 b, .int .i64 i, .slice a n cc, .slice a' m cc', .bool f, .int .i64 c] 33)) ht))
  clear ho hg HM HO' HK0
  rw [Int.natCast_add]
  rw [Int.natCast_add] at HT
  go_wp2_with fail
  refine (HT.out _ HG2.out).mono ?_
  rintro x w2 ⟨rfl, ho2, hg2⟩
  have HO2 := Lib.hid ho2
  have HB2 : Hid (Below B w w2) := Lib.hid (HB.out.grown hg2 (by omega) (fun k hk => (HT1.out k hk).1))
  have HO1 := Lib.hid (HO.out.kept hg2 HA.out)
  have HK2 : Hid (∀ b t' vs, t' ≠ 9 → Blk w b t' vs → Blk w2 b t' vs) := Lib.hid (fun b' t' vs ht hk => (HK1.out b' t' vs ht hk).grown hg2 (blk_not_own (HK1.out b' t' vs ht hk) HG2.out ht))
  clear ho2 hg2 HT HK1
  go_wp2_with fail
  go_ret
  exact ⟨rfl, HO1.out, HO2.out, HB2.out, HK2.out⟩
set_option maxHeartbeats 1000000 in
theorem heldPipe_any (e p b i : Int) (v : Value) (k n : Nat) (w : World) (h : StsAt w v (marks k n)) (h0 : 0 < k) (hk : k + n ≤ 1000000000) :
    Calls Try.prog 63 #[ppV e p b i v, .int .i64 (k : Int)] w fun x w' => x = .returned (.int .i64 ((k + n : Nat) : Int)) ∧ Below w.heap.size w w' := by
  have HM := Lib.hid (fun (W' : World) (hb : Below w.heap.size w W') => heldStringS_any v k n W' (h.kept hb) h0 hk)
  obtain ⟨a, c, rfl⟩ := h.form
  clear h
  obtain ⟨q, hq⟩ : ∃ q, q = k + n := ⟨_, rfl⟩
  rw [← hq] at HM ⊢
  have hpos : ¬ (q : Int) < 0 := by omega
  clear hq
  unfold ppV
  go_enter Try.func63, Try.ntmps63
  go_wp2_with fail
  refine (HM.out _ (bel1 _ _)).mono ?_
  rintro x w1 ⟨rfl, hb1⟩
  have HB : Hid (Below w.heap.size w w1) := Lib.hid ((bel1 _ _).trans (hb1.mono (by simp)))
  clear hb1
  go_wp2_with fail
  go_ret
  exact ⟨rfl, HB.out⟩
set_option maxHeartbeats 1000000 in
theorem heldPipeOut_any (e p b i : Int) (v t : Value) (f : Bool) (c : Int) (k n m : Nat) (w : World) (h : StsAt w v (marks k n)) (h' : StsAt w t (marks (k + n) m)) (h0 : 0 < k) (hk : k + n + m ≤ 1000000000) :
    Calls Try.prog 22 #[poV e p b i v t f c, .int .i64 (k : Int)] w fun x w' => x = .returned (.int .i64 ((k + n + m : Nat) : Int)) ∧ Below w.heap.size w w' := by
  have HM := Lib.hid (fun (W' : World) (hb : Below w.heap.size w W') => heldPipe_any e p b i v k n W' (h.kept hb) h0 (by omega))
  have HT := Lib.hid (fun (W' : World) (hb : Below w.heap.size w W') => heldStringS_any t (k + n) m W' (h'.kept hb) (by omega) (by omega))
  obtain ⟨a, cc, rfl⟩ := h.form
  obtain ⟨a', cc', rfl⟩ := h'.form
  clear h h'
  obtain ⟨q, hq⟩ : ∃ q, q = k + n := ⟨_, rfl⟩
  obtain ⟨r, hr⟩ : ∃ r, r = q + m := ⟨_, rfl⟩
  rw [← hq] at HM HT ⊢
  rw [← hr] at HT ⊢
  have hpos : ¬ (q : Int) < 0 := by omega
  have hpos2 : ¬ (r : Int) < 0 := by omega
  clear hq hr
  unfold ppV at HM
  unfold poV
  go_enter Try.func22, Try.ntmps22
  go_wp2_with fail
  refine (HM.out _ (bel1 _ _)).mono ?_
  rintro x w1 ⟨rfl, hb1⟩
  have hc : ∀ o, w1.cell? ⟨w.heap.size, o, none⟩ = _ := fun o => hb1.cell (p := ⟨w.heap.size, o, none⟩) (by simp)
  have HB : Hid (Below w.heap.size w w1) := Lib.hid ((bel1 _ _).trans (hb1.mono (by simp)))
  clear hb1
  go_wp2_with fail
  refine (HT.out _ HB.out).mono ?_
  rintro x w2 ⟨rfl, hb2⟩
  replace HB : Hid (Below w.heap.size w w2) := Lib.hid (HB.out.trans (hb2.mono HB.out.size))
  clear hb2
  go_wp2_with fail
  go_ret
  exact ⟨rfl, HB.out⟩
def SzPostP (l : List ByteArray) (w : World) (e : Ending) (w' : World) : Prop := ∃ x : Int, e = .returned (.int .i64 x) ∧ (0 ≤ x → l.length ≤ 1048576 ∧ ∀ s ∈ l, s.size ≤ 1048576) ∧ x ≤ 1048576 ∧ Below w.heap.size w w'
set_option maxHeartbeats 1000000 in
theorem szPipe_any (e p b i : Int) (v : Value) (l : List ByteArray) (L : Int) (w : World) (h : StsAt w v l) (hb : ∀ s ∈ l, s.size ≤ maxLen) (h0 : 0 ≤ L) (h1 : L ≤ 1048576) :
    Calls Try.prog 23 #[ppV e p b i v, .int .i64 L] w (SzPostP l w) := by
  have HM := Lib.hid (fun (W' : World) (hbb : Below w.heap.size w W') => szStringS_any l v L W' (h.kept hbb) hb h0 h1)
  obtain ⟨a, c, rfl⟩ := h.form
  clear h hb
  unfold ppV
  go_enter Try.func23, Try.ntmps23
  go_wp2_with fail
  refine (HM.out _ (bel1 _ _)).mono ?_
  rintro x w1 ⟨y, rfl, hy, hy1, rfl⟩
  have HY := Lib.hid hy
  clear hy HM
  by_cases hneg : y < 0
  · go_wp2_with fail
    go_ret
    refine ⟨-1, rfl, fun h => absurd h (by omega), by omega, ?_⟩
    go_grown
  · go_wp2_with fail
    go_ret
    refine ⟨y, rfl, HY.out, hy1, ?_⟩
    go_grown
theorem cells_lpipe : Try.prog.cellsOf 38 = 5 := by kernel_rfl
theorem cells_strs : Try.prog.cellsOf 29 = 1 := by kernel_rfl
set_option maxRecDepth 100000 in
theorem pipe_open {H : Type} {enc : TypeId × Value → H} {w : World} {base : Nat} {sp : Nat → Bool} {held : Bool} {r : Reach} {b0 : Nat} {v : Value} {d : DataW H} {p : List MemPlace} (o : Value.okWide Try.prog w r b0 38 v) (h : DataW.Trod enc Try.prog w base sp held 38 v d p) : ∃ e p b i u l, v = ppV e p b i u ∧ StsAt w u l ∧ ∀ s ∈ l, s.size ≤ maxLen := by
  obtain ⟨cs, rfl, hsz, hf⟩ := struct_open Try.underlying38 o h
  obtain ⟨a0, e0, _⟩ := int_at Try.underlying2 cells_int (hf 0 _ rfl)
  obtain ⟨a1, e1, _⟩ := int_at Try.underlying2 cells_int (hf 1 _ rfl)
  obtain ⟨a2, e2, _⟩ := int_at Try.underlying2 cells_int (hf 2 _ rfl)
  obtain ⟨a3, e3, _⟩ := int_at Try.underlying2 cells_int (hf 3 _ rfl)
  obtain ⟨u, l, e4, hs, hl⟩ := strs_at Try.underlying29 Try.underlying9 cells_str cells_strs (hf 4 _ rfl)
  obtain rfl := arr5 (hsz.trans cells_lpipe) e0 e1 e2 e3 e4
  exact ⟨a0, a1, a2, a3, u, l, rfl, hs, hl⟩
end Go.Proofs.Ytfmhccmaeonbhaa
