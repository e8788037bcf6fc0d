/- Pipes: a law's own opened, turned into the program's, compared, its size; marked and held. -/
import Derived.Test.YtglealihdkecpaaGreatPp
namespace Go.Proofs.YtglealihdkecpaaGreat
open Go.RowKit

def PpPost (e p b i : Int) (l : List ByteArray) (w : World) (x : Ending) (w' : World) : Prop := ∃ v, x = .returned (ppV e p b i v) ∧ w'.ownsRow w.heap.size 9 1 v l.length (strsV l) ∧ Below w.heap.size w w'
set_option maxHeartbeats 2000000 in
theorem toPipe_any (e p b i : Int) (v : Value) (l : List ByteArray) (w : World) (h : StsAt w v l) (hn : l.length ≤ 1048576) :
    Calls Tryz.prog 104 #[ppV e p b i v] w (PpPost e p b i l w) := by
  have HT := Lib.hid (fun (W' : World) (hb : Below w.heap.size w W') => toStringS_any l v W' (h.kept hb) hn)
  clear h
  obtain ⟨S, hS⟩ : ∃ S, S = strsV l := ⟨_, rfl⟩
  unfold ppV
  go_enter Tryz.func104, Tryz.ntmps104
  go_wp2_with fail
  refine (HT.out _ (((Below.refl _ _).alloc (Nat.le_refl _) _).alloc (by simp) _ |>.alloc (by simp; omega) _)).mono ?_
  rintro x w1 ⟨u, rfl, hown, hb1⟩
  obtain ⟨B1, h1⟩ : ∃ q, q = w.heap.size + 1 := ⟨_, rfl⟩
  obtain ⟨B2, h2⟩ : ∃ q, q = w.heap.size + 1 + 1 := ⟨_, rfl⟩
  have Y : Blk w1 B1 81 #[.int .i64 0, .int .i64 0, .int .i64 0, .int .i64 0, .slice none 0 0] := by
    refine Blk.kept ?_ hb1
    refine Blk.alloc ?_ _
    have := Blk.new (w.alloc (.cells #[.int .i64 e, .int .i64 p, .int .i64 b, .int .i64 i, v] 123)) 81 #[.int .i64 0, .int .i64 0, .int .i64 0, .int .i64 0, .slice none 0 0]
    subst h1
    simpa using this
  have X : Blk w1 B2 81 #[.int .i64 e, .int .i64 p, .int .i64 b, .int .i64 i, .slice none 0 0] := by
    refine Blk.kept ?_ hb1
    have := Blk.new ((w.alloc (.cells #[.int .i64 e, .int .i64 p, .int .i64 b, .int .i64 i, v] 123)).alloc (.cells #[.int .i64 0, .int .i64 0, .int .i64 0, .int .i64 0, .slice none 0 0] 81)) 81 #[.int .i64 e, .int .i64 p, .int .i64 b, .int .i64 i, .slice none 0 0]
    subst h2
    simpa using this
  have HB : Hid (Below w.heap.size w w1) := Lib.hid (by
    refine Below.trans ?_ (hb1.mono (by simp; omega))
    go_grown)
  have hw1 : w.heap.size ≤ B1 := by omega
  have hw2 : w.heap.size ≤ B2 := by omega
  have h12 : B1 ≠ B2 := by omega
  have h13 : B1 < B2 + 1 := by omega
  have HO : Hid (w1.ownsRow (B2 + 1) 9 1 u l.length (strsV l)) := Lib.hid (by subst h2; simpa using hown)
  clear hb1 hown
  rw [← h2, ← h1]
  clear h1 h2
  have cX := X.cell
  have fX := X.frozen
  obtain ⟨⟨ua, un, uc, rfl⟩⟩ : Nonempty (∃ a n c, u = .slice a n c) := ⟨by
    rcases HO.out.2 with ⟨rfl, _⟩ | ⟨g, cap, cur, rfl, _⟩
    · exact ⟨_, _, _, rfl⟩
    · exact ⟨_, _, _, rfl⟩⟩
  go_upto_region 7 with fail
  obtain ⟨W2, hW2⟩ : ∃ W, W = w1.setCell ⟨B2, 4, none⟩ (.slice ua un uc) := ⟨_, rfl⟩
  rw [← hW2]
  have hO2 : ∀ k, (Value.slice ua un uc).ownBlock = some k → B2 + 1 ≤ k := fun k hk => (HO.out.lt k hk).1
  replace X : Blk W2 B2 81 #[.int .i64 e, .int .i64 p, .int .i64 b, .int .i64 i, .slice ua un uc] := by
    have := X.set 4 (.slice ua un uc)
    subst hW2
    simpa using this
  replace Y : Blk W2 B1 81 #[.int .i64 0, .int .i64 0, .int .i64 0, .int .i64 0, .slice none 0 0] := by subst hW2; exact Y.far h12
  replace HB : Hid (Below w.heap.size w W2) := Lib.hid (by subst hW2; exact HB.out.setCell hw2 _)
  replace HO : Hid (W2.ownsRow (B2 + 1) 9 1 (.slice ua un uc) l.length (strsV l)) := Lib.hid (by subst hW2; exact ownsRow_setCell_below HO.out (by simp) _)
  clear hW2 cX fX
  have cX := X.cell
  have cY := Y.cell
  have fY := Y.frozen
  go_wp2_with fail
  refine bodyPost_ret (v := ppV e p b i (.slice ua un uc)) (by simp [results, Tryz.results104, go_sem, ppV, *]) rfl ⟨_, rfl, ?_, ?_⟩
  · refine own_mono ?_ (Nat.le_trans hw2 (Nat.le_succ B2))
    have hlt : B1 < B2 + 1 := h13
    exact ownsRow_setCell_below (ownsRow_setCell_below (ownsRow_setCell_below (ownsRow_setCell_below (ownsRow_setCell_below HO.out hlt _) hlt _) hlt _) hlt _) hlt _
  · exact ((((HB.out.setCell hw1 _).setCell hw1 _).setCell hw1 _).setCell hw1 _).setCell hw1 _

theorem bel2 (w : World) (o o' : Obj) : Below w.heap.size w ((w.alloc o).alloc o') := ((Below.refl _ _).alloc (Nat.le_refl _) _).alloc (by simp) _
theorem bel1 (w : World) (o : Obj) : Below w.heap.size w (w.alloc o) := (Below.refl _ _).alloc (Nat.le_refl _) _
theorem StsAt.form {W : World} {v : Value} {l : List ByteArray} (h : StsAt W v l) : ∃ a cap, v = .slice a l.length cap := by
  obtain ⟨a, cap, e, _⟩ := h
  exact ⟨a, cap, e⟩
set_option maxHeartbeats 2000000 in
theorem eqPipe_same (e p b i : Int) (v v' : Value) (l : List ByteArray) (w : World) (h : StsAt w v l) (h' : StsAt w v' l) :
    Calls Tryz.prog 129 #[ppV e p b i v, ppV e p b i v'] w fun x w' => x = .returned (.bool true) ∧ Below w.heap.size w w' := by
  have HQ := Lib.hid (fun (W' : World) (hb : Below w.heap.size w W') => eqStringS_same l v v' W' (h.kept hb) (h'.kept hb))
  obtain ⟨a, cap, rfl⟩ := h.form
  obtain ⟨a', cap', rfl⟩ := h'.form
  clear h h'
  unfold ppV
  go_enter Tryz.func129, Tryz.ntmps129
  go_wp2_with fail
  refine (HQ.out _ (bel2 _ _ _)).mono ?_
  rintro x w1 ⟨rfl, hb1⟩
  have HB : Hid (Below w.heap.size w w1) := Lib.hid ((bel2 _ _ _).trans (hb1.mono (by simp; omega)))
  clear hb1
  go_wp2_with fail
  go_ret
  exact ⟨rfl, HB.out⟩
def poV (e p b i : Int) (v t : Value) (f : Bool) (c : Int) : Value := .agg #[.int .i64 e, .int .i64 p, .int .i64 b, .int .i64 i, v, t, .bool f, .int .i64 c]
theorem blk_not_own {cur : World} {b B n sz : Nat} {t t' : TypeId} {cs : Array Value} {v : Value} {xs : List Value} (h : Blk cur b t cs) (ho : cur.ownsRow B t' sz v n xs) (hne : t ≠ t') : some b ≠ v.ownBlock := by
  rcases ho.2 with ⟨rfl, _⟩ | ⟨g, cap, cu, rfl, _, hg, _⟩
  · simp [Value.ownBlock]
  · intro e
    simp [Value.ownBlock] at e
    subst e
    unfold Blk at h
    rw [h] at hg
    simp at hg
    exact hne hg.2
def MoPost (B : Nat) (v t : Value) (k n m : Nat) (w : World) (x : Ending) (w' : World) : Prop :=
  x = .returned (.int .i64 ((k + n + m : Nat) : Int)) ∧ w'.ownsRow B 9 1 v (marks k n).length (strsV (marks k n)) ∧ w'.ownsRow B 9 1 t (marks (k + n) m).length (strsV (marks (k + n) m)) ∧ Below B w w' ∧ ∀ b t' vs, t' ≠ 9 → Blk w b t' vs → Blk w' b t' vs
def SzPostP (l : List ByteArray) (w : World) (e : Ending) (w' : World) : Prop := ∃ x : Int, e = .returned (.int .i64 x) ∧ (0 ≤ x → l.length ≤ 1048576 ∧ ∀ s ∈ l, s.size ≤ 1048576) ∧ x ≤ 1048576 ∧ Below w.heap.size w w'
set_option maxHeartbeats 1000000 in
theorem szPipe_any (e p b i : Int) (v : Value) (l : List ByteArray) (L : Int) (w : World) (h : StsAt w v l) (hb : ∀ s ∈ l, s.size ≤ maxLen) (h0 : 0 ≤ L) (h1 : L ≤ 1048576) :
    Calls Tryz.prog 95 #[ppV e p b i v, .int .i64 L] w (SzPostP l w) := by
  have HM := Lib.hid (fun (W' : World) (hbb : Below w.heap.size w W') => szStringS_any l v L W' (h.kept hbb) hb h0 h1)
  obtain ⟨a, c, rfl⟩ := h.form
  clear h hb
  unfold ppV
  go_enter Tryz.func95, Tryz.ntmps95
  go_wp2_with fail
  refine (HM.out _ (bel1 _ _)).mono ?_
  rintro x w1 ⟨y, rfl, hy, hy1, rfl⟩
  have HY := Lib.hid hy
  clear hy HM
  by_cases hneg : y < 0
  · go_wp2_with fail
    go_ret
    refine ⟨-1, rfl, fun h => absurd h (by omega), by omega, ?_⟩
    go_grown
  · go_wp2_with fail
    go_ret
    refine ⟨y, rfl, HY.out, hy1, ?_⟩
    go_grown
theorem cells_lpipe : Tryz.prog.cellsOf 123 = 5 := by kernel_rfl
theorem cells_strs : Tryz.prog.cellsOf 79 = 1 := by kernel_rfl
set_option maxRecDepth 100000 in
theorem pipe_open {H : Type} {enc : TypeId × Value → H} {w : World} {base : Nat} {sp : Nat → Bool} {held : Bool} {r : Reach} {b0 : Nat} {v : Value} {d : DataW H} {p : List MemPlace} (o : Value.okWide Tryz.prog w r b0 123 v) (h : DataW.Trod enc Tryz.prog w base sp held 123 v d p) : ∃ e p b i u l, v = ppV e p b i u ∧ StsAt w u l ∧ ∀ s ∈ l, s.size ≤ maxLen := by
  obtain ⟨cs, rfl, hsz, hf⟩ := struct_open Tryz.underlying123 o h
  obtain ⟨a0, e0, _⟩ := int_at Tryz.underlying2 cells_int (hf 0 _ rfl)
  obtain ⟨a1, e1, _⟩ := int_at Tryz.underlying2 cells_int (hf 1 _ rfl)
  obtain ⟨a2, e2, _⟩ := int_at Tryz.underlying2 cells_int (hf 2 _ rfl)
  obtain ⟨a3, e3, _⟩ := int_at Tryz.underlying2 cells_int (hf 3 _ rfl)
  obtain ⟨u, l, e4, hs, hl⟩ := strs_at Tryz.underlying79 Tryz.underlying9 cells_str cells_strs (hf 4 _ rfl)
  obtain rfl := arr5 (hsz.trans cells_lpipe) e0 e1 e2 e3 e4
  exact ⟨a0, a1, a2, a3, u, l, rfl, hs, hl⟩
end Go.Proofs.YtglealihdkecpaaGreat
