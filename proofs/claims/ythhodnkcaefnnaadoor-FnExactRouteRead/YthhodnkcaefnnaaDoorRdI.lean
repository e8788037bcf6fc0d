/- RouteRead, of the program. -/
import Derived.Test.YthhodnkcaefnnaaDoorRdR
import Derived.Test.YthhodnkcaefnnaaDoorLong
import Derived.Test.YthhodnkcaefnnaaDoorGetN
import Derived.Laws.StructEq
import Derived.Deep.CutRange
namespace Go.Proofs.YthhodnkcaefnnaaDoor
open Go.RowKit

set_option maxHeartbeats 1000000 in
theorem routeFrom_any (a b c d e f g : Int) (w : World) : Calls Tryd.prog 31 #[numsV a b c d e f g] w fun ed w' => ed = .returned (Rt.val ⟨a, b, c, d, e, f, g == 1⟩) ∧ Below w.heap.size w w' := by
  unfold numsV
  go_enter Tryd.func31, Tryd.ntmps31
  go_wp2
  refine bodyPost_ret (v := Rt.val ⟨a, b, c, d, e, f, g == 1⟩) (by simp [results, Tryd.results31, go_sem, Rt.val, rtV]) rfl ⟨rfl, ?_⟩
  go_grown

/- the numbers, at work: n of them have been read -/
structure RnAt (w W : World) (a b c d e f g : Int) : Prop where
  out : Blk W w.heap.size 46 #[.int .i64 0, .int .i64 0, .int .i64 0, .int .i64 0, .int .i64 0, .int .i64 0, .int .i64 0]
  nums : Blk W (w.heap.size + 1) 46 #[.int .i64 a, .int .i64 b, .int .i64 c, .int .i64 d, .int .i64 e, .int .i64 f, .int .i64 g]
  low : Below w.heap.size w W
theorem RnAt.kept {w W W' : World} {a b c d e f g : Int} (h : RnAt w W a b c d e f g) (hb : Below W.heap.size W W') : RnAt w W' a b c d e f g :=
  ⟨h.out.kept hb, h.nums.kept hb, h.low.trans (hb.mono h.low.size)⟩
theorem RnAt.alloc {w W : World} {a b c d e f g : Int} (h : RnAt w W a b c d e f g) (o : Obj) : RnAt w (W.alloc o) a b c d e f g :=
  ⟨h.out.alloc o, h.nums.alloc o, h.low.alloc h.low.size o⟩
theorem RnAt.set0 {w W : World} {a b c d e f g : Int} (h : RnAt w W a b c d e f g) (z : Int) : RnAt w (W.setCell ⟨w.heap.size + 1, 0, none⟩ (.int .i64 z)) z b c d e f g :=
  ⟨h.out.far (by omega), h.nums.set 0 _, h.low.setCell (p := ⟨w.heap.size + 1, 0, none⟩) (by show w.heap.size ≤ w.heap.size + 1; omega) _⟩
theorem RnAt.set1 {w W : World} {a b c d e f g : Int} (h : RnAt w W a b c d e f g) (z : Int) : RnAt w (W.setCell ⟨w.heap.size + 1, 1, none⟩ (.int .i64 z)) a z c d e f g :=
  ⟨h.out.far (by omega), h.nums.set 1 _, h.low.setCell (p := ⟨w.heap.size + 1, 1, none⟩) (by show w.heap.size ≤ w.heap.size + 1; omega) _⟩
theorem RnAt.set2 {w W : World} {a b c d e f g : Int} (h : RnAt w W a b c d e f g) (z : Int) : RnAt w (W.setCell ⟨w.heap.size + 1, 2, none⟩ (.int .i64 z)) a b z d e f g :=
  ⟨h.out.far (by omega), h.nums.set 2 _, h.low.setCell (p := ⟨w.heap.size + 1, 2, none⟩) (by show w.heap.size ≤ w.heap.size + 1; omega) _⟩
theorem RnAt.set3 {w W : World} {a b c d e f g : Int} (h : RnAt w W a b c d e f g) (z : Int) : RnAt w (W.setCell ⟨w.heap.size + 1, 3, none⟩ (.int .i64 z)) a b c z e f g :=
  ⟨h.out.far (by omega), h.nums.set 3 _, h.low.setCell (p := ⟨w.heap.size + 1, 3, none⟩) (by show w.heap.size ≤ w.heap.size + 1; omega) _⟩
theorem RnAt.set4 {w W : World} {a b c d e f g : Int} (h : RnAt w W a b c d e f g) (z : Int) : RnAt w (W.setCell ⟨w.heap.size + 1, 4, none⟩ (.int .i64 z)) a b c d z f g :=
  ⟨h.out.far (by omega), h.nums.set 4 _, h.low.setCell (p := ⟨w.heap.size + 1, 4, none⟩) (by show w.heap.size ≤ w.heap.size + 1; omega) _⟩
theorem RnAt.set5 {w W : World} {a b c d e f g : Int} (h : RnAt w W a b c d e f g) (z : Int) : RnAt w (W.setCell ⟨w.heap.size + 1, 5, none⟩ (.int .i64 z)) a b c d e z g :=
  ⟨h.out.far (by omega), h.nums.set 5 _, h.low.setCell (p := ⟨w.heap.size + 1, 5, none⟩) (by show w.heap.size ≤ w.heap.size + 1; omega) _⟩
theorem RnAt.set6 {w W : World} {a b c d e f g : Int} (h : RnAt w W a b c d e f g) (z : Int) : RnAt w (W.setCell ⟨w.heap.size + 1, 6, none⟩ (.int .i64 z)) a b c d e f z :=
  ⟨h.out.far (by omega), h.nums.set 6 _, h.low.setCell (p := ⟨w.heap.size + 1, 6, none⟩) (by show w.heap.size ≤ w.heap.size + 1; omega) _⟩
/- what readRouteNums answers: seven numbers, and whether the text is just these -/
def RnPost (s : ByteArray) (w : World) (e : Ending) (w' : World) : Prop := Below w.heap.size w w' ∧ ∃ a b c d f g h : Int, ∃ r : Bool, e = .returned (.tuple #[numsV a b c d f g h, .bool r]) ∧ r = (!(runS s 7).bad && decide ((runS s 7).at_ = s.size)) ∧ (r = true → [a, b, c, d, f, g, h] = (runS s 7).l)
theorem bad_seven (s : ByteArray) (j : Nat) (hj : j ≤ 7) (h : (runS s j).bad = true) : (runS s 7).bad = true := by
  have k : ∀ m, (runS s (j + m)).bad = true := by
    intro m
    induction m with
    | zero => exact h
    | succ m ih => exact runS_bad s (j + m) ih
  have := k (7 - j)
  rwa [show j + (7 - j) = 7 by omega] at this
theorem run_good (s : ByteArray) (j : Nat) (n y : Int) (hb : (runS s j).bad = false) (hg : getNum s ((runS s j).at_ : Int) = ⟨n, y, 0⟩) : runS s (j + 1) = ⟨(runS s j).l ++ [n], y.toNat, false⟩ ∧ y = (y.toNat : Int) := by
  obtain ⟨e1, _⟩ := getNum_sound s _ n y hg
  refine ⟨?_, by omega⟩
  show stepS s (runS s j) = _
  generalize runS s j = x at *
  obtain ⟨l, k, b⟩ := x
  dsimp only at hb hg
  subst hb
  exact stepS_good s l k n y hg
theorem run_wrong (s : ByteArray) (j : Nat) (hg : (getNum s ((runS s j).at_ : Int)).code ≠ 0) : (runS s (j + 1)).bad = true := by
  show (stepS s (runS s j)).bad = true
  rw [stepS_bad s _ (.inr hg)]
theorem RnAt.setj {w W : World} {a b c d e f g : Int} (h : RnAt w W a b c d e f g) (j : Nat) (hj : j < 7) (z : Int) :
    ∃ a' b' c' d' e' f' g' : Int, RnAt w (W.setCell ⟨w.heap.size + 1, j, none⟩ (.int .i64 z)) a' b' c' d' e' f' g' ∧ [a', b', c', d', e', f', g'].take (j + 1) = [a, b, c, d, e, f, g].take j ++ [z] := by
  have hc : j = 0 ∨ j = 1 ∨ j = 2 ∨ j = 3 ∨ j = 4 ∨ j = 5 ∨ j = 6 := by omega
  rcases hc with rfl | rfl | rfl | rfl | rfl | rfl | rfl
  · exact ⟨_, _, _, _, _, _, _, h.set0 z, rfl⟩
  · exact ⟨_, _, _, _, _, _, _, h.set1 z, rfl⟩
  · exact ⟨_, _, _, _, _, _, _, h.set2 z, rfl⟩
  · exact ⟨_, _, _, _, _, _, _, h.set3 z, rfl⟩
  · exact ⟨_, _, _, _, _, _, _, h.set4 z, rfl⟩
  · exact ⟨_, _, _, _, _, _, _, h.set5 z, rfl⟩
  · exact ⟨_, _, _, _, _, _, _, h.set6 z, rfl⟩
theorem RnAt.at {w W : World} {a b c d e f g : Int} (h : RnAt w W a b c d e f g) (j : Nat) (hj : j < 7) : ∃ z, W.cell? ⟨w.heap.size + 1, j, none⟩ = some (.int .i64 z) := by
  have hc : j = 0 ∨ j = 1 ∨ j = 2 ∨ j = 3 ∨ j = 4 ∨ j = 5 ∨ j = 6 := by omega
  rcases hc with rfl | rfl | rfl | rfl | rfl | rfl | rfl
  · exact ⟨_, h.nums.cell 0⟩
  · exact ⟨_, h.nums.cell 1⟩
  · exact ⟨_, h.nums.cell 2⟩
  · exact ⟨_, h.nums.cell 3⟩
  · exact ⟨_, h.nums.cell 4⟩
  · exact ⟨_, h.nums.cell 5⟩
  · exact ⟨_, h.nums.cell 6⟩
set_option maxHeartbeats 1000000 in
theorem readRouteNums_any (s : ByteArray) (w : World) (hs : s.size ≤ 8000) (hg : w.cell? ⟨0, 0, none⟩ = some handle) :
    Calls Tryd.prog 30 #[.string s] w (RnPost s w) := by
  have hlt : 0 < w.heap.size := by
    rcases Nat.eq_zero_or_pos w.heap.size with h0 | h
    · simp [World.cell?, h0] at hg
    · exact h
  have HG := Lib.hid hg; clear hg
  have HS := Lib.hid hs
  have HN : Hid (∀ (k : Nat) (W : World), k ≤ s.size → Below w.heap.size w W → Calls Tryd.prog 56 #[.string s, .int .i64 k] W fun e w' => e = .returned (getNum s k).v ∧ Below W.heap.size W w') :=
    Lib.hid fun k W hk hb => implGetNum_any s k W (by unfold maxLen; omega) (by omega) ((hb.cell (p := ⟨0, 0, none⟩) hlt).trans HG.out)
  have HW : Hid (∀ j, j ≤ 7 → (runS s j).bad = true → (runS s 7).bad = true) := Lib.hid fun j hj => bad_seven s j hj
  have hsz : (s.size : Int) ≤ 8000 := by omega
  clear hs hlt HG
  go_enter Tryd.func30, Tryd.ntmps30
  go_wp2_with fail
  go_loopw [8, 5] (fun u v wr => ∃ (j k : Nat) (a b c d e f g : Int), j ≤ 7 ∧ u = .int .i64 (j : Int) ∧ v = .int .i64 (k : Int) ∧ k ≤ s.size ∧ Hid (runS s j = ⟨[a, b, c, d, e, f, g].take j, k, false⟩) ∧ Hid (RnAt w wr a b c d e f g)) (fun u _ _ => 7 - (intOf u).toNat)
  case atStart =>
    refine ⟨0, 0, 0, 0, 0, 0, 0, 0, 0, by omega, rfl, rfl, Nat.zero_le _, Lib.hid rfl, Lib.hid ⟨(Blk.new _ _ _).alloc _, ?_, ((Below.refl _ _).alloc (Nat.le_refl _) _).alloc (by simp) _⟩⟩
    have := Blk.new (w.alloc (.cells #[.int .i64 0, .int .i64 0, .int .i64 0, .int .i64 0, .int .i64 0, .int .i64 0, .int .i64 0] 46)) 46 #[.int .i64 0, .int .i64 0, .int .i64 0, .int .i64 0, .int .i64 0, .int .i64 0, .int .i64 0]
    simpa using this
  case round =>
    obtain ⟨j, k, a, b, c, d, e, f, g, hj, rfl, rfl, hk, HX, HR⟩ := hrel
    by_cases hlt : j < 7
    · have hjj : ((j : Int) < 7) := by omega
      have hj0 : (0 : Int) ≤ (j : Int) := by omega
      go_wp2_with fail
      refine (HN.out k _ hk HR.out.low).mono ?_
      rintro ed w1 ⟨rfl, hb⟩
      replace HR := Lib.hid (HR.out.kept hb)
      clear hb
      obtain ⟨z, hcz⟩ := HR.out.at j hlt
      have hfz := HR.out.nums.frozen j
      have hcn := HR.out.nums.cell
      have hln := HR.out.nums.lt
      have hlo := HR.out.out.lt
      obtain ⟨n, y, q, hgn⟩ : ∃ n y q, getNum s (k : Int) = ⟨n, y, q⟩ := ⟨_, _, _, rfl⟩
      rw [hgn]
      unfold NumO.v numOutV
      by_cases hq : q = 0
      · subst hq
        have HX1 := run_good s j n y (by rw [HX.out]) (by rw [HX.out]; exact hgn)
        rw [HX.out] at HX1
        obtain ⟨hX1, hy⟩ := HX1
        obtain ⟨k', hk'⟩ : ∃ k, k = y.toNat := ⟨_, rfl⟩
        rw [← hk'] at hX1 hy
        subst hy
        have hz1 : k' ≤ s.size := by have := getNum_bounds s k n k' (by omega) hgn; omega
        have HX2 := Lib.hid hX1
        clear hX1 hk' hgn hcn
        have HS1 := Lib.hid (HR.out.setj j hlt n)
        go_wp2_with fail
        go_roundw
        case rel =>
          obtain ⟨a', b', c', d', e', f', g', hR, hL⟩ := HS1.out
          exact ⟨j + 1, k', a', b', c', d', e', f', g', by omega, by simp, rfl, hz1, Lib.hid (by rw [hL]; exact HX2.out), Lib.hid (hR.alloc _)⟩
        case measure => simp [intOf]; omega
      · have HB7 : Hid ((runS s 7).bad = true) := Lib.hid (HW.out (j + 1) (by omega) (run_wrong s j (by rw [HX.out]; dsimp only; rw [hgn]; exact hq)))
        have hcb : (q == 0) = false := by simp [hq]
        clear HX hgn hcz hfz hcn hln hlo
        go_upto_region 7 with fail
        obtain ⟨W1, hW1⟩ : ∃ W, W = w1.alloc (.cells #[.int .i64 n, .int .i64 y, .int .i64 q] 75) := ⟨_, rfl⟩
        obtain ⟨B1, hB1⟩ : ∃ B, B = w1.heap.size := ⟨_, rfl⟩
        rw [← hW1, ← hB1]
        have hcq : W1.cell? ⟨B1, 2, none⟩ = some (.int .i64 q) := by subst hW1 hB1; simp
        have hco := (HR.out.out.alloc (.cells #[.int .i64 n, .int .i64 y, .int .i64 q] 75)).cell
        have hfo := (HR.out.out.alloc (.cells #[.int .i64 n, .int .i64 y, .int .i64 q] 75)).frozen
        have hcn := (HR.out.nums.alloc (.cells #[.int .i64 n, .int .i64 y, .int .i64 q] 75)).cell
        have hlo := (HR.out.out.alloc (.cells #[.int .i64 n, .int .i64 y, .int .i64 q] 75)).lt
        have HL := Lib.hid (HR.out.alloc (.cells #[.int .i64 n, .int .i64 y, .int .i64 q] 75)).low
        rw [← hW1] at hco hfo hcn hlo HL
        clear hW1 hB1 HR
        go_wp2_with fail
        refine bodyPost_ret (v := .tuple #[numsV a b c d e f g, .bool false]) (by simp [results, Tryd.results30, go_sem, numsV, hco]) rfl (show RnPost s w _ _ from ⟨?_, _, _, _, _, _, _, _, false, rfl, by rw [HB7.out]; rfl, fun h => by cases h⟩)
        have := HL.out
        go_grown
    · have hj7 : j = 7 := by omega
      subst hj7
      have hcn := HR.out.nums.cell
      have hco := HR.out.out.cell
      have hfo := HR.out.out.frozen
      have hln := HR.out.nums.lt
      have hlo := HR.out.out.lt
      have HL := Lib.hid HR.out.low
      clear HR
      have HE : Hid ((!(runS s 7).bad && decide ((runS s 7).at_ = s.size)) = decide (k = s.size)) := Lib.hid (by rw [HX.out]; rfl)
      have HLl : Hid ([a, b, c, d, e, f, g] = (runS s 7).l) := Lib.hid (by rw [HX.out]; rfl)
      have hd : ((k : Int) == (s.size : Int)) = decide (k = s.size) := by
        by_cases h : k = s.size
        · simp [h]
        · have : ¬ (k : Int) = (s.size : Int) := by omega
          simp [h, this]
      generalize decide (k = s.size) = r at *
      go_wp2_with fail
      refine bodyPost_ret (v := .tuple #[numsV a b c d e f g, .bool r]) (by simp [results, Tryd.results30, go_sem, numsV, hco]) rfl (show RnPost s w _ _ from ⟨?_, _, _, _, _, _, _, _, r, rfl, HE.out.symm, fun _ => HLl.out⟩)
      have := HL.out
      go_grown
end Go.Proofs.YthhodnkcaefnnaaDoor
