/- PipeHear, of the program: what is acknowledged. -/
import Derived.Test.YtfmhccmaeonbhaaHrM
namespace Go.Proofs.Ytfmhccmaeonbhaa
open Go.RowKit
set_option linter.unusedVariables false

theorem cutV_any (a : Option Addr) (n cap k : Nat) (x : Int) (hx : x = (k : Int)) (w : World) (hk : k ≤ n) (hc : n ≤ cap) :
    Calls Try.prog 78 #[.slice a n cap, .int .i64 x] w fun e w' => e = .returned (sliced a k n n 1) ∧ w = w' := by
  subst hx
  have hrun := cut_run a n cap k hk hc
  generalize sliced a k n n 1 = r at *
  go_enter Try.func78, Try.ntmps78
  go_wp2
  go_ret
  exact ⟨rfl, rfl⟩
theorem set5 {B : Nat} {w w1 : World} {b : Nat} (h : Below B w w1) (hb : B ≤ b) (v0 v1 v2 v3 v4 : Value) :
    Below B w (((((w1.setCell ⟨b, 0, none⟩ v0).setCell ⟨b, 1, none⟩ v1).setCell ⟨b, 2, none⟩ v2).setCell ⟨b, 3, none⟩ v3).setCell ⟨b, 4, none⟩ v4) :=
  ((((h.setCell hb _).setCell hb _).setCell hb _).setCell hb _).setCell hb _
def zeroPp : Array Value := #[.int .i64 0, .int .i64 0, .int .i64 0, .int .i64 0, .slice none 0 0]
set_option maxHeartbeats 2000000 in
theorem ackNo_any (e p b i xa : Int) (a : Option Addr) (n cap : Nat) (w : World) (h0 : 0 ≤ b) (h1 : b ≤ 1000000) (hn : n ≤ 60) (hno : ¬ (b < xa ∧ xa ≤ b + n)) :
    Calls Try.prog 80 #[ppV e p b i (.slice a n cap), .int .i64 xa] w fun x w' => x = .returned (ppV e p b i (.slice a n cap)) ∧ Below w.heap.size w w' := by
  have HL := Lib.hid (fun w => lastNum_any e p b i a n cap w h0 h1 hn)
  unfold ppV at *
  by_cases q1 : b < xa
  · have q2 : ¬ xa ≤ b + (n : Int) := fun h => hno ⟨q1, h⟩
    clear hno
    go_enter Try.func80, Try.ntmps80
    go_wp2_with fail
    refine (HL.out _).mono ?_
    rintro x w1 ⟨rfl, hb1⟩
    have Z := ((Blk.new w 31 #[.int .i64 e, .int .i64 p, .int .i64 b, .int .i64 i, .slice a n cap]).alloc (.cells zeroPp 31)).kept hb1
    have X := (Blk.new (w.alloc (.cells #[.int .i64 e, .int .i64 p, .int .i64 b, .int .i64 i, .slice a n cap] 31)) 31 zeroPp).kept hb1
    rw [World.size_alloc] at X
    have HB : Hid (Below w.heap.size w w1) := Lib.hid ((bel2 _ _ _).trans (hb1.mono (by simp; omega)))
    clear hb1
    unfold zeroPp at X
    have hz := Z.cell
    have hc := X.cell
    have hf := X.frozen
    go_wp2_with fail
    refine bodyPost_ret (v := ppV e p b i (.slice a n cap)) (by simp [results, Try.results80, go_sem, ppV, *]) rfl ⟨rfl, set5 HB.out (Nat.le_succ _) _ _ _ _ _⟩
  · go_enter Try.func80, Try.ntmps80
    go_wp2_with fail
    refine bodyPost_ret (v := ppV e p b i (.slice a n cap)) (by simp [results, Try.results80, go_sem, ppV, *]) rfl ⟨rfl, ?_⟩
    go_grown
set_option maxHeartbeats 2000000 in
theorem ackYes_any (e p b i xa : Int) (a a' : Option Addr) (n cap k m : Nat) (w : World) (h0 : 0 ≤ b) (h1 : b ≤ 1000000) (hn : n ≤ 60) (hc : n ≤ cap) (q1 : b < xa) (q2 : xa ≤ b + n) (hk : xa - b = (k : Int)) (hs : sliced a k n n 1 = .slice a' m m) :
    Calls Try.prog 80 #[ppV e p b i (.slice a n cap), .int .i64 xa] w fun x w' => x = .returned (ppV e p xa i (.slice a' m m)) ∧ Below w.heap.size w w' := by
  have HL := Lib.hid (fun w => lastNum_any e p b i a n cap w h0 h1 hn)
  have HC := Lib.hid (fun w => cutV_any a n cap k (xa - b) hk w (by omega) hc)
  rw [hs] at HC
  clear hs hk hc
  unfold ppV at *
  go_enter Try.func80, Try.ntmps80
  go_wp2_with fail
  refine (HL.out _).mono ?_
  rintro x w1 ⟨rfl, hb1⟩
  have Z := ((Blk.new w 31 #[.int .i64 e, .int .i64 p, .int .i64 b, .int .i64 i, .slice a n cap]).alloc (.cells zeroPp 31)).kept hb1
  have X := (Blk.new (w.alloc (.cells #[.int .i64 e, .int .i64 p, .int .i64 b, .int .i64 i, .slice a n cap] 31)) 31 zeroPp).kept hb1
  rw [World.size_alloc] at X
  have HB : Hid (Below w.heap.size w w1) := Lib.hid ((bel2 _ _ _).trans (hb1.mono (by simp; omega)))
  clear hb1
  have hz := Z.cell
  have hzf := Z.frozen
  go_wp2_with fail
  refine (HC.out _).mono ?_
  rintro x w2 ⟨rfl, rfl⟩
  clear HC HL
  go_upto_region 4 with fail
  obtain ⟨W2, hW2⟩ : ∃ W, W = (w1.setCell ⟨w.heap.size, 4, none⟩ (.slice a' m m)).setCell ⟨w.heap.size, 2, none⟩ (.int .i64 xa) := ⟨_, rfl⟩
  rw [← hW2]
  replace Z : Blk W2 w.heap.size 31 #[.int .i64 e, .int .i64 p, .int .i64 xa, .int .i64 i, .slice a' m m] := by
    have := (Z.set 4 (.slice a' m m)).set 2 (.int .i64 xa)
    subst hW2
    simpa using this
  replace X : Blk W2 (w.heap.size + 1) 31 zeroPp := by subst hW2; exact (X.far (by omega)).far (by omega)
  replace HB : Hid (Below w.heap.size w W2) := Lib.hid (by subst hW2; exact (HB.out.setCell (Nat.le_refl _) _).setCell (Nat.le_refl _) _)
  clear hW2 hz hzf
  unfold zeroPp at X
  have hz := Z.cell
  have hc := X.cell
  have hf := X.frozen
  go_wp2_with fail
  exact bodyPost_ret (v := ppV e p xa i (.slice a' m m)) (by simp [results, Try.results80, go_sem, ppV, *]) rfl ⟨rfl, set5 HB.out (Nat.le_succ _) _ _ _ _ _⟩
end Go.Proofs.Ytfmhccmaeonbhaa
