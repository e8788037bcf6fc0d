/- pdqsortCmpFunc, SortFunc at a short row of names. -/
import Derived.Test.YtmkoppbbenombaaNmW
namespace Go.Proofs.Ytmkoppbbenombaa
open Go.RowKit

set_option maxRecDepth 100000 in
set_option maxRecDepth 100000 in
set_option maxHeartbeats 4000000 in
theorem pdqSort_any (B g cap n : Nat) (lim : Int) (s0 : Nat → Nm) (w : World) (h : NmRow w B g cap n s0) (hn : n ≤ 12) (hS : SetN n s0 s0) :
    Calls Try.prog 158 #[.slice (some ⟨g, 0, none⟩) n cap, .int .i64 0, .int .i64 (n : Int), .int .i64 lim, .func (.func 127) #[] #[]] w (InsPost B g cap n s0 w) := by
  have HI := Lib.hid (insSort_any B g cap n s0 w h hn hS)
  have hl : (n : Int) ≤ 12 := by omega
  have hw : IntKind.i64.wrap (n : Int) = (n : Int) := by simp only [IntKind.wrap_i64]; omega
  clear h hS
  unfold InsPost at *
  go_enter Try.func158, Try.ntmps158
  go_wp2_with fail
  go_loopw [1, 2, 3, 10, 11] (fun a b c x y wr => a = .int .i64 0 ∧ b = .int .i64 (n : Int) ∧ c = .int .i64 lim ∧ x = .bool true ∧ y = .bool true ∧ Hid (wr = w)) (fun _ _ _ _ _ _ => 0)
  case atStart => exact ⟨rfl, rfl, rfl, rfl, rfl, Lib.hid rfl⟩
  case round =>
    obtain ⟨rfl, rfl, rfl, rfl, rfl, HW⟩ := hrel
    have hw2 := HW.out
    clear HW
    subst hw2
    go_wp2_with fail
    refine HI.out.mono ?_
    rintro e w1 ⟨⟨v, rfl⟩, s, h1, h2, h3, h4⟩
    have H1 := Lib.hid h1
    have H2 := Lib.hid h2
    have H3 := Lib.hid h3
    have H4 := Lib.hid h4
    clear h1 h2 h3 h4
    go_wp2_with fail
    refine bodyPost_ret (results_none rfl _ _ _) rfl ?_
    exact ⟨⟨_, rfl⟩, s, H1.out, H2.out, H3.out, H4.out⟩
set_option maxRecDepth 100000 in
set_option maxHeartbeats 4000000 in
theorem bitsLen64_any (n : Nat) (w : World) (hn : n ≤ 12) : Calls Try.prog 144 #[.int .u64 (n : Int)] w fun e w' => (∃ l : Int, e = .returned (.int .i64 l)) ∧ w = w' := by
  have h0 : (0 : Int) ≤ n := by omega
  have h1 : (n : Int) < 256 := by omega
  have h2 : ¬ (256 : Int) ≤ n := by omega
  have h3 : ¬ (65536 : Int) ≤ n := by omega
  have h4 : ¬ (4294967296 : Int) ≤ n := by omega
  go_enter Try.func144, Try.ntmps144
  go_wp2_with fail
  go_ret
  exact ⟨⟨_, rfl⟩, rfl⟩
set_option maxRecDepth 100000 in
set_option maxHeartbeats 4000000 in
theorem bitsLen_any (n : Nat) (w : World) (hn : n ≤ 12) : Calls Try.prog 123 #[.int .u64 (n : Int)] w fun e w' => (∃ l : Int, e = .returned (.int .i64 l)) ∧ w = w' := by
  have hn0 : (0 : Int) ≤ n := by omega
  have hn1 : (n : Int) ≤ 12 := by omega
  have HB := Lib.hid (bitsLen64_any n w hn)
  go_enter Try.func123, Try.ntmps123
  go_wp2_with fail
  refine HB.out.mono ?_
  rintro e w1 ⟨⟨l, rfl⟩, rfl⟩
  go_wp2_with fail
  go_ret
  exact ⟨⟨_, rfl⟩, rfl⟩
set_option maxRecDepth 100000 in
set_option maxHeartbeats 4000000 in
theorem sortFunc_any (B g cap n : Nat) (s0 : Nat → Nm) (w : World) (h : NmRow w B g cap n s0) (hn : n ≤ 12) (hS : SetN n s0 s0) :
    Calls Try.prog 148 #[.slice (some ⟨g, 0, none⟩) n cap, .func (.func 127) #[] #[]] w (InsPost B g cap n s0 w) := by
  have HI := Lib.hid (fun (lim : Int) => pdqSort_any B g cap n lim s0 w h hn hS)
  have HL := Lib.hid (bitsLen_any n w hn)
  have hw : IntKind.u64.wrap (n : Int) = (n : Int) := by simp only [IntKind.wrap_u64]; omega
  have hl0 : (0 : Int) ≤ n := by omega
  have hl1 : (n : Int) ≤ 12 := by omega
  clear h hS
  unfold InsPost at *
  go_enter Try.func148, Try.ntmps148
  go_wp2_with fail
  refine HL.out.mono ?_
  rintro e w1 ⟨⟨lim, rfl⟩, rfl⟩
  go_wp2_with fail
  refine (HI.out lim).mono ?_
  rintro e w1 ⟨⟨v, rfl⟩, s, h1, h2, h3, h4⟩
  have H1 := Lib.hid h1
  have H2 := Lib.hid h2
  have H3 := Lib.hid h3
  have H4 := Lib.hid h4
  clear h1 h2 h3 h4
  go_wp2_with fail
  go_end0
  exact ⟨⟨_, rfl⟩, s, H1.out, H2.out, H3.out, H4.out⟩
end Go.Proofs.Ytmkoppbbenombaa
