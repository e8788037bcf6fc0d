/- The contract of spec's GetText. -/
import Derived.Test.YtdnfnlmeccchbaaDoorGetT
import Derived.StillTailTactics
namespace Go.Proofs.YtdnfnlmeccchbaaDoor
open Go.RowKit

set_option maxRecDepth 100000 in
set_option maxHeartbeats 2000000 in
theorem specGetText_any (s : ByteArray) (at_ : Int) (w : World) (hs : s.size ≤ maxLen) (hat : at_ ≤ 9223372036854775807) :
    Calls Tryd.prog 16 #[.string s, .int .i64 at_] w fun e w' => e = .returned (getText s at_).v ∧ Below w.heap.size w w' := by
  have HS := Lib.hid hs
  have HAT := Lib.hid hat; clear hat
  unfold maxLen at hs
  obtain ⟨n, x, c, hv⟩ : ∃ n x c, getNum s at_ = ⟨n, x, c⟩ := ⟨_, _, _, rfl⟩
  have HV := Lib.hid hv
  have HT : Hid (getText s at_ = textOf s ⟨n, x, c⟩) := by show getText s at_ = _; rw [getText, hv]
  by_cases hc : c = 0
  case neg =>
    have HR := Lib.hid (HT.out.trans (textOf_c s ⟨n, x, c⟩ hc))
    have bc : (c != 0) = true := by simp [hc]
    clear hv hc
    go_enter Tryd.func16, Tryd.ntmps16
    go_wp2_with (go_at_call 14; refine (specGetNum_any _ _ _ HS.out HAT.out).mono ?_; rintro e w1 ⟨rfl, hb1⟩; rw [HV.out]; unfold NumO.v numOutV; have hbw : Below w.heap.size w w1 := Below.trans (by go_grown) (hb1.mono (by simp)); obtain ⟨hc1, hf1⟩ := bcell hb1; have hz : w.heap.size < w1.heap.size := (by have := hb1.size; simp at this; omega))
    refine bodyPost_ret (v := textOutV ⟨#[]⟩ 0 c) (by simp [results, Tryd.results16, go_sem, textOutV, hc1, hz]) rfl ⟨by rw [HR.out]; rfl, ?_⟩
    go_grown
  subst hc
  obtain ⟨h8, hx0, hx1, hn0, hn1⟩ := getNum_bounds s at_ n x HAT.out hv
  clear hv
  by_cases h3 : n < 0 ∨ 8000 < n
  · have HR := Lib.hid (HT.out.trans (textOf_3 s n x h3))
    by_cases h30 : n < 0
    · go_enter Tryd.func16, Tryd.ntmps16
      go_wp2_with (go_at_call 14; refine (specGetNum_any _ _ _ HS.out HAT.out).mono ?_; rintro e w1 ⟨rfl, hb1⟩; rw [HV.out]; unfold NumO.v numOutV; have hbw : Below w.heap.size w w1 := Below.trans (by go_grown) (hb1.mono (by simp)); obtain ⟨hc1, hf1⟩ := bcell hb1; have hz : w.heap.size < w1.heap.size := (by have := hb1.size; simp at this; omega))
      refine bodyPost_ret (v := textOutV ⟨#[]⟩ 0 3) (by simp [results, Tryd.results16, go_sem, textOutV, hc1, hz]) rfl ⟨by rw [HR.out]; rfl, ?_⟩
      go_grown
    · have h31 : 8000 < n := by omega
      have b0 : decide (n < 0) = false := by simp; omega
      clear h3
      go_enter Tryd.func16, Tryd.ntmps16
      go_wp2_with (go_at_call 14; refine (specGetNum_any _ _ _ HS.out HAT.out).mono ?_; rintro e w1 ⟨rfl, hb1⟩; rw [HV.out]; unfold NumO.v numOutV; have hbw : Below w.heap.size w w1 := Below.trans (by go_grown) (hb1.mono (by simp)); obtain ⟨hc1, hf1⟩ := bcell hb1; have hz : w.heap.size < w1.heap.size := (by have := hb1.size; simp at this; omega))
      refine bodyPost_ret (v := textOutV ⟨#[]⟩ 0 3) (by simp [results, Tryd.results16, go_sem, textOutV, hc1, hz]) rfl ⟨by rw [HR.out]; rfl, ?_⟩
      go_grown
  have b0 : decide (n < 0) = false := by simp; omega
  have b1 : decide (8000 < n) = false := by simp; omega
  have hn2 : 0 ≤ n := by omega
  have hn3 : n ≤ 8000 := by omega
  clear hn0 hn1
  by_cases h4 : (s.size : Int) < x + n
  · have HR := Lib.hid (HT.out.trans (textOf_4 s n x h3 h4))
    have h4' : (s.size : Int) - n < x := by omega
    clear h3
    go_enter Tryd.func16, Tryd.ntmps16
    go_wp2_with (go_at_call 14; refine (specGetNum_any _ _ _ HS.out HAT.out).mono ?_; rintro e w1 ⟨rfl, hb1⟩; rw [HV.out]; unfold NumO.v numOutV; have hbw : Below w.heap.size w w1 := Below.trans (by go_grown) (hb1.mono (by simp)); obtain ⟨hc1, hf1⟩ := bcell hb1; have hz : w.heap.size < w1.heap.size := (by have := hb1.size; simp at this; omega))
    refine bodyPost_ret (v := textOutV ⟨#[]⟩ 0 4) (by simp [results, Tryd.results16, go_sem, textOutV, hc1, hz]) rfl ⟨by rw [HR.out]; rfl, ?_⟩
    go_grown
  have HR := Lib.hid (HT.out.trans (textOf_0 s n x h3 h4))
  have h4' : x ≤ (s.size : Int) - n := by omega
  clear h3
  go_enter Tryd.func16, Tryd.ntmps16
  go_wp2_with (go_at_call 14; refine (specGetNum_any _ _ _ HS.out HAT.out).mono ?_; rintro e w1 ⟨rfl, hb1⟩; rw [HV.out]; unfold NumO.v numOutV; have hbw : Below w.heap.size w w1 := Below.trans (by go_grown) (hb1.mono (by simp)); obtain ⟨hc1, hf1⟩ := bcell hb1; have hz : w.heap.size < w1.heap.size := (by have := hb1.size; simp at this; omega))
  have hwr : IntKind.i64.wrap (x + n) = x + n := IntWalk.i64_in _ (by omega)
  have hle : x ≤ x + n := by omega
  have hle2 : x + n ≤ (s.size : Int) := by omega
  have hle3 : 0 ≤ x + n := by omega
  have q0 : (w1.alloc (.cells #[.int .i64 n, .int .i64 x, .int .i64 0] 26)).cell? ⟨w1.heap.size, 0, none⟩ = some (.int .i64 n) := by simp
  have q1 : (w1.alloc (.cells #[.int .i64 n, .int .i64 x, .int .i64 0] 26)).cell? ⟨w1.heap.size, 1, none⟩ = some (.int .i64 x) := by simp
  have r0 : (w1.alloc (.cells #[.int .i64 n, .int .i64 x, .int .i64 0] 26)).cell? ⟨w.heap.size, 0, none⟩ = some (.string ⟨#[]⟩) := by rw [World.cell?_alloc_lt _ _ _ hz, hc1 _ _ (by simp)]; simp
  have r1 : (w1.alloc (.cells #[.int .i64 n, .int .i64 x, .int .i64 0] 26)).cell? ⟨w.heap.size, 1, none⟩ = some (.int .i64 0) := by rw [World.cell?_alloc_lt _ _ _ hz, hc1 _ _ (by simp)]; simp
  have r2 : (w1.alloc (.cells #[.int .i64 n, .int .i64 x, .int .i64 0] 26)).cell? ⟨w.heap.size, 2, none⟩ = some (.int .i64 0) := by rw [World.cell?_alloc_lt _ _ _ hz, hc1 _ _ (by simp)]; simp
  have f0 : ∀ o, (w1.alloc (.cells #[.int .i64 n, .int .i64 x, .int .i64 0] 26)).frozen? ⟨w.heap.size, o, none⟩ = false := fun o => by rw [World.frozen?_alloc_old _ _ _ (by simp; omega), hf1 _ _ (by simp)]; simp
  have hbW : Below w.heap.size w (w1.alloc (.cells #[.int .i64 n, .int .i64 x, .int .i64 0] 26)) := hbw.alloc (by have := hbw.size; omega) _
  clear hc1 hf1
  generalize w1.alloc (.cells #[.int .i64 n, .int .i64 x, .int .i64 0] 26) = W at *
  go_still_tail 15, (by kernel_rfl)
  change wpList _ _ _ _ _ W.drew
  go_wp2
  refine bodyPost_ret (v := textOutV (s.extract x.toNat (x + n).toNat) (x + n) 0) (by simp [results, Tryd.results16, go_sem, textOutV, r0, r1, r2]) rfl ⟨by rw [HR.out]; rfl, ?_⟩
  go_grown
end Go.Proofs.YtdnfnlmeccchbaaDoor
