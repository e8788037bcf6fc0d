/- The model's ArpRead; two equal results are found equal; what is handed in as a law's own struct. -/
import Derived.Test.YtjcjohapmaiecaaEthT
import Derived.Deep.RegionWith
namespace Go.Proofs.Ytjcjohapmaiecaa
open Go.RowKit

def arpOutV (op mac ip tm ti c : Int) : Value := .agg #[.int .i64 op, .int .i64 mac, .int .i64 ip, .int .i64 tm, .int .i64 ti, .int .i64 c]
def arpR (s : ByteArray) : Value := if 8000 < s.size then arpOutV 0 0 0 0 0 2 else if s.size ≠ 28 then arpOutV 0 0 0 0 0 3 else
  if (arpB (numAt s 6 8 : Nat) (numAt s 8 14 : Nat) (numAt s 14 18 : Nat) (numAt s 18 24 : Nat) (numAt s 24 28 : Nat)).toList == s.toList then arpOutV (numAt s 6 8 : Nat) (numAt s 8 14 : Nat) (numAt s 14 18 : Nat) (numAt s 18 24 : Nat) (numAt s 24 28 : Nat) 0 else arpOutV 0 0 0 0 0 3
theorem arpR_2 (s : ByteArray) (h1 : 8000 < s.size) : arpR s = arpOutV 0 0 0 0 0 2 := by rw [arpR, if_pos h1]
theorem arpR_n (s : ByteArray) (h1 : ¬ 8000 < s.size) (h2 : s.size ≠ 28) : arpR s = arpOutV 0 0 0 0 0 3 := by rw [arpR, if_neg h1, if_pos h2]
theorem arpR_3 (s : ByteArray) (h2 : s.size = 28) (h3 : ((arpB (numAt s 6 8 : Nat) (numAt s 8 14 : Nat) (numAt s 14 18 : Nat) (numAt s 18 24 : Nat) (numAt s 24 28 : Nat)).toList == s.toList) = false) : arpR s = arpOutV 0 0 0 0 0 3 := by rw [arpR, if_neg (by omega), if_neg (fun h => h h2), h3]; rfl
theorem arpR_0 (s : ByteArray) (h2 : s.size = 28) (h3 : ((arpB (numAt s 6 8 : Nat) (numAt s 8 14 : Nat) (numAt s 14 18 : Nat) (numAt s 18 24 : Nat) (numAt s 24 28 : Nat)).toList == s.toList) = true) : arpR s = arpOutV (numAt s 6 8 : Nat) (numAt s 8 14 : Nat) (numAt s 14 18 : Nat) (numAt s 18 24 : Nat) (numAt s 24 28 : Nat) 0 := by rw [arpR, if_neg (by omega), if_neg (fun h => h h2), h3]; rfl
theorem specArp_at (op mac ip tm ti : Int) (w : World) :
    Calls Try.prog 25 #[.agg #[.int .i64 op, .int .i64 mac, .int .i64 ip, .int .i64 tm, .int .i64 ti]] w fun e w' => e = .returned (.string (arpB op mac ip tm ti)) ∧ Below w.heap.size w w' := specArpBytes_any op mac ip tm ti w
set_option maxHeartbeats 4000000 in
theorem specArpRead_any (s : ByteArray) (w : World) (hs : s.size ≤ maxLen) :
    Calls Try.prog 28 #[.string s] w fun e w' => e = .returned (arpR s) ∧ Below w.heap.size w w' := by
  unfold maxLen at hs
  by_cases h1 : 8000 < s.size
  · have HR := Lib.hid (arpR_2 s h1)
    go_enter Try.func28, Try.ntmps28
    go_wp2_with fail
    refine bodyPost_ret (v := arpOutV 0 0 0 0 0 2) (by simp [results, Try.results28, go_sem, arpOutV]) rfl ⟨by rw [HR.out], ?_⟩
    go_grown
  by_cases h2 : s.size = 28
  · have i28 : (s.size : Int) = 28 := by omega
    have HS := Lib.hid h2
    clear h2
    go_enter Try.func28, Try.ntmps28
    go_wp2_with fail
    go_region_with (first | (go_at_call 67; refine (specGet_sub _ _ _ _ ?_).mono ?_; (first | decide | omega); rintro e w' ⟨rfl, rfl⟩))
    all_goals
      cases h3 : (arpB (numAt s 6 8 : Nat) (numAt s 8 14 : Nat) (numAt s 14 18 : Nat) (numAt s 18 24 : Nat) (numAt s 24 28 : Nat)).toList == s.toList
      · have HR := Lib.hid (arpR_3 s HS.out h3)
        go_wp2_with (go_at_call 25; refine (specArp_at _ _ _ _ _ _).mono ?_; rintro e w1 ⟨rfl, hb1⟩; have hbw : Below w.heap.size w w1 := Below.trans (by go_grown) (hb1.mono (by simp; omega)); have hc : ∀ o, w1.cell? ⟨w.heap.size, o, none⟩ = _ := fun o => hb1.cell (p := ⟨w.heap.size, o, none⟩) (by simp; omega); have hc2 : ∀ o, w1.cell? ⟨w.heap.size + 1, o, none⟩ = _ := fun o => hb1.cell (p := ⟨w.heap.size + 1, o, none⟩) (by simp); have hf : ∀ o, w1.frozen? ⟨w.heap.size, o, none⟩ = _ := fun o => hb1.frozen (p := ⟨w.heap.size, o, none⟩) (by simp; omega))
        refine bodyPost_ret (v := arpOutV 0 0 0 0 0 3) (by simp [results, Try.results28, go_sem, arpOutV, hc]) rfl ⟨by rw [HR.out], ?_⟩
        go_grown
      · have HR := Lib.hid (arpR_0 s HS.out h3)
        go_wp2_with (go_at_call 25; refine (specArp_at _ _ _ _ _ _).mono ?_; rintro e w1 ⟨rfl, hb1⟩; have hbw : Below w.heap.size w w1 := Below.trans (by go_grown) (hb1.mono (by simp; omega)); have hc : ∀ o, w1.cell? ⟨w.heap.size, o, none⟩ = _ := fun o => hb1.cell (p := ⟨w.heap.size, o, none⟩) (by simp; omega); have hc2 : ∀ o, w1.cell? ⟨w.heap.size + 1, o, none⟩ = _ := fun o => hb1.cell (p := ⟨w.heap.size + 1, o, none⟩) (by simp); have hf : ∀ o, w1.frozen? ⟨w.heap.size, o, none⟩ = _ := fun o => hb1.frozen (p := ⟨w.heap.size, o, none⟩) (by simp; omega))
        refine bodyPost_ret (v := arpOutV (numAt s 6 8 : Nat) (numAt s 8 14 : Nat) (numAt s 14 18 : Nat) (numAt s 18 24 : Nat) (numAt s 24 28 : Nat) 0) (by simp [results, Try.results28, go_sem, arpOutV, hc]) rfl ⟨by rw [HR.out], ?_⟩
        go_grown
  · have HR := Lib.hid (arpR_n s h1 h2)
    have i28 : decide ((s.size : Int) = 28) = false := by simp; omega
    go_enter Try.func28, Try.ntmps28
    go_wp2_with fail
    refine bodyPost_ret (v := arpOutV 0 0 0 0 0 3) (by simp [results, Try.results28, go_sem, arpOutV]) rfl ⟨by rw [HR.out], ?_⟩
    go_grown

set_option maxHeartbeats 1000000 in
theorem eqVxOut_same (v : Int) (t : ByteArray) (c : Int) (w : World) :
    Calls Try.prog 37 #[vxOutV v t c, vxOutV v t c] w fun e w' => e = .returned (.bool true) ∧ Below w.heap.size w w' := by
  unfold vxOutV
  go_enter Try.func37, Try.ntmps37
  go_wp2
  go_ret
  refine ⟨rfl, ?_⟩
  go_grown
end Go.Proofs.Ytjcjohapmaiecaa
