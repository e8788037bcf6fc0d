/- Two equal frames, or ARP messages, as results, are found equal; the laws' own structs turned into the program's. -/
import Derived.Test.YtjcjohapmaiecaaEthT
namespace Go.Proofs.Ytjcjohapmaiecaa
open Go.RowKit

set_option maxHeartbeats 1000000 in
theorem eqEth_same (to fr k : Int) (b : ByteArray) (w : World) :
    Calls Try.prog 70 #[.agg #[.int .i64 to, .int .i64 fr, .int .i64 k, .string b], .agg #[.int .i64 to, .int .i64 fr, .int .i64 k, .string b]] w fun e w' => e = .returned (.bool true) ∧ Below w.heap.size w w' := by
  go_enter Try.func70, Try.ntmps70
  go_wp2
  go_ret
  refine ⟨rfl, ?_⟩
  go_grown
set_option maxHeartbeats 1000000 in
theorem eqEthOut_same (to fr k : Int) (b : ByteArray) (c : Int) (w : World) :
    Calls Try.prog 34 #[ethOutV to fr k b c, ethOutV to fr k b c] w fun e w' => e = .returned (.bool true) ∧ Below w.heap.size w w' := by
  unfold ethOutV
  go_enter Try.func34, Try.ntmps34
  go_wp2_with (go_at_call 70; refine (eqEth_same _ _ _ _ _).mono ?_; rintro e w1 ⟨rfl, hb1⟩; have hc : ∀ o, w1.cell? ⟨w.heap.size, o, none⟩ = _ := fun o => hb1.cell (p := ⟨w.heap.size, o, none⟩) (by simp; omega); have hc2 : ∀ o, w1.cell? ⟨w.heap.size + 1, o, none⟩ = _ := fun o => hb1.cell (p := ⟨w.heap.size + 1, o, none⟩) (by simp); have hbw : Below w.heap.size w w1 := Below.trans (by go_grown) (hb1.mono (by simp; omega)))
  go_ret
  exact ⟨rfl, hbw⟩
set_option maxHeartbeats 1000000 in
theorem eqArp_same (op mac ip tm ti : Int) (w : World) :
    Calls Try.prog 71 #[.agg #[.int .i64 op, .int .i64 mac, .int .i64 ip, .int .i64 tm, .int .i64 ti], .agg #[.int .i64 op, .int .i64 mac, .int .i64 ip, .int .i64 tm, .int .i64 ti]] w fun e w' => e = .returned (.bool true) ∧ Below w.heap.size w w' := by
  go_enter Try.func71, Try.ntmps71
  go_wp2
  go_ret
  refine ⟨rfl, ?_⟩
  go_grown
set_option maxHeartbeats 1000000 in
theorem eqArpOut_same (op mac ip tm ti c : Int) (w : World) :
    Calls Try.prog 36 #[.agg #[.int .i64 op, .int .i64 mac, .int .i64 ip, .int .i64 tm, .int .i64 ti, .int .i64 c], .agg #[.int .i64 op, .int .i64 mac, .int .i64 ip, .int .i64 tm, .int .i64 ti, .int .i64 c]] w fun e w' => e = .returned (.bool true) ∧ Below w.heap.size w w' := by
  go_enter Try.func36, Try.ntmps36
  go_wp2_with (go_at_call 71; refine (eqArp_same _ _ _ _ _ _).mono ?_; rintro e w1 ⟨rfl, hb1⟩; have hc : ∀ o, w1.cell? ⟨w.heap.size, o, none⟩ = _ := fun o => hb1.cell (p := ⟨w.heap.size, o, none⟩) (by simp; omega); have hc2 : ∀ o, w1.cell? ⟨w.heap.size + 1, o, none⟩ = _ := fun o => hb1.cell (p := ⟨w.heap.size + 1, o, none⟩) (by simp); have hbw : Below w.heap.size w w1 := Below.trans (by go_grown) (hb1.mono (by simp; omega)))
  go_ret
  exact ⟨rfl, hbw⟩
set_option maxHeartbeats 1000000 in
theorem toArp_any (op mac ip tm ti : Int) (w : World) :
    Calls Try.prog 35 #[.agg #[.int .i64 op, .int .i64 mac, .int .i64 ip, .int .i64 tm, .int .i64 ti]] w fun e w' => e = .returned (arpV op mac ip tm ti) ∧ Below w.heap.size w w' := by
  go_enter Try.func35, Try.ntmps35
  go_wp2
  refine bodyPost_ret (v := arpV op mac ip tm ti) (by simp [results, Try.results35, go_sem, arpV]) rfl ⟨rfl, ?_⟩
  go_grown
set_option maxHeartbeats 1000000 in
theorem toEth_any (to fr k : Int) (b : ByteArray) (w : World) :
    Calls Try.prog 33 #[.agg #[.int .i64 to, .int .i64 fr, .int .i64 k, .string b]] w fun e w' => e = .returned (ethV to fr k b) ∧ Below w.heap.size w w' := by
  go_enter Try.func33, Try.ntmps33
  go_wp2
  refine bodyPost_ret (v := ethV to fr k b) (by simp [results, Try.results33, go_sem, ethV]) rfl ⟨rfl, ?_⟩
  go_grown
end Go.Proofs.Ytjcjohapmaiecaa
