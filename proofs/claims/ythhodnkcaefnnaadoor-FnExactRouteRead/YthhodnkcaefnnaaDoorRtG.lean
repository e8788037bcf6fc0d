/- RouteBytes, whole: of the model and of the program. -/
import Derived.Test.YthhodnkcaefnnaaDoorRtF
import Derived.Handy
namespace Go.Proofs.YthhodnkcaefnnaaDoor
open Go.RowKit

set_option maxHeartbeats 1000000 in
theorem specRouteBytes_any (a : Rt) (w : World) : Calls Tryd.prog 13 #[a.val] w fun e w' => e = .returned (.string a.bytes) ∧ Below w.heap.size w w' := by
  have HA := Lib.hid (specRight_any a)
  cases h : a.right
  · have HR : Hid (a.bytes = ⟨#[]⟩) := Lib.hid (by unfold Rt.bytes; rw [h]; rfl)
    rw [h] at HA
    clear h
    generalize a.bytes = R at *
    unfold Rt.val rtV at *
    go_enter Tryd.func13, Tryd.ntmps13
    go_wp2_with (go_at_call 20; refine (HA.out _).mono ?_; rintro e w1 ⟨rfl, hb1⟩; have HB1 : Hid (Below w.heap.size w w1) := Lib.hid (((Below.refl _ _).alloc (Nat.le_refl _) _).trans (hb1.mono (by simp))); clear hb1)
    go_ret
    exact ⟨str_ret HR.out.symm, HB1.out⟩
  · have HB := Lib.hid (specL03Bytes_any a h)
    have HR : Hid (a.bytes = strOf (flat a.nums)) := Lib.hid (by unfold Rt.bytes; rw [h]; rfl)
    rw [h] at HA
    clear h
    generalize strOf (flat a.nums) = R at *
    generalize a.bytes = R2 at *
    unfold Rt.val rtV at *
    go_enter Tryd.func13, Tryd.ntmps13
    go_wp2_with fail
    refine (HA.out _).mono ?_
    rintro e w1 ⟨rfl, hb1⟩
    have hc1 : ∀ o, w1.cell? ⟨w.heap.size, o, none⟩ = _ := fun o => hb1.cell (p := ⟨w.heap.size, o, none⟩) (by simp)
    have HB1 : Hid (Below w.heap.size w w1) := Lib.hid (((Below.refl _ _).alloc (Nat.le_refl _) _).trans (hb1.mono (by simp)))
    clear hb1
    go_wp2_with (go_at_call 37; refine (HB.out _).mono ?_; rintro e w2 ⟨rfl, hb2⟩; have HB2 : Hid (Below w.heap.size w w2) := Lib.hid (HB1.out.trans (hb2.mono HB1.out.size)); clear hb2)
    go_ret
    exact ⟨str_ret HR.out.symm, HB2.out⟩

def numsV (a b c d e f g : Int) : Value := .agg #[.int .i64 a, .int .i64 b, .int .i64 c, .int .i64 d, .int .i64 e, .int .i64 f, .int .i64 g]
set_option maxHeartbeats 1000000 in
theorem numsOf_any (a : Rt) (w : World) : Calls Tryd.prog 24 #[a.val] w fun e w' => e = .returned (numsV a.kind a.vni a.mac a.ip a.org a.seq (stI a.st)) ∧ Below w.heap.size w w' := by
  obtain ⟨k, v, m, i, o, s, t⟩ := a
  unfold Rt.val rtV
  dsimp only
  cases t
  · go_enter Tryd.func24, Tryd.ntmps24
    go_wp2
    refine bodyPost_ret (v := numsV k v m i o s (stI false)) (by simp [results, Tryd.results24, go_sem, numsV, stI]) rfl ⟨rfl, ?_⟩
    go_grown
  · go_enter Tryd.func24, Tryd.ntmps24
    go_wp2
    refine bodyPost_ret (v := numsV k v m i o s (stI true)) (by simp [results, Tryd.results24, go_sem, numsV, stI]) rfl ⟨rfl, ?_⟩
    go_grown
theorem nums_at0 (a b c d e f g : Int) (W : World) : (Instr.index 46 (.agg #[.int .i64 a, .int .i64 b, .int .i64 c, .int .i64 d, .int .i64 e, .int .i64 f, .int .i64 g]) (.int .i64 0)).run Tryd.prog W = .ok (.int .i64 a) W := by kernel_rfl
theorem nums_at1 (a b c d e f g : Int) (W : World) : (Instr.index 46 (.agg #[.int .i64 a, .int .i64 b, .int .i64 c, .int .i64 d, .int .i64 e, .int .i64 f, .int .i64 g]) (.int .i64 1)).run Tryd.prog W = .ok (.int .i64 b) W := by kernel_rfl
theorem nums_at2 (a b c d e f g : Int) (W : World) : (Instr.index 46 (.agg #[.int .i64 a, .int .i64 b, .int .i64 c, .int .i64 d, .int .i64 e, .int .i64 f, .int .i64 g]) (.int .i64 2)).run Tryd.prog W = .ok (.int .i64 c) W := by kernel_rfl
theorem nums_at3 (a b c d e f g : Int) (W : World) : (Instr.index 46 (.agg #[.int .i64 a, .int .i64 b, .int .i64 c, .int .i64 d, .int .i64 e, .int .i64 f, .int .i64 g]) (.int .i64 3)).run Tryd.prog W = .ok (.int .i64 d) W := by kernel_rfl
theorem nums_at4 (a b c d e f g : Int) (W : World) : (Instr.index 46 (.agg #[.int .i64 a, .int .i64 b, .int .i64 c, .int .i64 d, .int .i64 e, .int .i64 f, .int .i64 g]) (.int .i64 4)).run Tryd.prog W = .ok (.int .i64 e) W := by kernel_rfl
theorem nums_at5 (a b c d e f g : Int) (W : World) : (Instr.index 46 (.agg #[.int .i64 a, .int .i64 b, .int .i64 c, .int .i64 d, .int .i64 e, .int .i64 f, .int .i64 g]) (.int .i64 5)).run Tryd.prog W = .ok (.int .i64 f) W := by kernel_rfl
theorem nums_at6 (a b c d e f g : Int) (W : World) : (Instr.index 46 (.agg #[.int .i64 a, .int .i64 b, .int .i64 c, .int .i64 d, .int .i64 e, .int .i64 f, .int .i64 g]) (.int .i64 6)).run Tryd.prog W = .ok (.int .i64 g) W := by kernel_rfl
theorem nums_at (a b c d e f g : Int) (j : Nat) (hj : j < 7) (W : World) : (Instr.index 46 (.agg #[.int .i64 a, .int .i64 b, .int .i64 c, .int .i64 d, .int .i64 e, .int .i64 f, .int .i64 g]) (.int .i64 (j : Int))).run Tryd.prog W = .ok (.int .i64 ([a, b, c, d, e, f, g].getD j 0)) W := by
  have hc : j = 0 ∨ j = 1 ∨ j = 2 ∨ j = 3 ∨ j = 4 ∨ j = 5 ∨ j = 6 := by omega
  rcases hc with rfl | rfl | rfl | rfl | rfl | rfl | rfl
  · exact nums_at0 a b c d e f g W
  · exact nums_at1 a b c d e f g W
  · exact nums_at2 a b c d e f g W
  · exact nums_at3 a b c d e f g W
  · exact nums_at4 a b c d e f g W
  · exact nums_at5 a b c d e f g W
  · exact nums_at6 a b c d e f g W
theorem flat_take (l : List Int) (j : Nat) (h : j < l.length) : flat (l.take (j + 1)) = flat (l.take j) ++ putNum (l.getD j 0) := by
  rw [List.take_succ_eq_append_getElem h, List.getD_eq_getElem?_getD, List.getElem?_eq_getElem h]; unfold flat; rw [List.flatMap_append, List.flatMap_singleton]; rfl
theorem flat_len (l : List Int) (h : ∀ n ∈ l, I64 n) : (flat l).length ≤ 10 * l.length := by
  induction l with
  | nil => simp [flat]
  | cons a l ih =>
    have h1 := putNum_len a (h a (by simp)).1 (h a (by simp)).2
    have h2 := ih (fun n hn => h n (by simp [hn]))
    simp only [flat, List.flatMap_cons, List.length_append, List.length_cons] at h2 ⊢
    omega
theorem nums_b {r : Rt} (h : r.right = true) : ∀ n ∈ r.nums, I64 n := by
  obtain ⟨⟨b0, b1, b2⟩, b3, b4, b5⟩ := right_b h
  have b6 := stI_b r.st
  intro n hn
  simp only [Rt.nums, List.mem_cons, List.not_mem_nil, or_false] at hn
  rcases hn with rfl | rfl | rfl | rfl | rfl | rfl | rfl <;> assumption
set_option maxHeartbeats 2000000 in
theorem implRouteBytes_any (a : Rt) (w : World) : Calls Tryd.prog 6 #[a.val] w fun e w' => e = .returned (.string a.bytes) ∧ Below w.heap.size w w' := by
  have HA := Lib.hid (implRight_any a)
  cases h : a.right
  · have HR : Hid (a.bytes = ⟨#[]⟩) := Lib.hid (by unfold Rt.bytes; rw [h]; rfl)
    rw [h] at HA
    clear h
    generalize a.bytes = R at *
    unfold Rt.val rtV at *
    go_enter Tryd.func6, Tryd.ntmps6
    go_wp2_with (go_at_call 19; refine (HA.out _).mono ?_; rintro e w1 ⟨rfl, hb1⟩; have HB1 : Hid (Below w.heap.size w w1) := Lib.hid (((Below.refl _ _).alloc (Nat.le_refl _) _).trans (hb1.mono (by simp))); clear hb1)
    go_ret
    exact ⟨str_ret HR.out.symm, HB1.out⟩
  · have HN := Lib.hid (numsOf_any a)
    have HR : Hid (a.bytes = strOf (flat a.nums)) := Lib.hid (by unfold Rt.bytes; rw [h]; rfl)
    have hnb := Lib.hid (nums_b h)
    have hnl : Hid (a.nums.length = 7) := Lib.hid rfl
    have hix : Hid (∀ j W, j < 7 → _) := Lib.hid (fun j W hj => nums_at a.kind a.vni a.mac a.ip a.org a.seq (stI a.st) j hj W)
    rw [h] at HA
    clear h
    rw [show [a.kind, a.vni, a.mac, a.ip, a.org, a.seq, stI a.st] = a.nums from rfl] at hix
    generalize a.nums = L at *
    generalize a.bytes = R2 at *
    obtain ⟨k, v, m, i, o, s, t⟩ := a
    unfold Rt.val rtV numsV at *
    dsimp only at *
    generalize stI t = u at *
    go_enter Tryd.func6, Tryd.ntmps6
    go_wp2_with fail
    refine (HA.out _).mono ?_
    rintro e w1 ⟨rfl, hb1⟩
    have hc1 : ∀ o, w1.cell? ⟨w.heap.size, o, none⟩ = _ := fun o => hb1.cell (p := ⟨w.heap.size, o, none⟩) (by simp)
    have HB1 : Hid (Below w.heap.size w w1) := Lib.hid (((Below.refl _ _).alloc (Nat.le_refl _) _).trans (hb1.mono (by simp)))
    clear hb1
    go_wp2_with (go_at_call 24; refine (HN.out _).mono ?_; rintro e w2 ⟨rfl, hb2⟩; have HB2 : Hid (Below w.heap.size w w2) := Lib.hid (HB1.out.trans (hb2.mono HB1.out.size)); clear hb2)
    go_loopw [11, 3] (fun x y wr => ∃ j : Nat, j ≤ 7 ∧ x = .int .i64 (j : Int) ∧ y = .string (strOf (flat (L.take j))) ∧ Hid (Below w.heap.size w wr)) (fun x _ _ => 7 - (intOf x).toNat)
    case atStart => exact ⟨0, by omega, rfl, rfl, HB2⟩
    case round =>
      obtain ⟨j, hj, rfl, rfl, HB⟩ := hrel
      by_cases hlt : j < 7
      · have hx := fun W => hix.out j W hlt
        have hb := hnb.out (L.getD j 0) (by rw [List.getD_eq_getElem?_getD, List.getElem?_eq_getElem (by rw [hnl.out]; exact hlt)]; simp)
        have HP := Lib.hid (fun w => implPutNum_any (L.getD j 0) w hb.1 hb.2)
        have hl1 : (flat (L.take j)).length ≤ 70 := by
          have := flat_len (L.take j) (fun n hn => hnb.out n (List.mem_of_mem_take hn))
          have := List.length_take_le j L
          omega
        have HJ := Lib.hid (fun w => joined_any (strOf (flat (L.take j))) (strOf (putNum (L.getD j 0))) w (by rw [strOf_size, strOf_size]; have := putNum_len _ hb.1 hb.2; omega))
        rw [strOf_list, strOf_list, ← flat_take L j (by rw [hnl.out]; exact hlt)] at HJ
        generalize L.getD j 0 = n at *
        clear hl1 hb
        have hjj : ((j : Int) < 7) := by omega
        go_wp2_with (first | (go_at_call 26; refine (HP.out _).mono ?_; rintro e w3 ⟨rfl, hb3⟩; have HB3 : Hid (Below w.heap.size w w3) := Lib.hid (HB.out.trans (hb3.mono HB.out.size)); clear hb3) | (go_at_call 25; refine (HJ.out _).mono ?_; rintro e w4 ⟨rfl, hb4⟩; have HB4 : Hid (Below w.heap.size w w4) := Lib.hid (HB3.out.trans (hb4.mono HB3.out.size)); clear hb4))
        go_roundw
        case rel => exact ⟨j + 1, by omega, by simp, rfl, HB4⟩
        case measure => simp [intOf]; omega
      · have hj7 : j = 7 := by omega
        subst hj7
        rw [List.take_of_length_le (by rw [hnl.out]; exact Nat.le_refl _)]
        go_wp2_with fail
        go_ret
        exact ⟨str_ret HR.out.symm, HB.out⟩
end Go.Proofs.YthhodnkcaefnnaaDoor
