/- RouteOf, of the model and of the program. -/
import Derived.Test.YthilmonokhdjmaaGu
import Derived.Test.YthilmonokhdjmaaHdL
namespace Go.Proofs.Ythilmonokhdjmaa
open Go.RowKit

def roG (g : Gu) (o : Int) : Rt := if g.right = true ∧ isHouse o = true then ⟨2, g.vni, g.mac, g.ip, o, g.seq, g.st⟩ else ⟨0, 0, 0, 0, 0, 0, false⟩
inductive RoWay (g : Gu) (o : Int) : Prop
  | bad (h1 : g.right = false) (hr : Hid (roG g o = ⟨0, 0, 0, 0, 0, 0, false⟩))
  | house (h1 : g.right = true) (h2 : isHouse o = false) (hr : Hid (roG g o = ⟨0, 0, 0, 0, 0, 0, false⟩))
  | good (h1 : g.right = true) (h2 : isHouse o = true) (hr : Hid (roG g o = ⟨2, g.vni, g.mac, g.ip, o, g.seq, g.st⟩))
theorem ro_way (g : Gu) (o : Int) : RoWay g o := by
  cases h1 : g.right
  · exact .bad h1 (Lib.hid (by rw [roG, if_neg (by simp [h1])]))
  cases h2 : isHouse o
  · exact .house h1 h2 (Lib.hid (by rw [roG, if_neg (by simp [h2])]))
  · exact .good h1 h2 (Lib.hid (by rw [roG, if_pos ⟨h1, h2⟩]))
set_option maxHeartbeats 1000000 in
theorem specRouteIn_any (g : Gu) (o : Int) (w : World) : Calls Try.prog 123 #[g.val, .int .i64 o] w fun e w' => e = .returned (rtV 2 g.vni g.mac g.ip o g.seq g.st) ∧ Below w.heap.size w w' := by
  obtain ⟨v, m, i, d, s, n, t⟩ := g
  unfold Gu.val rtV
  dsimp only
  go_enter Try.func123, Try.ntmps123
  go_wp2
  refine bodyPost_ret (v := rtV 2 v m i o s t) (by simp [results, Try.results123, go_sem, rtV]) rfl ⟨rfl, ?_⟩
  go_grown
set_option maxRecDepth 100000 in
set_option maxHeartbeats 2000000 in
theorem specRouteOf_any (g : Gu) (o : Int) (w : World) : Calls Try.prog 52 #[g.val, .int .i64 o] w fun e w' => e = .returned (roG g o).val ∧ Below w.heap.size w w' := by
  have HG := Lib.hid (specGuest_any g)
  have HI := Lib.hid (specRouteIn_any g o)
  have hw := ro_way g o
  obtain ⟨v, m, i, d, s, n, t⟩ := g
  unfold Gu.val at *
  unfold Rt.val rtV at *
  dsimp only at *
  have X0 := Blk.new w 58 #[.int .i64 v, .int .i64 m, .int .i64 i, .int .i64 d, .int .i64 s, .int .i64 n, .bool t]
  have X1 := Blk.new (w.alloc (.cells #[.int .i64 v, .int .i64 m, .int .i64 i, .int .i64 d, .int .i64 s, .int .i64 n, .bool t] 58)) 75 #[.int .i64 0, .int .i64 0, .int .i64 0, .int .i64 0, .int .i64 0, .int .i64 0, .bool false]
  rw [World.size_alloc] at X1
  replace X0 := X0.alloc (.cells #[.int .i64 0, .int .i64 0, .int .i64 0, .int .i64 0, .int .i64 0, .int .i64 0, .bool false] 75)
  have HB0 : Below w.heap.size w ((w.alloc (.cells #[.int .i64 v, .int .i64 m, .int .i64 i, .int .i64 d, .int .i64 s, .int .i64 n, .bool t] 58)).alloc (.cells #[.int .i64 0, .int .i64 0, .int .i64 0, .int .i64 0, .int .i64 0, .int .i64 0, .bool false] 75)) := ((Below.refl _ _).alloc (Nat.le_refl _) _).alloc (by simp) _
  rcases hw with ⟨h1, hr⟩ | ⟨h1, h2, hr⟩ | ⟨h1, h2, hr⟩
  · rw [h1] at HG
    try unfold isHouse at h2
    go_enter Try.func52, Try.ntmps52
    go_upto_region 1 with fail
    generalize (w.alloc (.cells #[.int .i64 v, .int .i64 m, .int .i64 i, .int .i64 d, .int .i64 s, .int .i64 n, .bool t] 58)).alloc (.cells #[.int .i64 0, .int .i64 0, .int .i64 0, .int .i64 0, .int .i64 0, .int .i64 0, .bool false] 75) = w0 at *
    have hc0 := X0.cell
    go_wp2_with (first | (go_at_call 116; refine (HG.out _).mono ?_; rintro e w1 ⟨rfl, hb1⟩; replace X0 := X0.kept hb1; replace X1 := X1.kept hb1; have HB1 := HB0.trans (hb1.mono HB0.size); have hc1 := X0.cell; have hd1 := X1.cell; have hf1 := X1.frozen; clear hb1 hc0) | (go_at_call 122; refine (specIs_any _ _ _ _).mono ?_; rintro e w' ⟨rfl, rfl⟩))
    have HY := Lib.hid (And.intro (X1.fill7 (.int .i64 0) (.int .i64 0) (.int .i64 0) (.int .i64 0) (.int .i64 0) (.int .i64 0) (.bool false)) (below7 (q := w.heap.size + 1) HB1 (by omega) (.int .i64 0) (.int .i64 0) (.int .i64 0) (.int .i64 0) (.int .i64 0) (.int .i64 0) (.bool false)))
    generalize (((((((w1.setCell ⟨w.heap.size + 1, 0, none⟩ (.int .i64 0)).setCell ⟨w.heap.size + 1, 1, none⟩ (.int .i64 0)).setCell ⟨w.heap.size + 1, 2, none⟩ (.int .i64 0)).setCell ⟨w.heap.size + 1, 3, none⟩ (.int .i64 0)).setCell ⟨w.heap.size + 1, 4, none⟩ (.int .i64 0)).setCell ⟨w.heap.size + 1, 5, none⟩ (.int .i64 0)).setCell ⟨w.heap.size + 1, 6, none⟩ (.bool false)) = w9 at *
    have hc9 := HY.out.1.cell
    refine bodyPost_ret (v := .agg #[.int .i64 0, .int .i64 0, .int .i64 0, .int .i64 0, .int .i64 0, .int .i64 0, .bool false]) (by simp [results, Try.results52, go_sem, hc9]) rfl ⟨by rw [hr.out], HY.out.2⟩
  · rw [h1] at HG
    try unfold isHouse at h2
    go_enter Try.func52, Try.ntmps52
    go_upto_region 1 with fail
    generalize (w.alloc (.cells #[.int .i64 v, .int .i64 m, .int .i64 i, .int .i64 d, .int .i64 s, .int .i64 n, .bool t] 58)).alloc (.cells #[.int .i64 0, .int .i64 0, .int .i64 0, .int .i64 0, .int .i64 0, .int .i64 0, .bool false] 75) = w0 at *
    have hc0 := X0.cell
    go_wp2_with (first | (go_at_call 116; refine (HG.out _).mono ?_; rintro e w1 ⟨rfl, hb1⟩; replace X0 := X0.kept hb1; replace X1 := X1.kept hb1; have HB1 := HB0.trans (hb1.mono HB0.size); have hc1 := X0.cell; have hd1 := X1.cell; have hf1 := X1.frozen; clear hb1 hc0) | (go_at_call 122; refine (specIs_any _ _ _ _).mono ?_; rintro e w' ⟨rfl, rfl⟩))
    have HY := Lib.hid (And.intro (X1.fill7 (.int .i64 0) (.int .i64 0) (.int .i64 0) (.int .i64 0) (.int .i64 0) (.int .i64 0) (.bool false)) (below7 (q := w.heap.size + 1) HB1 (by omega) (.int .i64 0) (.int .i64 0) (.int .i64 0) (.int .i64 0) (.int .i64 0) (.int .i64 0) (.bool false)))
    generalize (((((((w1.setCell ⟨w.heap.size + 1, 0, none⟩ (.int .i64 0)).setCell ⟨w.heap.size + 1, 1, none⟩ (.int .i64 0)).setCell ⟨w.heap.size + 1, 2, none⟩ (.int .i64 0)).setCell ⟨w.heap.size + 1, 3, none⟩ (.int .i64 0)).setCell ⟨w.heap.size + 1, 4, none⟩ (.int .i64 0)).setCell ⟨w.heap.size + 1, 5, none⟩ (.int .i64 0)).setCell ⟨w.heap.size + 1, 6, none⟩ (.bool false)) = w9 at *
    have hc9 := HY.out.1.cell
    refine bodyPost_ret (v := .agg #[.int .i64 0, .int .i64 0, .int .i64 0, .int .i64 0, .int .i64 0, .int .i64 0, .bool false]) (by simp [results, Try.results52, go_sem, hc9]) rfl ⟨by rw [hr.out], HY.out.2⟩
  · rw [h1] at HG
    try unfold isHouse at h2
    go_enter Try.func52, Try.ntmps52
    go_upto_region 1 with fail
    generalize (w.alloc (.cells #[.int .i64 v, .int .i64 m, .int .i64 i, .int .i64 d, .int .i64 s, .int .i64 n, .bool t] 58)).alloc (.cells #[.int .i64 0, .int .i64 0, .int .i64 0, .int .i64 0, .int .i64 0, .int .i64 0, .bool false] 75) = w0 at *
    have hc0 := X0.cell
    go_wp2_with (first | (go_at_call 116; refine (HG.out _).mono ?_; rintro e w1 ⟨rfl, hb1⟩; replace X0 := X0.kept hb1; replace X1 := X1.kept hb1; have HB1 := HB0.trans (hb1.mono HB0.size); have hc1 := X0.cell; have hd1 := X1.cell; have hf1 := X1.frozen; clear hb1 hc0) | (go_at_call 122; refine (specIs_any _ _ _ _).mono ?_; rintro e w' ⟨rfl, rfl⟩))
    refine (HI.out _).mono ?_
    rintro e w2 ⟨rfl, hb2⟩
    have X2 := X1.kept hb2
    have HB2 := HB1.trans (hb2.mono HB1.size)
    have hd2 := X2.cell
    have hf2 := X2.frozen
    clear hb2 hd1 hf1 hc1
    go_wp2_with fail
    have HY := Lib.hid (And.intro (X2.fill7 (.int .i64 2) (.int .i64 v) (.int .i64 m) (.int .i64 i) (.int .i64 o) (.int .i64 s) (.bool t)) (below7 (q := w.heap.size + 1) HB2 (by omega) (.int .i64 2) (.int .i64 v) (.int .i64 m) (.int .i64 i) (.int .i64 o) (.int .i64 s) (.bool t)))
    generalize (((((((w2.setCell ⟨w.heap.size + 1, 0, none⟩ (.int .i64 2)).setCell ⟨w.heap.size + 1, 1, none⟩ (.int .i64 v)).setCell ⟨w.heap.size + 1, 2, none⟩ (.int .i64 m)).setCell ⟨w.heap.size + 1, 3, none⟩ (.int .i64 i)).setCell ⟨w.heap.size + 1, 4, none⟩ (.int .i64 o)).setCell ⟨w.heap.size + 1, 5, none⟩ (.int .i64 s)).setCell ⟨w.heap.size + 1, 6, none⟩ (.bool t)) = w9 at *
    have hc9 := HY.out.1.cell
    refine bodyPost_ret (v := .agg #[.int .i64 2, .int .i64 v, .int .i64 m, .int .i64 i, .int .i64 o, .int .i64 s, .bool t]) (by simp [results, Try.results52, go_sem, hc9]) rfl ⟨by rw [hr.out], HY.out.2⟩
set_option maxRecDepth 100000 in
set_option maxHeartbeats 2000000 in
theorem implRouteOf_any (g : Gu) (o : Int) (w : World) : Calls Try.prog 51 #[g.val, .int .i64 o] w fun e w' => e = .returned (roG g o).val ∧ Below w.heap.size w w' := by
  have HG := Lib.hid (implGuest_any g)
  have hw := ro_way g o
  obtain ⟨v, m, i, d, s, n, t⟩ := g
  unfold Gu.val at *
  unfold Rt.val rtV at *
  dsimp only at *
  have X0 := Blk.new w 58 #[.int .i64 v, .int .i64 m, .int .i64 i, .int .i64 d, .int .i64 s, .int .i64 n, .bool t]
  have X1 := Blk.new (w.alloc (.cells #[.int .i64 v, .int .i64 m, .int .i64 i, .int .i64 d, .int .i64 s, .int .i64 n, .bool t] 58)) 75 #[.int .i64 0, .int .i64 0, .int .i64 0, .int .i64 0, .int .i64 0, .int .i64 0, .bool false]
  rw [World.size_alloc] at X1
  replace X0 := X0.alloc (.cells #[.int .i64 0, .int .i64 0, .int .i64 0, .int .i64 0, .int .i64 0, .int .i64 0, .bool false] 75)
  have HB0 : Below w.heap.size w ((w.alloc (.cells #[.int .i64 v, .int .i64 m, .int .i64 i, .int .i64 d, .int .i64 s, .int .i64 n, .bool t] 58)).alloc (.cells #[.int .i64 0, .int .i64 0, .int .i64 0, .int .i64 0, .int .i64 0, .int .i64 0, .bool false] 75)) := ((Below.refl _ _).alloc (Nat.le_refl _) _).alloc (by simp) _
  rcases hw with ⟨h1, hr⟩ | ⟨h1, h2, hr⟩ | ⟨h1, h2, hr⟩
  · rw [h1] at HG
    go_enter Try.func51, Try.ntmps51
    go_upto_region 1 with fail
    generalize (w.alloc (.cells #[.int .i64 v, .int .i64 m, .int .i64 i, .int .i64 d, .int .i64 s, .int .i64 n, .bool t] 58)).alloc (.cells #[.int .i64 0, .int .i64 0, .int .i64 0, .int .i64 0, .int .i64 0, .int .i64 0, .bool false] 75) = w0 at *
    have hc0 := X0.cell
    go_wp2_with (first | (go_at_call 108; refine (HG.out _).mono ?_; rintro e w1 ⟨rfl, hb1⟩; replace X0 := X0.kept hb1; replace X1 := X1.kept hb1; have HB1 := HB0.trans (hb1.mono HB0.size); have hc1 := X0.cell; have hd1 := X1.cell; have hf1 := X1.frozen; clear hb1 hc0) | (go_at_call 121; refine (implHouse_any _ _).mono ?_; rintro e w' ⟨rfl, rfl⟩))
    have HY := Lib.hid (And.intro (X1.fill7 (.int .i64 0) (.int .i64 0) (.int .i64 0) (.int .i64 0) (.int .i64 0) (.int .i64 0) (.bool false)) (below7 (q := w.heap.size + 1) HB1 (by omega) (.int .i64 0) (.int .i64 0) (.int .i64 0) (.int .i64 0) (.int .i64 0) (.int .i64 0) (.bool false)))
    generalize (((((((w1.setCell ⟨w.heap.size + 1, 0, none⟩ (.int .i64 0)).setCell ⟨w.heap.size + 1, 1, none⟩ (.int .i64 0)).setCell ⟨w.heap.size + 1, 2, none⟩ (.int .i64 0)).setCell ⟨w.heap.size + 1, 3, none⟩ (.int .i64 0)).setCell ⟨w.heap.size + 1, 4, none⟩ (.int .i64 0)).setCell ⟨w.heap.size + 1, 5, none⟩ (.int .i64 0)).setCell ⟨w.heap.size + 1, 6, none⟩ (.bool false)) = w9 at *
    have hc9 := HY.out.1.cell
    refine bodyPost_ret (v := .agg #[.int .i64 0, .int .i64 0, .int .i64 0, .int .i64 0, .int .i64 0, .int .i64 0, .bool false]) (by simp [results, Try.results51, go_sem, hc9]) rfl ⟨by rw [hr.out], HY.out.2⟩
  · rw [h1] at HG
    go_enter Try.func51, Try.ntmps51
    go_upto_region 1 with fail
    generalize (w.alloc (.cells #[.int .i64 v, .int .i64 m, .int .i64 i, .int .i64 d, .int .i64 s, .int .i64 n, .bool t] 58)).alloc (.cells #[.int .i64 0, .int .i64 0, .int .i64 0, .int .i64 0, .int .i64 0, .int .i64 0, .bool false] 75) = w0 at *
    have hc0 := X0.cell
    go_wp2_with (first | (go_at_call 108; refine (HG.out _).mono ?_; rintro e w1 ⟨rfl, hb1⟩; replace X0 := X0.kept hb1; replace X1 := X1.kept hb1; have HB1 := HB0.trans (hb1.mono HB0.size); have hc1 := X0.cell; have hd1 := X1.cell; have hf1 := X1.frozen; clear hb1 hc0) | (go_at_call 121; refine (implHouse_any _ _).mono ?_; rintro e w' ⟨rfl, rfl⟩))
    have HY := Lib.hid (And.intro (X1.fill7 (.int .i64 0) (.int .i64 0) (.int .i64 0) (.int .i64 0) (.int .i64 0) (.int .i64 0) (.bool false)) (below7 (q := w.heap.size + 1) HB1 (by omega) (.int .i64 0) (.int .i64 0) (.int .i64 0) (.int .i64 0) (.int .i64 0) (.int .i64 0) (.bool false)))
    generalize (((((((w1.setCell ⟨w.heap.size + 1, 0, none⟩ (.int .i64 0)).setCell ⟨w.heap.size + 1, 1, none⟩ (.int .i64 0)).setCell ⟨w.heap.size + 1, 2, none⟩ (.int .i64 0)).setCell ⟨w.heap.size + 1, 3, none⟩ (.int .i64 0)).setCell ⟨w.heap.size + 1, 4, none⟩ (.int .i64 0)).setCell ⟨w.heap.size + 1, 5, none⟩ (.int .i64 0)).setCell ⟨w.heap.size + 1, 6, none⟩ (.bool false)) = w9 at *
    have hc9 := HY.out.1.cell
    refine bodyPost_ret (v := .agg #[.int .i64 0, .int .i64 0, .int .i64 0, .int .i64 0, .int .i64 0, .int .i64 0, .bool false]) (by simp [results, Try.results51, go_sem, hc9]) rfl ⟨by rw [hr.out], HY.out.2⟩
  · rw [h1] at HG
    go_enter Try.func51, Try.ntmps51
    go_upto_region 1 with fail
    generalize (w.alloc (.cells #[.int .i64 v, .int .i64 m, .int .i64 i, .int .i64 d, .int .i64 s, .int .i64 n, .bool t] 58)).alloc (.cells #[.int .i64 0, .int .i64 0, .int .i64 0, .int .i64 0, .int .i64 0, .int .i64 0, .bool false] 75) = w0 at *
    have hc0 := X0.cell
    go_wp2_with (first | (go_at_call 108; refine (HG.out _).mono ?_; rintro e w1 ⟨rfl, hb1⟩; replace X0 := X0.kept hb1; replace X1 := X1.kept hb1; have HB1 := HB0.trans (hb1.mono HB0.size); have hc1 := X0.cell; have hd1 := X1.cell; have hf1 := X1.frozen; clear hb1 hc0) | (go_at_call 121; refine (implHouse_any _ _).mono ?_; rintro e w' ⟨rfl, rfl⟩))
    have HY := Lib.hid (And.intro (X1.fill7 (.int .i64 2) (.int .i64 v) (.int .i64 m) (.int .i64 i) (.int .i64 o) (.int .i64 s) (.bool t)) (below7 (q := w.heap.size + 1) HB1 (by omega) (.int .i64 2) (.int .i64 v) (.int .i64 m) (.int .i64 i) (.int .i64 o) (.int .i64 s) (.bool t)))
    generalize (((((((w1.setCell ⟨w.heap.size + 1, 0, none⟩ (.int .i64 2)).setCell ⟨w.heap.size + 1, 1, none⟩ (.int .i64 v)).setCell ⟨w.heap.size + 1, 2, none⟩ (.int .i64 m)).setCell ⟨w.heap.size + 1, 3, none⟩ (.int .i64 i)).setCell ⟨w.heap.size + 1, 4, none⟩ (.int .i64 o)).setCell ⟨w.heap.size + 1, 5, none⟩ (.int .i64 s)).setCell ⟨w.heap.size + 1, 6, none⟩ (.bool t)) = w9 at *
    have hc9 := HY.out.1.cell
    refine bodyPost_ret (v := .agg #[.int .i64 2, .int .i64 v, .int .i64 m, .int .i64 i, .int .i64 o, .int .i64 s, .bool t]) (by simp [results, Try.results51, go_sem, hc9]) rfl ⟨by rw [hr.out], HY.out.2⟩
end Go.Proofs.Ythilmonokhdjmaa
