/- One held route of a law's own: turned, found equal. -/
import Derived.Test.YtmkoppbbenombaaRbR
namespace Go.Proofs.Ytmkoppbbenombaa
open Go.RowKit

theorem Elems.below1 {W W' : World} {b off sz B : Nat} {vs : List (List Value)} (h : Elems W b off sz vs) (hb : Below B W W') (hl : b < B) : Elems W' b off sz vs :=
  fun i cs hi j u hj => (hb.cell (p := ⟨b, off + i * sz + j, none⟩) hl).trans (h i cs hi j u hj)
theorem toRouteR (r : Rt) (w : World) : Calls Try.prog 21 #[r.val] w fun e w' => e = .returned r.val ∧ Below w.heap.size w w' := toRoute_any _ _ _ _ _ _ _ w
theorem eqRouteR (r : Rt) (w : World) : Calls Try.prog 82 #[r.val, r.val] w fun e w' => e = .returned (.bool true) ∧ Below w.heap.size w w' := eqRoute_same _ _ _ _ _ _ _ w
theorem hd_put9 {W cur : World} {q B : Nat} {t : TypeId} {c0 c1 c2 c3 c4 c5 c6 c7 c8 : Value} (N : Blk cur q t #[c0, c1, c2, c3, c4, c5, c6, c7, c8]) (h : Below B W cur) (hq : B ≤ q) (v0 v1 v2 v3 v4 v5 v6 v7 v8 : Value) :
    Blk (((((((((cur.setCell ⟨q, 0, none⟩ v0).setCell ⟨q, 1, none⟩ v1).setCell ⟨q, 2, none⟩ v2).setCell ⟨q, 3, none⟩ v3).setCell ⟨q, 4, none⟩ v4).setCell ⟨q, 5, none⟩ v5).setCell ⟨q, 6, none⟩ v6).setCell ⟨q, 7, none⟩ v7).setCell ⟨q, 8, none⟩ v8) q t #[v0, v1, v2, v3, v4, v5, v6, v7, v8] ∧
    Below B W (((((((((cur.setCell ⟨q, 0, none⟩ v0).setCell ⟨q, 1, none⟩ v1).setCell ⟨q, 2, none⟩ v2).setCell ⟨q, 3, none⟩ v3).setCell ⟨q, 4, none⟩ v4).setCell ⟨q, 5, none⟩ v5).setCell ⟨q, 6, none⟩ v6).setCell ⟨q, 7, none⟩ v7).setCell ⟨q, 8, none⟩ v8) := by
  have h2 := ((((((((N.set 0 v0).set 1 v1).set 2 v2).set 3 v3).set 4 v4).set 5 v5).set 6 v6).set 7 v7).set 8 v8
  simp only [List.setIfInBounds_toArray, List.set_cons_zero, List.set_cons_succ] at h2
  exact ⟨h2, ((((((((h.setCell hq _).setCell hq _).setCell hq _).setCell hq _).setCell hq _).setCell hq _).setCell hq _).setCell hq _).setCell hq _⟩
set_option maxHeartbeats 2000000 in
theorem toHeld_any (h : Hd) (w : World) : Calls Try.prog 65 #[h.val] w fun e w' => e = .returned h.val ∧ Below w.heap.size w w' := by
  have HT := Lib.hid (toRouteR h.r)
  obtain ⟨p, s, ⟨k, v, m, i, o, q, t⟩⟩ := h
  unfold Rt.val rtV at HT
  unfold Hd.val
  dsimp only at *
  go_enter Try.func65, Try.ntmps65
  go_wp2_with fail
  refine (HT.out _).mono ?_
  rintro e w1 ⟨rfl, hb1⟩
  have XX : Blk w1 (w.heap.size + 1 + 1) 77 #[.int .i64 p, .bool s, .int .i64 0, .int .i64 0, .int .i64 0, .int .i64 0, .int .i64 0, .int .i64 0, .bool false] ∧ Blk w1 (w.heap.size + 1) 77 #[.int .i64 0, .bool false, .int .i64 0, .int .i64 0, .int .i64 0, .int .i64 0, .int .i64 0, .int .i64 0, .bool false] := by
    have hn := Blk.new ((w.alloc (.cells #[.int .i64 p, .bool s, .int .i64 k, .int .i64 v, .int .i64 m, .int .i64 i, .int .i64 o, .int .i64 q, .bool t] 82)).alloc (.cells #[.int .i64 0, .bool false, .int .i64 0, .int .i64 0, .int .i64 0, .int .i64 0, .int .i64 0, .int .i64 0, .bool false] 77)) 77 #[.int .i64 p, .bool s, .int .i64 0, .int .i64 0, .int .i64 0, .int .i64 0, .int .i64 0, .int .i64 0, .bool false]
    rw [World.size_alloc, World.size_alloc] at hn
    have hm := Blk.new (w.alloc (.cells #[.int .i64 p, .bool s, .int .i64 k, .int .i64 v, .int .i64 m, .int .i64 i, .int .i64 o, .int .i64 q, .bool t] 82)) 77 #[.int .i64 0, .bool false, .int .i64 0, .int .i64 0, .int .i64 0, .int .i64 0, .int .i64 0, .int .i64 0, .bool false]
    rw [World.size_alloc] at hm
    exact ⟨hn.kept hb1, (hm.alloc _).kept hb1⟩
  have hc := XX.1.cell
  have hf := XX.1.frozen
  have HB : Hid (Below w.heap.size w w1) := Lib.hid (Below.trans (by go_grown) (hb1.mono (by simp; omega)))
  clear hb1
  go_upto_region 5 with fail
  have Y := XX.1
  replace Y := ((((((Y.set 2 (.int .i64 k)).set 3 (.int .i64 v)).set 4 (.int .i64 m)).set 5 (.int .i64 i)).set 6 (.int .i64 o)).set 7 (.int .i64 q)).set 8 (.bool t)
  have Z := XX.2
  replace Z := ((((((Z.far (b' := w.heap.size + 1 + 1) (i := 2) (v := .int .i64 k) (by omega)).far (b' := w.heap.size + 1 + 1) (i := 3) (v := .int .i64 v) (by omega)).far (b' := w.heap.size + 1 + 1) (i := 4) (v := .int .i64 m) (by omega)).far (b' := w.heap.size + 1 + 1) (i := 5) (v := .int .i64 i) (by omega)).far (b' := w.heap.size + 1 + 1) (i := 6) (v := .int .i64 o) (by omega)).far (b' := w.heap.size + 1 + 1) (i := 7) (v := .int .i64 q) (by omega)).far (b' := w.heap.size + 1 + 1) (i := 8) (v := .bool t) (by omega)
  replace HB := Lib.hid (((((((HB.out.setCell (p := ⟨w.heap.size + 1 + 1, 2, none⟩) (by simp; omega) (.int .i64 k)).setCell (p := ⟨w.heap.size + 1 + 1, 3, none⟩) (by simp; omega) (.int .i64 v)).setCell (p := ⟨w.heap.size + 1 + 1, 4, none⟩) (by simp; omega) (.int .i64 m)).setCell (p := ⟨w.heap.size + 1 + 1, 5, none⟩) (by simp; omega) (.int .i64 i)).setCell (p := ⟨w.heap.size + 1 + 1, 6, none⟩) (by simp; omega) (.int .i64 o)).setCell (p := ⟨w.heap.size + 1 + 1, 7, none⟩) (by simp; omega) (.int .i64 q)).setCell (p := ⟨w.heap.size + 1 + 1, 8, none⟩) (by simp; omega) (.bool t))
  simp only [List.setIfInBounds_toArray, List.set_cons_zero, List.set_cons_succ] at Y
  clear XX hc hf
  generalize ((((((w1.setCell ⟨w.heap.size + 1 + 1, 2, none⟩ (.int .i64 k)).setCell ⟨w.heap.size + 1 + 1, 3, none⟩ (.int .i64 v)).setCell ⟨w.heap.size + 1 + 1, 4, none⟩ (.int .i64 m)).setCell ⟨w.heap.size + 1 + 1, 5, none⟩ (.int .i64 i)).setCell ⟨w.heap.size + 1 + 1, 6, none⟩ (.int .i64 o)).setCell ⟨w.heap.size + 1 + 1, 7, none⟩ (.int .i64 q)).setCell ⟨w.heap.size + 1 + 1, 8, none⟩ (.bool t) = w5 at *
  have hc := Y.cell
  have hd := Z.cell
  have he := Z.frozen
  have HY := Lib.hid (hd_put9 Z HB.out (by omega) (.int .i64 p) (.bool s) (.int .i64 k) (.int .i64 v) (.int .i64 m) (.int .i64 i) (.int .i64 o) (.int .i64 q) (.bool t))
  clear Y Z
  go_wp2_with fail
  generalize ((((((((w5.setCell ⟨w.heap.size + 1, 0, none⟩ (.int .i64 p)).setCell ⟨w.heap.size + 1, 1, none⟩ (.bool s)).setCell ⟨w.heap.size + 1, 2, none⟩ (.int .i64 k)).setCell ⟨w.heap.size + 1, 3, none⟩ (.int .i64 v)).setCell ⟨w.heap.size + 1, 4, none⟩ (.int .i64 m)).setCell ⟨w.heap.size + 1, 5, none⟩ (.int .i64 i)).setCell ⟨w.heap.size + 1, 6, none⟩ (.int .i64 o)).setCell ⟨w.heap.size + 1, 7, none⟩ (.int .i64 q)).setCell ⟨w.heap.size + 1, 8, none⟩ (.bool t) = w6 at *
  have hc6 := HY.out.1.cell
  refine bodyPost_ret (v := .agg #[.int .i64 p, .bool s, .int .i64 k, .int .i64 v, .int .i64 m, .int .i64 i, .int .i64 o, .int .i64 q, .bool t]) (by simp [results, Try.results65, go_sem, hc6]) rfl ⟨rfl, HY.out.2⟩
set_option maxHeartbeats 2000000 in
theorem eqHeld_same (h : Hd) (w : World) : Calls Try.prog 69 #[h.val, h.val] w fun e w' => e = .returned (.bool true) ∧ Below w.heap.size w w' := by
  have HT := Lib.hid (eqRouteR h.r)
  obtain ⟨p, s, ⟨k, v, m, i, o, q, t⟩⟩ := h
  unfold Rt.val rtV at HT
  unfold Hd.val
  dsimp only at *
  go_enter Try.func69, Try.ntmps69
  go_wp2_with fail
  refine (HT.out _).mono ?_
  rintro e w1 ⟨rfl, hb1⟩
  have HB : Hid (Below w.heap.size w w1) := Lib.hid (Below.trans (by go_grown) (hb1.mono (by simp; omega)))
  clear hb1
  go_wp2_with fail
  go_ret
  exact ⟨rfl, HB.out⟩
end Go.Proofs.Ytmkoppbbenombaa
