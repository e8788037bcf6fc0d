/- A law's own copy of a slice of routes: made anew, marked. -/
import Derived.Test.YtfmhccmaeonbhaaB4
import Derived.Test.YtfmhccmaeonbhaaStsM
namespace Go.Proofs.Ytfmhccmaeonbhaa
open Go.RowKit

theorem Filling.own {W : World} {g n B i : Nat} {rs : List Rt} (h : Filling W g n 69 rs i) (hB : B ≤ g) (hn : n ≤ 1048576) : ∃ ys, W.ownsRow B 69 7 (.slice (some ⟨g, 0, none⟩) n n) n ys := by
  obtain ⟨cur, h1, h2, _⟩ := h
  exact ⟨cur.toList, by rw [Array.length_toList, h2], .inr ⟨g, n, cur, rfl, hB, h1, Nat.le_refl _, by unfold maxLen; omega, h2, List.take_of_length_le (by rw [Array.length_toList, h2]; exact Nat.le_refl _)⟩⟩
def RtsOwn (rs : List Rt) (w : World) (e : Ending) (w' : World) : Prop := ∃ v ys, e = .returned v ∧ RtsAt w' v rs ∧ w'.ownsRow w.heap.size 69 7 v rs.length ys ∧ Below w.heap.size w w'
set_option maxHeartbeats 2000000 in
theorem toRouteS_own (rs : List Rt) (v : Value) (w : World) (h : RtsAt w v rs) (hn : rs.length ≤ 1048576) :
    Calls Try.prog 44 #[v] w (RtsOwn rs w) := by
  obtain ⟨i0, hi0, hz0, hz1, hz2⟩ := info_parts info_rt
  obtain ⟨a, cap, rfl, h⟩ := h
  rw [List.length_map] at *
  have HH := Lib.hid h
  clear h
  obtain ⟨n, hnn⟩ : ∃ n, n = rs.length := ⟨_, rfl⟩
  rw [← hnn] at hn ⊢
  have HN := Lib.hid hnn
  clear hnn
  go_enter Try.func44, Try.ntmps44
  go_wp2_with (refine wpList_make_full _ rfl _ _ 59 rfl w.heap.size 69 i0 _ 7 Try.underlying59 hi0 hz0 hz1 .i64 .i64 _ _ n rfl rfl rfl rfl (by rw [hz2]; omega) (by unfold maxLen; omega) (Nat.le_refl _) ?_; intro w0 hown hg0; have HF : Hid (Filling w0 w.heap.size n 69 rs 0) := Lib.hid (made_fills hown); have HB0 : Hid (Below w.heap.size w w0) := Lib.hid ((Below.refl _ _).grown hg0 (Nat.le_refl _) (fun k hk => by cases hk)); clear hown hg0)
  go_loopw [4] (fun u wr => ∃ i : Nat, i ≤ n ∧ u = .int .i64 (i : Int) ∧ Hid (Filling wr w.heap.size n 69 rs i) ∧ Hid (Below w.heap.size w wr)) (fun u _ => n - (intOf u).toNat)
  case atStart => exact ⟨0, Nat.zero_le _, rfl, HF, HB0⟩
  case round =>
    obtain ⟨i, hi, rfl, HF, HB⟩ := hrel
    by_cases hlt : i < n
    · have hir : i < rs.length := by rw [← HN.out]; exact hlt
      have hne : rs.map Rt.cl ≠ [] := fun e => by
        have := congrArg List.length e
        rw [List.length_map, ← HN.out] at this
        simp at this; omega
      obtain ⟨b, off, ha, hb, HE⟩ := HH.out hne
      subst ha
      have hl1 : (i : Int) < n := by omega
      have HQ := Lib.hid (toRoute_any (rs[i]).kind (rs[i]).vni (rs[i]).mac (rs[i]).ip (rs[i]).org (rs[i]).seq (rs[i]).st)
      obtain ⟨p0, p1, p2, p3, p4, p5, p6⟩ := (HE.below HB.out hb).rt i hir
      go_wp2_with fail
      unfold rtV at HQ
      refine (HQ.out _).mono ?_
      rintro e w1 ⟨rfl, hb1⟩
      have HF1 := HF.out.kept hb1
      have HB1 : Hid (Below w.heap.size w w1) := Lib.hid (HB.out.trans (hb1.mono HB.out.size))
      obtain ⟨z0, c0⟩ := HF1.cell hlt 0 (by omega)
      obtain ⟨z1, c1⟩ := HF1.cell hlt 1 (by omega)
      obtain ⟨z2, c2⟩ := HF1.cell hlt 2 (by omega)
      obtain ⟨z3, c3⟩ := HF1.cell hlt 3 (by omega)
      obtain ⟨z4, c4⟩ := HF1.cell hlt 4 (by omega)
      obtain ⟨z5, c5⟩ := HF1.cell hlt 5 (by omega)
      obtain ⟨z6, c6⟩ := HF1.cell hlt 6 (by omega)
      rw [Nat.add_zero] at c0
      have fz := HF1.frozen
      have HF2 := Lib.hid (HF1.step hlt hir)
      clear hb1 HF1 p0 p1 p2 p3 p4 p5 p6 HF HB
      go_wp2_with fail
      go_roundw
      case rel =>
        refine ⟨i + 1, by omega, by simp, HF2, Lib.hid ?_⟩
        have := HB1.out
        go_grown
      case measure => simp [intOf]; omega
    · have hin : i = n := by omega
      subst hin
      go_wp2_with fail
      go_ret
      obtain ⟨ys, hys⟩ := HF.out.own (Nat.le_refl _) hn
      refine ⟨_, ys, rfl, HF.out.done HN.out.symm, ?_, HB.out⟩
      rw [← HN.out]
      exact hys
/- marks set into it: what it then holds is of no matter -/
def RowAny (W : World) (B g cap n : Nat) : Prop := ∃ xs, W.ownsRow B 69 7 (.slice (some ⟨g, 0, none⟩) n cap) n xs
theorem RowAny.step {W : World} {B g cap n : Nat} (h : RowAny W B g cap n) (j : Nat) (u : Value) : RowAny (W.setCell ⟨g, j, none⟩ u) B g cap n := by
  obtain ⟨xs, h⟩ := h
  exact ⟨_, (h.stored j u).1⟩
theorem RowAny.cell {W : World} {B g cap n : Nat} (h : RowAny W B g cap n) (j : Nat) (hj : j < n * 7) : ∃ z, W.cell? ⟨g, j, none⟩ = some z := by
  obtain ⟨xs, h⟩ := h
  refine ⟨xs[j]'(by rw [h.1]; exact hj), ?_⟩
  rw [h.cellAt j hj, List.getElem?_eq_getElem (by rw [h.1]; exact hj)]
theorem RowAny.frozen {W : World} {B g cap n : Nat} (h : RowAny W B g cap n) (j : Nat) : W.frozen? ⟨g, j, none⟩ = false := by
  obtain ⟨xs, h⟩ := h
  exact h.frozenAt j
theorem grown_set {a b : World} {g j : Nat} {u : Value} (h : a.grownBy b (some g)) : a.grownBy (b.setCell ⟨g, j, none⟩ u) (some g) :=
  ⟨h.os, h.tape, h.output, by simpa using h.size, fun k hk hr => (Below.heap_setCell b _ _ k (fun e => hr (by rw [e]))).trans (h.block k hk hr)⟩
set_option maxHeartbeats 2000000 in
theorem markRouteS_any (B : Nat) (v : Value) (k n : Nat) (xs : List Value) (w : World) (h : w.ownsRow B 69 7 v n xs) (h0 : 0 < k) (hk : k + 7 * n ≤ 1000000000) :
    Calls Try.prog 48 #[v, .int .i64 (k : Int)] w fun e w' => e = .returned (.int .i64 ((k + 7 * n : Nat) : Int)) ∧ w.grownBy w' v.ownBlock := by
  have HO := h
  obtain ⟨hl, ⟨rfl, rfl⟩ | ⟨g, cap, cur, rfl, hb, hh, hn, hm, hz, ht⟩⟩ := h
  · clear HO
    go_enter Try.func48, Try.ntmps48
    go_wp2_with fail
    go_loopw [1, 5] (fun x u wr => x = .int .i64 (k : Int) ∧ u = .int .i64 0 ∧ Hid (wr = w)) (fun _ _ _ => 0)
    case atStart => exact ⟨rfl, rfl, Lib.hid rfl⟩
    case round =>
      obtain ⟨rfl, rfl, HW⟩ := hrel
      have hw := HW.out
      clear HW
      subst hw
      go_wp2_with fail
      go_ret
      exact ⟨rfl, World.grownBy.refl _ _⟩
  · have HF : Hid (RowAny w B g cap n) := Lib.hid ⟨xs, HO⟩
    clear HO hl hh hz ht hm hb
    go_enter Try.func48, Try.ntmps48
    go_wp2_with fail
    go_loopw [1, 5] (fun x u wr => ∃ i : Nat, i ≤ n ∧ u = .int .i64 (i : Int) ∧ x = .int .i64 ((k : Int) + 7 * (i : Int)) ∧ Hid (RowAny wr B g cap n) ∧ Hid (w.grownBy wr (some g))) (fun _ u _ => n - (intOf u).toNat)
    case atStart => exact ⟨0, Nat.zero_le _, rfl, by simp, HF, Lib.hid (World.grownBy.refl _ _)⟩
    case round =>
      obtain ⟨i, hi, rfl, rfl, HF, HG⟩ := hrel
      by_cases hlt : i < n
      · have hl1 : (i : Int) < n := by omega
        obtain ⟨z0, c0⟩ := HF.out.cell (i * 7) (by omega)
        obtain ⟨z1, c1⟩ := HF.out.cell (i * 7 + 1) (by omega)
        obtain ⟨z2, c2⟩ := HF.out.cell (i * 7 + 2) (by omega)
        obtain ⟨z3, c3⟩ := HF.out.cell (i * 7 + 3) (by omega)
        obtain ⟨z4, c4⟩ := HF.out.cell (i * 7 + 4) (by omega)
        obtain ⟨z5, c5⟩ := HF.out.cell (i * 7 + 5) (by omega)
        obtain ⟨z6, c6⟩ := HF.out.cell (i * 7 + 6) (by omega)
        have fz := HF.out.frozen
        go_wp2_with fail
        go_roundw
        case rel => exact ⟨i + 1, by omega, by simp, by simp; omega, Lib.hid (((((((HF.out.step _ _).step _ _).step _ _).step _ _).step _ _).step _ _).step _ _), Lib.hid (grown_set (grown_set (grown_set (grown_set (grown_set (grown_set (grown_set HG.out)))))))⟩
        case measure => simp [intOf]; omega
      · have hin : i = n := by omega
        subst hin
        go_wp2_with fail
        go_ret
        exact ⟨by simp, HG.out⟩
end Go.Proofs.Ytfmhccmaeonbhaa
