/- A law's own slice of routes turned into the program's. -/
import Derived.Test.YthhodnkcaefnnaaRtS
import Derived.OwnWalk
namespace Go.Proofs.Ythhodnkcaefnnaa
open Go.RowKit

theorem info_rt : (Try.prog.info? 25).map (fun i => (i.zero, i.size, i.bytes)) = some (some (.agg #[.int .i64 0, .int .i64 0, .int .i64 0, .int .i64 0, .int .i64 0, .int .i64 0, .bool false]), 7, 56) := by kernel_rfl
theorem made_fills {w w' : World} {n : Nat} {t : TypeId} {rs : List Rt} {z : List Value} (h : w'.ownsRow w.heap.size t 7 (.slice (some ⟨w.heap.size, 0, none⟩) n n) n z) : Filling w' w.heap.size n t rs 0 := by
  obtain ⟨_, ⟨h1, _⟩ | ⟨g, cap, cur, hv, _, hh, _, _, hz, _⟩⟩ := h
  · cases h1
  · injection hv with h1 _ h2
    injection h1 with h1
    injection h1 with h1
    subst h1 h2
    exact ⟨cur, hh, hz, fun k hk => by omega⟩
def RtsPost (rs : List Rt) (w : World) (e : Ending) (w' : World) : Prop := ∃ v, e = .returned v ∧ RtsAt w' v rs ∧ Below w.heap.size w w'
set_option maxHeartbeats 2000000 in
theorem toRouteS_any (rs : List Rt) (v : Value) (w : World) (h : RtsAt w v rs) (hn : rs.length ≤ 1048576) :
    Calls Try.prog 20 #[v] w (RtsPost rs w) := by
  obtain ⟨i0, hi0, hz0, hz1, hz2⟩ := info_parts info_rt
  obtain ⟨a, cap, rfl, h⟩ := h
  rw [List.length_map] at *
  have HH := Lib.hid h
  clear h
  obtain ⟨n, hnn⟩ : ∃ n, n = rs.length := ⟨_, rfl⟩
  rw [← hnn] at hn ⊢
  have HN := Lib.hid hnn
  clear hnn
  go_enter Try.func20, Try.ntmps20
  go_wp2_with (refine wpList_make_full _ rfl _ _ 35 rfl w.heap.size 25 i0 _ 7 Try.underlying35 hi0 hz0 hz1 .i64 .i64 _ _ n rfl rfl rfl rfl (by rw [hz2]; omega) (by unfold maxLen; omega) (Nat.le_refl _) ?_; intro w0 hown hg0; have HF : Hid (Filling w0 w.heap.size n 25 rs 0) := Lib.hid (made_fills hown); have HB0 : Hid (Below w.heap.size w w0) := Lib.hid ((Below.refl _ _).grown hg0 (Nat.le_refl _) (fun k hk => by cases hk)); clear hown hg0)
  go_loopw [4] (fun u wr => ∃ i : Nat, i ≤ n ∧ u = .int .i64 (i : Int) ∧ Hid (Filling wr w.heap.size n 25 rs i) ∧ Hid (Below w.heap.size w wr)) (fun u _ => n - (intOf u).toNat)
  case atStart => exact ⟨0, Nat.zero_le _, rfl, HF, HB0⟩
  case round =>
    obtain ⟨i, hi, rfl, HF, HB⟩ := hrel
    by_cases hlt : i < n
    · have hir : i < rs.length := by rw [← HN.out]; exact hlt
      have hne : rs.map Rt.cl ≠ [] := fun e => by
        have := congrArg List.length e
        rw [List.length_map, ← HN.out] at this
        simp at this; omega
      obtain ⟨b, off, ha, hb, HE⟩ := HH.out hne
      subst ha
      have hl1 : (i : Int) < n := by omega
      have HQ := Lib.hid (toRoute_any (rs[i]).kind (rs[i]).vni (rs[i]).mac (rs[i]).ip (rs[i]).org (rs[i]).seq (rs[i]).st)
      obtain ⟨p0, p1, p2, p3, p4, p5, p6⟩ := (HE.below HB.out hb).rt i hir
      go_wp2_with fail
      unfold rtV at HQ
      refine (HQ.out _).mono ?_
      rintro e w1 ⟨rfl, hb1⟩
      have HF1 := HF.out.kept hb1
      have HB1 : Hid (Below w.heap.size w w1) := Lib.hid (HB.out.trans (hb1.mono HB.out.size))
      obtain ⟨z0, c0⟩ := HF1.cell hlt 0 (by omega)
      obtain ⟨z1, c1⟩ := HF1.cell hlt 1 (by omega)
      obtain ⟨z2, c2⟩ := HF1.cell hlt 2 (by omega)
      obtain ⟨z3, c3⟩ := HF1.cell hlt 3 (by omega)
      obtain ⟨z4, c4⟩ := HF1.cell hlt 4 (by omega)
      obtain ⟨z5, c5⟩ := HF1.cell hlt 5 (by omega)
      obtain ⟨z6, c6⟩ := HF1.cell hlt 6 (by omega)
      rw [Nat.add_zero] at c0
      have fz := HF1.frozen
      have HF2 := Lib.hid (HF1.step hlt hir)
      clear hb1 HF1 p0 p1 p2 p3 p4 p5 p6 HF HB
      go_wp2_with fail
      go_roundw
      case rel =>
        refine ⟨i + 1, by omega, by simp, HF2, Lib.hid ?_⟩
        have := HB1.out
        go_grown
      case measure => simp [intOf]; omega
    · have hin : i = n := by omega
      subst hin
      go_wp2_with fail
      go_ret
      exact ⟨_, rfl, HF.out.done HN.out.symm, HB.out⟩
end Go.Proofs.Ythhodnkcaefnnaa
