/- BestOf, of the program, whole. -/
import Derived.Test.YthhodnkcaefnnaaRtW
import Derived.Deep.CutRange
namespace Go.Proofs.Ythhodnkcaefnnaa
open Go.RowKit

set_option maxHeartbeats 4000000 in
theorem implBestOf_any (rs : List Rt) (v m : Int) (val : Value) (w : World) (h : RtsAt w val rs) (hn : rs.length ≤ 1048576) :
    Calls Try.prog 21 #[val, .int .i64 v, .int .i64 m] w fun e w' => e = .returned (bestS v m rs).val ∧ Below w.heap.size w w' := by
  obtain ⟨i0, hi0, hz0, hz1, hz2⟩ := info_parts info_rt'
  have hmf : ∀ (fn : Fn) (first cap : Array Value) (w : World), (Instr.makeFunc fn first cap).run Try.prog w = .ok (.func fn first cap) w := fun _ _ _ _ => rfl
  have HH := Lib.hid h
  obtain ⟨a, cap, rfl, h⟩ := h
  clear h
  rw [List.length_map] at *
  obtain ⟨n, hnn⟩ : ∃ n, n = rs.length := ⟨_, rfl⟩
  have HN := Lib.hid hnn
  rw [← hnn] at hn HH ⊢
  by_cases h4 : 400 < n
  · have HR : Hid (bestS v m rs = Rt.zero) := Lib.hid (by rw [bestS, if_pos (by rw [← hnn]; exact h4)])
    have hi4 : (400 : Int) < n := by omega
    clear hnn
    go_enter Try.func21, Try.ntmps21
    go_wp2_with fail
    refine bodyPost_ret (v := Rt.zero.val) (by simp [results, Try.results21, go_sem, Rt.val, rtV, Rt.zero]) rfl ⟨by rw [HR.out], ?_⟩
    go_grown
  have HR : Hid (bestS v m rs = (mx (upTo rs v m 4)).getD Rt.zero) := Lib.hid (by rw [bestS, if_neg (by rw [← hnn]; exact h4), upTo_four, bestL_houses])
  have hi4 : ¬ (400 : Int) < n := by omega
  have hn4 : rs.length ≤ 400 := by omega
  have HL4 : Hid (∀ i, i ≤ 4 → (upTo rs v m i).length ≤ 1600) := Lib.hid fun i hi => by
    have := upTo_len rs v m i
    have : i * rs.length ≤ 4 * 400 := Nat.mul_le_mul hi hn4
    omega
  have HG4 : Hid (∀ k, (grp rs k).length ≤ 400) := Lib.hid fun k => Nat.le_trans (grp_len rs k) hn4
  have HN4 := Lib.hid hn4
  clear hnn hn4
  go_enter Try.func21, Try.ntmps21
  go_upto_region 4 with fail
  obtain ⟨W0, hW⟩ : ∃ W, W = (w.alloc (.cells #[.int .i64 0, .int .i64 0, .int .i64 0, .int .i64 0, .int .i64 0, .int .i64 0, .bool false] 25)).alloc (.cells #[.int .i64 v, .int .i64 m] 46) := ⟨_, rfl⟩
  rw [← hW]
  have O : Blk W0 w.heap.size 25 #[.int .i64 0, .int .i64 0, .int .i64 0, .int .i64 0, .int .i64 0, .int .i64 0, .bool false] := by subst hW; exact (Blk.new _ _ _).alloc _
  have G : Blk W0 (w.heap.size + 1) 46 #[.int .i64 v, .int .i64 m] := by
    subst hW
    have := Blk.new (w.alloc (.cells #[.int .i64 0, .int .i64 0, .int .i64 0, .int .i64 0, .int .i64 0, .int .i64 0, .bool false] 25)) 46 #[.int .i64 v, .int .i64 m]
    simpa using this
  have HB0 : Hid (Below w.heap.size w W0) := Lib.hid (by subst hW; exact ((Below.refl _ _).alloc (Nat.le_refl _) _).alloc (by simp) _)
  have HK := Lib.hid (byKeys_any rs _ W0 (HH.out.kept (by subst hW; exact ((Below.refl _ _).alloc (Nat.le_refl _) _).alloc (by simp) _)) HN4.out)
  clear hW
  go_wp2_with fail
  refine HK.out.mono ?_
  rintro e w1 ⟨rfl, ⟨X, hM⟩, hb1⟩
  obtain ⟨M, hMM⟩ : ∃ M, M = W0.heap.size := ⟨_, rfl⟩
  rw [← hMM] at hM
  rw [← hMM]
  have HM := Lib.hid hM
  replace O := Lib.hid (O.kept hb1)
  replace G := Lib.hid (G.kept hb1)
  replace HB0 : Hid (Below w.heap.size w w1) := Lib.hid (HB0.out.trans (hb1.mono HB0.out.size))
  clear hM hb1 hMM HK
  go_wp2_with fail
  go_loopw [20, 9] (fun u f wr => ∃ i : Nat, i ≤ 4 ∧ u = .int .i64 (i : Int) ∧ Hid (wr.ownsRow w1.heap.size 25 7 f (upTo rs v m i).length (cellsL (upTo rs v m i))) ∧ Hid (Below w1.heap.size w1 wr)) (fun u _ _ => 4 - (intOf u).toNat)
  case atStart => exact ⟨0, by omega, rfl, Lib.hid (World.ownsRow_nil _ _ _ _), Lib.hid (Below.refl _ _)⟩
  case round =>
    obtain ⟨i, hi, rfl, HO, HB⟩ := hrel
    have cG := (G.out.kept HB.out).cell
    by_cases hlt : i < 4
    · have hl1 : (i : Int) < 4 := by omega
      have HKA := Lib.hid (keyAt_any v m ((i : Int) + 1))
      unfold gnV at HKA
      go_wp2_with fail
      refine (HKA.out _).mono ?_
      rintro e w2 ⟨rfl, hb2⟩
      obtain ⟨ao, c, hlk, hnone, hcl⟩ := ((HM.out.kept HB.out).kept hb2).look (keyOfG v m ((i : Int) + 1))
      have HO2 : Hid (w2.ownsRow w1.heap.size 25 7 _ (upTo rs v m i).length (cellsL (upTo rs v m i))) := Lib.hid (HO.out.kept (row := none) (below_grown' hb2) (by cases Value.ownBlock _ <;> simp))
      replace HB : Hid (Below w1.heap.size w1 w2) := Lib.hid (HB.out.trans (hb2.mono HB.out.size))
      have HNo := Lib.hid hnone
      have HCl := Lib.hid hcl
      have hg4 := HG4.out (keyOfG v m ((i : Int) + 1))
      have hu4 := HL4.out i hi
      have HUP : Hid (upTo rs v m (i + 1) = upTo rs v m i ++ grp rs (keyOfG v m ((i : Int) + 1))) := Lib.hid rfl
      have hcl7 : (cellsL (grp rs (keyOfG v m ((i : Int) + 1)))).length = (grp rs (keyOfG v m ((i : Int) + 1))).length * 7 := cellsL_len _
      have HC7 := Lib.hid hcl7
      clear hnone hcl hb2 HO cG hcl7
      generalize grp rs (keyOfG v m ((i : Int) + 1)) = gl at *
      generalize upTo rs v m i = ul at *
      unfold Rt.val rtV keyOfG at *
      dsimp only at hlk
      go_wp2_with (at_builtin; refine wpList_append_src _ rfl _ _ 35 rfl w1.heap.size 25 i0 _ 7 56 Try.underlying35 hi0 hz0 hz1 hz2 rfl (by decide) _ _ _ rfl HO2.out ao _ c (cellsL gl) rfl HC7.out HNo.out HCl.out (cellsL_one gl) (by unfold maxLen; omega) (by omega) HB.out.size ?_; intro f3 w3 hown3 hg3; have HO3 := Lib.hid hown3; have HB3 : Hid (Below w1.heap.size w1 w3) := Lib.hid (HB.out.grown hg3 HB.out.size (fun k hk => (HO2.out.lt k hk).1)); clear hown3 hg3)
      go_roundw
      case rel => exact ⟨i + 1, by omega, by simp, Lib.hid (by rw [HUP.out, List.length_append, cellsL_app]; exact HO3.out), HB3⟩
      case measure => simp [intOf]; omega
    · have hi4' : i = 4 := by omega
      subst hi4'
      have HF := Lib.hid (fun (W : World) (hb : Below wr.heap.size wr W) => firstBest_any v m (upTo rs v m 4) _ W ((owned_rts HO.out).kept hb) (Nat.le_trans (HL4.out 4 (by omega)) (by omega)) (upTo_has rs v m))
      rw [← HR.out] at HF
      have HOut := Lib.hid (O.out.kept HB.out)
      have HB9 : Hid (Below w.heap.size w wr) := Lib.hid (HB0.out.trans (HB.out.mono HB0.out.size))
      clear HO HB
      go_wp2_with fail
      refine (HF.out _ (Below.refl _ _)).mono ?_
      rintro e w9 ⟨rfl, hb9⟩
      have cO := (HOut.out.kept hb9).cell
      have fO := (HOut.out.kept hb9).frozen
      replace HB9 : Hid (Below w.heap.size w w9) := Lib.hid (HB9.out.trans (hb9.mono HB9.out.size))
      clear hb9 cG HF
      obtain ⟨bb, hbb⟩ : ∃ bb, bb = bestS v m rs := ⟨_, rfl⟩
      rw [← hbb]
      have HBB := Lib.hid hbb
      clear hbb
      unfold Rt.val rtV
      go_wp2_with fail
      refine bodyPost_ret (v := bb.val) (by simp [results, Try.results21, go_sem, Rt.val, rtV, cO]) rfl ⟨by rw [HBB.out], ?_⟩
      have := HB9.out
      go_grown
end Go.Proofs.Ythhodnkcaefnnaa
