/- firstBest, of the program. -/
import Derived.Test.YthhodnkcaefnnaaRtO
import Derived.Test.YthhodnkcaefnnaaRtD
namespace Go.Proofs.Ythhodnkcaefnnaa
open Go.RowKit

theorem mx_take (l : List Rt) (i : Nat) (h : i < l.length) : mx (l.take (i + 1)) = mxStep (mx (l.take i)) l[i] := by
  rw [List.take_succ_eq_append_getElem h, mx_snoc]
theorem mx_some (l : List Rt) (h : l ≠ []) : ∃ b, mx l = some b := by
  rcases List.eq_nil_or_concat l with rfl | ⟨l', x, rfl⟩
  · exact absurd rfl h
  · rw [List.concat_eq_append, mx_snoc]
    unfold mxStep; split
    · exact ⟨_, rfl⟩
    · split <;> exact ⟨_, rfl⟩
theorem mx_mem (l : List Rt) (b : Rt) (h : mx l = some b) : b ∈ l := by rw [mx_find] at h; exact List.mem_of_find?_eq_some h
set_option maxHeartbeats 4000000 in
theorem firstBest_any (v m : Int) (rs : List Rt) (val : Value) (w : World) (h : RtsAt w val rs) (hn : rs.length ≤ 1048576) (hall : ∀ r ∈ rs, hasR v m r = true) :
    Calls Try.prog 42 #[val, .func (.func 39) #[.agg #[.int .i64 v, .int .i64 m]] #[]] w fun e w' => e = .returned ((mx rs).getD Rt.zero).val ∧ Below w.heap.size w w' := by
  obtain ⟨a, cap, rfl, h⟩ := h
  rw [List.length_map] at *
  have HH := Lib.hid h
  clear h
  have HAll := Lib.hid hall
  clear hall
  obtain ⟨n, hnn⟩ : ∃ n, n = rs.length := ⟨_, rfl⟩
  rw [← hnn] at hn ⊢
  have HN := Lib.hid hnn
  clear hnn
  have HI : Hid (SbIn w ((w.alloc (.cells #[.int .i64 0, .int .i64 0, .int .i64 0, .int .i64 0, .int .i64 0, .int .i64 0, .bool false] 25)).alloc (.cells #[.int .i64 0, .int .i64 0, .int .i64 0, .int .i64 0, .int .i64 0, .int .i64 0, .bool false] 25)) Rt.zero) := Lib.hid
    ⟨(Blk.new _ _ _).alloc _, by have := Blk.new (w.alloc (.cells #[.int .i64 0, .int .i64 0, .int .i64 0, .int .i64 0, .int .i64 0, .int .i64 0, .bool false] 25)) 25 #[.int .i64 0, .int .i64 0, .int .i64 0, .int .i64 0, .int .i64 0, .int .i64 0, .bool false]; simpa [Rt.zero] using this, ((Below.refl _ _).alloc (Nat.le_refl _) _).alloc (by simp) _⟩
  go_enter Try.func42, Try.ntmps42
  go_wp2_with fail
  go_loopw [10] (fun u wr => ∃ (i : Nat) (b : Rt), i ≤ n ∧ u = .int .i64 (i : Int) ∧ Hid (b = (mx (rs.take i)).getD Rt.zero) ∧ Hid (SbIn w wr b)) (fun u _ => n - (intOf u).toNat)
  case atStart => exact ⟨0, Rt.zero, Nat.zero_le _, rfl, Lib.hid rfl, HI⟩
  case round =>
    obtain ⟨i, b, hi, rfl, HBE, HS⟩ := hrel
    by_cases hlt : i < n
    · have hir : i < rs.length := by rw [← HN.out]; exact hlt
      have hne : rs.map Rt.cl ≠ [] := fun e => by
        have := congrArg List.length e
        rw [List.length_map, ← HN.out] at this
        simp at this; omega
      obtain ⟨bk, off, ha, hb, HE⟩ := HH.out hne
      subst ha
      have hl1 : (i : Int) < n := by omega
      obtain ⟨p0, p1, p2, p3, p4, p5, p6⟩ := (HE.below HS.out.low hb).rt i hir
      have HST : Hid (mx (rs.take (i + 1)) = mxStep (mx (rs.take i)) rs[i]) := Lib.hid (mx_take rs i hir)
      have HRa : Hid (hasR v m rs[i] = true) := Lib.hid (HAll.out _ (List.getElem_mem hir))
      obtain ⟨r, hr⟩ : ∃ r, r = rs[i] := ⟨_, rfl⟩
      rw [← hr] at p0 p1 p2 p3 p4 p5 p6 HST HRa
      clear hr
      go_upto_region 5 with fail
      obtain ⟨W, hW⟩ : ∃ W, W = wr.alloc (.cells #[.int .i64 r.kind, .int .i64 r.vni, .int .i64 r.mac, .int .i64 r.ip, .int .i64 r.org, .int .i64 r.seq, .bool r.st] 25) := ⟨_, rfl⟩
      obtain ⟨q, hq⟩ : ∃ q, q = wr.heap.size := ⟨_, rfl⟩
      rw [← hW, ← hq]
      have S0 : SbAt w W q b r := by
        subst hW hq
        exact ⟨HS.out.out.alloc _, HS.out.best.alloc _, Blk.new _ _ _, HS.out.low.alloc HS.out.low.size _⟩
      clear hW hq p0 p1 p2 p3 p4 p5 p6 HS HI HE
      by_cases hi0 : i = 0
      · subst hi0
        have HST2 : Hid (r = (mx (rs.take (0 + 1))).getD Rt.zero) := Lib.hid (by rw [HST.out]; rfl)
        have cR := S0.rt.cell
        have cB := S0.best.cell
        have fB := S0.best.frozen
        go_wp2_with fail
        go_roundw
        case rel => exact ⟨1, r, by omega, by simp, HST2, Lib.hid S0.take⟩
        case measure => simp [intOf]; omega
      · have hib : ((i : Int) == 0) = false := by simp; omega
        obtain ⟨b', hb'⟩ := mx_some (rs.take i) (fun e => by have := congrArg List.length e; rw [List.length_take, List.length_nil] at this; omega)
        have hbb : b = b' := by rw [HBE.out, hb']; rfl
        subst hbb
        have HRb : Hid (hasR v m b = true) := Lib.hid (HAll.out _ (List.mem_of_mem_take (mx_mem _ _ hb')))
        have HP := Lib.hid (prefers_any v m r b)
        have hpr : prefR v m r b = rank r b := by unfold prefR; rw [HRa.out, HRb.out]; simp
        rw [hpr] at HP
        have HST2 : Hid ((mx (rs.take (i + 1))).getD Rt.zero = if rank r b = true then r else b) := Lib.hid (by rw [HST.out, hb']; unfold mxStep; dsimp only; split <;> rfl)
        clear hpr hb'
        generalize rank r b = rk at *
        unfold Rt.val rtV gnV at HP
        have cR := S0.rt.cell
        have cB := S0.best.cell
        go_wp2_with fail
        refine (HP.out _).mono ?_
        rintro e w2 ⟨rfl, hb2⟩
        replace S0 := S0.kept hb2
        clear hb2 cR cB
        have cR := S0.rt.cell
        have cB := S0.best.cell
        have fB := S0.best.frozen
        cases rk
        · go_wp2_with fail
          go_roundw
          case rel => exact ⟨i + 1, b, by omega, by simp, Lib.hid (by rw [HST2.out]; rfl), Lib.hid S0.leave⟩
          case measure => simp [intOf]; omega
        · go_wp2_with fail
          go_roundw
          case rel => exact ⟨i + 1, r, by omega, by simp, Lib.hid (by rw [HST2.out]; rfl), Lib.hid S0.take⟩
          case measure => simp [intOf]; omega
    · have hin : i = n := by omega
      subst hin
      have HFin : Hid ((mx rs).getD Rt.zero = b) := Lib.hid (by rw [HBE.out, List.take_of_length_le (by rw [← HN.out]; exact Nat.le_refl _)])
      have cO := HS.out.out.cell
      have fO := HS.out.out.frozen
      have cB := HS.out.best.cell
      have HL := Lib.hid HS.out.low
      clear HS HBE
      go_wp2_with fail
      refine bodyPost_ret (v := b.val) (by simp [results, Try.results42, go_sem, Rt.val, rtV, cO]) rfl ⟨by rw [HFin.out], ?_⟩
      have := HL.out
      go_grown
end Go.Proofs.Ythhodnkcaefnnaa
