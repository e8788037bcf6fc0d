/- BestOf, of the model. -/
import Derived.Test.YthhodnkcaefnnaaRtS
import Derived.Deep.CutRange
namespace Go.Proofs.Ythhodnkcaefnnaa
open Go.RowKit

def Rt.zero : Rt := ⟨0, 0, 0, 0, 0, 0, false⟩
def takes (v m : Int) (best r : Rt) : Bool := decide (r.kind = 2) && (decide (r.vni = v) && (decide (r.mac = m) && (r.right && (decide (best.kind = 0) || rank r best))))
def pickB (v m : Int) (best r : Rt) : Rt := if takes v m best r = true then r else best
def bestL (v m : Int) (l : List Rt) : Rt := l.foldl (pickB v m) Rt.zero
def bestS (v m : Int) (l : List Rt) : Rt := if 400 < l.length then Rt.zero else bestL v m l
theorem bestL_snoc (v m : Int) (l : List Rt) (i : Nat) (h : i < l.length) : bestL v m (l.take (i + 1)) = pickB v m (bestL v m (l.take i)) l[i] := by
  unfold bestL; rw [List.take_succ_eq_append_getElem h, List.foldl_append]; rfl
/- the ways through a round -/
inductive PbWay (v m : Int) (best r : Rt) (ra q b : Bool) : Prop
  | kind (h1 : ¬ r.kind = 2) (hr : Hid (b = false))
  | vni (h1 : r.kind = 2) (h2 : ¬ r.vni = v) (hr : Hid (b = false))
  | mac (h1 : r.kind = 2) (h2 : r.vni = v) (h3 : ¬ r.mac = m) (hr : Hid (b = false))
  | right (h1 : r.kind = 2) (h2 : r.vni = v) (h3 : r.mac = m) (h4 : ra = false) (hr : Hid (b = false))
  | first (h1 : r.kind = 2) (h2 : r.vni = v) (h3 : r.mac = m) (h4 : ra = true) (h5 : best.kind = 0) (hr : Hid (b = true))
  | rank (h1 : r.kind = 2) (h2 : r.vni = v) (h3 : r.mac = m) (h4 : ra = true) (h5 : ¬ best.kind = 0) (hr : Hid (b = q))
theorem pb_way (v m : Int) (best r : Rt) : PbWay v m best r r.right (rank r best) (takes v m best r) := by
  have e : takes v m best r = (decide (r.kind = 2) && (decide (r.vni = v) && (decide (r.mac = m) && (r.right && (decide (best.kind = 0) || rank r best))))) := rfl
  generalize takes v m best r = b at *
  generalize rank r best = q at *
  generalize r.right = ra at *
  by_cases h1 : r.kind = 2
  case neg => exact .kind h1 (Lib.hid (by rw [e, decide_eq_false h1]; rfl))
  by_cases h2 : r.vni = v
  case neg => exact .vni h1 h2 (Lib.hid (by rw [e, decide_eq_true h1, decide_eq_false h2]; rfl))
  by_cases h3 : r.mac = m
  case neg => exact .mac h1 h2 h3 (Lib.hid (by rw [e, decide_eq_true h1, decide_eq_true h2, decide_eq_false h3]; rfl))
  rw [decide_eq_true h1, decide_eq_true h2, decide_eq_true h3] at e
  cases ra
  · exact .right h1 h2 h3 rfl (Lib.hid e)
  by_cases h5 : best.kind = 0
  · exact .first h1 h2 h3 rfl h5 (Lib.hid (by rw [e, decide_eq_true h5]; rfl))
  · exact .rank h1 h2 h3 rfl h5 (Lib.hid (by rw [e, decide_eq_false h5]; simp))
theorem Blk.put7 {W : World} {b : Nat} {t : TypeId} {x0 x1 x2 x3 x4 x5 x6 : Value} (h : Blk W b t #[x0, x1, x2, x3, x4, x5, x6]) (y0 y1 y2 y3 y4 y5 y6 : Value) :
    Blk (((((((W.setCell ⟨b, 0, none⟩ y0).setCell ⟨b, 1, none⟩ y1).setCell ⟨b, 2, none⟩ y2).setCell ⟨b, 3, none⟩ y3).setCell ⟨b, 4, none⟩ y4).setCell ⟨b, 5, none⟩ y5).setCell ⟨b, 6, none⟩ y6) b t #[y0, y1, y2, y3, y4, y5, y6] := by
  have h1 : Blk _ b t #[y0, x1, x2, x3, x4, x5, x6] := h.set 0 y0
  have h2 : Blk _ b t #[y0, y1, x2, x3, x4, x5, x6] := h1.set 1 y1
  have h3 : Blk _ b t #[y0, y1, y2, x3, x4, x5, x6] := h2.set 2 y2
  have h4 : Blk _ b t #[y0, y1, y2, y3, x4, x5, x6] := h3.set 3 y3
  have h5 : Blk _ b t #[y0, y1, y2, y3, y4, x5, x6] := h4.set 4 y4
  have h6 : Blk _ b t #[y0, y1, y2, y3, y4, y5, x6] := h5.set 5 y5
  have h7 : Blk _ b t #[y0, y1, y2, y3, y4, y5, y6] := h6.set 6 y6
  exact h7
/- three routes at work: the answer's block, the best one's, the round's -/
structure SbAt (w W : World) (q : Nat) (b r : Rt) : Prop where
  out : Blk W w.heap.size 25 #[.int .i64 0, .int .i64 0, .int .i64 0, .int .i64 0, .int .i64 0, .int .i64 0, .bool false]
  best : Blk W (w.heap.size + 1) 25 #[.int .i64 b.kind, .int .i64 b.vni, .int .i64 b.mac, .int .i64 b.ip, .int .i64 b.org, .int .i64 b.seq, .bool b.st]
  rt : Blk W q 25 #[.int .i64 r.kind, .int .i64 r.vni, .int .i64 r.mac, .int .i64 r.ip, .int .i64 r.org, .int .i64 r.seq, .bool r.st]
  low : Below w.heap.size w W
theorem SbAt.kept {w W W' : World} {q : Nat} {b r : Rt} (h : SbAt w W q b r) (hb : Below W.heap.size W W') : SbAt w W' q b r := ⟨h.out.kept hb, h.best.kept hb, h.rt.kept hb, h.low.trans (hb.mono h.low.size)⟩
structure SbIn (w W : World) (b : Rt) : Prop where
  out : Blk W w.heap.size 25 #[.int .i64 0, .int .i64 0, .int .i64 0, .int .i64 0, .int .i64 0, .int .i64 0, .bool false]
  best : Blk W (w.heap.size + 1) 25 #[.int .i64 b.kind, .int .i64 b.vni, .int .i64 b.mac, .int .i64 b.ip, .int .i64 b.org, .int .i64 b.seq, .bool b.st]
  low : Below w.heap.size w W
theorem SbAt.leave {w W : World} {q : Nat} {b r : Rt} (h : SbAt w W q b r) : SbIn w W b := ⟨h.out, h.best, h.low⟩
theorem SbAt.take {w W : World} {q : Nat} {b r : Rt} (h : SbAt w W q b r) :
    SbIn w (((((((W.setCell ⟨w.heap.size + 1, 0, none⟩ (.int .i64 r.kind)).setCell ⟨w.heap.size + 1, 1, none⟩ (.int .i64 r.vni)).setCell ⟨w.heap.size + 1, 2, none⟩ (.int .i64 r.mac)).setCell ⟨w.heap.size + 1, 3, none⟩ (.int .i64 r.ip)).setCell ⟨w.heap.size + 1, 4, none⟩ (.int .i64 r.org)).setCell ⟨w.heap.size + 1, 5, none⟩ (.int .i64 r.seq)).setCell ⟨w.heap.size + 1, 6, none⟩ (.bool r.st)) r :=
  ⟨((((((h.out.far (by omega)).far (by omega)).far (by omega)).far (by omega)).far (by omega)).far (by omega)).far (by omega),
   h.best.put7 _ _ _ _ _ _ _, by have := h.low; go_grown⟩
set_option maxHeartbeats 4000000 in
theorem specBestOf_any (rs : List Rt) (v m : Int) (val : Value) (w : World) (h : RtsAt w val rs) (hn : rs.length ≤ 1048576) :
    Calls Try.prog 19 #[val, .int .i64 v, .int .i64 m] w fun e w' => e = .returned (bestS v m rs).val ∧ Below w.heap.size w w' := by
  obtain ⟨a, cap, rfl, h⟩ := h
  rw [List.length_map] at *
  have HH := Lib.hid h
  clear h
  obtain ⟨n, hnn⟩ : ∃ n, n = rs.length := ⟨_, rfl⟩
  have HN := Lib.hid hnn
  rw [← hnn] at hn ⊢
  have HI : Hid (SbIn w ((w.alloc (.cells #[.int .i64 0, .int .i64 0, .int .i64 0, .int .i64 0, .int .i64 0, .int .i64 0, .bool false] 25)).alloc (.cells #[.int .i64 0, .int .i64 0, .int .i64 0, .int .i64 0, .int .i64 0, .int .i64 0, .bool false] 25)) Rt.zero) := Lib.hid
    ⟨(Blk.new _ _ _).alloc _, by have := Blk.new (w.alloc (.cells #[.int .i64 0, .int .i64 0, .int .i64 0, .int .i64 0, .int .i64 0, .int .i64 0, .bool false] 25)) 25 #[.int .i64 0, .int .i64 0, .int .i64 0, .int .i64 0, .int .i64 0, .int .i64 0, .bool false]; simpa [Rt.zero] using this, ((Below.refl _ _).alloc (Nat.le_refl _) _).alloc (by simp) _⟩
  by_cases h4 : 400 < n
  · have HR : Hid (bestS v m rs = Rt.zero) := Lib.hid (by rw [bestS, if_pos (by rw [← hnn]; exact h4)])
    have hi4 : ¬ (n : Int) ≤ 400 := by omega
    have hi0 : 0 < (n : Int) := by omega
    clear hnn
    go_enter Try.func19, Try.ntmps19
    go_wp2_with fail
    refine wp_loop_rounds 1 ?_
    rw [rounds_succ]
    go_wp2_with fail
    refine bodyPost_ret (v := Rt.zero.val) (by simp [results, Try.results19, go_sem, Rt.val, rtV, Rt.zero]) rfl ⟨by rw [HR.out], ?_⟩
    go_grown
  · have HR : Hid (bestS v m rs = bestL v m rs) := Lib.hid (by rw [bestS, if_neg (by rw [← hnn]; exact h4)])
    have hi4 : (n : Int) ≤ 400 := by omega
    clear hnn
    go_enter Try.func19, Try.ntmps19
    go_wp2_with fail
    go_loopw [8] (fun u wr => ∃ (i : Nat) (b : Rt), i ≤ n ∧ u = .int .i64 (i : Int) ∧ Hid (b = bestL v m (rs.take i)) ∧ Hid (SbIn w wr b)) (fun u _ => n - (intOf u).toNat)
    case atStart => exact ⟨0, Rt.zero, Nat.zero_le _, rfl, Lib.hid rfl, HI⟩
    case round =>
      obtain ⟨i, b, hi, rfl, HBE, HS⟩ := hrel
      by_cases hlt : i < n
      · have hir : i < rs.length := by rw [← HN.out]; exact hlt
        have hne : rs.map Rt.cl ≠ [] := fun e => by
          have := congrArg List.length e
          rw [List.length_map, ← HN.out] at this
          simp at this; omega
        obtain ⟨bk, off, ha, hb, HE⟩ := HH.out hne
        subst ha
        have hl1 : (i : Int) < n := by omega
        obtain ⟨p0, p1, p2, p3, p4, p5, p6⟩ := (HE.below HS.out.low hb).rt i hir
        have HST : Hid (bestL v m (rs.take (i + 1)) = pickB v m b rs[i]) := Lib.hid (by rw [HBE.out]; exact bestL_snoc v m rs i hir)
        obtain ⟨r, hr⟩ : ∃ r, r = rs[i] := ⟨_, rfl⟩
        rw [← hr] at p0 p1 p2 p3 p4 p5 p6 HST
        clear hr
        go_upto_region 6 with fail
        obtain ⟨W, hW⟩ : ∃ W, W = wr.alloc (.cells #[.int .i64 r.kind, .int .i64 r.vni, .int .i64 r.mac, .int .i64 r.ip, .int .i64 r.org, .int .i64 r.seq, .bool r.st] 25) := ⟨_, rfl⟩
        obtain ⟨q, hq⟩ : ∃ q, q = wr.heap.size := ⟨_, rfl⟩
        rw [← hW, ← hq]
        have S0 : SbAt w W q b r := by
          subst hW hq
          exact ⟨HS.out.out.alloc _, HS.out.best.alloc _, Blk.new _ _ _, HS.out.low.alloc HS.out.low.size _⟩
        have hqn : w.heap.size + 1 < q := by rw [hq]; exact HS.out.best.lt
        clear hW hq p0 p1 p2 p3 p4 p5 p6 HS HI HE
        have HRi := Lib.hid (specRight_any r)
        have HRk := Lib.hid (specRank_any r b)
        have hway := pb_way v m b r
        have HPK : Hid (pickB v m b r = if takes v m b r = true then r else b) := Lib.hid rfl
        generalize takes v m b r = tk at *
        generalize rank r b = rk at *
        generalize r.right = ra at *
        unfold Rt.val rtV at HRi HRk
        have cR := S0.rt.cell
        have cB := S0.best.cell
        rcases hway with ⟨h1, hr⟩ | ⟨h1, h2, hr⟩ | ⟨h1, h2, h3, hr⟩ | ⟨h1, h2, h3, h4, hr⟩ | ⟨h1, h2, h3, h4, h5, hr⟩ | ⟨h1, h2, h3, h4, h5, hr⟩
        · have hb1 : (r.kind == 2) = false := by simp [h1]
          clear h1
          go_wp2_with fail
          go_roundw
          case rel => exact ⟨i + 1, b, by omega, by simp, Lib.hid (by rw [HST.out, HPK.out, hr.out]; rfl), Lib.hid S0.leave⟩
          case measure => simp [intOf]; omega
        · have hb1 : (r.vni == v) = false := by simp [h2]
          clear h2
          go_wp2_with fail
          go_roundw
          case rel => exact ⟨i + 1, b, by omega, by simp, Lib.hid (by rw [HST.out, HPK.out, hr.out]; rfl), Lib.hid S0.leave⟩
          case measure => simp [intOf]; omega
        · have hb1 : (r.mac == m) = false := by simp [h3]
          clear h3
          go_wp2_with fail
          go_roundw
          case rel => exact ⟨i + 1, b, by omega, by simp, Lib.hid (by rw [HST.out, HPK.out, hr.out]; rfl), Lib.hid S0.leave⟩
          case measure => simp [intOf]; omega
        · obtain ⟨k, rv, rm, ri, ro, rq, rt⟩ := r
          obtain ⟨bk0, bv, bm, bi, bo, bq, bt⟩ := b
          dsimp only at h1 h2 h3 HRi HRk
          subst h1 h2 h3 h4
          dsimp only at cR cB
          go_wp2_with fail
          refine (HRi.out _).mono ?_
          rintro e w1 ⟨rfl, hb1⟩
          replace S0 := S0.kept hb1
          clear hb1 cR cB
          have cR := S0.rt.cell
          have cB := S0.best.cell
          have fB := S0.best.frozen
          dsimp only at cR cB
          go_wp2_with fail
          go_roundw
          case rel => exact ⟨i + 1, _, by omega, by simp, Lib.hid (by rw [HST.out, HPK.out, hr.out]; rfl), Lib.hid S0.leave⟩
          case measure => simp [intOf]; omega
        · obtain ⟨k, rv, rm, ri, ro, rq, rt⟩ := r
          obtain ⟨bk0, bv, bm, bi, bo, bq, bt⟩ := b
          dsimp only at h1 h2 h3 HRi HRk
          subst h1 h2 h3 h4
          dsimp only at h5
          subst h5
          dsimp only at cR cB
          go_wp2_with fail
          refine (HRi.out _).mono ?_
          rintro e w1 ⟨rfl, hb1⟩
          replace S0 := S0.kept hb1
          clear hb1 cR cB
          have cR := S0.rt.cell
          have cB := S0.best.cell
          have fB := S0.best.frozen
          dsimp only at cR cB
          go_wp2_with fail
          go_roundw
          case rel => exact ⟨i + 1, _, by omega, by simp, Lib.hid (by rw [HST.out, HPK.out, hr.out]; rfl), Lib.hid S0.take⟩
          case measure => simp [intOf]; omega
        · obtain ⟨k, rv, rm, ri, ro, rq, rt⟩ := r
          obtain ⟨bk0, bv, bm, bi, bo, bq, bt⟩ := b
          dsimp only at h1 h2 h3 HRi HRk
          subst h1 h2 h3 h4
          dsimp only at h5
          have hb5 : (bk0 == 0) = false := by simp [h5]
          dsimp only at cR cB
          go_wp2_with fail
          refine (HRi.out _).mono ?_
          rintro e w1 ⟨rfl, hb1⟩
          replace S0 := S0.kept hb1
          clear hb1 cR cB
          have cR := S0.rt.cell
          have cB := S0.best.cell
          have fB := S0.best.frozen
          dsimp only at cR cB
          go_wp2_with fail
          refine (HRk.out _).mono ?_
          rintro e w2 ⟨rfl, hb2⟩
          replace S0 := S0.kept hb2
          clear hb2 cR cB fB
          have cR := S0.rt.cell
          have cB := S0.best.cell
          have fB := S0.best.frozen
          dsimp only at cR cB
          cases rk
          · go_wp2_with fail
            go_roundw
            case rel => exact ⟨i + 1, _, by omega, by simp, Lib.hid (by rw [HST.out, HPK.out, hr.out]; rfl), Lib.hid S0.leave⟩
            case measure => simp [intOf]; omega
          · go_wp2_with fail
            go_roundw
            case rel => exact ⟨i + 1, _, by omega, by simp, Lib.hid (by rw [HST.out, HPK.out, hr.out]; rfl), Lib.hid S0.take⟩
            case measure => simp [intOf]; omega
      · have hin : i = n := by omega
        subst hin
        have HFin : Hid (bestS v m rs = b) := Lib.hid (by rw [HR.out, HBE.out, List.take_of_length_le (by rw [← HN.out]; exact Nat.le_refl _)])
        have cO := HS.out.out.cell
        have fO := HS.out.out.frozen
        have cB := HS.out.best.cell
        have HL := Lib.hid HS.out.low
        clear HS HBE HR
        go_wp2_with fail
        refine bodyPost_ret (v := b.val) (by simp [results, Try.results19, go_sem, Rt.val, rtV, cO]) rfl ⟨by rw [HFin.out], ?_⟩
        have := HL.out
        go_grown
end Go.Proofs.Ythhodnkcaefnnaa
