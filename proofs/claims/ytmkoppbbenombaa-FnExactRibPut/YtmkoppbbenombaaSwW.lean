/- RibSweep of the program. -/
import Derived.Test.YtmkoppbbenombaaSwN
import Derived.Maps.OwnSet
namespace Go.Proofs.Ytmkoppbbenombaa
open Go.RowKit

theorem fault_zero {l : List Hd} {p : Int} (h : faultOf l p = 0) : ribOk l = true ∧ l.length ≤ 60 := by
  rcases fault_way l p with ⟨_, h2⟩ | ⟨_, _, h2⟩ | ⟨_, _, _, h2⟩ | ⟨_, h2, _, h4, _⟩
  · omega
  · omega
  · omega
  · exact ⟨h2, h4⟩
/- the loop's memory: the answer's box, the row of what is gone, the map -/
structure SwAt (w wr : World) (M clock : Nat) (y : Value) (gone : List Rt) (E : List (Hd × Nat)) : Prop where
  box : Blk wr w.heap.size 33 #[.slice none 0 0, .slice none 0 0, .int .i64 0]
  row : wr.ownsRow w.heap.size 35 7 y gone.length (rcells Rt.cl gone)
  map : MapS wr M E clock
  bel : Below w.heap.size w wr
  low : w.heap.size ≤ M
section
variable {w wr w5 : World} {M clock : Nat} {y : Value} {gone : List Rt} {E E' : List (Hd × Nat)}
theorem SwAt.ne (h : SwAt w wr M clock y gone E) : w.heap.size ≠ M := by
  intro e
  have := h.box
  unfold Blk at this
  rw [e, h.map.obj] at this
  cases this
theorem SwAt.alloc (h : SwAt w wr M clock y gone E) (o : Obj) : SwAt w (wr.alloc o) M clock y gone E :=
  ⟨h.box.alloc o, h.row.alloc o, h.map.kept (Below.heap_alloc _ _ _ h.map.lt), h.bel.alloc h.bel.size o, h.low⟩
theorem SwAt.kept (h : SwAt w wr M clock y gone E) (hb : Below wr.heap.size wr w5) : SwAt w w5 M clock y gone E :=
  ⟨h.box.kept hb, row_sameN h.row (fun k hk => hb.block k (h.row.lt k hk).2), h.map.kept (hb.block _ h.map.lt), h.bel.trans (hb.mono h.bel.size), h.low⟩
theorem SwAt.drop (h : SwAt w wr M clock y gone E) {o : Obj} (hM : MapS (setM wr M o) M E' clock) : SwAt w (setM wr M o) M clock y gone E' :=
  ⟨h.box.setB h.ne o, own_setM h.row h.map o, hM, below_setB h.bel h.low o, h.low⟩
theorem SwAt.app (h : SwAt w wr M clock y gone E) {o : Obj} {r : Rt} {a5 : Option Addr} {n5 c5 : Nat} (hn5 : n5 = (gone ++ [r]).length) (ho : w5.ownsRow w.heap.size 35 7 (.slice a5 n5 c5) n5 (rcells Rt.cl (gone ++ [r]))) (hg : (wr.alloc o).grownBy w5 y.ownBlock) : SwAt w w5 M clock (.slice a5 n5 c5) (gone ++ [r]) E :=
  ⟨(h.box.alloc o).grown hg (blk_not_own1 (h.box.alloc o) (h.row.alloc o) (by decide)), by rw [← hn5]; exact ho, h.map.grown h.row hg, app_below h.bel h.bel.size h.row hg, h.low⟩
end
set_option maxRecDepth 100000 in
set_option maxHeartbeats 8000000 in
theorem implRibSweep_any (l : List Hd) (v : Value) (p : Int) (w : World) (h : HdsAt w v l) (hnb : l.length ≤ 1048576) :
    Calls Try.prog 32 #[v, .int .i64 p] w (RoPost (sweepR l p) w) := by
  have X0 := Blk.new w 33 #[.slice none 0 0, .slice none 0 0, .int .i64 0]
  have HB0 : Below w.heap.size w (w.alloc (.cells #[.slice none 0 0, .slice none 0 0, .int .i64 0] 33)) := (Below.refl _ _).alloc (Nat.le_refl _) _
  have HF := Lib.hid (fun (W' : World) (hb : Below w.heap.size w W') => implFault_any l v p W' (SlAt.kept h hb) hnb)
  have HS1 := Lib.hid (fun (c : Int) (hc : faultOf l p = c) (h : c ≠ 0) => sweepR_ill hc h)
  have HS2 := Lib.hid (fun (hc : faultOf l p = 0) => sweepR_ok hc)
  by_cases hc0 : faultOf l p = 0
  · obtain ⟨hok, h4⟩ := fault_zero hc0
    have hpw := ok_pw hok
    have HR := Lib.hid (HS2.out hc0)
    have HBs := Lib.hid (fun (W' : World) (hb : Below w.heap.size w W') => bySlots_any l v W' (SlAt.kept h hb) h4 hpw)
    have HIo := Lib.hid (fun (M ck : Nat) (E : List (Hd × Nat)) (W' : World) (hM : MapS W' M E ck) (hE : E.length ≤ 60) (hL : Left p l l.length E) => inOrder_any M ck E (keepL p l) W' hM (by omega) (keep_pw hpw) hL.done)
    have HGs := Lib.hid (fun (i : Nat) (hi : i < l.length) => goneL_succ p l i hi)
    have HGl := Lib.hid (fun (i : Nat) => goneL_len p l i)
    have HZ : Hid (goneL p l = goneL p (l.take l.length)) := Lib.hid (by rw [List.take_length])
    have HLk := Lib.hid (fun (i : Nat) (E : List (Hd × Nat)) (hL : Left p l i E) (hi : i < l.length) (hg : ¬ goneB p l[i] = true) => hL.keep hi hg)
    have HLd := Lib.hid (fun (i : Nat) (E : List (Hd × Nat)) (hL : Left p l i E) (hd : E.Pairwise fun a b => ¬ same a.1 b.1) (hi : i < l.length) (hg : goneB p l[i] = true) => hL.drop hpw hd hi hg)
    have HL0 := Lib.hid (Left.start p l)
    have HE0 : Hid (l.zipIdx.length ≤ 60) := Lib.hid (by rw [List.length_zipIdx]; exact h4)
    rw [hc0] at HF
    unfold BsPost at HBs
    unfold RowPost at HIo
    clear HS1 HS2 hok hpw hc0
    obtain ⟨a, cap, rfl, h⟩ := h
    rw [List.length_map] at *
    have HH := Lib.hid h
    clear h
    generalize sweepR l p = S at *
    obtain ⟨n, hnn⟩ : ∃ n, n = l.length := ⟨_, rfl⟩
    have HN := Lib.hid hnn
    rw [← hnn] at h4 hnb HF HBs HGl ⊢
    clear hnn
    go_enter Try.func32, Try.ntmps32
    go_upto_region 1 with fail
    generalize w.alloc (.cells #[.slice none 0 0, .slice none 0 0, .int .i64 0] 33) = w0 at *
    go_wp2_with fail
    refine (HF.out _ HB0).mono ?_
    rintro x w1 ⟨rfl, hb1⟩
    have X1 := X0.kept hb1
    have HB1 := HB0.trans (hb1.mono HB0.size)
    clear hb1 X0 HB0
    go_wp2_with fail
    refine (HBs.out _ HB1).mono ?_
    rintro x w2 ⟨M, rfl, hMge, hMS, hb2⟩
    have HSw0 : Hid (SwAt w w2 M n (.slice none 0 0) (goneL p (l.take 0)) l.zipIdx) := Lib.hid ⟨X1.kept hb2, World.ownsRow_nil _ _ _ _, hMS, HB1.trans (hb2.mono HB1.size), Nat.le_trans HB1.size hMge⟩
    clear hb2 hMS X1 HB1 HBs hMge
    go_wp2_with fail
    go_loopw [21, 7, 9] (fun u y _ wr => ∃ (i : Nat) (E : List (Hd × Nat)), i ≤ n ∧ u = .int .i64 (i : Int) ∧ Hid (SwAt w wr M n y (goneL p (l.take i)) E) ∧ Hid (Left p l i E) ∧ Hid (E.length ≤ 60)) (fun u _ _ _ => n - (intOf u).toNat)
    case atStart => exact ⟨0, _, Nat.zero_le _, rfl, HSw0, HL0, HE0⟩
    case round =>
      clear HSw0 HL0 HE0
      obtain ⟨i, E, hi, rfl, HS, HL, HE60⟩ := hrel
      by_cases hlt : i < n
      · have hir : i < l.length := by rw [← HN.out]; exact hlt
        have hne : l.map Hd.cl ≠ [] := fun e => by
          have := congrArg List.length e
          rw [List.length_map, ← HN.out] at this
          simp at this; omega
        obtain ⟨b, off, ha, hb, HE⟩ := HH.out hne
        subst ha
        have hl1 : (i : Int) < n := by omega
        obtain ⟨p0, p1, p2, p3, p4, p5, p6, p7, p8⟩ := (elemsB HE HS.out.bel hb).hd i hir
        have HG1 := Lib.hid (HGs.out i hir)
        have hg60 := HGl.out i
        have HLk1 := Lib.hid (fun hg => HLk.out i E HL.out hir hg)
        have HLd1 := Lib.hid (fun hg => HLd.out i E HL.out HS.out.map.dist hir hg)
        have HSl := Lib.hid (slotOf_any l[i])
        have XA := Blk.new wr 77 (l[i]).ar
        have SA := HS.out.alloc (.cells (l[i]).ar 77)
        have hqM : wr.heap.size ≠ M := (Nat.ne_of_lt HS.out.map.lt).symm
        unfold Hd.ar at XA SA
        unfold Hd.val at HSl
        clear HE HS HL
        generalize l[i] = x at *
        generalize goneL p (l.take i) = pre at *
        obtain ⟨ya, yc, rfl⟩ := rown_form SA.row
        obtain ⟨xp, xs, xr⟩ := x
        dsimp only at *
        go_upto_region 9 with fail
        generalize (wr.alloc (.cells #[.int .i64 xp, .bool xs, .int .i64 xr.kind, .int .i64 xr.vni, .int .i64 xr.mac, .int .i64 xr.ip, .int .i64 xr.org, .int .i64 xr.seq, .bool xr.st] 77)) = W6 at *
        generalize wr.heap.size = q at *
        clear p0 p1 p2 p3 p4 p5 p6 p7 p8
        have hc := XA.cell
        have hf := XA.frozen
        by_cases hgn : goneB p ⟨xp, xs, xr⟩ = true
        · have hg2 := hgn
          unfold goneB at hg2
          simp only [Bool.and_eq_true, beq_iff_eq] at hg2
          obtain ⟨j, vj, hsk, hLn⟩ := HLd1.out hgn
          obtain ⟨rfl, rfl⟩ := hg2
          rw [if_pos hgn] at HG1
          have HSK := Lib.hid hsk
          have HLn := Lib.hid hLn
          clear hgn hsk hLn HLk1 HLd1
          go_upto_region 10 with fail
          go_wp2_with (first
            | (go_at_call 74; refine (HSl.out _).mono ?_; rintro e w3 ⟨rfl, hb3⟩; have XA1 := XA.kept hb3; have SA1 := SA.kept hb3; clear hc hf hb3)
            | (at_delete; refine wpList_delete_S _ rfl _ _ rfl M n E _ j vj rfl rfl SA1.map HSK.out ?_; intro hMd; have XA2 := XA1.setB hqM (.map (mkE (E.eraseIdx j)).toArray n); have SA2 := SA1.drop hMd; clear hMd; generalize (setM w3 M (.map (mkE (E.eraseIdx j)).toArray n)) = W8 at *; have hc := XA2.cell; have hsz1 := SA2.bel.size)
            | (at_builtin; refine wpList_append_row Rt.cl_len Rt.cl_one1 tyR _ rfl _ _ rfl w.heap.size _ pre xr rfl (SA2.row.alloc _) ⟨W8.heap.size, 0, none⟩ rfl (lit_cells W8 _ _ xr rfl) (by omega) (by simp; omega) ?_; intro a' c' n' w5 HN5 hown5 hg5; have HS5 := Lib.hid (SA2.app HN5.out hown5 hg5); clear hown5 hg5))
          go_roundw
          case rel => exact ⟨i + 1, E.eraseIdx j, by omega, by simp, by rw [HG1.out]; exact HS5, HLn, Lib.hid (Nat.le_trans (List.length_eraseIdx_le _ _) HE60.out)⟩
          case measure => simp [intOf]; omega
        · rw [if_neg hgn] at HG1
          have HLn := Lib.hid (HLk1.out hgn)
          have hor : ¬ xp = p ∨ (xp = p ∧ xs = false) := by
            by_cases e : xp = p
            · right
              refine ⟨e, ?_⟩
              cases xs
              · rfl
              · exact absurd (by simp [goneB, e]) hgn
            · exact .inl e
          have HS5 := Lib.hid SA
          clear hgn HLk1 HLd1 XA SA
          rcases hor with hor | ⟨rfl, rfl⟩
          all_goals
            go_wp2_with fail
            go_roundw
            case rel => exact ⟨i + 1, E, by omega, by simp, by rw [HG1.out]; exact HS5, HLn, HE60⟩
            case measure => simp [intOf]; omega
      · have hin : i = n := by omega
        subst hin
        rw [HN.out, ← HZ.out] at HS
        have HIn := Lib.hid (HIo.out M l.length E wr HS.out.map HE60.out (by rw [← HN.out]; exact HL.out))
        clear HIo HL HE60
        generalize keepL p l = D at *
        generalize goneL p l = G at *
        obtain ⟨ta, tc, rfl⟩ := rown_form HS.out.row
        go_wp2_with fail
        refine (HIn.out).mono ?_
        rintro x w4 ⟨dv, rfl, ho, hb4⟩
        have SA := HS.out.kept hb4
        have HO := Lib.hid (rown_mono (B' := w.heap.size) ho HS.out.bel.size)
        obtain ⟨da, dc, rfl⟩ := rown_form ho
        clear hb4 ho HS
        have hc := SA.box.cell
        have hf := SA.box.frozen
        go_wp2_with fail
        have HY := Lib.hid (fill3 SA.box SA.bel (Nat.le_refl _) (.slice da D.length dc) (.slice ta G.length tc) (.int .i64 0))
        have HO2 := Lib.hid (own_far3 HO.out (own_ne SA.box HO.out (by decide)) (.slice da D.length dc) (.slice ta G.length tc) (.int .i64 0))
        have HT2 := Lib.hid (own_far3 SA.row (own_ne SA.box SA.row (by decide)) (.slice da D.length dc) (.slice ta G.length tc) (.int .i64 0))
        generalize (((w4.setCell ⟨w.heap.size, 0, none⟩ (.slice da D.length dc)).setCell ⟨w.heap.size, 1, none⟩ (.slice ta G.length tc)).setCell ⟨w.heap.size, 2, none⟩ (.int .i64 0)) = w2 at *
        have hc2 := HY.out.1.cell
        refine bodyPost_ret (v := roV (.slice da D.length dc) (.slice ta G.length tc) 0) (by simp [results, Try.results32, go_sem, roV, hc2]) rfl ?_
        exact RoPost.good (by rw [HR.out]) (by rw [HR.out]; exact HO2.out) (by rw [HR.out]; exact HT2.out) (apart_types HO2.out HT2.out) HY.out.2
  · have HR := Lib.hid (HS1.out _ rfl hc0)
    obtain ⟨a, cap, rfl, h⟩ := h
    rw [List.length_map] at *
    generalize sweepR l p = S at *
    generalize faultOf l p = c at *
    obtain ⟨n, hnn⟩ : ∃ n, n = l.length := ⟨_, rfl⟩
    rw [← hnn] at hnb HF ⊢
    clear hnn HS1 HS2 h
    go_enter Try.func32, Try.ntmps32
    go_upto_region 1 with fail
    generalize w.alloc (.cells #[.slice none 0 0, .slice none 0 0, .int .i64 0] 33) = w0 at *
    go_wp2_with fail
    refine (HF.out _ HB0).mono ?_
    rintro x w1 ⟨rfl, hb1⟩
    have X1 := X0.kept hb1
    have HB1 := HB0.trans (hb1.mono HB0.size)
    have hc := X1.cell
    have hf := X1.frozen
    clear hb1
    go_wp2_with fail
    have HY := Lib.hid (fill3 X1 HB1 (Nat.le_refl _) (.slice none 0 0) (.slice none 0 0) (.int .i64 c))
    generalize (((w1.setCell ⟨w.heap.size, 0, none⟩ (.slice none 0 0)).setCell ⟨w.heap.size, 1, none⟩ (.slice none 0 0)).setCell ⟨w.heap.size, 2, none⟩ (.int .i64 c)) = w2 at *
    have hc2 := HY.out.1.cell
    refine bodyPost_ret (v := roV (.slice none 0 0) (.slice none 0 0) c) (by simp [results, Try.results32, go_sem, roV, hc2]) rfl ?_
    exact RoPost.ill HR.out rfl HY.out.2
end Go.Proofs.Ytmkoppbbenombaa
