/- GuestPut of the model, whole; its mathematics. -/
import Derived.Test.YtmkoppbbenombaaGpS
namespace Go.Proofs.Ytmkoppbbenombaa
open Go.RowKit

def gputR (l : List Gu) (g : Gu) : GsO := if 400 < l.length then goIll 2 else if gusOk l = true ∧ g.right = true then putG g l else goIll 1
theorem gputR_long {l : List Gu} {g : Gu} (h : 400 < l.length) : gputR l g = goIll 2 := by rw [gputR, if_pos h]
theorem gputR_wrong {l : List Gu} {g : Gu} (h : ¬ 400 < l.length) (h2 : gusOk l = false) : gputR l g = goIll 1 := by rw [gputR, if_neg h, if_neg (by simp [h2])]
theorem gputR_arg {l : List Gu} {g : Gu} (h : ¬ 400 < l.length) (h2 : g.right = false) : gputR l g = goIll 1 := by rw [gputR, if_neg h, if_neg (by simp [h2])]
theorem gputR_ok {l : List Gu} {g : Gu} (h : ¬ 400 < l.length) (h2 : gusOk l = true) (h3 : g.right = true) : gputR l g = putG g l := by rw [gputR, if_neg h, if_pos ⟨h2, h3⟩]
theorem gputR_len (l : List Gu) (g : Gu) : (gputR l g).gus.length ≤ 9 ∧ (gputR l g).gone.length ≤ 9 := by
  unfold gputR
  split
  · simp [goIll]
  · split
    · rename_i h
      have h8 := gusOk_len h.1
      unfold putG
      split
      · simp [goIll]
      · have := insL_len (lt := LtG) g l
        exact ⟨by dsimp only; omega, by simp⟩
    · simp [goIll]
theorem own_farO {cur : World} {q B n sz : Nat} {t : TypeId} {v : Value} {xs : List Value} (h : cur.ownsRow B t sz v n xs) (hne : v.ownBlock ≠ some q) (v0 v1 v2 : Value) :
    (((cur.setCell ⟨q, 0, none⟩ v0).setCell ⟨q, 1, none⟩ v1).setCell ⟨q, 2, none⟩ v2).ownsRow B t sz v n xs :=
  h.kept (row := some q) (grownSet (grownSet (grownSet (World.grownBy.refl _ _)))) (.inr hne)
set_option maxRecDepth 100000 in
set_option maxHeartbeats 4000000 in
theorem specGuestPut_any (l : List Gu) (v : Value) (g : Gu) (w : World) (h : GusAt w v l) (hnc : NcOk v) (hn : l.length ≤ 1048576) :
    Calls Try.prog 51 #[v, g.val] w (GoPost (gputR l g) w) := by
  have Y0 := Blk.new w 59 #[.int .i64 g.vni, .int .i64 g.mac, .int .i64 g.ip, .int .i64 g.door, .int .i64 g.seq, .int .i64 g.seen, .bool g.st]
  have X0 := Blk.new (w.alloc (.cells #[.int .i64 g.vni, .int .i64 g.mac, .int .i64 g.ip, .int .i64 g.door, .int .i64 g.seq, .int .i64 g.seen, .bool g.st] 59)) 65 #[.slice none 0 0, .slice none 0 0, .int .i64 0]
  rw [World.size_alloc] at X0
  replace Y0 := Y0.alloc (.cells #[.slice none 0 0, .slice none 0 0, .int .i64 0] 65)
  have HB0 : Below w.heap.size w ((w.alloc (.cells #[.int .i64 g.vni, .int .i64 g.mac, .int .i64 g.ip, .int .i64 g.door, .int .i64 g.seq, .int .i64 g.seen, .bool g.st] 59)).alloc (.cells #[.slice none 0 0, .slice none 0 0, .int .i64 0] 65)) := ((Below.refl _ _).alloc (Nat.le_refl _) _).alloc (by simp) _
  have HRR := Lib.hid (fun (W' : World) (hb : Below w.heap.size w W') => specGuestsRight_any l v W' (SlAt.kept h hb) hn)
  have HIn := Lib.hid (fun (h8 : l.length ≤ 8) (hpw : l.Pairwise LtG) (W' : World) (hb : Below w.heap.size w W') => specGPutIn_any l v g W' (SlAt.kept h hb) hnc h8 hpw)
  have HT := Lib.hid (specGuest_any g)
  have HQ := Lib.hid (fun (c : Int) => specIll7_any c)
  have HW := gfault_way l g.right
  have HLg := Lib.hid (fun h1 => gputR_long (l := l) (g := g) h1)
  have HWr := Lib.hid (fun h1 h2 => gputR_wrong (l := l) (g := g) h1 h2)
  have HAr := Lib.hid (fun h1 h2 => gputR_arg (l := l) (g := g) h1 h2)
  have HOk := Lib.hid (fun h1 h2 h3 => gputR_ok (l := l) (g := g) h1 h2 h3)
  have HPW := Lib.hid (fun (h : gusOk l = true) => gusOk_pw h)
  unfold GrPost at HRR
  unfold GoPost at HIn
  unfold goV at HQ HIn
  obtain ⟨a, cap, rfl, _⟩ := h
  rw [List.length_map] at *
  generalize gputR l g = S at *
  generalize putG g l = D at *
  rcases HW with ⟨h1⟩ | ⟨h1, h2⟩ | ⟨h1, h2, h3⟩ | ⟨h1, h2, h3, h4⟩
  · have HR := Lib.hid (HLg.out h1)
    generalize l.length = n at *
    have hg : (400 : Int) < (n : Int) := by omega
    clear HLg HWr HAr HOk HPW
    unfold Gu.val at *
    go_enter Try.func51, Try.ntmps51
    go_upto_region 1 with fail
    generalize (w.alloc (.cells #[.int .i64 g.vni, .int .i64 g.mac, .int .i64 g.ip, .int .i64 g.door, .int .i64 g.seq, .int .i64 g.seen, .bool g.st] 59)).alloc (.cells #[.slice none 0 0, .slice none 0 0, .int .i64 0] 65) = w0 at *
    go_wp2_with (go_at_call 95; refine (HQ.out _ _).mono ?_; rintro x w1 ⟨rfl, hb1⟩; have X1 := X0.kept hb1; have hc := X1.cell; have hf := X1.frozen; have HB1 := HB0.trans (hb1.mono HB0.size); clear hb1)
    have HY := Lib.hid (fillO X1 HB1 (by omega) (.slice none 0 0) (.slice none 0 0) (.int .i64 2))
    generalize (((w1.setCell ⟨w.heap.size + 1, 0, none⟩ (.slice none 0 0)).setCell ⟨w.heap.size + 1, 1, none⟩ (.slice none 0 0)).setCell ⟨w.heap.size + 1, 2, none⟩ (.int .i64 2)) = w9 at *
    have hc9 := HY.out.1.cell
    refine bodyPost_ret (v := goV (.slice none 0 0) (.slice none 0 0) 2) (by simp [results, Try.results51, go_sem, goV, hc9]) rfl ?_
    exact GoPost.ill HR.out rfl HY.out.2
  · have HR := Lib.hid (HWr.out h1 h2)
    rw [h2] at HRR
    generalize l.length = n at *
    have hg : ¬ (400 : Int) < (n : Int) := by omega
    clear HLg HWr HAr HOk HPW h2
    unfold Gu.val at *
    go_enter Try.func51, Try.ntmps51
    go_upto_region 1 with fail
    generalize (w.alloc (.cells #[.int .i64 g.vni, .int .i64 g.mac, .int .i64 g.ip, .int .i64 g.door, .int .i64 g.seq, .int .i64 g.seen, .bool g.st] 59)).alloc (.cells #[.slice none 0 0, .slice none 0 0, .int .i64 0] 65) = w0 at *
    go_wp2_with (first | (go_at_call 44; refine (HRR.out _ HB0).mono ?_; rintro x w3 ⟨rfl, hb3⟩; have X3 := X0.kept hb3; have Y3 := Y0.kept hb3; have hcy := Y3.cell; have HB3 := HB0.trans (hb3.mono HB0.size); clear hb3) | (go_at_call 95; refine (HQ.out _ _).mono ?_; rintro x w1 ⟨rfl, hb1⟩; have X1 := X3.kept hb1; have hc := X1.cell; have hf := X1.frozen; have HB1 := HB3.trans (hb1.mono HB3.size); clear hb1))
    have HY := Lib.hid (fillO X1 HB1 (by omega) (.slice none 0 0) (.slice none 0 0) (.int .i64 1))
    generalize (((w1.setCell ⟨w.heap.size + 1, 0, none⟩ (.slice none 0 0)).setCell ⟨w.heap.size + 1, 1, none⟩ (.slice none 0 0)).setCell ⟨w.heap.size + 1, 2, none⟩ (.int .i64 1)) = w9 at *
    have hc9 := HY.out.1.cell
    refine bodyPost_ret (v := goV (.slice none 0 0) (.slice none 0 0) 1) (by simp [results, Try.results51, go_sem, goV, hc9]) rfl ?_
    exact GoPost.ill HR.out rfl HY.out.2
  · have HR := Lib.hid (HAr.out h1 h3)
    rw [h2] at HRR
    rw [h3] at HT
    generalize l.length = n at *
    have hg : ¬ (400 : Int) < (n : Int) := by omega
    clear HLg HWr HAr HOk HPW h2 h3
    unfold Gu.val at *
    go_enter Try.func51, Try.ntmps51
    go_upto_region 1 with fail
    generalize (w.alloc (.cells #[.int .i64 g.vni, .int .i64 g.mac, .int .i64 g.ip, .int .i64 g.door, .int .i64 g.seq, .int .i64 g.seen, .bool g.st] 59)).alloc (.cells #[.slice none 0 0, .slice none 0 0, .int .i64 0] 65) = w0 at *
    go_wp2_with (first | (go_at_call 44; refine (HRR.out _ HB0).mono ?_; rintro x w3 ⟨rfl, hb3⟩; have X3 := X0.kept hb3; have Y3 := Y0.kept hb3; have hcy := Y3.cell; have HB3 := HB0.trans (hb3.mono HB0.size); clear hb3) | (go_at_call 88; refine (HT.out _).mono ?_; rintro x w5 ⟨rfl, hb5⟩; replace X3 := X3.kept hb5; replace Y3 := Y3.kept hb5; replace HB3 := HB3.trans (hb5.mono HB3.size); clear hb5 hcy; have hcy := Y3.cell) | (go_at_call 95; refine (HQ.out _ _).mono ?_; rintro x w1 ⟨rfl, hb1⟩; have X1 := X3.kept hb1; have hc := X1.cell; have hf := X1.frozen; have HB1 := HB3.trans (hb1.mono HB3.size); clear hb1))
    have HY := Lib.hid (fillO X1 HB1 (by omega) (.slice none 0 0) (.slice none 0 0) (.int .i64 1))
    generalize (((w1.setCell ⟨w.heap.size + 1, 0, none⟩ (.slice none 0 0)).setCell ⟨w.heap.size + 1, 1, none⟩ (.slice none 0 0)).setCell ⟨w.heap.size + 1, 2, none⟩ (.int .i64 1)) = w9 at *
    have hc9 := HY.out.1.cell
    refine bodyPost_ret (v := goV (.slice none 0 0) (.slice none 0 0) 1) (by simp [results, Try.results51, go_sem, goV, hc9]) rfl ?_
    exact GoPost.ill HR.out rfl HY.out.2
  · have HR := Lib.hid (HOk.out h1 h2 h3)
    have HI6 := Lib.hid (HIn.out h4 (HPW.out h2))
    rw [h2] at HRR
    rw [h3] at HT
    generalize l.length = n at *
    have hg : ¬ (400 : Int) < (n : Int) := by omega
    clear HLg HWr HAr HOk HPW h2 h3
    unfold Gu.val at *
    go_enter Try.func51, Try.ntmps51
    go_upto_region 1 with fail
    generalize (w.alloc (.cells #[.int .i64 g.vni, .int .i64 g.mac, .int .i64 g.ip, .int .i64 g.door, .int .i64 g.seq, .int .i64 g.seen, .bool g.st] 59)).alloc (.cells #[.slice none 0 0, .slice none 0 0, .int .i64 0] 65) = w0 at *
    go_wp2_with (first | (go_at_call 44; refine (HRR.out _ HB0).mono ?_; rintro x w3 ⟨rfl, hb3⟩; have X3 := X0.kept hb3; have Y3 := Y0.kept hb3; have hcy := Y3.cell; have HB3 := HB0.trans (hb3.mono HB0.size); clear hb3) | (go_at_call 88; refine (HT.out _).mono ?_; rintro x w5 ⟨rfl, hb5⟩; replace X3 := X3.kept hb5; replace Y3 := Y3.kept hb5; replace HB3 := HB3.trans (hb5.mono HB3.size); clear hb5 hcy; have hcy := Y3.cell))
    refine (HI6.out _ HB3).mono ?_
    rintro x w1 ⟨dv, dt, rfl, ho, ht, hap, hb1⟩
    have X1 := X3.kept hb1
    have hc := X1.cell
    have hfz := X1.frozen
    have HB1 := HB3.trans (hb1.mono HB3.size)
    have hne : dv.ownBlock ≠ some (w.heap.size + 1) := fun e => by have := (ho.lt _ e).1; have := X3.lt; omega
    have hnt : dt.ownBlock ≠ some (w.heap.size + 1) := fun e => by have := (ht.lt _ e).1; have := X3.lt; omega
    have HO := Lib.hid (rown_mono (B' := w.heap.size) ho HB3.size)
    have HTt := Lib.hid (rown_mono (B' := w.heap.size) ht HB3.size)
    obtain ⟨da, dc, rfl⟩ := rown_form ho
    obtain ⟨ta, tc, rfl⟩ := rown_form ht
    clear hb1 ho ht hcy
    have HAP := Lib.hid hap
    clear hap
    go_wp2_with fail
    have HO2 := Lib.hid (own_farO HO.out hne (.slice da D.gus.length dc) (.slice ta D.gone.length tc) (.int .i64 D.code))
    have HT2 := Lib.hid (own_farO HTt.out hnt (.slice da D.gus.length dc) (.slice ta D.gone.length tc) (.int .i64 D.code))
    have HY := Lib.hid (fillO X1 HB1 (by omega) (.slice da D.gus.length dc) (.slice ta D.gone.length tc) (.int .i64 D.code))
    generalize (((w1.setCell ⟨w.heap.size + 1, 0, none⟩ (.slice da D.gus.length dc)).setCell ⟨w.heap.size + 1, 1, none⟩ (.slice ta D.gone.length tc)).setCell ⟨w.heap.size + 1, 2, none⟩ (.int .i64 D.code)) = w9 at *
    have hc9 := HY.out.1.cell
    refine bodyPost_ret (v := goV (.slice da D.gus.length dc) (.slice ta D.gone.length tc) D.code) (by simp [results, Try.results51, go_sem, goV, hc9]) rfl ?_
    rw [HR.out]
    exact ⟨_, _, rfl, HO2.out, HT2.out, HAP.out, HY.out.2⟩
end Go.Proofs.Ytmkoppbbenombaa
