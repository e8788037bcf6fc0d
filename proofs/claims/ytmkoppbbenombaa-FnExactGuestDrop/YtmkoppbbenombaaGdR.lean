/- GuestDrop of the model, whole. -/
import Derived.Test.YtmkoppbbenombaaGdS
namespace Go.Proofs.Ytmkoppbbenombaa
open Go.RowKit

set_option maxRecDepth 100000 in
set_option maxHeartbeats 4000000 in
theorem specGuestDrop_any (l : List Gu) (val : Value) (v m : Int) (w : World) (h : GusAt w val l) (hn : l.length ≤ 1048576) :
    Calls Try.prog 58 #[val, .int .i64 v, .int .i64 m] w (GoPost (gdropR l v m) w) := by
  have X0 := Blk.new w 65 #[.slice none 0 0, .slice none 0 0, .int .i64 0]
  have HB0 : Below w.heap.size w (w.alloc (.cells #[.slice none 0 0, .slice none 0 0, .int .i64 0] 65)) := (Below.refl _ _).alloc (Nat.le_refl _) _
  have HRR := Lib.hid (fun (W' : World) (hb : Below w.heap.size w W') => specGuestsRight_any l val W' (SlAt.kept h hb) hn)
  have HIn := Lib.hid (fun (h8 : l.length ≤ 8) (W' : World) (hb : Below w.heap.size w W') => specDropIn_any l val v m W' (SlAt.kept h hb) h8)
  have HQ := Lib.hid (fun (c : Int) => specIll7_any c)
  have HW := gfault_way l true
  have HLg := Lib.hid (fun h1 => gdropR_long (l := l) (v := v) (m := m) h1)
  have HWr := Lib.hid (fun h1 h2 => gdropR_wrong (l := l) (v := v) (m := m) h1 h2)
  have HOk := Lib.hid (fun h1 h2 => gdropR_ok (l := l) (v := v) (m := m) h1 h2)
  unfold GrPost at HRR
  unfold GoPost at HIn
  unfold goV at HQ HIn
  obtain ⟨a, cap, rfl, _⟩ := h
  rw [List.length_map] at *
  generalize gdropR l v m = S at *
  generalize dropIn (keyG v m) l = D at *
  rcases HW with ⟨h1⟩ | ⟨h1, h2⟩ | ⟨h1, h2, h3⟩ | ⟨h1, h2, h3, h4⟩
  · have HR := Lib.hid (HLg.out h1)
    generalize l.length = n at *
    have hg : (400 : Int) < (n : Int) := by omega
    clear HLg HWr HOk
    go_enter Try.func58, Try.ntmps58
    go_upto_region 1 with fail
    generalize w.alloc (.cells #[.slice none 0 0, .slice none 0 0, .int .i64 0] 65) = w0 at *
    go_wp2_with (go_at_call 95; refine (HQ.out _ _).mono ?_; rintro x w1 ⟨rfl, hb1⟩; have X1 := X0.kept hb1; have hc := X1.cell; have hf := X1.frozen; have HB1 := HB0.trans (hb1.mono HB0.size); clear hb1)
    have HY := Lib.hid (fillO X1 HB1 (Nat.le_refl _) (.slice none 0 0) (.slice none 0 0) (.int .i64 2))
    generalize (((w1.setCell ⟨w.heap.size, 0, none⟩ (.slice none 0 0)).setCell ⟨w.heap.size, 1, none⟩ (.slice none 0 0)).setCell ⟨w.heap.size, 2, none⟩ (.int .i64 2)) = w9 at *
    have hc9 := HY.out.1.cell
    refine bodyPost_ret (v := goV (.slice none 0 0) (.slice none 0 0) 2) (by simp [results, Try.results58, go_sem, goV, hc9]) rfl ?_
    exact GoPost.ill HR.out rfl HY.out.2
  · have HR := Lib.hid (HWr.out h1 h2)
    rw [h2] at HRR
    generalize l.length = n at *
    have hg : ¬ (400 : Int) < (n : Int) := by omega
    clear HLg HWr HOk h2
    go_enter Try.func58, Try.ntmps58
    go_upto_region 1 with fail
    generalize w.alloc (.cells #[.slice none 0 0, .slice none 0 0, .int .i64 0] 65) = w0 at *
    go_wp2_with (first | (go_at_call 44; refine (HRR.out _ HB0).mono ?_; rintro x w3 ⟨rfl, hb3⟩; have X3 := X0.kept hb3; have HB3 := HB0.trans (hb3.mono HB0.size); clear hb3) | (go_at_call 95; refine (HQ.out _ _).mono ?_; rintro x w1 ⟨rfl, hb1⟩; have X1 := X3.kept hb1; have hc := X1.cell; have hf := X1.frozen; have HB1 := HB3.trans (hb1.mono HB3.size); clear hb1))
    have HY := Lib.hid (fillO X1 HB1 (Nat.le_refl _) (.slice none 0 0) (.slice none 0 0) (.int .i64 1))
    generalize (((w1.setCell ⟨w.heap.size, 0, none⟩ (.slice none 0 0)).setCell ⟨w.heap.size, 1, none⟩ (.slice none 0 0)).setCell ⟨w.heap.size, 2, none⟩ (.int .i64 1)) = w9 at *
    have hc9 := HY.out.1.cell
    refine bodyPost_ret (v := goV (.slice none 0 0) (.slice none 0 0) 1) (by simp [results, Try.results58, go_sem, goV, hc9]) rfl ?_
    exact GoPost.ill HR.out rfl HY.out.2
  · cases h3
  · have HR := Lib.hid (HOk.out h1 h2)
    have HI6 := Lib.hid (HIn.out h4)
    rw [h2] at HRR
    generalize l.length = n at *
    have hg : ¬ (400 : Int) < (n : Int) := by omega
    clear HLg HWr HOk h2 h3
    go_enter Try.func58, Try.ntmps58
    go_upto_region 1 with fail
    generalize w.alloc (.cells #[.slice none 0 0, .slice none 0 0, .int .i64 0] 65) = w0 at *
    go_wp2_with (go_at_call 44; refine (HRR.out _ HB0).mono ?_; rintro x w3 ⟨rfl, hb3⟩; have X3 := X0.kept hb3; have HB3 := HB0.trans (hb3.mono HB0.size); clear hb3)
    refine (HI6.out _ HB3).mono ?_
    rintro x w1 ⟨dv, dt, rfl, ho, ht, hap, hb1⟩
    have X1 := X3.kept hb1
    have hc := X1.cell
    have hfz := X1.frozen
    have HB1 := HB3.trans (hb1.mono HB3.size)
    have hne : dv.ownBlock ≠ some w.heap.size := fun e => by have := (ho.lt _ e).1; have := X3.lt; omega
    have hnt : dt.ownBlock ≠ some w.heap.size := fun e => by have := (ht.lt _ e).1; have := X3.lt; omega
    have HO := Lib.hid (rown_mono (B' := w.heap.size) ho HB3.size)
    have HTt := Lib.hid (rown_mono (B' := w.heap.size) ht HB3.size)
    obtain ⟨da, dc, rfl⟩ := rown_form ho
    obtain ⟨ta, tc, rfl⟩ := rown_form ht
    clear hb1 ho ht
    have HAP := Lib.hid hap
    clear hap
    go_wp2_with fail
    have HO2 := Lib.hid (own_farO HO.out hne (.slice da D.gus.length dc) (.slice ta D.gone.length tc) (.int .i64 D.code))
    have HT2 := Lib.hid (own_farO HTt.out hnt (.slice da D.gus.length dc) (.slice ta D.gone.length tc) (.int .i64 D.code))
    have HY := Lib.hid (fillO X1 HB1 (Nat.le_refl _) (.slice da D.gus.length dc) (.slice ta D.gone.length tc) (.int .i64 D.code))
    generalize (((w1.setCell ⟨w.heap.size, 0, none⟩ (.slice da D.gus.length dc)).setCell ⟨w.heap.size, 1, none⟩ (.slice ta D.gone.length tc)).setCell ⟨w.heap.size, 2, none⟩ (.int .i64 D.code)) = w9 at *
    have hc9 := HY.out.1.cell
    refine bodyPost_ret (v := goV (.slice da D.gus.length dc) (.slice ta D.gone.length tc) D.code) (by simp [results, Try.results58, go_sem, goV, hc9]) rfl ?_
    rw [HR.out]
    exact ⟨_, _, rfl, HO2.out, HT2.out, HAP.out, HY.out.2⟩
end Go.Proofs.Ytmkoppbbenombaa
