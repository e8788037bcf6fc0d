/- GuestsAge of the program. -/
import Derived.Test.YtmkoppbbenombaaAgS
namespace Go.Proofs.Ytmkoppbbenombaa
open Go.RowKit

def gCode (l : List Gu) : Int := if 400 < l.length then 2 else if gusOk l = true then 0 else 1
set_option maxRecDepth 100000 in
set_option maxHeartbeats 4000000 in
theorem listFaultG_any (l : List Gu) (v : Value) (w : World) (h : GusAt w v l) (hn : l.length ≤ 1048576) :
    Calls Try.prog 97 #[v, .func (.func 46) #[] #[]] w fun e w' => e = .returned (.int .i64 (gCode l)) ∧ Below w.heap.size w w' := by
  have HRR := Lib.hid (implGuestsRight_any l v w h hn)
  unfold GrPost at HRR
  unfold gCode
  obtain ⟨a, cap, rfl, _⟩ := h
  rw [List.length_map] at *
  generalize gusOk l = R at *
  generalize l.length = n at *
  by_cases h1 : 400 < n
  · rw [if_pos h1]
    have hg : (400 : Int) < (n : Int) := by omega
    go_enter Try.func97, Try.ntmps97
    go_wp2_with fail
    go_ret
    exact ⟨rfl, Below.refl _ _⟩
  · rw [if_neg h1]
    have hg : ¬ (400 : Int) < (n : Int) := by omega
    cases R
    all_goals
      go_enter Try.func97, Try.ntmps97
      go_wp2_with fail
      refine HRR.out.mono ?_
      rintro e w1 ⟨rfl, hb1⟩
      have HB := Lib.hid hb1
      clear hb1
      go_wp2_with fail
      go_ret
      exact ⟨rfl, HB.out⟩
theorem gCode_long {l : List Gu} (h : 400 < l.length) : gCode l = 2 := by rw [gCode, if_pos h]
theorem gCode_wrong {l : List Gu} (h : ¬ 400 < l.length) (h2 : gusOk l = false) : gCode l = 1 := by rw [gCode, if_neg h, if_neg (by simp [h2])]
theorem gCode_ok {l : List Gu} (h : ¬ 400 < l.length) (h2 : gusOk l = true) : gCode l = 0 := by rw [gCode, if_neg h, if_pos h2]
set_option maxRecDepth 100000 in
set_option maxHeartbeats 8000000 in
theorem implGuestsAge_any (l : List Gu) (v : Value) (now : Int) (w : World) (h : GusAt w v l) (hnb : l.length ≤ 1048576) :
    Calls Try.prog 61 #[v, .int .i64 now] w (GoPost (ageR l now) w) := by
  have hmf : ∀ (fn : Fn) (first cap : Array Value) (w : World), (Instr.makeFunc fn first cap).run Try.prog w = .ok (.func fn first cap) w := fun _ _ _ _ => rfl
  have XQ := Blk.new w 2 #[.int .i64 now]
  have X0 := Blk.new (w.alloc (.cells #[.int .i64 now] 2)) 65 #[.slice none 0 0, .slice none 0 0, .int .i64 0]
  rw [World.size_alloc] at X0
  replace XQ := XQ.alloc (.cells #[.slice none 0 0, .slice none 0 0, .int .i64 0] 65)
  have HB0 : Below w.heap.size w ((w.alloc (.cells #[.int .i64 now] 2)).alloc (.cells #[.slice none 0 0, .slice none 0 0, .int .i64 0] 65)) := ((Below.refl _ _).alloc (Nat.le_refl _) _).alloc (by simp) _
  have HF := Lib.hid (fun (W' : World) (hb : Below w.heap.size w W') => listFaultG_any l v W' (SlAt.kept h hb) hnb)
  have HP := Lib.hid (implTime_any now)
  have HW := gfault_way l (isTime now)
  have HLg := Lib.hid (fun h1 => ageR_long (l := l) (now := now) h1)
  have HWr := Lib.hid (fun h1 h2 => ageR_wrong (l := l) (now := now) h1 h2)
  have HAr := Lib.hid (fun h1 h2 => ageR_arg (l := l) (now := now) h1 h2)
  have HOk := Lib.hid (fun h1 h2 h3 => ageR_ok (l := l) (now := now) h1 h2 h3)
  have HTi := Lib.hid (fun h => time_in (n := now) h)
  have HPa := Lib.hid (fun (h8 : l.length ≤ 8) (h0 : 0 ≤ now) (h1 : now ≤ 1000000) (W' : World) (hb : Below w.heap.size w W') (hq : Blk W' w.heap.size 2 #[.int .i64 now]) => parted_any l v now w.heap.size W' (SlAt.kept h hb) h8 hq h0 h1)
  unfold PaPost at HPa
  obtain ⟨a, cap, rfl, h⟩ := h
  rw [List.length_map] at *
  clear h
  generalize ageR l now = S at *
  rcases HW with ⟨h1⟩ | ⟨h1, h2⟩ | ⟨h1, h2, h3⟩ | ⟨h1, h2, h3, h4⟩
  · have HR := Lib.hid (HLg.out h1)
    rw [gCode_long h1] at HF
    generalize l.length = n at *
    clear HLg HWr HAr HOk HTi HPa
    go_enter Try.func61, Try.ntmps61
    go_upto_region 1 with fail
    generalize (w.alloc (.cells #[.int .i64 now] 2)).alloc (.cells #[.slice none 0 0, .slice none 0 0, .int .i64 0] 65) = w0 at *
    go_wp2_with fail
    refine (HF.out _ HB0).mono ?_
    rintro x w1 ⟨rfl, hb1⟩
    have X1 := X0.kept hb1
    have HB1 := HB0.trans (hb1.mono HB0.size)
    have hc := X1.cell
    have hf := X1.frozen
    clear hb1
    go_wp2_with fail
    have HY := Lib.hid (fillO X1 HB1 (by omega) (.slice none 0 0) (.slice none 0 0) (.int .i64 2))
    generalize (((w1.setCell ⟨w.heap.size + 1, 0, none⟩ (.slice none 0 0)).setCell ⟨w.heap.size + 1, 1, none⟩ (.slice none 0 0)).setCell ⟨w.heap.size + 1, 2, none⟩ (.int .i64 2)) = w9 at *
    have hc9 := HY.out.1.cell
    refine bodyPost_ret (v := goV (.slice none 0 0) (.slice none 0 0) 2) (by simp [results, Try.results61, go_sem, goV, hc9]) rfl ?_
    exact GoPost.ill HR.out rfl HY.out.2
  · have HR := Lib.hid (HWr.out h1 h2)
    rw [gCode_wrong h1 h2] at HF
    generalize l.length = n at *
    clear HLg HWr HAr HOk HTi HPa
    go_enter Try.func61, Try.ntmps61
    go_upto_region 1 with fail
    generalize (w.alloc (.cells #[.int .i64 now] 2)).alloc (.cells #[.slice none 0 0, .slice none 0 0, .int .i64 0] 65) = w0 at *
    go_wp2_with fail
    refine (HF.out _ HB0).mono ?_
    rintro x w1 ⟨rfl, hb1⟩
    have X1 := X0.kept hb1
    have HB1 := HB0.trans (hb1.mono HB0.size)
    have hc := X1.cell
    have hf := X1.frozen
    clear hb1
    go_wp2_with fail
    have HY := Lib.hid (fillO X1 HB1 (by omega) (.slice none 0 0) (.slice none 0 0) (.int .i64 1))
    generalize (((w1.setCell ⟨w.heap.size + 1, 0, none⟩ (.slice none 0 0)).setCell ⟨w.heap.size + 1, 1, none⟩ (.slice none 0 0)).setCell ⟨w.heap.size + 1, 2, none⟩ (.int .i64 1)) = w9 at *
    have hc9 := HY.out.1.cell
    refine bodyPost_ret (v := goV (.slice none 0 0) (.slice none 0 0) 1) (by simp [results, Try.results61, go_sem, goV, hc9]) rfl ?_
    exact GoPost.ill HR.out rfl HY.out.2
  · have HR := Lib.hid (HAr.out h1 h3)
    rw [gCode_ok h1 h2] at HF
    rw [h3] at HP
    generalize l.length = n at *
    clear HLg HWr HAr HOk HTi HPa h2 h3
    go_enter Try.func61, Try.ntmps61
    go_upto_region 1 with fail
    generalize (w.alloc (.cells #[.int .i64 now] 2)).alloc (.cells #[.slice none 0 0, .slice none 0 0, .int .i64 0] 65) = w0 at *
    go_wp2_with fail
    refine (HF.out _ HB0).mono ?_
    rintro x w1 ⟨rfl, hb1⟩
    have X1 := X0.kept hb1
    have Q1 := XQ.kept hb1
    have HB1 := HB0.trans (hb1.mono HB0.size)
    have hc := X1.cell
    have hf := X1.frozen
    have hq := Q1.cell
    clear hb1
    go_wp2_with (go_at_call 104; refine (HP.out _).mono ?_; rintro x w4 ⟨rfl, rfl⟩)
    have HY := Lib.hid (fillO X1 HB1 (by omega) (.slice none 0 0) (.slice none 0 0) (.int .i64 1))
    generalize (((w1.setCell ⟨w.heap.size + 1, 0, none⟩ (.slice none 0 0)).setCell ⟨w.heap.size + 1, 1, none⟩ (.slice none 0 0)).setCell ⟨w.heap.size + 1, 2, none⟩ (.int .i64 1)) = w9 at *
    have hc9 := HY.out.1.cell
    refine bodyPost_ret (v := goV (.slice none 0 0) (.slice none 0 0) 1) (by simp [results, Try.results61, go_sem, goV, hc9]) rfl ?_
    exact GoPost.ill HR.out rfl HY.out.2
  · have HR := Lib.hid (HOk.out h1 h2 h3)
    obtain ⟨ht0, ht1⟩ := HTi.out h3
    have HPx := Lib.hid (HPa.out h4 ht0 ht1)
    rw [gCode_ok h1 h2] at HF
    rw [h3] at HP
    generalize l.length = n at *
    generalize stayL now l = K at *
    generalize goneL2 now l = G at *
    clear HLg HWr HAr HOk HTi HPa h2 h3
    go_enter Try.func61, Try.ntmps61
    go_upto_region 1 with fail
    generalize (w.alloc (.cells #[.int .i64 now] 2)).alloc (.cells #[.slice none 0 0, .slice none 0 0, .int .i64 0] 65) = w0 at *
    go_wp2_with fail
    refine (HF.out _ HB0).mono ?_
    rintro x w1 ⟨rfl, hb1⟩
    have X1 := X0.kept hb1
    have Q1 := XQ.kept hb1
    have HB1 := HB0.trans (hb1.mono HB0.size)
    have hq := Q1.cell
    clear hb1
    go_wp2_with (go_at_call 104; refine (HP.out _).mono ?_; rintro x w4 ⟨rfl, rfl⟩)
    refine (HPx.out _ HB1 Q1).mono ?_
    rintro x w2 ⟨y, t, rfl, HT⟩
    have X2 := X1.kept HT.bel
    have HB2 := HB1.trans (HT.bel.mono HB1.size)
    have HT2 : Two2 w w2 y t K G := ⟨rown_mono HT.ra HB1.size, rown_mono HT.rb HB1.size, HT.ap, HB2⟩
    have hc := X2.cell
    have hf := X2.frozen
    clear HT hq
    obtain ⟨ya, yc, rfl⟩ := rown_form HT2.ra
    obtain ⟨ta, tc, rfl⟩ := rown_form HT2.rb
    have HTH := Lib.hid HT2
    clear HT2
    go_wp2_with fail
    have HY2 := Lib.hid (fillO X2 HB2 (by omega) (.slice ya K.length yc) (.slice ta G.length tc) (.int .i64 0))
    have HT3 := Lib.hid (HTH.out.fillO (by omega) X2 (.slice ya K.length yc) (.slice ta G.length tc) (.int .i64 0))
    generalize (((w2.setCell ⟨w.heap.size + 1, 0, none⟩ (.slice ya K.length yc)).setCell ⟨w.heap.size + 1, 1, none⟩ (.slice ta G.length tc)).setCell ⟨w.heap.size + 1, 2, none⟩ (.int .i64 0)) = w9 at *
    have hc9 := HY2.out.1.cell
    refine bodyPost_ret (v := goV (.slice ya K.length yc) (.slice ta G.length tc) 0) (by simp [results, Try.results61, go_sem, goV, hc9]) rfl ?_
    rw [HR.out]
    exact GoPost.two (r := ⟨K, G, 0⟩) rfl HT3.out
end Go.Proofs.Ytmkoppbbenombaa
