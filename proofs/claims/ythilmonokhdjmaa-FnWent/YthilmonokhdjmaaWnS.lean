/- WentDrop, WentTrim, WentCount of the model. -/
import Derived.Test.YthilmonokhdjmaaWnA
import Derived.Test.YthilmonokhdjmaaMsR
import Derived.Test.YthilmonokhdjmaaCuM
namespace Go.Proofs.Ythilmonokhdjmaa
open Go.RowKit

set_option maxRecDepth 100000 in
set_option maxHeartbeats 4000000 in
theorem specDropIn_any (l : List Mv) (v0 : Value) (v m : Int) (w : World) (h : MvsAt w v0 l) (hn : l.length ≤ 30) :
    Calls Try.prog 98 #[v0, .int .i64 v, .int .i64 m] w (RowPost Mv.cl 34 3 (keepM (fun x => !ofG v m x) l) w) := by
  unfold RowPost
  have HZ : Hid (keepM (fun x => !ofG v m x) l = keepM (fun x => !ofG v m x) (l.take l.length)) := Lib.hid (by rw [List.take_length])
  obtain ⟨a, cap, rfl, h⟩ := h
  rw [List.length_map] at *
  have HH := Lib.hid h
  clear h
  have HLn := Lib.hid (fun i => keepM_len (fun x => !ofG v m x) l i)
  have HSc := Lib.hid (fun i hi => keepM_succ (fun x => !ofG v m x) l i hi)
  obtain ⟨n, hnn⟩ : ∃ n, n = l.length := ⟨_, rfl⟩
  rw [← hnn] at hn HZ HLn ⊢
  have HN := Lib.hid hnn
  clear hnn
  have HO0 : Hid ((w.alloc (.cells #[] 34)).ownsRow w.heap.size 34 3 (.slice (some ⟨w.heap.size, 0, none⟩) 0 0) (keepM (fun x => !ofG v m x) (l.take 0)).length (rcells Mv.cl (keepM (fun x => !ofG v m x) (l.take 0)))) := Lib.hid (World.ownsRow_lit (base := w.heap.size) (e := 34) (size := 3) w #[] 0 (by simp) (Nat.zero_le _) rfl)
  go_enter Try.func98, Try.ntmps98
  go_wp2_with fail
  go_loopw [8, 7] (fun u y wr => ∃ i : Nat, i ≤ n ∧ u = .int .i64 (i : Int) ∧ Hid (wr.ownsRow w.heap.size 34 3 y (keepM (fun x => !ofG v m x) (l.take i)).length (rcells Mv.cl (keepM (fun x => !ofG v m x) (l.take i)))) ∧ Hid (Below w.heap.size w wr)) (fun u _ _ => n - (intOf u).toNat)
  case atStart => exact ⟨0, Nat.zero_le _, rfl, HO0, Lib.hid ((Below.refl _ _).alloc (Nat.le_refl _) _)⟩
  case round =>
    clear HO0
    obtain ⟨i, hi, rfl, HO, HB⟩ := hrel
    by_cases hlt : i < n
    · have hir : i < l.length := by rw [← HN.out]; exact hlt
      have hne : l.map Mv.cl ≠ [] := fun e => by
        have := congrArg List.length e
        rw [List.length_map, ← HN.out] at this
        simp at this; omega
      obtain ⟨b, off, ha, hb, HE⟩ := HH.out hne
      subst ha
      have hl1 : (i : Int) < n := by omega
      obtain ⟨p0, p1, p2⟩ := (Elems.below HE HB.out hb).mv i hir
      have HS := Lib.hid (HSc.out i hir)
      have hl30 : (keepM (fun x => !ofG v m x) (l.take i)).length ≤ 30 := Nat.le_trans (HLn.out i) hn
      clear HE
      generalize l[i] = x at *
      generalize keepM (fun x => !ofG v m x) (l.take i) = pre at HO HS hl30
      have hown := HO.out
      obtain ⟨ya, yc, rfl⟩ := rown_form hown
      have hsz1 := HB.out.size
      clear HO
      obtain ⟨xv, xm, xt⟩ := x
      dsimp only at p0 p1 p2
      by_cases e1 : xv = v
      · subst e1
        by_cases e2 : xm = m
        · subst e2
          rw [if_neg (by simp [ofG])] at HS
          go_wp2_with fail
          go_roundw
          case rel => exact ⟨i + 1, by omega, by simp, by rw [HS.out]; exact Lib.hid hown, HB⟩
          case measure => simp [intOf]; omega
        · rw [if_pos (by simp [ofG, e2])] at HS
          go_wp2_with (at_builtin; refine wpList_append_row Mv.cl_len Mv.cl_one1 tyM _ rfl _ _ rfl w.heap.size _ pre (⟨xv, xm, xt⟩ : Mv) rfl (hown.alloc _) ⟨wr.heap.size, 0, none⟩ rfl (lit_cells wr #[.int .i64 xv, .int .i64 xm, .int .i64 xt] 34 (⟨xv, xm, xt⟩ : Mv) rfl) (by omega) (by simp; omega) ?_; intro a' c' n' w5 HN5 hown5 hg5; have HO5 := Lib.hid hown5; have HB5 : Hid (Below w.heap.size w w5) := Lib.hid (app_below HB.out hsz1 hown hg5); clear hown5 hg5)
          go_roundw
          case rel => exact ⟨i + 1, by omega, by simp, by rw [HS.out, ← HN5.out]; exact HO5, HB5⟩
          case measure => simp [intOf]; omega
      · rw [if_pos (by simp [ofG, e1])] at HS
        go_wp2_with (at_builtin; refine wpList_append_row Mv.cl_len Mv.cl_one1 tyM _ rfl _ _ rfl w.heap.size _ pre (⟨xv, xm, xt⟩ : Mv) rfl (hown.alloc _) ⟨wr.heap.size, 0, none⟩ rfl (lit_cells wr #[.int .i64 xv, .int .i64 xm, .int .i64 xt] 34 (⟨xv, xm, xt⟩ : Mv) rfl) (by omega) (by simp; omega) ?_; intro a' c' n' w5 HN5 hown5 hg5; have HO5 := Lib.hid hown5; have HB5 : Hid (Below w.heap.size w w5) := Lib.hid (app_below HB.out hsz1 hown hg5); clear hown5 hg5)
        go_roundw
        case rel => exact ⟨i + 1, by omega, by simp, by rw [HS.out, ← HN5.out]; exact HO5, HB5⟩
        case measure => simp [intOf]; omega
    · have hin : i = n := by omega
      subst hin
      obtain ⟨ya, yc, rfl⟩ := rown_form HO.out
      go_wp2_with fail
      go_ret
      exact ⟨_, rfl, by rw [HZ.out]; exact HO.out, HB.out⟩
set_option maxRecDepth 100000 in
set_option maxHeartbeats 4000000 in
theorem specTrimIn_any (l : List Mv) (v0 : Value) (now : Int) (w : World) (h : MvsAt w v0 l) (hn : l.length ≤ 30) (ht0 : 0 ≤ now) (ht1 : now ≤ 1000000) :
    Calls Try.prog 97 #[v0, .int .i64 now] w (RowPost Mv.cl 34 3 (keepM (lateG now) l) w) := by
  unfold RowPost
  have hw30 : IntKind.i64.wrap (now - 30) = now - 30 := by simp only [IntKind.wrap_i64]; omega
  have HZ : Hid (keepM (lateG now) l = keepM (lateG now) (l.take l.length)) := Lib.hid (by rw [List.take_length])
  obtain ⟨a, cap, rfl, h⟩ := h
  rw [List.length_map] at *
  have HH := Lib.hid h
  clear h
  have HLn := Lib.hid (fun i => keepM_len (lateG now) l i)
  have HSc := Lib.hid (fun i hi => keepM_succ (lateG now) l i hi)
  obtain ⟨n, hnn⟩ : ∃ n, n = l.length := ⟨_, rfl⟩
  rw [← hnn] at hn HZ HLn ⊢
  have HN := Lib.hid hnn
  clear hnn
  have HO0 : Hid ((w.alloc (.cells #[] 34)).ownsRow w.heap.size 34 3 (.slice (some ⟨w.heap.size, 0, none⟩) 0 0) (keepM (lateG now) (l.take 0)).length (rcells Mv.cl (keepM (lateG now) (l.take 0)))) := Lib.hid (World.ownsRow_lit (base := w.heap.size) (e := 34) (size := 3) w #[] 0 (by simp) (Nat.zero_le _) rfl)
  go_enter Try.func97, Try.ntmps97
  go_wp2_with fail
  go_loopw [6, 5] (fun u y wr => ∃ i : Nat, i ≤ n ∧ u = .int .i64 (i : Int) ∧ Hid (wr.ownsRow w.heap.size 34 3 y (keepM (lateG now) (l.take i)).length (rcells Mv.cl (keepM (lateG now) (l.take i)))) ∧ Hid (Below w.heap.size w wr)) (fun u _ _ => n - (intOf u).toNat)
  case atStart => exact ⟨0, Nat.zero_le _, rfl, HO0, Lib.hid ((Below.refl _ _).alloc (Nat.le_refl _) _)⟩
  case round =>
    clear HO0
    obtain ⟨i, hi, rfl, HO, HB⟩ := hrel
    by_cases hlt : i < n
    · have hir : i < l.length := by rw [← HN.out]; exact hlt
      have hne : l.map Mv.cl ≠ [] := fun e => by
        have := congrArg List.length e
        rw [List.length_map, ← HN.out] at this
        simp at this; omega
      obtain ⟨b, off, ha, hb, HE⟩ := HH.out hne
      subst ha
      have hl1 : (i : Int) < n := by omega
      obtain ⟨p0, p1, p2⟩ := (Elems.below HE HB.out hb).mv i hir
      have HS := Lib.hid (HSc.out i hir)
      have hl30 : (keepM (lateG now) (l.take i)).length ≤ 30 := Nat.le_trans (HLn.out i) hn
      clear HE
      generalize l[i] = x at *
      generalize keepM (lateG now) (l.take i) = pre at HO HS hl30
      have hown := HO.out
      obtain ⟨ya, yc, rfl⟩ := rown_form hown
      have hsz1 := HB.out.size
      clear HO
      obtain ⟨xv, xm, xt⟩ := x
      dsimp only at p0 p1 p2
      by_cases e1 : now - 30 < xt
      · rw [if_pos (by simp [lateG, e1])] at HS
        go_wp2_with (at_builtin; refine wpList_append_row Mv.cl_len Mv.cl_one1 tyM _ rfl _ _ rfl w.heap.size _ pre (⟨xv, xm, xt⟩ : Mv) rfl (hown.alloc _) ⟨wr.heap.size, 0, none⟩ rfl (lit_cells wr #[.int .i64 xv, .int .i64 xm, .int .i64 xt] 34 (⟨xv, xm, xt⟩ : Mv) rfl) (by omega) (by simp; omega) ?_; intro a' c' n' w5 HN5 hown5 hg5; have HO5 := Lib.hid hown5; have HB5 : Hid (Below w.heap.size w w5) := Lib.hid (app_below HB.out hsz1 hown hg5); clear hown5 hg5)
        go_roundw
        case rel => exact ⟨i + 1, by omega, by simp, by rw [HS.out, ← HN5.out]; exact HO5, HB5⟩
        case measure => simp [intOf]; omega
      · rw [if_neg (by simp [lateG]; omega)] at HS
        go_wp2_with fail
        go_roundw
        case rel => exact ⟨i + 1, by omega, by simp, by rw [HS.out]; exact Lib.hid hown, HB⟩
        case measure => simp [intOf]; omega
    · have hin : i = n := by omega
      subst hin
      obtain ⟨ya, yc, rfl⟩ := rown_form HO.out
      go_wp2_with fail
      go_ret
      exact ⟨_, rfl, by rw [HZ.out]; exact HO.out, HB.out⟩
def cntL (p : Mv → Bool) (l : List Mv) : Nat := (keepM p l).length
theorem cntL_succ (p : Mv → Bool) (l : List Mv) (i : Nat) (hi : i < l.length) : cntL p (l.take (i + 1)) = if p l[i] = true then cntL p (l.take i) + 1 else cntL p (l.take i) := by
  unfold cntL
  rw [keepM_succ p l i hi]
  split <;> simp
theorem cntL_len (p : Mv → Bool) (l : List Mv) (i : Nat) : cntL p (l.take i) ≤ l.length := keepM_len p l i
def cntP (v m now : Int) (x : Mv) : Bool := ofG v m x && lateG now x
set_option maxRecDepth 100000 in
set_option maxHeartbeats 4000000 in
theorem specCountIn_any (l : List Mv) (v0 : Value) (v m now : Int) (w : World) (h : MvsAt w v0 l) (hn : l.length ≤ 30) (ht0 : 0 ≤ now) (ht1 : now ≤ 1000000) :
    Calls Try.prog 93 #[v0, .int .i64 v, .int .i64 m, .int .i64 now] w fun e w' => e = .returned (.int .i64 (cntL (cntP v m now) l : Nat)) ∧ w = w' := by
  have hw30 : IntKind.i64.wrap (now - 30) = now - 30 := by simp only [IntKind.wrap_i64]; omega
  have HZ : Hid (cntL (cntP v m now) l = cntL (cntP v m now) (l.take l.length)) := Lib.hid (by rw [List.take_length])
  obtain ⟨a, cap, rfl, h⟩ := h
  rw [List.length_map] at *
  have HH := Lib.hid h
  clear h
  have HLn := Lib.hid (fun i => cntL_len (cntP v m now) l i)
  have HSc := Lib.hid (fun i hi => cntL_succ (cntP v m now) l i hi)
  obtain ⟨n, hnn⟩ : ∃ n, n = l.length := ⟨_, rfl⟩
  rw [← hnn] at hn HZ HLn ⊢
  have HN := Lib.hid hnn
  clear hnn
  go_enter Try.func93, Try.ntmps93
  go_wp2_with fail
  go_loopw [10, 9] (fun u y wr => ∃ i : Nat, i ≤ n ∧ u = .int .i64 (i : Int) ∧ y = .int .i64 ((cntL (cntP v m now) (l.take i) : Nat) : Int) ∧ Hid (w = wr)) (fun u _ _ => n - (intOf u).toNat)
  case atStart => exact ⟨0, Nat.zero_le _, rfl, rfl, Lib.hid rfl⟩
  case round =>
    obtain ⟨i, hi, rfl, rfl, HB⟩ := hrel
    have hww := HB.out
    clear HB
    subst hww
    by_cases hlt : i < n
    · have hir : i < l.length := by rw [← HN.out]; exact hlt
      have hne : l.map Mv.cl ≠ [] := fun e => by
        have := congrArg List.length e
        rw [List.length_map, ← HN.out] at this
        simp at this; omega
      obtain ⟨b, off, ha, hb, HE⟩ := HH.out hne
      subst ha
      have hl1 : (i : Int) < n := by omega
      obtain ⟨p0, p1, p2⟩ := HE.mv i hir
      have HS := Lib.hid (HSc.out i hir)
      have hl30 : cntL (cntP v m now) (l.take i) ≤ 30 := Nat.le_trans (HLn.out i) hn
      clear HE
      generalize l[i] = x at *
      generalize cntL (cntP v m now) (l.take i) = c at HS hl30 ⊢
      obtain ⟨xv, xm, xt⟩ := x
      dsimp only at p0 p1 p2
      by_cases e1 : xv = v
      · subst e1
        by_cases e2 : xm = m
        · subst e2
          by_cases e3 : now - 30 < xt
          · rw [if_pos (by simp [cntP, ofG, lateG, e3])] at HS
            go_wp2_with fail
            go_roundw
            case rel => exact ⟨i + 1, by omega, by simp, by rw [HS.out]; simp, Lib.hid trivial⟩
            case measure => simp [intOf]; omega
          · rw [if_neg (by simp [cntP, ofG, lateG]; omega)] at HS
            go_wp2_with fail
            go_roundw
            case rel => exact ⟨i + 1, by omega, by simp, by rw [HS.out], Lib.hid trivial⟩
            case measure => simp [intOf]; omega
        · rw [if_neg (by simp [cntP, ofG, e2])] at HS
          go_wp2_with fail
          go_roundw
          case rel => exact ⟨i + 1, by omega, by simp, by rw [HS.out], Lib.hid trivial⟩
          case measure => simp [intOf]; omega
      · rw [if_neg (by simp [cntP, ofG, e1])] at HS
        go_wp2_with fail
        go_roundw
        case rel => exact ⟨i + 1, by omega, by simp, by rw [HS.out], Lib.hid trivial⟩
        case measure => simp [intOf]; omega
    · have hin : i = n := by omega
      subst hin
      go_wp2_with fail
      go_ret
      exact ⟨i64_ret (by rw [HZ.out]), rfl⟩
theorem cntR_no {l : List Mv} {v m now : Int} (h : mvsOk l = false ∨ isTime now = false) : cntR l v m now = 0 := by
  unfold cntR
  rw [if_neg]
  rintro ⟨h1, h2⟩
  rcases h with h | h
  · rw [h1] at h; cases h
  · rw [h2] at h; cases h
theorem cntR_yes {l : List Mv} {v m now : Int} (h : mvsOk l = true) (h2 : isTime now = true) : cntR l v m now = (cntL (cntP v m now) l : Nat) := by
  unfold cntR
  rw [if_pos ⟨h, h2⟩]
  rfl
set_option maxHeartbeats 2000000 in
theorem specWentCount_any (l : List Mv) (v0 : Value) (v m now : Int) (w : World) (h : MvsAt w v0 l) (hnb : l.length ≤ 1048576) :
    Calls Try.prog 27 #[v0, .int .i64 v, .int .i64 m, .int .i64 now] w fun e w' => e = .returned (.int .i64 (cntR l v m now)) ∧ Below w.heap.size w w' := by
  have HRR := Lib.hid (specWentRight_any l v0 w h hnb)
  have HP := Lib.hid (specTime_any now)
  have HIn := Lib.hid (fun (h30 : l.length ≤ 30) (ht0 : 0 ≤ now) (ht1 : now ≤ 1000000) (W' : World) (hb : Below w.heap.size w W') => specCountIn_any l v0 v m now W' (SlAt.kept h hb) h30 ht0 ht1)
  have HL := Lib.hid (fun (h : mvsOk l = true) => mvsOk_len h)
  have HTi := Lib.hid (fun h => wtime_in (n := now) h)
  have HNo := Lib.hid (fun h => cntR_no (l := l) (v := v) (m := m) (now := now) h)
  have HYes := Lib.hid (fun h h2 => cntR_yes (l := l) (v := v) (m := m) (now := now) h h2)
  unfold MrPost at HRR
  obtain ⟨a, cap, rfl, _⟩ := h
  rw [List.length_map] at *
  generalize cntR l v m now = R at *
  cases h1 : mvsOk l
  · have HR := Lib.hid (HNo.out (.inl h1))
    rw [h1] at HRR
    clear HNo HYes HL HIn HTi h1
    go_enter Try.func27, Try.ntmps27
    go_wp2_with (first | (go_at_call 16; refine HRR.out.mono ?_; rintro e w1 ⟨rfl, hb1⟩; have HB := Lib.hid hb1; clear hb1) | (go_at_call 92; refine (HP.out _).mono ?_; rintro e w2 ⟨rfl, rfl⟩))
    go_ret
    exact ⟨i64_ret (by rw [HR.out]), HB.out⟩
  cases h2 : isTime now
  · have HR := Lib.hid (HNo.out (.inr h2))
    rw [h1] at HRR
    rw [h2] at HP
    clear HNo HYes HL HIn HTi h1 h2
    go_enter Try.func27, Try.ntmps27
    go_wp2_with (first | (go_at_call 16; refine HRR.out.mono ?_; rintro e w1 ⟨rfl, hb1⟩; have HB := Lib.hid hb1; clear hb1) | (go_at_call 92; refine (HP.out _).mono ?_; rintro e w2 ⟨rfl, rfl⟩))
    go_ret
    exact ⟨i64_ret (by rw [HR.out]), HB.out⟩
  · have HR := Lib.hid (HYes.out h1 h2)
    obtain ⟨ht0, ht1⟩ := HTi.out h2
    have HIx := Lib.hid (HIn.out (HL.out h1) ht0 ht1)
    rw [h1] at HRR
    rw [h2] at HP
    clear HNo HYes HL HIn HTi h1 h2
    generalize cntL (cntP v m now) l = c at *
    go_enter Try.func27, Try.ntmps27
    go_wp2_with (first | (go_at_call 16; refine HRR.out.mono ?_; rintro e w1 ⟨rfl, hb1⟩; have HB := Lib.hid hb1; clear hb1) | (go_at_call 92; refine (HP.out _).mono ?_; rintro e w2 ⟨rfl, rfl⟩) | (go_at_call 93; refine (HIx.out _ HB.out).mono ?_; rintro e w3 ⟨rfl, rfl⟩))
    go_ret
    exact ⟨i64_ret (by rw [HR.out]), HB.out⟩
set_option maxRecDepth 100000 in
set_option maxHeartbeats 8000000 in
theorem specWentDrop_any (l : List Mv) (v0 : Value) (v m : Int) (w : World) (h : MvsAt w v0 l) (hnb : l.length ≤ 1048576) :
    Calls Try.prog 31 #[v0, .int .i64 v, .int .i64 m] w (WoPost (dropR l v m) w) := by
  have X0 := Blk.new w 32 #[.slice none 0 0, .int .i64 0]
  have HB0 : Below w.heap.size w (w.alloc (.cells #[.slice none 0 0, .int .i64 0] 32)) := (Below.refl _ _).alloc (Nat.le_refl _) _
  have HRR := Lib.hid (fun (W' : World) (hb : Below w.heap.size w W') => specWentRight_any l v0 W' (SlAt.kept h hb) hnb)
  have HQ := Lib.hid (fun (c : Int) => specIll8_any c)
  have HW := wfault_way l true
  have HLg := Lib.hid (fun h1 => dropR_long (l := l) (v := v) (m := m) h1)
  have HWr := Lib.hid (fun h1 h2 => dropR_wrong (l := l) (v := v) (m := m) h1 h2)
  have HOk := Lib.hid (fun h1 h2  => dropR_ok (l := l) (v := v) (m := m) h1 h2 )
  have HIn := Lib.hid (fun (h30 : l.length ≤ 30) (W' : World) (hb : Below w.heap.size w W') => specDropIn_any l v0 v m W' (SlAt.kept h hb) h30)
  unfold MrPost at HRR
  unfold RowPost at HIn
  unfold woV at HQ
  obtain ⟨a, cap, rfl, h⟩ := h
  rw [List.length_map] at *
  clear h
  generalize dropR l v m = S at *
  rcases HW with ⟨h1⟩ | ⟨h1, h2⟩ | ⟨h1, h2, h3⟩ | ⟨h1, h2, h3, h4⟩
  · have HR := Lib.hid (HLg.out h1)
    have hg : (400 : Int) < (l.length : Int) := by omega
    generalize l.length = n at *
    go_enter Try.func31, Try.ntmps31
    go_upto_region 1 with fail
    generalize w.alloc (.cells #[.slice none 0 0, .int .i64 0] 32) = w0 at *
    go_wp2_with (go_at_call 87; refine (HQ.out _ _).mono ?_; rintro x w1 ⟨rfl, hb1⟩; have X1 := X0.kept hb1; have hc := X1.cell; have hf := X1.frozen; have HB1 := HB0.trans (hb1.mono HB0.size); clear hb1)
    have HY := Lib.hid (fillW X1 HB1 (Nat.le_refl _) (.slice none 0 0) (.int .i64 2))
    generalize ((w1.setCell ⟨w.heap.size, 0, none⟩ (.slice none 0 0)).setCell ⟨w.heap.size, 1, none⟩ (.int .i64 2)) = w2 at *
    have hc2 := HY.out.1.cell
    refine bodyPost_ret (v := woV (.slice none 0 0) 2) (by simp [results, Try.results31, go_sem, woV, hc2]) rfl ?_
    exact WoPost.ill HR.out rfl HY.out.2
  · have HR := Lib.hid (HWr.out h1 h2)
    rw [h2] at HRR
    have hg : ¬ (400 : Int) < (l.length : Int) := by omega
    generalize l.length = n at *
    clear h2
    go_enter Try.func31, Try.ntmps31
    go_upto_region 1 with fail
    generalize w.alloc (.cells #[.slice none 0 0, .int .i64 0] 32) = w0 at *
    go_wp2_with (first | (go_at_call 16; refine (HRR.out _ HB0).mono ?_; rintro x w3 ⟨rfl, hb3⟩; have X3 := X0.kept hb3; have HB3 := HB0.trans (hb3.mono HB0.size); clear hb3) | (go_at_call 87; refine (HQ.out _ _).mono ?_; rintro x w1 ⟨rfl, hb1⟩; have X1 := X3.kept hb1; have hc := X1.cell; have hf := X1.frozen; have HB1 := HB3.trans (hb1.mono HB3.size); clear hb1))
    have HY := Lib.hid (fillW X1 HB1 (Nat.le_refl _) (.slice none 0 0) (.int .i64 1))
    generalize ((w1.setCell ⟨w.heap.size, 0, none⟩ (.slice none 0 0)).setCell ⟨w.heap.size, 1, none⟩ (.int .i64 1)) = w2 at *
    have hc2 := HY.out.1.cell
    refine bodyPost_ret (v := woV (.slice none 0 0) 1) (by simp [results, Try.results31, go_sem, woV, hc2]) rfl ?_
    exact WoPost.ill HR.out rfl HY.out.2
  · cases h3
  · have HR := Lib.hid (HOk.out h1 h2 )
    have HIx := Lib.hid (HIn.out h4)
    rw [h2] at HRR
    clear h3
    have hg : ¬ (400 : Int) < (l.length : Int) := by omega
    generalize l.length = n at *
    generalize keepM (fun x => !ofG v m x) l = K at *
    clear h2 HLg HWr HOk HQ HIn
    go_enter Try.func31, Try.ntmps31
    go_upto_region 1 with fail
    generalize w.alloc (.cells #[.slice none 0 0, .int .i64 0] 32) = w0 at *
    go_upto_region 5 with (first | (go_at_call 16; refine (HRR.out _ HB0).mono ?_; rintro x w3 ⟨rfl, hb3⟩; have X3 := X0.kept hb3; have HB3 := HB0.trans (hb3.mono HB0.size); clear hb3))
    go_wp2_with (go_at_call 98; refine (HIx.out _ HB3).mono ?_; rintro x w4 ⟨v4, rfl, ho4, hb4⟩; obtain ⟨ya, yc, rfl⟩ := rown_form ho4; have X4 := X3.kept hb4; have HB4 := HB3.trans (hb4.mono HB3.size); have HO4 := Lib.hid (rown_mono (B' := w.heap.size) ho4 HB3.size); have hc := X4.cell; have hf := X4.frozen; clear ho4 hb4)
    have HY := Lib.hid (fillW X4 HB4 (Nat.le_refl _) (.slice ya K.length yc) (.int .i64 0))
    have HO5 := Lib.hid (rowW_fill HO4.out X4 (by decide) (.slice ya K.length yc) (.int .i64 0))
    generalize ((w4.setCell ⟨w.heap.size, 0, none⟩ (.slice ya K.length yc)).setCell ⟨w.heap.size, 1, none⟩ (.int .i64 0)) = w5 at *
    have hc2 := HY.out.1.cell
    refine bodyPost_ret (v := woV (.slice ya K.length yc) 0) (by simp [results, Try.results31, go_sem, woV, hc2]) rfl ?_
    rw [HR.out]
    exact WoPost.own (r := ⟨K, 0⟩) rfl HO5.out HY.out.2
set_option maxRecDepth 100000 in
set_option maxHeartbeats 8000000 in
theorem specWentTrim_any (l : List Mv) (v0 : Value) (now : Int) (w : World) (h : MvsAt w v0 l) (hnb : l.length ≤ 1048576) :
    Calls Try.prog 29 #[v0, .int .i64 now] w (WoPost (trimR l now) w) := by
  have X0 := Blk.new w 32 #[.slice none 0 0, .int .i64 0]
  have HB0 : Below w.heap.size w (w.alloc (.cells #[.slice none 0 0, .int .i64 0] 32)) := (Below.refl _ _).alloc (Nat.le_refl _) _
  have HRR := Lib.hid (fun (W' : World) (hb : Below w.heap.size w W') => specWentRight_any l v0 W' (SlAt.kept h hb) hnb)
  have HP := Lib.hid (specTime_any now)
  have HQ := Lib.hid (fun (c : Int) => specIll8_any c)
  have HW := wfault_way l (isTime now)
  have HLg := Lib.hid (fun h1 => trimR_long (l := l) (now := now) h1)
  have HWr := Lib.hid (fun h1 h2 => trimR_wrong (l := l) (now := now) h1 h2)
  have HAr := Lib.hid (fun h1 h3 => trimR_arg (l := l) (now := now) h1 h3)
  have HOk := Lib.hid (fun h1 h2 h3 => trimR_ok (l := l) (now := now) h1 h2 h3)
  have HTi := Lib.hid (fun h => wtime_in (n := now) h)
  have HIn := Lib.hid (fun (h30 : l.length ≤ 30) (h0 : 0 ≤ now) (h1 : now ≤ 1000000) (W' : World) (hb : Below w.heap.size w W') => specTrimIn_any l v0 now W' (SlAt.kept h hb) h30 h0 h1)
  unfold MrPost at HRR
  unfold RowPost at HIn
  unfold woV at HQ
  obtain ⟨a, cap, rfl, h⟩ := h
  rw [List.length_map] at *
  clear h
  generalize trimR l now = S at *
  rcases HW with ⟨h1⟩ | ⟨h1, h2⟩ | ⟨h1, h2, h3⟩ | ⟨h1, h2, h3, h4⟩
  · have HR := Lib.hid (HLg.out h1)
    have hg : (400 : Int) < (l.length : Int) := by omega
    generalize l.length = n at *
    go_enter Try.func29, Try.ntmps29
    go_upto_region 1 with fail
    generalize w.alloc (.cells #[.slice none 0 0, .int .i64 0] 32) = w0 at *
    go_wp2_with (go_at_call 87; refine (HQ.out _ _).mono ?_; rintro x w1 ⟨rfl, hb1⟩; have X1 := X0.kept hb1; have hc := X1.cell; have hf := X1.frozen; have HB1 := HB0.trans (hb1.mono HB0.size); clear hb1)
    have HY := Lib.hid (fillW X1 HB1 (Nat.le_refl _) (.slice none 0 0) (.int .i64 2))
    generalize ((w1.setCell ⟨w.heap.size, 0, none⟩ (.slice none 0 0)).setCell ⟨w.heap.size, 1, none⟩ (.int .i64 2)) = w2 at *
    have hc2 := HY.out.1.cell
    refine bodyPost_ret (v := woV (.slice none 0 0) 2) (by simp [results, Try.results29, go_sem, woV, hc2]) rfl ?_
    exact WoPost.ill HR.out rfl HY.out.2
  · have HR := Lib.hid (HWr.out h1 h2)
    rw [h2] at HRR
    have hg : ¬ (400 : Int) < (l.length : Int) := by omega
    generalize l.length = n at *
    clear h2
    go_enter Try.func29, Try.ntmps29
    go_upto_region 1 with fail
    generalize w.alloc (.cells #[.slice none 0 0, .int .i64 0] 32) = w0 at *
    go_wp2_with (first | (go_at_call 16; refine (HRR.out _ HB0).mono ?_; rintro x w3 ⟨rfl, hb3⟩; have X3 := X0.kept hb3; have HB3 := HB0.trans (hb3.mono HB0.size); clear hb3) | (go_at_call 92; refine (HP.out _).mono ?_; rintro x w4 ⟨rfl, rfl⟩) | (go_at_call 87; refine (HQ.out _ _).mono ?_; rintro x w1 ⟨rfl, hb1⟩; have X1 := X3.kept hb1; have hc := X1.cell; have hf := X1.frozen; have HB1 := HB3.trans (hb1.mono HB3.size); clear hb1))
    have HY := Lib.hid (fillW X1 HB1 (Nat.le_refl _) (.slice none 0 0) (.int .i64 1))
    generalize ((w1.setCell ⟨w.heap.size, 0, none⟩ (.slice none 0 0)).setCell ⟨w.heap.size, 1, none⟩ (.int .i64 1)) = w2 at *
    have hc2 := HY.out.1.cell
    refine bodyPost_ret (v := woV (.slice none 0 0) 1) (by simp [results, Try.results29, go_sem, woV, hc2]) rfl ?_
    exact WoPost.ill HR.out rfl HY.out.2
  · have HR := Lib.hid (HAr.out h1 h3)
    rw [h2] at HRR
    rw [h3] at HP
    have hg : ¬ (400 : Int) < (l.length : Int) := by omega
    generalize l.length = n at *
    clear h2 h3
    go_enter Try.func29, Try.ntmps29
    go_upto_region 1 with fail
    generalize w.alloc (.cells #[.slice none 0 0, .int .i64 0] 32) = w0 at *
    go_wp2_with (first | (go_at_call 16; refine (HRR.out _ HB0).mono ?_; rintro x w3 ⟨rfl, hb3⟩; have X3 := X0.kept hb3; have HB3 := HB0.trans (hb3.mono HB0.size); clear hb3) | (go_at_call 92; refine (HP.out _).mono ?_; rintro x w4 ⟨rfl, rfl⟩) | (go_at_call 87; refine (HQ.out _ _).mono ?_; rintro x w1 ⟨rfl, hb1⟩; have X1 := X3.kept hb1; have hc := X1.cell; have hf := X1.frozen; have HB1 := HB3.trans (hb1.mono HB3.size); clear hb1))
    have HY := Lib.hid (fillW X1 HB1 (Nat.le_refl _) (.slice none 0 0) (.int .i64 1))
    generalize ((w1.setCell ⟨w.heap.size, 0, none⟩ (.slice none 0 0)).setCell ⟨w.heap.size, 1, none⟩ (.int .i64 1)) = w2 at *
    have hc2 := HY.out.1.cell
    refine bodyPost_ret (v := woV (.slice none 0 0) 1) (by simp [results, Try.results29, go_sem, woV, hc2]) rfl ?_
    exact WoPost.ill HR.out rfl HY.out.2
  · have HR := Lib.hid (HOk.out h1 h2 h3)
    obtain ⟨ht0, ht1⟩ := HTi.out h3
    have HIx := Lib.hid (HIn.out h4 ht0 ht1)
    rw [h2] at HRR
    rw [h3] at HP
    clear h3
    have hg : ¬ (400 : Int) < (l.length : Int) := by omega
    generalize l.length = n at *
    generalize keepM (lateG now) l = K at *
    clear h2 HLg HWr HOk HQ HIn
    go_enter Try.func29, Try.ntmps29
    go_upto_region 1 with fail
    generalize w.alloc (.cells #[.slice none 0 0, .int .i64 0] 32) = w0 at *
    go_upto_region 5 with (first | (go_at_call 16; refine (HRR.out _ HB0).mono ?_; rintro x w3 ⟨rfl, hb3⟩; have X3 := X0.kept hb3; have HB3 := HB0.trans (hb3.mono HB0.size); clear hb3) | (go_at_call 92; refine (HP.out _).mono ?_; rintro x w4 ⟨rfl, rfl⟩))
    go_wp2_with (go_at_call 97; refine (HIx.out _ HB3).mono ?_; rintro x w4 ⟨v4, rfl, ho4, hb4⟩; obtain ⟨ya, yc, rfl⟩ := rown_form ho4; have X4 := X3.kept hb4; have HB4 := HB3.trans (hb4.mono HB3.size); have HO4 := Lib.hid (rown_mono (B' := w.heap.size) ho4 HB3.size); have hc := X4.cell; have hf := X4.frozen; clear ho4 hb4)
    have HY := Lib.hid (fillW X4 HB4 (Nat.le_refl _) (.slice ya K.length yc) (.int .i64 0))
    have HO5 := Lib.hid (rowW_fill HO4.out X4 (by decide) (.slice ya K.length yc) (.int .i64 0))
    generalize ((w4.setCell ⟨w.heap.size, 0, none⟩ (.slice ya K.length yc)).setCell ⟨w.heap.size, 1, none⟩ (.int .i64 0)) = w5 at *
    have hc2 := HY.out.1.cell
    refine bodyPost_ret (v := woV (.slice ya K.length yc) 0) (by simp [results, Try.results29, go_sem, woV, hc2]) rfl ?_
    rw [HR.out]
    exact WoPost.own (r := ⟨K, 0⟩) rfl HO5.out HY.out.2
end Go.Proofs.Ythilmonokhdjmaa
