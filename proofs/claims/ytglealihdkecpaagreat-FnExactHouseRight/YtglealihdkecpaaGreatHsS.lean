/- Sizes of the lists of a house, whatever is left; a law's own integers turned. -/
import Derived.Test.YtglealihdkecpaaGreatHsP
import Derived.Test.YtglealihdkecpaaGreatRIv
namespace Go.Proofs.YtglealihdkecpaaGreat
open Go.RowKit Go.WideShapes Go.ChangeShapes

set_option maxHeartbeats 1000000 in
theorem szInt64L_any (v : Value) (vs : List (List Value)) (L : Int) (w : World) (h : SlAt w 1 v vs) (hm : vs.length ≤ maxLen) (h0 : 0 ≤ L) (h1 : L ≤ 1048576) :
    Calls Tryz.prog 36 #[v, .int .i64 L] w fun e w' => e = .returned (.int .i64 (if L < vs.length then -1 else L - vs.length)) ∧ w = w' := by
  obtain ⟨a, cap, rfl, _⟩ := h
  unfold maxLen at hm
  have hw : IntKind.i64.wrap (L - (vs.length : Int)) = L - (vs.length : Int) := by simp only [IntKind.wrap_i64]; omega
  by_cases hb : L < vs.length
  · rw [if_pos hb]
    have hneg : (L - (vs.length : Int) : Int) < 0 := by omega
    go_enter Tryz.func36, Tryz.ntmps36
    go_wp2
    go_ret
    exact ⟨rfl, rfl⟩
  · rw [if_neg hb]
    have hneg : ¬ (L - (vs.length : Int) : Int) < 0 := by omega
    go_enter Tryz.func36, Tryz.ntmps36
    go_wp2
    go_ret
    exact ⟨rfl, rfl⟩
set_option maxHeartbeats 1000000 in
theorem szHeldL_any (v : Value) (vs : List (List Value)) (L : Int) (w : World) (h : SlAt w 9 v vs) (hm : vs.length ≤ maxLen) (h0 : 0 ≤ L) (h1 : L ≤ 1048576) :
    Calls Tryz.prog 38 #[v, .int .i64 L] w fun e w' => e = .returned (.int .i64 (if L < vs.length then -1 else L - vs.length)) ∧ w = w' := by
  obtain ⟨a, cap, rfl, _⟩ := h
  unfold maxLen at hm
  have hw : IntKind.i64.wrap (L - (vs.length : Int)) = L - (vs.length : Int) := by simp only [IntKind.wrap_i64]; omega
  by_cases hb : L < vs.length
  · rw [if_pos hb]
    have hneg : (L - (vs.length : Int) : Int) < 0 := by omega
    go_enter Tryz.func38, Tryz.ntmps38
    go_wp2
    go_ret
    exact ⟨rfl, rfl⟩
  · rw [if_neg hb]
    have hneg : ¬ (L - (vs.length : Int) : Int) < 0 := by omega
    go_enter Tryz.func38, Tryz.ntmps38
    go_wp2
    go_ret
    exact ⟨rfl, rfl⟩
set_option maxHeartbeats 1000000 in
theorem szGuestL_any (v : Value) (vs : List (List Value)) (L : Int) (w : World) (h : SlAt w 7 v vs) (hm : vs.length ≤ maxLen) (h0 : 0 ≤ L) (h1 : L ≤ 1048576) :
    Calls Tryz.prog 39 #[v, .int .i64 L] w fun e w' => e = .returned (.int .i64 (if L < vs.length then -1 else L - vs.length)) ∧ w = w' := by
  obtain ⟨a, cap, rfl, _⟩ := h
  unfold maxLen at hm
  have hw : IntKind.i64.wrap (L - (vs.length : Int)) = L - (vs.length : Int) := by simp only [IntKind.wrap_i64]; omega
  by_cases hb : L < vs.length
  · rw [if_pos hb]
    have hneg : (L - (vs.length : Int) : Int) < 0 := by omega
    go_enter Tryz.func39, Tryz.ntmps39
    go_wp2
    go_ret
    exact ⟨rfl, rfl⟩
  · rw [if_neg hb]
    have hneg : ¬ (L - (vs.length : Int) : Int) < 0 := by omega
    go_enter Tryz.func39, Tryz.ntmps39
    go_wp2
    go_ret
    exact ⟨rfl, rfl⟩
set_option maxHeartbeats 1000000 in
theorem szWentL_any (v : Value) (vs : List (List Value)) (L : Int) (w : World) (h : SlAt w 3 v vs) (hm : vs.length ≤ maxLen) (h0 : 0 ≤ L) (h1 : L ≤ 1048576) :
    Calls Tryz.prog 40 #[v, .int .i64 L] w fun e w' => e = .returned (.int .i64 (if L < vs.length then -1 else L - vs.length)) ∧ w = w' := by
  obtain ⟨a, cap, rfl, _⟩ := h
  unfold maxLen at hm
  have hw : IntKind.i64.wrap (L - (vs.length : Int)) = L - (vs.length : Int) := by simp only [IntKind.wrap_i64]; omega
  by_cases hb : L < vs.length
  · rw [if_pos hb]
    have hneg : (L - (vs.length : Int) : Int) < 0 := by omega
    go_enter Tryz.func40, Tryz.ntmps40
    go_wp2
    go_ret
    exact ⟨rfl, rfl⟩
  · rw [if_neg hb]
    have hneg : ¬ (L - (vs.length : Int) : Int) < 0 := by omega
    go_enter Tryz.func40, Tryz.ntmps40
    go_wp2
    go_ret
    exact ⟨rfl, rfl⟩
set_option maxHeartbeats 1000000 in
theorem szFrozenL_any (v : Value) (vs : List (List Value)) (L : Int) (w : World) (h : SlAt w 4 v vs) (hm : vs.length ≤ maxLen) (h0 : 0 ≤ L) (h1 : L ≤ 1048576) :
    Calls Tryz.prog 41 #[v, .int .i64 L] w fun e w' => e = .returned (.int .i64 (if L < vs.length then -1 else L - vs.length)) ∧ w = w' := by
  obtain ⟨a, cap, rfl, _⟩ := h
  unfold maxLen at hm
  have hw : IntKind.i64.wrap (L - (vs.length : Int)) = L - (vs.length : Int) := by simp only [IntKind.wrap_i64]; omega
  by_cases hb : L < vs.length
  · rw [if_pos hb]
    have hneg : (L - (vs.length : Int) : Int) < 0 := by omega
    go_enter Tryz.func41, Tryz.ntmps41
    go_wp2
    go_ret
    exact ⟨rfl, rfl⟩
  · rw [if_neg hb]
    have hneg : ¬ (L - (vs.length : Int) : Int) < 0 := by omega
    go_enter Tryz.func41, Tryz.ntmps41
    go_wp2
    go_ret
    exact ⟨rfl, rfl⟩
def SzPostN (l : List Pi) (w : World) (e : Ending) (w' : World) : Prop := ∃ x : Int, e = .returned (.int .i64 x) ∧ (0 ≤ x → l.length ≤ 1048576 ∧ ∀ p ∈ l, p.l.length ≤ 1048576) ∧ x ≤ 1048576 ∧ Below w.heap.size w w'
set_option maxRecDepth 100000 in
set_option maxHeartbeats 2000000 in
theorem szPipeS_any (l : List Pi) (v : Value) (L : Int) (w : World) (h : PisAt w v l) (hm : l.length ≤ maxLen) (hb : ∀ p ∈ l, ∀ s ∈ p.l, s.size ≤ maxLen) (h0 : 0 ≤ L) (h1 : L ≤ 1048576) :
    Calls Tryz.prog 37 #[v, .int .i64 L] w (SzPostN l w) := by
  obtain ⟨h, hO⟩ := h
  obtain ⟨a, cap, rfl, h⟩ := h
  rw [List.length_map] at *
  have HH := Lib.hid h
  have HO := Lib.hid hO
  have HS := Lib.hid hb
  clear h hO hb
  unfold maxLen at hm
  unfold SzPostN
  obtain ⟨n, hnn⟩ : ∃ n, n = l.length := ⟨_, rfl⟩
  rw [← hnn] at hm ⊢
  have HN := Lib.hid hnn
  clear hnn
  have hw : IntKind.i64.wrap (L - (n : Int)) = L - (n : Int) := by simp only [IntKind.wrap_i64]; omega
  by_cases hbig : L < (n : Int)
  · have hneg : (L - (n : Int) : Int) < 0 := by omega
    go_enter Tryz.func37, Tryz.ntmps37
    go_wp2
    go_ret
    exact ⟨-1, rfl, fun h => absurd h (by omega), by omega, Below.refl _ _⟩
  · have hneg : ¬ (L - (n : Int) : Int) < 0 := by omega
    go_enter Tryz.func37, Tryz.ntmps37
    go_wp2
    go_loopw [1, 5] (fun x u wr => ∃ (i : Nat) (X : Int), i ≤ n ∧ u = .int .i64 (i : Int) ∧ x = .int .i64 X ∧ 0 ≤ X ∧ X ≤ 1048576 ∧ Hid (∀ p ∈ l.take i, p.l.length ≤ 1048576) ∧ Hid (Below w.heap.size w wr)) (fun _ u _ => n - (intOf u).toNat)
    case atStart => exact ⟨0, _, Nat.zero_le _, rfl, rfl, by omega, by omega, Lib.hid (fun s hs => by simp at hs), Lib.hid (Below.refl _ _)⟩
    case round =>
      obtain ⟨i, X, hi, rfl, rfl, hX0, hX1, HT, HB⟩ := hrel
      by_cases hlt : i < n
      · have hir : i < l.length := by rw [← HN.out]; exact hlt
        have hne : l.map Pi.cl ≠ [] := fun e => by
          have := congrArg List.length e
          rw [List.length_map, ← HN.out] at this
          simp at this; omega
        obtain ⟨b, off, ha, hb, HE⟩ := HH.out hne
        subst ha
        have hl1 : (i : Int) < n := by omega
        obtain ⟨p0, p1, p2, p3, p4⟩ := (Elems.below HE HB.out hb).pi i hir
        have HQ := Lib.hid (szPipe_any (l[i]).e (l[i]).p (l[i]).b (l[i]).i (l[i]).v (l[i]).l X wr ((HO.out _ (List.getElem_mem hir)).kept HB.out) (HS.out _ (List.getElem_mem hir)) hX0 hX1)
        have HSf := Lib.hid ((HO.out _ (List.getElem_mem hir)).form)
        have HM : Hid ((l[i]).l.length ≤ 1048576 → ∀ p ∈ l.take (i + 1), p.l.length ≤ 1048576) := Lib.hid (fun h p hp => by
          rw [List.take_succ_eq_append_getElem hir] at hp
          rcases List.mem_append.1 hp with hp | hp
          · exact HT.out p hp
          · rw [List.mem_singleton] at hp; subst hp; exact h)
        clear HE
        unfold SzPostP ppV at HQ
        generalize l[i] = y at *
        obtain ⟨ye, yp, yb, yi, yv, yl⟩ := y
        dsimp only at *
        obtain ⟨ya, yc, rfl⟩ := HSf.out
        clear HSf
        go_wp2_with fail
        refine HQ.out.mono ?_
        rintro e w1 ⟨x, rfl, hx, hx1, hb1⟩
        have HX := Lib.hid hx
        have HB1 : Hid (Below w.heap.size w w1) := Lib.hid (HB.out.trans (hb1.mono HB.out.size))
        clear hx hb1 p0 p1 p2 p3 p4 HB HQ
        by_cases hsm : x < 0
        · go_wp2_with fail
          go_ret
          exact ⟨-1, rfl, fun h => absurd h (by omega), by omega, HB1.out⟩
        · go_wp2_with fail
          go_roundw
          case rel => exact ⟨i + 1, x, by omega, by simp, rfl, by omega, hx1, Lib.hid (HM.out (HX.out (by omega)).1), HB1⟩
          case measure => simp [intOf]; omega
      · have hin : i = n := by omega
        subst hin
        go_wp2_with fail
        go_ret
        refine ⟨X, rfl, fun _ => ⟨by have := HN.out; omega, fun p hp => HT.out p ?_⟩, hX1, HB.out⟩
        rw [List.take_of_length_le (by rw [HN.out]; exact Nat.le_refl _)]
        exact hp
theorem Iv.info : (Tryz.prog.info? 2).map (fun i => (i.zero, i.size, i.bytes)) = some (some (.int .i64 0), 1, 8) := by kernel_rfl
set_option maxRecDepth 100000 in
set_option maxHeartbeats 2000000 in
theorem Iv.toS_any (l : List Int) (v : Value) (w : World) (h : SlAt w 1 v (l.map clI)) (hn : l.length ≤ 1048576) :
    Calls Tryz.prog 15 #[v] w (RowPost clI 2 1 l w) := by
  obtain ⟨i0, hi0, hz0, hz1, hz2⟩ := info_parts Iv.info
  obtain ⟨a, cap, rfl, h⟩ := h
  rw [List.length_map] at *
  have HH := Lib.hid h
  clear h
  unfold RowPost
  obtain ⟨n, hnn⟩ : ∃ n, n = l.length := ⟨_, rfl⟩
  rw [← hnn] at hn ⊢
  have HN := Lib.hid hnn
  clear hnn
  obtain ⟨f, hf⟩ : ∃ f : Nat → List Value, f = fun m => match l[m]? with | none => [] | some x => clI x := ⟨_, rfl⟩
  have HFl := Lib.hid (fun (m : Nat) (hm : m < l.length) => (show f m = clI (l[m]) by rw [hf]; simp [List.getElem?_eq_getElem hm]))
  clear hf
  go_enter Tryz.func15, Tryz.ntmps15
  go_wp2_with (refine wpList_make_full _ rfl _ _ 22 rfl w.heap.size 2 i0 _ 1 Tryz.underlying22 hi0 hz0 hz1 .i64 .i64 _ _ n rfl rfl rfl rfl (by rw [hz2]; omega) (by unfold maxLen; omega) (Nat.le_refl _) ?_; intro w0 hown hg0; have HF : Hid (RPart w0 w.heap.size 2 1 w.heap.size n n f 0 0) := Lib.hid (made_at hown); have HB0 : Hid (Below w.heap.size w w0) := Lib.hid ((Below.refl _ _).grown hg0 (Nat.le_refl _) (fun k hk => by cases hk)); clear hown hg0)
  go_loopw [4] (fun u wr => ∃ i : Nat, i ≤ n ∧ u = .int .i64 (i : Int) ∧ Hid (RPart wr w.heap.size 2 1 w.heap.size n n f i 0) ∧ Hid (Below w.heap.size w wr)) (fun u _ => n - (intOf u).toNat)
  case atStart => exact ⟨0, Nat.zero_le _, rfl, HF, HB0⟩
  case round =>
    clear HF HB0
    obtain ⟨i, hi, rfl, HF, HB⟩ := hrel
    by_cases hlt : i < n
    · have hir : i < l.length := by rw [← HN.out]; exact hlt
      have hne : l.map clI ≠ [] := fun e => by
        have := congrArg List.length e
        rw [List.length_map, ← HN.out] at this
        simp at this; omega
      obtain ⟨b, off, ha, hb, HE⟩ := HH.out hne
      subst ha
      have hl1 : (i : Int) < n := by omega
      have p0 : wr.cell? ⟨b, off + i, none⟩ = some (.int .i64 l[i]) := by
        have := (Elems.below HE HB.out hb) i (clI l[i]) (by rw [List.getElem?_map, List.getElem?_eq_getElem hir]; rfl) 0 _ rfl
        simpa using this
      have hfi : f i = _ := HFl.out i hir
      clear HE
      generalize l[i] = y at *
      obtain ⟨z0, c0⟩ := HF.out.cell 0 hlt (by omega)
      rw [Nat.add_zero, Nat.mul_one] at c0
      have fz := HF.out.frozen
      have HF2 := Lib.hid (RPart.next (RPart.set HF.out hlt (by omega) (by rw [hfi]; rfl)))
      rw [Nat.add_zero, Nat.mul_one] at HF2
      clear hfi HF
      go_wp2_with fail
      go_roundw
      case rel =>
        refine ⟨i + 1, by omega, by simp, HF2, Lib.hid ?_⟩
        have := HB.out
        go_grown
      case measure => simp [intOf]; omega
    · have hin : i = n := by omega
      subst hin
      go_wp2_with fail
      go_ret
      exact ⟨_, rfl, HF.out.done clI_len (by omega) HN.out.symm HFl.out, HB.out⟩
end Go.Proofs.YtglealihdkecpaaGreat
