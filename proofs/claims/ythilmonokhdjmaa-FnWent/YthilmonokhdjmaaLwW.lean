/- The law's lwWent; the mathematics of FnWent. -/
import Derived.Test.YthilmonokhdjmaaPuI
import Derived.Deep.RegionHeld3
namespace Go.Proofs.Ythilmonokhdjmaa
open Go.RowKit

set_option maxRecDepth 100000 in
set_option maxHeartbeats 4000000 in
theorem lwWent_any (a : List Mv) (c : Int) (v v' : Value) (w : World) (h : MvsAt w v a) (h' : MvsAt w v' a) (hn : a.length ≤ 1000) (hok : c = 0 → mvsOk a = true) :
    Calls Try.prog 37 #[woV v c, woV v' c] w fun e w' => e = .returned (.bool true) ∧ Below w.heap.size w w' := by
  have HRt := Lib.hid (fun (W' : World) (hb : Below w.heap.size w W') => specWentRight_any a v W' (SlAt.kept h hb) (by omega))
  unfold MrPost at HRt
  obtain ⟨va, vc, rfl, h⟩ := h
  obtain ⟨wa, wc, rfl, h'⟩ := h'
  rw [List.length_map] at *
  have HH := Lib.hid h
  have HH' := Lib.hid h'
  have HOk := Lib.hid hok
  clear h h' hok
  unfold woV
  have A0 := ((MemAt.start w).new 32 #[.slice va a.length vc, .int .i64 c]).new 32 #[.slice wa a.length wc, .int .i64 c]
  rw [World.size_alloc] at A0
  obtain ⟨n, hnn⟩ : ∃ n, n = a.length := ⟨_, rfl⟩
  rw [← hnn] at hn A0 HRt ⊢
  have HN := Lib.hid hnn
  clear hnn
  go_enter Try.func37, Try.ntmps37
  go_upto_region 1 with fail
  generalize (w.alloc (.cells #[.slice va n vc, .int .i64 c] 32)).alloc (.cells #[.slice wa n wc, .int .i64 c] 32) = W1 at *
  have c0 := A0.b0.cell
  have c1 := A0.b1.cell
  have HA0 := Lib.hid A0
  clear A0
  go_wp2_with fail
  go_loopw [5] (fun u wr => ∃ i : Nat, i ≤ n ∧ u = .int .i64 (i : Int) ∧ Hid (MemAt w [(w.heap.size + 1, 32, #[.slice wa n wc, .int .i64 c]), (w.heap.size, 32, #[.slice va n vc, .int .i64 c])] [] wr)) (fun u _ => n - (intOf u).toNat)
  case atStart => exact ⟨0, Nat.zero_le _, rfl, HA0⟩
  case round =>
    clear HA0 c0 c1
    obtain ⟨i, hi, rfl, HA⟩ := hrel
    have S0 := HA.out
    clear HA
    have c0 := S0.b0.cell
    have c1 := S0.b1.cell
    by_cases hlt : i < n
    · have hne : a.map Mv.cl ≠ [] := fun e => by
        have := congrArg List.length e
        rw [List.length_map, ← HN.out] at this
        simp at this; omega
      obtain ⟨b, off, ha, hb, HE⟩ := HH.out hne
      obtain ⟨b', off', ha', hb', HE'⟩ := HH'.out hne
      subst ha ha'
      have hir : i < a.length := by rw [← HN.out]; exact hlt
      have hl1 : (i : Int) < n := by omega
      have HC := Lib.hid (fun (W' : World) (hS : Below w.heap.size w W') => (Elems.below HE hS hb).mv i hir)
      have HC' := Lib.hid (fun (W' : World) (hS : Below w.heap.size w W') => (Elems.below HE' hS hb').mv i hir)
      clear HE HE'
      generalize a[i] = y at *
      obtain ⟨y0, y1, y2⟩ := y
      dsimp only at HC HC'
      go_upto_region 6 with fail
      clear c0 c1
      replace S0 := S0.drew
      refine wp_region_held_drew (S := fun W' => MemAt w _ _ W') (by kernel_rfl) S0 (fun hHeld => ?_)
      clear hHeld
      refine wpAnyH_take (i := 0) (oi := { dst := some 27, op := Op.fieldAddr 32 (Operand.tmp 2) 0, type := 0, pos := "laws.go:486", after := #[], guard := none }) (v := ?vva1) rfl (by kernel_rfl) (by kernel_rfl) (by kernel_rfl) (fun _ _ _ h => h) (Or.inl ⟨by rfl, ?hya1⟩) S0 ?resta1
      case hya1 => (intro w hSw; have c0 := hSw.b0.cell; have c1 := hSw.b1.cell; obtain ⟨p0, p1, p2⟩ := HC.out _ hSw.bel; obtain ⟨q0, q1, q2⟩ := HC'.out _ hSw.bel;go_simp <;> with_reducible rfl)
      try simp only [Act.put, List.setIfInBounds_toArray, List.set_cons_zero, List.set_cons_succ]
      refine wpAnyH_take (i := 1) (oi := { dst := some 28, op := Op.load 25 (Operand.tmp 27), type := 25, pos := "laws.go:486", after := #[{ on := 0, ground := Ground.data }], guard := none }) (v := ?vva2) rfl (by kernel_rfl) (by kernel_rfl) (by kernel_rfl) (fun _ _ _ h => h) (Or.inl ⟨by rfl, ?hya2⟩) S0 ?resta2
      case hya2 => (intro w hSw; have c0 := hSw.b0.cell; have c1 := hSw.b1.cell; obtain ⟨p0, p1, p2⟩ := HC.out _ hSw.bel; obtain ⟨q0, q1, q2⟩ := HC'.out _ hSw.bel;go_simp <;> with_reducible rfl)
      try simp only [Act.put, List.setIfInBounds_toArray, List.set_cons_zero, List.set_cons_succ]
      refine wpAnyH_take (i := 2) (oi := { dst := some 29, op := Op.move (Operand.tmp 5), type := 3, pos := "laws.go:486", after := #[], guard := none }) (v := ?vva3) rfl (by kernel_rfl) (by kernel_rfl) (by kernel_rfl) (fun _ _ _ h => h) (Or.inl ⟨by rfl, ?hya3⟩) S0 ?resta3
      case hya3 => (intro w hSw; have c0 := hSw.b0.cell; have c1 := hSw.b1.cell; obtain ⟨p0, p1, p2⟩ := HC.out _ hSw.bel; obtain ⟨q0, q1, q2⟩ := HC'.out _ hSw.bel;go_simp <;> with_reducible rfl)
      try simp only [Act.put, List.setIfInBounds_toArray, List.set_cons_zero, List.set_cons_succ]
      refine wpAnyH_take (i := 3) (oi := { dst := some 30, op := Op.indexAddr 25 (Operand.tmp 28) (Operand.tmp 29), type := 0, pos := "laws.go:486", after := #[{ on := 1, ground := Ground.data }, { on := 2, ground := Ground.data }], guard := none }) (v := ?vva4) rfl (by kernel_rfl) (by kernel_rfl) (by kernel_rfl) (fun _ _ _ h => h) (Or.inl ⟨by rfl, ?hya4⟩) S0 ?resta4
      case hya4 => (intro w hSw; have c0 := hSw.b0.cell; have c1 := hSw.b1.cell; obtain ⟨p0, p1, p2⟩ := HC.out _ hSw.bel; obtain ⟨q0, q1, q2⟩ := HC'.out _ hSw.bel;go_simp <;> with_reducible rfl)
      try simp only [Act.put, List.setIfInBounds_toArray, List.set_cons_zero, List.set_cons_succ]
      refine wpAnyH_take (i := 4) (oi := { dst := some 31, op := Op.load 34 (Operand.tmp 30), type := 34, pos := "laws.go:486", after := #[{ on := 3, ground := Ground.data }], guard := none }) (v := ?vva5) rfl (by kernel_rfl) (by kernel_rfl) (by kernel_rfl) (fun _ _ _ h => h) (Or.inl ⟨by rfl, ?hya5⟩) S0 ?resta5
      case hya5 => (intro w hSw; have c0 := hSw.b0.cell; have c1 := hSw.b1.cell; obtain ⟨p0, p1, p2⟩ := HC.out _ hSw.bel; obtain ⟨q0, q1, q2⟩ := HC'.out _ hSw.bel;go_simp <;> with_reducible rfl)
      try simp only [Act.put, List.setIfInBounds_toArray, List.set_cons_zero, List.set_cons_succ]
      refine wpAnyH_take (i := 5) (oi := { dst := some 32, op := Op.fieldAddr 32 (Operand.tmp 3) 0, type := 0, pos := "laws.go:486", after := #[], guard := none }) (v := ?vva6) rfl (by kernel_rfl) (by kernel_rfl) (by kernel_rfl) (fun _ _ _ h => h) (Or.inl ⟨by rfl, ?hya6⟩) S0 ?resta6
      case hya6 => (intro w hSw; have c0 := hSw.b0.cell; have c1 := hSw.b1.cell; obtain ⟨p0, p1, p2⟩ := HC.out _ hSw.bel; obtain ⟨q0, q1, q2⟩ := HC'.out _ hSw.bel;go_simp <;> with_reducible rfl)
      try simp only [Act.put, List.setIfInBounds_toArray, List.set_cons_zero, List.set_cons_succ]
      refine wpAnyH_take (i := 6) (oi := { dst := some 33, op := Op.load 25 (Operand.tmp 32), type := 25, pos := "laws.go:486", after := #[{ on := 5, ground := Ground.data }], guard := none }) (v := ?vva7) rfl (by kernel_rfl) (by kernel_rfl) (by kernel_rfl) (fun _ _ _ h => h) (Or.inl ⟨by rfl, ?hya7⟩) S0 ?resta7
      case hya7 => (intro w hSw; have c0 := hSw.b0.cell; have c1 := hSw.b1.cell; obtain ⟨p0, p1, p2⟩ := HC.out _ hSw.bel; obtain ⟨q0, q1, q2⟩ := HC'.out _ hSw.bel;go_simp <;> with_reducible rfl)
      try simp only [Act.put, List.setIfInBounds_toArray, List.set_cons_zero, List.set_cons_succ]
      refine wpAnyH_take (i := 7) (oi := { dst := some 34, op := Op.move (Operand.tmp 5), type := 3, pos := "laws.go:486", after := #[], guard := none }) (v := ?vva8) rfl (by kernel_rfl) (by kernel_rfl) (by kernel_rfl) (fun _ _ _ h => h) (Or.inl ⟨by rfl, ?hya8⟩) S0 ?resta8
      case hya8 => (intro w hSw; have c0 := hSw.b0.cell; have c1 := hSw.b1.cell; obtain ⟨p0, p1, p2⟩ := HC.out _ hSw.bel; obtain ⟨q0, q1, q2⟩ := HC'.out _ hSw.bel;go_simp <;> with_reducible rfl)
      try simp only [Act.put, List.setIfInBounds_toArray, List.set_cons_zero, List.set_cons_succ]
      refine wpAnyH_take (i := 8) (oi := { dst := some 35, op := Op.indexAddr 25 (Operand.tmp 33) (Operand.tmp 34), type := 0, pos := "laws.go:486", after := #[{ on := 6, ground := Ground.data }, { on := 7, ground := Ground.data }], guard := none }) (v := ?vva9) rfl (by kernel_rfl) (by kernel_rfl) (by kernel_rfl) (fun _ _ _ h => h) (Or.inl ⟨by rfl, ?hya9⟩) S0 ?resta9
      case hya9 => (intro w hSw; have c0 := hSw.b0.cell; have c1 := hSw.b1.cell; obtain ⟨p0, p1, p2⟩ := HC.out _ hSw.bel; obtain ⟨q0, q1, q2⟩ := HC'.out _ hSw.bel;go_simp <;> with_reducible rfl)
      try simp only [Act.put, List.setIfInBounds_toArray, List.set_cons_zero, List.set_cons_succ]
      refine wpAnyH_take (i := 9) (oi := { dst := some 36, op := Op.load 34 (Operand.tmp 35), type := 34, pos := "laws.go:486", after := #[{ on := 8, ground := Ground.data }], guard := none }) (v := ?vva10) rfl (by kernel_rfl) (by kernel_rfl) (by kernel_rfl) (fun _ _ _ h => h) (Or.inl ⟨by rfl, ?hya10⟩) S0 ?resta10
      case hya10 => (intro w hSw; have c0 := hSw.b0.cell; have c1 := hSw.b1.cell; obtain ⟨p0, p1, p2⟩ := HC.out _ hSw.bel; obtain ⟨q0, q1, q2⟩ := HC'.out _ hSw.bel;go_simp <;> with_reducible rfl)
      try simp only [Act.put, List.setIfInBounds_toArray, List.set_cons_zero, List.set_cons_succ]
      refine wpAnyH_take (i := 10) (oi := { dst := some 37, op := Op.binOp BinOp.neq 34 (Operand.tmp 31) (Operand.tmp 36) 34, type := 4, pos := "laws.go:486", after := #[{ on := 4, ground := Ground.data }, { on := 9, ground := Ground.data }], guard := none }) (v := ?vva11) rfl (by kernel_rfl) (by kernel_rfl) (by kernel_rfl) (fun _ _ _ h => h) (Or.inl ⟨by rfl, ?hya11⟩) S0 ?resta11
      case hya11 => (intro w hSw; have c0 := hSw.b0.cell; have c1 := hSw.b1.cell; obtain ⟨p0, p1, p2⟩ := HC.out _ hSw.bel; obtain ⟨q0, q1, q2⟩ := HC'.out _ hSw.bel;go_simp <;> with_reducible rfl)
      try simp only [Act.put, List.setIfInBounds_toArray, List.set_cons_zero, List.set_cons_succ]
      refine wpAnyH_done (by kernel_rfl) ?_ _
      go_wp2_with fail
      go_roundw
      case rel => exact ⟨i + 1, by omega, by simp, Lib.hid S0⟩
      case measure => simp [intOf]; omega
    · have : i = n := by omega
      subst this
      by_cases hc0 : c = 0
      · subst hc0
        have HB := Lib.hid S0.bel
        have HRx := Lib.hid (HRt.out _ S0.bel)
        rw [HOk.out rfl] at HRx
        clear S0 HRt HOk
        go_wp2_with (go_at_call 16; refine HRx.out.mono ?_; rintro e w2 ⟨rfl, hb2⟩; have HB2 := Lib.hid (HB.out.trans (hb2.mono HB.out.size)); clear hb2)
        go_ret
        exact ⟨rfl, HB2.out⟩
      · have HB := Lib.hid S0.bel
        clear S0 HRt HOk
        go_wp2_with fail
        go_ret
        exact ⟨rfl, HB.out⟩
/- what is trimmed does not count -/
theorem cnt_trim {t : List Mv} {at' : Int} (h : mvsOk t = true) (m : Int) : cntR (keepM (lateG at') t) 5 m at' = cntR t 5 m at' := by
  unfold cntR
  rw [mvsOk_keep _ h, h]
  by_cases ht : isTime at' = true
  · rw [if_pos ⟨rfl, ht⟩, if_pos ⟨rfl, ht⟩]
    unfold keepM
    rw [List.filter_filter]
    congr 2
    apply List.filter_congr
    intro x _
    cases lateG at' x <;> simp
  · rw [if_neg (fun e => ht e.2), if_neg (fun e => ht e.2)]
theorem time_0 : isTime 0 = true := by decide
theorem time_20 : isTime 20 = true := by decide
/- what is dropped counts nothing -/
theorem cnt_drop0 {d : List Mv} (h : mvsOk d = true) (v m : Int) : cntR (keepM (fun x => !ofG v m x) d) v m 0 = 0 := by
  unfold cntR
  rw [mvsOk_keep _ h, if_pos ⟨rfl, time_0⟩]
  unfold keepM
  rw [List.filter_filter, List.filter_eq_nil_iff.2 (fun x _ => by cases ofG v m x <;> simp)]
  rfl
theorem cnt_drop1 {d : List Mv} (h : mvsOk d = true) (v m : Int) : cntR (keepM (fun x => !ofG v m x) d) v (m + 1) 20 = cntR d v (m + 1) 20 := by
  unfold cntR
  rw [mvsOk_keep _ h, h, if_pos ⟨rfl, time_20⟩, if_pos ⟨rfl, time_20⟩]
  unfold keepM
  rw [List.filter_filter]
  congr 2
  apply List.filter_congr
  intro x _
  unfold ofG
  by_cases e : x.mac = m + 1
  · have e2 : ¬ x.mac = m := by omega
    simp [e2]
  · simp [e]
/- what is put counts once more -/
theorem cnt_put {l : List Mv} {r : Mv} (h : (putR8 l r).code = 0) (hl : ¬ 30 ≤ l.length) : cntR (putR8 l r).mvs r.vni r.mac r.tm = cntR l r.vni r.mac r.tm + 1 := by
  have h4 : ¬ 400 < l.length := by omega
  cases h2 : mvsOk l
  · rw [putR8_no h4 (.inl h2)] at h
    exact absurd h (by decide)
  cases h3 : (r.right && lastOk l r)
  · rw [putR8_no h4 (.inr h3)] at h
    exact absurd h (by decide)
  rw [putR8_ok h4 h2 h3]
  have hp := putW_ok r h2
  rw [h3] at hp
  rw [Bool.and_eq_true] at h3
  have ht : isTime r.tm = true := by
    have := h3.1
    unfold Mv.right mvRight at this
    simp only [Bool.and_eq_true] at this
    exact this.2.2
  dsimp only
  unfold cntR
  rw [hp, h2, if_pos ⟨rfl, ht⟩, if_pos ⟨rfl, ht⟩, putW_lt r hl, List.filter_append, List.length_append]
  have e : (List.filter (fun x => ofG r.vni r.mac x && lateG r.tm x) [r]).length = 1 := by
    have h1 : (ofG r.vni r.mac r && lateG r.tm r) = true := by
      unfold ofG lateG
      simp
      omega
    simp [h1]
  rw [e]
  simp
theorem put_code (l : List Mv) (r : Mv) : (putR8 l r).code = 0 → mvsOk (putR8 l r).mvs = true := by
  intro h
  by_cases h4 : 400 < l.length
  · rw [putR8_long h4] at h; exact absurd h (by decide)
  cases h2 : mvsOk l
  · rw [putR8_no h4 (.inl h2)] at h; exact absurd h (by decide)
  cases h3 : (r.right && lastOk l r)
  · rw [putR8_no h4 (.inr h3)] at h; exact absurd h (by decide)
  rw [putR8_ok h4 h2 h3]
  exact (putW_ok r h2).trans h3
theorem trim_code (t : List Mv) (n : Int) : (trimR t n).code = 0 → (trimR t n).mvs = keepM (lateG n) t ∧ mvsOk t = true := by
  intro h
  by_cases h4 : 400 < t.length
  · rw [trimR_long h4] at h; exact absurd h (by decide)
  cases h2 : mvsOk t
  · rw [trimR_wrong h4 h2] at h; exact absurd h (by decide)
  cases h3 : isTime n
  · rw [trimR_arg h4 h3] at h; exact absurd h (by decide)
  rw [trimR_ok h4 h2 h3]
  exact ⟨rfl, rfl⟩
theorem drop_code (d : List Mv) (v m : Int) : (dropR d v m).code = 0 → (dropR d v m).mvs = keepM (fun x => !ofG v m x) d ∧ mvsOk d = true := by
  intro h
  by_cases h4 : 400 < d.length
  · rw [dropR_long h4] at h; exact absurd h (by decide)
  cases h2 : mvsOk d
  · rw [dropR_wrong h4 h2] at h; exact absurd h (by decide)
  rw [dropR_ok h4 h2]
  exact ⟨rfl, rfl⟩
theorem cnt_le (l : List Mv) (v m n : Int) : 0 ≤ cntR l v m n ∧ cntR l v m n ≤ l.length := by
  unfold cntR
  split
  · have := List.length_filter_le (fun x => ofG v m x && lateG n x) l
    omega
  · omega
end Go.Proofs.Ythilmonokhdjmaa
