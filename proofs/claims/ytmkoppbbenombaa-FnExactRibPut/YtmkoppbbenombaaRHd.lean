/- Slices of Held: turned, found equal, marked, held. -/
import Derived.Test.YtmkoppbbenombaaRw
import Derived.Test.YtmkoppbbenombaaRbR
import Derived.Test.YtmkoppbbenombaaRvO
import Derived.Deep.RegionHeld3
namespace Go.Proofs.Ytmkoppbbenombaa
open Go.RowKit Go.WideShapes Go.ChangeShapes

theorem Hd.cl_len (x : Hd) : x.cl.length = 9 := rfl
theorem Hd.cl_one1 (x : Hd) : ∀ u ∈ x.cl, u.oneCell' = true := by
  intro u hu
  simp only [Hd.cl, List.mem_cons, List.not_mem_nil, or_false] at hu
  rcases hu with rfl | rfl | rfl | rfl | rfl | rfl | rfl | rfl | rfl <;> rfl
theorem Hd.info : (Try.prog.info? 77).map (fun i => (i.zero, i.size, i.bytes)) = some (some (.agg #[.int .i64 0, .bool false, .int .i64 0, .int .i64 0, .int .i64 0, .int .i64 0, .int .i64 0, .int .i64 0, .bool false]), 9, 72) := by kernel_rfl
def Hd.mk1 (x : Int) : Hd := ⟨x, ((x + 1) % 3 == 0), ⟨x + 1 + 1, x + 1 + 1 + 1, x + 1 + 1 + 1 + 1, x + 1 + 1 + 1 + 1 + 1, x + 1 + 1 + 1 + 1 + 1 + 1, x + 1 + 1 + 1 + 1 + 1 + 1 + 1, ((x + 1 + 1 + 1 + 1 + 1 + 1 + 1 + 1) % 3 == 0)⟩⟩
def Hd.marks (k n : Nat) : List Hd := (List.range n).map fun i : Nat => Hd.mk1 ((k : Int) + 9 * (i : Int))
theorem Hd.marks_len (k n : Nat) : (Hd.marks k n).length = n := by simp [Hd.marks]
theorem Hd.marks_at (k n i : Nat) (h : i < (Hd.marks k n).length) : (Hd.marks k n)[i] = Hd.mk1 ((k : Int) + 9 * (i : Int)) := by simp [Hd.marks]
set_option maxRecDepth 100000 in
set_option maxHeartbeats 2000000 in
theorem Hd.toS_any (l : List Hd) (v : Value) (w : World) (h : SlAt w 9 v (l.map Hd.cl)) (hn : l.length ≤ 1048576) :
    Calls Try.prog 17 #[v] w (RowPost Hd.cl 77 9 l w) := by
  obtain ⟨i0, hi0, hz0, hz1, hz2⟩ := info_parts Hd.info
  obtain ⟨a, cap, rfl, h⟩ := h
  rw [List.length_map] at *
  have HH := Lib.hid h
  clear h
  unfold RowPost
  obtain ⟨n, hnn⟩ : ∃ n, n = l.length := ⟨_, rfl⟩
  rw [← hnn] at hn ⊢
  have HN := Lib.hid hnn
  clear hnn
  obtain ⟨f, hf⟩ : ∃ f : Nat → List Value, f = fun m => match l[m]? with | none => [] | some x => x.cl := ⟨_, rfl⟩
  have HFl := Lib.hid (fun (m : Nat) (hm : m < l.length) => (show f m = (l[m]).cl by rw [hf]; simp [List.getElem?_eq_getElem hm]))
  clear hf
  go_enter Try.func17, Try.ntmps17
  go_wp2_with (refine wpList_make_full _ rfl _ _ 25 rfl w.heap.size 77 i0 _ 9 Try.underlying25 hi0 hz0 hz1 .i64 .i64 _ _ n rfl rfl rfl rfl (by rw [hz2]; omega) (by unfold maxLen; omega) (Nat.le_refl _) ?_; intro w0 hown hg0; have HF : Hid (RPart w0 w.heap.size 77 9 w.heap.size n n f 0 0) := Lib.hid (made_at hown); have HB0 : Hid (Below w.heap.size w w0) := Lib.hid ((Below.refl _ _).grown hg0 (Nat.le_refl _) (fun k hk => by cases hk)); clear hown hg0)
  go_loopw [4] (fun u wr => ∃ i : Nat, i ≤ n ∧ u = .int .i64 (i : Int) ∧ Hid (RPart wr w.heap.size 77 9 w.heap.size n n f i 0) ∧ Hid (Below w.heap.size w wr)) (fun u _ => n - (intOf u).toNat)
  case atStart => exact ⟨0, Nat.zero_le _, rfl, HF, HB0⟩
  case round =>
    obtain ⟨i, hi, rfl, HF, HB⟩ := hrel
    by_cases hlt : i < n
    · have hir : i < l.length := by rw [← HN.out]; exact hlt
      have hne : l.map Hd.cl ≠ [] := fun e => by
        have := congrArg List.length e
        rw [List.length_map, ← HN.out] at this
        simp at this; omega
      obtain ⟨b, off, ha, hb, HE⟩ := HH.out hne
      subst ha
      have hl1 : (i : Int) < n := by omega
      have HQ := Lib.hid (toHeld_any l[i])
      obtain ⟨p0, p1, p2, p3, p4, p5, p6, p7, p8⟩ := (Elems.below1 HE HB.out hb).hd i hir
      have hfi : f i = _ := HFl.out i hir
      unfold Hd.cl at hfi
      unfold Hd.val at HQ
      clear HE
      generalize l[i] = y at *
      go_wp2_with fail
      refine (HQ.out _).mono ?_
      rintro e w1 ⟨rfl, hb1⟩
      have HF1 := HF.out.kept hb1
      have HB1 : Hid (Below w.heap.size w w1) := Lib.hid (HB.out.trans (hb1.mono HB.out.size))
      obtain ⟨z0, c0⟩ := HF1.cell 0 hlt (by omega)
      obtain ⟨z1, c1⟩ := HF1.cell 1 hlt (by omega)
      obtain ⟨z2, c2⟩ := HF1.cell 2 hlt (by omega)
      obtain ⟨z3, c3⟩ := HF1.cell 3 hlt (by omega)
      obtain ⟨z4, c4⟩ := HF1.cell 4 hlt (by omega)
      obtain ⟨z5, c5⟩ := HF1.cell 5 hlt (by omega)
      obtain ⟨z6, c6⟩ := HF1.cell 6 hlt (by omega)
      obtain ⟨z7, c7⟩ := HF1.cell 7 hlt (by omega)
      obtain ⟨z8, c8⟩ := HF1.cell 8 hlt (by omega)
      rw [Nat.add_zero] at c0
      have fz := HF1.frozen
      have HF2 := Lib.hid (RPart.next (RPart.set (RPart.set (RPart.set (RPart.set (RPart.set (RPart.set (RPart.set (RPart.set (RPart.set HF1 hlt (by omega) (by rw [hfi]; rfl)) hlt (by omega) (by rw [hfi]; rfl)) hlt (by omega) (by rw [hfi]; rfl)) hlt (by omega) (by rw [hfi]; rfl)) hlt (by omega) (by rw [hfi]; rfl)) hlt (by omega) (by rw [hfi]; rfl)) hlt (by omega) (by rw [hfi]; rfl)) hlt (by omega) (by rw [hfi]; rfl)) hlt (by omega) (by rw [hfi]; rfl)))
      clear hb1 HF1 p0 p1 p2 p3 p4 p5 p6 p7 p8 HF HB hfi HQ
      go_wp2_with fail
      go_roundw
      case rel =>
        refine ⟨i + 1, by omega, by simp, HF2, Lib.hid ?_⟩
        have := HB1.out
        go_grown
      case measure => simp [intOf]; omega
    · have hin : i = n := by omega
      subst hin
      go_wp2_with fail
      go_ret
      exact ⟨_, rfl, HF.out.done Hd.cl_len (by omega) HN.out.symm HFl.out, HB.out⟩
set_option maxRecDepth 100000 in
set_option maxHeartbeats 2000000 in
theorem Hd.eqS_same (l : List Hd) (v v' : Value) (w : World) (h : SlAt w 9 v (l.map Hd.cl)) (h' : SlAt w 9 v' (l.map Hd.cl)) (hn : l.length ≤ 1048576) :
    Calls Try.prog 19 #[v, v'] w fun e w' => e = .returned (.bool true) ∧ Below w.heap.size w w' := by
  obtain ⟨a, cap, rfl, h⟩ := h
  obtain ⟨a', cap', rfl, h'⟩ := h'
  rw [List.length_map] at *
  have HH := Lib.hid h
  have HH' := Lib.hid h'
  clear h h'
  obtain ⟨n, hnn⟩ : ∃ n, n = l.length := ⟨_, rfl⟩
  rw [← hnn] at hn ⊢
  have HN := Lib.hid hnn
  clear hnn
  go_enter Try.func19, Try.ntmps19
  go_wp2_with fail
  go_loopw [5] (fun u wr => ∃ i : Nat, i ≤ n ∧ u = .int .i64 (i : Int) ∧ Hid (Below w.heap.size w wr)) (fun u _ => n - (intOf u).toNat)
  case atStart => exact ⟨0, Nat.zero_le _, rfl, Lib.hid (Below.refl _ _)⟩
  case round =>
    obtain ⟨i, hi, rfl, HB⟩ := hrel
    by_cases hlt : i < n
    · have hne : l.map Hd.cl ≠ [] := fun e => by
        have := congrArg List.length e
        rw [List.length_map, ← HN.out] at this
        simp at this; omega
      obtain ⟨b, off, ha, hb, HE⟩ := HH.out hne
      obtain ⟨b', off', ha', hb', HE'⟩ := HH'.out hne
      subst ha ha'
      have hir : i < l.length := by rw [← HN.out]; exact hlt
      have hl1 : (i : Int) < n := by omega
      have HQ := Lib.hid (eqHeld_same l[i])
      unfold Hd.val at HQ
      have HC := Lib.hid (fun (W' : World) (hS : Below w.heap.size w W') => (Elems.below1 HE hS hb).hd i hir)
      have HC' := Lib.hid (fun (W' : World) (hS : Below w.heap.size w W') => (Elems.below1 HE' hS hb').hd i hir)
      clear HE HE'
      generalize l[i] = y at *
      have S0 : Below w.heap.size w wr.drew := HB.out.drew
      go_wp2_with fail
      refine wp_region_held_drew (S := fun W' => Below w.heap.size w W') (by kernel_rfl) S0 (fun hHeld => ?_)
      clear hHeld
      refine wpAnyH_take (i := 0) (oi := { dst := some 17, op := Op.move (Operand.tmp 0), type := 25, pos := "exact.go:744", after := #[], guard := none }) (v := ?vva1) rfl (by kernel_rfl) (by kernel_rfl) (by kernel_rfl) (fun _ _ _ h => h) (Or.inl ⟨by rfl, ?hya1⟩) S0 ?resta1
      case hya1 => (intro w hSw; go_simp <;> with_reducible rfl)
      try simp only [Act.put, List.setIfInBounds_toArray, List.set_cons_zero, List.set_cons_succ]
      refine wpAnyH_take (i := 1) (oi := { dst := some 18, op := Op.move (Operand.tmp 5), type := 3, pos := "exact.go:744", after := #[], guard := none }) (v := ?vva2) rfl (by kernel_rfl) (by kernel_rfl) (by kernel_rfl) (fun _ _ _ h => h) (Or.inl ⟨by rfl, ?hya2⟩) S0 ?resta2
      case hya2 => (intro w hSw; go_simp <;> with_reducible rfl)
      try simp only [Act.put, List.setIfInBounds_toArray, List.set_cons_zero, List.set_cons_succ]
      refine wpAnyH_take (i := 2) (oi := { dst := some 19, op := Op.indexAddr 25 (Operand.tmp 17) (Operand.tmp 18), type := 0, pos := "exact.go:744", after := #[{ on := 0, ground := Ground.data }, { on := 1, ground := Ground.data }], guard := none }) (v := ?vva3) rfl (by kernel_rfl) (by kernel_rfl) (by kernel_rfl) (fun _ _ _ h => h) (Or.inl ⟨by rfl, ?hya3⟩) S0 ?resta3
      case hya3 => (intro w hSw; go_simp <;> with_reducible rfl)
      try simp only [Act.put, List.setIfInBounds_toArray, List.set_cons_zero, List.set_cons_succ]
      refine wpAnyH_take (i := 3) (oi := { dst := some 20, op := Op.load 77 (Operand.tmp 19), type := 77, pos := "exact.go:744", after := #[{ on := 2, ground := Ground.data }], guard := none }) (v := ?vva4) rfl (by kernel_rfl) (by kernel_rfl) (by kernel_rfl) (fun _ _ _ h => h) (Or.inl ⟨by rfl, ?hya4⟩) S0 ?resta4
      case hya4 => (intro w hSw; obtain ⟨p0, p1, p2, p3, p4, p5, p6, p7, p8⟩ := HC.out _ hSw; obtain ⟨q0, q1, q2, q3, q4, q5, q6, q7, q8⟩ := HC'.out _ hSw;go_simp <;> with_reducible rfl)
      try simp only [Act.put, List.setIfInBounds_toArray, List.set_cons_zero, List.set_cons_succ]
      refine wpAnyH_take (i := 4) (oi := { dst := some 21, op := Op.move (Operand.tmp 1), type := 25, pos := "exact.go:744", after := #[], guard := none }) (v := ?vva5) rfl (by kernel_rfl) (by kernel_rfl) (by kernel_rfl) (fun _ _ _ h => h) (Or.inl ⟨by rfl, ?hya5⟩) S0 ?resta5
      case hya5 => (intro w hSw; go_simp <;> with_reducible rfl)
      try simp only [Act.put, List.setIfInBounds_toArray, List.set_cons_zero, List.set_cons_succ]
      refine wpAnyH_take (i := 5) (oi := { dst := some 22, op := Op.move (Operand.tmp 5), type := 3, pos := "exact.go:744", after := #[], guard := none }) (v := ?vva6) rfl (by kernel_rfl) (by kernel_rfl) (by kernel_rfl) (fun _ _ _ h => h) (Or.inl ⟨by rfl, ?hya6⟩) S0 ?resta6
      case hya6 => (intro w hSw; go_simp <;> with_reducible rfl)
      try simp only [Act.put, List.setIfInBounds_toArray, List.set_cons_zero, List.set_cons_succ]
      refine wpAnyH_take (i := 6) (oi := { dst := some 23, op := Op.indexAddr 25 (Operand.tmp 21) (Operand.tmp 22), type := 0, pos := "exact.go:744", after := #[{ on := 4, ground := Ground.data }, { on := 5, ground := Ground.data }], guard := none }) (v := ?vva7) rfl (by kernel_rfl) (by kernel_rfl) (by kernel_rfl) (fun _ _ _ h => h) (Or.inl ⟨by rfl, ?hya7⟩) S0 ?resta7
      case hya7 => (intro w hSw; go_simp <;> with_reducible rfl)
      try simp only [Act.put, List.setIfInBounds_toArray, List.set_cons_zero, List.set_cons_succ]
      refine wpAnyH_take (i := 7) (oi := { dst := some 24, op := Op.load 77 (Operand.tmp 23), type := 77, pos := "exact.go:744", after := #[{ on := 6, ground := Ground.data }], guard := none }) (v := ?vva8) rfl (by kernel_rfl) (by kernel_rfl) (by kernel_rfl) (fun _ _ _ h => h) (Or.inl ⟨by rfl, ?hya8⟩) S0 ?resta8
      case hya8 => (intro w hSw; obtain ⟨p0, p1, p2, p3, p4, p5, p6, p7, p8⟩ := HC.out _ hSw; obtain ⟨q0, q1, q2, q3, q4, q5, q6, q7, q8⟩ := HC'.out _ hSw;go_simp <;> with_reducible rfl)
      try simp only [Act.put, List.setIfInBounds_toArray, List.set_cons_zero, List.set_cons_succ]
      refine wpAnyH_ready (rs := [8]) (by kernel_rfl) (by simp) ?_
      refine AllReadyH.cons (o := { dst := some 25, op := Op.call { callee := Callee.value (Operand.func 69), args := #[Operand.tmp 20, Operand.tmp 24], argTypes := #[77, 77] }, type := 4, pos := "exact.go:744", after := #[{ on := 3, ground := Ground.data }, { on := 7, ground := Ground.data }], guard := none }) rfl (fun K hK => ?_) AllReadyH.nil
      go_simp
      refine (HQ.out _).mono ?_
      rintro e w1 ⟨rfl, hb1⟩
      replace S0 := S0.trans (hb1.mono S0.size)
      clear hb1
      refine hK.out _ _ S0 (fun hHeld => ?_)
      clear hK K hHeld
      try simp only [Act.put, List.setIfInBounds_toArray, List.set_cons_zero, List.set_cons_succ]
      refine wpAnyH_take (i := 9) (oi := { dst := some 26, op := Op.unOp UnOp.not 4 (Operand.tmp 25), type := 4, pos := "exact.go:744", after := #[{ on := 8, ground := Ground.data }], guard := none }) (v := ?vva9) rfl (by kernel_rfl) (by kernel_rfl) (by kernel_rfl) (fun _ _ _ h => h) (Or.inl ⟨by rfl, ?hya9⟩) S0 ?resta9
      case hya9 => (intro w hSw; go_simp <;> with_reducible rfl)
      try simp only [Act.put, List.setIfInBounds_toArray, List.set_cons_zero, List.set_cons_succ]
      refine wpAnyH_done (by kernel_rfl) ?_ _
      go_wp2_with fail
      go_roundw
      case rel => exact ⟨i + 1, by omega, by simp, Lib.hid S0⟩
      case measure => simp [intOf]; omega
    · have : i = n := by omega
      subst this
      go_wp2_with fail
      go_ret
      exact ⟨rfl, HB.out⟩
set_option maxRecDepth 100000 in
set_option maxHeartbeats 4000000 in
theorem Hd.markS_any (B : Nat) (v : Value) (k n : Nat) (xs : List Value) (w : World) (h : w.ownsRow B 77 9 v n xs) (h0 : 0 < k) (hk : k + 9 * n ≤ 1000000000) :
    Calls Try.prog 24 #[v, .int .i64 (k : Int)] w (MarkPost Hd.cl 77 9 B v k (Hd.marks k n) w) := by
  unfold MarkPost
  rw [Hd.marks_len]
  have HO := h
  obtain ⟨hl, ⟨rfl, rfl⟩ | ⟨g, cap, cur, rfl, hb, hh, hn, hm, hz, ht⟩⟩ := h
  · clear HO
    go_enter Try.func24, Try.ntmps24
    go_wp2_with fail
    go_loopw [1, 5] (fun x u wr => x = .int .i64 (k : Int) ∧ u = .int .i64 0 ∧ Hid (wr = w)) (fun _ _ _ => 0)
    case atStart => exact ⟨rfl, rfl, Lib.hid rfl⟩
    case round =>
      obtain ⟨rfl, rfl, HW⟩ := hrel
      have hw := HW.out
      clear HW
      subst hw
      go_wp2_with fail
      go_ret
      exact ⟨rfl, World.ownsRow_nil _ _ _ _, World.grownBy.refl _ _⟩
  · obtain ⟨f, hf⟩ : ∃ f : Nat → List Value, f = fun m : Nat => (Hd.mk1 ((k : Int) + 9 * (m : Int))).cl := ⟨_, rfl⟩
    have HFl : Hid (∀ (m : Nat) (h : m < (Hd.marks k n).length), f m = ((Hd.marks k n)[m]).cl) := Lib.hid (fun m hm => by rw [hf, Hd.marks_at])
    have HFi : Hid (∀ m : Nat, f m = (Hd.mk1 ((k : Int) + 9 * (m : Int))).cl) := Lib.hid (fun m => by rw [hf])
    clear hf
    have HF : Hid (RPart w B 77 9 g cap n f 0 0) := Lib.hid (RPart.start HO)
    clear HO hl hh hz ht hm hb
    go_enter Try.func24, Try.ntmps24
    go_wp2_with fail
    go_loopw [1, 5] (fun x u wr => ∃ i : Nat, i ≤ n ∧ u = .int .i64 (i : Int) ∧ x = .int .i64 ((k : Int) + 9 * (i : Int)) ∧ Hid (RPart wr B 77 9 g cap n f i 0) ∧ Hid (w.grownBy wr (some g))) (fun _ u _ => n - (intOf u).toNat)
    case atStart => exact ⟨0, Nat.zero_le _, rfl, by simp, HF, Lib.hid (World.grownBy.refl _ _)⟩
    case round =>
      obtain ⟨i, hi, rfl, rfl, HF, HG⟩ := hrel
      by_cases hlt : i < n
      · have hl1 : (i : Int) < n := by omega
        obtain ⟨z0, c0⟩ := HF.out.cell 0 hlt (by omega)
        obtain ⟨z1, c1⟩ := HF.out.cell 1 hlt (by omega)
        obtain ⟨z2, c2⟩ := HF.out.cell 2 hlt (by omega)
        obtain ⟨z3, c3⟩ := HF.out.cell 3 hlt (by omega)
        obtain ⟨z4, c4⟩ := HF.out.cell 4 hlt (by omega)
        obtain ⟨z5, c5⟩ := HF.out.cell 5 hlt (by omega)
        obtain ⟨z6, c6⟩ := HF.out.cell 6 hlt (by omega)
        obtain ⟨z7, c7⟩ := HF.out.cell 7 hlt (by omega)
        obtain ⟨z8, c8⟩ := HF.out.cell 8 hlt (by omega)
        rw [Nat.add_zero] at c0
        have fz := HF.out.frozen
        obtain ⟨q, hq⟩ : ∃ q : Int, q = (k : Int) + 9 * (i : Int) := ⟨_, rfl⟩
        have hfi := HFi.out i
        rw [← hq] at hfi ⊢
        have HQ := Lib.hid hq
        have hq0 : 0 < q := by omega
        have hq1 : q ≤ 1000000000 := by omega
        clear hq
        have HFI := Lib.hid hfi
        clear hfi
        have hw1 : IntKind.i64.wrap (q + 1) = q + 1 := by simp only [IntKind.wrap_i64]; omega
        have hw2 : IntKind.i64.wrap (q + 1 + 1) = q + 1 + 1 := by simp only [IntKind.wrap_i64]; omega
        have hw3 : IntKind.i64.wrap (q + 1 + 1 + 1) = q + 1 + 1 + 1 := by simp only [IntKind.wrap_i64]; omega
        have hw4 : IntKind.i64.wrap (q + 1 + 1 + 1 + 1) = q + 1 + 1 + 1 + 1 := by simp only [IntKind.wrap_i64]; omega
        have hw5 : IntKind.i64.wrap (q + 1 + 1 + 1 + 1 + 1) = q + 1 + 1 + 1 + 1 + 1 := by simp only [IntKind.wrap_i64]; omega
        have hw6 : IntKind.i64.wrap (q + 1 + 1 + 1 + 1 + 1 + 1) = q + 1 + 1 + 1 + 1 + 1 + 1 := by simp only [IntKind.wrap_i64]; omega
        have hw7 : IntKind.i64.wrap (q + 1 + 1 + 1 + 1 + 1 + 1 + 1) = q + 1 + 1 + 1 + 1 + 1 + 1 + 1 := by simp only [IntKind.wrap_i64]; omega
        have hw8 : IntKind.i64.wrap (q + 1 + 1 + 1 + 1 + 1 + 1 + 1 + 1) = q + 1 + 1 + 1 + 1 + 1 + 1 + 1 + 1 := by simp only [IntKind.wrap_i64]; omega
        have hw9 : IntKind.i64.wrap (q + 1 + 1 + 1 + 1 + 1 + 1 + 1 + 1 + 1) = q + 1 + 1 + 1 + 1 + 1 + 1 + 1 + 1 + 1 := by simp only [IntKind.wrap_i64]; omega
        go_wp2_with fail
        go_roundw
        case rel =>
          refine ⟨i + 1, by omega, by simp, by have := HQ.out; simp; omega, Lib.hid (RPart.next ?_), Lib.hid ((grownSet (grownSet (grownSet (grownSet (grownSet (grownSet (grownSet (grownSet (grownSet HG.out))))))))))⟩
          exact RPart.set (RPart.set (RPart.set (RPart.set (RPart.set (RPart.set (RPart.set (RPart.set (RPart.set HF.out hlt (by omega) (by rw [HFI.out]; rfl)) hlt (by omega) (by rw [HFI.out]; rfl)) hlt (by omega) (by rw [HFI.out]; rfl)) hlt (by omega) (by rw [HFI.out]; rfl)) hlt (by omega) (by rw [HFI.out]; rfl)) hlt (by omega) (by rw [HFI.out]; rfl)) hlt (by omega) (by rw [HFI.out]; rfl)) hlt (by omega) (by rw [HFI.out]; rfl)) hlt (by omega) (by rw [HFI.out]; rfl)
        case measure => simp [intOf]; omega
      · have hin : i = n := by omega
        subst hin
        go_wp2_with fail
        go_ret
        exact ⟨by simp, HF.out.done Hd.cl_len (by omega) (Hd.marks_len k _) HFl.out, HG.out⟩
set_option maxRecDepth 100000 in
set_option maxHeartbeats 4000000 in
theorem Hd.heldS_any (v : Value) (k n : Nat) (w : World) (h : SlAt w 9 v ((Hd.marks k n).map Hd.cl)) (h0 : 0 < k) (hk : k + 9 * n ≤ 1000000000) :
    Calls Try.prog 76 #[v, .int .i64 (k : Int)] w fun e w' => e = .returned (.int .i64 ((k + 9 * n : Nat) : Int)) ∧ w = w' := by
  obtain ⟨a, cap, rfl, h⟩ := h
  have HH := Lib.hid h
  clear h
  rw [List.length_map, Hd.marks_len]
  go_enter Try.func76, Try.ntmps76
  go_wp2_with fail
  go_loopw [1, 5] (fun x u wr => ∃ i : Nat, i ≤ n ∧ u = .int .i64 (i : Int) ∧ x = .int .i64 ((k : Int) + 9 * (i : Int)) ∧ Hid (wr = w)) (fun _ u _ => n - (intOf u).toNat)
  case atStart => exact ⟨0, Nat.zero_le _, rfl, by simp, Lib.hid rfl⟩
  case round =>
    obtain ⟨i, hi, rfl, rfl, HW⟩ := hrel
    have hw := HW.out
    clear HW
    subst hw
    by_cases hlt : i < n
    · have hir : i < (Hd.marks k n).length := by rw [Hd.marks_len]; exact hlt
      have hne : (Hd.marks k n).map Hd.cl ≠ [] := fun e => by
        have := congrArg List.length e
        rw [List.length_map, Hd.marks_len] at this
        simp at this; omega
      obtain ⟨b, off, ha, hb, HE⟩ := HH.out hne
      subst ha
      have hl1 : (i : Int) < n := by omega
      have HP := HE.hd i hir
      rw [Hd.marks_at] at HP
      unfold Hd.mk1 at HP
      dsimp only at HP
      obtain ⟨q, hq⟩ : ∃ q : Int, q = (k : Int) + 9 * (i : Int) := ⟨_, rfl⟩
      rw [← hq] at HP ⊢
      have HQ := Lib.hid hq
      have hq0 : 0 < q := by omega
      have hq1 : q ≤ 1000000000 := by omega
      clear hq HE
      obtain ⟨p0, p1, p2, p3, p4, p5, p6, p7, p8⟩ := HP
      have hw1 : IntKind.i64.wrap (q + 1) = q + 1 := by simp only [IntKind.wrap_i64]; omega
      have hw2 : IntKind.i64.wrap (q + 1 + 1) = q + 1 + 1 := by simp only [IntKind.wrap_i64]; omega
      have hw3 : IntKind.i64.wrap (q + 1 + 1 + 1) = q + 1 + 1 + 1 := by simp only [IntKind.wrap_i64]; omega
      have hw4 : IntKind.i64.wrap (q + 1 + 1 + 1 + 1) = q + 1 + 1 + 1 + 1 := by simp only [IntKind.wrap_i64]; omega
      have hw5 : IntKind.i64.wrap (q + 1 + 1 + 1 + 1 + 1) = q + 1 + 1 + 1 + 1 + 1 := by simp only [IntKind.wrap_i64]; omega
      have hw6 : IntKind.i64.wrap (q + 1 + 1 + 1 + 1 + 1 + 1) = q + 1 + 1 + 1 + 1 + 1 + 1 := by simp only [IntKind.wrap_i64]; omega
      have hw7 : IntKind.i64.wrap (q + 1 + 1 + 1 + 1 + 1 + 1 + 1) = q + 1 + 1 + 1 + 1 + 1 + 1 + 1 := by simp only [IntKind.wrap_i64]; omega
      have hw8 : IntKind.i64.wrap (q + 1 + 1 + 1 + 1 + 1 + 1 + 1 + 1) = q + 1 + 1 + 1 + 1 + 1 + 1 + 1 + 1 := by simp only [IntKind.wrap_i64]; omega
      have hw9 : IntKind.i64.wrap (q + 1 + 1 + 1 + 1 + 1 + 1 + 1 + 1 + 1) = q + 1 + 1 + 1 + 1 + 1 + 1 + 1 + 1 + 1 := by simp only [IntKind.wrap_i64]; omega
      go_wp2_with fail
      go_roundw
      case rel => exact ⟨i + 1, by omega, by simp, by have := HQ.out; simp; omega, Lib.hid trivial⟩
      case measure => simp [intOf]; omega
    · have : i = n := by omega
      subst this
      go_wp2_with fail
      go_ret
      exact ⟨by simp, rfl⟩
set_option maxHeartbeats 1000000 in
theorem Hd.szS_any (v : Value) (vs : List (List Value)) (w : World) (h : SlAt w 9 v vs) (hm : vs.length ≤ maxLen) :
    Calls Try.prog 15 #[v, .int .i64 1048576] w fun e w' => e = .returned (.int .i64 (if 1048576 < vs.length then -1 else 1048576 - vs.length)) ∧ w = w' := by
  obtain ⟨a, cap, rfl, _⟩ := h
  unfold maxLen at hm
  have hw : IntKind.i64.wrap (1048576 - (vs.length : Int)) = 1048576 - (vs.length : Int) := by simp only [IntKind.wrap_i64]; omega
  by_cases hb : 1048576 < vs.length
  · rw [if_pos hb]
    have hneg : (1048576 - (vs.length : Int) : Int) < 0 := by omega
    go_enter Try.func15, Try.ntmps15
    go_wp2
    go_ret
    exact ⟨rfl, rfl⟩
  · rw [if_neg hb]
    have hneg : ¬ (1048576 - (vs.length : Int) : Int) < 0 := by omega
    go_enter Try.func15, Try.ntmps15
    go_wp2
    go_ret
    exact ⟨rfl, rfl⟩
end Go.Proofs.Ytmkoppbbenombaa
