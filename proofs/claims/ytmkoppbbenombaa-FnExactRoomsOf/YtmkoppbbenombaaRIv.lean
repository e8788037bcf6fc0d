/- Slices of int64: found equal, marked, held. -/
import Derived.Test.YtmkoppbbenombaaFmI
import Derived.Deep.RegionHeld3
namespace Go.Proofs.Ytmkoppbbenombaa
open Go.RowKit Go.WideShapes Go.ChangeShapes

def Iv.marks (k n : Nat) : List Int := (List.range n).map fun i : Nat => (k : Int) + (i : Int)
theorem elemsI {W W' : World} {b off B : Nat} {vs : List (List Value)} (h : Elems W b off 1 vs) (hb : Below B W W') (hl : b < B) : Elems W' b off 1 vs :=
  fun i cs hi j u hj => (hb.cell (p := ⟨b, off + i * 1 + j, none⟩) hl).trans (h i cs hi j u hj)
theorem Iv.marks_len (k n : Nat) : (Iv.marks k n).length = n := by simp [Iv.marks]
theorem Iv.marks_at (k n i : Nat) (h : i < (Iv.marks k n).length) : (Iv.marks k n)[i] = (k : Int) + (i : Int) := by simp [Iv.marks]
set_option maxRecDepth 100000 in
set_option maxHeartbeats 2000000 in
theorem Iv.eqS_same (l : List Int) (v v' : Value) (w : World) (h : SlAt w 1 v (l.map clI)) (h' : SlAt w 1 v' (l.map clI)) (hn : l.length ≤ 1048576) :
    Calls Try.prog 40 #[v, v'] w fun e w' => e = .returned (.bool true) ∧ Below w.heap.size w w' := by
  obtain ⟨a, cap, rfl, h⟩ := h
  obtain ⟨a', cap', rfl, h'⟩ := h'
  rw [List.length_map] at *
  have HH := Lib.hid h
  have HH' := Lib.hid h'
  clear h h'
  obtain ⟨n, hnn⟩ : ∃ n, n = l.length := ⟨_, rfl⟩
  rw [← hnn] at hn ⊢
  have HN := Lib.hid hnn
  clear hnn
  go_enter Try.func40, Try.ntmps40
  go_wp2_with fail
  go_loopw [5] (fun u wr => ∃ i : Nat, i ≤ n ∧ u = .int .i64 (i : Int) ∧ Hid (Below w.heap.size w wr)) (fun u _ => n - (intOf u).toNat)
  case atStart => exact ⟨0, Nat.zero_le _, rfl, Lib.hid (Below.refl _ _)⟩
  case round =>
    obtain ⟨i, hi, rfl, HB⟩ := hrel
    by_cases hlt : i < n
    · have hne : l.map clI ≠ [] := fun e => by
        have := congrArg List.length e
        rw [List.length_map, ← HN.out] at this
        simp at this; omega
      obtain ⟨b, off, ha, hb, HE⟩ := HH.out hne
      obtain ⟨b', off', ha', hb', HE'⟩ := HH'.out hne
      subst ha ha'
      have hir : i < l.length := by rw [← HN.out]; exact hlt
      have hl1 : (i : Int) < n := by omega
      have HC := Lib.hid (fun (W' : World) (hS : Below w.heap.size w W') => (elemsI HE hS hb).eI i hir)
      have HC' := Lib.hid (fun (W' : World) (hS : Below w.heap.size w W') => (elemsI HE' hS hb').eI i hir)
      clear HE HE'
      generalize l[i] = y at *
      have S0 : Below w.heap.size w wr.drew := HB.out.drew
      go_upto_region 6 with fail
      refine wp_region_held_drew (S := fun W' => Below w.heap.size w W') (by kernel_rfl) S0 (fun hHeld => ?_)
      clear hHeld
      refine wpAnyH_take (i := 0) (oi := { dst := some 17, op := Op.move (Operand.tmp 0), type := 46, pos := "exact.go:853", after := #[], guard := none }) (v := ?vva1) rfl (by kernel_rfl) (by kernel_rfl) (by kernel_rfl) (fun _ _ _ h => h) (Or.inl ⟨by rfl, ?hya1⟩) S0 ?resta1
      case hya1 => (intro w hSw; go_simp <;> with_reducible rfl)
      try simp only [Act.put, List.setIfInBounds_toArray, List.set_cons_zero, List.set_cons_succ]
      refine wpAnyH_take (i := 1) (oi := { dst := some 18, op := Op.move (Operand.tmp 5), type := 3, pos := "exact.go:853", after := #[], guard := none }) (v := ?vva2) rfl (by kernel_rfl) (by kernel_rfl) (by kernel_rfl) (fun _ _ _ h => h) (Or.inl ⟨by rfl, ?hya2⟩) S0 ?resta2
      case hya2 => (intro w hSw; go_simp <;> with_reducible rfl)
      try simp only [Act.put, List.setIfInBounds_toArray, List.set_cons_zero, List.set_cons_succ]
      refine wpAnyH_take (i := 2) (oi := { dst := some 19, op := Op.indexAddr 46 (Operand.tmp 17) (Operand.tmp 18), type := 0, pos := "exact.go:853", after := #[{ on := 0, ground := Ground.data }, { on := 1, ground := Ground.data }], guard := none }) (v := ?vva3) rfl (by kernel_rfl) (by kernel_rfl) (by kernel_rfl) (fun _ _ _ h => h) (Or.inl ⟨by rfl, ?hya3⟩) S0 ?resta3
      case hya3 => (intro w hSw; go_simp <;> with_reducible rfl)
      try simp only [Act.put, List.setIfInBounds_toArray, List.set_cons_zero, List.set_cons_succ]
      refine wpAnyH_take (i := 3) (oi := { dst := some 20, op := Op.load 2 (Operand.tmp 19), type := 2, pos := "exact.go:853", after := #[{ on := 2, ground := Ground.data }], guard := none }) (v := ?vva4) rfl (by kernel_rfl) (by kernel_rfl) (by kernel_rfl) (fun _ _ _ h => h) (Or.inl ⟨by rfl, ?hya4⟩) S0 ?resta4
      case hya4 => (intro w hSw; have p0 := HC.out _ hSw; have q0 := HC'.out _ hSw;go_simp <;> with_reducible rfl)
      try simp only [Act.put, List.setIfInBounds_toArray, List.set_cons_zero, List.set_cons_succ]
      refine wpAnyH_take (i := 4) (oi := { dst := some 21, op := Op.move (Operand.tmp 1), type := 46, pos := "exact.go:853", after := #[], guard := none }) (v := ?vva5) rfl (by kernel_rfl) (by kernel_rfl) (by kernel_rfl) (fun _ _ _ h => h) (Or.inl ⟨by rfl, ?hya5⟩) S0 ?resta5
      case hya5 => (intro w hSw; go_simp <;> with_reducible rfl)
      try simp only [Act.put, List.setIfInBounds_toArray, List.set_cons_zero, List.set_cons_succ]
      refine wpAnyH_take (i := 5) (oi := { dst := some 22, op := Op.move (Operand.tmp 5), type := 3, pos := "exact.go:853", after := #[], guard := none }) (v := ?vva6) rfl (by kernel_rfl) (by kernel_rfl) (by kernel_rfl) (fun _ _ _ h => h) (Or.inl ⟨by rfl, ?hya6⟩) S0 ?resta6
      case hya6 => (intro w hSw; go_simp <;> with_reducible rfl)
      try simp only [Act.put, List.setIfInBounds_toArray, List.set_cons_zero, List.set_cons_succ]
      refine wpAnyH_take (i := 6) (oi := { dst := some 23, op := Op.indexAddr 46 (Operand.tmp 21) (Operand.tmp 22), type := 0, pos := "exact.go:853", after := #[{ on := 4, ground := Ground.data }, { on := 5, ground := Ground.data }], guard := none }) (v := ?vva7) rfl (by kernel_rfl) (by kernel_rfl) (by kernel_rfl) (fun _ _ _ h => h) (Or.inl ⟨by rfl, ?hya7⟩) S0 ?resta7
      case hya7 => (intro w hSw; go_simp <;> with_reducible rfl)
      try simp only [Act.put, List.setIfInBounds_toArray, List.set_cons_zero, List.set_cons_succ]
      refine wpAnyH_take (i := 7) (oi := { dst := some 24, op := Op.load 2 (Operand.tmp 23), type := 2, pos := "exact.go:853", after := #[{ on := 6, ground := Ground.data }], guard := none }) (v := ?vva8) rfl (by kernel_rfl) (by kernel_rfl) (by kernel_rfl) (fun _ _ _ h => h) (Or.inl ⟨by rfl, ?hya8⟩) S0 ?resta8
      case hya8 => (intro w hSw; have p0 := HC.out _ hSw; have q0 := HC'.out _ hSw;go_simp <;> with_reducible rfl)
      try simp only [Act.put, List.setIfInBounds_toArray, List.set_cons_zero, List.set_cons_succ]
      refine wpAnyH_take (i := 8) (oi := { dst := some 25, op := Op.binOp BinOp.neq 2 (Operand.tmp 20) (Operand.tmp 24) 2, type := 4, pos := "exact.go:853", after := #[{ on := 3, ground := Ground.data }, { on := 7, ground := Ground.data }], guard := none }) (v := ?vva9) rfl (by kernel_rfl) (by kernel_rfl) (by kernel_rfl) (fun _ _ _ h => h) (Or.inl ⟨by rfl, ?hya9⟩) S0 ?resta9
      case hya9 => (intro w hSw; go_simp <;> with_reducible rfl)
      try simp only [Act.put, List.setIfInBounds_toArray, List.set_cons_zero, List.set_cons_succ]
      refine wpAnyH_done (by kernel_rfl) ?_ _
      go_wp2_with fail
      go_roundw
      case rel => exact ⟨i + 1, by omega, by simp, Lib.hid S0⟩
      case measure => simp [intOf]; omega
    · have : i = n := by omega
      subst this
      go_wp2_with fail
      go_ret
      exact ⟨rfl, HB.out⟩
set_option maxRecDepth 100000 in
set_option maxHeartbeats 4000000 in
theorem Iv.markS_any (B : Nat) (v : Value) (k n : Nat) (xs : List Value) (w : World) (h : w.ownsRow B 2 1 v n xs) (h0 : 0 < k) (hk : k + 1 * n ≤ 1000000000) :
    Calls Try.prog 41 #[v, .int .i64 (k : Int)] w (MarkPost clI 2 1 B v k (Iv.marks k n) w) := by
  unfold MarkPost
  rw [Iv.marks_len]
  have HO := h
  obtain ⟨hl, ⟨rfl, rfl⟩ | ⟨g, cap, cur, rfl, hb, hh, hn, hm, hz, ht⟩⟩ := h
  · clear HO
    go_enter Try.func41, Try.ntmps41
    go_wp2_with fail
    go_loopw [1, 5] (fun x u wr => x = .int .i64 (k : Int) ∧ u = .int .i64 0 ∧ Hid (wr = w)) (fun _ _ _ => 0)
    case atStart => exact ⟨rfl, rfl, Lib.hid rfl⟩
    case round =>
      obtain ⟨rfl, rfl, HW⟩ := hrel
      have hw := HW.out
      clear HW
      subst hw
      go_wp2_with fail
      go_ret
      exact ⟨rfl, World.ownsRow_nil _ _ _ _, World.grownBy.refl _ _⟩
  · obtain ⟨f, hf⟩ : ∃ f : Nat → List Value, f = fun m : Nat => clI ((k : Int) + (m : Int)) := ⟨_, rfl⟩
    have HFl : Hid (∀ (m : Nat) (h : m < (Iv.marks k n).length), f m = clI ((Iv.marks k n)[m])) := Lib.hid (fun m hm => by rw [hf, Iv.marks_at])
    have HFi : Hid (∀ m : Nat, f m = clI ((k : Int) + (m : Int))) := Lib.hid (fun m => by rw [hf])
    clear hf
    have HF : Hid (RPart w B 2 1 g cap n f 0 0) := Lib.hid (RPart.start HO)
    clear HO hl hh hz ht hm hb
    go_enter Try.func41, Try.ntmps41
    go_wp2_with fail
    go_loopw [1, 5] (fun x u wr => ∃ i : Nat, i ≤ n ∧ u = .int .i64 (i : Int) ∧ x = .int .i64 ((k : Int) + (i : Int)) ∧ Hid (RPart wr B 2 1 g cap n f i 0) ∧ Hid (w.grownBy wr (some g))) (fun _ u _ => n - (intOf u).toNat)
    case atStart => exact ⟨0, Nat.zero_le _, rfl, by simp, HF, Lib.hid (World.grownBy.refl _ _)⟩
    case round =>
      obtain ⟨i, hi, rfl, rfl, HF, HG⟩ := hrel
      by_cases hlt : i < n
      · have hl1 : (i : Int) < n := by omega
        obtain ⟨z0, c0⟩ := HF.out.cell 0 hlt (by omega)
        rw [Nat.add_zero, Nat.mul_one] at c0
        have fz := HF.out.frozen
        obtain ⟨q, hq⟩ : ∃ q : Int, q = (k : Int) + (i : Int) := ⟨_, rfl⟩
        have hfi := HFi.out i
        rw [← hq] at hfi ⊢
        have HQ := Lib.hid hq
        have hq0 : 0 < q := by omega
        have hq1 : q ≤ 1000000000 := by omega
        clear hq
        have HFI := Lib.hid hfi
        clear hfi
        have hw1 : IntKind.i64.wrap (q + 1) = q + 1 := by simp only [IntKind.wrap_i64]; omega
        go_wp2_with fail
        go_roundw
        case rel =>
          refine ⟨i + 1, by omega, by simp, by have := HQ.out; simp; omega, Lib.hid (RPart.next ?_), Lib.hid (grownSet HG.out)⟩
          have := RPart.set HF.out hlt (by omega) (u := .int .i64 q) (by rw [HFI.out]; rfl)
          rw [Nat.add_zero, Nat.mul_one] at this
          exact this
        case measure => simp [intOf]; omega
      · have hin : i = n := by omega
        subst hin
        go_wp2_with fail
        go_ret
        exact ⟨by simp, HF.out.done clI_len (by omega) (Iv.marks_len k _) HFl.out, HG.out⟩
set_option maxRecDepth 100000 in
set_option maxHeartbeats 4000000 in
theorem Iv.heldS_any (v : Value) (k n : Nat) (w : World) (h : SlAt w 1 v ((Iv.marks k n).map clI)) (h0 : 0 < k) (hk : k + 1 * n ≤ 1000000000) :
    Calls Try.prog 42 #[v, .int .i64 (k : Int)] w fun e w' => e = .returned (.int .i64 ((k + 1 * n : Nat) : Int)) ∧ w = w' := by
  obtain ⟨a, cap, rfl, h⟩ := h
  have HH := Lib.hid h
  clear h
  rw [List.length_map, Iv.marks_len]
  go_enter Try.func42, Try.ntmps42
  go_wp2_with fail
  go_loopw [1, 5] (fun x u wr => ∃ i : Nat, i ≤ n ∧ u = .int .i64 (i : Int) ∧ x = .int .i64 ((k : Int) + (i : Int)) ∧ Hid (wr = w)) (fun _ u _ => n - (intOf u).toNat)
  case atStart => exact ⟨0, Nat.zero_le _, rfl, by simp, Lib.hid rfl⟩
  case round =>
    obtain ⟨i, hi, rfl, rfl, HW⟩ := hrel
    have hw := HW.out
    clear HW
    subst hw
    by_cases hlt : i < n
    · have hir : i < (Iv.marks k n).length := by rw [Iv.marks_len]; exact hlt
      have hne : (Iv.marks k n).map clI ≠ [] := fun e => by
        have := congrArg List.length e
        rw [List.length_map, Iv.marks_len] at this
        simp at this; omega
      obtain ⟨b, off, ha, hb, HE⟩ := HH.out hne
      subst ha
      have hl1 : (i : Int) < n := by omega
      have HP := HE.eI i hir
      rw [Iv.marks_at] at HP
      obtain ⟨q, hq⟩ : ∃ q : Int, q = (k : Int) + (i : Int) := ⟨_, rfl⟩
      rw [← hq] at HP ⊢
      have HQ := Lib.hid hq
      have hq0 : 0 < q := by omega
      have hq1 : q ≤ 1000000000 := by omega
      clear hq HE
      have hw1 : IntKind.i64.wrap (q + 1) = q + 1 := by simp only [IntKind.wrap_i64]; omega
      go_wp2_with fail
      go_roundw
      case rel => exact ⟨i + 1, by omega, by simp, by have := HQ.out; simp; omega, Lib.hid trivial⟩
      case measure => simp [intOf]; omega
    · have : i = n := by omega
      subst this
      go_wp2_with fail
      go_ret
      exact ⟨by simp, rfl⟩
end Go.Proofs.Ytmkoppbbenombaa
