import Derived.Test.YtdnpaopbicdolaaGreatQ3
import Derived.Test.YtdnpaopbicdolaaGreatQ2
import Derived.Deep.RegionHeld3
import Derived.Test.YtdnpaopbicdolaaGreatRbT
import Derived.Test.YtdnpaopbicdolaaGreatMg
/- The law's rows of chapter 7: lwRib, lwRoutes, lwNums, lwRibs. -/
namespace Go.Proofs.YtdnpaopbicdolaaGreat
open Go.RowKit
set_option maxRecDepth 100000 in
set_option maxHeartbeats 4000000 in
theorem lwRib_any (a : List Hd) (v v' : Value) (w : World) (h : SlAt w 9 v (a.map Hd.cl)) (h' : SlAt w 9 v' (a.map Hd.cl)) (hn : a.length ≤ 1000) :
    Calls Tryz.prog 26 #[v, v'] w fun e w' => e = .returned (.bool true) ∧ Below w.heap.size w w' := by
  obtain ⟨va, vc, rfl, h⟩ := h
  obtain ⟨wa, wc, rfl, h'⟩ := h'
  rw [List.length_map] at *
  have HH := Lib.hid h
  have HH' := Lib.hid h'
  clear h h'
  obtain ⟨n, hnn⟩ : ∃ n, n = a.length := ⟨_, rfl⟩
  rw [← hnn] at hn ⊢
  have HN := Lib.hid hnn
  clear hnn
  go_enter Tryz.func26, Tryz.ntmps26
  go_wp2_with fail
  go_loopw [5] (fun u wr => ∃ i : Nat, i ≤ n ∧ u = .int .i64 (i : Int) ∧ Hid (Below w.heap.size w wr)) (fun u _ => n - (intOf u).toNat)
  case atStart => exact ⟨0, Nat.zero_le _, rfl, Lib.hid (Below.refl _ _)⟩
  case round =>
    obtain ⟨i, hi, rfl, HB⟩ := hrel
    by_cases hlt : i < n
    · have hne : a.map Hd.cl ≠ [] := fun e => by
        have := congrArg List.length e
        rw [List.length_map, ← HN.out] at this
        simp at this; omega
      obtain ⟨b, off, ha, hb, HE⟩ := HH.out hne
      obtain ⟨b', off', ha', hb', HE'⟩ := HH'.out hne
      subst ha ha'
      have hir : i < a.length := by rw [← HN.out]; exact hlt
      have hl1 : (i : Int) < n := by omega
      have HC := Lib.hid (fun (W' : World) (hS : Below w.heap.size w W') => (elemsB HE hS hb).hd i hir)
      have HC' := Lib.hid (fun (W' : World) (hS : Below w.heap.size w W') => (elemsB HE' hS hb').hd i hir)
      have S0 : Below w.heap.size w wr.drew := HB.out.drew
      clear HE HE'
      generalize a[i] = y at *
      obtain ⟨y0, y1, y2, y3, y4, y5, y6, y7, y8⟩ := y
      dsimp only at HC HC'
      go_upto_region 6 with fail
      refine wp_region_held_drew (S := fun W' => Below w.heap.size w W') (by kernel_rfl) S0 (fun hHeld => ?_)
      clear hHeld
      refine wpAnyH_take (i := 0) (oi := { dst := some 17, op := Op.move (Operand.tmp 0), type := 23, pos := "laws.go:344", after := #[], guard := none }) (v := ?vvri1) rfl (by kernel_rfl) (by kernel_rfl) (by kernel_rfl) (fun _ _ _ h => h) (Or.inl ⟨by rfl, ?hyri1⟩) S0 ?restri1
      case hyri1 => (intro w hSw; obtain ⟨p0, p1, p2, p3, p4, p5, p6, p7, p8⟩ := HC.out _ hSw; obtain ⟨q0, q1, q2, q3, q4, q5, q6, q7, q8⟩ := HC'.out _ hSw;go_simp <;> with_reducible rfl)
      try simp only [Act.put, List.setIfInBounds_toArray, List.set_cons_zero, List.set_cons_succ]
      refine wpAnyH_take (i := 1) (oi := { dst := some 18, op := Op.move (Operand.tmp 5), type := 3, pos := "laws.go:344", after := #[], guard := none }) (v := ?vvri2) rfl (by kernel_rfl) (by kernel_rfl) (by kernel_rfl) (fun _ _ _ h => h) (Or.inl ⟨by rfl, ?hyri2⟩) S0 ?restri2
      case hyri2 => (intro w hSw; obtain ⟨p0, p1, p2, p3, p4, p5, p6, p7, p8⟩ := HC.out _ hSw; obtain ⟨q0, q1, q2, q3, q4, q5, q6, q7, q8⟩ := HC'.out _ hSw;go_simp <;> with_reducible rfl)
      try simp only [Act.put, List.setIfInBounds_toArray, List.set_cons_zero, List.set_cons_succ]
      refine wpAnyH_take (i := 2) (oi := { dst := some 19, op := Op.indexAddr 23 (Operand.tmp 17) (Operand.tmp 18), type := 0, pos := "laws.go:344", after := #[{ on := 0, ground := Ground.data }, { on := 1, ground := Ground.data }], guard := none }) (v := ?vvri3) rfl (by kernel_rfl) (by kernel_rfl) (by kernel_rfl) (fun _ _ _ h => h) (Or.inl ⟨by rfl, ?hyri3⟩) S0 ?restri3
      case hyri3 => (intro w hSw; obtain ⟨p0, p1, p2, p3, p4, p5, p6, p7, p8⟩ := HC.out _ hSw; obtain ⟨q0, q1, q2, q3, q4, q5, q6, q7, q8⟩ := HC'.out _ hSw;go_simp <;> with_reducible rfl)
      try simp only [Act.put, List.setIfInBounds_toArray, List.set_cons_zero, List.set_cons_succ]
      refine wpAnyH_take (i := 3) (oi := { dst := some 20, op := Op.load 47 (Operand.tmp 19), type := 47, pos := "laws.go:344", after := #[{ on := 2, ground := Ground.data }], guard := none }) (v := ?vvri4) rfl (by kernel_rfl) (by kernel_rfl) (by kernel_rfl) (fun _ _ _ h => h) (Or.inl ⟨by rfl, ?hyri4⟩) S0 ?restri4
      case hyri4 => (intro w hSw; obtain ⟨p0, p1, p2, p3, p4, p5, p6, p7, p8⟩ := HC.out _ hSw; obtain ⟨q0, q1, q2, q3, q4, q5, q6, q7, q8⟩ := HC'.out _ hSw;go_simp <;> with_reducible rfl)
      try simp only [Act.put, List.setIfInBounds_toArray, List.set_cons_zero, List.set_cons_succ]
      refine wpAnyH_take (i := 4) (oi := { dst := some 21, op := Op.move (Operand.tmp 1), type := 23, pos := "laws.go:344", after := #[], guard := none }) (v := ?vvri5) rfl (by kernel_rfl) (by kernel_rfl) (by kernel_rfl) (fun _ _ _ h => h) (Or.inl ⟨by rfl, ?hyri5⟩) S0 ?restri5
      case hyri5 => (intro w hSw; obtain ⟨p0, p1, p2, p3, p4, p5, p6, p7, p8⟩ := HC.out _ hSw; obtain ⟨q0, q1, q2, q3, q4, q5, q6, q7, q8⟩ := HC'.out _ hSw;go_simp <;> with_reducible rfl)
      try simp only [Act.put, List.setIfInBounds_toArray, List.set_cons_zero, List.set_cons_succ]
      refine wpAnyH_take (i := 5) (oi := { dst := some 22, op := Op.move (Operand.tmp 5), type := 3, pos := "laws.go:344", after := #[], guard := none }) (v := ?vvri6) rfl (by kernel_rfl) (by kernel_rfl) (by kernel_rfl) (fun _ _ _ h => h) (Or.inl ⟨by rfl, ?hyri6⟩) S0 ?restri6
      case hyri6 => (intro w hSw; obtain ⟨p0, p1, p2, p3, p4, p5, p6, p7, p8⟩ := HC.out _ hSw; obtain ⟨q0, q1, q2, q3, q4, q5, q6, q7, q8⟩ := HC'.out _ hSw;go_simp <;> with_reducible rfl)
      try simp only [Act.put, List.setIfInBounds_toArray, List.set_cons_zero, List.set_cons_succ]
      refine wpAnyH_take (i := 6) (oi := { dst := some 23, op := Op.indexAddr 23 (Operand.tmp 21) (Operand.tmp 22), type := 0, pos := "laws.go:344", after := #[{ on := 4, ground := Ground.data }, { on := 5, ground := Ground.data }], guard := none }) (v := ?vvri7) rfl (by kernel_rfl) (by kernel_rfl) (by kernel_rfl) (fun _ _ _ h => h) (Or.inl ⟨by rfl, ?hyri7⟩) S0 ?restri7
      case hyri7 => (intro w hSw; obtain ⟨p0, p1, p2, p3, p4, p5, p6, p7, p8⟩ := HC.out _ hSw; obtain ⟨q0, q1, q2, q3, q4, q5, q6, q7, q8⟩ := HC'.out _ hSw;go_simp <;> with_reducible rfl)
      try simp only [Act.put, List.setIfInBounds_toArray, List.set_cons_zero, List.set_cons_succ]
      refine wpAnyH_take (i := 7) (oi := { dst := some 24, op := Op.load 47 (Operand.tmp 23), type := 47, pos := "laws.go:344", after := #[{ on := 6, ground := Ground.data }], guard := none }) (v := ?vvri8) rfl (by kernel_rfl) (by kernel_rfl) (by kernel_rfl) (fun _ _ _ h => h) (Or.inl ⟨by rfl, ?hyri8⟩) S0 ?restri8
      case hyri8 => (intro w hSw; obtain ⟨p0, p1, p2, p3, p4, p5, p6, p7, p8⟩ := HC.out _ hSw; obtain ⟨q0, q1, q2, q3, q4, q5, q6, q7, q8⟩ := HC'.out _ hSw;go_simp <;> with_reducible rfl)
      try simp only [Act.put, List.setIfInBounds_toArray, List.set_cons_zero, List.set_cons_succ]
      refine wpAnyH_take (i := 8) (oi := { dst := some 25, op := Op.binOp BinOp.neq 47 (Operand.tmp 20) (Operand.tmp 24) 47, type := 4, pos := "laws.go:344", after := #[{ on := 3, ground := Ground.data }, { on := 7, ground := Ground.data }], guard := none }) (v := ?vvri9) rfl (by kernel_rfl) (by kernel_rfl) (by kernel_rfl) (fun _ _ _ h => h) (Or.inl ⟨by rfl, ?hyri9⟩) S0 ?restri9
      case hyri9 => (intro w hSw; obtain ⟨p0, p1, p2, p3, p4, p5, p6, p7, p8⟩ := HC.out _ hSw; obtain ⟨q0, q1, q2, q3, q4, q5, q6, q7, q8⟩ := HC'.out _ hSw;go_simp <;> with_reducible rfl)
      try simp only [Act.put, List.setIfInBounds_toArray, List.set_cons_zero, List.set_cons_succ]
      refine wpAnyH_done (by kernel_rfl) ?_ _
      go_wp2_with fail
      go_roundw
      case rel => exact ⟨i + 1, by omega, by simp, Lib.hid S0⟩
      case measure => simp [intOf]; omega
    · have : i = n := by omega
      subst this
      go_wp2_with fail
      go_ret
      exact ⟨rfl, HB.out⟩
set_option maxRecDepth 100000 in
set_option maxHeartbeats 4000000 in
theorem lwRoutes_any (a : List Rt) (v v' : Value) (w : World) (h : SlAt w 7 v (a.map Rt.cl)) (h' : SlAt w 7 v' (a.map Rt.cl)) (hn : a.length ≤ 1000) :
    Calls Tryz.prog 21 #[v, v'] w fun e w' => e = .returned (.bool true) ∧ Below w.heap.size w w' := by
  obtain ⟨va, vc, rfl, h⟩ := h
  obtain ⟨wa, wc, rfl, h'⟩ := h'
  rw [List.length_map] at *
  have HH := Lib.hid h
  have HH' := Lib.hid h'
  clear h h'
  obtain ⟨n, hnn⟩ : ∃ n, n = a.length := ⟨_, rfl⟩
  rw [← hnn] at hn ⊢
  have HN := Lib.hid hnn
  clear hnn
  go_enter Tryz.func21, Tryz.ntmps21
  go_wp2_with fail
  go_loopw [5] (fun u wr => ∃ i : Nat, i ≤ n ∧ u = .int .i64 (i : Int) ∧ Hid (Below w.heap.size w wr)) (fun u _ => n - (intOf u).toNat)
  case atStart => exact ⟨0, Nat.zero_le _, rfl, Lib.hid (Below.refl _ _)⟩
  case round =>
    obtain ⟨i, hi, rfl, HB⟩ := hrel
    by_cases hlt : i < n
    · have hne : a.map Rt.cl ≠ [] := fun e => by
        have := congrArg List.length e
        rw [List.length_map, ← HN.out] at this
        simp at this; omega
      obtain ⟨b, off, ha, hb, HE⟩ := HH.out hne
      obtain ⟨b', off', ha', hb', HE'⟩ := HH'.out hne
      subst ha ha'
      have hir : i < a.length := by rw [← HN.out]; exact hlt
      have hl1 : (i : Int) < n := by omega
      have HC := Lib.hid (fun (W' : World) (hS : Below w.heap.size w W') => (Elems.below1 HE hS hb).rt i hir)
      have HC' := Lib.hid (fun (W' : World) (hS : Below w.heap.size w W') => (Elems.below1 HE' hS hb').rt i hir)
      have S0 : Below w.heap.size w wr.drew := HB.out.drew
      clear HE HE'
      generalize a[i] = y at *
      obtain ⟨y0, y1, y2, y3, y4, y5, y6⟩ := y
      dsimp only at HC HC'
      go_upto_region 6 with fail
      refine wp_region_held_drew (S := fun W' => Below w.heap.size w W') (by kernel_rfl) S0 (fun hHeld => ?_)
      clear hHeld
      refine wpAnyH_take (i := 0) (oi := { dst := some 17, op := Op.move (Operand.tmp 0), type := 28, pos := "laws.go:356", after := #[], guard := none }) (v := ?vvro1) rfl (by kernel_rfl) (by kernel_rfl) (by kernel_rfl) (fun _ _ _ h => h) (Or.inl ⟨by rfl, ?hyro1⟩) S0 ?restro1
      case hyro1 => (intro w hSw; obtain ⟨p0, p1, p2, p3, p4, p5, p6⟩ := HC.out _ hSw; obtain ⟨q0, q1, q2, q3, q4, q5, q6⟩ := HC'.out _ hSw;go_simp <;> with_reducible rfl)
      try simp only [Act.put, List.setIfInBounds_toArray, List.set_cons_zero, List.set_cons_succ]
      refine wpAnyH_take (i := 1) (oi := { dst := some 18, op := Op.move (Operand.tmp 5), type := 3, pos := "laws.go:356", after := #[], guard := none }) (v := ?vvro2) rfl (by kernel_rfl) (by kernel_rfl) (by kernel_rfl) (fun _ _ _ h => h) (Or.inl ⟨by rfl, ?hyro2⟩) S0 ?restro2
      case hyro2 => (intro w hSw; obtain ⟨p0, p1, p2, p3, p4, p5, p6⟩ := HC.out _ hSw; obtain ⟨q0, q1, q2, q3, q4, q5, q6⟩ := HC'.out _ hSw;go_simp <;> with_reducible rfl)
      try simp only [Act.put, List.setIfInBounds_toArray, List.set_cons_zero, List.set_cons_succ]
      refine wpAnyH_take (i := 2) (oi := { dst := some 19, op := Op.indexAddr 28 (Operand.tmp 17) (Operand.tmp 18), type := 0, pos := "laws.go:356", after := #[{ on := 0, ground := Ground.data }, { on := 1, ground := Ground.data }], guard := none }) (v := ?vvro3) rfl (by kernel_rfl) (by kernel_rfl) (by kernel_rfl) (fun _ _ _ h => h) (Or.inl ⟨by rfl, ?hyro3⟩) S0 ?restro3
      case hyro3 => (intro w hSw; obtain ⟨p0, p1, p2, p3, p4, p5, p6⟩ := HC.out _ hSw; obtain ⟨q0, q1, q2, q3, q4, q5, q6⟩ := HC'.out _ hSw;go_simp <;> with_reducible rfl)
      try simp only [Act.put, List.setIfInBounds_toArray, List.set_cons_zero, List.set_cons_succ]
      refine wpAnyH_take (i := 3) (oi := { dst := some 20, op := Op.load 25 (Operand.tmp 19), type := 25, pos := "laws.go:356", after := #[{ on := 2, ground := Ground.data }], guard := none }) (v := ?vvro4) rfl (by kernel_rfl) (by kernel_rfl) (by kernel_rfl) (fun _ _ _ h => h) (Or.inl ⟨by rfl, ?hyro4⟩) S0 ?restro4
      case hyro4 => (intro w hSw; obtain ⟨p0, p1, p2, p3, p4, p5, p6⟩ := HC.out _ hSw; obtain ⟨q0, q1, q2, q3, q4, q5, q6⟩ := HC'.out _ hSw;go_simp <;> with_reducible rfl)
      try simp only [Act.put, List.setIfInBounds_toArray, List.set_cons_zero, List.set_cons_succ]
      refine wpAnyH_take (i := 4) (oi := { dst := some 21, op := Op.move (Operand.tmp 1), type := 28, pos := "laws.go:356", after := #[], guard := none }) (v := ?vvro5) rfl (by kernel_rfl) (by kernel_rfl) (by kernel_rfl) (fun _ _ _ h => h) (Or.inl ⟨by rfl, ?hyro5⟩) S0 ?restro5
      case hyro5 => (intro w hSw; obtain ⟨p0, p1, p2, p3, p4, p5, p6⟩ := HC.out _ hSw; obtain ⟨q0, q1, q2, q3, q4, q5, q6⟩ := HC'.out _ hSw;go_simp <;> with_reducible rfl)
      try simp only [Act.put, List.setIfInBounds_toArray, List.set_cons_zero, List.set_cons_succ]
      refine wpAnyH_take (i := 5) (oi := { dst := some 22, op := Op.move (Operand.tmp 5), type := 3, pos := "laws.go:356", after := #[], guard := none }) (v := ?vvro6) rfl (by kernel_rfl) (by kernel_rfl) (by kernel_rfl) (fun _ _ _ h => h) (Or.inl ⟨by rfl, ?hyro6⟩) S0 ?restro6
      case hyro6 => (intro w hSw; obtain ⟨p0, p1, p2, p3, p4, p5, p6⟩ := HC.out _ hSw; obtain ⟨q0, q1, q2, q3, q4, q5, q6⟩ := HC'.out _ hSw;go_simp <;> with_reducible rfl)
      try simp only [Act.put, List.setIfInBounds_toArray, List.set_cons_zero, List.set_cons_succ]
      refine wpAnyH_take (i := 6) (oi := { dst := some 23, op := Op.indexAddr 28 (Operand.tmp 21) (Operand.tmp 22), type := 0, pos := "laws.go:356", after := #[{ on := 4, ground := Ground.data }, { on := 5, ground := Ground.data }], guard := none }) (v := ?vvro7) rfl (by kernel_rfl) (by kernel_rfl) (by kernel_rfl) (fun _ _ _ h => h) (Or.inl ⟨by rfl, ?hyro7⟩) S0 ?restro7
      case hyro7 => (intro w hSw; obtain ⟨p0, p1, p2, p3, p4, p5, p6⟩ := HC.out _ hSw; obtain ⟨q0, q1, q2, q3, q4, q5, q6⟩ := HC'.out _ hSw;go_simp <;> with_reducible rfl)
      try simp only [Act.put, List.setIfInBounds_toArray, List.set_cons_zero, List.set_cons_succ]
      refine wpAnyH_take (i := 7) (oi := { dst := some 24, op := Op.load 25 (Operand.tmp 23), type := 25, pos := "laws.go:356", after := #[{ on := 6, ground := Ground.data }], guard := none }) (v := ?vvro8) rfl (by kernel_rfl) (by kernel_rfl) (by kernel_rfl) (fun _ _ _ h => h) (Or.inl ⟨by rfl, ?hyro8⟩) S0 ?restro8
      case hyro8 => (intro w hSw; obtain ⟨p0, p1, p2, p3, p4, p5, p6⟩ := HC.out _ hSw; obtain ⟨q0, q1, q2, q3, q4, q5, q6⟩ := HC'.out _ hSw;go_simp <;> with_reducible rfl)
      try simp only [Act.put, List.setIfInBounds_toArray, List.set_cons_zero, List.set_cons_succ]
      refine wpAnyH_take (i := 8) (oi := { dst := some 25, op := Op.binOp BinOp.neq 25 (Operand.tmp 20) (Operand.tmp 24) 25, type := 4, pos := "laws.go:356", after := #[{ on := 3, ground := Ground.data }, { on := 7, ground := Ground.data }], guard := none }) (v := ?vvro9) rfl (by kernel_rfl) (by kernel_rfl) (by kernel_rfl) (fun _ _ _ h => h) (Or.inl ⟨by rfl, ?hyro9⟩) S0 ?restro9
      case hyro9 => (intro w hSw; obtain ⟨p0, p1, p2, p3, p4, p5, p6⟩ := HC.out _ hSw; obtain ⟨q0, q1, q2, q3, q4, q5, q6⟩ := HC'.out _ hSw;go_simp <;> with_reducible rfl)
      try simp only [Act.put, List.setIfInBounds_toArray, List.set_cons_zero, List.set_cons_succ]
      refine wpAnyH_done (by kernel_rfl) ?_ _
      go_wp2_with fail
      go_roundw
      case rel => exact ⟨i + 1, by omega, by simp, Lib.hid S0⟩
      case measure => simp [intOf]; omega
    · have : i = n := by omega
      subst this
      go_wp2_with fail
      go_ret
      exact ⟨rfl, HB.out⟩
set_option maxRecDepth 100000 in
set_option maxHeartbeats 4000000 in
theorem lwNums_any (a : List Int) (v v' : Value) (w : World) (h : SlAt w 1 v (a.map clI)) (h' : SlAt w 1 v' (a.map clI)) (hn : a.length ≤ 1000) :
    Calls Tryz.prog 18 #[v, v'] w fun e w' => e = .returned (.bool true) ∧ Below w.heap.size w w' := by
  obtain ⟨va, vc, rfl, h⟩ := h
  obtain ⟨wa, wc, rfl, h'⟩ := h'
  rw [List.length_map] at *
  have HH := Lib.hid h
  have HH' := Lib.hid h'
  clear h h'
  obtain ⟨n, hnn⟩ : ∃ n, n = a.length := ⟨_, rfl⟩
  rw [← hnn] at hn ⊢
  have HN := Lib.hid hnn
  clear hnn
  go_enter Tryz.func18, Tryz.ntmps18
  go_wp2_with fail
  go_loopw [5] (fun u wr => ∃ i : Nat, i ≤ n ∧ u = .int .i64 (i : Int) ∧ Hid (Below w.heap.size w wr)) (fun u _ => n - (intOf u).toNat)
  case atStart => exact ⟨0, Nat.zero_le _, rfl, Lib.hid (Below.refl _ _)⟩
  case round =>
    obtain ⟨i, hi, rfl, HB⟩ := hrel
    by_cases hlt : i < n
    · have hne : a.map clI ≠ [] := fun e => by
        have := congrArg List.length e
        rw [List.length_map, ← HN.out] at this
        simp at this; omega
      obtain ⟨b, off, ha, hb, HE⟩ := HH.out hne
      obtain ⟨b', off', ha', hb', HE'⟩ := HH'.out hne
      subst ha ha'
      have hir : i < a.length := by rw [← HN.out]; exact hlt
      have hl1 : (i : Int) < n := by omega
      have HC := Lib.hid (fun (W' : World) (hS : Below w.heap.size w W') => (elemsI HE hS hb).eI i hir)
      have HC' := Lib.hid (fun (W' : World) (hS : Below w.heap.size w W') => (elemsI HE' hS hb').eI i hir)
      have S0 : Below w.heap.size w wr.drew := HB.out.drew
      clear HE HE'
      generalize a[i] = y at *
      go_upto_region 6 with fail
      refine wp_region_held_drew (S := fun W' => Below w.heap.size w W') (by kernel_rfl) S0 (fun hHeld => ?_)
      clear hHeld
      refine wpAnyH_take (i := 0) (oi := { dst := some 17, op := Op.move (Operand.tmp 0), type := 39, pos := "laws.go:368", after := #[], guard := none }) (v := ?vvnu1) rfl (by kernel_rfl) (by kernel_rfl) (by kernel_rfl) (fun _ _ _ h => h) (Or.inl ⟨by rfl, ?hynu1⟩) S0 ?restnu1
      case hynu1 => (intro w hSw; have p0 := HC.out _ hSw; have q0 := HC'.out _ hSw;go_simp <;> with_reducible rfl)
      try simp only [Act.put, List.setIfInBounds_toArray, List.set_cons_zero, List.set_cons_succ]
      refine wpAnyH_take (i := 1) (oi := { dst := some 18, op := Op.move (Operand.tmp 5), type := 3, pos := "laws.go:368", after := #[], guard := none }) (v := ?vvnu2) rfl (by kernel_rfl) (by kernel_rfl) (by kernel_rfl) (fun _ _ _ h => h) (Or.inl ⟨by rfl, ?hynu2⟩) S0 ?restnu2
      case hynu2 => (intro w hSw; have p0 := HC.out _ hSw; have q0 := HC'.out _ hSw;go_simp <;> with_reducible rfl)
      try simp only [Act.put, List.setIfInBounds_toArray, List.set_cons_zero, List.set_cons_succ]
      refine wpAnyH_take (i := 2) (oi := { dst := some 19, op := Op.indexAddr 39 (Operand.tmp 17) (Operand.tmp 18), type := 0, pos := "laws.go:368", after := #[{ on := 0, ground := Ground.data }, { on := 1, ground := Ground.data }], guard := none }) (v := ?vvnu3) rfl (by kernel_rfl) (by kernel_rfl) (by kernel_rfl) (fun _ _ _ h => h) (Or.inl ⟨by rfl, ?hynu3⟩) S0 ?restnu3
      case hynu3 => (intro w hSw; have p0 := HC.out _ hSw; have q0 := HC'.out _ hSw;go_simp <;> with_reducible rfl)
      try simp only [Act.put, List.setIfInBounds_toArray, List.set_cons_zero, List.set_cons_succ]
      refine wpAnyH_take (i := 3) (oi := { dst := some 20, op := Op.load 2 (Operand.tmp 19), type := 2, pos := "laws.go:368", after := #[{ on := 2, ground := Ground.data }], guard := none }) (v := ?vvnu4) rfl (by kernel_rfl) (by kernel_rfl) (by kernel_rfl) (fun _ _ _ h => h) (Or.inl ⟨by rfl, ?hynu4⟩) S0 ?restnu4
      case hynu4 => (intro w hSw; have p0 := HC.out _ hSw; have q0 := HC'.out _ hSw;go_simp <;> with_reducible rfl)
      try simp only [Act.put, List.setIfInBounds_toArray, List.set_cons_zero, List.set_cons_succ]
      refine wpAnyH_take (i := 4) (oi := { dst := some 21, op := Op.move (Operand.tmp 1), type := 39, pos := "laws.go:368", after := #[], guard := none }) (v := ?vvnu5) rfl (by kernel_rfl) (by kernel_rfl) (by kernel_rfl) (fun _ _ _ h => h) (Or.inl ⟨by rfl, ?hynu5⟩) S0 ?restnu5
      case hynu5 => (intro w hSw; have p0 := HC.out _ hSw; have q0 := HC'.out _ hSw;go_simp <;> with_reducible rfl)
      try simp only [Act.put, List.setIfInBounds_toArray, List.set_cons_zero, List.set_cons_succ]
      refine wpAnyH_take (i := 5) (oi := { dst := some 22, op := Op.move (Operand.tmp 5), type := 3, pos := "laws.go:368", after := #[], guard := none }) (v := ?vvnu6) rfl (by kernel_rfl) (by kernel_rfl) (by kernel_rfl) (fun _ _ _ h => h) (Or.inl ⟨by rfl, ?hynu6⟩) S0 ?restnu6
      case hynu6 => (intro w hSw; have p0 := HC.out _ hSw; have q0 := HC'.out _ hSw;go_simp <;> with_reducible rfl)
      try simp only [Act.put, List.setIfInBounds_toArray, List.set_cons_zero, List.set_cons_succ]
      refine wpAnyH_take (i := 6) (oi := { dst := some 23, op := Op.indexAddr 39 (Operand.tmp 21) (Operand.tmp 22), type := 0, pos := "laws.go:368", after := #[{ on := 4, ground := Ground.data }, { on := 5, ground := Ground.data }], guard := none }) (v := ?vvnu7) rfl (by kernel_rfl) (by kernel_rfl) (by kernel_rfl) (fun _ _ _ h => h) (Or.inl ⟨by rfl, ?hynu7⟩) S0 ?restnu7
      case hynu7 => (intro w hSw; have p0 := HC.out _ hSw; have q0 := HC'.out _ hSw;go_simp <;> with_reducible rfl)
      try simp only [Act.put, List.setIfInBounds_toArray, List.set_cons_zero, List.set_cons_succ]
      refine wpAnyH_take (i := 7) (oi := { dst := some 24, op := Op.load 2 (Operand.tmp 23), type := 2, pos := "laws.go:368", after := #[{ on := 6, ground := Ground.data }], guard := none }) (v := ?vvnu8) rfl (by kernel_rfl) (by kernel_rfl) (by kernel_rfl) (fun _ _ _ h => h) (Or.inl ⟨by rfl, ?hynu8⟩) S0 ?restnu8
      case hynu8 => (intro w hSw; have p0 := HC.out _ hSw; have q0 := HC'.out _ hSw;go_simp <;> with_reducible rfl)
      try simp only [Act.put, List.setIfInBounds_toArray, List.set_cons_zero, List.set_cons_succ]
      refine wpAnyH_take (i := 8) (oi := { dst := some 25, op := Op.binOp BinOp.neq 2 (Operand.tmp 20) (Operand.tmp 24) 2, type := 4, pos := "laws.go:368", after := #[{ on := 3, ground := Ground.data }, { on := 7, ground := Ground.data }], guard := none }) (v := ?vvnu9) rfl (by kernel_rfl) (by kernel_rfl) (by kernel_rfl) (fun _ _ _ h => h) (Or.inl ⟨by rfl, ?hynu9⟩) S0 ?restnu9
      case hynu9 => (intro w hSw; have p0 := HC.out _ hSw; have q0 := HC'.out _ hSw;go_simp <;> with_reducible rfl)
      try simp only [Act.put, List.setIfInBounds_toArray, List.set_cons_zero, List.set_cons_succ]
      refine wpAnyH_done (by kernel_rfl) ?_ _
      go_wp2_with fail
      go_roundw
      case rel => exact ⟨i + 1, by omega, by simp, Lib.hid S0⟩
      case measure => simp [intOf]; omega
    · have : i = n := by omega
      subst this
      go_wp2_with fail
      go_ret
      exact ⟨rfl, HB.out⟩
set_option maxRecDepth 100000 in
set_option maxHeartbeats 4000000 in
theorem lwRibs_any (a : List Hd) (b : List Rt) (c : Int) (v v' t t' : Value) (w : World) (h : HdsAt w v a) (h' : HdsAt w v' a) (k : SlAt w 7 t (b.map Rt.cl)) (k' : SlAt w 7 t' (b.map Rt.cl)) (hn : a.length ≤ 1000) (hm : b.length ≤ 1000) (hok : c = 0 → ribOk a = true) :
    Calls Tryz.prog 13 #[roV v t c, roV v' t' c] w fun e w' => e = .returned (.bool true) ∧ Below w.heap.size w w' := by
  have HRt := Lib.hid (fun (W' : World) (hb : Below w.heap.size w W') => specRibRight_any a v W' (SlAt.kept h hb) (by omega))
  have HR1 := Lib.hid (fun (W' : World) (hb : Below w.heap.size w W') => lwRib_any a v v' W' (SlAt.kept h hb) (SlAt.kept h' hb) hn)
  have HR2 := Lib.hid (fun (W' : World) (hb : Below w.heap.size w W') => lwRoutes_any b t t' W' (SlAt.kept k hb) (SlAt.kept k' hb) hm)
  unfold RrPost at HRt
  have HOk := Lib.hid hok
  clear h h' k k' hok
  unfold roV
  have A0 := ((MemAt.start w).new 30 #[v, t, .int .i64 c]).new 30 #[v', t', .int .i64 c]
  rw [World.size_alloc] at A0
  go_enter Tryz.func13, Tryz.ntmps13
  go_upto_region 1 with fail
  generalize (w.alloc (.cells #[v, t, .int .i64 c] 30)).alloc (.cells #[v', t', .int .i64 c] 30) = W1 at *
  have c0 := A0.b0.cell
  have c1 := A0.b1.cell
  go_wp2_with fail
  refine (HR1.out _ A0.bel).mono ?_
  rintro e w2 ⟨rfl, hb⟩
  replace A0 := A0.kept hb
  clear hb c0 c1
  have c0 := A0.b0.cell
  have c1 := A0.b1.cell
  go_wp2_with fail
  refine (HR2.out _ A0.bel).mono ?_
  rintro e w3 ⟨rfl, hb⟩
  replace A0 := A0.kept hb
  clear hb c0 c1
  have c0 := A0.b0.cell
  have c1 := A0.b1.cell
  by_cases hc0 : c = 0
  · subst hc0
    have HB := Lib.hid A0.bel
    have HRx := Lib.hid (HRt.out _ A0.bel)
    rw [HOk.out rfl] at HRx
    clear A0 HRt HOk
    go_wp2_with (go_at_call 25; refine HRx.out.mono ?_; rintro e w4 ⟨rfl, hb2⟩; have HB2 := Lib.hid (HB.out.trans (hb2.mono HB.out.size)); clear hb2)
    go_ret
    exact ⟨rfl, HB2.out⟩
  · have HB := Lib.hid A0.bel
    clear A0 HRt HOk
    go_wp2_with fail
    go_ret
    exact ⟨rfl, HB.out⟩
end Go.Proofs.YtdnpaopbicdolaaGreat

/- The law's lwFresh. -/
namespace Go.Proofs.YtdnpaopbicdolaaGreat
open Go.RowKit

theorem rt_eq_iff (x r : Rt) : x = r ↔ x.kind = r.kind ∧ x.vni = r.vni ∧ x.mac = r.mac ∧ x.ip = r.ip ∧ x.org = r.org ∧ x.seq = r.seq ∧ x.st = r.st := by
  cases x; cases r; simp
set_option maxRecDepth 100000 in
set_option maxHeartbeats 8000000 in
theorem lwFresh_any (l : List Hd) (v : Value) (p : Int) (r : Rt) (w : World) (h : HdsAt w v l) (hnil : NilOk v) (hn : l.length ≤ 1000) :
    Calls Tryz.prog 27 #[v, .int .i64 p, r.val] w (RowPost Hd.cl 47 9 (l.map (freshH p r)) w) := by
  unfold RowPost
  have HL := Lib.hid h
  obtain ⟨a, cap, rfl, _⟩ := h
  rw [List.length_map] at *
  have HG := Lib.hid (fun (i : Nat) (hi : i < l.length) (h : i < (updTo (freshH p r) l i).length) => updTo_get (freshH p r) l i hi h)
  have HSc := Lib.hid (fun (i : Nat) (hi : i < l.length) => updTo_succ (freshH p r) l i hi)
  have HUl := Lib.hid (fun (i : Nat) => updTo_len (freshH p r) l i)
  have HZ : Hid (updTo (freshH p r) l l.length = l.map (freshH p r)) := Lib.hid (updTo_all _ _)
  have HZ0 : Hid (updTo (freshH p r) l 0 = l) := Lib.hid (by simp [updTo])
  have HlM : Hid ((l.map (freshH p r)).length = l.length) := Lib.hid (by simp)
  generalize l.map (freshH p r) = D at *
  obtain ⟨n, hnn⟩ : ∃ n, n = l.length := ⟨_, rfl⟩
  have HN := Lib.hid hnn
  clear hnn
  have X0 := Blk.new w 25 #[.int .i64 r.kind, .int .i64 r.vni, .int .i64 r.mac, .int .i64 r.ip, .int .i64 r.org, .int .i64 r.seq, .bool r.st]
  have HB0 : Below w.heap.size w (w.alloc (.cells #[.int .i64 r.kind, .int .i64 r.vni, .int .i64 r.mac, .int .i64 r.ip, .int .i64 r.org, .int .i64 r.seq, .bool r.st] 25)) := (Below.refl _ _).alloc (Nat.le_refl _) _
  have HL0 := Lib.hid (SlAt.alloc HL.out (.cells #[.int .i64 r.kind, .int .i64 r.vni, .int .i64 r.mac, .int .i64 r.ip, .int .i64 r.org, .int .i64 r.seq, .bool r.st] 25))
  have hq0 : w.heap.size + 1 ≤ (w.alloc (.cells #[.int .i64 r.kind, .int .i64 r.vni, .int .i64 r.mac, .int .i64 r.ip, .int .i64 r.org, .int .i64 r.seq, .bool r.st] 25)).heap.size := by simp
  unfold Rt.val rtV
  go_enter Tryz.func27, Tryz.ntmps27
  go_upto_region 1 with fail
  generalize w.alloc (.cells #[.int .i64 r.kind, .int .i64 r.vni, .int .i64 r.mac, .int .i64 r.ip, .int .i64 r.org, .int .i64 r.seq, .bool r.st] 25) = w0 at *
  have HX := Lib.hid X0
  have HBw := Lib.hid HB0
  clear X0 HB0
  go_wp2_with (at_builtin; refine wpList_append_slice Hd.cl_len Hd.cl_one1 tyH _ rfl _ _ rfl (w.heap.size + 1) _ [] l rfl (rown_mono (World.ownsRow_lit (base := w0.heap.size) (e := 47) (size := 9) w0 #[] 0 (by simp) (Nat.zero_le _) rfl) hq0) a cap rfl hnil (SlAt.alloc HL0.out _) (by simp; omega) (by simp; omega) ?_; intro a' c' n' w5 HN5 hown5 hg5; have HO5 := Lib.hid hown5; have HG5 : Hid (Below w0.heap.size w0 w5) := Lib.hid (((Below.refl _ w0).alloc (Nat.le_refl _) _).grown hg5 (by simp) (fun k hk => by cases hk; exact Nat.le_refl _)); clear hown5 hg5)
  have HX5 := Lib.hid (HX.out.kept HG5.out)
  have HB5 := Lib.hid (HBw.out.trans (HG5.out.mono HBw.out.size))
  have hn5 : n' = n := by have := HN5.out; have := HN.out; simp at *; omega
  rw [List.nil_append] at HO5
  rw [hn5] at HO5 ⊢
  clear HN5 hn5 hnil HX HG5 HBw HL0
  go_wp2_with fail
  go_loopw [8] (fun u wr => ∃ i : Nat, i ≤ n ∧ u = .int .i64 (i : Int) ∧ Hid (wr.ownsRow (w.heap.size + 1) 47 9 (.slice a' n c') n (rcells Hd.cl (updTo (freshH p r) l i))) ∧ Hid (Below w.heap.size w wr) ∧ Hid (Blk wr w.heap.size 25 #[.int .i64 r.kind, .int .i64 r.vni, .int .i64 r.mac, .int .i64 r.ip, .int .i64 r.org, .int .i64 r.seq, .bool r.st])) (fun u _ => n - (intOf u).toNat)
  case atStart => exact ⟨0, Nat.zero_le _, rfl, by rw [HZ0.out]; exact HO5, HB5, HX5⟩
  case round =>
    obtain ⟨i, hi, rfl, HO, HB, HXr⟩ := hrel
    by_cases hlt : i < n
    · have hir : i < l.length := by rw [← HN.out]; exact hlt
      have hl1 : (i : Int) < n := by omega
      obtain ⟨g, hg⟩ : ∃ g, a' = some ⟨g, 0, none⟩ := by
        rcases HO.out.2 with ⟨e, _⟩ | ⟨g, cp, cu, e, _⟩
        · injection e with _ e2 _; omega
        · injection e with e1 _ _; exact ⟨g, e1⟩
      subst hg
      have hul : i < (updTo (freshH p r) l i).length := by rw [HUl.out]; exact hir
      have hgB : w.heap.size + 1 ≤ g := (HO.out.lt g rfl).1
      have HC : Hid (∀ W' : World, W'.ownsRow (w.heap.size + 1) 47 9 (.slice (some ⟨g, 0, none⟩) n c') n (rcells Hd.cl (updTo (freshH p r) l i)) → W'.cell? ⟨g, i * 9, none⟩ = some (.int .i64 (l[i]).p) ∧ W'.cell? ⟨g, i * 9 + 1, none⟩ = some (.bool (l[i]).s) ∧ W'.cell? ⟨g, i * 9 + 2, none⟩ = some (.int .i64 (l[i]).r.kind) ∧ W'.cell? ⟨g, i * 9 + 3, none⟩ = some (.int .i64 (l[i]).r.vni) ∧ W'.cell? ⟨g, i * 9 + 4, none⟩ = some (.int .i64 (l[i]).r.mac) ∧ W'.cell? ⟨g, i * 9 + 5, none⟩ = some (.int .i64 (l[i]).r.ip) ∧ W'.cell? ⟨g, i * 9 + 6, none⟩ = some (.int .i64 (l[i]).r.org) ∧ W'.cell? ⟨g, i * 9 + 7, none⟩ = some (.int .i64 (l[i]).r.seq) ∧ W'.cell? ⟨g, i * 9 + 8, none⟩ = some (.bool (l[i]).r.st)) := Lib.hid (fun W' hO => by
        obtain ⟨_, _, hsl, hE⟩ := rows_of_own (cl := Hd.cl) Hd.cl_len (l := updTo (freshH p r) l i) (by rw [HUl.out, ← HN.out]; exact hO)
        injection hsl with e1 e2 e3
        obtain ⟨b, off, e4, hb, hEl⟩ := hE (fun e => by have := congrArg List.length e; simp at this; rw [this] at hul; simp at hul)
        subst e1
        injection e4 with e4
        injection e4 with e4 e5
        subst e4 e5
        have HC := hEl.hd i hul
        rw [HG.out i hir hul] at HC
        simpa using HC)
      have hfr := HO.out.frozenAt
      have HNX := Lib.hid (fun (W' : World) (hO : W'.ownsRow (w.heap.size + 1) 47 9 (.slice (some ⟨g, 0, none⟩) n c') n (rcells Hd.cl (updTo (freshH p r) l i))) (u : Bool) (hu : freshH p r l[i] = ⟨(l[i]).p, u, (l[i]).r⟩) => (show (W'.setCell ⟨g, i * 9 + 1, none⟩ (.bool u)).ownsRow (w.heap.size + 1) 47 9 (.slice (some ⟨g, 0, none⟩) n c') n (rcells Hd.cl (updTo (freshH p r) l (i + 1))) from by
        have := (hO.stored (i * 9 + 1) (.bool u)).1
        rw [rcells_set Hd.cl_len (updTo (freshH p r) l i) i hul 1 (by omega) (.bool u) (freshH p r l[i]) (by rw [HG.out i hir hul, hu]; rfl)] at this
        rw [HSc.out i hir]
        exact this))
      have HNN := Lib.hid (fun (hs : freshH p r l[i] = l[i]) => (show updTo (freshH p r) l (i + 1) = updTo (freshH p r) l i from by rw [HSc.out i hir, hs, ← HG.out i hir hul, List.set_getElem_self]))
      have S0 : wr.drew.ownsRow (w.heap.size + 1) 47 9 (.slice (some ⟨g, 0, none⟩) n c') n (rcells Hd.cl (updTo (freshH p r) l i)) ∧ Blk wr.drew w.heap.size 25 #[.int .i64 r.kind, .int .i64 r.vni, .int .i64 r.mac, .int .i64 r.ip, .int .i64 r.org, .int .i64 r.seq, .bool r.st] ∧ Below w.heap.size w wr.drew := ⟨rown_below HO.out ((Below.refl _ _).drew), HXr.out.drew, HB.out.drew⟩
      clear HO HB HO5 HB5 HX5 HXr hul hfr
      generalize l[i] = x at *
      obtain ⟨y0, y1, x0, x1, x2, x3, x4, x5, x6⟩ := x
      obtain ⟨r0, r1, r2, r3, r4, r5, r6⟩ := r
      dsimp only at *
      generalize updTo (freshH p ⟨r0, r1, r2, r3, r4, r5, r6⟩) l i = U at *
      by_cases h1 : y0 = p
      · by_cases h2 : (⟨x0, x1, x2, x3, x4, x5, x6⟩ : Rt) = ⟨r0, r1, r2, r3, r4, r5, r6⟩
        · have HNX2 := Lib.hid (fun (W' : World) hO => HNX.out W' hO false (by unfold freshH; rw [if_pos ⟨h1, h2⟩]))
          injection h2 with e0 e1 e2 e3 e4 e5 e6
          subst h1 e0 e1 e2 e3 e4 e5 e6
          clear HNX HNN
          go_upto_region 5 with fail
          refine wp_region_held_drew (S := fun W' => W'.ownsRow (w.heap.size + 1) 47 9 (.slice (some ⟨g, 0, none⟩) n c') n (rcells Hd.cl U) ∧ Blk W' w.heap.size 25 #[.int .i64 x0, .int .i64 x1, .int .i64 x2, .int .i64 x3, .int .i64 x4, .int .i64 x5, .bool x6] ∧ Below w.heap.size w W') (by kernel_rfl) S0 (fun hHeld => ?_)
          clear hHeld
          generalize wr.drew = Wd at *
          refine wpAnyH_take (i := 0) (oi := { dst := some 18, op := Op.move (Operand.tmp 7), type := 23, pos := "laws.go:429", after := #[], guard := none }) (v := ?vva1) rfl (by kernel_rfl) (by kernel_rfl) (by kernel_rfl) (fun _ _ _ h => h) (Or.inl ⟨by rfl, ?hya1⟩) S0 ?resta1
          case hya1 => (intro w hSw; have hcX := hSw.2.1.cell; obtain ⟨p0, p1, p2, p3, p4, p5, p6, p7, p8⟩ := HC.out _ hSw.1;go_simp <;> with_reducible rfl)
          try simp only [Act.put, List.setIfInBounds_toArray, List.set_cons_zero, List.set_cons_succ]
          refine wpAnyH_take (i := 1) (oi := { dst := some 19, op := Op.move (Operand.tmp 8), type := 3, pos := "laws.go:429", after := #[], guard := none }) (v := ?vva2) rfl (by kernel_rfl) (by kernel_rfl) (by kernel_rfl) (fun _ _ _ h => h) (Or.inl ⟨by rfl, ?hya2⟩) S0 ?resta2
          case hya2 => (intro w hSw; have hcX := hSw.2.1.cell; obtain ⟨p0, p1, p2, p3, p4, p5, p6, p7, p8⟩ := HC.out _ hSw.1;go_simp <;> with_reducible rfl)
          try simp only [Act.put, List.setIfInBounds_toArray, List.set_cons_zero, List.set_cons_succ]
          refine wpAnyH_take (i := 2) (oi := { dst := some 20, op := Op.indexAddr 23 (Operand.tmp 18) (Operand.tmp 19), type := 0, pos := "laws.go:429", after := #[{ on := 0, ground := Ground.data }, { on := 1, ground := Ground.data }], guard := none }) (v := ?vva3) rfl (by kernel_rfl) (by kernel_rfl) (by kernel_rfl) (fun _ _ _ h => h) (Or.inl ⟨by rfl, ?hya3⟩) S0 ?resta3
          case hya3 => (intro w hSw; have hcX := hSw.2.1.cell; obtain ⟨p0, p1, p2, p3, p4, p5, p6, p7, p8⟩ := HC.out _ hSw.1;go_simp <;> with_reducible rfl)
          try simp only [Act.put, List.setIfInBounds_toArray, List.set_cons_zero, List.set_cons_succ]
          refine wpAnyH_take (i := 3) (oi := { dst := some 21, op := Op.fieldAddr 47 (Operand.tmp 20) 0, type := 0, pos := "laws.go:429", after := #[{ on := 2, ground := Ground.data }], guard := none }) (v := ?vva4) rfl (by kernel_rfl) (by kernel_rfl) (by kernel_rfl) (fun _ _ _ h => h) (Or.inl ⟨by rfl, ?hya4⟩) S0 ?resta4
          case hya4 => (intro w hSw; have hcX := hSw.2.1.cell; obtain ⟨p0, p1, p2, p3, p4, p5, p6, p7, p8⟩ := HC.out _ hSw.1;go_simp <;> with_reducible rfl)
          try simp only [Act.put, List.setIfInBounds_toArray, List.set_cons_zero, List.set_cons_succ]
          refine wpAnyH_take (i := 4) (oi := { dst := some 22, op := Op.load 2 (Operand.tmp 21), type := 2, pos := "laws.go:429", after := #[{ on := 3, ground := Ground.data }], guard := none }) (v := ?vva5) rfl (by kernel_rfl) (by kernel_rfl) (by kernel_rfl) (fun _ _ _ h => h) (Or.inl ⟨by rfl, ?hya5⟩) S0 ?resta5
          case hya5 => (intro w hSw; have hcX := hSw.2.1.cell; obtain ⟨p0, p1, p2, p3, p4, p5, p6, p7, p8⟩ := HC.out _ hSw.1;go_simp <;> with_reducible rfl)
          try simp only [Act.put, List.setIfInBounds_toArray, List.set_cons_zero, List.set_cons_succ]
          refine wpAnyH_take (i := 5) (oi := { dst := some 23, op := Op.move (Operand.tmp 1), type := 2, pos := "laws.go:429", after := #[], guard := none }) (v := ?vva6) rfl (by kernel_rfl) (by kernel_rfl) (by kernel_rfl) (fun _ _ _ h => h) (Or.inl ⟨by rfl, ?hya6⟩) S0 ?resta6
          case hya6 => (intro w hSw; have hcX := hSw.2.1.cell; obtain ⟨p0, p1, p2, p3, p4, p5, p6, p7, p8⟩ := HC.out _ hSw.1;go_simp <;> with_reducible rfl)
          try simp only [Act.put, List.setIfInBounds_toArray, List.set_cons_zero, List.set_cons_succ]
          refine wpAnyH_take (i := 6) (oi := { dst := some 24, op := Op.binOp BinOp.eql 2 (Operand.tmp 22) (Operand.tmp 23) 2, type := 4, pos := "laws.go:429", after := #[{ on := 4, ground := Ground.data }, { on := 5, ground := Ground.data }], guard := none }) (v := ?vva7) rfl (by kernel_rfl) (by kernel_rfl) (by kernel_rfl) (fun _ _ _ h => h) (Or.inl ⟨by rfl, ?hya7⟩) S0 ?resta7
          case hya7 => (intro w hSw; have hcX := hSw.2.1.cell; obtain ⟨p0, p1, p2, p3, p4, p5, p6, p7, p8⟩ := HC.out _ hSw.1;go_simp <;> with_reducible rfl)
          try simp only [Act.put, List.setIfInBounds_toArray, List.set_cons_zero, List.set_cons_succ]
          refine wpAnyH_take (i := 7) (oi := { dst := some 25, op := Op.move (Operand.tmp 24), type := 4, pos := "laws.go:429", after := #[{ on := 6, ground := Ground.data }], guard := none }) (v := ?vva8) rfl (by kernel_rfl) (by kernel_rfl) (by kernel_rfl) (fun _ _ _ h => h) (Or.inl ⟨by rfl, ?hya8⟩) S0 ?resta8
          case hya8 => (intro w hSw; have hcX := hSw.2.1.cell; obtain ⟨p0, p1, p2, p3, p4, p5, p6, p7, p8⟩ := HC.out _ hSw.1;go_simp <;> with_reducible rfl)
          try simp only [Act.put, List.setIfInBounds_toArray, List.set_cons_zero, List.set_cons_succ]
          refine wpAnyH_take (i := 8) (oi := { dst := some 26, op := Op.move (Operand.tmp 7), type := 23, pos := "laws.go:429", after := #[{ on := 7, ground := Ground.guard }], guard := some (7, true) }) (v := ?vva9) rfl (by kernel_rfl) (by kernel_rfl) (by kernel_rfl) (fun _ _ _ h => h) (Or.inl ⟨by rfl, ?hya9⟩) S0 ?resta9
          case hya9 => (intro w hSw; have hcX := hSw.2.1.cell; obtain ⟨p0, p1, p2, p3, p4, p5, p6, p7, p8⟩ := HC.out _ hSw.1;go_simp <;> with_reducible rfl)
          try simp only [Act.put, List.setIfInBounds_toArray, List.set_cons_zero, List.set_cons_succ]
          refine wpAnyH_take (i := 9) (oi := { dst := some 27, op := Op.move (Operand.tmp 8), type := 3, pos := "laws.go:429", after := #[{ on := 7, ground := Ground.guard }], guard := some (7, true) }) (v := ?vva10) rfl (by kernel_rfl) (by kernel_rfl) (by kernel_rfl) (fun _ _ _ h => h) (Or.inl ⟨by rfl, ?hya10⟩) S0 ?resta10
          case hya10 => (intro w hSw; have hcX := hSw.2.1.cell; obtain ⟨p0, p1, p2, p3, p4, p5, p6, p7, p8⟩ := HC.out _ hSw.1;go_simp <;> with_reducible rfl)
          try simp only [Act.put, List.setIfInBounds_toArray, List.set_cons_zero, List.set_cons_succ]
          refine wpAnyH_take (i := 10) (oi := { dst := some 28, op := Op.indexAddr 23 (Operand.tmp 26) (Operand.tmp 27), type := 0, pos := "laws.go:429", after := #[{ on := 8, ground := Ground.data }, { on := 9, ground := Ground.data }, { on := 7, ground := Ground.guard }], guard := some (7, true) }) (v := ?vva11) rfl (by kernel_rfl) (by kernel_rfl) (by kernel_rfl) (fun _ _ _ h => h) (Or.inl ⟨by rfl, ?hya11⟩) S0 ?resta11
          case hya11 => (intro w hSw; have hcX := hSw.2.1.cell; obtain ⟨p0, p1, p2, p3, p4, p5, p6, p7, p8⟩ := HC.out _ hSw.1;go_simp <;> with_reducible rfl)
          try simp only [Act.put, List.setIfInBounds_toArray, List.set_cons_zero, List.set_cons_succ]
          refine wpAnyH_take (i := 11) (oi := { dst := some 29, op := Op.fieldAddr 47 (Operand.tmp 28) 2, type := 0, pos := "laws.go:429", after := #[{ on := 10, ground := Ground.data }, { on := 7, ground := Ground.guard }], guard := some (7, true) }) (v := ?vva12) rfl (by kernel_rfl) (by kernel_rfl) (by kernel_rfl) (fun _ _ _ h => h) (Or.inl ⟨by rfl, ?hya12⟩) S0 ?resta12
          case hya12 => (intro w hSw; have hcX := hSw.2.1.cell; obtain ⟨p0, p1, p2, p3, p4, p5, p6, p7, p8⟩ := HC.out _ hSw.1;go_simp <;> with_reducible rfl)
          try simp only [Act.put, List.setIfInBounds_toArray, List.set_cons_zero, List.set_cons_succ]
          refine wpAnyH_take (i := 12) (oi := { dst := some 30, op := Op.load 25 (Operand.tmp 29), type := 25, pos := "laws.go:429", after := #[{ on := 11, ground := Ground.data }, { on := 7, ground := Ground.guard }], guard := some (7, true) }) (v := ?vva13) rfl (by kernel_rfl) (by kernel_rfl) (by kernel_rfl) (fun _ _ _ h => h) (Or.inl ⟨by rfl, ?hya13⟩) S0 ?resta13
          case hya13 => (intro w hSw; have hcX := hSw.2.1.cell; obtain ⟨p0, p1, p2, p3, p4, p5, p6, p7, p8⟩ := HC.out _ hSw.1;go_simp <;> with_reducible rfl)
          try simp only [Act.put, List.setIfInBounds_toArray, List.set_cons_zero, List.set_cons_succ]
          refine wpAnyH_take (i := 13) (oi := { dst := some 31, op := Op.load 25 (Operand.tmp 5), type := 25, pos := "laws.go:429", after := #[{ on := 7, ground := Ground.guard }], guard := some (7, true) }) (v := ?vva14) rfl (by kernel_rfl) (by kernel_rfl) (by kernel_rfl) (fun _ _ _ h => h) (Or.inl ⟨by rfl, ?hya14⟩) S0 ?resta14
          case hya14 => (intro w hSw; have hcX := hSw.2.1.cell; obtain ⟨p0, p1, p2, p3, p4, p5, p6, p7, p8⟩ := HC.out _ hSw.1;go_simp <;> with_reducible rfl)
          try simp only [Act.put, List.setIfInBounds_toArray, List.set_cons_zero, List.set_cons_succ]
          refine wpAnyH_take (i := 14) (oi := { dst := some 32, op := Op.binOp BinOp.eql 25 (Operand.tmp 30) (Operand.tmp 31) 25, type := 4, pos := "laws.go:429", after := #[{ on := 12, ground := Ground.data }, { on := 13, ground := Ground.data }, { on := 7, ground := Ground.guard }], guard := some (7, true) }) (v := ?vva15) rfl (by kernel_rfl) (by kernel_rfl) (by kernel_rfl) (fun _ _ _ h => h) (Or.inl ⟨by rfl, ?hya15⟩) S0 ?resta15
          case hya15 => (intro w hSw; have hcX := hSw.2.1.cell; obtain ⟨p0, p1, p2, p3, p4, p5, p6, p7, p8⟩ := HC.out _ hSw.1;go_simp <;> with_reducible rfl)
          try simp only [Act.put, List.setIfInBounds_toArray, List.set_cons_zero, List.set_cons_succ]
          refine wpAnyH_take (i := 15) (oi := { dst := some 33, op := Op.pick (Operand.tmp 25) (Operand.tmp 32) (Operand.const (Value.bool false)), type := 4, pos := "laws.go:429", after := #[{ on := 7, ground := Ground.data }, { on := 14, ground := Ground.data }], guard := none }) (v := ?vva16) rfl (by kernel_rfl) (by kernel_rfl) (by kernel_rfl) (fun _ _ _ h => h) (Or.inl ⟨by rfl, ?hya16⟩) S0 ?resta16
          case hya16 => (intro w hSw; have hcX := hSw.2.1.cell; obtain ⟨p0, p1, p2, p3, p4, p5, p6, p7, p8⟩ := HC.out _ hSw.1;go_simp <;> with_reducible rfl)
          try simp only [Act.put, List.setIfInBounds_toArray, List.set_cons_zero, List.set_cons_succ]
          refine wpAnyH_done (by kernel_rfl) ?_ _
          all_goals
            obtain ⟨p0, p1, p2, p3, p4, p5, p6, p7, p8⟩ := HC.out _ S0.1
            have hfr := S0.1.frozenAt
            have HS := Lib.hid S0
            clear S0
            go_wp2_with fail
            go_roundw
            case rel => exact ⟨i + 1, by omega, by simp, Lib.hid (HNX2.out _ HS.out.1), Lib.hid (HS.out.2.2.setCell (p := ⟨g, i * 9 + 1, none⟩) (by show w.heap.size ≤ g; omega) _), Lib.hid (HS.out.2.1.far (b' := g) (by omega))⟩
            case measure => simp [intOf]; omega
        · have HNN2 := Lib.hid (HNN.out (by unfold freshH; rw [if_neg (fun e => h2 e.2)]))
          have h3 := fun e => h2 ((rt_eq_iff _ _).2 e)
          dsimp only at h3
          have hif : ∀ {γ : Type} (A B : γ), (if x0 = r0 then (if x1 = r1 then (if x2 = r2 then (if x3 = r3 then (if x4 = r4 then (if x5 = r5 then (if x6 = r6 then A else B) else B) else B) else B) else B) else B) else B) = B := fun {γ} A B => by
            repeat' split
            all_goals first | rfl | exact absurd ⟨by assumption, by assumption, by assumption, by assumption, by assumption, by assumption, by assumption⟩ h3
          subst h1
          clear h3
          clear HNX HNN h2
          go_upto_region 5 with fail
          refine wp_region_held_drew (S := fun W' => W'.ownsRow (w.heap.size + 1) 47 9 (.slice (some ⟨g, 0, none⟩) n c') n (rcells Hd.cl U) ∧ Blk W' w.heap.size 25 #[.int .i64 r0, .int .i64 r1, .int .i64 r2, .int .i64 r3, .int .i64 r4, .int .i64 r5, .bool r6] ∧ Below w.heap.size w W') (by kernel_rfl) S0 (fun hHeld => ?_)
          clear hHeld
          generalize wr.drew = Wd at *
          refine wpAnyH_take (i := 0) (oi := { dst := some 18, op := Op.move (Operand.tmp 7), type := 23, pos := "laws.go:429", after := #[], guard := none }) (v := ?vvb1) rfl (by kernel_rfl) (by kernel_rfl) (by kernel_rfl) (fun _ _ _ h => h) (Or.inl ⟨by rfl, ?hyb1⟩) S0 ?restb1
          case hyb1 => (intro w hSw; have hcX := hSw.2.1.cell; obtain ⟨p0, p1, p2, p3, p4, p5, p6, p7, p8⟩ := HC.out _ hSw.1;go_simp <;> with_reducible rfl)
          try simp only [Act.put, List.setIfInBounds_toArray, List.set_cons_zero, List.set_cons_succ]
          refine wpAnyH_take (i := 1) (oi := { dst := some 19, op := Op.move (Operand.tmp 8), type := 3, pos := "laws.go:429", after := #[], guard := none }) (v := ?vvb2) rfl (by kernel_rfl) (by kernel_rfl) (by kernel_rfl) (fun _ _ _ h => h) (Or.inl ⟨by rfl, ?hyb2⟩) S0 ?restb2
          case hyb2 => (intro w hSw; have hcX := hSw.2.1.cell; obtain ⟨p0, p1, p2, p3, p4, p5, p6, p7, p8⟩ := HC.out _ hSw.1;go_simp <;> with_reducible rfl)
          try simp only [Act.put, List.setIfInBounds_toArray, List.set_cons_zero, List.set_cons_succ]
          refine wpAnyH_take (i := 2) (oi := { dst := some 20, op := Op.indexAddr 23 (Operand.tmp 18) (Operand.tmp 19), type := 0, pos := "laws.go:429", after := #[{ on := 0, ground := Ground.data }, { on := 1, ground := Ground.data }], guard := none }) (v := ?vvb3) rfl (by kernel_rfl) (by kernel_rfl) (by kernel_rfl) (fun _ _ _ h => h) (Or.inl ⟨by rfl, ?hyb3⟩) S0 ?restb3
          case hyb3 => (intro w hSw; have hcX := hSw.2.1.cell; obtain ⟨p0, p1, p2, p3, p4, p5, p6, p7, p8⟩ := HC.out _ hSw.1;go_simp <;> with_reducible rfl)
          try simp only [Act.put, List.setIfInBounds_toArray, List.set_cons_zero, List.set_cons_succ]
          refine wpAnyH_take (i := 3) (oi := { dst := some 21, op := Op.fieldAddr 47 (Operand.tmp 20) 0, type := 0, pos := "laws.go:429", after := #[{ on := 2, ground := Ground.data }], guard := none }) (v := ?vvb4) rfl (by kernel_rfl) (by kernel_rfl) (by kernel_rfl) (fun _ _ _ h => h) (Or.inl ⟨by rfl, ?hyb4⟩) S0 ?restb4
          case hyb4 => (intro w hSw; have hcX := hSw.2.1.cell; obtain ⟨p0, p1, p2, p3, p4, p5, p6, p7, p8⟩ := HC.out _ hSw.1;go_simp <;> with_reducible rfl)
          try simp only [Act.put, List.setIfInBounds_toArray, List.set_cons_zero, List.set_cons_succ]
          refine wpAnyH_take (i := 4) (oi := { dst := some 22, op := Op.load 2 (Operand.tmp 21), type := 2, pos := "laws.go:429", after := #[{ on := 3, ground := Ground.data }], guard := none }) (v := ?vvb5) rfl (by kernel_rfl) (by kernel_rfl) (by kernel_rfl) (fun _ _ _ h => h) (Or.inl ⟨by rfl, ?hyb5⟩) S0 ?restb5
          case hyb5 => (intro w hSw; have hcX := hSw.2.1.cell; obtain ⟨p0, p1, p2, p3, p4, p5, p6, p7, p8⟩ := HC.out _ hSw.1;go_simp <;> with_reducible rfl)
          try simp only [Act.put, List.setIfInBounds_toArray, List.set_cons_zero, List.set_cons_succ]
          refine wpAnyH_take (i := 5) (oi := { dst := some 23, op := Op.move (Operand.tmp 1), type := 2, pos := "laws.go:429", after := #[], guard := none }) (v := ?vvb6) rfl (by kernel_rfl) (by kernel_rfl) (by kernel_rfl) (fun _ _ _ h => h) (Or.inl ⟨by rfl, ?hyb6⟩) S0 ?restb6
          case hyb6 => (intro w hSw; have hcX := hSw.2.1.cell; obtain ⟨p0, p1, p2, p3, p4, p5, p6, p7, p8⟩ := HC.out _ hSw.1;go_simp <;> with_reducible rfl)
          try simp only [Act.put, List.setIfInBounds_toArray, List.set_cons_zero, List.set_cons_succ]
          refine wpAnyH_take (i := 6) (oi := { dst := some 24, op := Op.binOp BinOp.eql 2 (Operand.tmp 22) (Operand.tmp 23) 2, type := 4, pos := "laws.go:429", after := #[{ on := 4, ground := Ground.data }, { on := 5, ground := Ground.data }], guard := none }) (v := ?vvb7) rfl (by kernel_rfl) (by kernel_rfl) (by kernel_rfl) (fun _ _ _ h => h) (Or.inl ⟨by rfl, ?hyb7⟩) S0 ?restb7
          case hyb7 => (intro w hSw; have hcX := hSw.2.1.cell; obtain ⟨p0, p1, p2, p3, p4, p5, p6, p7, p8⟩ := HC.out _ hSw.1;go_simp <;> with_reducible rfl)
          try simp only [Act.put, List.setIfInBounds_toArray, List.set_cons_zero, List.set_cons_succ]
          refine wpAnyH_take (i := 7) (oi := { dst := some 25, op := Op.move (Operand.tmp 24), type := 4, pos := "laws.go:429", after := #[{ on := 6, ground := Ground.data }], guard := none }) (v := ?vvb8) rfl (by kernel_rfl) (by kernel_rfl) (by kernel_rfl) (fun _ _ _ h => h) (Or.inl ⟨by rfl, ?hyb8⟩) S0 ?restb8
          case hyb8 => (intro w hSw; have hcX := hSw.2.1.cell; obtain ⟨p0, p1, p2, p3, p4, p5, p6, p7, p8⟩ := HC.out _ hSw.1;go_simp <;> with_reducible rfl)
          try simp only [Act.put, List.setIfInBounds_toArray, List.set_cons_zero, List.set_cons_succ]
          refine wpAnyH_take (i := 8) (oi := { dst := some 26, op := Op.move (Operand.tmp 7), type := 23, pos := "laws.go:429", after := #[{ on := 7, ground := Ground.guard }], guard := some (7, true) }) (v := ?vvb9) rfl (by kernel_rfl) (by kernel_rfl) (by kernel_rfl) (fun _ _ _ h => h) (Or.inl ⟨by rfl, ?hyb9⟩) S0 ?restb9
          case hyb9 => (intro w hSw; have hcX := hSw.2.1.cell; obtain ⟨p0, p1, p2, p3, p4, p5, p6, p7, p8⟩ := HC.out _ hSw.1;go_simp <;> with_reducible rfl)
          try simp only [Act.put, List.setIfInBounds_toArray, List.set_cons_zero, List.set_cons_succ]
          refine wpAnyH_take (i := 9) (oi := { dst := some 27, op := Op.move (Operand.tmp 8), type := 3, pos := "laws.go:429", after := #[{ on := 7, ground := Ground.guard }], guard := some (7, true) }) (v := ?vvb10) rfl (by kernel_rfl) (by kernel_rfl) (by kernel_rfl) (fun _ _ _ h => h) (Or.inl ⟨by rfl, ?hyb10⟩) S0 ?restb10
          case hyb10 => (intro w hSw; have hcX := hSw.2.1.cell; obtain ⟨p0, p1, p2, p3, p4, p5, p6, p7, p8⟩ := HC.out _ hSw.1;go_simp <;> with_reducible rfl)
          try simp only [Act.put, List.setIfInBounds_toArray, List.set_cons_zero, List.set_cons_succ]
          refine wpAnyH_take (i := 10) (oi := { dst := some 28, op := Op.indexAddr 23 (Operand.tmp 26) (Operand.tmp 27), type := 0, pos := "laws.go:429", after := #[{ on := 8, ground := Ground.data }, { on := 9, ground := Ground.data }, { on := 7, ground := Ground.guard }], guard := some (7, true) }) (v := ?vvb11) rfl (by kernel_rfl) (by kernel_rfl) (by kernel_rfl) (fun _ _ _ h => h) (Or.inl ⟨by rfl, ?hyb11⟩) S0 ?restb11
          case hyb11 => (intro w hSw; have hcX := hSw.2.1.cell; obtain ⟨p0, p1, p2, p3, p4, p5, p6, p7, p8⟩ := HC.out _ hSw.1;go_simp <;> with_reducible rfl)
          try simp only [Act.put, List.setIfInBounds_toArray, List.set_cons_zero, List.set_cons_succ]
          refine wpAnyH_take (i := 11) (oi := { dst := some 29, op := Op.fieldAddr 47 (Operand.tmp 28) 2, type := 0, pos := "laws.go:429", after := #[{ on := 10, ground := Ground.data }, { on := 7, ground := Ground.guard }], guard := some (7, true) }) (v := ?vvb12) rfl (by kernel_rfl) (by kernel_rfl) (by kernel_rfl) (fun _ _ _ h => h) (Or.inl ⟨by rfl, ?hyb12⟩) S0 ?restb12
          case hyb12 => (intro w hSw; have hcX := hSw.2.1.cell; obtain ⟨p0, p1, p2, p3, p4, p5, p6, p7, p8⟩ := HC.out _ hSw.1;go_simp <;> with_reducible rfl)
          try simp only [Act.put, List.setIfInBounds_toArray, List.set_cons_zero, List.set_cons_succ]
          refine wpAnyH_take (i := 12) (oi := { dst := some 30, op := Op.load 25 (Operand.tmp 29), type := 25, pos := "laws.go:429", after := #[{ on := 11, ground := Ground.data }, { on := 7, ground := Ground.guard }], guard := some (7, true) }) (v := ?vvb13) rfl (by kernel_rfl) (by kernel_rfl) (by kernel_rfl) (fun _ _ _ h => h) (Or.inl ⟨by rfl, ?hyb13⟩) S0 ?restb13
          case hyb13 => (intro w hSw; have hcX := hSw.2.1.cell; obtain ⟨p0, p1, p2, p3, p4, p5, p6, p7, p8⟩ := HC.out _ hSw.1;go_simp <;> with_reducible rfl)
          try simp only [Act.put, List.setIfInBounds_toArray, List.set_cons_zero, List.set_cons_succ]
          refine wpAnyH_take (i := 13) (oi := { dst := some 31, op := Op.load 25 (Operand.tmp 5), type := 25, pos := "laws.go:429", after := #[{ on := 7, ground := Ground.guard }], guard := some (7, true) }) (v := ?vvb14) rfl (by kernel_rfl) (by kernel_rfl) (by kernel_rfl) (fun _ _ _ h => h) (Or.inl ⟨by rfl, ?hyb14⟩) S0 ?restb14
          case hyb14 => (intro w hSw; have hcX := hSw.2.1.cell; obtain ⟨p0, p1, p2, p3, p4, p5, p6, p7, p8⟩ := HC.out _ hSw.1;go_simp <;> with_reducible rfl)
          try simp only [Act.put, List.setIfInBounds_toArray, List.set_cons_zero, List.set_cons_succ]
          refine wpAnyH_take (i := 14) (oi := { dst := some 32, op := Op.binOp BinOp.eql 25 (Operand.tmp 30) (Operand.tmp 31) 25, type := 4, pos := "laws.go:429", after := #[{ on := 12, ground := Ground.data }, { on := 13, ground := Ground.data }, { on := 7, ground := Ground.guard }], guard := some (7, true) }) (v := ?vvb15) rfl (by kernel_rfl) (by kernel_rfl) (by kernel_rfl) (fun _ _ _ h => h) (Or.inl ⟨by rfl, ?hyb15⟩) S0 ?restb15
          case hyb15 => (intro w hSw; have hcX := hSw.2.1.cell; obtain ⟨p0, p1, p2, p3, p4, p5, p6, p7, p8⟩ := HC.out _ hSw.1;go_simp <;> with_reducible rfl)
          try simp only [Act.put, List.setIfInBounds_toArray, List.set_cons_zero, List.set_cons_succ]
          refine wpAnyH_take (i := 15) (oi := { dst := some 33, op := Op.pick (Operand.tmp 25) (Operand.tmp 32) (Operand.const (Value.bool false)), type := 4, pos := "laws.go:429", after := #[{ on := 7, ground := Ground.data }, { on := 14, ground := Ground.data }], guard := none }) (v := ?vvb16) rfl (by kernel_rfl) (by kernel_rfl) (by kernel_rfl) (fun _ _ _ h => h) (Or.inl ⟨by rfl, ?hyb16⟩) S0 ?restb16
          case hyb16 => (intro w hSw; have hcX := hSw.2.1.cell; obtain ⟨p0, p1, p2, p3, p4, p5, p6, p7, p8⟩ := HC.out _ hSw.1;go_simp <;> with_reducible rfl)
          try simp only [Act.put, List.setIfInBounds_toArray, List.set_cons_zero, List.set_cons_succ]
          refine wpAnyH_done (by kernel_rfl) ?_ _
          all_goals
            have HS := Lib.hid S0
            clear S0
            go_wp2_with fail
            go_roundw
            case rel => exact ⟨i + 1, by omega, by simp, by rw [HNN2.out]; exact Lib.hid HS.out.1, Lib.hid HS.out.2.2, Lib.hid HS.out.2.1⟩
            case measure => simp [intOf]; omega
      · have HNN2 := Lib.hid (HNN.out (by unfold freshH; rw [if_neg (fun e => h1 e.1)]))
        have HX1 : Hid (decide (y0 = p) = false) := Lib.hid (decide_eq_false h1)
        have HX2 : Hid ((y0 == p) = false) := Lib.hid (by simpa using h1)
        clear HNX HNN
        go_upto_region 5 with fail
        refine wp_region_held_drew (S := fun W' => W'.ownsRow (w.heap.size + 1) 47 9 (.slice (some ⟨g, 0, none⟩) n c') n (rcells Hd.cl U) ∧ Blk W' w.heap.size 25 #[.int .i64 r0, .int .i64 r1, .int .i64 r2, .int .i64 r3, .int .i64 r4, .int .i64 r5, .bool r6] ∧ Below w.heap.size w W') (by kernel_rfl) S0 (fun hHeld => ?_)
        clear hHeld
        generalize wr.drew = Wd at *
        refine wpAnyH_take (i := 0) (oi := { dst := some 18, op := Op.move (Operand.tmp 7), type := 23, pos := "laws.go:429", after := #[], guard := none }) (v := ?vvc1) rfl (by kernel_rfl) (by kernel_rfl) (by kernel_rfl) (fun _ _ _ h => h) (Or.inl ⟨by rfl, ?hyc1⟩) S0 ?restc1
        case hyc1 => (intro w hSw; have hcX := hSw.2.1.cell; obtain ⟨p0, p1, p2, p3, p4, p5, p6, p7, p8⟩ := HC.out _ hSw.1;go_simp <;> with_reducible rfl)
        try simp only [Act.put, List.setIfInBounds_toArray, List.set_cons_zero, List.set_cons_succ]
        try simp only [HX1.out]
        try simp only [HX2.out]
        refine wpAnyH_take (i := 1) (oi := { dst := some 19, op := Op.move (Operand.tmp 8), type := 3, pos := "laws.go:429", after := #[], guard := none }) (v := ?vvc2) rfl (by kernel_rfl) (by kernel_rfl) (by kernel_rfl) (fun _ _ _ h => h) (Or.inl ⟨by rfl, ?hyc2⟩) S0 ?restc2
        case hyc2 => (intro w hSw; have hcX := hSw.2.1.cell; obtain ⟨p0, p1, p2, p3, p4, p5, p6, p7, p8⟩ := HC.out _ hSw.1;go_simp <;> with_reducible rfl)
        try simp only [Act.put, List.setIfInBounds_toArray, List.set_cons_zero, List.set_cons_succ]
        try simp only [HX1.out]
        try simp only [HX2.out]
        refine wpAnyH_take (i := 2) (oi := { dst := some 20, op := Op.indexAddr 23 (Operand.tmp 18) (Operand.tmp 19), type := 0, pos := "laws.go:429", after := #[{ on := 0, ground := Ground.data }, { on := 1, ground := Ground.data }], guard := none }) (v := ?vvc3) rfl (by kernel_rfl) (by kernel_rfl) (by kernel_rfl) (fun _ _ _ h => h) (Or.inl ⟨by rfl, ?hyc3⟩) S0 ?restc3
        case hyc3 => (intro w hSw; have hcX := hSw.2.1.cell; obtain ⟨p0, p1, p2, p3, p4, p5, p6, p7, p8⟩ := HC.out _ hSw.1;go_simp <;> with_reducible rfl)
        try simp only [Act.put, List.setIfInBounds_toArray, List.set_cons_zero, List.set_cons_succ]
        try simp only [HX1.out]
        try simp only [HX2.out]
        refine wpAnyH_take (i := 3) (oi := { dst := some 21, op := Op.fieldAddr 47 (Operand.tmp 20) 0, type := 0, pos := "laws.go:429", after := #[{ on := 2, ground := Ground.data }], guard := none }) (v := ?vvc4) rfl (by kernel_rfl) (by kernel_rfl) (by kernel_rfl) (fun _ _ _ h => h) (Or.inl ⟨by rfl, ?hyc4⟩) S0 ?restc4
        case hyc4 => (intro w hSw; have hcX := hSw.2.1.cell; obtain ⟨p0, p1, p2, p3, p4, p5, p6, p7, p8⟩ := HC.out _ hSw.1;go_simp <;> with_reducible rfl)
        try simp only [Act.put, List.setIfInBounds_toArray, List.set_cons_zero, List.set_cons_succ]
        try simp only [HX1.out]
        try simp only [HX2.out]
        refine wpAnyH_take (i := 4) (oi := { dst := some 22, op := Op.load 2 (Operand.tmp 21), type := 2, pos := "laws.go:429", after := #[{ on := 3, ground := Ground.data }], guard := none }) (v := ?vvc5) rfl (by kernel_rfl) (by kernel_rfl) (by kernel_rfl) (fun _ _ _ h => h) (Or.inl ⟨by rfl, ?hyc5⟩) S0 ?restc5
        case hyc5 => (intro w hSw; have hcX := hSw.2.1.cell; obtain ⟨p0, p1, p2, p3, p4, p5, p6, p7, p8⟩ := HC.out _ hSw.1;go_simp <;> with_reducible rfl)
        try simp only [Act.put, List.setIfInBounds_toArray, List.set_cons_zero, List.set_cons_succ]
        try simp only [HX1.out]
        try simp only [HX2.out]
        refine wpAnyH_take (i := 5) (oi := { dst := some 23, op := Op.move (Operand.tmp 1), type := 2, pos := "laws.go:429", after := #[], guard := none }) (v := ?vvc6) rfl (by kernel_rfl) (by kernel_rfl) (by kernel_rfl) (fun _ _ _ h => h) (Or.inl ⟨by rfl, ?hyc6⟩) S0 ?restc6
        case hyc6 => (intro w hSw; have hcX := hSw.2.1.cell; obtain ⟨p0, p1, p2, p3, p4, p5, p6, p7, p8⟩ := HC.out _ hSw.1;go_simp <;> with_reducible rfl)
        try simp only [Act.put, List.setIfInBounds_toArray, List.set_cons_zero, List.set_cons_succ]
        try simp only [HX1.out]
        try simp only [HX2.out]
        refine wpAnyH_take (i := 6) (oi := { dst := some 24, op := Op.binOp BinOp.eql 2 (Operand.tmp 22) (Operand.tmp 23) 2, type := 4, pos := "laws.go:429", after := #[{ on := 4, ground := Ground.data }, { on := 5, ground := Ground.data }], guard := none }) (v := ?vvc7) rfl (by kernel_rfl) (by kernel_rfl) (by kernel_rfl) (fun _ _ _ h => h) (Or.inl ⟨by rfl, ?hyc7⟩) S0 ?restc7
        case hyc7 => (intro w hSw; have hcX := hSw.2.1.cell; obtain ⟨p0, p1, p2, p3, p4, p5, p6, p7, p8⟩ := HC.out _ hSw.1;go_simp <;> with_reducible rfl)
        try simp only [Act.put, List.setIfInBounds_toArray, List.set_cons_zero, List.set_cons_succ]
        try simp only [HX1.out]
        try simp only [HX2.out]
        refine wpAnyH_take (i := 7) (oi := { dst := some 25, op := Op.move (Operand.tmp 24), type := 4, pos := "laws.go:429", after := #[{ on := 6, ground := Ground.data }], guard := none }) (v := ?vvc8) rfl (by kernel_rfl) (by kernel_rfl) (by kernel_rfl) (fun _ _ _ h => h) (Or.inl ⟨by rfl, ?hyc8⟩) S0 ?restc8
        case hyc8 => (intro w hSw; have hcX := hSw.2.1.cell; obtain ⟨p0, p1, p2, p3, p4, p5, p6, p7, p8⟩ := HC.out _ hSw.1;go_simp <;> with_reducible rfl)
        try simp only [Act.put, List.setIfInBounds_toArray, List.set_cons_zero, List.set_cons_succ]
        try simp only [HX1.out]
        try simp only [HX2.out]
        refine wpAnyH_take (i := 8) (oi := { dst := some 26, op := Op.move (Operand.tmp 7), type := 23, pos := "laws.go:429", after := #[{ on := 7, ground := Ground.guard }], guard := some (7, true) }) (v := undef) rfl (by kernel_rfl) (by kernel_rfl) (by kernel_rfl) (fun _ _ _ h => h) (Or.inr ⟨by rfl, rfl⟩) S0 ?_
        try simp only [Act.put, List.setIfInBounds_toArray, List.set_cons_zero, List.set_cons_succ]
        try simp only [HX1.out]
        try simp only [HX2.out]
        refine wpAnyH_take (i := 9) (oi := { dst := some 27, op := Op.move (Operand.tmp 8), type := 3, pos := "laws.go:429", after := #[{ on := 7, ground := Ground.guard }], guard := some (7, true) }) (v := undef) rfl (by kernel_rfl) (by kernel_rfl) (by kernel_rfl) (fun _ _ _ h => h) (Or.inr ⟨by rfl, rfl⟩) S0 ?_
        try simp only [Act.put, List.setIfInBounds_toArray, List.set_cons_zero, List.set_cons_succ]
        try simp only [HX1.out]
        try simp only [HX2.out]
        refine wpAnyH_take (i := 10) (oi := { dst := some 28, op := Op.indexAddr 23 (Operand.tmp 26) (Operand.tmp 27), type := 0, pos := "laws.go:429", after := #[{ on := 8, ground := Ground.data }, { on := 9, ground := Ground.data }, { on := 7, ground := Ground.guard }], guard := some (7, true) }) (v := undef) rfl (by kernel_rfl) (by kernel_rfl) (by kernel_rfl) (fun _ _ _ h => h) (Or.inr ⟨by rfl, rfl⟩) S0 ?_
        try simp only [Act.put, List.setIfInBounds_toArray, List.set_cons_zero, List.set_cons_succ]
        try simp only [HX1.out]
        try simp only [HX2.out]
        refine wpAnyH_take (i := 11) (oi := { dst := some 29, op := Op.fieldAddr 47 (Operand.tmp 28) 2, type := 0, pos := "laws.go:429", after := #[{ on := 10, ground := Ground.data }, { on := 7, ground := Ground.guard }], guard := some (7, true) }) (v := undef) rfl (by kernel_rfl) (by kernel_rfl) (by kernel_rfl) (fun _ _ _ h => h) (Or.inr ⟨by rfl, rfl⟩) S0 ?_
        try simp only [Act.put, List.setIfInBounds_toArray, List.set_cons_zero, List.set_cons_succ]
        try simp only [HX1.out]
        try simp only [HX2.out]
        refine wpAnyH_take (i := 12) (oi := { dst := some 30, op := Op.load 25 (Operand.tmp 29), type := 25, pos := "laws.go:429", after := #[{ on := 11, ground := Ground.data }, { on := 7, ground := Ground.guard }], guard := some (7, true) }) (v := undef) rfl (by kernel_rfl) (by kernel_rfl) (by kernel_rfl) (fun _ _ _ h => h) (Or.inr ⟨by rfl, rfl⟩) S0 ?_
        try simp only [Act.put, List.setIfInBounds_toArray, List.set_cons_zero, List.set_cons_succ]
        try simp only [HX1.out]
        try simp only [HX2.out]
        refine wpAnyH_take (i := 13) (oi := { dst := some 31, op := Op.load 25 (Operand.tmp 5), type := 25, pos := "laws.go:429", after := #[{ on := 7, ground := Ground.guard }], guard := some (7, true) }) (v := undef) rfl (by kernel_rfl) (by kernel_rfl) (by kernel_rfl) (fun _ _ _ h => h) (Or.inr ⟨by rfl, rfl⟩) S0 ?_
        try simp only [Act.put, List.setIfInBounds_toArray, List.set_cons_zero, List.set_cons_succ]
        try simp only [HX1.out]
        try simp only [HX2.out]
        refine wpAnyH_take (i := 14) (oi := { dst := some 32, op := Op.binOp BinOp.eql 25 (Operand.tmp 30) (Operand.tmp 31) 25, type := 4, pos := "laws.go:429", after := #[{ on := 12, ground := Ground.data }, { on := 13, ground := Ground.data }, { on := 7, ground := Ground.guard }], guard := some (7, true) }) (v := undef) rfl (by kernel_rfl) (by kernel_rfl) (by kernel_rfl) (fun _ _ _ h => h) (Or.inr ⟨by rfl, rfl⟩) S0 ?_
        try simp only [Act.put, List.setIfInBounds_toArray, List.set_cons_zero, List.set_cons_succ]
        try simp only [HX1.out]
        try simp only [HX2.out]
        refine wpAnyH_take (i := 15) (oi := { dst := some 33, op := Op.pick (Operand.tmp 25) (Operand.tmp 32) (Operand.const (Value.bool false)), type := 4, pos := "laws.go:429", after := #[{ on := 7, ground := Ground.data }, { on := 14, ground := Ground.data }], guard := none }) (v := ?vvc16) rfl (by kernel_rfl) (by kernel_rfl) (by kernel_rfl) (fun _ _ _ h => h) (Or.inl ⟨by rfl, ?hyc16⟩) S0 ?restc16
        case hyc16 => (intro w hSw; have hcX := hSw.2.1.cell; obtain ⟨p0, p1, p2, p3, p4, p5, p6, p7, p8⟩ := HC.out _ hSw.1;go_simp <;> with_reducible rfl)
        try simp only [Act.put, List.setIfInBounds_toArray, List.set_cons_zero, List.set_cons_succ]
        try simp only [HX1.out]
        try simp only [HX2.out]
        refine wpAnyH_done (by kernel_rfl) ?_ _
        all_goals
          have HS := Lib.hid S0
          clear S0
          go_wp2_with fail
          go_roundw
          case rel => exact ⟨i + 1, by omega, by simp, by rw [HNN2.out]; exact Lib.hid HS.out.1, Lib.hid HS.out.2.2, Lib.hid HS.out.2.1⟩
          case measure => simp [intOf]; omega
    · have hin : i = n := by omega
      subst hin
      go_wp2_with fail
      go_ret
      exact ⟨_, rfl, by rw [HlM.out, ← HN.out, ← HZ.out, ← HN.out]; exact rown_mono HO.out (by omega), HB.out⟩
end Go.Proofs.YtdnpaopbicdolaaGreat
