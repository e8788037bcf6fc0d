/- WentRight, of the model and of the program. -/
import Derived.Test.YtglealihdkecpaaGreatMsM
import Derived.Test.YtglealihdkecpaaGreatHdL
namespace Go.Proofs.YtglealihdkecpaaGreat
open Go.RowKit

set_option maxRecDepth 100000 in
set_option maxHeartbeats 4000000 in
theorem specWentRight_any (l : List Mv) (v : Value) (w : World) (h : MvsAt w v l) (hn : l.length ≤ 1048576) :
    Calls Tryz.prog 48 #[v] w (MrPost l w) := by
  obtain ⟨a, cap, rfl, h⟩ := h
  rw [List.length_map] at *
  have HH := Lib.hid h
  clear h
  have HW := Lib.hid (fun i hi => ms_way l i hi)
  have HY := Lib.hid (fun (h : l.length ≤ 30) hy => mvsOk_yes h hy)
  have HL := Lib.hid (fun (h : 30 < l.length) => mvsOk_long h)
  unfold MrPost
  obtain ⟨n, hnn⟩ : ∃ n, n = l.length := ⟨_, rfl⟩
  rw [← hnn] at hn HY HL ⊢
  have HN := Lib.hid hnn
  clear hnn
  by_cases hlong : 30 < n
  · have HR := Lib.hid (HL.out hlong)
    have hg : (30 : Int) < (n : Int) := by omega
    go_enter Tryz.func48, Tryz.ntmps48
    go_wp2_with fail
    go_ret
    exact ⟨bool_ret HR.out.symm, Below.refl _ _⟩
  have hg : ¬ (30 : Int) < (n : Int) := by omega
  clear HL
  go_enter Tryz.func48, Tryz.ntmps48
  go_wp2_with fail
  go_loopw [3] (fun u wr => ∃ i : Nat, i ≤ n ∧ u = .int .i64 (i : Int) ∧ Hid (∀ k, k < i → okAtM l k = true) ∧ Hid (Below w.heap.size w wr)) (fun u _ => n - (intOf u).toNat)
  case atStart => exact ⟨0, Nat.zero_le _, rfl, Lib.hid (fun k hk => by omega), Lib.hid (Below.refl _ _)⟩
  case round =>
    obtain ⟨i, hi, rfl, HK, HB⟩ := hrel
    by_cases hlt : i < n
    · have hne : l.map Mv.cl ≠ [] := fun e => by
        have := congrArg List.length e
        rw [List.length_map, ← HN.out] at this
        simp at this; omega
      obtain ⟨b, off, ha, hb, HE⟩ := HH.out hne
      subst ha
      have hir : i < l.length := by rw [← HN.out]; exact hlt
      have hl1 : (i : Int) < n := by omega
      have HP := Lib.hid (specWent_any l[i])
      have HEi := Lib.hid (fun (W' : World) (hS : Below w.heap.size w W') => (Elems.below HE hS hb).mv i hir)
      have S0 : Below w.heap.size w wr.drew := HB.out.drew
      have hway := HW.out i hir
      unfold Mv.val at HP
      rcases hway with ⟨h1, hr⟩ | ⟨h1, h3, hr⟩ | ⟨h1, j, h3, x, hj, hx, h4, hr⟩ | ⟨h1, j, h3, x, hj, hx, h4, hr⟩
      · rw [h1] at HP
        clear HE HW h1
        generalize l[i] = y at *
        go_wp2_with fail
        refine wp_region_held_drew (S := fun W' => Below w.heap.size w W') (by kernel_rfl) S0 (fun hHeld => ?_)
        clear hHeld
        refine wpAnyH_take (i := 0) (oi := { dst := some 13, op := Op.move (Operand.tmp 0), type := 35, pos := "l08_moves.go:12", after := #[], guard := none }) (v := ?vva1) rfl (by kernel_rfl) (by kernel_rfl) (by kernel_rfl) (fun _ _ _ h => h) (Or.inl ⟨by rfl, ?hya1⟩) S0 ?resta1
        case hya1 => (intro w hSw; obtain ⟨p0, p1, p2⟩ := HEi.out _ hSw;go_simp <;> with_reducible rfl)
        try simp only [Act.put, List.setIfInBounds_toArray, List.set_cons_zero, List.set_cons_succ]
        refine wpAnyH_take (i := 1) (oi := { dst := some 14, op := Op.move (Operand.tmp 3), type := 3, pos := "l08_moves.go:12", after := #[], guard := none }) (v := ?vva2) rfl (by kernel_rfl) (by kernel_rfl) (by kernel_rfl) (fun _ _ _ h => h) (Or.inl ⟨by rfl, ?hya2⟩) S0 ?resta2
        case hya2 => (intro w hSw; obtain ⟨p0, p1, p2⟩ := HEi.out _ hSw;go_simp <;> with_reducible rfl)
        try simp only [Act.put, List.setIfInBounds_toArray, List.set_cons_zero, List.set_cons_succ]
        refine wpAnyH_take (i := 2) (oi := { dst := some 15, op := Op.indexAddr 35 (Operand.tmp 13) (Operand.tmp 14), type := 0, pos := "l08_moves.go:12", after := #[{ on := 0, ground := Ground.data }, { on := 1, ground := Ground.data }], guard := none }) (v := ?vva3) rfl (by kernel_rfl) (by kernel_rfl) (by kernel_rfl) (fun _ _ _ h => h) (Or.inl ⟨by rfl, ?hya3⟩) S0 ?resta3
        case hya3 => (intro w hSw; obtain ⟨p0, p1, p2⟩ := HEi.out _ hSw;go_simp <;> with_reducible rfl)
        try simp only [Act.put, List.setIfInBounds_toArray, List.set_cons_zero, List.set_cons_succ]
        refine wpAnyH_take (i := 3) (oi := { dst := some 16, op := Op.load 89 (Operand.tmp 15), type := 89, pos := "l08_moves.go:12", after := #[{ on := 2, ground := Ground.data }], guard := none }) (v := ?vva4) rfl (by kernel_rfl) (by kernel_rfl) (by kernel_rfl) (fun _ _ _ h => h) (Or.inl ⟨by rfl, ?hya4⟩) S0 ?resta4
        case hya4 => (intro w hSw; obtain ⟨p0, p1, p2⟩ := HEi.out _ hSw;go_simp <;> with_reducible rfl)
        try simp only [Act.put, List.setIfInBounds_toArray, List.set_cons_zero, List.set_cons_succ]
        refine wpAnyH_ready (rs := [4]) (by kernel_rfl) (by simp) ?_
        refine AllReadyH.cons (o := { dst := some 17, op := Op.call { callee := Callee.value (Operand.func 101), args := #[Operand.tmp 16], argTypes := #[89] }, type := 4, pos := "l08_moves.go:12", after := #[{ on := 3, ground := Ground.data }], guard := none }) rfl (fun K hK => ?_) AllReadyH.nil
        go_simp
        refine (HP.out _).mono ?_
        rintro e w1 ⟨rfl, hb1⟩
        replace S0 := S0.trans (hb1.mono S0.size)
        clear hb1
        refine hK.out _ _ S0 (fun hHeld => ?_)
        clear hK K hHeld
        try simp only [Act.put, List.setIfInBounds_toArray, List.set_cons_zero, List.set_cons_succ]
        refine wpAnyH_take (i := 5) (oi := { dst := some 18, op := Op.unOp UnOp.not 4 (Operand.tmp 17), type := 4, pos := "l08_moves.go:12", after := #[{ on := 4, ground := Ground.data }], guard := none }) (v := ?vva5) rfl (by kernel_rfl) (by kernel_rfl) (by kernel_rfl) (fun _ _ _ h => h) (Or.inl ⟨by rfl, ?hya5⟩) S0 ?resta5
        case hya5 => (intro w hSw; obtain ⟨p0, p1, p2⟩ := HEi.out _ hSw;go_simp <;> with_reducible rfl)
        try simp only [Act.put, List.setIfInBounds_toArray, List.set_cons_zero, List.set_cons_succ]
        refine wpAnyH_take (i := 6) (oi := { dst := some 19, op := Op.move (Operand.tmp 18), type := 4, pos := "l08_moves.go:12", after := #[{ on := 5, ground := Ground.data }, { on := 4, ground := Ground.chain }], guard := none }) (v := ?vva6) rfl (by kernel_rfl) (by kernel_rfl) (by kernel_rfl) (fun _ _ _ h => h) (Or.inl ⟨by rfl, ?hya6⟩) S0 ?resta6
        case hya6 => (intro w hSw; obtain ⟨p0, p1, p2⟩ := HEi.out _ hSw;go_simp <;> with_reducible rfl)
        try simp only [Act.put, List.setIfInBounds_toArray, List.set_cons_zero, List.set_cons_succ]
        refine wpAnyH_take (i := 7) (oi := { dst := some 20, op := Op.move (Operand.tmp 3), type := 3, pos := "l08_moves.go:12", after := #[{ on := 6, ground := Ground.guard }], guard := some (6, false) }) (v := undef) rfl (by kernel_rfl) (by kernel_rfl) (by kernel_rfl) (fun _ _ _ h => h) (Or.inr ⟨by rfl, rfl⟩) S0 ?_
        try simp only [Act.put, List.setIfInBounds_toArray, List.set_cons_zero, List.set_cons_succ]
        refine wpAnyH_take (i := 8) (oi := { dst := some 21, op := Op.binOp BinOp.gtr 3 (Operand.tmp 20) (Operand.const (Value.int IntKind.i64 0)) 3, type := 4, pos := "l08_moves.go:12", after := #[{ on := 7, ground := Ground.data }, { on := 6, ground := Ground.guard }], guard := some (6, false) }) (v := undef) rfl (by kernel_rfl) (by kernel_rfl) (by kernel_rfl) (fun _ _ _ h => h) (Or.inr ⟨by rfl, rfl⟩) S0 ?_
        try simp only [Act.put, List.setIfInBounds_toArray, List.set_cons_zero, List.set_cons_succ]
        refine wpAnyH_take (i := 9) (oi := { dst := some 22, op := Op.move (Operand.tmp 21), type := 4, pos := "l08_moves.go:12", after := #[{ on := 8, ground := Ground.data }, { on := 6, ground := Ground.chain }, { on := 6, ground := Ground.guard }], guard := some (6, false) }) (v := undef) rfl (by kernel_rfl) (by kernel_rfl) (by kernel_rfl) (fun _ _ _ h => h) (Or.inr ⟨by rfl, rfl⟩) S0 ?_
        try simp only [Act.put, List.setIfInBounds_toArray, List.set_cons_zero, List.set_cons_succ]
        refine wpAnyH_take (i := 10) (oi := { dst := some 23, op := Op.move (Operand.tmp 0), type := 35, pos := "l08_moves.go:12", after := #[{ on := 9, ground := Ground.guard }], guard := some (9, true) }) (v := undef) rfl (by kernel_rfl) (by kernel_rfl) (by kernel_rfl) (fun _ _ _ h => h) (Or.inr ⟨by rfl, rfl⟩) S0 ?_
        try simp only [Act.put, List.setIfInBounds_toArray, List.set_cons_zero, List.set_cons_succ]
        refine wpAnyH_take (i := 11) (oi := { dst := some 24, op := Op.move (Operand.tmp 3), type := 3, pos := "l08_moves.go:12", after := #[{ on := 9, ground := Ground.guard }], guard := some (9, true) }) (v := undef) rfl (by kernel_rfl) (by kernel_rfl) (by kernel_rfl) (fun _ _ _ h => h) (Or.inr ⟨by rfl, rfl⟩) S0 ?_
        try simp only [Act.put, List.setIfInBounds_toArray, List.set_cons_zero, List.set_cons_succ]
        refine wpAnyH_take (i := 12) (oi := { dst := some 25, op := Op.binOp BinOp.sub 3 (Operand.tmp 24) (Operand.const (Value.int IntKind.i64 1)) 3, type := 3, pos := "l08_moves.go:12", after := #[{ on := 11, ground := Ground.data }, { on := 9, ground := Ground.guard }], guard := some (9, true) }) (v := undef) rfl (by kernel_rfl) (by kernel_rfl) (by kernel_rfl) (fun _ _ _ h => h) (Or.inr ⟨by rfl, rfl⟩) S0 ?_
        try simp only [Act.put, List.setIfInBounds_toArray, List.set_cons_zero, List.set_cons_succ]
        refine wpAnyH_take (i := 13) (oi := { dst := some 26, op := Op.indexAddr 35 (Operand.tmp 23) (Operand.tmp 25), type := 0, pos := "l08_moves.go:12", after := #[{ on := 10, ground := Ground.data }, { on := 12, ground := Ground.data }, { on := 9, ground := Ground.guard }], guard := some (9, true) }) (v := undef) rfl (by kernel_rfl) (by kernel_rfl) (by kernel_rfl) (fun _ _ _ h => h) (Or.inr ⟨by rfl, rfl⟩) S0 ?_
        try simp only [Act.put, List.setIfInBounds_toArray, List.set_cons_zero, List.set_cons_succ]
        refine wpAnyH_take (i := 14) (oi := { dst := some 27, op := Op.fieldAddr 89 (Operand.tmp 26) 2, type := 0, pos := "l08_moves.go:12", after := #[{ on := 13, ground := Ground.data }, { on := 9, ground := Ground.guard }], guard := some (9, true) }) (v := undef) rfl (by kernel_rfl) (by kernel_rfl) (by kernel_rfl) (fun _ _ _ h => h) (Or.inr ⟨by rfl, rfl⟩) S0 ?_
        try simp only [Act.put, List.setIfInBounds_toArray, List.set_cons_zero, List.set_cons_succ]
        refine wpAnyH_take (i := 15) (oi := { dst := some 28, op := Op.load 2 (Operand.tmp 27), type := 2, pos := "l08_moves.go:12", after := #[{ on := 14, ground := Ground.data }, { on := 9, ground := Ground.guard }], guard := some (9, true) }) (v := undef) rfl (by kernel_rfl) (by kernel_rfl) (by kernel_rfl) (fun _ _ _ h => h) (Or.inr ⟨by rfl, rfl⟩) S0 ?_
        try simp only [Act.put, List.setIfInBounds_toArray, List.set_cons_zero, List.set_cons_succ]
        refine wpAnyH_take (i := 16) (oi := { dst := some 29, op := Op.move (Operand.tmp 0), type := 35, pos := "l08_moves.go:12", after := #[{ on := 9, ground := Ground.guard }], guard := some (9, true) }) (v := undef) rfl (by kernel_rfl) (by kernel_rfl) (by kernel_rfl) (fun _ _ _ h => h) (Or.inr ⟨by rfl, rfl⟩) S0 ?_
        try simp only [Act.put, List.setIfInBounds_toArray, List.set_cons_zero, List.set_cons_succ]
        refine wpAnyH_take (i := 17) (oi := { dst := some 30, op := Op.move (Operand.tmp 3), type := 3, pos := "l08_moves.go:12", after := #[{ on := 9, ground := Ground.guard }], guard := some (9, true) }) (v := undef) rfl (by kernel_rfl) (by kernel_rfl) (by kernel_rfl) (fun _ _ _ h => h) (Or.inr ⟨by rfl, rfl⟩) S0 ?_
        try simp only [Act.put, List.setIfInBounds_toArray, List.set_cons_zero, List.set_cons_succ]
        refine wpAnyH_take (i := 18) (oi := { dst := some 31, op := Op.indexAddr 35 (Operand.tmp 29) (Operand.tmp 30), type := 0, pos := "l08_moves.go:12", after := #[{ on := 16, ground := Ground.data }, { on := 17, ground := Ground.data }, { on := 9, ground := Ground.guard }], guard := some (9, true) }) (v := undef) rfl (by kernel_rfl) (by kernel_rfl) (by kernel_rfl) (fun _ _ _ h => h) (Or.inr ⟨by rfl, rfl⟩) S0 ?_
        try simp only [Act.put, List.setIfInBounds_toArray, List.set_cons_zero, List.set_cons_succ]
        refine wpAnyH_take (i := 19) (oi := { dst := some 32, op := Op.fieldAddr 89 (Operand.tmp 31) 2, type := 0, pos := "l08_moves.go:12", after := #[{ on := 18, ground := Ground.data }, { on := 9, ground := Ground.guard }], guard := some (9, true) }) (v := undef) rfl (by kernel_rfl) (by kernel_rfl) (by kernel_rfl) (fun _ _ _ h => h) (Or.inr ⟨by rfl, rfl⟩) S0 ?_
        try simp only [Act.put, List.setIfInBounds_toArray, List.set_cons_zero, List.set_cons_succ]
        refine wpAnyH_take (i := 20) (oi := { dst := some 33, op := Op.load 2 (Operand.tmp 32), type := 2, pos := "l08_moves.go:12", after := #[{ on := 19, ground := Ground.data }, { on := 9, ground := Ground.guard }], guard := some (9, true) }) (v := undef) rfl (by kernel_rfl) (by kernel_rfl) (by kernel_rfl) (fun _ _ _ h => h) (Or.inr ⟨by rfl, rfl⟩) S0 ?_
        try simp only [Act.put, List.setIfInBounds_toArray, List.set_cons_zero, List.set_cons_succ]
        refine wpAnyH_take (i := 21) (oi := { dst := some 34, op := Op.binOp BinOp.gtr 2 (Operand.tmp 28) (Operand.tmp 33) 2, type := 4, pos := "l08_moves.go:12", after := #[{ on := 15, ground := Ground.data }, { on := 20, ground := Ground.data }, { on := 9, ground := Ground.guard }], guard := some (9, true) }) (v := undef) rfl (by kernel_rfl) (by kernel_rfl) (by kernel_rfl) (fun _ _ _ h => h) (Or.inr ⟨by rfl, rfl⟩) S0 ?_
        try simp only [Act.put, List.setIfInBounds_toArray, List.set_cons_zero, List.set_cons_succ]
        refine wpAnyH_take (i := 22) (oi := { dst := some 35, op := Op.pick (Operand.tmp 22) (Operand.tmp 34) (Operand.const (Value.bool false)), type := 4, pos := "l08_moves.go:12", after := #[{ on := 9, ground := Ground.data }, { on := 21, ground := Ground.data }, { on := 6, ground := Ground.guard }], guard := some (6, false) }) (v := undef) rfl (by kernel_rfl) (by kernel_rfl) (by kernel_rfl) (fun _ _ _ h => h) (Or.inr ⟨by rfl, rfl⟩) S0 ?_
        try simp only [Act.put, List.setIfInBounds_toArray, List.set_cons_zero, List.set_cons_succ]
        refine wpAnyH_take (i := 23) (oi := { dst := some 36, op := Op.pick (Operand.tmp 19) (Operand.const (Value.bool true)) (Operand.tmp 35), type := 4, pos := "l08_moves.go:12", after := #[{ on := 6, ground := Ground.data }, { on := 22, ground := Ground.data }], guard := none }) (v := ?vva23) rfl (by kernel_rfl) (by kernel_rfl) (by kernel_rfl) (fun _ _ _ h => h) (Or.inl ⟨by rfl, ?hya23⟩) S0 ?resta23
        case hya23 => (intro w hSw; obtain ⟨p0, p1, p2⟩ := HEi.out _ hSw;go_simp <;> with_reducible rfl)
        try simp only [Act.put, List.setIfInBounds_toArray, List.set_cons_zero, List.set_cons_succ]
        refine wpAnyH_done (by kernel_rfl) ?_ _
        go_wp2_with fail
        go_ret
        exact ⟨bool_ret hr.out.symm, S0⟩
      · rw [h1] at HP
        clear HE HW h1
        subst h3
        generalize l[0] = y at *
        simp only [Nat.zero_mul, Nat.add_zero] at HEi
        go_wp2_with fail
        refine wp_region_held_drew (S := fun W' => Below w.heap.size w W') (by kernel_rfl) S0 (fun hHeld => ?_)
        clear hHeld
        refine wpAnyH_take (i := 0) (oi := { dst := some 13, op := Op.move (Operand.tmp 0), type := 35, pos := "l08_moves.go:12", after := #[], guard := none }) (v := ?vvc1) rfl (by kernel_rfl) (by kernel_rfl) (by kernel_rfl) (fun _ _ _ h => h) (Or.inl ⟨by rfl, ?hyc1⟩) S0 ?restc1
        case hyc1 => (intro w hSw; obtain ⟨p0, p1, p2⟩ := HEi.out _ hSw;go_simp <;> with_reducible rfl)
        try simp only [Act.put, List.setIfInBounds_toArray, List.set_cons_zero, List.set_cons_succ]
        refine wpAnyH_take (i := 1) (oi := { dst := some 14, op := Op.move (Operand.tmp 3), type := 3, pos := "l08_moves.go:12", after := #[], guard := none }) (v := ?vvc2) rfl (by kernel_rfl) (by kernel_rfl) (by kernel_rfl) (fun _ _ _ h => h) (Or.inl ⟨by rfl, ?hyc2⟩) S0 ?restc2
        case hyc2 => (intro w hSw; obtain ⟨p0, p1, p2⟩ := HEi.out _ hSw;go_simp <;> with_reducible rfl)
        try simp only [Act.put, List.setIfInBounds_toArray, List.set_cons_zero, List.set_cons_succ]
        refine wpAnyH_take (i := 2) (oi := { dst := some 15, op := Op.indexAddr 35 (Operand.tmp 13) (Operand.tmp 14), type := 0, pos := "l08_moves.go:12", after := #[{ on := 0, ground := Ground.data }, { on := 1, ground := Ground.data }], guard := none }) (v := ?vvc3) rfl (by kernel_rfl) (by kernel_rfl) (by kernel_rfl) (fun _ _ _ h => h) (Or.inl ⟨by rfl, ?hyc3⟩) S0 ?restc3
        case hyc3 => (intro w hSw; obtain ⟨p0, p1, p2⟩ := HEi.out _ hSw;go_simp <;> with_reducible rfl)
        try simp only [Act.put, List.setIfInBounds_toArray, List.set_cons_zero, List.set_cons_succ]
        refine wpAnyH_take (i := 3) (oi := { dst := some 16, op := Op.load 89 (Operand.tmp 15), type := 89, pos := "l08_moves.go:12", after := #[{ on := 2, ground := Ground.data }], guard := none }) (v := ?vvc4) rfl (by kernel_rfl) (by kernel_rfl) (by kernel_rfl) (fun _ _ _ h => h) (Or.inl ⟨by rfl, ?hyc4⟩) S0 ?restc4
        case hyc4 => (intro w hSw; obtain ⟨p0, p1, p2⟩ := HEi.out _ hSw;go_simp <;> with_reducible rfl)
        try simp only [Act.put, List.setIfInBounds_toArray, List.set_cons_zero, List.set_cons_succ]
        refine wpAnyH_ready (rs := [4]) (by kernel_rfl) (by simp) ?_
        refine AllReadyH.cons (o := { dst := some 17, op := Op.call { callee := Callee.value (Operand.func 101), args := #[Operand.tmp 16], argTypes := #[89] }, type := 4, pos := "l08_moves.go:12", after := #[{ on := 3, ground := Ground.data }], guard := none }) rfl (fun K hK => ?_) AllReadyH.nil
        go_simp
        refine (HP.out _).mono ?_
        rintro e w1 ⟨rfl, hb1⟩
        replace S0 := S0.trans (hb1.mono S0.size)
        clear hb1
        refine hK.out _ _ S0 (fun hHeld => ?_)
        clear hK K hHeld
        try simp only [Act.put, List.setIfInBounds_toArray, List.set_cons_zero, List.set_cons_succ]
        refine wpAnyH_take (i := 5) (oi := { dst := some 18, op := Op.unOp UnOp.not 4 (Operand.tmp 17), type := 4, pos := "l08_moves.go:12", after := #[{ on := 4, ground := Ground.data }], guard := none }) (v := ?vvc5) rfl (by kernel_rfl) (by kernel_rfl) (by kernel_rfl) (fun _ _ _ h => h) (Or.inl ⟨by rfl, ?hyc5⟩) S0 ?restc5
        case hyc5 => (intro w hSw; obtain ⟨p0, p1, p2⟩ := HEi.out _ hSw;go_simp <;> with_reducible rfl)
        try simp only [Act.put, List.setIfInBounds_toArray, List.set_cons_zero, List.set_cons_succ]
        refine wpAnyH_take (i := 6) (oi := { dst := some 19, op := Op.move (Operand.tmp 18), type := 4, pos := "l08_moves.go:12", after := #[{ on := 5, ground := Ground.data }, { on := 4, ground := Ground.chain }], guard := none }) (v := ?vvc6) rfl (by kernel_rfl) (by kernel_rfl) (by kernel_rfl) (fun _ _ _ h => h) (Or.inl ⟨by rfl, ?hyc6⟩) S0 ?restc6
        case hyc6 => (intro w hSw; obtain ⟨p0, p1, p2⟩ := HEi.out _ hSw;go_simp <;> with_reducible rfl)
        try simp only [Act.put, List.setIfInBounds_toArray, List.set_cons_zero, List.set_cons_succ]
        refine wpAnyH_take (i := 7) (oi := { dst := some 20, op := Op.move (Operand.tmp 3), type := 3, pos := "l08_moves.go:12", after := #[{ on := 6, ground := Ground.guard }], guard := some (6, false) }) (v := ?vvc7) rfl (by kernel_rfl) (by kernel_rfl) (by kernel_rfl) (fun _ _ _ h => h) (Or.inl ⟨by rfl, ?hyc7⟩) S0 ?restc7
        case hyc7 => (intro w hSw; obtain ⟨p0, p1, p2⟩ := HEi.out _ hSw;go_simp <;> with_reducible rfl)
        try simp only [Act.put, List.setIfInBounds_toArray, List.set_cons_zero, List.set_cons_succ]
        refine wpAnyH_take (i := 8) (oi := { dst := some 21, op := Op.binOp BinOp.gtr 3 (Operand.tmp 20) (Operand.const (Value.int IntKind.i64 0)) 3, type := 4, pos := "l08_moves.go:12", after := #[{ on := 7, ground := Ground.data }, { on := 6, ground := Ground.guard }], guard := some (6, false) }) (v := ?vvc8) rfl (by kernel_rfl) (by kernel_rfl) (by kernel_rfl) (fun _ _ _ h => h) (Or.inl ⟨by rfl, ?hyc8⟩) S0 ?restc8
        case hyc8 => (intro w hSw; obtain ⟨p0, p1, p2⟩ := HEi.out _ hSw;go_simp <;> with_reducible rfl)
        try simp only [Act.put, List.setIfInBounds_toArray, List.set_cons_zero, List.set_cons_succ]
        refine wpAnyH_take (i := 9) (oi := { dst := some 22, op := Op.move (Operand.tmp 21), type := 4, pos := "l08_moves.go:12", after := #[{ on := 8, ground := Ground.data }, { on := 6, ground := Ground.chain }, { on := 6, ground := Ground.guard }], guard := some (6, false) }) (v := ?vvc9) rfl (by kernel_rfl) (by kernel_rfl) (by kernel_rfl) (fun _ _ _ h => h) (Or.inl ⟨by rfl, ?hyc9⟩) S0 ?restc9
        case hyc9 => (intro w hSw; obtain ⟨p0, p1, p2⟩ := HEi.out _ hSw;go_simp <;> with_reducible rfl)
        try simp only [Act.put, List.setIfInBounds_toArray, List.set_cons_zero, List.set_cons_succ]
        refine wpAnyH_take (i := 10) (oi := { dst := some 23, op := Op.move (Operand.tmp 0), type := 35, pos := "l08_moves.go:12", after := #[{ on := 9, ground := Ground.guard }], guard := some (9, true) }) (v := undef) rfl (by kernel_rfl) (by kernel_rfl) (by kernel_rfl) (fun _ _ _ h => h) (Or.inr ⟨by rfl, rfl⟩) S0 ?_
        try simp only [Act.put, List.setIfInBounds_toArray, List.set_cons_zero, List.set_cons_succ]
        refine wpAnyH_take (i := 11) (oi := { dst := some 24, op := Op.move (Operand.tmp 3), type := 3, pos := "l08_moves.go:12", after := #[{ on := 9, ground := Ground.guard }], guard := some (9, true) }) (v := undef) rfl (by kernel_rfl) (by kernel_rfl) (by kernel_rfl) (fun _ _ _ h => h) (Or.inr ⟨by rfl, rfl⟩) S0 ?_
        try simp only [Act.put, List.setIfInBounds_toArray, List.set_cons_zero, List.set_cons_succ]
        refine wpAnyH_take (i := 12) (oi := { dst := some 25, op := Op.binOp BinOp.sub 3 (Operand.tmp 24) (Operand.const (Value.int IntKind.i64 1)) 3, type := 3, pos := "l08_moves.go:12", after := #[{ on := 11, ground := Ground.data }, { on := 9, ground := Ground.guard }], guard := some (9, true) }) (v := undef) rfl (by kernel_rfl) (by kernel_rfl) (by kernel_rfl) (fun _ _ _ h => h) (Or.inr ⟨by rfl, rfl⟩) S0 ?_
        try simp only [Act.put, List.setIfInBounds_toArray, List.set_cons_zero, List.set_cons_succ]
        refine wpAnyH_take (i := 13) (oi := { dst := some 26, op := Op.indexAddr 35 (Operand.tmp 23) (Operand.tmp 25), type := 0, pos := "l08_moves.go:12", after := #[{ on := 10, ground := Ground.data }, { on := 12, ground := Ground.data }, { on := 9, ground := Ground.guard }], guard := some (9, true) }) (v := undef) rfl (by kernel_rfl) (by kernel_rfl) (by kernel_rfl) (fun _ _ _ h => h) (Or.inr ⟨by rfl, rfl⟩) S0 ?_
        try simp only [Act.put, List.setIfInBounds_toArray, List.set_cons_zero, List.set_cons_succ]
        refine wpAnyH_take (i := 14) (oi := { dst := some 27, op := Op.fieldAddr 89 (Operand.tmp 26) 2, type := 0, pos := "l08_moves.go:12", after := #[{ on := 13, ground := Ground.data }, { on := 9, ground := Ground.guard }], guard := some (9, true) }) (v := undef) rfl (by kernel_rfl) (by kernel_rfl) (by kernel_rfl) (fun _ _ _ h => h) (Or.inr ⟨by rfl, rfl⟩) S0 ?_
        try simp only [Act.put, List.setIfInBounds_toArray, List.set_cons_zero, List.set_cons_succ]
        refine wpAnyH_take (i := 15) (oi := { dst := some 28, op := Op.load 2 (Operand.tmp 27), type := 2, pos := "l08_moves.go:12", after := #[{ on := 14, ground := Ground.data }, { on := 9, ground := Ground.guard }], guard := some (9, true) }) (v := undef) rfl (by kernel_rfl) (by kernel_rfl) (by kernel_rfl) (fun _ _ _ h => h) (Or.inr ⟨by rfl, rfl⟩) S0 ?_
        try simp only [Act.put, List.setIfInBounds_toArray, List.set_cons_zero, List.set_cons_succ]
        refine wpAnyH_take (i := 16) (oi := { dst := some 29, op := Op.move (Operand.tmp 0), type := 35, pos := "l08_moves.go:12", after := #[{ on := 9, ground := Ground.guard }], guard := some (9, true) }) (v := undef) rfl (by kernel_rfl) (by kernel_rfl) (by kernel_rfl) (fun _ _ _ h => h) (Or.inr ⟨by rfl, rfl⟩) S0 ?_
        try simp only [Act.put, List.setIfInBounds_toArray, List.set_cons_zero, List.set_cons_succ]
        refine wpAnyH_take (i := 17) (oi := { dst := some 30, op := Op.move (Operand.tmp 3), type := 3, pos := "l08_moves.go:12", after := #[{ on := 9, ground := Ground.guard }], guard := some (9, true) }) (v := undef) rfl (by kernel_rfl) (by kernel_rfl) (by kernel_rfl) (fun _ _ _ h => h) (Or.inr ⟨by rfl, rfl⟩) S0 ?_
        try simp only [Act.put, List.setIfInBounds_toArray, List.set_cons_zero, List.set_cons_succ]
        refine wpAnyH_take (i := 18) (oi := { dst := some 31, op := Op.indexAddr 35 (Operand.tmp 29) (Operand.tmp 30), type := 0, pos := "l08_moves.go:12", after := #[{ on := 16, ground := Ground.data }, { on := 17, ground := Ground.data }, { on := 9, ground := Ground.guard }], guard := some (9, true) }) (v := undef) rfl (by kernel_rfl) (by kernel_rfl) (by kernel_rfl) (fun _ _ _ h => h) (Or.inr ⟨by rfl, rfl⟩) S0 ?_
        try simp only [Act.put, List.setIfInBounds_toArray, List.set_cons_zero, List.set_cons_succ]
        refine wpAnyH_take (i := 19) (oi := { dst := some 32, op := Op.fieldAddr 89 (Operand.tmp 31) 2, type := 0, pos := "l08_moves.go:12", after := #[{ on := 18, ground := Ground.data }, { on := 9, ground := Ground.guard }], guard := some (9, true) }) (v := undef) rfl (by kernel_rfl) (by kernel_rfl) (by kernel_rfl) (fun _ _ _ h => h) (Or.inr ⟨by rfl, rfl⟩) S0 ?_
        try simp only [Act.put, List.setIfInBounds_toArray, List.set_cons_zero, List.set_cons_succ]
        refine wpAnyH_take (i := 20) (oi := { dst := some 33, op := Op.load 2 (Operand.tmp 32), type := 2, pos := "l08_moves.go:12", after := #[{ on := 19, ground := Ground.data }, { on := 9, ground := Ground.guard }], guard := some (9, true) }) (v := undef) rfl (by kernel_rfl) (by kernel_rfl) (by kernel_rfl) (fun _ _ _ h => h) (Or.inr ⟨by rfl, rfl⟩) S0 ?_
        try simp only [Act.put, List.setIfInBounds_toArray, List.set_cons_zero, List.set_cons_succ]
        refine wpAnyH_take (i := 21) (oi := { dst := some 34, op := Op.binOp BinOp.gtr 2 (Operand.tmp 28) (Operand.tmp 33) 2, type := 4, pos := "l08_moves.go:12", after := #[{ on := 15, ground := Ground.data }, { on := 20, ground := Ground.data }, { on := 9, ground := Ground.guard }], guard := some (9, true) }) (v := undef) rfl (by kernel_rfl) (by kernel_rfl) (by kernel_rfl) (fun _ _ _ h => h) (Or.inr ⟨by rfl, rfl⟩) S0 ?_
        try simp only [Act.put, List.setIfInBounds_toArray, List.set_cons_zero, List.set_cons_succ]
        refine wpAnyH_take (i := 22) (oi := { dst := some 35, op := Op.pick (Operand.tmp 22) (Operand.tmp 34) (Operand.const (Value.bool false)), type := 4, pos := "l08_moves.go:12", after := #[{ on := 9, ground := Ground.data }, { on := 21, ground := Ground.data }, { on := 6, ground := Ground.guard }], guard := some (6, false) }) (v := ?vvc22) rfl (by kernel_rfl) (by kernel_rfl) (by kernel_rfl) (fun _ _ _ h => h) (Or.inl ⟨by rfl, ?hyc22⟩) S0 ?restc22
        case hyc22 => (intro w hSw; obtain ⟨p0, p1, p2⟩ := HEi.out _ hSw;go_simp <;> with_reducible rfl)
        try simp only [Act.put, List.setIfInBounds_toArray, List.set_cons_zero, List.set_cons_succ]
        refine wpAnyH_take (i := 23) (oi := { dst := some 36, op := Op.pick (Operand.tmp 19) (Operand.const (Value.bool true)) (Operand.tmp 35), type := 4, pos := "l08_moves.go:12", after := #[{ on := 6, ground := Ground.data }, { on := 22, ground := Ground.data }], guard := none }) (v := ?vvc23) rfl (by kernel_rfl) (by kernel_rfl) (by kernel_rfl) (fun _ _ _ h => h) (Or.inl ⟨by rfl, ?hyc23⟩) S0 ?restc23
        case hyc23 => (intro w hSw; obtain ⟨p0, p1, p2⟩ := HEi.out _ hSw;go_simp <;> with_reducible rfl)
        try simp only [Act.put, List.setIfInBounds_toArray, List.set_cons_zero, List.set_cons_succ]
        refine wpAnyH_done (by kernel_rfl) ?_ _
        go_wp2_with fail
        go_roundw
        case rel => exact ⟨1, by omega, by simp, Lib.hid (fun k hk => by have e : k = 0 := (by omega); subst e; exact hr.out), Lib.hid S0⟩
        case measure => simp [intOf]; omega
      all_goals
        rw [h1] at HP
        have HEj := Lib.hid (fun (W' : World) (hS : Below w.heap.size w W') => (Elems.below HE hS hb).mv j hj)
        rw [hx.out] at HEj
        clear HE HW h1 hx
        generalize l[i] = y at *
        subst h3
        have hj0 : (0 : Int) < (j : Int) + 1 := by omega
        have hj00 : (0 : Int) ≤ (j : Int) + 1 := by omega
        have hjn : j < n := by omega
        have hj1 : IntKind.i64.wrap (j : Int) = (j : Int) := by simp only [IntKind.wrap_i64]; omega
        rw [Int.natCast_add] at *
        go_wp2_with fail
      · skip
        refine wp_region_held_drew (S := fun W' => Below w.heap.size w W') (by kernel_rfl) S0 (fun hHeld => ?_)
        clear hHeld
        refine wpAnyH_take (i := 0) (oi := { dst := some 13, op := Op.move (Operand.tmp 0), type := 35, pos := "l08_moves.go:12", after := #[], guard := none }) (v := ?vvd1) rfl (by kernel_rfl) (by kernel_rfl) (by kernel_rfl) (fun _ _ _ h => h) (Or.inl ⟨by rfl, ?hyd1⟩) S0 ?restd1
        case hyd1 => (intro w hSw; obtain ⟨p0, p1, p2⟩ := HEi.out _ hSw; obtain ⟨q0, q1, q2⟩ := HEj.out _ hSw;go_simp <;> with_reducible rfl)
        try simp only [Act.put, List.setIfInBounds_toArray, List.set_cons_zero, List.set_cons_succ]
        refine wpAnyH_take (i := 1) (oi := { dst := some 14, op := Op.move (Operand.tmp 3), type := 3, pos := "l08_moves.go:12", after := #[], guard := none }) (v := ?vvd2) rfl (by kernel_rfl) (by kernel_rfl) (by kernel_rfl) (fun _ _ _ h => h) (Or.inl ⟨by rfl, ?hyd2⟩) S0 ?restd2
        case hyd2 => (intro w hSw; obtain ⟨p0, p1, p2⟩ := HEi.out _ hSw; obtain ⟨q0, q1, q2⟩ := HEj.out _ hSw;go_simp <;> with_reducible rfl)
        try simp only [Act.put, List.setIfInBounds_toArray, List.set_cons_zero, List.set_cons_succ]
        refine wpAnyH_take (i := 2) (oi := { dst := some 15, op := Op.indexAddr 35 (Operand.tmp 13) (Operand.tmp 14), type := 0, pos := "l08_moves.go:12", after := #[{ on := 0, ground := Ground.data }, { on := 1, ground := Ground.data }], guard := none }) (v := ?vvd3) rfl (by kernel_rfl) (by kernel_rfl) (by kernel_rfl) (fun _ _ _ h => h) (Or.inl ⟨by rfl, ?hyd3⟩) S0 ?restd3
        case hyd3 => (intro w hSw; obtain ⟨p0, p1, p2⟩ := HEi.out _ hSw; obtain ⟨q0, q1, q2⟩ := HEj.out _ hSw;go_simp <;> with_reducible rfl)
        try simp only [Act.put, List.setIfInBounds_toArray, List.set_cons_zero, List.set_cons_succ]
        refine wpAnyH_take (i := 3) (oi := { dst := some 16, op := Op.load 89 (Operand.tmp 15), type := 89, pos := "l08_moves.go:12", after := #[{ on := 2, ground := Ground.data }], guard := none }) (v := ?vvd4) rfl (by kernel_rfl) (by kernel_rfl) (by kernel_rfl) (fun _ _ _ h => h) (Or.inl ⟨by rfl, ?hyd4⟩) S0 ?restd4
        case hyd4 => (intro w hSw; obtain ⟨p0, p1, p2⟩ := HEi.out _ hSw; obtain ⟨q0, q1, q2⟩ := HEj.out _ hSw;go_simp <;> with_reducible rfl)
        try simp only [Act.put, List.setIfInBounds_toArray, List.set_cons_zero, List.set_cons_succ]
        refine wpAnyH_ready (rs := [4]) (by kernel_rfl) (by simp) ?_
        refine AllReadyH.cons (o := { dst := some 17, op := Op.call { callee := Callee.value (Operand.func 101), args := #[Operand.tmp 16], argTypes := #[89] }, type := 4, pos := "l08_moves.go:12", after := #[{ on := 3, ground := Ground.data }], guard := none }) rfl (fun K hK => ?_) AllReadyH.nil
        go_simp
        refine (HP.out _).mono ?_
        rintro e w1 ⟨rfl, hb1⟩
        replace S0 := S0.trans (hb1.mono S0.size)
        clear hb1
        refine hK.out _ _ S0 (fun hHeld => ?_)
        clear hK K hHeld
        try simp only [Act.put, List.setIfInBounds_toArray, List.set_cons_zero, List.set_cons_succ]
        refine wpAnyH_take (i := 5) (oi := { dst := some 18, op := Op.unOp UnOp.not 4 (Operand.tmp 17), type := 4, pos := "l08_moves.go:12", after := #[{ on := 4, ground := Ground.data }], guard := none }) (v := ?vvd5) rfl (by kernel_rfl) (by kernel_rfl) (by kernel_rfl) (fun _ _ _ h => h) (Or.inl ⟨by rfl, ?hyd5⟩) S0 ?restd5
        case hyd5 => (intro w hSw; obtain ⟨p0, p1, p2⟩ := HEi.out _ hSw; obtain ⟨q0, q1, q2⟩ := HEj.out _ hSw;go_simp <;> with_reducible rfl)
        try simp only [Act.put, List.setIfInBounds_toArray, List.set_cons_zero, List.set_cons_succ]
        refine wpAnyH_take (i := 6) (oi := { dst := some 19, op := Op.move (Operand.tmp 18), type := 4, pos := "l08_moves.go:12", after := #[{ on := 5, ground := Ground.data }, { on := 4, ground := Ground.chain }], guard := none }) (v := ?vvd6) rfl (by kernel_rfl) (by kernel_rfl) (by kernel_rfl) (fun _ _ _ h => h) (Or.inl ⟨by rfl, ?hyd6⟩) S0 ?restd6
        case hyd6 => (intro w hSw; obtain ⟨p0, p1, p2⟩ := HEi.out _ hSw; obtain ⟨q0, q1, q2⟩ := HEj.out _ hSw;go_simp <;> with_reducible rfl)
        try simp only [Act.put, List.setIfInBounds_toArray, List.set_cons_zero, List.set_cons_succ]
        refine wpAnyH_take (i := 7) (oi := { dst := some 20, op := Op.move (Operand.tmp 3), type := 3, pos := "l08_moves.go:12", after := #[{ on := 6, ground := Ground.guard }], guard := some (6, false) }) (v := ?vvd7) rfl (by kernel_rfl) (by kernel_rfl) (by kernel_rfl) (fun _ _ _ h => h) (Or.inl ⟨by rfl, ?hyd7⟩) S0 ?restd7
        case hyd7 => (intro w hSw; obtain ⟨p0, p1, p2⟩ := HEi.out _ hSw; obtain ⟨q0, q1, q2⟩ := HEj.out _ hSw;go_simp <;> with_reducible rfl)
        try simp only [Act.put, List.setIfInBounds_toArray, List.set_cons_zero, List.set_cons_succ]
        refine wpAnyH_take (i := 8) (oi := { dst := some 21, op := Op.binOp BinOp.gtr 3 (Operand.tmp 20) (Operand.const (Value.int IntKind.i64 0)) 3, type := 4, pos := "l08_moves.go:12", after := #[{ on := 7, ground := Ground.data }, { on := 6, ground := Ground.guard }], guard := some (6, false) }) (v := ?vvd8) rfl (by kernel_rfl) (by kernel_rfl) (by kernel_rfl) (fun _ _ _ h => h) (Or.inl ⟨by rfl, ?hyd8⟩) S0 ?restd8
        case hyd8 => (intro w hSw; obtain ⟨p0, p1, p2⟩ := HEi.out _ hSw; obtain ⟨q0, q1, q2⟩ := HEj.out _ hSw;go_simp <;> with_reducible rfl)
        try simp only [Act.put, List.setIfInBounds_toArray, List.set_cons_zero, List.set_cons_succ]
        refine wpAnyH_take (i := 9) (oi := { dst := some 22, op := Op.move (Operand.tmp 21), type := 4, pos := "l08_moves.go:12", after := #[{ on := 8, ground := Ground.data }, { on := 6, ground := Ground.chain }, { on := 6, ground := Ground.guard }], guard := some (6, false) }) (v := ?vvd9) rfl (by kernel_rfl) (by kernel_rfl) (by kernel_rfl) (fun _ _ _ h => h) (Or.inl ⟨by rfl, ?hyd9⟩) S0 ?restd9
        case hyd9 => (intro w hSw; obtain ⟨p0, p1, p2⟩ := HEi.out _ hSw; obtain ⟨q0, q1, q2⟩ := HEj.out _ hSw;go_simp <;> with_reducible rfl)
        try simp only [Act.put, List.setIfInBounds_toArray, List.set_cons_zero, List.set_cons_succ]
        refine wpAnyH_take (i := 10) (oi := { dst := some 23, op := Op.move (Operand.tmp 0), type := 35, pos := "l08_moves.go:12", after := #[{ on := 9, ground := Ground.guard }], guard := some (9, true) }) (v := ?vvd10) rfl (by kernel_rfl) (by kernel_rfl) (by kernel_rfl) (fun _ _ _ h => h) (Or.inl ⟨by rfl, ?hyd10⟩) S0 ?restd10
        case hyd10 => (intro w hSw; obtain ⟨p0, p1, p2⟩ := HEi.out _ hSw; obtain ⟨q0, q1, q2⟩ := HEj.out _ hSw;go_simp <;> with_reducible rfl)
        try simp only [Act.put, List.setIfInBounds_toArray, List.set_cons_zero, List.set_cons_succ]
        refine wpAnyH_take (i := 11) (oi := { dst := some 24, op := Op.move (Operand.tmp 3), type := 3, pos := "l08_moves.go:12", after := #[{ on := 9, ground := Ground.guard }], guard := some (9, true) }) (v := ?vvd11) rfl (by kernel_rfl) (by kernel_rfl) (by kernel_rfl) (fun _ _ _ h => h) (Or.inl ⟨by rfl, ?hyd11⟩) S0 ?restd11
        case hyd11 => (intro w hSw; obtain ⟨p0, p1, p2⟩ := HEi.out _ hSw; obtain ⟨q0, q1, q2⟩ := HEj.out _ hSw;go_simp <;> with_reducible rfl)
        try simp only [Act.put, List.setIfInBounds_toArray, List.set_cons_zero, List.set_cons_succ]
        refine wpAnyH_take (i := 12) (oi := { dst := some 25, op := Op.binOp BinOp.sub 3 (Operand.tmp 24) (Operand.const (Value.int IntKind.i64 1)) 3, type := 3, pos := "l08_moves.go:12", after := #[{ on := 11, ground := Ground.data }, { on := 9, ground := Ground.guard }], guard := some (9, true) }) (v := ?vvd12) rfl (by kernel_rfl) (by kernel_rfl) (by kernel_rfl) (fun _ _ _ h => h) (Or.inl ⟨by rfl, ?hyd12⟩) S0 ?restd12
        case hyd12 => (intro w hSw; obtain ⟨p0, p1, p2⟩ := HEi.out _ hSw; obtain ⟨q0, q1, q2⟩ := HEj.out _ hSw;go_simp <;> with_reducible rfl)
        try simp only [Act.put, List.setIfInBounds_toArray, List.set_cons_zero, List.set_cons_succ]
        refine wpAnyH_take (i := 13) (oi := { dst := some 26, op := Op.indexAddr 35 (Operand.tmp 23) (Operand.tmp 25), type := 0, pos := "l08_moves.go:12", after := #[{ on := 10, ground := Ground.data }, { on := 12, ground := Ground.data }, { on := 9, ground := Ground.guard }], guard := some (9, true) }) (v := ?vvd13) rfl (by kernel_rfl) (by kernel_rfl) (by kernel_rfl) (fun _ _ _ h => h) (Or.inl ⟨by rfl, ?hyd13⟩) S0 ?restd13
        case hyd13 => (intro w hSw; obtain ⟨p0, p1, p2⟩ := HEi.out _ hSw; obtain ⟨q0, q1, q2⟩ := HEj.out _ hSw;go_simp <;> with_reducible rfl)
        try simp only [Act.put, List.setIfInBounds_toArray, List.set_cons_zero, List.set_cons_succ]
        refine wpAnyH_take (i := 14) (oi := { dst := some 27, op := Op.fieldAddr 89 (Operand.tmp 26) 2, type := 0, pos := "l08_moves.go:12", after := #[{ on := 13, ground := Ground.data }, { on := 9, ground := Ground.guard }], guard := some (9, true) }) (v := ?vvd14) rfl (by kernel_rfl) (by kernel_rfl) (by kernel_rfl) (fun _ _ _ h => h) (Or.inl ⟨by rfl, ?hyd14⟩) S0 ?restd14
        case hyd14 => (intro w hSw; obtain ⟨p0, p1, p2⟩ := HEi.out _ hSw; obtain ⟨q0, q1, q2⟩ := HEj.out _ hSw;go_simp <;> with_reducible rfl)
        try simp only [Act.put, List.setIfInBounds_toArray, List.set_cons_zero, List.set_cons_succ]
        refine wpAnyH_take (i := 15) (oi := { dst := some 28, op := Op.load 2 (Operand.tmp 27), type := 2, pos := "l08_moves.go:12", after := #[{ on := 14, ground := Ground.data }, { on := 9, ground := Ground.guard }], guard := some (9, true) }) (v := ?vvd15) rfl (by kernel_rfl) (by kernel_rfl) (by kernel_rfl) (fun _ _ _ h => h) (Or.inl ⟨by rfl, ?hyd15⟩) S0 ?restd15
        case hyd15 => (intro w hSw; obtain ⟨p0, p1, p2⟩ := HEi.out _ hSw; obtain ⟨q0, q1, q2⟩ := HEj.out _ hSw;go_simp <;> with_reducible rfl)
        try simp only [Act.put, List.setIfInBounds_toArray, List.set_cons_zero, List.set_cons_succ]
        refine wpAnyH_take (i := 16) (oi := { dst := some 29, op := Op.move (Operand.tmp 0), type := 35, pos := "l08_moves.go:12", after := #[{ on := 9, ground := Ground.guard }], guard := some (9, true) }) (v := ?vvd16) rfl (by kernel_rfl) (by kernel_rfl) (by kernel_rfl) (fun _ _ _ h => h) (Or.inl ⟨by rfl, ?hyd16⟩) S0 ?restd16
        case hyd16 => (intro w hSw; obtain ⟨p0, p1, p2⟩ := HEi.out _ hSw; obtain ⟨q0, q1, q2⟩ := HEj.out _ hSw;go_simp <;> with_reducible rfl)
        try simp only [Act.put, List.setIfInBounds_toArray, List.set_cons_zero, List.set_cons_succ]
        refine wpAnyH_take (i := 17) (oi := { dst := some 30, op := Op.move (Operand.tmp 3), type := 3, pos := "l08_moves.go:12", after := #[{ on := 9, ground := Ground.guard }], guard := some (9, true) }) (v := ?vvd17) rfl (by kernel_rfl) (by kernel_rfl) (by kernel_rfl) (fun _ _ _ h => h) (Or.inl ⟨by rfl, ?hyd17⟩) S0 ?restd17
        case hyd17 => (intro w hSw; obtain ⟨p0, p1, p2⟩ := HEi.out _ hSw; obtain ⟨q0, q1, q2⟩ := HEj.out _ hSw;go_simp <;> with_reducible rfl)
        try simp only [Act.put, List.setIfInBounds_toArray, List.set_cons_zero, List.set_cons_succ]
        refine wpAnyH_take (i := 18) (oi := { dst := some 31, op := Op.indexAddr 35 (Operand.tmp 29) (Operand.tmp 30), type := 0, pos := "l08_moves.go:12", after := #[{ on := 16, ground := Ground.data }, { on := 17, ground := Ground.data }, { on := 9, ground := Ground.guard }], guard := some (9, true) }) (v := ?vvd18) rfl (by kernel_rfl) (by kernel_rfl) (by kernel_rfl) (fun _ _ _ h => h) (Or.inl ⟨by rfl, ?hyd18⟩) S0 ?restd18
        case hyd18 => (intro w hSw; obtain ⟨p0, p1, p2⟩ := HEi.out _ hSw; obtain ⟨q0, q1, q2⟩ := HEj.out _ hSw;go_simp <;> with_reducible rfl)
        try simp only [Act.put, List.setIfInBounds_toArray, List.set_cons_zero, List.set_cons_succ]
        refine wpAnyH_take (i := 19) (oi := { dst := some 32, op := Op.fieldAddr 89 (Operand.tmp 31) 2, type := 0, pos := "l08_moves.go:12", after := #[{ on := 18, ground := Ground.data }, { on := 9, ground := Ground.guard }], guard := some (9, true) }) (v := ?vvd19) rfl (by kernel_rfl) (by kernel_rfl) (by kernel_rfl) (fun _ _ _ h => h) (Or.inl ⟨by rfl, ?hyd19⟩) S0 ?restd19
        case hyd19 => (intro w hSw; obtain ⟨p0, p1, p2⟩ := HEi.out _ hSw; obtain ⟨q0, q1, q2⟩ := HEj.out _ hSw;go_simp <;> with_reducible rfl)
        try simp only [Act.put, List.setIfInBounds_toArray, List.set_cons_zero, List.set_cons_succ]
        refine wpAnyH_take (i := 20) (oi := { dst := some 33, op := Op.load 2 (Operand.tmp 32), type := 2, pos := "l08_moves.go:12", after := #[{ on := 19, ground := Ground.data }, { on := 9, ground := Ground.guard }], guard := some (9, true) }) (v := ?vvd20) rfl (by kernel_rfl) (by kernel_rfl) (by kernel_rfl) (fun _ _ _ h => h) (Or.inl ⟨by rfl, ?hyd20⟩) S0 ?restd20
        case hyd20 => (intro w hSw; obtain ⟨p0, p1, p2⟩ := HEi.out _ hSw; obtain ⟨q0, q1, q2⟩ := HEj.out _ hSw;go_simp <;> with_reducible rfl)
        try simp only [Act.put, List.setIfInBounds_toArray, List.set_cons_zero, List.set_cons_succ]
        refine wpAnyH_take (i := 21) (oi := { dst := some 34, op := Op.binOp BinOp.gtr 2 (Operand.tmp 28) (Operand.tmp 33) 2, type := 4, pos := "l08_moves.go:12", after := #[{ on := 15, ground := Ground.data }, { on := 20, ground := Ground.data }, { on := 9, ground := Ground.guard }], guard := some (9, true) }) (v := ?vvd21) rfl (by kernel_rfl) (by kernel_rfl) (by kernel_rfl) (fun _ _ _ h => h) (Or.inl ⟨by rfl, ?hyd21⟩) S0 ?restd21
        case hyd21 => (intro w hSw; obtain ⟨p0, p1, p2⟩ := HEi.out _ hSw; obtain ⟨q0, q1, q2⟩ := HEj.out _ hSw;go_simp <;> with_reducible rfl)
        try simp only [Act.put, List.setIfInBounds_toArray, List.set_cons_zero, List.set_cons_succ]
        refine wpAnyH_take (i := 22) (oi := { dst := some 35, op := Op.pick (Operand.tmp 22) (Operand.tmp 34) (Operand.const (Value.bool false)), type := 4, pos := "l08_moves.go:12", after := #[{ on := 9, ground := Ground.data }, { on := 21, ground := Ground.data }, { on := 6, ground := Ground.guard }], guard := some (6, false) }) (v := ?vvd22) rfl (by kernel_rfl) (by kernel_rfl) (by kernel_rfl) (fun _ _ _ h => h) (Or.inl ⟨by rfl, ?hyd22⟩) S0 ?restd22
        case hyd22 => (intro w hSw; obtain ⟨p0, p1, p2⟩ := HEi.out _ hSw; obtain ⟨q0, q1, q2⟩ := HEj.out _ hSw;go_simp <;> with_reducible rfl)
        try simp only [Act.put, List.setIfInBounds_toArray, List.set_cons_zero, List.set_cons_succ]
        refine wpAnyH_take (i := 23) (oi := { dst := some 36, op := Op.pick (Operand.tmp 19) (Operand.const (Value.bool true)) (Operand.tmp 35), type := 4, pos := "l08_moves.go:12", after := #[{ on := 6, ground := Ground.data }, { on := 22, ground := Ground.data }], guard := none }) (v := ?vvd23) rfl (by kernel_rfl) (by kernel_rfl) (by kernel_rfl) (fun _ _ _ h => h) (Or.inl ⟨by rfl, ?hyd23⟩) S0 ?restd23
        case hyd23 => (intro w hSw; obtain ⟨p0, p1, p2⟩ := HEi.out _ hSw; obtain ⟨q0, q1, q2⟩ := HEj.out _ hSw;go_simp <;> with_reducible rfl)
        try simp only [Act.put, List.setIfInBounds_toArray, List.set_cons_zero, List.set_cons_succ]
        refine wpAnyH_done (by kernel_rfl) ?_ _
        go_wp2_with fail
        go_roundw
        case rel => exact ⟨j + 1 + 1, by omega, by simp, Lib.hid (fun k hk => by
          by_cases e : k = j + 1
          · subst e; exact hr.out
          · exact HK.out k (by omega)), Lib.hid S0⟩
        case measure => simp [intOf]; omega
      · skip
        refine wp_region_held_drew (S := fun W' => Below w.heap.size w W') (by kernel_rfl) S0 (fun hHeld => ?_)
        clear hHeld
        refine wpAnyH_take (i := 0) (oi := { dst := some 13, op := Op.move (Operand.tmp 0), type := 35, pos := "l08_moves.go:12", after := #[], guard := none }) (v := ?vve1) rfl (by kernel_rfl) (by kernel_rfl) (by kernel_rfl) (fun _ _ _ h => h) (Or.inl ⟨by rfl, ?hye1⟩) S0 ?reste1
        case hye1 => (intro w hSw; obtain ⟨p0, p1, p2⟩ := HEi.out _ hSw; obtain ⟨q0, q1, q2⟩ := HEj.out _ hSw;go_simp <;> with_reducible rfl)
        try simp only [Act.put, List.setIfInBounds_toArray, List.set_cons_zero, List.set_cons_succ]
        refine wpAnyH_take (i := 1) (oi := { dst := some 14, op := Op.move (Operand.tmp 3), type := 3, pos := "l08_moves.go:12", after := #[], guard := none }) (v := ?vve2) rfl (by kernel_rfl) (by kernel_rfl) (by kernel_rfl) (fun _ _ _ h => h) (Or.inl ⟨by rfl, ?hye2⟩) S0 ?reste2
        case hye2 => (intro w hSw; obtain ⟨p0, p1, p2⟩ := HEi.out _ hSw; obtain ⟨q0, q1, q2⟩ := HEj.out _ hSw;go_simp <;> with_reducible rfl)
        try simp only [Act.put, List.setIfInBounds_toArray, List.set_cons_zero, List.set_cons_succ]
        refine wpAnyH_take (i := 2) (oi := { dst := some 15, op := Op.indexAddr 35 (Operand.tmp 13) (Operand.tmp 14), type := 0, pos := "l08_moves.go:12", after := #[{ on := 0, ground := Ground.data }, { on := 1, ground := Ground.data }], guard := none }) (v := ?vve3) rfl (by kernel_rfl) (by kernel_rfl) (by kernel_rfl) (fun _ _ _ h => h) (Or.inl ⟨by rfl, ?hye3⟩) S0 ?reste3
        case hye3 => (intro w hSw; obtain ⟨p0, p1, p2⟩ := HEi.out _ hSw; obtain ⟨q0, q1, q2⟩ := HEj.out _ hSw;go_simp <;> with_reducible rfl)
        try simp only [Act.put, List.setIfInBounds_toArray, List.set_cons_zero, List.set_cons_succ]
        refine wpAnyH_take (i := 3) (oi := { dst := some 16, op := Op.load 89 (Operand.tmp 15), type := 89, pos := "l08_moves.go:12", after := #[{ on := 2, ground := Ground.data }], guard := none }) (v := ?vve4) rfl (by kernel_rfl) (by kernel_rfl) (by kernel_rfl) (fun _ _ _ h => h) (Or.inl ⟨by rfl, ?hye4⟩) S0 ?reste4
        case hye4 => (intro w hSw; obtain ⟨p0, p1, p2⟩ := HEi.out _ hSw; obtain ⟨q0, q1, q2⟩ := HEj.out _ hSw;go_simp <;> with_reducible rfl)
        try simp only [Act.put, List.setIfInBounds_toArray, List.set_cons_zero, List.set_cons_succ]
        refine wpAnyH_ready (rs := [4]) (by kernel_rfl) (by simp) ?_
        refine AllReadyH.cons (o := { dst := some 17, op := Op.call { callee := Callee.value (Operand.func 101), args := #[Operand.tmp 16], argTypes := #[89] }, type := 4, pos := "l08_moves.go:12", after := #[{ on := 3, ground := Ground.data }], guard := none }) rfl (fun K hK => ?_) AllReadyH.nil
        go_simp
        refine (HP.out _).mono ?_
        rintro e w1 ⟨rfl, hb1⟩
        replace S0 := S0.trans (hb1.mono S0.size)
        clear hb1
        refine hK.out _ _ S0 (fun hHeld => ?_)
        clear hK K hHeld
        try simp only [Act.put, List.setIfInBounds_toArray, List.set_cons_zero, List.set_cons_succ]
        refine wpAnyH_take (i := 5) (oi := { dst := some 18, op := Op.unOp UnOp.not 4 (Operand.tmp 17), type := 4, pos := "l08_moves.go:12", after := #[{ on := 4, ground := Ground.data }], guard := none }) (v := ?vve5) rfl (by kernel_rfl) (by kernel_rfl) (by kernel_rfl) (fun _ _ _ h => h) (Or.inl ⟨by rfl, ?hye5⟩) S0 ?reste5
        case hye5 => (intro w hSw; obtain ⟨p0, p1, p2⟩ := HEi.out _ hSw; obtain ⟨q0, q1, q2⟩ := HEj.out _ hSw;go_simp <;> with_reducible rfl)
        try simp only [Act.put, List.setIfInBounds_toArray, List.set_cons_zero, List.set_cons_succ]
        refine wpAnyH_take (i := 6) (oi := { dst := some 19, op := Op.move (Operand.tmp 18), type := 4, pos := "l08_moves.go:12", after := #[{ on := 5, ground := Ground.data }, { on := 4, ground := Ground.chain }], guard := none }) (v := ?vve6) rfl (by kernel_rfl) (by kernel_rfl) (by kernel_rfl) (fun _ _ _ h => h) (Or.inl ⟨by rfl, ?hye6⟩) S0 ?reste6
        case hye6 => (intro w hSw; obtain ⟨p0, p1, p2⟩ := HEi.out _ hSw; obtain ⟨q0, q1, q2⟩ := HEj.out _ hSw;go_simp <;> with_reducible rfl)
        try simp only [Act.put, List.setIfInBounds_toArray, List.set_cons_zero, List.set_cons_succ]
        refine wpAnyH_take (i := 7) (oi := { dst := some 20, op := Op.move (Operand.tmp 3), type := 3, pos := "l08_moves.go:12", after := #[{ on := 6, ground := Ground.guard }], guard := some (6, false) }) (v := ?vve7) rfl (by kernel_rfl) (by kernel_rfl) (by kernel_rfl) (fun _ _ _ h => h) (Or.inl ⟨by rfl, ?hye7⟩) S0 ?reste7
        case hye7 => (intro w hSw; obtain ⟨p0, p1, p2⟩ := HEi.out _ hSw; obtain ⟨q0, q1, q2⟩ := HEj.out _ hSw;go_simp <;> with_reducible rfl)
        try simp only [Act.put, List.setIfInBounds_toArray, List.set_cons_zero, List.set_cons_succ]
        refine wpAnyH_take (i := 8) (oi := { dst := some 21, op := Op.binOp BinOp.gtr 3 (Operand.tmp 20) (Operand.const (Value.int IntKind.i64 0)) 3, type := 4, pos := "l08_moves.go:12", after := #[{ on := 7, ground := Ground.data }, { on := 6, ground := Ground.guard }], guard := some (6, false) }) (v := ?vve8) rfl (by kernel_rfl) (by kernel_rfl) (by kernel_rfl) (fun _ _ _ h => h) (Or.inl ⟨by rfl, ?hye8⟩) S0 ?reste8
        case hye8 => (intro w hSw; obtain ⟨p0, p1, p2⟩ := HEi.out _ hSw; obtain ⟨q0, q1, q2⟩ := HEj.out _ hSw;go_simp <;> with_reducible rfl)
        try simp only [Act.put, List.setIfInBounds_toArray, List.set_cons_zero, List.set_cons_succ]
        refine wpAnyH_take (i := 9) (oi := { dst := some 22, op := Op.move (Operand.tmp 21), type := 4, pos := "l08_moves.go:12", after := #[{ on := 8, ground := Ground.data }, { on := 6, ground := Ground.chain }, { on := 6, ground := Ground.guard }], guard := some (6, false) }) (v := ?vve9) rfl (by kernel_rfl) (by kernel_rfl) (by kernel_rfl) (fun _ _ _ h => h) (Or.inl ⟨by rfl, ?hye9⟩) S0 ?reste9
        case hye9 => (intro w hSw; obtain ⟨p0, p1, p2⟩ := HEi.out _ hSw; obtain ⟨q0, q1, q2⟩ := HEj.out _ hSw;go_simp <;> with_reducible rfl)
        try simp only [Act.put, List.setIfInBounds_toArray, List.set_cons_zero, List.set_cons_succ]
        refine wpAnyH_take (i := 10) (oi := { dst := some 23, op := Op.move (Operand.tmp 0), type := 35, pos := "l08_moves.go:12", after := #[{ on := 9, ground := Ground.guard }], guard := some (9, true) }) (v := ?vve10) rfl (by kernel_rfl) (by kernel_rfl) (by kernel_rfl) (fun _ _ _ h => h) (Or.inl ⟨by rfl, ?hye10⟩) S0 ?reste10
        case hye10 => (intro w hSw; obtain ⟨p0, p1, p2⟩ := HEi.out _ hSw; obtain ⟨q0, q1, q2⟩ := HEj.out _ hSw;go_simp <;> with_reducible rfl)
        try simp only [Act.put, List.setIfInBounds_toArray, List.set_cons_zero, List.set_cons_succ]
        refine wpAnyH_take (i := 11) (oi := { dst := some 24, op := Op.move (Operand.tmp 3), type := 3, pos := "l08_moves.go:12", after := #[{ on := 9, ground := Ground.guard }], guard := some (9, true) }) (v := ?vve11) rfl (by kernel_rfl) (by kernel_rfl) (by kernel_rfl) (fun _ _ _ h => h) (Or.inl ⟨by rfl, ?hye11⟩) S0 ?reste11
        case hye11 => (intro w hSw; obtain ⟨p0, p1, p2⟩ := HEi.out _ hSw; obtain ⟨q0, q1, q2⟩ := HEj.out _ hSw;go_simp <;> with_reducible rfl)
        try simp only [Act.put, List.setIfInBounds_toArray, List.set_cons_zero, List.set_cons_succ]
        refine wpAnyH_take (i := 12) (oi := { dst := some 25, op := Op.binOp BinOp.sub 3 (Operand.tmp 24) (Operand.const (Value.int IntKind.i64 1)) 3, type := 3, pos := "l08_moves.go:12", after := #[{ on := 11, ground := Ground.data }, { on := 9, ground := Ground.guard }], guard := some (9, true) }) (v := ?vve12) rfl (by kernel_rfl) (by kernel_rfl) (by kernel_rfl) (fun _ _ _ h => h) (Or.inl ⟨by rfl, ?hye12⟩) S0 ?reste12
        case hye12 => (intro w hSw; obtain ⟨p0, p1, p2⟩ := HEi.out _ hSw; obtain ⟨q0, q1, q2⟩ := HEj.out _ hSw;go_simp <;> with_reducible rfl)
        try simp only [Act.put, List.setIfInBounds_toArray, List.set_cons_zero, List.set_cons_succ]
        refine wpAnyH_take (i := 13) (oi := { dst := some 26, op := Op.indexAddr 35 (Operand.tmp 23) (Operand.tmp 25), type := 0, pos := "l08_moves.go:12", after := #[{ on := 10, ground := Ground.data }, { on := 12, ground := Ground.data }, { on := 9, ground := Ground.guard }], guard := some (9, true) }) (v := ?vve13) rfl (by kernel_rfl) (by kernel_rfl) (by kernel_rfl) (fun _ _ _ h => h) (Or.inl ⟨by rfl, ?hye13⟩) S0 ?reste13
        case hye13 => (intro w hSw; obtain ⟨p0, p1, p2⟩ := HEi.out _ hSw; obtain ⟨q0, q1, q2⟩ := HEj.out _ hSw;go_simp <;> with_reducible rfl)
        try simp only [Act.put, List.setIfInBounds_toArray, List.set_cons_zero, List.set_cons_succ]
        refine wpAnyH_take (i := 14) (oi := { dst := some 27, op := Op.fieldAddr 89 (Operand.tmp 26) 2, type := 0, pos := "l08_moves.go:12", after := #[{ on := 13, ground := Ground.data }, { on := 9, ground := Ground.guard }], guard := some (9, true) }) (v := ?vve14) rfl (by kernel_rfl) (by kernel_rfl) (by kernel_rfl) (fun _ _ _ h => h) (Or.inl ⟨by rfl, ?hye14⟩) S0 ?reste14
        case hye14 => (intro w hSw; obtain ⟨p0, p1, p2⟩ := HEi.out _ hSw; obtain ⟨q0, q1, q2⟩ := HEj.out _ hSw;go_simp <;> with_reducible rfl)
        try simp only [Act.put, List.setIfInBounds_toArray, List.set_cons_zero, List.set_cons_succ]
        refine wpAnyH_take (i := 15) (oi := { dst := some 28, op := Op.load 2 (Operand.tmp 27), type := 2, pos := "l08_moves.go:12", after := #[{ on := 14, ground := Ground.data }, { on := 9, ground := Ground.guard }], guard := some (9, true) }) (v := ?vve15) rfl (by kernel_rfl) (by kernel_rfl) (by kernel_rfl) (fun _ _ _ h => h) (Or.inl ⟨by rfl, ?hye15⟩) S0 ?reste15
        case hye15 => (intro w hSw; obtain ⟨p0, p1, p2⟩ := HEi.out _ hSw; obtain ⟨q0, q1, q2⟩ := HEj.out _ hSw;go_simp <;> with_reducible rfl)
        try simp only [Act.put, List.setIfInBounds_toArray, List.set_cons_zero, List.set_cons_succ]
        refine wpAnyH_take (i := 16) (oi := { dst := some 29, op := Op.move (Operand.tmp 0), type := 35, pos := "l08_moves.go:12", after := #[{ on := 9, ground := Ground.guard }], guard := some (9, true) }) (v := ?vve16) rfl (by kernel_rfl) (by kernel_rfl) (by kernel_rfl) (fun _ _ _ h => h) (Or.inl ⟨by rfl, ?hye16⟩) S0 ?reste16
        case hye16 => (intro w hSw; obtain ⟨p0, p1, p2⟩ := HEi.out _ hSw; obtain ⟨q0, q1, q2⟩ := HEj.out _ hSw;go_simp <;> with_reducible rfl)
        try simp only [Act.put, List.setIfInBounds_toArray, List.set_cons_zero, List.set_cons_succ]
        refine wpAnyH_take (i := 17) (oi := { dst := some 30, op := Op.move (Operand.tmp 3), type := 3, pos := "l08_moves.go:12", after := #[{ on := 9, ground := Ground.guard }], guard := some (9, true) }) (v := ?vve17) rfl (by kernel_rfl) (by kernel_rfl) (by kernel_rfl) (fun _ _ _ h => h) (Or.inl ⟨by rfl, ?hye17⟩) S0 ?reste17
        case hye17 => (intro w hSw; obtain ⟨p0, p1, p2⟩ := HEi.out _ hSw; obtain ⟨q0, q1, q2⟩ := HEj.out _ hSw;go_simp <;> with_reducible rfl)
        try simp only [Act.put, List.setIfInBounds_toArray, List.set_cons_zero, List.set_cons_succ]
        refine wpAnyH_take (i := 18) (oi := { dst := some 31, op := Op.indexAddr 35 (Operand.tmp 29) (Operand.tmp 30), type := 0, pos := "l08_moves.go:12", after := #[{ on := 16, ground := Ground.data }, { on := 17, ground := Ground.data }, { on := 9, ground := Ground.guard }], guard := some (9, true) }) (v := ?vve18) rfl (by kernel_rfl) (by kernel_rfl) (by kernel_rfl) (fun _ _ _ h => h) (Or.inl ⟨by rfl, ?hye18⟩) S0 ?reste18
        case hye18 => (intro w hSw; obtain ⟨p0, p1, p2⟩ := HEi.out _ hSw; obtain ⟨q0, q1, q2⟩ := HEj.out _ hSw;go_simp <;> with_reducible rfl)
        try simp only [Act.put, List.setIfInBounds_toArray, List.set_cons_zero, List.set_cons_succ]
        refine wpAnyH_take (i := 19) (oi := { dst := some 32, op := Op.fieldAddr 89 (Operand.tmp 31) 2, type := 0, pos := "l08_moves.go:12", after := #[{ on := 18, ground := Ground.data }, { on := 9, ground := Ground.guard }], guard := some (9, true) }) (v := ?vve19) rfl (by kernel_rfl) (by kernel_rfl) (by kernel_rfl) (fun _ _ _ h => h) (Or.inl ⟨by rfl, ?hye19⟩) S0 ?reste19
        case hye19 => (intro w hSw; obtain ⟨p0, p1, p2⟩ := HEi.out _ hSw; obtain ⟨q0, q1, q2⟩ := HEj.out _ hSw;go_simp <;> with_reducible rfl)
        try simp only [Act.put, List.setIfInBounds_toArray, List.set_cons_zero, List.set_cons_succ]
        refine wpAnyH_take (i := 20) (oi := { dst := some 33, op := Op.load 2 (Operand.tmp 32), type := 2, pos := "l08_moves.go:12", after := #[{ on := 19, ground := Ground.data }, { on := 9, ground := Ground.guard }], guard := some (9, true) }) (v := ?vve20) rfl (by kernel_rfl) (by kernel_rfl) (by kernel_rfl) (fun _ _ _ h => h) (Or.inl ⟨by rfl, ?hye20⟩) S0 ?reste20
        case hye20 => (intro w hSw; obtain ⟨p0, p1, p2⟩ := HEi.out _ hSw; obtain ⟨q0, q1, q2⟩ := HEj.out _ hSw;go_simp <;> with_reducible rfl)
        try simp only [Act.put, List.setIfInBounds_toArray, List.set_cons_zero, List.set_cons_succ]
        refine wpAnyH_take (i := 21) (oi := { dst := some 34, op := Op.binOp BinOp.gtr 2 (Operand.tmp 28) (Operand.tmp 33) 2, type := 4, pos := "l08_moves.go:12", after := #[{ on := 15, ground := Ground.data }, { on := 20, ground := Ground.data }, { on := 9, ground := Ground.guard }], guard := some (9, true) }) (v := ?vve21) rfl (by kernel_rfl) (by kernel_rfl) (by kernel_rfl) (fun _ _ _ h => h) (Or.inl ⟨by rfl, ?hye21⟩) S0 ?reste21
        case hye21 => (intro w hSw; obtain ⟨p0, p1, p2⟩ := HEi.out _ hSw; obtain ⟨q0, q1, q2⟩ := HEj.out _ hSw;go_simp <;> with_reducible rfl)
        try simp only [Act.put, List.setIfInBounds_toArray, List.set_cons_zero, List.set_cons_succ]
        refine wpAnyH_take (i := 22) (oi := { dst := some 35, op := Op.pick (Operand.tmp 22) (Operand.tmp 34) (Operand.const (Value.bool false)), type := 4, pos := "l08_moves.go:12", after := #[{ on := 9, ground := Ground.data }, { on := 21, ground := Ground.data }, { on := 6, ground := Ground.guard }], guard := some (6, false) }) (v := ?vve22) rfl (by kernel_rfl) (by kernel_rfl) (by kernel_rfl) (fun _ _ _ h => h) (Or.inl ⟨by rfl, ?hye22⟩) S0 ?reste22
        case hye22 => (intro w hSw; obtain ⟨p0, p1, p2⟩ := HEi.out _ hSw; obtain ⟨q0, q1, q2⟩ := HEj.out _ hSw;go_simp <;> with_reducible rfl)
        try simp only [Act.put, List.setIfInBounds_toArray, List.set_cons_zero, List.set_cons_succ]
        refine wpAnyH_take (i := 23) (oi := { dst := some 36, op := Op.pick (Operand.tmp 19) (Operand.const (Value.bool true)) (Operand.tmp 35), type := 4, pos := "l08_moves.go:12", after := #[{ on := 6, ground := Ground.data }, { on := 22, ground := Ground.data }], guard := none }) (v := ?vve23) rfl (by kernel_rfl) (by kernel_rfl) (by kernel_rfl) (fun _ _ _ h => h) (Or.inl ⟨by rfl, ?hye23⟩) S0 ?reste23
        case hye23 => (intro w hSw; obtain ⟨p0, p1, p2⟩ := HEi.out _ hSw; obtain ⟨q0, q1, q2⟩ := HEj.out _ hSw;go_simp <;> with_reducible rfl)
        try simp only [Act.put, List.setIfInBounds_toArray, List.set_cons_zero, List.set_cons_succ]
        refine wpAnyH_done (by kernel_rfl) ?_ _
        go_wp2_with fail
        go_ret
        exact ⟨bool_ret hr.out.symm, S0⟩
    · have : i = n := by omega
      subst this
      have HR := Lib.hid (HY.out (by omega) (fun k hk => HK.out k (by have := HN.out; omega)))
      go_wp2_with fail
      go_ret
      exact ⟨bool_ret HR.out.symm, HB.out⟩
/- the ways through the program's test, on the ways of the list -/
inductive MrI (l : List Mv) (i : Nat) (h : Mv) : Prop
  | vni (h1 : isVni h.vni = false) (hr : Hid (mvsOk l = false))
  | mac (h1 : isVni h.vni = true) (h2 : isMac h.mac = false) (hr : Hid (mvsOk l = false))
  | time (h1 : isVni h.vni = true) (h2 : isMac h.mac = true) (h0 : isTime h.tm = false) (hr : Hid (mvsOk l = false))
  | first (h1 : isVni h.vni = true) (h2 : isMac h.mac = true) (h0 : isTime h.tm = true) (h3 : i = 0) (hr : Hid (okAtM l i = true))
  | less (h1 : isVni h.vni = true) (h2 : isMac h.mac = true) (h0 : isTime h.tm = true) (j : Nat) (h3 : i = j + 1) (a : Mv) (hj : j < l.length) (ha : Hid (l[j] = a)) (h4 : ¬ h.tm < a.tm) (hr : Hid (okAtM l i = true))
  | more (h1 : isVni h.vni = true) (h2 : isMac h.mac = true) (h0 : isTime h.tm = true) (j : Nat) (h3 : i = j + 1) (a : Mv) (hj : j < l.length) (ha : Hid (l[j] = a)) (h4 : h.tm < a.tm) (hr : Hid (mvsOk l = false))
theorem mr_i (l : List Mv) (i : Nat) (hi : i < l.length) : MrI l i l[i] := by
  have hv : ∀ h : Mv, h.right = true → isVni h.vni = true ∧ isMac h.mac = true ∧ isTime h.tm = true := fun h e => by
    unfold Mv.right mvRight at e
    simpa using e
  have hw : ∀ h : Mv, isVni h.vni = true → isMac h.mac = true → isTime h.tm = true → h.right = true := fun h e1 e2 e3 => by
    unfold Mv.right mvRight
    rw [e1, e2, e3]; rfl
  rcases ms_way l i hi with ⟨h1, hr⟩ | ⟨h1, h3, hr⟩ | ⟨h1, j, h3, x, hj, hx, h4, hr⟩ | ⟨h1, j, h3, x, hj, hx, h4, hr⟩
  · cases e1 : isVni (l[i]).vni
    · exact .vni e1 hr
    cases e2 : isMac (l[i]).mac
    · exact .mac e1 e2 hr
    cases e3 : isTime (l[i]).tm
    · exact .time e1 e2 e3 hr
    · rw [hw _ e1 e2 e3] at h1; cases h1
  · obtain ⟨e1, e2, e3⟩ := hv _ h1
    exact .first e1 e2 e3 h3 hr
  · obtain ⟨e1, e2, e3⟩ := hv _ h1
    exact .less e1 e2 e3 j h3 x hj hx h4 hr
  · obtain ⟨e1, e2, e3⟩ := hv _ h1
    exact .more e1 e2 e3 j h3 x hj hx h4 hr
set_option maxRecDepth 100000 in
set_option maxHeartbeats 4000000 in
theorem implWentRight_any (l : List Mv) (v : Value) (w : World) (h : MvsAt w v l) (hn : l.length ≤ 1048576) :
    Calls Tryz.prog 121 #[v] w (MrPost l w) := by
  obtain ⟨a, cap, rfl, h⟩ := h
  rw [List.length_map] at *
  have HH := Lib.hid h
  clear h
  have HW := Lib.hid (fun i hi => mr_i l i hi)
  have HY := Lib.hid (fun (h : l.length ≤ 30) hy => mvsOk_yes h hy)
  have HL := Lib.hid (fun (h : 30 < l.length) => mvsOk_long h)
  unfold MrPost
  obtain ⟨n, hnn⟩ : ∃ n, n = l.length := ⟨_, rfl⟩
  rw [← hnn] at hn HY HL ⊢
  have HN := Lib.hid hnn
  clear hnn
  by_cases hlong : 30 < n
  · have HR := Lib.hid (HL.out hlong)
    have hg : (30 : Int) < (n : Int) := by omega
    go_enter Tryz.func121, Tryz.ntmps121
    go_wp2_with fail
    go_ret
    exact ⟨bool_ret HR.out.symm, Below.refl _ _⟩
  have hg : ¬ (30 : Int) < (n : Int) := by omega
  clear HL
  go_enter Tryz.func121, Tryz.ntmps121
  go_wp2_with fail
  go_loopw [10, 3, 4] (fun u _ _ wr => ∃ i : Nat, i ≤ n ∧ u = .int .i64 (i : Int) ∧ Hid (∀ k, k < i → okAtM l k = true) ∧ Hid (Below w.heap.size w wr)) (fun u _ _ _ => n - (intOf u).toNat)
  case atStart => exact ⟨0, Nat.zero_le _, rfl, Lib.hid (fun k hk => by omega), Lib.hid (Below.refl _ _)⟩
  case round =>
    obtain ⟨i, hi, rfl, HK, HB⟩ := hrel
    by_cases hlt : i < n
    · have hne : l.map Mv.cl ≠ [] := fun e => by
        have := congrArg List.length e
        rw [List.length_map, ← HN.out] at this
        simp at this; omega
      obtain ⟨b, off, ha, hb, HE⟩ := HH.out hne
      subst ha
      have hir : i < l.length := by rw [← HN.out]; exact hlt
      have hl1 : (i : Int) < n := by omega
      have hway := HW.out i hir
      obtain ⟨p0, p1, p2⟩ := (Elems.below HE HB.out hb).mv i hir
      have HP1 := Lib.hid (implVni_any (l[i]).vni)
      have HP2 := Lib.hid (implMac_any (l[i]).mac)
      have HP3 := Lib.hid (implTime_any (l[i]).tm)
      have HEl := Lib.hid (fun (W' : World) (hS : Below w.heap.size w W') => (Elems.below HE hS hb))
      have S0 : Blk (wr.alloc (.cells (l[i]).ar 89)) wr.heap.size 89 (l[i]).ar ∧ Below w.heap.size w (wr.alloc (.cells (l[i]).ar 89)) := ⟨Blk.new _ _ _, HB.out.alloc HB.out.size _⟩
      unfold Mv.ar at S0
      clear HE HW
      generalize l[i] = y at *
      go_upto_region 6 with fail
      generalize (wr.alloc (.cells #[.int .i64 y.vni, .int .i64 y.mac, .int .i64 y.tm] 89)) = W6 at S0 ⊢
      clear p0 p1 p2
      have hc := S0.1.cell
      rcases hway with ⟨h1, hr⟩ | ⟨h1, h2, hr⟩ | ⟨h1, h2, h0, hr⟩ | ⟨h1, h2, h0, h3, hr⟩ | ⟨h1, h2, h0, j, h3, x, hj, hx, h4, hr⟩ | ⟨h1, h2, h0, j, h3, x, hj, hx, h4, hr⟩
      · rw [h1] at HP1
        clear h1
        go_wp2_with (first | (go_at_call 90; refine (HP1.out _).mono ?_; rintro e w1 ⟨rfl, rfl⟩) | (go_at_call 173; refine (HP2.out _).mono ?_; rintro e w1 ⟨rfl, rfl⟩) | (go_at_call 57; refine (HP3.out _).mono ?_; rintro e w1 ⟨rfl, rfl⟩))
        go_ret
        exact ⟨bool_ret hr.out.symm, S0.2⟩
      · rw [h1] at HP1
        rw [h2] at HP2
        clear h1 h2
        go_wp2_with (first | (go_at_call 90; refine (HP1.out _).mono ?_; rintro e w1 ⟨rfl, rfl⟩) | (go_at_call 173; refine (HP2.out _).mono ?_; rintro e w1 ⟨rfl, rfl⟩) | (go_at_call 57; refine (HP3.out _).mono ?_; rintro e w1 ⟨rfl, rfl⟩))
        go_ret
        exact ⟨bool_ret hr.out.symm, S0.2⟩
      · rw [h1] at HP1
        rw [h2] at HP2
        rw [h0] at HP3
        clear h1 h2 h0
        go_wp2_with (first | (go_at_call 90; refine (HP1.out _).mono ?_; rintro e w1 ⟨rfl, rfl⟩) | (go_at_call 173; refine (HP2.out _).mono ?_; rintro e w1 ⟨rfl, rfl⟩) | (go_at_call 57; refine (HP3.out _).mono ?_; rintro e w1 ⟨rfl, rfl⟩))
        go_ret
        exact ⟨bool_ret hr.out.symm, S0.2⟩
      · rw [h1] at HP1
        rw [h2] at HP2
        rw [h0] at HP3
        clear h1 h2 h0
        subst h3
        go_wp2_with (first | (go_at_call 90; refine (HP1.out _).mono ?_; rintro e w1 ⟨rfl, rfl⟩) | (go_at_call 173; refine (HP2.out _).mono ?_; rintro e w1 ⟨rfl, rfl⟩) | (go_at_call 57; refine (HP3.out _).mono ?_; rintro e w1 ⟨rfl, rfl⟩; clear hc))
        replace S0 := (show Blk W6.drew _ _ _ ∧ Below w.heap.size w W6.drew from ⟨S0.1.drew, S0.2.drew⟩)
        refine wp_region_held_drew (S := fun W' => Blk W' wr.heap.size 89 #[.int .i64 y.vni, .int .i64 y.mac, .int .i64 y.tm] ∧ Below w.heap.size w W') (by kernel_rfl) S0 (fun hHeld => ?_)
        clear hHeld
        refine wpAnyH_take (i := 0) (oi := { dst := some 31, op := Op.move (Operand.tmp 3), type := 3, pos := "l08_moves.go:63", after := #[], guard := none }) (v := ?vvc1) rfl (by kernel_rfl) (by kernel_rfl) (by kernel_rfl) (fun _ _ _ h => h) (Or.inl ⟨by rfl, ?hyc1⟩) S0 ?restc1
        case hyc1 => (intro w hSw; go_simp <;> with_reducible rfl)
        try simp only [Act.put, List.setIfInBounds_toArray, List.set_cons_zero, List.set_cons_succ]
        refine wpAnyH_take (i := 1) (oi := { dst := some 32, op := Op.binOp BinOp.gtr 3 (Operand.tmp 31) (Operand.const (Value.int IntKind.i64 0)) 3, type := 4, pos := "l08_moves.go:63", after := #[{ on := 0, ground := Ground.data }], guard := none }) (v := ?vvc2) rfl (by kernel_rfl) (by kernel_rfl) (by kernel_rfl) (fun _ _ _ h => h) (Or.inl ⟨by rfl, ?hyc2⟩) S0 ?restc2
        case hyc2 => (intro w hSw; go_simp <;> with_reducible rfl)
        try simp only [Act.put, List.setIfInBounds_toArray, List.set_cons_zero, List.set_cons_succ]
        refine wpAnyH_take (i := 2) (oi := { dst := some 33, op := Op.move (Operand.tmp 32), type := 4, pos := "l08_moves.go:63", after := #[{ on := 1, ground := Ground.data }], guard := none }) (v := ?vvc3) rfl (by kernel_rfl) (by kernel_rfl) (by kernel_rfl) (fun _ _ _ h => h) (Or.inl ⟨by rfl, ?hyc3⟩) S0 ?restc3
        case hyc3 => (intro w hSw; go_simp <;> with_reducible rfl)
        try simp only [Act.put, List.setIfInBounds_toArray, List.set_cons_zero, List.set_cons_succ]
        refine wpAnyH_take (i := 3) (oi := { dst := some 34, op := Op.fieldAddr 89 (Operand.tmp 4) 2, type := 0, pos := "l08_moves.go:63", after := #[{ on := 2, ground := Ground.guard }], guard := some (2, true) }) (v := undef) rfl (by kernel_rfl) (by kernel_rfl) (by kernel_rfl) (fun _ _ _ h => h) (Or.inr ⟨by rfl, rfl⟩) S0 ?_
        try simp only [Act.put, List.setIfInBounds_toArray, List.set_cons_zero, List.set_cons_succ]
        refine wpAnyH_take (i := 4) (oi := { dst := some 35, op := Op.load 2 (Operand.tmp 34), type := 2, pos := "l08_moves.go:63", after := #[{ on := 3, ground := Ground.data }, { on := 2, ground := Ground.guard }], guard := some (2, true) }) (v := undef) rfl (by kernel_rfl) (by kernel_rfl) (by kernel_rfl) (fun _ _ _ h => h) (Or.inr ⟨by rfl, rfl⟩) S0 ?_
        try simp only [Act.put, List.setIfInBounds_toArray, List.set_cons_zero, List.set_cons_succ]
        refine wpAnyH_take (i := 5) (oi := { dst := some 36, op := Op.move (Operand.tmp 0), type := 35, pos := "l08_moves.go:63", after := #[{ on := 2, ground := Ground.guard }], guard := some (2, true) }) (v := undef) rfl (by kernel_rfl) (by kernel_rfl) (by kernel_rfl) (fun _ _ _ h => h) (Or.inr ⟨by rfl, rfl⟩) S0 ?_
        try simp only [Act.put, List.setIfInBounds_toArray, List.set_cons_zero, List.set_cons_succ]
        refine wpAnyH_take (i := 6) (oi := { dst := some 37, op := Op.move (Operand.tmp 3), type := 3, pos := "l08_moves.go:63", after := #[{ on := 2, ground := Ground.guard }], guard := some (2, true) }) (v := undef) rfl (by kernel_rfl) (by kernel_rfl) (by kernel_rfl) (fun _ _ _ h => h) (Or.inr ⟨by rfl, rfl⟩) S0 ?_
        try simp only [Act.put, List.setIfInBounds_toArray, List.set_cons_zero, List.set_cons_succ]
        refine wpAnyH_take (i := 7) (oi := { dst := some 38, op := Op.binOp BinOp.sub 3 (Operand.tmp 37) (Operand.const (Value.int IntKind.i64 1)) 3, type := 3, pos := "l08_moves.go:63", after := #[{ on := 6, ground := Ground.data }, { on := 2, ground := Ground.guard }], guard := some (2, true) }) (v := undef) rfl (by kernel_rfl) (by kernel_rfl) (by kernel_rfl) (fun _ _ _ h => h) (Or.inr ⟨by rfl, rfl⟩) S0 ?_
        try simp only [Act.put, List.setIfInBounds_toArray, List.set_cons_zero, List.set_cons_succ]
        refine wpAnyH_take (i := 8) (oi := { dst := some 39, op := Op.indexAddr 35 (Operand.tmp 36) (Operand.tmp 38), type := 0, pos := "l08_moves.go:63", after := #[{ on := 5, ground := Ground.data }, { on := 7, ground := Ground.data }, { on := 2, ground := Ground.guard }], guard := some (2, true) }) (v := undef) rfl (by kernel_rfl) (by kernel_rfl) (by kernel_rfl) (fun _ _ _ h => h) (Or.inr ⟨by rfl, rfl⟩) S0 ?_
        try simp only [Act.put, List.setIfInBounds_toArray, List.set_cons_zero, List.set_cons_succ]
        refine wpAnyH_take (i := 9) (oi := { dst := some 40, op := Op.fieldAddr 89 (Operand.tmp 39) 2, type := 0, pos := "l08_moves.go:63", after := #[{ on := 8, ground := Ground.data }, { on := 2, ground := Ground.guard }], guard := some (2, true) }) (v := undef) rfl (by kernel_rfl) (by kernel_rfl) (by kernel_rfl) (fun _ _ _ h => h) (Or.inr ⟨by rfl, rfl⟩) S0 ?_
        try simp only [Act.put, List.setIfInBounds_toArray, List.set_cons_zero, List.set_cons_succ]
        refine wpAnyH_take (i := 10) (oi := { dst := some 41, op := Op.load 2 (Operand.tmp 40), type := 2, pos := "l08_moves.go:63", after := #[{ on := 9, ground := Ground.data }, { on := 2, ground := Ground.guard }], guard := some (2, true) }) (v := undef) rfl (by kernel_rfl) (by kernel_rfl) (by kernel_rfl) (fun _ _ _ h => h) (Or.inr ⟨by rfl, rfl⟩) S0 ?_
        try simp only [Act.put, List.setIfInBounds_toArray, List.set_cons_zero, List.set_cons_succ]
        refine wpAnyH_take (i := 11) (oi := { dst := some 42, op := Op.binOp BinOp.lss 2 (Operand.tmp 35) (Operand.tmp 41) 2, type := 4, pos := "l08_moves.go:63", after := #[{ on := 4, ground := Ground.data }, { on := 10, ground := Ground.data }, { on := 2, ground := Ground.guard }], guard := some (2, true) }) (v := undef) rfl (by kernel_rfl) (by kernel_rfl) (by kernel_rfl) (fun _ _ _ h => h) (Or.inr ⟨by rfl, rfl⟩) S0 ?_
        try simp only [Act.put, List.setIfInBounds_toArray, List.set_cons_zero, List.set_cons_succ]
        refine wpAnyH_take (i := 12) (oi := { dst := some 43, op := Op.pick (Operand.tmp 33) (Operand.tmp 42) (Operand.const (Value.bool false)), type := 4, pos := "l08_moves.go:63", after := #[{ on := 2, ground := Ground.data }, { on := 11, ground := Ground.data }], guard := none }) (v := ?vvc13) rfl (by kernel_rfl) (by kernel_rfl) (by kernel_rfl) (fun _ _ _ h => h) (Or.inl ⟨by rfl, ?hyc13⟩) S0 ?restc13
        case hyc13 => (intro w hSw; go_simp <;> with_reducible rfl)
        try simp only [Act.put, List.setIfInBounds_toArray, List.set_cons_zero, List.set_cons_succ]
        refine wpAnyH_done (by kernel_rfl) ?_ _
        go_wp2_with fail
        go_roundw
        case rel => exact ⟨1, by omega, by simp, Lib.hid (fun k hk => by have e : k = 0 := (by omega); subst e; exact hr.out), Lib.hid S0.2⟩
        case measure => simp [intOf]; omega
      all_goals
        rw [h1] at HP1
        rw [h2] at HP2
        rw [h0] at HP3
        have HEj := Lib.hid (fun (W' : World) (hS : Below w.heap.size w W') => (HEl.out W' hS).mv j hj)
        rw [hx.out] at HEj
        clear h1 h2 h0 hx
        subst h3
        have hj0 : (0 : Int) < (j : Int) + 1 := by omega
        have hj00 : (0 : Int) ≤ (j : Int) + 1 := by omega
        have hjn : j < n := by omega
        have hj1 : IntKind.i64.wrap (j : Int) = (j : Int) := by simp only [IntKind.wrap_i64]; omega
        rw [Int.natCast_add] at *
        go_wp2_with (first | (go_at_call 90; refine (HP1.out _).mono ?_; rintro e w1 ⟨rfl, rfl⟩) | (go_at_call 173; refine (HP2.out _).mono ?_; rintro e w1 ⟨rfl, rfl⟩) | (go_at_call 57; refine (HP3.out _).mono ?_; rintro e w1 ⟨rfl, rfl⟩; clear hc))
        replace S0 := (show Blk W6.drew _ _ _ ∧ Below w.heap.size w W6.drew from ⟨S0.1.drew, S0.2.drew⟩)
      · skip
        refine wp_region_held_drew (S := fun W' => Blk W' wr.heap.size 89 #[.int .i64 y.vni, .int .i64 y.mac, .int .i64 y.tm] ∧ Below w.heap.size w W') (by kernel_rfl) S0 (fun hHeld => ?_)
        clear hHeld
        refine wpAnyH_take (i := 0) (oi := { dst := some 31, op := Op.move (Operand.tmp 3), type := 3, pos := "l08_moves.go:63", after := #[], guard := none }) (v := ?vvd1) rfl (by kernel_rfl) (by kernel_rfl) (by kernel_rfl) (fun _ _ _ h => h) (Or.inl ⟨by rfl, ?hyd1⟩) S0 ?restd1
        case hyd1 => (intro w hSw; have hc := hSw.1.cell; obtain ⟨q0, q1, q2⟩ := HEj.out _ hSw.2;go_simp <;> with_reducible rfl)
        try simp only [Act.put, List.setIfInBounds_toArray, List.set_cons_zero, List.set_cons_succ]
        refine wpAnyH_take (i := 1) (oi := { dst := some 32, op := Op.binOp BinOp.gtr 3 (Operand.tmp 31) (Operand.const (Value.int IntKind.i64 0)) 3, type := 4, pos := "l08_moves.go:63", after := #[{ on := 0, ground := Ground.data }], guard := none }) (v := ?vvd2) rfl (by kernel_rfl) (by kernel_rfl) (by kernel_rfl) (fun _ _ _ h => h) (Or.inl ⟨by rfl, ?hyd2⟩) S0 ?restd2
        case hyd2 => (intro w hSw; have hc := hSw.1.cell; obtain ⟨q0, q1, q2⟩ := HEj.out _ hSw.2;go_simp <;> with_reducible rfl)
        try simp only [Act.put, List.setIfInBounds_toArray, List.set_cons_zero, List.set_cons_succ]
        refine wpAnyH_take (i := 2) (oi := { dst := some 33, op := Op.move (Operand.tmp 32), type := 4, pos := "l08_moves.go:63", after := #[{ on := 1, ground := Ground.data }], guard := none }) (v := ?vvd3) rfl (by kernel_rfl) (by kernel_rfl) (by kernel_rfl) (fun _ _ _ h => h) (Or.inl ⟨by rfl, ?hyd3⟩) S0 ?restd3
        case hyd3 => (intro w hSw; have hc := hSw.1.cell; obtain ⟨q0, q1, q2⟩ := HEj.out _ hSw.2;go_simp <;> with_reducible rfl)
        try simp only [Act.put, List.setIfInBounds_toArray, List.set_cons_zero, List.set_cons_succ]
        refine wpAnyH_take (i := 3) (oi := { dst := some 34, op := Op.fieldAddr 89 (Operand.tmp 4) 2, type := 0, pos := "l08_moves.go:63", after := #[{ on := 2, ground := Ground.guard }], guard := some (2, true) }) (v := ?vvd4) rfl (by kernel_rfl) (by kernel_rfl) (by kernel_rfl) (fun _ _ _ h => h) (Or.inl ⟨by rfl, ?hyd4⟩) S0 ?restd4
        case hyd4 => (intro w hSw; have hc := hSw.1.cell; obtain ⟨q0, q1, q2⟩ := HEj.out _ hSw.2;go_simp <;> with_reducible rfl)
        try simp only [Act.put, List.setIfInBounds_toArray, List.set_cons_zero, List.set_cons_succ]
        refine wpAnyH_take (i := 4) (oi := { dst := some 35, op := Op.load 2 (Operand.tmp 34), type := 2, pos := "l08_moves.go:63", after := #[{ on := 3, ground := Ground.data }, { on := 2, ground := Ground.guard }], guard := some (2, true) }) (v := ?vvd5) rfl (by kernel_rfl) (by kernel_rfl) (by kernel_rfl) (fun _ _ _ h => h) (Or.inl ⟨by rfl, ?hyd5⟩) S0 ?restd5
        case hyd5 => (intro w hSw; have hc := hSw.1.cell; obtain ⟨q0, q1, q2⟩ := HEj.out _ hSw.2;go_simp <;> with_reducible rfl)
        try simp only [Act.put, List.setIfInBounds_toArray, List.set_cons_zero, List.set_cons_succ]
        refine wpAnyH_take (i := 5) (oi := { dst := some 36, op := Op.move (Operand.tmp 0), type := 35, pos := "l08_moves.go:63", after := #[{ on := 2, ground := Ground.guard }], guard := some (2, true) }) (v := ?vvd6) rfl (by kernel_rfl) (by kernel_rfl) (by kernel_rfl) (fun _ _ _ h => h) (Or.inl ⟨by rfl, ?hyd6⟩) S0 ?restd6
        case hyd6 => (intro w hSw; have hc := hSw.1.cell; obtain ⟨q0, q1, q2⟩ := HEj.out _ hSw.2;go_simp <;> with_reducible rfl)
        try simp only [Act.put, List.setIfInBounds_toArray, List.set_cons_zero, List.set_cons_succ]
        refine wpAnyH_take (i := 6) (oi := { dst := some 37, op := Op.move (Operand.tmp 3), type := 3, pos := "l08_moves.go:63", after := #[{ on := 2, ground := Ground.guard }], guard := some (2, true) }) (v := ?vvd7) rfl (by kernel_rfl) (by kernel_rfl) (by kernel_rfl) (fun _ _ _ h => h) (Or.inl ⟨by rfl, ?hyd7⟩) S0 ?restd7
        case hyd7 => (intro w hSw; have hc := hSw.1.cell; obtain ⟨q0, q1, q2⟩ := HEj.out _ hSw.2;go_simp <;> with_reducible rfl)
        try simp only [Act.put, List.setIfInBounds_toArray, List.set_cons_zero, List.set_cons_succ]
        refine wpAnyH_take (i := 7) (oi := { dst := some 38, op := Op.binOp BinOp.sub 3 (Operand.tmp 37) (Operand.const (Value.int IntKind.i64 1)) 3, type := 3, pos := "l08_moves.go:63", after := #[{ on := 6, ground := Ground.data }, { on := 2, ground := Ground.guard }], guard := some (2, true) }) (v := ?vvd8) rfl (by kernel_rfl) (by kernel_rfl) (by kernel_rfl) (fun _ _ _ h => h) (Or.inl ⟨by rfl, ?hyd8⟩) S0 ?restd8
        case hyd8 => (intro w hSw; have hc := hSw.1.cell; obtain ⟨q0, q1, q2⟩ := HEj.out _ hSw.2;go_simp <;> with_reducible rfl)
        try simp only [Act.put, List.setIfInBounds_toArray, List.set_cons_zero, List.set_cons_succ]
        refine wpAnyH_take (i := 8) (oi := { dst := some 39, op := Op.indexAddr 35 (Operand.tmp 36) (Operand.tmp 38), type := 0, pos := "l08_moves.go:63", after := #[{ on := 5, ground := Ground.data }, { on := 7, ground := Ground.data }, { on := 2, ground := Ground.guard }], guard := some (2, true) }) (v := ?vvd9) rfl (by kernel_rfl) (by kernel_rfl) (by kernel_rfl) (fun _ _ _ h => h) (Or.inl ⟨by rfl, ?hyd9⟩) S0 ?restd9
        case hyd9 => (intro w hSw; have hc := hSw.1.cell; obtain ⟨q0, q1, q2⟩ := HEj.out _ hSw.2;go_simp <;> with_reducible rfl)
        try simp only [Act.put, List.setIfInBounds_toArray, List.set_cons_zero, List.set_cons_succ]
        refine wpAnyH_take (i := 9) (oi := { dst := some 40, op := Op.fieldAddr 89 (Operand.tmp 39) 2, type := 0, pos := "l08_moves.go:63", after := #[{ on := 8, ground := Ground.data }, { on := 2, ground := Ground.guard }], guard := some (2, true) }) (v := ?vvd10) rfl (by kernel_rfl) (by kernel_rfl) (by kernel_rfl) (fun _ _ _ h => h) (Or.inl ⟨by rfl, ?hyd10⟩) S0 ?restd10
        case hyd10 => (intro w hSw; have hc := hSw.1.cell; obtain ⟨q0, q1, q2⟩ := HEj.out _ hSw.2;go_simp <;> with_reducible rfl)
        try simp only [Act.put, List.setIfInBounds_toArray, List.set_cons_zero, List.set_cons_succ]
        refine wpAnyH_take (i := 10) (oi := { dst := some 41, op := Op.load 2 (Operand.tmp 40), type := 2, pos := "l08_moves.go:63", after := #[{ on := 9, ground := Ground.data }, { on := 2, ground := Ground.guard }], guard := some (2, true) }) (v := ?vvd11) rfl (by kernel_rfl) (by kernel_rfl) (by kernel_rfl) (fun _ _ _ h => h) (Or.inl ⟨by rfl, ?hyd11⟩) S0 ?restd11
        case hyd11 => (intro w hSw; have hc := hSw.1.cell; obtain ⟨q0, q1, q2⟩ := HEj.out _ hSw.2;go_simp <;> with_reducible rfl)
        try simp only [Act.put, List.setIfInBounds_toArray, List.set_cons_zero, List.set_cons_succ]
        refine wpAnyH_take (i := 11) (oi := { dst := some 42, op := Op.binOp BinOp.lss 2 (Operand.tmp 35) (Operand.tmp 41) 2, type := 4, pos := "l08_moves.go:63", after := #[{ on := 4, ground := Ground.data }, { on := 10, ground := Ground.data }, { on := 2, ground := Ground.guard }], guard := some (2, true) }) (v := ?vvd12) rfl (by kernel_rfl) (by kernel_rfl) (by kernel_rfl) (fun _ _ _ h => h) (Or.inl ⟨by rfl, ?hyd12⟩) S0 ?restd12
        case hyd12 => (intro w hSw; have hc := hSw.1.cell; obtain ⟨q0, q1, q2⟩ := HEj.out _ hSw.2;go_simp <;> with_reducible rfl)
        try simp only [Act.put, List.setIfInBounds_toArray, List.set_cons_zero, List.set_cons_succ]
        refine wpAnyH_take (i := 12) (oi := { dst := some 43, op := Op.pick (Operand.tmp 33) (Operand.tmp 42) (Operand.const (Value.bool false)), type := 4, pos := "l08_moves.go:63", after := #[{ on := 2, ground := Ground.data }, { on := 11, ground := Ground.data }], guard := none }) (v := ?vvd13) rfl (by kernel_rfl) (by kernel_rfl) (by kernel_rfl) (fun _ _ _ h => h) (Or.inl ⟨by rfl, ?hyd13⟩) S0 ?restd13
        case hyd13 => (intro w hSw; have hc := hSw.1.cell; obtain ⟨q0, q1, q2⟩ := HEj.out _ hSw.2;go_simp <;> with_reducible rfl)
        try simp only [Act.put, List.setIfInBounds_toArray, List.set_cons_zero, List.set_cons_succ]
        refine wpAnyH_done (by kernel_rfl) ?_ _
        go_wp2_with fail
        go_roundw
        case rel => exact ⟨j + 1 + 1, by omega, by simp, Lib.hid (fun k hk => by
          by_cases e : k = j + 1
          · subst e; exact hr.out
          · exact HK.out k (by omega)), Lib.hid S0.2⟩
        case measure => simp [intOf]; omega
      · skip
        refine wp_region_held_drew (S := fun W' => Blk W' wr.heap.size 89 #[.int .i64 y.vni, .int .i64 y.mac, .int .i64 y.tm] ∧ Below w.heap.size w W') (by kernel_rfl) S0 (fun hHeld => ?_)
        clear hHeld
        refine wpAnyH_take (i := 0) (oi := { dst := some 31, op := Op.move (Operand.tmp 3), type := 3, pos := "l08_moves.go:63", after := #[], guard := none }) (v := ?vve1) rfl (by kernel_rfl) (by kernel_rfl) (by kernel_rfl) (fun _ _ _ h => h) (Or.inl ⟨by rfl, ?hye1⟩) S0 ?reste1
        case hye1 => (intro w hSw; have hc := hSw.1.cell; obtain ⟨q0, q1, q2⟩ := HEj.out _ hSw.2;go_simp <;> with_reducible rfl)
        try simp only [Act.put, List.setIfInBounds_toArray, List.set_cons_zero, List.set_cons_succ]
        refine wpAnyH_take (i := 1) (oi := { dst := some 32, op := Op.binOp BinOp.gtr 3 (Operand.tmp 31) (Operand.const (Value.int IntKind.i64 0)) 3, type := 4, pos := "l08_moves.go:63", after := #[{ on := 0, ground := Ground.data }], guard := none }) (v := ?vve2) rfl (by kernel_rfl) (by kernel_rfl) (by kernel_rfl) (fun _ _ _ h => h) (Or.inl ⟨by rfl, ?hye2⟩) S0 ?reste2
        case hye2 => (intro w hSw; have hc := hSw.1.cell; obtain ⟨q0, q1, q2⟩ := HEj.out _ hSw.2;go_simp <;> with_reducible rfl)
        try simp only [Act.put, List.setIfInBounds_toArray, List.set_cons_zero, List.set_cons_succ]
        refine wpAnyH_take (i := 2) (oi := { dst := some 33, op := Op.move (Operand.tmp 32), type := 4, pos := "l08_moves.go:63", after := #[{ on := 1, ground := Ground.data }], guard := none }) (v := ?vve3) rfl (by kernel_rfl) (by kernel_rfl) (by kernel_rfl) (fun _ _ _ h => h) (Or.inl ⟨by rfl, ?hye3⟩) S0 ?reste3
        case hye3 => (intro w hSw; have hc := hSw.1.cell; obtain ⟨q0, q1, q2⟩ := HEj.out _ hSw.2;go_simp <;> with_reducible rfl)
        try simp only [Act.put, List.setIfInBounds_toArray, List.set_cons_zero, List.set_cons_succ]
        refine wpAnyH_take (i := 3) (oi := { dst := some 34, op := Op.fieldAddr 89 (Operand.tmp 4) 2, type := 0, pos := "l08_moves.go:63", after := #[{ on := 2, ground := Ground.guard }], guard := some (2, true) }) (v := ?vve4) rfl (by kernel_rfl) (by kernel_rfl) (by kernel_rfl) (fun _ _ _ h => h) (Or.inl ⟨by rfl, ?hye4⟩) S0 ?reste4
        case hye4 => (intro w hSw; have hc := hSw.1.cell; obtain ⟨q0, q1, q2⟩ := HEj.out _ hSw.2;go_simp <;> with_reducible rfl)
        try simp only [Act.put, List.setIfInBounds_toArray, List.set_cons_zero, List.set_cons_succ]
        refine wpAnyH_take (i := 4) (oi := { dst := some 35, op := Op.load 2 (Operand.tmp 34), type := 2, pos := "l08_moves.go:63", after := #[{ on := 3, ground := Ground.data }, { on := 2, ground := Ground.guard }], guard := some (2, true) }) (v := ?vve5) rfl (by kernel_rfl) (by kernel_rfl) (by kernel_rfl) (fun _ _ _ h => h) (Or.inl ⟨by rfl, ?hye5⟩) S0 ?reste5
        case hye5 => (intro w hSw; have hc := hSw.1.cell; obtain ⟨q0, q1, q2⟩ := HEj.out _ hSw.2;go_simp <;> with_reducible rfl)
        try simp only [Act.put, List.setIfInBounds_toArray, List.set_cons_zero, List.set_cons_succ]
        refine wpAnyH_take (i := 5) (oi := { dst := some 36, op := Op.move (Operand.tmp 0), type := 35, pos := "l08_moves.go:63", after := #[{ on := 2, ground := Ground.guard }], guard := some (2, true) }) (v := ?vve6) rfl (by kernel_rfl) (by kernel_rfl) (by kernel_rfl) (fun _ _ _ h => h) (Or.inl ⟨by rfl, ?hye6⟩) S0 ?reste6
        case hye6 => (intro w hSw; have hc := hSw.1.cell; obtain ⟨q0, q1, q2⟩ := HEj.out _ hSw.2;go_simp <;> with_reducible rfl)
        try simp only [Act.put, List.setIfInBounds_toArray, List.set_cons_zero, List.set_cons_succ]
        refine wpAnyH_take (i := 6) (oi := { dst := some 37, op := Op.move (Operand.tmp 3), type := 3, pos := "l08_moves.go:63", after := #[{ on := 2, ground := Ground.guard }], guard := some (2, true) }) (v := ?vve7) rfl (by kernel_rfl) (by kernel_rfl) (by kernel_rfl) (fun _ _ _ h => h) (Or.inl ⟨by rfl, ?hye7⟩) S0 ?reste7
        case hye7 => (intro w hSw; have hc := hSw.1.cell; obtain ⟨q0, q1, q2⟩ := HEj.out _ hSw.2;go_simp <;> with_reducible rfl)
        try simp only [Act.put, List.setIfInBounds_toArray, List.set_cons_zero, List.set_cons_succ]
        refine wpAnyH_take (i := 7) (oi := { dst := some 38, op := Op.binOp BinOp.sub 3 (Operand.tmp 37) (Operand.const (Value.int IntKind.i64 1)) 3, type := 3, pos := "l08_moves.go:63", after := #[{ on := 6, ground := Ground.data }, { on := 2, ground := Ground.guard }], guard := some (2, true) }) (v := ?vve8) rfl (by kernel_rfl) (by kernel_rfl) (by kernel_rfl) (fun _ _ _ h => h) (Or.inl ⟨by rfl, ?hye8⟩) S0 ?reste8
        case hye8 => (intro w hSw; have hc := hSw.1.cell; obtain ⟨q0, q1, q2⟩ := HEj.out _ hSw.2;go_simp <;> with_reducible rfl)
        try simp only [Act.put, List.setIfInBounds_toArray, List.set_cons_zero, List.set_cons_succ]
        refine wpAnyH_take (i := 8) (oi := { dst := some 39, op := Op.indexAddr 35 (Operand.tmp 36) (Operand.tmp 38), type := 0, pos := "l08_moves.go:63", after := #[{ on := 5, ground := Ground.data }, { on := 7, ground := Ground.data }, { on := 2, ground := Ground.guard }], guard := some (2, true) }) (v := ?vve9) rfl (by kernel_rfl) (by kernel_rfl) (by kernel_rfl) (fun _ _ _ h => h) (Or.inl ⟨by rfl, ?hye9⟩) S0 ?reste9
        case hye9 => (intro w hSw; have hc := hSw.1.cell; obtain ⟨q0, q1, q2⟩ := HEj.out _ hSw.2;go_simp <;> with_reducible rfl)
        try simp only [Act.put, List.setIfInBounds_toArray, List.set_cons_zero, List.set_cons_succ]
        refine wpAnyH_take (i := 9) (oi := { dst := some 40, op := Op.fieldAddr 89 (Operand.tmp 39) 2, type := 0, pos := "l08_moves.go:63", after := #[{ on := 8, ground := Ground.data }, { on := 2, ground := Ground.guard }], guard := some (2, true) }) (v := ?vve10) rfl (by kernel_rfl) (by kernel_rfl) (by kernel_rfl) (fun _ _ _ h => h) (Or.inl ⟨by rfl, ?hye10⟩) S0 ?reste10
        case hye10 => (intro w hSw; have hc := hSw.1.cell; obtain ⟨q0, q1, q2⟩ := HEj.out _ hSw.2;go_simp <;> with_reducible rfl)
        try simp only [Act.put, List.setIfInBounds_toArray, List.set_cons_zero, List.set_cons_succ]
        refine wpAnyH_take (i := 10) (oi := { dst := some 41, op := Op.load 2 (Operand.tmp 40), type := 2, pos := "l08_moves.go:63", after := #[{ on := 9, ground := Ground.data }, { on := 2, ground := Ground.guard }], guard := some (2, true) }) (v := ?vve11) rfl (by kernel_rfl) (by kernel_rfl) (by kernel_rfl) (fun _ _ _ h => h) (Or.inl ⟨by rfl, ?hye11⟩) S0 ?reste11
        case hye11 => (intro w hSw; have hc := hSw.1.cell; obtain ⟨q0, q1, q2⟩ := HEj.out _ hSw.2;go_simp <;> with_reducible rfl)
        try simp only [Act.put, List.setIfInBounds_toArray, List.set_cons_zero, List.set_cons_succ]
        refine wpAnyH_take (i := 11) (oi := { dst := some 42, op := Op.binOp BinOp.lss 2 (Operand.tmp 35) (Operand.tmp 41) 2, type := 4, pos := "l08_moves.go:63", after := #[{ on := 4, ground := Ground.data }, { on := 10, ground := Ground.data }, { on := 2, ground := Ground.guard }], guard := some (2, true) }) (v := ?vve12) rfl (by kernel_rfl) (by kernel_rfl) (by kernel_rfl) (fun _ _ _ h => h) (Or.inl ⟨by rfl, ?hye12⟩) S0 ?reste12
        case hye12 => (intro w hSw; have hc := hSw.1.cell; obtain ⟨q0, q1, q2⟩ := HEj.out _ hSw.2;go_simp <;> with_reducible rfl)
        try simp only [Act.put, List.setIfInBounds_toArray, List.set_cons_zero, List.set_cons_succ]
        refine wpAnyH_take (i := 12) (oi := { dst := some 43, op := Op.pick (Operand.tmp 33) (Operand.tmp 42) (Operand.const (Value.bool false)), type := 4, pos := "l08_moves.go:63", after := #[{ on := 2, ground := Ground.data }, { on := 11, ground := Ground.data }], guard := none }) (v := ?vve13) rfl (by kernel_rfl) (by kernel_rfl) (by kernel_rfl) (fun _ _ _ h => h) (Or.inl ⟨by rfl, ?hye13⟩) S0 ?reste13
        case hye13 => (intro w hSw; have hc := hSw.1.cell; obtain ⟨q0, q1, q2⟩ := HEj.out _ hSw.2;go_simp <;> with_reducible rfl)
        try simp only [Act.put, List.setIfInBounds_toArray, List.set_cons_zero, List.set_cons_succ]
        refine wpAnyH_done (by kernel_rfl) ?_ _
        go_wp2_with fail
        go_ret
        exact ⟨bool_ret hr.out.symm, S0.2⟩
    · have : i = n := by omega
      subst this
      have HR := Lib.hid (HY.out (by omega) (fun k hk => HK.out k (by have := HN.out; omega)))
      go_wp2_with fail
      go_ret
      exact ⟨bool_ret HR.out.symm, HB.out⟩
end Go.Proofs.YtglealihdkecpaaGreat
