/- slices.insertionSortCmpFunc, pdqsortCmpFunc, SortFunc at a short row of names. -/
import Derived.Test.YtmkoppbbenombaaNmM
import Derived.Deep.CutRange
namespace Go.Proofs.Ytmkoppbbenombaa
open Go.RowKit
abbrev o7c062_0 : Oper := { dst := some 18, op := Op.move (Operand.tmp 9), type := 3, pos := "zsortanyfunc.go:12", after := #[], guard := none }
abbrev o7c062_1 : Oper := { dst := some 19, op := Op.move (Operand.tmp 1), type := 3, pos := "zsortanyfunc.go:12", after := #[], guard := none }
abbrev o7c062_2 : Oper := { dst := some 20, op := Op.binOp BinOp.gtr 3 (Operand.tmp 18) (Operand.tmp 19) 3, type := 4, pos := "zsortanyfunc.go:12", after := #[{ on := 0, ground := Ground.data }, { on := 1, ground := Ground.data }], guard := none }
abbrev o7c062_3 : Oper := { dst := some 21, op := Op.move (Operand.tmp 20), type := 4, pos := "zsortanyfunc.go:12", after := #[{ on := 2, ground := Ground.data }], guard := none }
abbrev o7c062_4 : Oper := { dst := some 22, op := Op.move (Operand.tmp 3), type := 129, pos := "zsortanyfunc.go:12", after := #[{ on := 3, ground := Ground.guard }], guard := some (3, true) }
abbrev o7c062_5 : Oper := { dst := some 23, op := Op.move (Operand.tmp 0), type := 130, pos := "zsortanyfunc.go:12", after := #[{ on := 3, ground := Ground.guard }], guard := some (3, true) }
abbrev o7c062_6 : Oper := { dst := some 24, op := Op.move (Operand.tmp 9), type := 3, pos := "zsortanyfunc.go:12", after := #[{ on := 3, ground := Ground.guard }], guard := some (3, true) }
abbrev o7c062_7 : Oper := { dst := some 25, op := Op.indexAddr 130 (Operand.tmp 23) (Operand.tmp 24), type := 0, pos := "zsortanyfunc.go:12", after := #[{ on := 5, ground := Ground.data }, { on := 6, ground := Ground.data }, { on := 3, ground := Ground.guard }], guard := some (3, true) }
abbrev o7c062_8 : Oper := { dst := some 26, op := Op.load 106 (Operand.tmp 25), type := 106, pos := "zsortanyfunc.go:12", after := #[{ on := 7, ground := Ground.data }, { on := 3, ground := Ground.guard }], guard := some (3, true) }
abbrev o7c062_9 : Oper := { dst := some 27, op := Op.move (Operand.tmp 0), type := 130, pos := "zsortanyfunc.go:12", after := #[{ on := 3, ground := Ground.guard }], guard := some (3, true) }
abbrev o7c062_10 : Oper := { dst := some 28, op := Op.move (Operand.tmp 9), type := 3, pos := "zsortanyfunc.go:12", after := #[{ on := 3, ground := Ground.guard }], guard := some (3, true) }
abbrev o7c062_11 : Oper := { dst := some 29, op := Op.binOp BinOp.sub 3 (Operand.tmp 28) (Operand.const (Value.int IntKind.i64 1)) 3, type := 3, pos := "zsortanyfunc.go:12", after := #[{ on := 10, ground := Ground.data }, { on := 3, ground := Ground.guard }], guard := some (3, true) }
abbrev o7c062_12 : Oper := { dst := some 30, op := Op.indexAddr 130 (Operand.tmp 27) (Operand.tmp 29), type := 0, pos := "zsortanyfunc.go:12", after := #[{ on := 9, ground := Ground.data }, { on := 11, ground := Ground.data }, { on := 3, ground := Ground.guard }], guard := some (3, true) }
abbrev o7c062_13 : Oper := { dst := some 31, op := Op.load 106 (Operand.tmp 30), type := 106, pos := "zsortanyfunc.go:12", after := #[{ on := 12, ground := Ground.data }, { on := 3, ground := Ground.guard }], guard := some (3, true) }
abbrev o7c062_14 : Oper := { dst := some 32, op := Op.call { callee := Callee.value (Operand.tmp 22), args := #[Operand.tmp 26, Operand.tmp 31], argTypes := #[106, 106] }, type := 3, pos := "zsortanyfunc.go:12", after := #[{ on := 4, ground := Ground.data }, { on := 8, ground := Ground.data }, { on := 13, ground := Ground.data }, { on := 3, ground := Ground.chain }, { on := 3, ground := Ground.guard }], guard := some (3, true) }
abbrev o7c062_15 : Oper := { dst := some 33, op := Op.binOp BinOp.lss 3 (Operand.tmp 32) (Operand.const (Value.int IntKind.i64 0)) 3, type := 4, pos := "zsortanyfunc.go:12", after := #[{ on := 14, ground := Ground.data }, { on := 3, ground := Ground.guard }], guard := some (3, true) }
abbrev o7c062_16 : Oper := { dst := some 34, op := Op.pick (Operand.tmp 21) (Operand.tmp 33) (Operand.const (Value.bool false)), type := 4, pos := "zsortanyfunc.go:12", after := #[{ on := 3, ground := Ground.data }, { on := 15, ground := Ground.data }], guard := none }
abbrev o7c062_17 : Oper := { dst := some 46, op := Op.load 106 (Operand.tmp 45), type := 106, pos := "zsortanyfunc.go:13", after := #[{ on := 8, ground := Ground.data }], guard := none }
abbrev o7c062_18 : Oper := { dst := some 50, op := Op.load 106 (Operand.tmp 49), type := 106, pos := "zsortanyfunc.go:13", after := #[{ on := 12, ground := Ground.data }], guard := none }
abbrev o7c062_19 : Oper := { dst := none, op := Op.store 106 (Operand.tmp 51) (Operand.tmp 46), type := 0, pos := "zsortanyfunc.go:13", after := #[{ on := 14, ground := Ground.data }, { on := 9, ground := Ground.data }, { on := 0, ground := Ground.phase }, { on := 1, ground := Ground.phase }, { on := 2, ground := Ground.textOnly Departure.lateStores }, { on := 3, ground := Ground.textOnly Departure.lateStores }, { on := 4, ground := Ground.textOnly Departure.lateStores }, { on := 5, ground := Ground.phase }, { on := 6, ground := Ground.phase }, { on := 7, ground := Ground.phase }, { on := 8, ground := Ground.phase }, { on := 9, ground := Ground.phase }, { on := 10, ground := Ground.textOnly Departure.lateStores }, { on := 11, ground := Ground.textOnly Departure.lateStores }, { on := 12, ground := Ground.textOnly Departure.lateStoresUnsure }, { on := 13, ground := Ground.phase }], guard := none }
abbrev o7c062_20 : Oper := { dst := none, op := Op.store 106 (Operand.tmp 52) (Operand.tmp 50), type := 0, pos := "zsortanyfunc.go:13", after := #[{ on := 16, ground := Ground.data }, { on := 13, ground := Ground.data }, { on := 15, ground := Ground.chain }, { on := 0, ground := Ground.phase }, { on := 1, ground := Ground.phase }, { on := 2, ground := Ground.phase }, { on := 3, ground := Ground.phase }, { on := 4, ground := Ground.phase }, { on := 5, ground := Ground.phase }, { on := 6, ground := Ground.phase }, { on := 7, ground := Ground.phase }, { on := 8, ground := Ground.phase }, { on := 9, ground := Ground.phase }, { on := 10, ground := Ground.phase }, { on := 11, ground := Ground.phase }, { on := 12, ground := Ground.phase }, { on := 13, ground := Ground.phase }, { on := 14, ground := Ground.phase }, { on := 15, ground := Ground.phase }], guard := none }

theorem grown_below {W wr w1 : World} {g : Nat} (h : W.grownBy wr (some g)) (hb : Below wr.heap.size wr w1) : W.grownBy w1 (some g) := grownTrans h (below_grown' hb)
theorem grown_drew {W wr : World} {g : Nat} (h : W.grownBy wr (some g)) : W.grownBy wr.drew (some g) := ⟨h.os, h.tape, h.output, h.size, h.block⟩
def InsPost (B g cap n : Nat) (s0 : Nat → Nm) (w : World) (e : Ending) (w' : World) : Prop :=
  (∃ v, e = .returned v) ∧ ∃ s, NmRow w' B g cap n s ∧ UpN n s ∧ SetN n s0 s ∧ w.grownBy w' (some g)
set_option maxRecDepth 100000 in
set_option maxHeartbeats 8000000 in
theorem insSort_any (B g cap n : Nat) (s0 : Nat → Nm) (w : World) (h : NmRow w B g cap n s0) (hn : n ≤ 12) (hS : SetN n s0 s0) :
    Calls Try.prog 162 #[.slice (some ⟨g, 0, none⟩) n cap, .int .i64 0, .int .i64 (n : Int), .func (.func 127) #[] #[]] w (InsPost B g cap n s0 w) := by
  have HR0 := Lib.hid h
  have HS0 := Lib.hid hS
  have HU0 : Hid (UpN 1 s0) := Lib.hid (fun a b hab hb => by omega)
  have HG0 : Hid (w.grownBy w (some g)) := Lib.hid (World.grownBy.refl _ _)
  clear h hS
  unfold InsPost
  go_enter Try.func162, Try.ntmps162
  go_wp2_with fail
  go_loopw [8, 9] (fun u _ wr => ∃ (i : Nat) (s : Nat → Nm), i ≤ n + 1 ∧ 1 ≤ i ∧ u = .int .i64 (i : Int) ∧ Hid (NmRow wr B g cap n s) ∧ Hid (UpN i s) ∧ Hid (SetN n s0 s) ∧ Hid (w.grownBy wr (some g))) (fun u _ _ => n + 1 - (intOf u).toNat)
  case atStart => exact ⟨1, s0, by omega, by omega, rfl, HR0, HU0, HS0, HG0⟩
  case round =>
    clear HR0 HU0 HS0 HG0
    obtain ⟨i, s, hi, hi1, rfl, HR, HU, HS, HG⟩ := hrel
    by_cases hlt : i < n
    · have hl1 : (i : Int) < n := by omega
      have HM : Hid (MidN i i s) := Lib.hid HU.out.mid
      go_wp2_with fail
      go_loopw [9] (fun u wr => ∃ (j : Nat) (s : Nat → Nm), j ≤ i ∧ u = .int .i64 (j : Int) ∧ Hid (NmRow wr B g cap n s) ∧ Hid (MidN i j s) ∧ Hid (SetN n s0 s) ∧ Hid (w.grownBy wr (some g))) (fun u _ => (intOf u).toNat)
      case atStart => exact ⟨i, s, Nat.le_refl _, rfl, HR, HM, HS, HG⟩
      case round =>
        clear HR HM HS HG HU
        obtain ⟨j, t, hj, rfl, HR, HM, HS, HG⟩ := hrel
        cases j with
        | zero =>
          have HU2 := Lib.hid HM.out.zero
          have S0 := And.intro HR.out.drew (grown_drew HG.out)
          go_wp2_with fail
          refine wp_region_held_drew (S := fun W' => NmRow W' B g cap n t ∧ w.grownBy W' (some g)) (by kernel_rfl) S0 (fun hHeld => ?_)
          clear hHeld
          refine wpAnyH_take (i := 0) (oi := o7c062_0) (v := ?vva1) rfl (by kernel_rfl) (by kernel_rfl) (by kernel_rfl) (fun _ _ _ h => h) (Or.inl ⟨by rfl, ?hya1⟩) S0 ?resta1
          case hya1 => (intro w hSw; go_simp <;> with_reducible rfl)
          try simp only [Act.put, List.setIfInBounds_toArray, List.set_cons_zero, List.set_cons_succ]
          refine wpAnyH_take (i := 1) (oi := o7c062_1) (v := ?vva2) rfl (by kernel_rfl) (by kernel_rfl) (by kernel_rfl) (fun _ _ _ h => h) (Or.inl ⟨by rfl, ?hya2⟩) S0 ?resta2
          case hya2 => (intro w hSw; go_simp <;> with_reducible rfl)
          try simp only [Act.put, List.setIfInBounds_toArray, List.set_cons_zero, List.set_cons_succ]
          refine wpAnyH_take (i := 2) (oi := o7c062_2) (v := ?vva3) rfl (by kernel_rfl) (by kernel_rfl) (by kernel_rfl) (fun _ _ _ h => h) (Or.inl ⟨by rfl, ?hya3⟩) S0 ?resta3
          case hya3 => (intro w hSw; go_simp <;> with_reducible rfl)
          try simp only [Act.put, List.setIfInBounds_toArray, List.set_cons_zero, List.set_cons_succ]
          refine wpAnyH_take (i := 3) (oi := o7c062_3) (v := ?vva4) rfl (by kernel_rfl) (by kernel_rfl) (by kernel_rfl) (fun _ _ _ h => h) (Or.inl ⟨by rfl, ?hya4⟩) S0 ?resta4
          case hya4 => (intro w hSw; go_simp <;> with_reducible rfl)
          try simp only [Act.put, List.setIfInBounds_toArray, List.set_cons_zero, List.set_cons_succ]
          refine wpAnyH_take (i := 4) (oi := o7c062_4) (v := undef) rfl (by kernel_rfl) (by kernel_rfl) (by kernel_rfl) (fun _ _ _ h => h) (Or.inr ⟨by rfl, rfl⟩) S0 ?_
          try simp only [Act.put, List.setIfInBounds_toArray, List.set_cons_zero, List.set_cons_succ]
          refine wpAnyH_take (i := 5) (oi := o7c062_5) (v := undef) rfl (by kernel_rfl) (by kernel_rfl) (by kernel_rfl) (fun _ _ _ h => h) (Or.inr ⟨by rfl, rfl⟩) S0 ?_
          try simp only [Act.put, List.setIfInBounds_toArray, List.set_cons_zero, List.set_cons_succ]
          refine wpAnyH_take (i := 6) (oi := o7c062_6) (v := undef) rfl (by kernel_rfl) (by kernel_rfl) (by kernel_rfl) (fun _ _ _ h => h) (Or.inr ⟨by rfl, rfl⟩) S0 ?_
          try simp only [Act.put, List.setIfInBounds_toArray, List.set_cons_zero, List.set_cons_succ]
          refine wpAnyH_take (i := 7) (oi := o7c062_7) (v := undef) rfl (by kernel_rfl) (by kernel_rfl) (by kernel_rfl) (fun _ _ _ h => h) (Or.inr ⟨by rfl, rfl⟩) S0 ?_
          try simp only [Act.put, List.setIfInBounds_toArray, List.set_cons_zero, List.set_cons_succ]
          refine wpAnyH_take (i := 8) (oi := o7c062_8) (v := undef) rfl (by kernel_rfl) (by kernel_rfl) (by kernel_rfl) (fun _ _ _ h => h) (Or.inr ⟨by rfl, rfl⟩) S0 ?_
          try simp only [Act.put, List.setIfInBounds_toArray, List.set_cons_zero, List.set_cons_succ]
          refine wpAnyH_take (i := 9) (oi := o7c062_9) (v := undef) rfl (by kernel_rfl) (by kernel_rfl) (by kernel_rfl) (fun _ _ _ h => h) (Or.inr ⟨by rfl, rfl⟩) S0 ?_
          try simp only [Act.put, List.setIfInBounds_toArray, List.set_cons_zero, List.set_cons_succ]
          refine wpAnyH_take (i := 10) (oi := o7c062_10) (v := undef) rfl (by kernel_rfl) (by kernel_rfl) (by kernel_rfl) (fun _ _ _ h => h) (Or.inr ⟨by rfl, rfl⟩) S0 ?_
          try simp only [Act.put, List.setIfInBounds_toArray, List.set_cons_zero, List.set_cons_succ]
          refine wpAnyH_take (i := 11) (oi := o7c062_11) (v := undef) rfl (by kernel_rfl) (by kernel_rfl) (by kernel_rfl) (fun _ _ _ h => h) (Or.inr ⟨by rfl, rfl⟩) S0 ?_
          try simp only [Act.put, List.setIfInBounds_toArray, List.set_cons_zero, List.set_cons_succ]
          refine wpAnyH_take (i := 12) (oi := o7c062_12) (v := undef) rfl (by kernel_rfl) (by kernel_rfl) (by kernel_rfl) (fun _ _ _ h => h) (Or.inr ⟨by rfl, rfl⟩) S0 ?_
          try simp only [Act.put, List.setIfInBounds_toArray, List.set_cons_zero, List.set_cons_succ]
          refine wpAnyH_take (i := 13) (oi := o7c062_13) (v := undef) rfl (by kernel_rfl) (by kernel_rfl) (by kernel_rfl) (fun _ _ _ h => h) (Or.inr ⟨by rfl, rfl⟩) S0 ?_
          try simp only [Act.put, List.setIfInBounds_toArray, List.set_cons_zero, List.set_cons_succ]
          refine wpAnyH_take (i := 14) (oi := o7c062_14) (v := undef) rfl (by kernel_rfl) (by kernel_rfl) (by kernel_rfl) (fun _ _ _ h => h) (Or.inr ⟨by rfl, rfl⟩) S0 ?_
          try simp only [Act.put, List.setIfInBounds_toArray, List.set_cons_zero, List.set_cons_succ]
          refine wpAnyH_take (i := 15) (oi := o7c062_15) (v := undef) rfl (by kernel_rfl) (by kernel_rfl) (by kernel_rfl) (fun _ _ _ h => h) (Or.inr ⟨by rfl, rfl⟩) S0 ?_
          try simp only [Act.put, List.setIfInBounds_toArray, List.set_cons_zero, List.set_cons_succ]
          refine wpAnyH_take (i := 16) (oi := o7c062_16) (v := ?vva17) rfl (by kernel_rfl) (by kernel_rfl) (by kernel_rfl) (fun _ _ _ h => h) (Or.inl ⟨by rfl, ?hya17⟩) S0 ?resta17
          case hya17 => (intro w hSw; go_simp <;> with_reducible rfl)
          try simp only [Act.put, List.setIfInBounds_toArray, List.set_cons_zero, List.set_cons_succ]
          refine wpAnyH_done (by kernel_rfl) ?_ _
          go_wp2_with fail
          go_roundw
          case rel => exact ⟨i + 1, t, by omega, by omega, by simp, Lib.hid S0.1, HU2, HS, Lib.hid S0.2⟩
          case measure => simp [intOf]; omega
        | succ j =>
          have hjn : j < n := by omega
          have hjn1 : j + 1 < n := by omega
          have HC := Lib.hid (compareNames_any (t (j + 1)).1 (t (j + 1)).2 (t j).1 (t j).2)
          have HN := Lib.hid (cmpN_neg (t (j + 1)) (t j))
          generalize cmpN (t (j + 1)).1 (t (j + 1)).2 (t j).1 (t j).2 = c at *
          unfold nmV at HC
          have hj0 : (0 : Int) < (j : Int) + 1 := by omega
          have hj00 : (0 : Int) ≤ (j : Int) + 1 := by omega
          have hj1 : IntKind.i64.wrap (j : Int) = (j : Int) := by simp only [IntKind.wrap_i64]; omega
          have S0 := And.intro HR.out.drew (grown_drew HG.out)
          rw [Int.natCast_add] at *
          have hjn2 : (j : Int) + 1 < (n : Int) := by omega
          have hjn3 : (j : Int) < (n : Int) := by omega
          by_cases hc : c < 0
          · have HL := Lib.hid (HN.out.1 hc)
            go_wp2_with fail
            refine wp_region_held_drew (S := fun W' => NmRow W' B g cap n t ∧ w.grownBy W' (some g)) (by kernel_rfl) S0 (fun hHeld => ?_)
            clear hHeld
            refine wpAnyH_take (i := 0) (oi := o7c062_0) (v := ?vvb1) rfl (by kernel_rfl) (by kernel_rfl) (by kernel_rfl) (fun _ _ _ h => h) (Or.inl ⟨by rfl, ?hyb1⟩) S0 ?restb1
            case hyb1 => (intro w hSw; go_simp <;> with_reducible rfl)
            try simp only [Act.put, List.setIfInBounds_toArray, List.set_cons_zero, List.set_cons_succ]
            refine wpAnyH_take (i := 1) (oi := o7c062_1) (v := ?vvb2) rfl (by kernel_rfl) (by kernel_rfl) (by kernel_rfl) (fun _ _ _ h => h) (Or.inl ⟨by rfl, ?hyb2⟩) S0 ?restb2
            case hyb2 => (intro w hSw; go_simp <;> with_reducible rfl)
            try simp only [Act.put, List.setIfInBounds_toArray, List.set_cons_zero, List.set_cons_succ]
            refine wpAnyH_take (i := 2) (oi := o7c062_2) (v := ?vvb3) rfl (by kernel_rfl) (by kernel_rfl) (by kernel_rfl) (fun _ _ _ h => h) (Or.inl ⟨by rfl, ?hyb3⟩) S0 ?restb3
            case hyb3 => (intro w hSw; go_simp <;> with_reducible rfl)
            try simp only [Act.put, List.setIfInBounds_toArray, List.set_cons_zero, List.set_cons_succ]
            refine wpAnyH_take (i := 3) (oi := o7c062_3) (v := ?vvb4) rfl (by kernel_rfl) (by kernel_rfl) (by kernel_rfl) (fun _ _ _ h => h) (Or.inl ⟨by rfl, ?hyb4⟩) S0 ?restb4
            case hyb4 => (intro w hSw; go_simp <;> with_reducible rfl)
            try simp only [Act.put, List.setIfInBounds_toArray, List.set_cons_zero, List.set_cons_succ]
            refine wpAnyH_take (i := 4) (oi := o7c062_4) (v := ?vvb5) rfl (by kernel_rfl) (by kernel_rfl) (by kernel_rfl) (fun _ _ _ h => h) (Or.inl ⟨by rfl, ?hyb5⟩) S0 ?restb5
            case hyb5 => (intro w hSw; go_simp <;> with_reducible rfl)
            try simp only [Act.put, List.setIfInBounds_toArray, List.set_cons_zero, List.set_cons_succ]
            refine wpAnyH_take (i := 5) (oi := o7c062_5) (v := ?vvb6) rfl (by kernel_rfl) (by kernel_rfl) (by kernel_rfl) (fun _ _ _ h => h) (Or.inl ⟨by rfl, ?hyb6⟩) S0 ?restb6
            case hyb6 => (intro w hSw; go_simp <;> with_reducible rfl)
            try simp only [Act.put, List.setIfInBounds_toArray, List.set_cons_zero, List.set_cons_succ]
            refine wpAnyH_take (i := 6) (oi := o7c062_6) (v := ?vvb7) rfl (by kernel_rfl) (by kernel_rfl) (by kernel_rfl) (fun _ _ _ h => h) (Or.inl ⟨by rfl, ?hyb7⟩) S0 ?restb7
            case hyb7 => (intro w hSw; go_simp <;> with_reducible rfl)
            try simp only [Act.put, List.setIfInBounds_toArray, List.set_cons_zero, List.set_cons_succ]
            refine wpAnyH_take (i := 7) (oi := o7c062_7) (v := ?vvb8) rfl (by kernel_rfl) (by kernel_rfl) (by kernel_rfl) (fun _ _ _ h => h) (Or.inl ⟨by rfl, ?hyb8⟩) S0 ?restb8
            case hyb8 => (intro w hSw; go_simp <;> with_reducible rfl)
            try simp only [Act.put, List.setIfInBounds_toArray, List.set_cons_zero, List.set_cons_succ]
            refine wpAnyH_take (i := 8) (oi := o7c062_8) (v := ?vvb9) rfl (by kernel_rfl) (by kernel_rfl) (by kernel_rfl) (fun _ _ _ h => h) (Or.inl ⟨by rfl, ?hyb9⟩) S0 ?restb9
            case hyb9 => (intro w hSw; have p0 := hSw.1.c0 hjn; have p1 := hSw.1.c1 hjn; have q0 := hSw.1.c0 hjn1; have q1 := hSw.1.c1 hjn1;go_simp <;> with_reducible rfl)
            try simp only [Act.put, List.setIfInBounds_toArray, List.set_cons_zero, List.set_cons_succ]
            refine wpAnyH_take (i := 9) (oi := o7c062_9) (v := ?vvb10) rfl (by kernel_rfl) (by kernel_rfl) (by kernel_rfl) (fun _ _ _ h => h) (Or.inl ⟨by rfl, ?hyb10⟩) S0 ?restb10
            case hyb10 => (intro w hSw; go_simp <;> with_reducible rfl)
            try simp only [Act.put, List.setIfInBounds_toArray, List.set_cons_zero, List.set_cons_succ]
            refine wpAnyH_take (i := 10) (oi := o7c062_10) (v := ?vvb11) rfl (by kernel_rfl) (by kernel_rfl) (by kernel_rfl) (fun _ _ _ h => h) (Or.inl ⟨by rfl, ?hyb11⟩) S0 ?restb11
            case hyb11 => (intro w hSw; go_simp <;> with_reducible rfl)
            try simp only [Act.put, List.setIfInBounds_toArray, List.set_cons_zero, List.set_cons_succ]
            refine wpAnyH_take (i := 11) (oi := o7c062_11) (v := ?vvb12) rfl (by kernel_rfl) (by kernel_rfl) (by kernel_rfl) (fun _ _ _ h => h) (Or.inl ⟨by rfl, ?hyb12⟩) S0 ?restb12
            case hyb12 => (intro w hSw; go_simp <;> with_reducible rfl)
            try simp only [Act.put, List.setIfInBounds_toArray, List.set_cons_zero, List.set_cons_succ]
            refine wpAnyH_take (i := 12) (oi := o7c062_12) (v := ?vvb13) rfl (by kernel_rfl) (by kernel_rfl) (by kernel_rfl) (fun _ _ _ h => h) (Or.inl ⟨by rfl, ?hyb13⟩) S0 ?restb13
            case hyb13 => (intro w hSw; go_simp <;> with_reducible rfl)
            try simp only [Act.put, List.setIfInBounds_toArray, List.set_cons_zero, List.set_cons_succ]
            refine wpAnyH_take (i := 13) (oi := o7c062_13) (v := ?vvb14) rfl (by kernel_rfl) (by kernel_rfl) (by kernel_rfl) (fun _ _ _ h => h) (Or.inl ⟨by rfl, ?hyb14⟩) S0 ?restb14
            case hyb14 => (intro w hSw; have p0 := hSw.1.c0 hjn; have p1 := hSw.1.c1 hjn; have q0 := hSw.1.c0 hjn1; have q1 := hSw.1.c1 hjn1;go_simp <;> with_reducible rfl)
            try simp only [Act.put, List.setIfInBounds_toArray, List.set_cons_zero, List.set_cons_succ]
            refine wpAnyH_ready (rs := [14]) (by kernel_rfl) (by simp) ?_
            refine AllReadyH.cons (o := o7c062_14) rfl (fun K hK => ?_) AllReadyH.nil
            go_simp
            refine (HC.out _).mono ?_
            rintro e w1 ⟨rfl, hb1⟩
            replace S0 := And.intro (S0.1.kept hb1) (grown_below S0.2 hb1)
            clear hb1
            refine hK.out _ _ S0 (fun hHeld => ?_)
            clear hK K hHeld
            try simp only [Act.put, List.setIfInBounds_toArray, List.set_cons_zero, List.set_cons_succ]
            refine wpAnyH_take (i := 15) (oi := o7c062_15) (v := ?vvb15) rfl (by kernel_rfl) (by kernel_rfl) (by kernel_rfl) (fun _ _ _ h => h) (Or.inl ⟨by rfl, ?hyb15⟩) S0 ?restb15
            case hyb15 => (intro w hSw; go_simp <;> with_reducible rfl)
            try simp only [Act.put, List.setIfInBounds_toArray, List.set_cons_zero, List.set_cons_succ]
            refine wpAnyH_take (i := 16) (oi := o7c062_16) (v := ?vvb16) rfl (by kernel_rfl) (by kernel_rfl) (by kernel_rfl) (fun _ _ _ h => h) (Or.inl ⟨by rfl, ?hyb16⟩) S0 ?restb16
            case hyb16 => (intro w hSw; go_simp <;> with_reducible rfl)
            try simp only [Act.put, List.setIfInBounds_toArray, List.set_cons_zero, List.set_cons_succ]
            refine wpAnyH_done (by kernel_rfl) ?_ _
            have R0 := S0.1.drew
            have G0 := grown_drew S0.2
            clear S0
            have HM2 := Lib.hid (HM.out.swap hj HL.out)
            have HS2 := Lib.hid (HS.out.swap hjn1)
            go_upto_region 6 with fail
            refine wp_region_any (by kernel_rfl) ?_
            try (change wpAny _ _ _ _ _ _ _ (World.drew _))
            generalize w1.drew = Wd at *
            have p0 := R0.c0 hjn
            have p1 := R0.c1 hjn
            have q0 := R0.c0 hjn1
            have q1 := R0.c1 hjn1
            have fz := R0.frozen
            refine wpAny_take (i := 0) (v := ?vvc1) rfl (by kernel_rfl) (by kernel_rfl) (by kernel_rfl) (fun _ _ _ h => h) (Or.inl ⟨by rfl, ?hyc1⟩) ?restc1
            case hyc1 => (intro w; go_simp <;> with_reducible rfl)
            refine wpAny_take (i := 1) (v := ?vvc2) rfl (by kernel_rfl) (by kernel_rfl) (by kernel_rfl) (fun _ _ _ h => h) (Or.inl ⟨by rfl, ?hyc2⟩) ?restc2
            case hyc2 => (intro w; go_simp <;> with_reducible rfl)
            refine wpAny_take (i := 2) (v := ?vvc3) rfl (by kernel_rfl) (by kernel_rfl) (by kernel_rfl) (fun _ _ _ h => h) (Or.inl ⟨by rfl, ?hyc3⟩) ?restc3
            case hyc3 => (intro w; go_simp <;> with_reducible rfl)
            refine wpAny_take (i := 3) (v := ?vvc4) rfl (by kernel_rfl) (by kernel_rfl) (by kernel_rfl) (fun _ _ _ h => h) (Or.inl ⟨by rfl, ?hyc4⟩) ?restc4
            case hyc4 => (intro w; go_simp <;> with_reducible rfl)
            refine wpAny_take (i := 4) (v := ?vvc5) rfl (by kernel_rfl) (by kernel_rfl) (by kernel_rfl) (fun _ _ _ h => h) (Or.inl ⟨by rfl, ?hyc5⟩) ?restc5
            case hyc5 => (intro w; go_simp <;> with_reducible rfl)
            refine wpAny_take (i := 5) (v := ?vvc6) rfl (by kernel_rfl) (by kernel_rfl) (by kernel_rfl) (fun _ _ _ h => h) (Or.inl ⟨by rfl, ?hyc6⟩) ?restc6
            case hyc6 => (intro w; go_simp <;> with_reducible rfl)
            refine wpAny_take (i := 6) (v := ?vvc7) rfl (by kernel_rfl) (by kernel_rfl) (by kernel_rfl) (fun _ _ _ h => h) (Or.inl ⟨by rfl, ?hyc7⟩) ?restc7
            case hyc7 => (intro w; go_simp <;> with_reducible rfl)
            refine wpAny_take (i := 7) (v := ?vvc8) rfl (by kernel_rfl) (by kernel_rfl) (by kernel_rfl) (fun _ _ _ h => h) (Or.inl ⟨by rfl, ?hyc8⟩) ?restc8
            case hyc8 => (intro w; go_simp <;> with_reducible rfl)
            refine wpAny_take (i := 8) (v := ?vvc9) rfl (by kernel_rfl) (by kernel_rfl) (by kernel_rfl) (fun _ _ _ h => h) (Or.inl ⟨by rfl, ?hyc9⟩) ?restc9
            case hyc9 => (intro w; go_simp <;> with_reducible rfl)
            refine wpAny_take (i := 10) (v := ?vvc10) rfl (by kernel_rfl) (by kernel_rfl) (by kernel_rfl) (fun _ _ _ h => h) (Or.inl ⟨by rfl, ?hyc10⟩) ?restc10
            case hyc10 => (intro w; go_simp <;> with_reducible rfl)
            refine wpAny_take (i := 11) (v := ?vvc11) rfl (by kernel_rfl) (by kernel_rfl) (by kernel_rfl) (fun _ _ _ h => h) (Or.inl ⟨by rfl, ?hyc11⟩) ?restc11
            case hyc11 => (intro w; go_simp <;> with_reducible rfl)
            refine wpAny_take (i := 12) (v := ?vvc12) rfl (by kernel_rfl) (by kernel_rfl) (by kernel_rfl) (fun _ _ _ h => h) (Or.inl ⟨by rfl, ?hyc12⟩) ?restc12
            case hyc12 => (intro w; go_simp <;> with_reducible rfl)
            refine wpAny_ready (rs := [9, 13]) (by kernel_rfl) (by simp) ?_
            refine (AllReady.cons (o := o7c062_17) rfl (fun K hK => ?_) (AllReady.cons (o := o7c062_18) rfl (fun K hK => ?_) AllReady.nil))
            focus
              go_simp
              refine hK _ _ ?_
              clear hK K
              refine wpAny_ready (rs := [13]) (by kernel_rfl) (by simp) ?_
              refine AllReady.cons (o := o7c062_18) rfl (fun K hK => ?_) AllReady.nil
              go_simp
              refine hK _ _ ?_
              clear hK K
              refine wpAny_take (i := 14) (v := ?vvc13) rfl (by kernel_rfl) (by kernel_rfl) (by kernel_rfl) (fun _ _ _ h => h) (Or.inl ⟨by rfl, ?hyc13⟩) ?restc13
              case hyc13 => (intro w; go_simp <;> with_reducible rfl)
              refine wpAny_ready (rs := [15]) (by kernel_rfl) (by simp) ?_
              refine AllReady.cons (o := o7c062_19) rfl (fun K hK => ?_) AllReady.nil
              go_simp
              have R1 := R0.put hjn1 (t j).1 (t j).2
              have G1 := grownSet (j := (j + 1) * 2 + 1) (u := .int .i64 (t j).2) (grownSet (j := (j + 1) * 2) (u := .int .i64 (t j).1) G0)
              obtain ⟨W7, hW7⟩ : ∃ X, X = (Wd.setCell ⟨g, (j + 1) * 2, none⟩ (.int .i64 (t j).1)).setCell ⟨g, (j + 1) * 2 + 1, none⟩ (.int .i64 (t j).2) := ⟨_, rfl⟩
              rw [← hW7] at R1 G1 ⊢
              clear hW7 p0 p1 q0 q1 fz
              have p0 := R1.c0 hjn
              have p1 := R1.c1 hjn
              have fz := R1.frozen
              refine hK _ _ ?_
              clear hK K
              refine wpAny_take (i := 16) (v := ?vvc14) rfl (by kernel_rfl) (by kernel_rfl) (by kernel_rfl) (fun _ _ _ h => h) (Or.inl ⟨by rfl, ?hyc14⟩) ?restc14
              case hyc14 => (intro w; go_simp <;> with_reducible rfl)
              refine wpAny_ready (rs := [17]) (by kernel_rfl) (by simp) ?_
              refine AllReady.cons (o := o7c062_20) rfl (fun K hK => ?_) AllReady.nil
              go_simp
              have R2 := R1.put hjn (t (j + 1)).1 (t (j + 1)).2
              have G2 := grownSet (j := j * 2 + 1) (u := .int .i64 (t (j + 1)).2) (grownSet (j := j * 2) (u := .int .i64 (t (j + 1)).1) G1)
              obtain ⟨W8, hW8⟩ : ∃ X, X = (W7.setCell ⟨g, j * 2, none⟩ (.int .i64 (t (j + 1)).1)).setCell ⟨g, j * 2 + 1, none⟩ (.int .i64 (t (j + 1)).2) := ⟨_, rfl⟩
              rw [← hW8] at R2 G2 ⊢
              clear hW8 p0 p1 fz
              refine hK _ _ ?_
              clear hK K
              refine wpAny_done (by kernel_rfl) ?_ _
            rotate_left 1
            focus
              go_simp
              refine hK _ _ ?_
              clear hK K
              refine wpAny_ready (rs := [9]) (by kernel_rfl) (by simp) ?_
              refine AllReady.cons (o := o7c062_17) rfl (fun K hK => ?_) AllReady.nil
              go_simp
              refine hK _ _ ?_
              clear hK K
              refine wpAny_take (i := 14) (v := ?vvc15) rfl (by kernel_rfl) (by kernel_rfl) (by kernel_rfl) (fun _ _ _ h => h) (Or.inl ⟨by rfl, ?hyc15⟩) ?restc15
              case hyc15 => (intro w; go_simp <;> with_reducible rfl)
              refine wpAny_ready (rs := [15]) (by kernel_rfl) (by simp) ?_
              refine AllReady.cons (o := o7c062_19) rfl (fun K hK => ?_) AllReady.nil
              go_simp
              have R1 := R0.put hjn1 (t j).1 (t j).2
              have G1 := grownSet (j := (j + 1) * 2 + 1) (u := .int .i64 (t j).2) (grownSet (j := (j + 1) * 2) (u := .int .i64 (t j).1) G0)
              obtain ⟨W7, hW7⟩ : ∃ X, X = (Wd.setCell ⟨g, (j + 1) * 2, none⟩ (.int .i64 (t j).1)).setCell ⟨g, (j + 1) * 2 + 1, none⟩ (.int .i64 (t j).2) := ⟨_, rfl⟩
              rw [← hW7] at R1 G1 ⊢
              clear hW7 p0 p1 q0 q1 fz
              have p0 := R1.c0 hjn
              have p1 := R1.c1 hjn
              have fz := R1.frozen
              refine hK _ _ ?_
              clear hK K
              refine wpAny_take (i := 16) (v := ?vvc16) rfl (by kernel_rfl) (by kernel_rfl) (by kernel_rfl) (fun _ _ _ h => h) (Or.inl ⟨by rfl, ?hyc16⟩) ?restc16
              case hyc16 => (intro w; go_simp <;> with_reducible rfl)
              refine wpAny_ready (rs := [17]) (by kernel_rfl) (by simp) ?_
              refine AllReady.cons (o := o7c062_20) rfl (fun K hK => ?_) AllReady.nil
              go_simp
              have R2 := R1.put hjn (t (j + 1)).1 (t (j + 1)).2
              have G2 := grownSet (j := j * 2 + 1) (u := .int .i64 (t (j + 1)).2) (grownSet (j := j * 2) (u := .int .i64 (t (j + 1)).1) G1)
              obtain ⟨W8, hW8⟩ : ∃ X, X = (W7.setCell ⟨g, j * 2, none⟩ (.int .i64 (t (j + 1)).1)).setCell ⟨g, j * 2 + 1, none⟩ (.int .i64 (t (j + 1)).2) := ⟨_, rfl⟩
              rw [← hW8] at R2 G2 ⊢
              clear hW8 p0 p1 fz
              refine hK _ _ ?_
              clear hK K
              refine wpAny_done (by kernel_rfl) ?_ _
            rotate_left 1
            all_goals
              have R3 : NmRow W8 B g cap n (swapN t j) := R2.congr (fun k hk => by unfold swapN; rfl)
              go_wp2_with fail
              go_roundw
              case rel => exact ⟨j, swapN t j, by omega, by simp, Lib.hid R3, HM2, HS2, Lib.hid G2⟩
              case measure => simp [intOf]
          · have HL := Lib.hid (HM.out.stop HS.out hjn1 (fun e => hc (HN.out.2 e)))
            go_wp2_with fail
            refine wp_region_held_drew (S := fun W' => NmRow W' B g cap n t ∧ w.grownBy W' (some g)) (by kernel_rfl) S0 (fun hHeld => ?_)
            clear hHeld
            refine wpAnyH_take (i := 0) (oi := o7c062_0) (v := ?vvd1) rfl (by kernel_rfl) (by kernel_rfl) (by kernel_rfl) (fun _ _ _ h => h) (Or.inl ⟨by rfl, ?hyd1⟩) S0 ?restd1
            case hyd1 => (intro w hSw; go_simp <;> with_reducible rfl)
            try simp only [Act.put, List.setIfInBounds_toArray, List.set_cons_zero, List.set_cons_succ]
            refine wpAnyH_take (i := 1) (oi := o7c062_1) (v := ?vvd2) rfl (by kernel_rfl) (by kernel_rfl) (by kernel_rfl) (fun _ _ _ h => h) (Or.inl ⟨by rfl, ?hyd2⟩) S0 ?restd2
            case hyd2 => (intro w hSw; go_simp <;> with_reducible rfl)
            try simp only [Act.put, List.setIfInBounds_toArray, List.set_cons_zero, List.set_cons_succ]
            refine wpAnyH_take (i := 2) (oi := o7c062_2) (v := ?vvd3) rfl (by kernel_rfl) (by kernel_rfl) (by kernel_rfl) (fun _ _ _ h => h) (Or.inl ⟨by rfl, ?hyd3⟩) S0 ?restd3
            case hyd3 => (intro w hSw; go_simp <;> with_reducible rfl)
            try simp only [Act.put, List.setIfInBounds_toArray, List.set_cons_zero, List.set_cons_succ]
            refine wpAnyH_take (i := 3) (oi := o7c062_3) (v := ?vvd4) rfl (by kernel_rfl) (by kernel_rfl) (by kernel_rfl) (fun _ _ _ h => h) (Or.inl ⟨by rfl, ?hyd4⟩) S0 ?restd4
            case hyd4 => (intro w hSw; go_simp <;> with_reducible rfl)
            try simp only [Act.put, List.setIfInBounds_toArray, List.set_cons_zero, List.set_cons_succ]
            refine wpAnyH_take (i := 4) (oi := o7c062_4) (v := ?vvd5) rfl (by kernel_rfl) (by kernel_rfl) (by kernel_rfl) (fun _ _ _ h => h) (Or.inl ⟨by rfl, ?hyd5⟩) S0 ?restd5
            case hyd5 => (intro w hSw; go_simp <;> with_reducible rfl)
            try simp only [Act.put, List.setIfInBounds_toArray, List.set_cons_zero, List.set_cons_succ]
            refine wpAnyH_take (i := 5) (oi := o7c062_5) (v := ?vvd6) rfl (by kernel_rfl) (by kernel_rfl) (by kernel_rfl) (fun _ _ _ h => h) (Or.inl ⟨by rfl, ?hyd6⟩) S0 ?restd6
            case hyd6 => (intro w hSw; go_simp <;> with_reducible rfl)
            try simp only [Act.put, List.setIfInBounds_toArray, List.set_cons_zero, List.set_cons_succ]
            refine wpAnyH_take (i := 6) (oi := o7c062_6) (v := ?vvd7) rfl (by kernel_rfl) (by kernel_rfl) (by kernel_rfl) (fun _ _ _ h => h) (Or.inl ⟨by rfl, ?hyd7⟩) S0 ?restd7
            case hyd7 => (intro w hSw; go_simp <;> with_reducible rfl)
            try simp only [Act.put, List.setIfInBounds_toArray, List.set_cons_zero, List.set_cons_succ]
            refine wpAnyH_take (i := 7) (oi := o7c062_7) (v := ?vvd8) rfl (by kernel_rfl) (by kernel_rfl) (by kernel_rfl) (fun _ _ _ h => h) (Or.inl ⟨by rfl, ?hyd8⟩) S0 ?restd8
            case hyd8 => (intro w hSw; go_simp <;> with_reducible rfl)
            try simp only [Act.put, List.setIfInBounds_toArray, List.set_cons_zero, List.set_cons_succ]
            refine wpAnyH_take (i := 8) (oi := o7c062_8) (v := ?vvd9) rfl (by kernel_rfl) (by kernel_rfl) (by kernel_rfl) (fun _ _ _ h => h) (Or.inl ⟨by rfl, ?hyd9⟩) S0 ?restd9
            case hyd9 => (intro w hSw; have p0 := hSw.1.c0 hjn; have p1 := hSw.1.c1 hjn; have q0 := hSw.1.c0 hjn1; have q1 := hSw.1.c1 hjn1;go_simp <;> with_reducible rfl)
            try simp only [Act.put, List.setIfInBounds_toArray, List.set_cons_zero, List.set_cons_succ]
            refine wpAnyH_take (i := 9) (oi := o7c062_9) (v := ?vvd10) rfl (by kernel_rfl) (by kernel_rfl) (by kernel_rfl) (fun _ _ _ h => h) (Or.inl ⟨by rfl, ?hyd10⟩) S0 ?restd10
            case hyd10 => (intro w hSw; go_simp <;> with_reducible rfl)
            try simp only [Act.put, List.setIfInBounds_toArray, List.set_cons_zero, List.set_cons_succ]
            refine wpAnyH_take (i := 10) (oi := o7c062_10) (v := ?vvd11) rfl (by kernel_rfl) (by kernel_rfl) (by kernel_rfl) (fun _ _ _ h => h) (Or.inl ⟨by rfl, ?hyd11⟩) S0 ?restd11
            case hyd11 => (intro w hSw; go_simp <;> with_reducible rfl)
            try simp only [Act.put, List.setIfInBounds_toArray, List.set_cons_zero, List.set_cons_succ]
            refine wpAnyH_take (i := 11) (oi := o7c062_11) (v := ?vvd12) rfl (by kernel_rfl) (by kernel_rfl) (by kernel_rfl) (fun _ _ _ h => h) (Or.inl ⟨by rfl, ?hyd12⟩) S0 ?restd12
            case hyd12 => (intro w hSw; go_simp <;> with_reducible rfl)
            try simp only [Act.put, List.setIfInBounds_toArray, List.set_cons_zero, List.set_cons_succ]
            refine wpAnyH_take (i := 12) (oi := o7c062_12) (v := ?vvd13) rfl (by kernel_rfl) (by kernel_rfl) (by kernel_rfl) (fun _ _ _ h => h) (Or.inl ⟨by rfl, ?hyd13⟩) S0 ?restd13
            case hyd13 => (intro w hSw; go_simp <;> with_reducible rfl)
            try simp only [Act.put, List.setIfInBounds_toArray, List.set_cons_zero, List.set_cons_succ]
            refine wpAnyH_take (i := 13) (oi := o7c062_13) (v := ?vvd14) rfl (by kernel_rfl) (by kernel_rfl) (by kernel_rfl) (fun _ _ _ h => h) (Or.inl ⟨by rfl, ?hyd14⟩) S0 ?restd14
            case hyd14 => (intro w hSw; have p0 := hSw.1.c0 hjn; have p1 := hSw.1.c1 hjn; have q0 := hSw.1.c0 hjn1; have q1 := hSw.1.c1 hjn1;go_simp <;> with_reducible rfl)
            try simp only [Act.put, List.setIfInBounds_toArray, List.set_cons_zero, List.set_cons_succ]
            refine wpAnyH_ready (rs := [14]) (by kernel_rfl) (by simp) ?_
            refine AllReadyH.cons (o := o7c062_14) rfl (fun K hK => ?_) AllReadyH.nil
            go_simp
            refine (HC.out _).mono ?_
            rintro e w1 ⟨rfl, hb1⟩
            replace S0 := And.intro (S0.1.kept hb1) (grown_below S0.2 hb1)
            clear hb1
            refine hK.out _ _ S0 (fun hHeld => ?_)
            clear hK K hHeld
            try simp only [Act.put, List.setIfInBounds_toArray, List.set_cons_zero, List.set_cons_succ]
            refine wpAnyH_take (i := 15) (oi := o7c062_15) (v := ?vvd15) rfl (by kernel_rfl) (by kernel_rfl) (by kernel_rfl) (fun _ _ _ h => h) (Or.inl ⟨by rfl, ?hyd15⟩) S0 ?restd15
            case hyd15 => (intro w hSw; go_simp <;> with_reducible rfl)
            try simp only [Act.put, List.setIfInBounds_toArray, List.set_cons_zero, List.set_cons_succ]
            refine wpAnyH_take (i := 16) (oi := o7c062_16) (v := ?vvd16) rfl (by kernel_rfl) (by kernel_rfl) (by kernel_rfl) (fun _ _ _ h => h) (Or.inl ⟨by rfl, ?hyd16⟩) S0 ?restd16
            case hyd16 => (intro w hSw; go_simp <;> with_reducible rfl)
            try simp only [Act.put, List.setIfInBounds_toArray, List.set_cons_zero, List.set_cons_succ]
            refine wpAnyH_done (by kernel_rfl) ?_ _
            go_wp2_with fail
            go_roundw
            case rel => exact ⟨i + 1, t, by omega, by omega, by simp, Lib.hid S0.1, HL, HS, Lib.hid S0.2⟩
            case measure => simp [intOf]; omega
    · have hl1 : ¬ (i : Int) < n := by omega
      go_wp2_with fail
      go_end0
      refine ⟨⟨_, rfl⟩, s, HR.out, fun a b hab hb => HU.out a b hab (by omega), HS.out, HG.out⟩
end Go.Proofs.Ytmkoppbbenombaa
