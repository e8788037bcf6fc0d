/- RouteRead, of the program, whole. -/
import Derived.Test.YthhodnkcaefnnaaDoorRdI
import Derived.ChangeKeysEq
namespace Go.Proofs.YthhodnkcaefnnaaDoor
open Go.RowKit

theorem nums_equal (a b c d e f g g' : Int) (w : World) : (Op.equalIn 10000 46 (.agg #[.int .i64 a, .int .i64 b, .int .i64 c, .int .i64 d, .int .i64 e, .int .i64 f, .int .i64 g]) (.agg #[.int .i64 a, .int .i64 b, .int .i64 c, .int .i64 d, .int .i64 e, .int .i64 f, .int .i64 g'])).run Tryd.prog w = .ok (decide (g = g')) w := by
  have hso : (Tryd.prog.info? 2).isSome = true := by kernel_rfl
  obtain ⟨i, hi⟩ := Option.isSome_iff_exists.1 hso
  have hc : Tryd.prog.cellsOf 2 = 1 := by kernel_rfl
  rw [run_equalIn_array w 9999 _ _ Tryd.underlying46 hi, hc]
  simp only [show List.range 7 = [0, 1, 2, 3, 4, 5, 6] from rfl, Op.eqItems, Sem.run_bind, part, isAgg, run_underlying Tryd.underlying2]
  by_cases h : g = g'
  all_goals simp [h, run_equalIn_int w _ 2 .i64 .i64 _ _ Tryd.underlying2]
theorem rr_false (s : ByteArray) (h : (!(runS s 7).bad && decide ((runS s 7).at_ = s.size)) = false) : rrOk s = false := by
  unfold rrOk; rw [← Bool.and_assoc, h]; rfl
theorem rr_true (s : ByteArray) (a b c d e f g : Int) (h : (!(runS s 7).bad && decide ((runS s 7).at_ = s.size)) = true) (hl : [a, b, c, d, e, f, g] = (runS s 7).l) :
    rrOk s = (decide (stI (g == 1) = g) && (⟨a, b, c, d, e, f, g == 1⟩ : Rt).right) ∧ rtOf (runS s 7).l = ⟨a, b, c, d, e, f, g == 1⟩ := by
  unfold rrOk
  rw [← Bool.and_assoc, h, ← hl, Bool.true_and]
  refine ⟨?_, rfl⟩
  have e1 : rtOf [a, b, c, d, e, f, g] = ⟨a, b, c, d, e, f, g == 1⟩ := rfl
  rw [e1]
  congr 1
  simp [Rt.nums]
structure RqAt (w W : World) (n q : Nat) (a b c d e f g : Int) : Prop where
  out : Blk W w.heap.size 29 #[.int .i64 0, .int .i64 0, .int .i64 0, .int .i64 0, .int .i64 0, .int .i64 0, .bool false, .int .i64 0]
  nums : Blk W n 46 #[.int .i64 a, .int .i64 b, .int .i64 c, .int .i64 d, .int .i64 e, .int .i64 f, .int .i64 g]
  rt : Blk W q 24 #[.int .i64 a, .int .i64 b, .int .i64 c, .int .i64 d, .int .i64 e, .int .i64 f, .bool (g == 1)]
  low : Below w.heap.size w W
theorem RqAt.kept {w W W' : World} {n q : Nat} {a b c d e f g : Int} (h : RqAt w W n q a b c d e f g) (hb : Below W.heap.size W W') : RqAt w W' n q a b c d e f g := ⟨h.out.kept hb, h.nums.kept hb, h.rt.kept hb, h.low.trans (hb.mono h.low.size)⟩
set_option maxHeartbeats 4000000 in
theorem implRouteRead_any (s : ByteArray) (w : World) (hs : s.size ≤ maxLen) (hg : w.cell? ⟨0, 0, none⟩ = some handle) :
    Calls Tryd.prog 8 #[.string s] w fun e w' => e = .returned (rrV s) ∧ Below w.heap.size w w' := by
  have HS := Lib.hid hs
  unfold maxLen at hs
  by_cases h8 : 8000 < s.size
  · have HR : Hid (rrV s = rtOutV rt0 2) := Lib.hid (by rw [rrV, if_pos h8])
    have hb : decide (8000 < (s.size : Int)) = true := by simp; omega
    clear hg
    go_enter Tryd.func8, Tryd.ntmps8
    go_wp2_with (go_at_call 29; refine (tooLong_any _ _ HS.out).mono ?_; rintro e w' ⟨rfl, rfl⟩)
    refine bodyPost_ret (v := rtOutV rt0 2) (by simp [results, Tryd.results8, go_sem, rtOutV, rt0]) rfl ⟨by rw [HR.out], ?_⟩
    go_grown
  have h8' : s.size ≤ 8000 := by omega
  have hb : decide (8000 < (s.size : Int)) = false := by simp; omega
  have hlt : 0 < w.heap.size := by
    rcases Nat.eq_zero_or_pos w.heap.size with h0 | h
    · simp [World.cell?, h0] at hg
    · exact h
  have HN : Hid (∀ W, Below w.heap.size w W → Calls Tryd.prog 30 #[.string s] W (RnPost s W)) := Lib.hid fun W hb => readRouteNums_any s W h8' ((hb.cell (p := ⟨0, 0, none⟩) hlt).trans hg)
  clear hlt hg
  have HV : Hid (rrV s = if rrOk s = true then rtOutV (rtOf (runS s 7).l) 0 else rtOutV rt0 3) := Lib.hid (by rw [rrV, if_neg h8])
  go_enter Tryd.func8, Tryd.ntmps8
  go_wp2_with (go_at_call 29; refine (tooLong_any _ _ HS.out).mono ?_; rintro e w' ⟨rfl, rfl⟩)
  refine (HN.out _ ((Below.refl _ _).alloc (Nat.le_refl _) _)).mono ?_
  rintro ed w1 ⟨hb1, a, b, c, d, e, f, g, r, rfl, hr0, hl0⟩
  have hr := Lib.hid hr0
  have hl := Lib.hid hl0
  clear hr0 hl0
  have O := (Blk.new w 29 #[.int .i64 0, .int .i64 0, .int .i64 0, .int .i64 0, .int .i64 0, .int .i64 0, .bool false, .int .i64 0]).kept hb1
  have HL : Hid (Below w.heap.size w w1) := Lib.hid (((Below.refl _ _).alloc (Nat.le_refl _) _).trans (hb1.mono (by simp)))
  clear hb1
  have hO1 := O.lt
  have HF := Lib.hid (routeFrom_any a b c d e f g)
  have HNum := Lib.hid (numsOf_any ⟨a, b, c, d, e, f, g == 1⟩)
  have HA := Lib.hid (implRight_any ⟨a, b, c, d, e, f, g == 1⟩)
  unfold numsV Rt.val rtV at *
  dsimp only at HNum HA HF
  go_wp2_with fail
  refine (HF.out _).mono ?_
  rintro ed w2 ⟨rfl, hb2⟩
  replace O := (O.alloc (.cells #[.int .i64 a, .int .i64 b, .int .i64 c, .int .i64 d, .int .i64 e, .int .i64 f, .int .i64 g] 46)).kept hb2
  have N := (Blk.new w1 46 #[.int .i64 a, .int .i64 b, .int .i64 c, .int .i64 d, .int .i64 e, .int .i64 f, .int .i64 g]).kept hb2
  replace HL : Hid (Below w.heap.size w w2) := Lib.hid ((HL.out.alloc HL.out.size _).trans (hb2.mono (by have := HL.out.size; simp; omega)))
  obtain ⟨n, hn⟩ : ∃ n, n = w1.heap.size := ⟨_, rfl⟩
  rw [← hn] at N
  rw [← hn]
  clear hb2 hn hO1
  go_upto_region 5 with fail
  obtain ⟨W, hW⟩ : ∃ W, W = w2.alloc (.cells #[.int .i64 a, .int .i64 b, .int .i64 c, .int .i64 d, .int .i64 e, .int .i64 f, .bool (g == 1)] 24) := ⟨_, rfl⟩
  obtain ⟨q, hq⟩ : ∃ q, q = w2.heap.size := ⟨_, rfl⟩
  rw [← hW, ← hq]
  have S0 : RqAt w W.drew n q a b c d e f g := by
    subst hW hq
    exact ⟨(O.alloc _).drew, (N.alloc _).drew, (Blk.new _ _ _).drew, (HL.out.alloc HL.out.size _).drew⟩
  clear hW hq O N HL HF HN
  cases r
  · have HR : Hid (rrV s = rtOutV rt0 3) := Lib.hid (by rw [HV.out, rr_false s hr.out.symm]; rfl)
    clear hr hl
    refine wp_region_held_drew (S := fun W' => RqAt w W' n q a b c d e f g) (by kernel_rfl) S0 (fun hHeld => ?_)
    clear hHeld
    refine wpAnyH_take (i := 0) (oi := { dst := some 16, op := Op.move (Operand.tmp 4), type := 4, pos := "l03_route.go:140", after := #[], guard := none }) (v := ?vva1) rfl (by kernel_rfl) (by kernel_rfl) (by kernel_rfl) (fun _ _ _ h => h) (Or.inl ⟨by rfl, ?hya1⟩) S0 ?resta1
    case hya1 => (intro w hSw; have p0 := hSw.nums.cell; have p1 := hSw.rt.cell;go_simp <;> with_reducible rfl)
    try simp only [Act.put, List.setIfInBounds_toArray, List.set_cons_zero, List.set_cons_succ]
    try simp only [Bool.not_false]
    try simp only [Bool.not_true]
    refine wpAnyH_take (i := 1) (oi := { dst := some 17, op := Op.unOp UnOp.not 4 (Operand.tmp 16), type := 4, pos := "l03_route.go:140", after := #[{ on := 0, ground := Ground.data }], guard := none }) (v := ?vva2) rfl (by kernel_rfl) (by kernel_rfl) (by kernel_rfl) (fun _ _ _ h => h) (Or.inl ⟨by rfl, ?hya2⟩) S0 ?resta2
    case hya2 => (intro w hSw; have p0 := hSw.nums.cell; have p1 := hSw.rt.cell;go_simp <;> with_reducible rfl)
    try simp only [Act.put, List.setIfInBounds_toArray, List.set_cons_zero, List.set_cons_succ]
    try simp only [Bool.not_false]
    try simp only [Bool.not_true]
    refine wpAnyH_take (i := 2) (oi := { dst := some 18, op := Op.move (Operand.tmp 17), type := 4, pos := "l03_route.go:140", after := #[{ on := 1, ground := Ground.data }], guard := none }) (v := ?vva3) rfl (by kernel_rfl) (by kernel_rfl) (by kernel_rfl) (fun _ _ _ h => h) (Or.inl ⟨by rfl, ?hya3⟩) S0 ?resta3
    case hya3 => (intro w hSw; have p0 := hSw.nums.cell; have p1 := hSw.rt.cell;go_simp <;> with_reducible rfl)
    try simp only [Act.put, List.setIfInBounds_toArray, List.set_cons_zero, List.set_cons_succ]
    try simp only [Bool.not_false]
    try simp only [Bool.not_true]
    refine wpAnyH_take (i := 3) (oi := { dst := some 19, op := Op.load 24 (Operand.tmp 5), type := 24, pos := "l03_route.go:140", after := #[{ on := 2, ground := Ground.guard }], guard := some (2, false) }) (v := undef) rfl (by kernel_rfl) (by kernel_rfl) (by kernel_rfl) (fun _ _ _ h => h) (Or.inr ⟨by rfl, rfl⟩) S0 ?_
    try simp only [Act.put, List.setIfInBounds_toArray, List.set_cons_zero, List.set_cons_succ]
    try simp only [Bool.not_false]
    try simp only [Bool.not_true]
    refine wpAnyH_take (i := 4) (oi := { dst := some 20, op := Op.call { callee := Callee.value (Operand.func 24), args := #[Operand.tmp 19], argTypes := #[24] }, type := 46, pos := "l03_route.go:140", after := #[{ on := 3, ground := Ground.data }, { on := 2, ground := Ground.chain }, { on := 2, ground := Ground.guard }], guard := some (2, false) }) (v := undef) rfl (by kernel_rfl) (by kernel_rfl) (by kernel_rfl) (fun _ _ _ h => h) (Or.inr ⟨by rfl, rfl⟩) S0 ?_
    try simp only [Act.put, List.setIfInBounds_toArray, List.set_cons_zero, List.set_cons_succ]
    try simp only [Bool.not_false]
    try simp only [Bool.not_true]
    refine wpAnyH_take (i := 5) (oi := { dst := some 21, op := Op.load 46 (Operand.tmp 3), type := 46, pos := "l03_route.go:140", after := #[{ on := 2, ground := Ground.guard }], guard := some (2, false) }) (v := undef) rfl (by kernel_rfl) (by kernel_rfl) (by kernel_rfl) (fun _ _ _ h => h) (Or.inr ⟨by rfl, rfl⟩) S0 ?_
    try simp only [Act.put, List.setIfInBounds_toArray, List.set_cons_zero, List.set_cons_succ]
    try simp only [Bool.not_false]
    try simp only [Bool.not_true]
    refine wpAnyH_take (i := 6) (oi := { dst := some 22, op := Op.binOp BinOp.neq 46 (Operand.tmp 20) (Operand.tmp 21) 46, type := 4, pos := "l03_route.go:140", after := #[{ on := 4, ground := Ground.data }, { on := 5, ground := Ground.data }, { on := 2, ground := Ground.guard }], guard := some (2, false) }) (v := undef) rfl (by kernel_rfl) (by kernel_rfl) (by kernel_rfl) (fun _ _ _ h => h) (Or.inr ⟨by rfl, rfl⟩) S0 ?_
    try simp only [Act.put, List.setIfInBounds_toArray, List.set_cons_zero, List.set_cons_succ]
    try simp only [Bool.not_false]
    try simp only [Bool.not_true]
    refine wpAnyH_take (i := 7) (oi := { dst := some 23, op := Op.pick (Operand.tmp 18) (Operand.const (Value.bool true)) (Operand.tmp 22), type := 4, pos := "l03_route.go:140", after := #[{ on := 2, ground := Ground.data }, { on := 6, ground := Ground.data }], guard := none }) (v := ?vva8) rfl (by kernel_rfl) (by kernel_rfl) (by kernel_rfl) (fun _ _ _ h => h) (Or.inl ⟨by rfl, ?hya8⟩) S0 ?resta8
    case hya8 => (intro w hSw; have p0 := hSw.nums.cell; have p1 := hSw.rt.cell;go_simp <;> with_reducible rfl)
    try simp only [Act.put, List.setIfInBounds_toArray, List.set_cons_zero, List.set_cons_succ]
    try simp only [Bool.not_false]
    try simp only [Bool.not_true]
    refine wpAnyH_take (i := 8) (oi := { dst := some 24, op := Op.move (Operand.tmp 23), type := 4, pos := "l03_route.go:140", after := #[{ on := 7, ground := Ground.data }, { on := 4, ground := Ground.chain }], guard := none }) (v := ?vva9) rfl (by kernel_rfl) (by kernel_rfl) (by kernel_rfl) (fun _ _ _ h => h) (Or.inl ⟨by rfl, ?hya9⟩) S0 ?resta9
    case hya9 => (intro w hSw; have p0 := hSw.nums.cell; have p1 := hSw.rt.cell;go_simp <;> with_reducible rfl)
    try simp only [Act.put, List.setIfInBounds_toArray, List.set_cons_zero, List.set_cons_succ]
    try simp only [Bool.not_false]
    try simp only [Bool.not_true]
    refine wpAnyH_take (i := 9) (oi := { dst := some 25, op := Op.load 24 (Operand.tmp 5), type := 24, pos := "l03_route.go:140", after := #[{ on := 8, ground := Ground.guard }], guard := some (8, false) }) (v := undef) rfl (by kernel_rfl) (by kernel_rfl) (by kernel_rfl) (fun _ _ _ h => h) (Or.inr ⟨by rfl, rfl⟩) S0 ?_
    try simp only [Act.put, List.setIfInBounds_toArray, List.set_cons_zero, List.set_cons_succ]
    try simp only [Bool.not_false]
    try simp only [Bool.not_true]
    refine wpAnyH_take (i := 10) (oi := { dst := some 26, op := Op.call { callee := Callee.value (Operand.func 19), args := #[Operand.tmp 25], argTypes := #[24] }, type := 4, pos := "l03_route.go:140", after := #[{ on := 9, ground := Ground.data }, { on := 8, ground := Ground.chain }, { on := 8, ground := Ground.guard }], guard := some (8, false) }) (v := undef) rfl (by kernel_rfl) (by kernel_rfl) (by kernel_rfl) (fun _ _ _ h => h) (Or.inr ⟨by rfl, rfl⟩) S0 ?_
    try simp only [Act.put, List.setIfInBounds_toArray, List.set_cons_zero, List.set_cons_succ]
    try simp only [Bool.not_false]
    try simp only [Bool.not_true]
    refine wpAnyH_take (i := 11) (oi := { dst := some 27, op := Op.unOp UnOp.not 4 (Operand.tmp 26), type := 4, pos := "l03_route.go:140", after := #[{ on := 10, ground := Ground.data }, { on := 8, ground := Ground.guard }], guard := some (8, false) }) (v := undef) rfl (by kernel_rfl) (by kernel_rfl) (by kernel_rfl) (fun _ _ _ h => h) (Or.inr ⟨by rfl, rfl⟩) S0 ?_
    try simp only [Act.put, List.setIfInBounds_toArray, List.set_cons_zero, List.set_cons_succ]
    try simp only [Bool.not_false]
    try simp only [Bool.not_true]
    refine wpAnyH_take (i := 12) (oi := { dst := some 28, op := Op.pick (Operand.tmp 24) (Operand.const (Value.bool true)) (Operand.tmp 27), type := 4, pos := "l03_route.go:140", after := #[{ on := 8, ground := Ground.data }, { on := 11, ground := Ground.data }], guard := none }) (v := ?vva13) rfl (by kernel_rfl) (by kernel_rfl) (by kernel_rfl) (fun _ _ _ h => h) (Or.inl ⟨by rfl, ?hya13⟩) S0 ?resta13
    case hya13 => (intro w hSw; have p0 := hSw.nums.cell; have p1 := hSw.rt.cell;go_simp <;> with_reducible rfl)
    try simp only [Act.put, List.setIfInBounds_toArray, List.set_cons_zero, List.set_cons_succ]
    try simp only [Bool.not_false]
    try simp only [Bool.not_true]
    refine wpAnyH_done (by kernel_rfl) ?_ _
    have cO : ∀ o, W.cell? ⟨w.heap.size, o, none⟩ = _ := S0.out.cell
    have fO : ∀ o, W.frozen? ⟨w.heap.size, o, none⟩ = false := S0.out.frozen
    have cR := S0.rt.cell
    have HL2 : Hid (Below w.heap.size w W) := Lib.hid ⟨S0.low.os, S0.low.tape, S0.low.output, S0.low.size, S0.low.block⟩
    clear S0
    go_wp2_with fail
    refine bodyPost_ret (v := rtOutV rt0 3) (by simp [results, Tryd.results8, go_sem, rtOutV, rt0, cO]) rfl ⟨by rw [HR.out], ?_⟩
    have := HL2.out
    go_grown
  obtain ⟨e1, e2⟩ := rr_true s a b c d e f g hr.out.symm (hl.out rfl)
  have hqe := nums_equal a b c d e f (stI (g == 1)) g
  rw [e1, e2] at HV
  clear hr hl e1 e2
  generalize (⟨a, b, c, d, e, f, g == 1⟩ : Rt).right = rr at *
  generalize stI (g == 1) = gg at *
  cases hgg : decide (gg = g)
  · rw [hgg] at hqe HV
    have HR : Hid (rrV s = rtOutV rt0 3) := Lib.hid (by rw [HV.out]; rfl)
    clear hgg
    refine wp_region_held_drew (S := fun W' => RqAt w W' n q a b c d e f g) (by kernel_rfl) S0 (fun hHeld => ?_)
    clear hHeld
    refine wpAnyH_take (i := 0) (oi := { dst := some 16, op := Op.move (Operand.tmp 4), type := 4, pos := "l03_route.go:140", after := #[], guard := none }) (v := ?vvb1) rfl (by kernel_rfl) (by kernel_rfl) (by kernel_rfl) (fun _ _ _ h => h) (Or.inl ⟨by rfl, ?hyb1⟩) S0 ?restb1
    case hyb1 => (intro w hSw; have p0 := hSw.nums.cell; have p1 := hSw.rt.cell;go_simp <;> with_reducible rfl)
    try simp only [Act.put, List.setIfInBounds_toArray, List.set_cons_zero, List.set_cons_succ]
    try simp only [Bool.not_false]
    try simp only [Bool.not_true]
    refine wpAnyH_take (i := 1) (oi := { dst := some 17, op := Op.unOp UnOp.not 4 (Operand.tmp 16), type := 4, pos := "l03_route.go:140", after := #[{ on := 0, ground := Ground.data }], guard := none }) (v := ?vvb2) rfl (by kernel_rfl) (by kernel_rfl) (by kernel_rfl) (fun _ _ _ h => h) (Or.inl ⟨by rfl, ?hyb2⟩) S0 ?restb2
    case hyb2 => (intro w hSw; have p0 := hSw.nums.cell; have p1 := hSw.rt.cell;go_simp <;> with_reducible rfl)
    try simp only [Act.put, List.setIfInBounds_toArray, List.set_cons_zero, List.set_cons_succ]
    try simp only [Bool.not_false]
    try simp only [Bool.not_true]
    refine wpAnyH_take (i := 2) (oi := { dst := some 18, op := Op.move (Operand.tmp 17), type := 4, pos := "l03_route.go:140", after := #[{ on := 1, ground := Ground.data }], guard := none }) (v := ?vvb3) rfl (by kernel_rfl) (by kernel_rfl) (by kernel_rfl) (fun _ _ _ h => h) (Or.inl ⟨by rfl, ?hyb3⟩) S0 ?restb3
    case hyb3 => (intro w hSw; have p0 := hSw.nums.cell; have p1 := hSw.rt.cell;go_simp <;> with_reducible rfl)
    try simp only [Act.put, List.setIfInBounds_toArray, List.set_cons_zero, List.set_cons_succ]
    try simp only [Bool.not_false]
    try simp only [Bool.not_true]
    refine wpAnyH_take (i := 3) (oi := { dst := some 19, op := Op.load 24 (Operand.tmp 5), type := 24, pos := "l03_route.go:140", after := #[{ on := 2, ground := Ground.guard }], guard := some (2, false) }) (v := ?vvb4) rfl (by kernel_rfl) (by kernel_rfl) (by kernel_rfl) (fun _ _ _ h => h) (Or.inl ⟨by rfl, ?hyb4⟩) S0 ?restb4
    case hyb4 => (intro w hSw; have p0 := hSw.nums.cell; have p1 := hSw.rt.cell;go_simp <;> with_reducible rfl)
    try simp only [Act.put, List.setIfInBounds_toArray, List.set_cons_zero, List.set_cons_succ]
    try simp only [Bool.not_false]
    try simp only [Bool.not_true]
    refine wpAnyH_take (i := 5) (oi := { dst := some 21, op := Op.load 46 (Operand.tmp 3), type := 46, pos := "l03_route.go:140", after := #[{ on := 2, ground := Ground.guard }], guard := some (2, false) }) (v := ?vvb5) rfl (by kernel_rfl) (by kernel_rfl) (by kernel_rfl) (fun _ _ _ h => h) (Or.inl ⟨by rfl, ?hyb5⟩) S0 ?restb5
    case hyb5 => (intro w hSw; have p0 := hSw.nums.cell; have p1 := hSw.rt.cell;go_simp <;> with_reducible rfl)
    try simp only [Act.put, List.setIfInBounds_toArray, List.set_cons_zero, List.set_cons_succ]
    try simp only [Bool.not_false]
    try simp only [Bool.not_true]
    refine wpAnyH_ready (rs := [4]) (by kernel_rfl) (by simp) ?_
    refine AllReadyH.cons (o := { dst := some 20, op := Op.call { callee := Callee.value (Operand.func 24), args := #[Operand.tmp 19], argTypes := #[24] }, type := 46, pos := "l03_route.go:140", after := #[{ on := 3, ground := Ground.data }, { on := 2, ground := Ground.chain }, { on := 2, ground := Ground.guard }], guard := some (2, false) }) rfl (fun K hK => ?_) AllReadyH.nil
    go_simp
    refine (HNum.out _).mono ?_
    rintro ed w3 ⟨rfl, hb3⟩
    replace S0 := S0.kept hb3
    clear hb3
    refine hK.out _ _ S0 (fun hHeld => ?_)
    clear hK K hHeld
    try simp only [Act.put, List.setIfInBounds_toArray, List.set_cons_zero, List.set_cons_succ]
    try simp only [Bool.not_false]
    try simp only [Bool.not_true]
    refine wpAnyH_take (i := 6) (oi := { dst := some 22, op := Op.binOp BinOp.neq 46 (Operand.tmp 20) (Operand.tmp 21) 46, type := 4, pos := "l03_route.go:140", after := #[{ on := 4, ground := Ground.data }, { on := 5, ground := Ground.data }, { on := 2, ground := Ground.guard }], guard := some (2, false) }) (v := ?vvb6) rfl (by kernel_rfl) (by kernel_rfl) (by kernel_rfl) (fun _ _ _ h => h) (Or.inl ⟨by rfl, ?hyb6⟩) S0 ?restb6
    case hyb6 => (intro w hSw; have p0 := hSw.nums.cell; have p1 := hSw.rt.cell;go_simp <;> with_reducible rfl)
    try simp only [Act.put, List.setIfInBounds_toArray, List.set_cons_zero, List.set_cons_succ]
    try simp only [Bool.not_false]
    try simp only [Bool.not_true]
    refine wpAnyH_take (i := 7) (oi := { dst := some 23, op := Op.pick (Operand.tmp 18) (Operand.const (Value.bool true)) (Operand.tmp 22), type := 4, pos := "l03_route.go:140", after := #[{ on := 2, ground := Ground.data }, { on := 6, ground := Ground.data }], guard := none }) (v := ?vvb7) rfl (by kernel_rfl) (by kernel_rfl) (by kernel_rfl) (fun _ _ _ h => h) (Or.inl ⟨by rfl, ?hyb7⟩) S0 ?restb7
    case hyb7 => (intro w hSw; have p0 := hSw.nums.cell; have p1 := hSw.rt.cell;go_simp <;> with_reducible rfl)
    try simp only [Act.put, List.setIfInBounds_toArray, List.set_cons_zero, List.set_cons_succ]
    try simp only [Bool.not_false]
    try simp only [Bool.not_true]
    refine wpAnyH_take (i := 8) (oi := { dst := some 24, op := Op.move (Operand.tmp 23), type := 4, pos := "l03_route.go:140", after := #[{ on := 7, ground := Ground.data }, { on := 4, ground := Ground.chain }], guard := none }) (v := ?vvb8) rfl (by kernel_rfl) (by kernel_rfl) (by kernel_rfl) (fun _ _ _ h => h) (Or.inl ⟨by rfl, ?hyb8⟩) S0 ?restb8
    case hyb8 => (intro w hSw; have p0 := hSw.nums.cell; have p1 := hSw.rt.cell;go_simp <;> with_reducible rfl)
    try simp only [Act.put, List.setIfInBounds_toArray, List.set_cons_zero, List.set_cons_succ]
    try simp only [Bool.not_false]
    try simp only [Bool.not_true]
    refine wpAnyH_take (i := 9) (oi := { dst := some 25, op := Op.load 24 (Operand.tmp 5), type := 24, pos := "l03_route.go:140", after := #[{ on := 8, ground := Ground.guard }], guard := some (8, false) }) (v := undef) rfl (by kernel_rfl) (by kernel_rfl) (by kernel_rfl) (fun _ _ _ h => h) (Or.inr ⟨by rfl, rfl⟩) S0 ?_
    try simp only [Act.put, List.setIfInBounds_toArray, List.set_cons_zero, List.set_cons_succ]
    try simp only [Bool.not_false]
    try simp only [Bool.not_true]
    refine wpAnyH_take (i := 10) (oi := { dst := some 26, op := Op.call { callee := Callee.value (Operand.func 19), args := #[Operand.tmp 25], argTypes := #[24] }, type := 4, pos := "l03_route.go:140", after := #[{ on := 9, ground := Ground.data }, { on := 8, ground := Ground.chain }, { on := 8, ground := Ground.guard }], guard := some (8, false) }) (v := undef) rfl (by kernel_rfl) (by kernel_rfl) (by kernel_rfl) (fun _ _ _ h => h) (Or.inr ⟨by rfl, rfl⟩) S0 ?_
    try simp only [Act.put, List.setIfInBounds_toArray, List.set_cons_zero, List.set_cons_succ]
    try simp only [Bool.not_false]
    try simp only [Bool.not_true]
    refine wpAnyH_take (i := 11) (oi := { dst := some 27, op := Op.unOp UnOp.not 4 (Operand.tmp 26), type := 4, pos := "l03_route.go:140", after := #[{ on := 10, ground := Ground.data }, { on := 8, ground := Ground.guard }], guard := some (8, false) }) (v := undef) rfl (by kernel_rfl) (by kernel_rfl) (by kernel_rfl) (fun _ _ _ h => h) (Or.inr ⟨by rfl, rfl⟩) S0 ?_
    try simp only [Act.put, List.setIfInBounds_toArray, List.set_cons_zero, List.set_cons_succ]
    try simp only [Bool.not_false]
    try simp only [Bool.not_true]
    refine wpAnyH_take (i := 12) (oi := { dst := some 28, op := Op.pick (Operand.tmp 24) (Operand.const (Value.bool true)) (Operand.tmp 27), type := 4, pos := "l03_route.go:140", after := #[{ on := 8, ground := Ground.data }, { on := 11, ground := Ground.data }], guard := none }) (v := ?vvb12) rfl (by kernel_rfl) (by kernel_rfl) (by kernel_rfl) (fun _ _ _ h => h) (Or.inl ⟨by rfl, ?hyb12⟩) S0 ?restb12
    case hyb12 => (intro w hSw; have p0 := hSw.nums.cell; have p1 := hSw.rt.cell;go_simp <;> with_reducible rfl)
    try simp only [Act.put, List.setIfInBounds_toArray, List.set_cons_zero, List.set_cons_succ]
    try simp only [Bool.not_false]
    try simp only [Bool.not_true]
    refine wpAnyH_done (by kernel_rfl) ?_ _
    have cO := S0.out.cell
    have fO := S0.out.frozen
    have cR := S0.rt.cell
    have HL2 := Lib.hid S0.low
    clear S0
    go_wp2_with fail
    refine bodyPost_ret (v := rtOutV rt0 3) (by simp [results, Tryd.results8, go_sem, rtOutV, rt0, cO]) rfl ⟨by rw [HR.out], ?_⟩
    have := HL2.out
    go_grown
  rw [hgg] at hqe HV
  clear hgg
  cases rr
  · have HR : Hid (rrV s = rtOutV rt0 3) := Lib.hid (by rw [HV.out]; rfl)
    refine wp_region_held_drew (S := fun W' => RqAt w W' n q a b c d e f g) (by kernel_rfl) S0 (fun hHeld => ?_)
    clear hHeld
    refine wpAnyH_take (i := 0) (oi := { dst := some 16, op := Op.move (Operand.tmp 4), type := 4, pos := "l03_route.go:140", after := #[], guard := none }) (v := ?vvc1) rfl (by kernel_rfl) (by kernel_rfl) (by kernel_rfl) (fun _ _ _ h => h) (Or.inl ⟨by rfl, ?hyc1⟩) S0 ?restc1
    case hyc1 => (intro w hSw; have p0 := hSw.nums.cell; have p1 := hSw.rt.cell;go_simp <;> with_reducible rfl)
    try simp only [Act.put, List.setIfInBounds_toArray, List.set_cons_zero, List.set_cons_succ]
    try simp only [Bool.not_false]
    try simp only [Bool.not_true]
    refine wpAnyH_take (i := 1) (oi := { dst := some 17, op := Op.unOp UnOp.not 4 (Operand.tmp 16), type := 4, pos := "l03_route.go:140", after := #[{ on := 0, ground := Ground.data }], guard := none }) (v := ?vvc2) rfl (by kernel_rfl) (by kernel_rfl) (by kernel_rfl) (fun _ _ _ h => h) (Or.inl ⟨by rfl, ?hyc2⟩) S0 ?restc2
    case hyc2 => (intro w hSw; have p0 := hSw.nums.cell; have p1 := hSw.rt.cell;go_simp <;> with_reducible rfl)
    try simp only [Act.put, List.setIfInBounds_toArray, List.set_cons_zero, List.set_cons_succ]
    try simp only [Bool.not_false]
    try simp only [Bool.not_true]
    refine wpAnyH_take (i := 2) (oi := { dst := some 18, op := Op.move (Operand.tmp 17), type := 4, pos := "l03_route.go:140", after := #[{ on := 1, ground := Ground.data }], guard := none }) (v := ?vvc3) rfl (by kernel_rfl) (by kernel_rfl) (by kernel_rfl) (fun _ _ _ h => h) (Or.inl ⟨by rfl, ?hyc3⟩) S0 ?restc3
    case hyc3 => (intro w hSw; have p0 := hSw.nums.cell; have p1 := hSw.rt.cell;go_simp <;> with_reducible rfl)
    try simp only [Act.put, List.setIfInBounds_toArray, List.set_cons_zero, List.set_cons_succ]
    try simp only [Bool.not_false]
    try simp only [Bool.not_true]
    refine wpAnyH_take (i := 3) (oi := { dst := some 19, op := Op.load 24 (Operand.tmp 5), type := 24, pos := "l03_route.go:140", after := #[{ on := 2, ground := Ground.guard }], guard := some (2, false) }) (v := ?vvc4) rfl (by kernel_rfl) (by kernel_rfl) (by kernel_rfl) (fun _ _ _ h => h) (Or.inl ⟨by rfl, ?hyc4⟩) S0 ?restc4
    case hyc4 => (intro w hSw; have p0 := hSw.nums.cell; have p1 := hSw.rt.cell;go_simp <;> with_reducible rfl)
    try simp only [Act.put, List.setIfInBounds_toArray, List.set_cons_zero, List.set_cons_succ]
    try simp only [Bool.not_false]
    try simp only [Bool.not_true]
    refine wpAnyH_take (i := 5) (oi := { dst := some 21, op := Op.load 46 (Operand.tmp 3), type := 46, pos := "l03_route.go:140", after := #[{ on := 2, ground := Ground.guard }], guard := some (2, false) }) (v := ?vvc5) rfl (by kernel_rfl) (by kernel_rfl) (by kernel_rfl) (fun _ _ _ h => h) (Or.inl ⟨by rfl, ?hyc5⟩) S0 ?restc5
    case hyc5 => (intro w hSw; have p0 := hSw.nums.cell; have p1 := hSw.rt.cell;go_simp <;> with_reducible rfl)
    try simp only [Act.put, List.setIfInBounds_toArray, List.set_cons_zero, List.set_cons_succ]
    try simp only [Bool.not_false]
    try simp only [Bool.not_true]
    refine wpAnyH_ready (rs := [4]) (by kernel_rfl) (by simp) ?_
    refine AllReadyH.cons (o := { dst := some 20, op := Op.call { callee := Callee.value (Operand.func 24), args := #[Operand.tmp 19], argTypes := #[24] }, type := 46, pos := "l03_route.go:140", after := #[{ on := 3, ground := Ground.data }, { on := 2, ground := Ground.chain }, { on := 2, ground := Ground.guard }], guard := some (2, false) }) rfl (fun K hK => ?_) AllReadyH.nil
    go_simp
    refine (HNum.out _).mono ?_
    rintro ed w3 ⟨rfl, hb3⟩
    replace S0 := S0.kept hb3
    clear hb3
    refine hK.out _ _ S0 (fun hHeld => ?_)
    clear hK K hHeld
    try simp only [Act.put, List.setIfInBounds_toArray, List.set_cons_zero, List.set_cons_succ]
    try simp only [Bool.not_false]
    try simp only [Bool.not_true]
    refine wpAnyH_take (i := 6) (oi := { dst := some 22, op := Op.binOp BinOp.neq 46 (Operand.tmp 20) (Operand.tmp 21) 46, type := 4, pos := "l03_route.go:140", after := #[{ on := 4, ground := Ground.data }, { on := 5, ground := Ground.data }, { on := 2, ground := Ground.guard }], guard := some (2, false) }) (v := ?vvc6) rfl (by kernel_rfl) (by kernel_rfl) (by kernel_rfl) (fun _ _ _ h => h) (Or.inl ⟨by rfl, ?hyc6⟩) S0 ?restc6
    case hyc6 => (intro w hSw; have p0 := hSw.nums.cell; have p1 := hSw.rt.cell;go_simp <;> with_reducible rfl)
    try simp only [Act.put, List.setIfInBounds_toArray, List.set_cons_zero, List.set_cons_succ]
    try simp only [Bool.not_false]
    try simp only [Bool.not_true]
    refine wpAnyH_take (i := 7) (oi := { dst := some 23, op := Op.pick (Operand.tmp 18) (Operand.const (Value.bool true)) (Operand.tmp 22), type := 4, pos := "l03_route.go:140", after := #[{ on := 2, ground := Ground.data }, { on := 6, ground := Ground.data }], guard := none }) (v := ?vvc7) rfl (by kernel_rfl) (by kernel_rfl) (by kernel_rfl) (fun _ _ _ h => h) (Or.inl ⟨by rfl, ?hyc7⟩) S0 ?restc7
    case hyc7 => (intro w hSw; have p0 := hSw.nums.cell; have p1 := hSw.rt.cell;go_simp <;> with_reducible rfl)
    try simp only [Act.put, List.setIfInBounds_toArray, List.set_cons_zero, List.set_cons_succ]
    try simp only [Bool.not_false]
    try simp only [Bool.not_true]
    refine wpAnyH_take (i := 8) (oi := { dst := some 24, op := Op.move (Operand.tmp 23), type := 4, pos := "l03_route.go:140", after := #[{ on := 7, ground := Ground.data }, { on := 4, ground := Ground.chain }], guard := none }) (v := ?vvc8) rfl (by kernel_rfl) (by kernel_rfl) (by kernel_rfl) (fun _ _ _ h => h) (Or.inl ⟨by rfl, ?hyc8⟩) S0 ?restc8
    case hyc8 => (intro w hSw; have p0 := hSw.nums.cell; have p1 := hSw.rt.cell;go_simp <;> with_reducible rfl)
    try simp only [Act.put, List.setIfInBounds_toArray, List.set_cons_zero, List.set_cons_succ]
    try simp only [Bool.not_false]
    try simp only [Bool.not_true]
    refine wpAnyH_take (i := 9) (oi := { dst := some 25, op := Op.load 24 (Operand.tmp 5), type := 24, pos := "l03_route.go:140", after := #[{ on := 8, ground := Ground.guard }], guard := some (8, false) }) (v := ?vvc9) rfl (by kernel_rfl) (by kernel_rfl) (by kernel_rfl) (fun _ _ _ h => h) (Or.inl ⟨by rfl, ?hyc9⟩) S0 ?restc9
    case hyc9 => (intro w hSw; have p0 := hSw.nums.cell; have p1 := hSw.rt.cell;go_simp <;> with_reducible rfl)
    try simp only [Act.put, List.setIfInBounds_toArray, List.set_cons_zero, List.set_cons_succ]
    try simp only [Bool.not_false]
    try simp only [Bool.not_true]
    refine wpAnyH_ready (rs := [10]) (by kernel_rfl) (by simp) ?_
    refine AllReadyH.cons (o := { dst := some 26, op := Op.call { callee := Callee.value (Operand.func 19), args := #[Operand.tmp 25], argTypes := #[24] }, type := 4, pos := "l03_route.go:140", after := #[{ on := 9, ground := Ground.data }, { on := 8, ground := Ground.chain }, { on := 8, ground := Ground.guard }], guard := some (8, false) }) rfl (fun K hK => ?_) AllReadyH.nil
    go_simp
    refine (HA.out _).mono ?_
    rintro ed w3 ⟨rfl, hb3⟩
    replace S0 := S0.kept hb3
    clear hb3
    refine hK.out _ _ S0 (fun hHeld => ?_)
    clear hK K hHeld
    try simp only [Act.put, List.setIfInBounds_toArray, List.set_cons_zero, List.set_cons_succ]
    try simp only [Bool.not_false]
    try simp only [Bool.not_true]
    refine wpAnyH_take (i := 11) (oi := { dst := some 27, op := Op.unOp UnOp.not 4 (Operand.tmp 26), type := 4, pos := "l03_route.go:140", after := #[{ on := 10, ground := Ground.data }, { on := 8, ground := Ground.guard }], guard := some (8, false) }) (v := ?vvc10) rfl (by kernel_rfl) (by kernel_rfl) (by kernel_rfl) (fun _ _ _ h => h) (Or.inl ⟨by rfl, ?hyc10⟩) S0 ?restc10
    case hyc10 => (intro w hSw; have p0 := hSw.nums.cell; have p1 := hSw.rt.cell;go_simp <;> with_reducible rfl)
    try simp only [Act.put, List.setIfInBounds_toArray, List.set_cons_zero, List.set_cons_succ]
    try simp only [Bool.not_false]
    try simp only [Bool.not_true]
    refine wpAnyH_take (i := 12) (oi := { dst := some 28, op := Op.pick (Operand.tmp 24) (Operand.const (Value.bool true)) (Operand.tmp 27), type := 4, pos := "l03_route.go:140", after := #[{ on := 8, ground := Ground.data }, { on := 11, ground := Ground.data }], guard := none }) (v := ?vvc11) rfl (by kernel_rfl) (by kernel_rfl) (by kernel_rfl) (fun _ _ _ h => h) (Or.inl ⟨by rfl, ?hyc11⟩) S0 ?restc11
    case hyc11 => (intro w hSw; have p0 := hSw.nums.cell; have p1 := hSw.rt.cell;go_simp <;> with_reducible rfl)
    try simp only [Act.put, List.setIfInBounds_toArray, List.set_cons_zero, List.set_cons_succ]
    try simp only [Bool.not_false]
    try simp only [Bool.not_true]
    refine wpAnyH_done (by kernel_rfl) ?_ _
    have cO := S0.out.cell
    have fO := S0.out.frozen
    have cR := S0.rt.cell
    have HL2 := Lib.hid S0.low
    clear S0
    go_wp2_with fail
    refine bodyPost_ret (v := rtOutV rt0 3) (by simp [results, Tryd.results8, go_sem, rtOutV, rt0, cO]) rfl ⟨by rw [HR.out], ?_⟩
    have := HL2.out
    go_grown
  · have HR : Hid (rrV s = rtOutV ⟨a, b, c, d, e, f, g == 1⟩ 0) := Lib.hid (by rw [HV.out]; rfl)
    refine wp_region_held_drew (S := fun W' => RqAt w W' n q a b c d e f g) (by kernel_rfl) S0 (fun hHeld => ?_)
    clear hHeld
    refine wpAnyH_take (i := 0) (oi := { dst := some 16, op := Op.move (Operand.tmp 4), type := 4, pos := "l03_route.go:140", after := #[], guard := none }) (v := ?vvd1) rfl (by kernel_rfl) (by kernel_rfl) (by kernel_rfl) (fun _ _ _ h => h) (Or.inl ⟨by rfl, ?hyd1⟩) S0 ?restd1
    case hyd1 => (intro w hSw; have p0 := hSw.nums.cell; have p1 := hSw.rt.cell;go_simp <;> with_reducible rfl)
    try simp only [Act.put, List.setIfInBounds_toArray, List.set_cons_zero, List.set_cons_succ]
    try simp only [Bool.not_false]
    try simp only [Bool.not_true]
    refine wpAnyH_take (i := 1) (oi := { dst := some 17, op := Op.unOp UnOp.not 4 (Operand.tmp 16), type := 4, pos := "l03_route.go:140", after := #[{ on := 0, ground := Ground.data }], guard := none }) (v := ?vvd2) rfl (by kernel_rfl) (by kernel_rfl) (by kernel_rfl) (fun _ _ _ h => h) (Or.inl ⟨by rfl, ?hyd2⟩) S0 ?restd2
    case hyd2 => (intro w hSw; have p0 := hSw.nums.cell; have p1 := hSw.rt.cell;go_simp <;> with_reducible rfl)
    try simp only [Act.put, List.setIfInBounds_toArray, List.set_cons_zero, List.set_cons_succ]
    try simp only [Bool.not_false]
    try simp only [Bool.not_true]
    refine wpAnyH_take (i := 2) (oi := { dst := some 18, op := Op.move (Operand.tmp 17), type := 4, pos := "l03_route.go:140", after := #[{ on := 1, ground := Ground.data }], guard := none }) (v := ?vvd3) rfl (by kernel_rfl) (by kernel_rfl) (by kernel_rfl) (fun _ _ _ h => h) (Or.inl ⟨by rfl, ?hyd3⟩) S0 ?restd3
    case hyd3 => (intro w hSw; have p0 := hSw.nums.cell; have p1 := hSw.rt.cell;go_simp <;> with_reducible rfl)
    try simp only [Act.put, List.setIfInBounds_toArray, List.set_cons_zero, List.set_cons_succ]
    try simp only [Bool.not_false]
    try simp only [Bool.not_true]
    refine wpAnyH_take (i := 3) (oi := { dst := some 19, op := Op.load 24 (Operand.tmp 5), type := 24, pos := "l03_route.go:140", after := #[{ on := 2, ground := Ground.guard }], guard := some (2, false) }) (v := ?vvd4) rfl (by kernel_rfl) (by kernel_rfl) (by kernel_rfl) (fun _ _ _ h => h) (Or.inl ⟨by rfl, ?hyd4⟩) S0 ?restd4
    case hyd4 => (intro w hSw; have p0 := hSw.nums.cell; have p1 := hSw.rt.cell;go_simp <;> with_reducible rfl)
    try simp only [Act.put, List.setIfInBounds_toArray, List.set_cons_zero, List.set_cons_succ]
    try simp only [Bool.not_false]
    try simp only [Bool.not_true]
    refine wpAnyH_take (i := 5) (oi := { dst := some 21, op := Op.load 46 (Operand.tmp 3), type := 46, pos := "l03_route.go:140", after := #[{ on := 2, ground := Ground.guard }], guard := some (2, false) }) (v := ?vvd5) rfl (by kernel_rfl) (by kernel_rfl) (by kernel_rfl) (fun _ _ _ h => h) (Or.inl ⟨by rfl, ?hyd5⟩) S0 ?restd5
    case hyd5 => (intro w hSw; have p0 := hSw.nums.cell; have p1 := hSw.rt.cell;go_simp <;> with_reducible rfl)
    try simp only [Act.put, List.setIfInBounds_toArray, List.set_cons_zero, List.set_cons_succ]
    try simp only [Bool.not_false]
    try simp only [Bool.not_true]
    refine wpAnyH_ready (rs := [4]) (by kernel_rfl) (by simp) ?_
    refine AllReadyH.cons (o := { dst := some 20, op := Op.call { callee := Callee.value (Operand.func 24), args := #[Operand.tmp 19], argTypes := #[24] }, type := 46, pos := "l03_route.go:140", after := #[{ on := 3, ground := Ground.data }, { on := 2, ground := Ground.chain }, { on := 2, ground := Ground.guard }], guard := some (2, false) }) rfl (fun K hK => ?_) AllReadyH.nil
    go_simp
    refine (HNum.out _).mono ?_
    rintro ed w3 ⟨rfl, hb3⟩
    replace S0 := S0.kept hb3
    clear hb3
    refine hK.out _ _ S0 (fun hHeld => ?_)
    clear hK K hHeld
    try simp only [Act.put, List.setIfInBounds_toArray, List.set_cons_zero, List.set_cons_succ]
    try simp only [Bool.not_false]
    try simp only [Bool.not_true]
    refine wpAnyH_take (i := 6) (oi := { dst := some 22, op := Op.binOp BinOp.neq 46 (Operand.tmp 20) (Operand.tmp 21) 46, type := 4, pos := "l03_route.go:140", after := #[{ on := 4, ground := Ground.data }, { on := 5, ground := Ground.data }, { on := 2, ground := Ground.guard }], guard := some (2, false) }) (v := ?vvd6) rfl (by kernel_rfl) (by kernel_rfl) (by kernel_rfl) (fun _ _ _ h => h) (Or.inl ⟨by rfl, ?hyd6⟩) S0 ?restd6
    case hyd6 => (intro w hSw; have p0 := hSw.nums.cell; have p1 := hSw.rt.cell;go_simp <;> with_reducible rfl)
    try simp only [Act.put, List.setIfInBounds_toArray, List.set_cons_zero, List.set_cons_succ]
    try simp only [Bool.not_false]
    try simp only [Bool.not_true]
    refine wpAnyH_take (i := 7) (oi := { dst := some 23, op := Op.pick (Operand.tmp 18) (Operand.const (Value.bool true)) (Operand.tmp 22), type := 4, pos := "l03_route.go:140", after := #[{ on := 2, ground := Ground.data }, { on := 6, ground := Ground.data }], guard := none }) (v := ?vvd7) rfl (by kernel_rfl) (by kernel_rfl) (by kernel_rfl) (fun _ _ _ h => h) (Or.inl ⟨by rfl, ?hyd7⟩) S0 ?restd7
    case hyd7 => (intro w hSw; have p0 := hSw.nums.cell; have p1 := hSw.rt.cell;go_simp <;> with_reducible rfl)
    try simp only [Act.put, List.setIfInBounds_toArray, List.set_cons_zero, List.set_cons_succ]
    try simp only [Bool.not_false]
    try simp only [Bool.not_true]
    refine wpAnyH_take (i := 8) (oi := { dst := some 24, op := Op.move (Operand.tmp 23), type := 4, pos := "l03_route.go:140", after := #[{ on := 7, ground := Ground.data }, { on := 4, ground := Ground.chain }], guard := none }) (v := ?vvd8) rfl (by kernel_rfl) (by kernel_rfl) (by kernel_rfl) (fun _ _ _ h => h) (Or.inl ⟨by rfl, ?hyd8⟩) S0 ?restd8
    case hyd8 => (intro w hSw; have p0 := hSw.nums.cell; have p1 := hSw.rt.cell;go_simp <;> with_reducible rfl)
    try simp only [Act.put, List.setIfInBounds_toArray, List.set_cons_zero, List.set_cons_succ]
    try simp only [Bool.not_false]
    try simp only [Bool.not_true]
    refine wpAnyH_take (i := 9) (oi := { dst := some 25, op := Op.load 24 (Operand.tmp 5), type := 24, pos := "l03_route.go:140", after := #[{ on := 8, ground := Ground.guard }], guard := some (8, false) }) (v := ?vvd9) rfl (by kernel_rfl) (by kernel_rfl) (by kernel_rfl) (fun _ _ _ h => h) (Or.inl ⟨by rfl, ?hyd9⟩) S0 ?restd9
    case hyd9 => (intro w hSw; have p0 := hSw.nums.cell; have p1 := hSw.rt.cell;go_simp <;> with_reducible rfl)
    try simp only [Act.put, List.setIfInBounds_toArray, List.set_cons_zero, List.set_cons_succ]
    try simp only [Bool.not_false]
    try simp only [Bool.not_true]
    refine wpAnyH_ready (rs := [10]) (by kernel_rfl) (by simp) ?_
    refine AllReadyH.cons (o := { dst := some 26, op := Op.call { callee := Callee.value (Operand.func 19), args := #[Operand.tmp 25], argTypes := #[24] }, type := 4, pos := "l03_route.go:140", after := #[{ on := 9, ground := Ground.data }, { on := 8, ground := Ground.chain }, { on := 8, ground := Ground.guard }], guard := some (8, false) }) rfl (fun K hK => ?_) AllReadyH.nil
    go_simp
    refine (HA.out _).mono ?_
    rintro ed w3 ⟨rfl, hb3⟩
    replace S0 := S0.kept hb3
    clear hb3
    refine hK.out _ _ S0 (fun hHeld => ?_)
    clear hK K hHeld
    try simp only [Act.put, List.setIfInBounds_toArray, List.set_cons_zero, List.set_cons_succ]
    try simp only [Bool.not_false]
    try simp only [Bool.not_true]
    refine wpAnyH_take (i := 11) (oi := { dst := some 27, op := Op.unOp UnOp.not 4 (Operand.tmp 26), type := 4, pos := "l03_route.go:140", after := #[{ on := 10, ground := Ground.data }, { on := 8, ground := Ground.guard }], guard := some (8, false) }) (v := ?vvd10) rfl (by kernel_rfl) (by kernel_rfl) (by kernel_rfl) (fun _ _ _ h => h) (Or.inl ⟨by rfl, ?hyd10⟩) S0 ?restd10
    case hyd10 => (intro w hSw; have p0 := hSw.nums.cell; have p1 := hSw.rt.cell;go_simp <;> with_reducible rfl)
    try simp only [Act.put, List.setIfInBounds_toArray, List.set_cons_zero, List.set_cons_succ]
    try simp only [Bool.not_false]
    try simp only [Bool.not_true]
    refine wpAnyH_take (i := 12) (oi := { dst := some 28, op := Op.pick (Operand.tmp 24) (Operand.const (Value.bool true)) (Operand.tmp 27), type := 4, pos := "l03_route.go:140", after := #[{ on := 8, ground := Ground.data }, { on := 11, ground := Ground.data }], guard := none }) (v := ?vvd11) rfl (by kernel_rfl) (by kernel_rfl) (by kernel_rfl) (fun _ _ _ h => h) (Or.inl ⟨by rfl, ?hyd11⟩) S0 ?restd11
    case hyd11 => (intro w hSw; have p0 := hSw.nums.cell; have p1 := hSw.rt.cell;go_simp <;> with_reducible rfl)
    try simp only [Act.put, List.setIfInBounds_toArray, List.set_cons_zero, List.set_cons_succ]
    try simp only [Bool.not_false]
    try simp only [Bool.not_true]
    refine wpAnyH_done (by kernel_rfl) ?_ _
    have cO := S0.out.cell
    have fO := S0.out.frozen
    have cR := S0.rt.cell
    have HL2 := Lib.hid S0.low
    clear S0
    go_wp2_with fail
    refine bodyPost_ret (v := rtOutV ⟨a, b, c, d, e, f, g == 1⟩ 0) (by simp [results, Tryd.results8, go_sem, rtOutV, cO]) rfl ⟨by rw [HR.out], ?_⟩
    have := HL2.out
    go_grown

set_option maxHeartbeats 1000000 in
theorem eqRoute_same' (r : Rt) (w : World) : Calls Tryd.prog 51 #[r.val, r.val] w fun e w' => e = .returned (.bool true) ∧ Below w.heap.size w w' := eqRoute_same _ _ _ _ _ _ _ w
set_option maxHeartbeats 2000000 in
theorem eqRouteOut_same (r : Rt) (c : Int) (w : World) : Calls Tryd.prog 21 #[rtOutV r c, rtOutV r c] w fun e w' => e = .returned (.bool true) ∧ Below w.heap.size w w' := by
  have HE := Lib.hid (eqRoute_same' r)
  obtain ⟨k, v, m, i, o, s, t⟩ := r
  unfold Rt.val rtV at HE
  unfold rtOutV
  dsimp only at HE ⊢
  go_enter Tryd.func21, Tryd.ntmps21
  go_wp2_with fail
  refine (HE.out _).mono ?_
  rintro e w1 ⟨rfl, hb1⟩
  have hc1 : ∀ o, w1.cell? ⟨w.heap.size, o, none⟩ = _ := fun o => hb1.cell (p := ⟨w.heap.size, o, none⟩) (by simp <;> omega)
  have hd1 : ∀ o, w1.cell? ⟨w.heap.size + 1, o, none⟩ = _ := fun o => hb1.cell (p := ⟨w.heap.size + 1, o, none⟩) (by simp <;> omega)
  have HB1 : Hid (Below w.heap.size w w1) := Lib.hid ((((Below.refl _ _).alloc (Nat.le_refl _) _).alloc (by simp) _).trans (hb1.mono (by simp; omega)))
  clear hb1
  go_wp2_with fail
  go_ret
  exact ⟨rfl, HB1.out⟩
theorem rrV_some (s : ByteArray) : ∃ r c, rrV s = rtOutV r c := by
  unfold rrV; split
  · exact ⟨_, _, rfl⟩
  · split <;> exact ⟨_, _, rfl⟩
end Go.Proofs.YthhodnkcaefnnaaDoor
