/- RibRight, of the program. -/
import Derived.Test.YthilmonokhdjmaaRbR
namespace Go.Proofs.Ythilmonokhdjmaa
open Go.RowKit

set_option maxRecDepth 100000 in
set_option maxHeartbeats 4000000 in
theorem implRibRight_any (l : List Hd) (v : Value) (w : World) (h : HdsAt w v l) (hn : l.length ≤ 1048576) :
    Calls Try.prog 130 #[v] w (RrPost l w) := by
  obtain ⟨a, cap, rfl, h⟩ := h
  rw [List.length_map] at *
  have HH := Lib.hid h
  clear h
  have HW := Lib.hid (fun i hi => hd_way l i hi)
  have HY := Lib.hid (fun (h : l.length ≤ 60) hy => ribOk_yes h hy)
  have HL := Lib.hid (fun (h : 60 < l.length) => ribOk_long h)
  unfold RrPost
  obtain ⟨n, hnn⟩ : ∃ n, n = l.length := ⟨_, rfl⟩
  rw [← hnn] at hn HY HL ⊢
  have HN := Lib.hid hnn
  clear hnn
  by_cases hlong : 60 < n
  · have HR := Lib.hid (HL.out hlong)
    have hg : (60 : Int) < (n : Int) := by omega
    go_enter Try.func130, Try.ntmps130
    go_wp2_with fail
    go_ret
    exact ⟨bool_ret HR.out.symm, Below.refl _ _⟩
  have hg : ¬ (60 : Int) < (n : Int) := by omega
  clear HL
  go_enter Try.func130, Try.ntmps130
  go_wp2_with fail
  go_loopw [10, 3, 4] (fun u _ _ wr => ∃ i : Nat, i ≤ n ∧ u = .int .i64 (i : Int) ∧ Hid (∀ k, k < i → okAt l k = true) ∧ Hid (Below w.heap.size w wr)) (fun u _ _ _ => n - (intOf u).toNat)
  case atStart => exact ⟨0, Nat.zero_le _, rfl, Lib.hid (fun k hk => by omega), Lib.hid (Below.refl _ _)⟩
  case round =>
    obtain ⟨i, hi, rfl, HK, HB⟩ := hrel
    by_cases hlt : i < n
    · have hne : l.map Hd.cl ≠ [] := fun e => by
        have := congrArg List.length e
        rw [List.length_map, ← HN.out] at this
        simp at this; omega
      obtain ⟨b, off, ha, hb, HE⟩ := HH.out hne
      subst ha
      have hir : i < l.length := by rw [← HN.out]; exact hlt
      have hl1 : (i : Int) < n := by omega
      have HP := Lib.hid (implPeer_any (l[i]).p)
      have HRT := Lib.hid (implRight_any (l[i]).r)
      have hway := HW.out i hir
      have hrdef : (l[i]).r.val = rtV (l[i]).r.kind (l[i]).r.vni (l[i]).r.mac (l[i]).r.ip (l[i]).r.org (l[i]).r.seq (l[i]).r.st := rfl
      rw [hrdef] at HRT
      unfold rtV at HRT
      clear hrdef
      obtain ⟨p0, p1, p2, p3, p4, p5, p6, p7, p8⟩ := (elemsB HE HB.out hb).hd i hir
      have HC := Lib.hid (fun x => compareHeld_any x l[i])
      have HN0 := Lib.hid (fun x => cmpH_not x l[i])
      have HEl := Lib.hid (fun (W' : World) (hS : Below w.heap.size w W') => (elemsB HE hS hb))
      have S0 : Blk (wr.alloc (.cells (l[i]).ar 145)) wr.heap.size 145 (l[i]).ar ∧ Below w.heap.size w (wr.alloc (.cells (l[i]).ar 145)) := ⟨Blk.new _ _ _, HB.out.alloc HB.out.size _⟩
      unfold Hd.val at HC
      unfold Hd.ar at S0
      clear HE HW
      generalize hy : l[i] = y at *
      have HYI := Lib.hid hy
      clear hy
      go_upto_region 6 with fail
      generalize (wr.alloc (.cells #[.int .i64 y.p, .bool y.s, .int .i64 y.r.kind, .int .i64 y.r.vni, .int .i64 y.r.mac, .int .i64 y.r.ip, .int .i64 y.r.org, .int .i64 y.r.seq, .bool y.r.st] 145)) = W6 at S0 ⊢
      clear p0 p1 p2 p3 p4 p5 p6 p7 p8
      rcases hway with ⟨h1, hr⟩ | ⟨h1, h2, hr⟩ | ⟨h1, h2, h3, hr⟩ | ⟨h1, h2, j, h3, x, hj, hx, h4, hr⟩ | ⟨h1, h2, j, h3, x, hj, hx, h4, hr⟩
      · rw [h1] at HP
        clear h1 HRT
        have hc := S0.1.cell
        go_wp2_with (go_at_call 169; refine (HP.out _).mono ?_; rintro e w1 ⟨rfl, rfl⟩)
        go_ret
        exact ⟨bool_ret hr.out.symm, S0.2⟩
      · rw [h1] at HP
        rw [h2] at HRT
        clear h1 h2
        have hc := S0.1.cell
        go_wp2_with (first | (go_at_call 169; refine (HP.out _).mono ?_; rintro e w1 ⟨rfl, rfl⟩) | (go_at_call 170; refine (HRT.out _).mono ?_; rintro e w1 ⟨rfl, hb1⟩; replace S0 := (show Blk w1 _ _ _ ∧ Below w.heap.size w w1 from ⟨S0.1.kept hb1, S0.2.trans (hb1.mono S0.2.size)⟩); clear hb1 hc))
        go_ret
        exact ⟨bool_ret hr.out.symm, S0.2⟩
      · rw [h1] at HP
        rw [h2] at HRT
        clear h1 h2
        subst h3
        have hc := S0.1.cell
        go_wp2_with (first | (go_at_call 169; refine (HP.out _).mono ?_; rintro e w1 ⟨rfl, rfl⟩) | (go_at_call 170; refine (HRT.out _).mono ?_; rintro e w1 ⟨rfl, hb1⟩; replace S0 := (show Blk w1.drew _ _ _ ∧ Below w.heap.size w w1.drew from ⟨(S0.1.kept hb1).drew, (S0.2.trans (hb1.mono S0.2.size)).drew⟩); clear hb1 hc))
        refine wp_region_held_drew (S := fun W' => Blk W' wr.heap.size 145 #[.int .i64 y.p, .bool y.s, .int .i64 y.r.kind, .int .i64 y.r.vni, .int .i64 y.r.mac, .int .i64 y.r.ip, .int .i64 y.r.org, .int .i64 y.r.seq, .bool y.r.st] ∧ Below w.heap.size w W') (by kernel_rfl) S0 (fun hHeld => ?_)
        clear hHeld
        refine wpAnyH_take (i := 0) (oi := { dst := some 25, op := Op.move (Operand.tmp 3), type := 3, pos := "l06_rib.go:121", after := #[], guard := none }) (v := ?vvc1) rfl (by kernel_rfl) (by kernel_rfl) (by kernel_rfl) (fun _ _ _ h => h) (Or.inl ⟨by rfl, ?hyc1⟩) S0 ?restc1
        case hyc1 => (intro w hSw; go_simp <;> with_reducible rfl)
        try simp only [Act.put, List.setIfInBounds_toArray, List.set_cons_zero, List.set_cons_succ]
        refine wpAnyH_take (i := 1) (oi := { dst := some 26, op := Op.binOp BinOp.gtr 3 (Operand.tmp 25) (Operand.const (Value.int IntKind.i64 0)) 3, type := 4, pos := "l06_rib.go:121", after := #[{ on := 0, ground := Ground.data }], guard := none }) (v := ?vvc2) rfl (by kernel_rfl) (by kernel_rfl) (by kernel_rfl) (fun _ _ _ h => h) (Or.inl ⟨by rfl, ?hyc2⟩) S0 ?restc2
        case hyc2 => (intro w hSw; go_simp <;> with_reducible rfl)
        try simp only [Act.put, List.setIfInBounds_toArray, List.set_cons_zero, List.set_cons_succ]
        refine wpAnyH_take (i := 2) (oi := { dst := some 27, op := Op.move (Operand.tmp 26), type := 4, pos := "l06_rib.go:121", after := #[{ on := 1, ground := Ground.data }], guard := none }) (v := ?vvc3) rfl (by kernel_rfl) (by kernel_rfl) (by kernel_rfl) (fun _ _ _ h => h) (Or.inl ⟨by rfl, ?hyc3⟩) S0 ?restc3
        case hyc3 => (intro w hSw; go_simp <;> with_reducible rfl)
        try simp only [Act.put, List.setIfInBounds_toArray, List.set_cons_zero, List.set_cons_succ]
        refine wpAnyH_take (i := 3) (oi := { dst := some 28, op := Op.move (Operand.tmp 0), type := 83, pos := "l06_rib.go:121", after := #[{ on := 2, ground := Ground.guard }], guard := some (2, true) }) (v := undef) rfl (by kernel_rfl) (by kernel_rfl) (by kernel_rfl) (fun _ _ _ h => h) (Or.inr ⟨by rfl, rfl⟩) S0 ?_
        try simp only [Act.put, List.setIfInBounds_toArray, List.set_cons_zero, List.set_cons_succ]
        refine wpAnyH_take (i := 4) (oi := { dst := some 29, op := Op.move (Operand.tmp 3), type := 3, pos := "l06_rib.go:121", after := #[{ on := 2, ground := Ground.guard }], guard := some (2, true) }) (v := undef) rfl (by kernel_rfl) (by kernel_rfl) (by kernel_rfl) (fun _ _ _ h => h) (Or.inr ⟨by rfl, rfl⟩) S0 ?_
        try simp only [Act.put, List.setIfInBounds_toArray, List.set_cons_zero, List.set_cons_succ]
        refine wpAnyH_take (i := 5) (oi := { dst := some 30, op := Op.binOp BinOp.sub 3 (Operand.tmp 29) (Operand.const (Value.int IntKind.i64 1)) 3, type := 3, pos := "l06_rib.go:121", after := #[{ on := 4, ground := Ground.data }, { on := 2, ground := Ground.guard }], guard := some (2, true) }) (v := undef) rfl (by kernel_rfl) (by kernel_rfl) (by kernel_rfl) (fun _ _ _ h => h) (Or.inr ⟨by rfl, rfl⟩) S0 ?_
        try simp only [Act.put, List.setIfInBounds_toArray, List.set_cons_zero, List.set_cons_succ]
        refine wpAnyH_take (i := 6) (oi := { dst := some 31, op := Op.indexAddr 83 (Operand.tmp 28) (Operand.tmp 30), type := 0, pos := "l06_rib.go:121", after := #[{ on := 3, ground := Ground.data }, { on := 5, ground := Ground.data }, { on := 2, ground := Ground.guard }], guard := some (2, true) }) (v := undef) rfl (by kernel_rfl) (by kernel_rfl) (by kernel_rfl) (fun _ _ _ h => h) (Or.inr ⟨by rfl, rfl⟩) S0 ?_
        try simp only [Act.put, List.setIfInBounds_toArray, List.set_cons_zero, List.set_cons_succ]
        refine wpAnyH_take (i := 7) (oi := { dst := some 32, op := Op.load 145 (Operand.tmp 31), type := 145, pos := "l06_rib.go:121", after := #[{ on := 6, ground := Ground.data }, { on := 2, ground := Ground.guard }], guard := some (2, true) }) (v := undef) rfl (by kernel_rfl) (by kernel_rfl) (by kernel_rfl) (fun _ _ _ h => h) (Or.inr ⟨by rfl, rfl⟩) S0 ?_
        try simp only [Act.put, List.setIfInBounds_toArray, List.set_cons_zero, List.set_cons_succ]
        refine wpAnyH_take (i := 8) (oi := { dst := some 33, op := Op.load 145 (Operand.tmp 4), type := 145, pos := "l06_rib.go:121", after := #[{ on := 2, ground := Ground.guard }], guard := some (2, true) }) (v := undef) rfl (by kernel_rfl) (by kernel_rfl) (by kernel_rfl) (fun _ _ _ h => h) (Or.inr ⟨by rfl, rfl⟩) S0 ?_
        try simp only [Act.put, List.setIfInBounds_toArray, List.set_cons_zero, List.set_cons_succ]
        refine wpAnyH_take (i := 9) (oi := { dst := some 34, op := Op.call { callee := Callee.value (Operand.func 171), args := #[Operand.tmp 32, Operand.tmp 33], argTypes := #[145, 145] }, type := 3, pos := "l06_rib.go:121", after := #[{ on := 7, ground := Ground.data }, { on := 8, ground := Ground.data }, { on := 2, ground := Ground.chain }, { on := 2, ground := Ground.guard }], guard := some (2, true) }) (v := undef) rfl (by kernel_rfl) (by kernel_rfl) (by kernel_rfl) (fun _ _ _ h => h) (Or.inr ⟨by rfl, rfl⟩) S0 ?_
        try simp only [Act.put, List.setIfInBounds_toArray, List.set_cons_zero, List.set_cons_succ]
        refine wpAnyH_take (i := 10) (oi := { dst := some 35, op := Op.binOp BinOp.geq 3 (Operand.tmp 34) (Operand.const (Value.int IntKind.i64 0)) 3, type := 4, pos := "l06_rib.go:121", after := #[{ on := 9, ground := Ground.data }, { on := 2, ground := Ground.guard }], guard := some (2, true) }) (v := undef) rfl (by kernel_rfl) (by kernel_rfl) (by kernel_rfl) (fun _ _ _ h => h) (Or.inr ⟨by rfl, rfl⟩) S0 ?_
        try simp only [Act.put, List.setIfInBounds_toArray, List.set_cons_zero, List.set_cons_succ]
        refine wpAnyH_take (i := 11) (oi := { dst := some 36, op := Op.pick (Operand.tmp 27) (Operand.tmp 35) (Operand.const (Value.bool false)), type := 4, pos := "l06_rib.go:121", after := #[{ on := 2, ground := Ground.data }, { on := 10, ground := Ground.data }], guard := none }) (v := ?vvc12) rfl (by kernel_rfl) (by kernel_rfl) (by kernel_rfl) (fun _ _ _ h => h) (Or.inl ⟨by rfl, ?hyc12⟩) S0 ?restc12
        case hyc12 => (intro w hSw; go_simp <;> with_reducible rfl)
        try simp only [Act.put, List.setIfInBounds_toArray, List.set_cons_zero, List.set_cons_succ]
        refine wpAnyH_done (by kernel_rfl) ?_ _
        go_wp2_with fail
        go_roundw
        case rel => exact ⟨1, by omega, by simp, Lib.hid (fun k hk => by have e : k = 0 := (by omega); subst e; exact hr.out), Lib.hid S0.2⟩
        case measure => simp [intOf]; omega
      · rw [h1] at HP
        rw [h2] at HRT
        have HCx := Lib.hid (HC.out x)
        have HEj := Lib.hid (fun (W' : World) (hS : Below w.heap.size w W') => (HEl.out W' hS).hd j hj)
        rw [hx.out] at HEj
        have hge := HN0.out x
        rw [h4] at hge
        have hge2 : ¬ (0 : Int) ≤ cmpH x y := by simpa using hge
        clear h1 h2 h4 hx hge HC HN0
        generalize cmpH x y = cxy at *
        subst h3
        have hj0 : (0 : Int) < (j : Int) + 1 := by omega
        have hj00 : (0 : Int) ≤ (j : Int) + 1 := by omega
        have hjn : j < n := by omega
        have hj1 : IntKind.i64.wrap (j : Int) = (j : Int) := by simp only [IntKind.wrap_i64]; omega
        rw [Int.natCast_add] at *
        have hc := S0.1.cell
        go_wp2_with (first | (go_at_call 169; refine (HP.out _).mono ?_; rintro e w1 ⟨rfl, rfl⟩) | (go_at_call 170; refine (HRT.out _).mono ?_; rintro e w1 ⟨rfl, hb1⟩; replace S0 := (show Blk w1.drew _ _ _ ∧ Below w.heap.size w w1.drew from ⟨(S0.1.kept hb1).drew, (S0.2.trans (hb1.mono S0.2.size)).drew⟩); clear hb1 hc))
        refine wp_region_held_drew (S := fun W' => Blk W' wr.heap.size 145 #[.int .i64 y.p, .bool y.s, .int .i64 y.r.kind, .int .i64 y.r.vni, .int .i64 y.r.mac, .int .i64 y.r.ip, .int .i64 y.r.org, .int .i64 y.r.seq, .bool y.r.st] ∧ Below w.heap.size w W') (by kernel_rfl) S0 (fun hHeld => ?_)
        clear hHeld
        refine wpAnyH_take (i := 0) (oi := { dst := some 25, op := Op.move (Operand.tmp 3), type := 3, pos := "l06_rib.go:121", after := #[], guard := none }) (v := ?vvd1) rfl (by kernel_rfl) (by kernel_rfl) (by kernel_rfl) (fun _ _ _ h => h) (Or.inl ⟨by rfl, ?hyd1⟩) S0 ?restd1
        case hyd1 => (intro w hSw; have hc := hSw.1.cell; obtain ⟨q0, q1, q2, q3, q4, q5, q6, q7, q8⟩ := HEj.out _ hSw.2;go_simp <;> with_reducible rfl)
        try simp only [Act.put, List.setIfInBounds_toArray, List.set_cons_zero, List.set_cons_succ]
        refine wpAnyH_take (i := 1) (oi := { dst := some 26, op := Op.binOp BinOp.gtr 3 (Operand.tmp 25) (Operand.const (Value.int IntKind.i64 0)) 3, type := 4, pos := "l06_rib.go:121", after := #[{ on := 0, ground := Ground.data }], guard := none }) (v := ?vvd2) rfl (by kernel_rfl) (by kernel_rfl) (by kernel_rfl) (fun _ _ _ h => h) (Or.inl ⟨by rfl, ?hyd2⟩) S0 ?restd2
        case hyd2 => (intro w hSw; have hc := hSw.1.cell; obtain ⟨q0, q1, q2, q3, q4, q5, q6, q7, q8⟩ := HEj.out _ hSw.2;go_simp <;> with_reducible rfl)
        try simp only [Act.put, List.setIfInBounds_toArray, List.set_cons_zero, List.set_cons_succ]
        refine wpAnyH_take (i := 2) (oi := { dst := some 27, op := Op.move (Operand.tmp 26), type := 4, pos := "l06_rib.go:121", after := #[{ on := 1, ground := Ground.data }], guard := none }) (v := ?vvd3) rfl (by kernel_rfl) (by kernel_rfl) (by kernel_rfl) (fun _ _ _ h => h) (Or.inl ⟨by rfl, ?hyd3⟩) S0 ?restd3
        case hyd3 => (intro w hSw; have hc := hSw.1.cell; obtain ⟨q0, q1, q2, q3, q4, q5, q6, q7, q8⟩ := HEj.out _ hSw.2;go_simp <;> with_reducible rfl)
        try simp only [Act.put, List.setIfInBounds_toArray, List.set_cons_zero, List.set_cons_succ]
        refine wpAnyH_take (i := 3) (oi := { dst := some 28, op := Op.move (Operand.tmp 0), type := 83, pos := "l06_rib.go:121", after := #[{ on := 2, ground := Ground.guard }], guard := some (2, true) }) (v := ?vvd4) rfl (by kernel_rfl) (by kernel_rfl) (by kernel_rfl) (fun _ _ _ h => h) (Or.inl ⟨by rfl, ?hyd4⟩) S0 ?restd4
        case hyd4 => (intro w hSw; have hc := hSw.1.cell; obtain ⟨q0, q1, q2, q3, q4, q5, q6, q7, q8⟩ := HEj.out _ hSw.2;go_simp <;> with_reducible rfl)
        try simp only [Act.put, List.setIfInBounds_toArray, List.set_cons_zero, List.set_cons_succ]
        refine wpAnyH_take (i := 4) (oi := { dst := some 29, op := Op.move (Operand.tmp 3), type := 3, pos := "l06_rib.go:121", after := #[{ on := 2, ground := Ground.guard }], guard := some (2, true) }) (v := ?vvd5) rfl (by kernel_rfl) (by kernel_rfl) (by kernel_rfl) (fun _ _ _ h => h) (Or.inl ⟨by rfl, ?hyd5⟩) S0 ?restd5
        case hyd5 => (intro w hSw; have hc := hSw.1.cell; obtain ⟨q0, q1, q2, q3, q4, q5, q6, q7, q8⟩ := HEj.out _ hSw.2;go_simp <;> with_reducible rfl)
        try simp only [Act.put, List.setIfInBounds_toArray, List.set_cons_zero, List.set_cons_succ]
        refine wpAnyH_take (i := 5) (oi := { dst := some 30, op := Op.binOp BinOp.sub 3 (Operand.tmp 29) (Operand.const (Value.int IntKind.i64 1)) 3, type := 3, pos := "l06_rib.go:121", after := #[{ on := 4, ground := Ground.data }, { on := 2, ground := Ground.guard }], guard := some (2, true) }) (v := ?vvd6) rfl (by kernel_rfl) (by kernel_rfl) (by kernel_rfl) (fun _ _ _ h => h) (Or.inl ⟨by rfl, ?hyd6⟩) S0 ?restd6
        case hyd6 => (intro w hSw; have hc := hSw.1.cell; obtain ⟨q0, q1, q2, q3, q4, q5, q6, q7, q8⟩ := HEj.out _ hSw.2;go_simp <;> with_reducible rfl)
        try simp only [Act.put, List.setIfInBounds_toArray, List.set_cons_zero, List.set_cons_succ]
        refine wpAnyH_take (i := 6) (oi := { dst := some 31, op := Op.indexAddr 83 (Operand.tmp 28) (Operand.tmp 30), type := 0, pos := "l06_rib.go:121", after := #[{ on := 3, ground := Ground.data }, { on := 5, ground := Ground.data }, { on := 2, ground := Ground.guard }], guard := some (2, true) }) (v := ?vvd7) rfl (by kernel_rfl) (by kernel_rfl) (by kernel_rfl) (fun _ _ _ h => h) (Or.inl ⟨by rfl, ?hyd7⟩) S0 ?restd7
        case hyd7 => (intro w hSw; have hc := hSw.1.cell; obtain ⟨q0, q1, q2, q3, q4, q5, q6, q7, q8⟩ := HEj.out _ hSw.2;go_simp <;> with_reducible rfl)
        try simp only [Act.put, List.setIfInBounds_toArray, List.set_cons_zero, List.set_cons_succ]
        refine wpAnyH_take (i := 7) (oi := { dst := some 32, op := Op.load 145 (Operand.tmp 31), type := 145, pos := "l06_rib.go:121", after := #[{ on := 6, ground := Ground.data }, { on := 2, ground := Ground.guard }], guard := some (2, true) }) (v := ?vvd8) rfl (by kernel_rfl) (by kernel_rfl) (by kernel_rfl) (fun _ _ _ h => h) (Or.inl ⟨by rfl, ?hyd8⟩) S0 ?restd8
        case hyd8 => (intro w hSw; have hc := hSw.1.cell; obtain ⟨q0, q1, q2, q3, q4, q5, q6, q7, q8⟩ := HEj.out _ hSw.2;go_simp <;> with_reducible rfl)
        try simp only [Act.put, List.setIfInBounds_toArray, List.set_cons_zero, List.set_cons_succ]
        refine wpAnyH_take (i := 8) (oi := { dst := some 33, op := Op.load 145 (Operand.tmp 4), type := 145, pos := "l06_rib.go:121", after := #[{ on := 2, ground := Ground.guard }], guard := some (2, true) }) (v := ?vvd9) rfl (by kernel_rfl) (by kernel_rfl) (by kernel_rfl) (fun _ _ _ h => h) (Or.inl ⟨by rfl, ?hyd9⟩) S0 ?restd9
        case hyd9 => (intro w hSw; have hc := hSw.1.cell; obtain ⟨q0, q1, q2, q3, q4, q5, q6, q7, q8⟩ := HEj.out _ hSw.2;go_simp <;> with_reducible rfl)
        try simp only [Act.put, List.setIfInBounds_toArray, List.set_cons_zero, List.set_cons_succ]
        refine wpAnyH_ready (rs := [9]) (by kernel_rfl) (by simp) ?_
        refine AllReadyH.cons (o := { dst := some 34, op := Op.call { callee := Callee.value (Operand.func 171), args := #[Operand.tmp 32, Operand.tmp 33], argTypes := #[145, 145] }, type := 3, pos := "l06_rib.go:121", after := #[{ on := 7, ground := Ground.data }, { on := 8, ground := Ground.data }, { on := 2, ground := Ground.chain }, { on := 2, ground := Ground.guard }], guard := some (2, true) }) rfl (fun K hK => ?_) AllReadyH.nil
        go_simp
        refine (HCx.out _).mono ?_
        rintro e w1 ⟨rfl, hb1⟩
        replace S0 := (show Blk w1 _ _ _ ∧ Below w.heap.size w w1 from ⟨S0.1.kept hb1, S0.2.trans (hb1.mono S0.2.size)⟩)
        clear hb1
        refine hK.out _ _ S0 (fun hHeld => ?_)
        clear hK K hHeld
        try simp only [Act.put, List.setIfInBounds_toArray, List.set_cons_zero, List.set_cons_succ]
        refine wpAnyH_take (i := 10) (oi := { dst := some 35, op := Op.binOp BinOp.geq 3 (Operand.tmp 34) (Operand.const (Value.int IntKind.i64 0)) 3, type := 4, pos := "l06_rib.go:121", after := #[{ on := 9, ground := Ground.data }, { on := 2, ground := Ground.guard }], guard := some (2, true) }) (v := ?vvd10) rfl (by kernel_rfl) (by kernel_rfl) (by kernel_rfl) (fun _ _ _ h => h) (Or.inl ⟨by rfl, ?hyd10⟩) S0 ?restd10
        case hyd10 => (intro w hSw; have hc := hSw.1.cell; obtain ⟨q0, q1, q2, q3, q4, q5, q6, q7, q8⟩ := HEj.out _ hSw.2;go_simp <;> with_reducible rfl)
        try simp only [Act.put, List.setIfInBounds_toArray, List.set_cons_zero, List.set_cons_succ]
        refine wpAnyH_take (i := 11) (oi := { dst := some 36, op := Op.pick (Operand.tmp 27) (Operand.tmp 35) (Operand.const (Value.bool false)), type := 4, pos := "l06_rib.go:121", after := #[{ on := 2, ground := Ground.data }, { on := 10, ground := Ground.data }], guard := none }) (v := ?vvd11) rfl (by kernel_rfl) (by kernel_rfl) (by kernel_rfl) (fun _ _ _ h => h) (Or.inl ⟨by rfl, ?hyd11⟩) S0 ?restd11
        case hyd11 => (intro w hSw; have hc := hSw.1.cell; obtain ⟨q0, q1, q2, q3, q4, q5, q6, q7, q8⟩ := HEj.out _ hSw.2;go_simp <;> with_reducible rfl)
        try simp only [Act.put, List.setIfInBounds_toArray, List.set_cons_zero, List.set_cons_succ]
        refine wpAnyH_done (by kernel_rfl) ?_ _
        go_wp2_with fail
        go_roundw
        case rel => exact ⟨j + 1 + 1, by omega, by simp, Lib.hid (fun k hk => by
          by_cases e : k = j + 1
          · subst e; exact hr.out
          · exact HK.out k (by omega)), Lib.hid S0.2⟩
        case measure => simp [intOf]; omega
      · rw [h1] at HP
        rw [h2] at HRT
        have HCx := Lib.hid (HC.out x)
        have HEj := Lib.hid (fun (W' : World) (hS : Below w.heap.size w W') => (HEl.out W' hS).hd j hj)
        rw [hx.out] at HEj
        have hge := HN0.out x
        rw [h4] at hge
        have hge2 : (0 : Int) ≤ cmpH x y := by simpa using hge
        clear h1 h2 h4 hx hge HC HN0
        generalize cmpH x y = cxy at *
        subst h3
        have hj0 : (0 : Int) < (j : Int) + 1 := by omega
        have hj00 : (0 : Int) ≤ (j : Int) + 1 := by omega
        have hjn : j < n := by omega
        have hj1 : IntKind.i64.wrap (j : Int) = (j : Int) := by simp only [IntKind.wrap_i64]; omega
        rw [Int.natCast_add] at *
        have hc := S0.1.cell
        go_wp2_with (first | (go_at_call 169; refine (HP.out _).mono ?_; rintro e w1 ⟨rfl, rfl⟩) | (go_at_call 170; refine (HRT.out _).mono ?_; rintro e w1 ⟨rfl, hb1⟩; replace S0 := (show Blk w1.drew _ _ _ ∧ Below w.heap.size w w1.drew from ⟨(S0.1.kept hb1).drew, (S0.2.trans (hb1.mono S0.2.size)).drew⟩); clear hb1 hc))
        refine wp_region_held_drew (S := fun W' => Blk W' wr.heap.size 145 #[.int .i64 y.p, .bool y.s, .int .i64 y.r.kind, .int .i64 y.r.vni, .int .i64 y.r.mac, .int .i64 y.r.ip, .int .i64 y.r.org, .int .i64 y.r.seq, .bool y.r.st] ∧ Below w.heap.size w W') (by kernel_rfl) S0 (fun hHeld => ?_)
        clear hHeld
        refine wpAnyH_take (i := 0) (oi := { dst := some 25, op := Op.move (Operand.tmp 3), type := 3, pos := "l06_rib.go:121", after := #[], guard := none }) (v := ?vve1) rfl (by kernel_rfl) (by kernel_rfl) (by kernel_rfl) (fun _ _ _ h => h) (Or.inl ⟨by rfl, ?hye1⟩) S0 ?reste1
        case hye1 => (intro w hSw; have hc := hSw.1.cell; obtain ⟨q0, q1, q2, q3, q4, q5, q6, q7, q8⟩ := HEj.out _ hSw.2;go_simp <;> with_reducible rfl)
        try simp only [Act.put, List.setIfInBounds_toArray, List.set_cons_zero, List.set_cons_succ]
        refine wpAnyH_take (i := 1) (oi := { dst := some 26, op := Op.binOp BinOp.gtr 3 (Operand.tmp 25) (Operand.const (Value.int IntKind.i64 0)) 3, type := 4, pos := "l06_rib.go:121", after := #[{ on := 0, ground := Ground.data }], guard := none }) (v := ?vve2) rfl (by kernel_rfl) (by kernel_rfl) (by kernel_rfl) (fun _ _ _ h => h) (Or.inl ⟨by rfl, ?hye2⟩) S0 ?reste2
        case hye2 => (intro w hSw; have hc := hSw.1.cell; obtain ⟨q0, q1, q2, q3, q4, q5, q6, q7, q8⟩ := HEj.out _ hSw.2;go_simp <;> with_reducible rfl)
        try simp only [Act.put, List.setIfInBounds_toArray, List.set_cons_zero, List.set_cons_succ]
        refine wpAnyH_take (i := 2) (oi := { dst := some 27, op := Op.move (Operand.tmp 26), type := 4, pos := "l06_rib.go:121", after := #[{ on := 1, ground := Ground.data }], guard := none }) (v := ?vve3) rfl (by kernel_rfl) (by kernel_rfl) (by kernel_rfl) (fun _ _ _ h => h) (Or.inl ⟨by rfl, ?hye3⟩) S0 ?reste3
        case hye3 => (intro w hSw; have hc := hSw.1.cell; obtain ⟨q0, q1, q2, q3, q4, q5, q6, q7, q8⟩ := HEj.out _ hSw.2;go_simp <;> with_reducible rfl)
        try simp only [Act.put, List.setIfInBounds_toArray, List.set_cons_zero, List.set_cons_succ]
        refine wpAnyH_take (i := 3) (oi := { dst := some 28, op := Op.move (Operand.tmp 0), type := 83, pos := "l06_rib.go:121", after := #[{ on := 2, ground := Ground.guard }], guard := some (2, true) }) (v := ?vve4) rfl (by kernel_rfl) (by kernel_rfl) (by kernel_rfl) (fun _ _ _ h => h) (Or.inl ⟨by rfl, ?hye4⟩) S0 ?reste4
        case hye4 => (intro w hSw; have hc := hSw.1.cell; obtain ⟨q0, q1, q2, q3, q4, q5, q6, q7, q8⟩ := HEj.out _ hSw.2;go_simp <;> with_reducible rfl)
        try simp only [Act.put, List.setIfInBounds_toArray, List.set_cons_zero, List.set_cons_succ]
        refine wpAnyH_take (i := 4) (oi := { dst := some 29, op := Op.move (Operand.tmp 3), type := 3, pos := "l06_rib.go:121", after := #[{ on := 2, ground := Ground.guard }], guard := some (2, true) }) (v := ?vve5) rfl (by kernel_rfl) (by kernel_rfl) (by kernel_rfl) (fun _ _ _ h => h) (Or.inl ⟨by rfl, ?hye5⟩) S0 ?reste5
        case hye5 => (intro w hSw; have hc := hSw.1.cell; obtain ⟨q0, q1, q2, q3, q4, q5, q6, q7, q8⟩ := HEj.out _ hSw.2;go_simp <;> with_reducible rfl)
        try simp only [Act.put, List.setIfInBounds_toArray, List.set_cons_zero, List.set_cons_succ]
        refine wpAnyH_take (i := 5) (oi := { dst := some 30, op := Op.binOp BinOp.sub 3 (Operand.tmp 29) (Operand.const (Value.int IntKind.i64 1)) 3, type := 3, pos := "l06_rib.go:121", after := #[{ on := 4, ground := Ground.data }, { on := 2, ground := Ground.guard }], guard := some (2, true) }) (v := ?vve6) rfl (by kernel_rfl) (by kernel_rfl) (by kernel_rfl) (fun _ _ _ h => h) (Or.inl ⟨by rfl, ?hye6⟩) S0 ?reste6
        case hye6 => (intro w hSw; have hc := hSw.1.cell; obtain ⟨q0, q1, q2, q3, q4, q5, q6, q7, q8⟩ := HEj.out _ hSw.2;go_simp <;> with_reducible rfl)
        try simp only [Act.put, List.setIfInBounds_toArray, List.set_cons_zero, List.set_cons_succ]
        refine wpAnyH_take (i := 6) (oi := { dst := some 31, op := Op.indexAddr 83 (Operand.tmp 28) (Operand.tmp 30), type := 0, pos := "l06_rib.go:121", after := #[{ on := 3, ground := Ground.data }, { on := 5, ground := Ground.data }, { on := 2, ground := Ground.guard }], guard := some (2, true) }) (v := ?vve7) rfl (by kernel_rfl) (by kernel_rfl) (by kernel_rfl) (fun _ _ _ h => h) (Or.inl ⟨by rfl, ?hye7⟩) S0 ?reste7
        case hye7 => (intro w hSw; have hc := hSw.1.cell; obtain ⟨q0, q1, q2, q3, q4, q5, q6, q7, q8⟩ := HEj.out _ hSw.2;go_simp <;> with_reducible rfl)
        try simp only [Act.put, List.setIfInBounds_toArray, List.set_cons_zero, List.set_cons_succ]
        refine wpAnyH_take (i := 7) (oi := { dst := some 32, op := Op.load 145 (Operand.tmp 31), type := 145, pos := "l06_rib.go:121", after := #[{ on := 6, ground := Ground.data }, { on := 2, ground := Ground.guard }], guard := some (2, true) }) (v := ?vve8) rfl (by kernel_rfl) (by kernel_rfl) (by kernel_rfl) (fun _ _ _ h => h) (Or.inl ⟨by rfl, ?hye8⟩) S0 ?reste8
        case hye8 => (intro w hSw; have hc := hSw.1.cell; obtain ⟨q0, q1, q2, q3, q4, q5, q6, q7, q8⟩ := HEj.out _ hSw.2;go_simp <;> with_reducible rfl)
        try simp only [Act.put, List.setIfInBounds_toArray, List.set_cons_zero, List.set_cons_succ]
        refine wpAnyH_take (i := 8) (oi := { dst := some 33, op := Op.load 145 (Operand.tmp 4), type := 145, pos := "l06_rib.go:121", after := #[{ on := 2, ground := Ground.guard }], guard := some (2, true) }) (v := ?vve9) rfl (by kernel_rfl) (by kernel_rfl) (by kernel_rfl) (fun _ _ _ h => h) (Or.inl ⟨by rfl, ?hye9⟩) S0 ?reste9
        case hye9 => (intro w hSw; have hc := hSw.1.cell; obtain ⟨q0, q1, q2, q3, q4, q5, q6, q7, q8⟩ := HEj.out _ hSw.2;go_simp <;> with_reducible rfl)
        try simp only [Act.put, List.setIfInBounds_toArray, List.set_cons_zero, List.set_cons_succ]
        refine wpAnyH_ready (rs := [9]) (by kernel_rfl) (by simp) ?_
        refine AllReadyH.cons (o := { dst := some 34, op := Op.call { callee := Callee.value (Operand.func 171), args := #[Operand.tmp 32, Operand.tmp 33], argTypes := #[145, 145] }, type := 3, pos := "l06_rib.go:121", after := #[{ on := 7, ground := Ground.data }, { on := 8, ground := Ground.data }, { on := 2, ground := Ground.chain }, { on := 2, ground := Ground.guard }], guard := some (2, true) }) rfl (fun K hK => ?_) AllReadyH.nil
        go_simp
        refine (HCx.out _).mono ?_
        rintro e w1 ⟨rfl, hb1⟩
        replace S0 := (show Blk w1 _ _ _ ∧ Below w.heap.size w w1 from ⟨S0.1.kept hb1, S0.2.trans (hb1.mono S0.2.size)⟩)
        clear hb1
        refine hK.out _ _ S0 (fun hHeld => ?_)
        clear hK K hHeld
        try simp only [Act.put, List.setIfInBounds_toArray, List.set_cons_zero, List.set_cons_succ]
        refine wpAnyH_take (i := 10) (oi := { dst := some 35, op := Op.binOp BinOp.geq 3 (Operand.tmp 34) (Operand.const (Value.int IntKind.i64 0)) 3, type := 4, pos := "l06_rib.go:121", after := #[{ on := 9, ground := Ground.data }, { on := 2, ground := Ground.guard }], guard := some (2, true) }) (v := ?vve10) rfl (by kernel_rfl) (by kernel_rfl) (by kernel_rfl) (fun _ _ _ h => h) (Or.inl ⟨by rfl, ?hye10⟩) S0 ?reste10
        case hye10 => (intro w hSw; have hc := hSw.1.cell; obtain ⟨q0, q1, q2, q3, q4, q5, q6, q7, q8⟩ := HEj.out _ hSw.2;go_simp <;> with_reducible rfl)
        try simp only [Act.put, List.setIfInBounds_toArray, List.set_cons_zero, List.set_cons_succ]
        refine wpAnyH_take (i := 11) (oi := { dst := some 36, op := Op.pick (Operand.tmp 27) (Operand.tmp 35) (Operand.const (Value.bool false)), type := 4, pos := "l06_rib.go:121", after := #[{ on := 2, ground := Ground.data }, { on := 10, ground := Ground.data }], guard := none }) (v := ?vve11) rfl (by kernel_rfl) (by kernel_rfl) (by kernel_rfl) (fun _ _ _ h => h) (Or.inl ⟨by rfl, ?hye11⟩) S0 ?reste11
        case hye11 => (intro w hSw; have hc := hSw.1.cell; obtain ⟨q0, q1, q2, q3, q4, q5, q6, q7, q8⟩ := HEj.out _ hSw.2;go_simp <;> with_reducible rfl)
        try simp only [Act.put, List.setIfInBounds_toArray, List.set_cons_zero, List.set_cons_succ]
        refine wpAnyH_done (by kernel_rfl) ?_ _
        go_wp2_with fail
        go_ret
        exact ⟨bool_ret hr.out.symm, S0.2⟩
    · have : i = n := by omega
      subst this
      have HR := Lib.hid (HY.out (by omega) (fun k hk => HK.out k (by have := HN.out; omega)))
      go_wp2_with fail
      go_ret
      exact ⟨bool_ret HR.out.symm, HB.out⟩
end Go.Proofs.Ythilmonokhdjmaa
