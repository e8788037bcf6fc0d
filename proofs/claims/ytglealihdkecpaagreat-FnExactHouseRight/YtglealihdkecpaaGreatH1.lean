import Derived.Test.YtglealihdkecpaaGreatHoM
import Derived.Test.YtglealihdkecpaaGreatFmI
import Derived.Test.YtglealihdkecpaaGreatHoO
import Derived.Test.YtglealihdkecpaaGreatC1
import Derived.Test.YtglealihdkecpaaGreatRbI
import Derived.Test.YtglealihdkecpaaGreatGsR
import Derived.Test.YtglealihdkecpaaGreatMsR
import Derived.Test.YtglealihdkecpaaGreatLkF
/- The program's tests of a house's lists: rooms of doors, closures. -/
namespace Go.Proofs.YtglealihdkecpaaGreat
open Go.RowKit

set_option maxRecDepth 100000 in
set_option maxHeartbeats 1000000 in
theorem implRoomAt_any (l : List Int) (v : Value) (d : Int) (w : World) (h : SlAt w 1 v (l.map clI)) (hn : l.length ≤ 1048576) :
    Calls Tryz.prog 120 #[v, .int .i64 d] w fun e w' => e = .returned (.int .i64 (roomAt l d)) ∧ w = w' := by
  obtain ⟨a, cap, rfl, h⟩ := h
  rw [List.length_map] at *
  have HH := Lib.hid h
  clear h
  by_cases h1 : d < 1
  · have HR : Hid (roomAt l d = 0) := Lib.hid (roomAt_none (by omega))
    generalize roomAt l d = R at *
    go_enter Tryz.func120, Tryz.ntmps120
    go_wp2_with fail
    go_ret
    exact ⟨i64_ret HR.out.symm, rfl⟩
  · by_cases h2 : (l.length : Int) < d
    · have HR : Hid (roomAt l d = 0) := Lib.hid (by unfold roomAt; rw [if_neg (by omega)])
      generalize roomAt l d = R at *
      go_enter Tryz.func120, Tryz.ntmps120
      go_wp2_with fail
      go_ret
      exact ⟨i64_ret HR.out.symm, rfl⟩
    · obtain ⟨k, rfl⟩ : ∃ k : Nat, d = (k : Int) + 1 := ⟨(d - 1).toNat, by omega⟩
      have hk : k < l.length := by omega
      have HR : Hid (roomAt l ((k : Int) + 1) = l[k]) := Lib.hid (by
        unfold roomAt
        rw [if_pos (by omega), show ((k : Int) + 1 - 1).toNat = k by omega, List.getElem?_eq_getElem hk]
        rfl)
      generalize roomAt l ((k : Int) + 1) = R at *
      have hne : l.map clI ≠ [] := fun e => by
        have := congrArg List.length e
        rw [List.length_map] at this
        simp at this; rw [this] at hk; simp at hk
      obtain ⟨b, off, ha, hb, HE⟩ := HH.out hne
      subst ha
      have p0 : w.cell? ⟨b, off + k, none⟩ = some (.int .i64 l[k]) := by
        have := HE k (clI l[k]) (by rw [List.getElem?_map, List.getElem?_eq_getElem hk]; rfl) 0 _ rfl
        simpa using this
      have hw : IntKind.i64.wrap (k : Int) = (k : Int) := by simp only [IntKind.wrap_i64]; omega
      have hk0 : (k : Int) < (l.length : Int) := by omega
      clear HE
      generalize l[k] = y at *
      go_enter Tryz.func120, Tryz.ntmps120
      go_wp2_with fail
      go_ret
      exact ⟨i64_ret HR.out.symm, rfl⟩
theorem doorsC_any (n : Int) (w : World) : Calls Tryz.prog 110 #[.int .i64 n] w fun e w' => e = .returned (.bool (decide (n ≠ 0) && !isVni n)) ∧ w = w' := by
  by_cases h0 : n = 0
  · subst h0
    go_enter Tryz.func110, Tryz.ntmps110
    go_wp2_with fail
    go_ret
    exact ⟨rfl, rfl⟩
  · have hX1 : decide (n = 0) = false := decide_eq_false h0
    have hX2 : (n == 0) = false := by simpa using h0
    have HR : Hid ((decide (n ≠ 0) && !isVni n) = !isVni n) := Lib.hid (by simp [h0])
    generalize (decide (n ≠ 0) && !isVni n) = R at *
    go_enter Tryz.func110, Tryz.ntmps110
    go_wp2_with (go_at_call 90; refine (implVni_any _ _).mono ?_; rintro e w' ⟨rfl, rfl⟩)
    go_ret
    exact ⟨bool_ret (by rw [HR.out]; simp [h0]), rfl⟩
set_option maxHeartbeats 1000000 in
theorem pipesC_any (x : Pi) (ep : Int) (q : Nat) (W : World) (hq : q < W.heap.size) (hc : W.cell? ⟨q, 0, none⟩ = some (.int .i64 ep)) (hs : StsAt W x.v x.l) :
    Calls Tryz.prog 112 #[x.val, .pointer (some ⟨q, 0, none⟩)] W fun e w' => e = .returned (.bool (!x.right || decide (ep < x.e))) ∧ Below W.heap.size W w' := by
  have HI := Lib.hid (fun (W' : World) (hb : Below W.heap.size W W') => implPipeRight_any x.e x.p x.b x.i x.v x.l W' (hs.kept hb))
  have HQ : Hid (x.right = ppRight x.e x.p x.b x.i x.l) := Lib.hid rfl
  obtain ⟨a, c, hv⟩ := hs.form
  clear hs
  unfold Pi.val
  unfold ppV at *
  generalize x.right = r at *
  rw [← HQ.out] at HI
  rw [hv] at HI ⊢
  generalize x.l.length = n at *
  clear HQ hv
  generalize x.e = xe at *
  generalize x.p = xp at *
  generalize x.b = xb at *
  generalize x.i = xi at *
  have X := Blk.new W 81 #[.int .i64 xe, .int .i64 xp, .int .i64 xb, .int .i64 xi, .slice a n c]
  have hc0 : (W.alloc (.cells #[.int .i64 xe, .int .i64 xp, .int .i64 xb, .int .i64 xi, .slice a n c] 81)).cell? ⟨q, 0, none⟩ = some (.int .i64 ep) := Lib.cell?_alloc_some _ hc
  have hB : Below W.heap.size W (W.alloc (.cells #[.int .i64 xe, .int .i64 xp, .int .i64 xb, .int .i64 xi, .slice a n c] 81)) := (Below.refl _ _).alloc (Nat.le_refl _) _
  have hq1 : q < (W.alloc (.cells #[.int .i64 xe, .int .i64 xp, .int .i64 xb, .int .i64 xi, .slice a n c] 81)).heap.size := by simp; omega
  have HX := Lib.hid X
  have HC0 := Lib.hid hc0
  have HB := Lib.hid hB
  clear X hc0 hB hc
  cases r
  all_goals
    go_enter Tryz.func112, Tryz.ntmps112
    go_upto_region 1 with fail
    generalize W.alloc (.cells #[.int .i64 xe, .int .i64 xp, .int .i64 xb, .int .i64 xi, .slice a n c] 81) = W1 at *
    have cX := HX.out.cell
    go_wp2_with fail
    refine (HI.out _ HB.out).mono ?_
    rintro e w1 ⟨rfl, hb1⟩
    have cX1 := (HX.out.kept hb1).cell
    have cq : w1.cell? ⟨q, 0, none⟩ = some (.int .i64 ep) := (hb1.cell (p := ⟨q, 0, none⟩) hq1).trans HC0.out
    have HB1 := Lib.hid (HB.out.trans (hb1.mono HB.out.size))
    clear hb1 cX
    go_wp2_with fail
    go_ret
    first | exact ⟨rfl, HB1.out⟩ | exact ⟨bool_ret (by simp), HB1.out⟩
set_option maxHeartbeats 1000000 in
theorem ribC_any (x : Hd) (q : Nat) (id now ep : Int) (vd : Value) (a : Option Addr) (n c : Nat) (vr vg vw vf : Value) (W : World) (hB : Blk W q 38 #[.int .i64 id, .int .i64 now, .int .i64 ep, vd, .slice a n c, vr, vg, vw, vf]) :
    Calls Tryz.prog 116 #[x.val, .pointer (some ⟨q, 0, none⟩)] W fun e w' => e = .returned (.bool (decide ((n : Int) < x.p))) ∧ Below W.heap.size W w' := by
  have hcq := (hB.alloc (.cells x.ar 83)).cell
  clear hB
  unfold Hd.ar at hcq
  obtain ⟨p, s, ⟨k, v, m, i, o, t, u⟩⟩ := x
  unfold Hd.val
  dsimp only at *
  go_enter Tryz.func116, Tryz.ntmps116
  go_wp2_with fail
  go_ret
  refine ⟨rfl, ?_⟩
  go_grown
set_option maxHeartbeats 1000000 in
theorem wentC_any (x : Mv) (q : Nat) (id now ep : Int) (vd vp vr vg vw vf : Value) (W : World) (hB : Blk W q 38 #[.int .i64 id, .int .i64 now, .int .i64 ep, vd, vp, vr, vg, vw, vf]) :
    Calls Tryz.prog 123 #[x.val, .pointer (some ⟨q, 0, none⟩)] W fun e w' => e = .returned (.bool (decide (now < x.tm))) ∧ Below W.heap.size W w' := by
  have hcq := (hB.alloc (.cells x.ar 89)).cell
  clear hB
  unfold Mv.ar at hcq
  obtain ⟨v, m, t⟩ := x
  unfold Mv.val
  dsimp only at *
  go_enter Tryz.func123, Tryz.ntmps123
  go_wp2_with fail
  go_ret
  refine ⟨rfl, ?_⟩
  go_grown
set_option maxRecDepth 100000 in
set_option maxHeartbeats 4000000 in
theorem guestsC_any (x : Gu) (q : Nat) (id now ep : Int) (vd vp vr vg vw vf : Value) (doors : List Int) (W : World) (hB : Blk W q 38 #[.int .i64 id, .int .i64 now, .int .i64 ep, vd, vp, vr, vg, vw, vf]) (hd : SlAt W 1 vd (doors.map clI)) (hn : doors.length ≤ 1048576) :
    Calls Tryz.prog 119 #[x.val, .pointer (some ⟨q, 0, none⟩)] W fun e w' => e = .returned (.bool (decide (now < x.seen) || !decide (x.vni = roomAt doors x.door))) ∧ Below W.heap.size W w' := by
  have HD := Lib.hid (fun (W' : World) (hb : Below W.heap.size W W') => implRoomAt_any doors vd x.door W' (SlAt.kept hd hb) hn)
  have S0 : Blk (W.alloc (.cells x.ar 87)).drew q 38 #[.int .i64 id, .int .i64 now, .int .i64 ep, vd, vp, vr, vg, vw, vf] ∧ Blk (W.alloc (.cells x.ar 87)).drew W.heap.size 87 x.ar ∧ Below W.heap.size W (W.alloc (.cells x.ar 87)).drew := ⟨(hB.alloc _).drew, (Blk.new _ _ _).drew, ((Below.refl _ _).alloc (Nat.le_refl _) _).drew⟩
  obtain ⟨da, dc, rfl⟩ : ∃ a c, vd = .slice a (doors.map clI).length c := by
    obtain ⟨a, c, e, _⟩ := hd
    exact ⟨a, c, e⟩
  clear hB hd
  simp only [List.length_map] at *
  have HR : Hid (x.vni ≠ roomAt doors x.door → (!decide (x.vni = roomAt doors x.door)) = true) := Lib.hid (fun h => by simp [h])
  unfold Gu.ar at S0
  generalize roomAt doors x.door = rm at *
  obtain ⟨v, m, i, d, s, n, t⟩ := x
  unfold Gu.val
  dsimp only at *
  by_cases h1 : now < n
  · have hX : decide (now < n) = true := decide_eq_true h1
    rw [hX, Bool.true_or]
    go_enter Tryz.func119, Tryz.ntmps119
    go_upto_region 1 with fail
    generalize W.alloc (.cells #[.int .i64 v, .int .i64 m, .int .i64 i, .int .i64 d, .int .i64 s, .int .i64 n, .bool t] 87) = W1 at *
    refine wp_region_held_drew (S := fun W' => Blk W' q 38 _ ∧ Blk W' W.heap.size 87 _ ∧ Below W.heap.size W W') (by kernel_rfl) S0 (fun hHeld => ?_)
    clear hHeld
    refine wpAnyH_take (i := 0) (oi := { dst := some 4, op := Op.fieldAddr 87 (Operand.tmp 2) 5, type := 0, pos := "l09_house.go:168", after := #[], guard := none }) (v := ?vva1) rfl (by kernel_rfl) (by kernel_rfl) (by kernel_rfl) (fun _ _ _ h => h) (Or.inl ⟨by rfl, ?hya1⟩) S0 ?resta1
    case hya1 => (intro w hSw; have hc1 := hSw.1.cell; have hc2 := hSw.2.1.cell;go_simp <;> with_reducible rfl)
    try simp only [Act.put, List.setIfInBounds_toArray, List.set_cons_zero, List.set_cons_succ]
    refine wpAnyH_take (i := 1) (oi := { dst := some 5, op := Op.load 2 (Operand.tmp 4), type := 2, pos := "l09_house.go:168", after := #[{ on := 0, ground := Ground.data }], guard := none }) (v := ?vva2) rfl (by kernel_rfl) (by kernel_rfl) (by kernel_rfl) (fun _ _ _ h => h) (Or.inl ⟨by rfl, ?hya2⟩) S0 ?resta2
    case hya2 => (intro w hSw; have hc1 := hSw.1.cell; have hc2 := hSw.2.1.cell;go_simp <;> with_reducible rfl)
    try simp only [Act.put, List.setIfInBounds_toArray, List.set_cons_zero, List.set_cons_succ]
    refine wpAnyH_take (i := 2) (oi := { dst := some 6, op := Op.fieldAddr 38 (Operand.tmp 1) 1, type := 0, pos := "l09_house.go:168", after := #[], guard := none }) (v := ?vva3) rfl (by kernel_rfl) (by kernel_rfl) (by kernel_rfl) (fun _ _ _ h => h) (Or.inl ⟨by rfl, ?hya3⟩) S0 ?resta3
    case hya3 => (intro w hSw; have hc1 := hSw.1.cell; have hc2 := hSw.2.1.cell;go_simp <;> with_reducible rfl)
    try simp only [Act.put, List.setIfInBounds_toArray, List.set_cons_zero, List.set_cons_succ]
    refine wpAnyH_take (i := 3) (oi := { dst := some 7, op := Op.load 2 (Operand.tmp 6), type := 2, pos := "l09_house.go:168", after := #[{ on := 2, ground := Ground.data }], guard := none }) (v := ?vva4) rfl (by kernel_rfl) (by kernel_rfl) (by kernel_rfl) (fun _ _ _ h => h) (Or.inl ⟨by rfl, ?hya4⟩) S0 ?resta4
    case hya4 => (intro w hSw; have hc1 := hSw.1.cell; have hc2 := hSw.2.1.cell;go_simp <;> with_reducible rfl)
    try simp only [Act.put, List.setIfInBounds_toArray, List.set_cons_zero, List.set_cons_succ]
    refine wpAnyH_take (i := 4) (oi := { dst := some 8, op := Op.binOp BinOp.gtr 2 (Operand.tmp 5) (Operand.tmp 7) 2, type := 4, pos := "l09_house.go:168", after := #[{ on := 1, ground := Ground.data }, { on := 3, ground := Ground.data }], guard := none }) (v := ?vva5) rfl (by kernel_rfl) (by kernel_rfl) (by kernel_rfl) (fun _ _ _ h => h) (Or.inl ⟨by rfl, ?hya5⟩) S0 ?resta5
    case hya5 => (intro w hSw; have hc1 := hSw.1.cell; have hc2 := hSw.2.1.cell;go_simp <;> with_reducible rfl)
    try simp only [Act.put, List.setIfInBounds_toArray, List.set_cons_zero, List.set_cons_succ]
    refine wpAnyH_take (i := 5) (oi := { dst := some 9, op := Op.move (Operand.tmp 8), type := 4, pos := "l09_house.go:168", after := #[{ on := 4, ground := Ground.data }], guard := none }) (v := ?vva6) rfl (by kernel_rfl) (by kernel_rfl) (by kernel_rfl) (fun _ _ _ h => h) (Or.inl ⟨by rfl, ?hya6⟩) S0 ?resta6
    case hya6 => (intro w hSw; have hc1 := hSw.1.cell; have hc2 := hSw.2.1.cell;go_simp <;> with_reducible rfl)
    try simp only [Act.put, List.setIfInBounds_toArray, List.set_cons_zero, List.set_cons_succ]
    refine wpAnyH_take (i := 6) (oi := { dst := some 10, op := Op.fieldAddr 87 (Operand.tmp 2) 0, type := 0, pos := "l09_house.go:168", after := #[{ on := 5, ground := Ground.guard }], guard := some (5, false) }) (v := undef) rfl (by kernel_rfl) (by kernel_rfl) (by kernel_rfl) (fun _ _ _ h => h) (Or.inr ⟨by rfl, rfl⟩) S0 ?_
    try simp only [Act.put, List.setIfInBounds_toArray, List.set_cons_zero, List.set_cons_succ]
    refine wpAnyH_take (i := 7) (oi := { dst := some 11, op := Op.load 2 (Operand.tmp 10), type := 2, pos := "l09_house.go:168", after := #[{ on := 6, ground := Ground.data }, { on := 5, ground := Ground.guard }], guard := some (5, false) }) (v := undef) rfl (by kernel_rfl) (by kernel_rfl) (by kernel_rfl) (fun _ _ _ h => h) (Or.inr ⟨by rfl, rfl⟩) S0 ?_
    try simp only [Act.put, List.setIfInBounds_toArray, List.set_cons_zero, List.set_cons_succ]
    refine wpAnyH_take (i := 8) (oi := { dst := some 12, op := Op.fieldAddr 38 (Operand.tmp 1) 3, type := 0, pos := "l09_house.go:168", after := #[{ on := 5, ground := Ground.guard }], guard := some (5, false) }) (v := undef) rfl (by kernel_rfl) (by kernel_rfl) (by kernel_rfl) (fun _ _ _ h => h) (Or.inr ⟨by rfl, rfl⟩) S0 ?_
    try simp only [Act.put, List.setIfInBounds_toArray, List.set_cons_zero, List.set_cons_succ]
    refine wpAnyH_take (i := 9) (oi := { dst := some 13, op := Op.load 22 (Operand.tmp 12), type := 22, pos := "l09_house.go:168", after := #[{ on := 8, ground := Ground.data }, { on := 5, ground := Ground.guard }], guard := some (5, false) }) (v := undef) rfl (by kernel_rfl) (by kernel_rfl) (by kernel_rfl) (fun _ _ _ h => h) (Or.inr ⟨by rfl, rfl⟩) S0 ?_
    try simp only [Act.put, List.setIfInBounds_toArray, List.set_cons_zero, List.set_cons_succ]
    refine wpAnyH_take (i := 10) (oi := { dst := some 14, op := Op.fieldAddr 87 (Operand.tmp 2) 3, type := 0, pos := "l09_house.go:168", after := #[{ on := 5, ground := Ground.guard }], guard := some (5, false) }) (v := undef) rfl (by kernel_rfl) (by kernel_rfl) (by kernel_rfl) (fun _ _ _ h => h) (Or.inr ⟨by rfl, rfl⟩) S0 ?_
    try simp only [Act.put, List.setIfInBounds_toArray, List.set_cons_zero, List.set_cons_succ]
    refine wpAnyH_take (i := 11) (oi := { dst := some 15, op := Op.load 2 (Operand.tmp 14), type := 2, pos := "l09_house.go:168", after := #[{ on := 10, ground := Ground.data }, { on := 5, ground := Ground.guard }], guard := some (5, false) }) (v := undef) rfl (by kernel_rfl) (by kernel_rfl) (by kernel_rfl) (fun _ _ _ h => h) (Or.inr ⟨by rfl, rfl⟩) S0 ?_
    try simp only [Act.put, List.setIfInBounds_toArray, List.set_cons_zero, List.set_cons_succ]
    refine wpAnyH_take (i := 12) (oi := { dst := some 16, op := Op.call { callee := Callee.value (Operand.func 120), args := #[Operand.tmp 13, Operand.tmp 15], argTypes := #[22, 2] }, type := 2, pos := "l09_house.go:168", after := #[{ on := 9, ground := Ground.data }, { on := 11, ground := Ground.data }, { on := 5, ground := Ground.chain }, { on := 5, ground := Ground.guard }], guard := some (5, false) }) (v := undef) rfl (by kernel_rfl) (by kernel_rfl) (by kernel_rfl) (fun _ _ _ h => h) (Or.inr ⟨by rfl, rfl⟩) S0 ?_
    try simp only [Act.put, List.setIfInBounds_toArray, List.set_cons_zero, List.set_cons_succ]
    refine wpAnyH_take (i := 13) (oi := { dst := some 17, op := Op.binOp BinOp.neq 2 (Operand.tmp 11) (Operand.tmp 16) 2, type := 4, pos := "l09_house.go:168", after := #[{ on := 7, ground := Ground.data }, { on := 12, ground := Ground.data }, { on := 5, ground := Ground.guard }], guard := some (5, false) }) (v := undef) rfl (by kernel_rfl) (by kernel_rfl) (by kernel_rfl) (fun _ _ _ h => h) (Or.inr ⟨by rfl, rfl⟩) S0 ?_
    try simp only [Act.put, List.setIfInBounds_toArray, List.set_cons_zero, List.set_cons_succ]
    refine wpAnyH_take (i := 14) (oi := { dst := some 18, op := Op.pick (Operand.tmp 9) (Operand.const (Value.bool true)) (Operand.tmp 17), type := 4, pos := "l09_house.go:168", after := #[{ on := 5, ground := Ground.data }, { on := 13, ground := Ground.data }], guard := none }) (v := ?vva15) rfl (by kernel_rfl) (by kernel_rfl) (by kernel_rfl) (fun _ _ _ h => h) (Or.inl ⟨by rfl, ?hya15⟩) S0 ?resta15
    case hya15 => (intro w hSw; have hc1 := hSw.1.cell; have hc2 := hSw.2.1.cell;go_simp <;> with_reducible rfl)
    try simp only [Act.put, List.setIfInBounds_toArray, List.set_cons_zero, List.set_cons_succ]
    refine wpAnyH_take (i := 15) (oi := { dst := some 3, op := Op.assign (Operand.tmp 18), type := 4, pos := "l09_house.go:168", after := #[{ on := 14, ground := Ground.data }, { on := 12, ground := Ground.chain }, { on := 0, ground := Ground.phase }, { on := 1, ground := Ground.phase }, { on := 2, ground := Ground.phase }, { on := 3, ground := Ground.phase }, { on := 4, ground := Ground.phase }, { on := 5, ground := Ground.phase }, { on := 6, ground := Ground.phase }, { on := 7, ground := Ground.phase }, { on := 8, ground := Ground.phase }, { on := 9, ground := Ground.phase }, { on := 10, ground := Ground.phase }, { on := 11, ground := Ground.phase }, { on := 12, ground := Ground.phase }, { on := 13, ground := Ground.phase }, { on := 14, ground := Ground.phase }], guard := none }) (v := ?vva16) rfl (by kernel_rfl) (by kernel_rfl) (by kernel_rfl) (fun _ _ _ h => h) (Or.inl ⟨by rfl, ?hya16⟩) S0 ?resta16
    case hya16 => (intro w hSw; have hc1 := hSw.1.cell; have hc2 := hSw.2.1.cell;go_simp <;> with_reducible rfl)
    try simp only [Act.put, List.setIfInBounds_toArray, List.set_cons_zero, List.set_cons_succ]
    refine wpAnyH_done (by kernel_rfl) ?_ _
    all_goals
      have HB := Lib.hid S0.2.2
      clear S0
      go_wp2_with fail
      go_ret
      exact ⟨rfl, HB.out⟩
  · have hX : decide (now < n) = false := decide_eq_false h1
    rw [hX, Bool.false_or]
    by_cases h2 : v = rm
    · subst h2
      go_enter Tryz.func119, Tryz.ntmps119
      go_upto_region 1 with fail
      generalize W.alloc (.cells #[.int .i64 v, .int .i64 m, .int .i64 i, .int .i64 d, .int .i64 s, .int .i64 n, .bool t] 87) = W1 at *
      refine wp_region_held_drew (S := fun W' => Blk W' q 38 _ ∧ Blk W' W.heap.size 87 _ ∧ Below W.heap.size W W') (by kernel_rfl) S0 (fun hHeld => ?_)
      clear hHeld
      refine wpAnyH_take (i := 0) (oi := { dst := some 4, op := Op.fieldAddr 87 (Operand.tmp 2) 5, type := 0, pos := "l09_house.go:168", after := #[], guard := none }) (v := ?vvb1) rfl (by kernel_rfl) (by kernel_rfl) (by kernel_rfl) (fun _ _ _ h => h) (Or.inl ⟨by rfl, ?hyb1⟩) S0 ?restb1
      case hyb1 => (intro w hSw; have hc1 := hSw.1.cell; have hc2 := hSw.2.1.cell;go_simp <;> with_reducible rfl)
      try simp only [Act.put, List.setIfInBounds_toArray, List.set_cons_zero, List.set_cons_succ]
      refine wpAnyH_take (i := 1) (oi := { dst := some 5, op := Op.load 2 (Operand.tmp 4), type := 2, pos := "l09_house.go:168", after := #[{ on := 0, ground := Ground.data }], guard := none }) (v := ?vvb2) rfl (by kernel_rfl) (by kernel_rfl) (by kernel_rfl) (fun _ _ _ h => h) (Or.inl ⟨by rfl, ?hyb2⟩) S0 ?restb2
      case hyb2 => (intro w hSw; have hc1 := hSw.1.cell; have hc2 := hSw.2.1.cell;go_simp <;> with_reducible rfl)
      try simp only [Act.put, List.setIfInBounds_toArray, List.set_cons_zero, List.set_cons_succ]
      refine wpAnyH_take (i := 2) (oi := { dst := some 6, op := Op.fieldAddr 38 (Operand.tmp 1) 1, type := 0, pos := "l09_house.go:168", after := #[], guard := none }) (v := ?vvb3) rfl (by kernel_rfl) (by kernel_rfl) (by kernel_rfl) (fun _ _ _ h => h) (Or.inl ⟨by rfl, ?hyb3⟩) S0 ?restb3
      case hyb3 => (intro w hSw; have hc1 := hSw.1.cell; have hc2 := hSw.2.1.cell;go_simp <;> with_reducible rfl)
      try simp only [Act.put, List.setIfInBounds_toArray, List.set_cons_zero, List.set_cons_succ]
      refine wpAnyH_take (i := 3) (oi := { dst := some 7, op := Op.load 2 (Operand.tmp 6), type := 2, pos := "l09_house.go:168", after := #[{ on := 2, ground := Ground.data }], guard := none }) (v := ?vvb4) rfl (by kernel_rfl) (by kernel_rfl) (by kernel_rfl) (fun _ _ _ h => h) (Or.inl ⟨by rfl, ?hyb4⟩) S0 ?restb4
      case hyb4 => (intro w hSw; have hc1 := hSw.1.cell; have hc2 := hSw.2.1.cell;go_simp <;> with_reducible rfl)
      try simp only [Act.put, List.setIfInBounds_toArray, List.set_cons_zero, List.set_cons_succ]
      refine wpAnyH_take (i := 4) (oi := { dst := some 8, op := Op.binOp BinOp.gtr 2 (Operand.tmp 5) (Operand.tmp 7) 2, type := 4, pos := "l09_house.go:168", after := #[{ on := 1, ground := Ground.data }, { on := 3, ground := Ground.data }], guard := none }) (v := ?vvb5) rfl (by kernel_rfl) (by kernel_rfl) (by kernel_rfl) (fun _ _ _ h => h) (Or.inl ⟨by rfl, ?hyb5⟩) S0 ?restb5
      case hyb5 => (intro w hSw; have hc1 := hSw.1.cell; have hc2 := hSw.2.1.cell;go_simp <;> with_reducible rfl)
      try simp only [Act.put, List.setIfInBounds_toArray, List.set_cons_zero, List.set_cons_succ]
      refine wpAnyH_take (i := 5) (oi := { dst := some 9, op := Op.move (Operand.tmp 8), type := 4, pos := "l09_house.go:168", after := #[{ on := 4, ground := Ground.data }], guard := none }) (v := ?vvb6) rfl (by kernel_rfl) (by kernel_rfl) (by kernel_rfl) (fun _ _ _ h => h) (Or.inl ⟨by rfl, ?hyb6⟩) S0 ?restb6
      case hyb6 => (intro w hSw; have hc1 := hSw.1.cell; have hc2 := hSw.2.1.cell;go_simp <;> with_reducible rfl)
      try simp only [Act.put, List.setIfInBounds_toArray, List.set_cons_zero, List.set_cons_succ]
      refine wpAnyH_take (i := 6) (oi := { dst := some 10, op := Op.fieldAddr 87 (Operand.tmp 2) 0, type := 0, pos := "l09_house.go:168", after := #[{ on := 5, ground := Ground.guard }], guard := some (5, false) }) (v := ?vvb7) rfl (by kernel_rfl) (by kernel_rfl) (by kernel_rfl) (fun _ _ _ h => h) (Or.inl ⟨by rfl, ?hyb7⟩) S0 ?restb7
      case hyb7 => (intro w hSw; have hc1 := hSw.1.cell; have hc2 := hSw.2.1.cell;go_simp <;> with_reducible rfl)
      try simp only [Act.put, List.setIfInBounds_toArray, List.set_cons_zero, List.set_cons_succ]
      refine wpAnyH_take (i := 7) (oi := { dst := some 11, op := Op.load 2 (Operand.tmp 10), type := 2, pos := "l09_house.go:168", after := #[{ on := 6, ground := Ground.data }, { on := 5, ground := Ground.guard }], guard := some (5, false) }) (v := ?vvb8) rfl (by kernel_rfl) (by kernel_rfl) (by kernel_rfl) (fun _ _ _ h => h) (Or.inl ⟨by rfl, ?hyb8⟩) S0 ?restb8
      case hyb8 => (intro w hSw; have hc1 := hSw.1.cell; have hc2 := hSw.2.1.cell;go_simp <;> with_reducible rfl)
      try simp only [Act.put, List.setIfInBounds_toArray, List.set_cons_zero, List.set_cons_succ]
      refine wpAnyH_take (i := 8) (oi := { dst := some 12, op := Op.fieldAddr 38 (Operand.tmp 1) 3, type := 0, pos := "l09_house.go:168", after := #[{ on := 5, ground := Ground.guard }], guard := some (5, false) }) (v := ?vvb9) rfl (by kernel_rfl) (by kernel_rfl) (by kernel_rfl) (fun _ _ _ h => h) (Or.inl ⟨by rfl, ?hyb9⟩) S0 ?restb9
      case hyb9 => (intro w hSw; have hc1 := hSw.1.cell; have hc2 := hSw.2.1.cell;go_simp <;> with_reducible rfl)
      try simp only [Act.put, List.setIfInBounds_toArray, List.set_cons_zero, List.set_cons_succ]
      refine wpAnyH_take (i := 9) (oi := { dst := some 13, op := Op.load 22 (Operand.tmp 12), type := 22, pos := "l09_house.go:168", after := #[{ on := 8, ground := Ground.data }, { on := 5, ground := Ground.guard }], guard := some (5, false) }) (v := ?vvb10) rfl (by kernel_rfl) (by kernel_rfl) (by kernel_rfl) (fun _ _ _ h => h) (Or.inl ⟨by rfl, ?hyb10⟩) S0 ?restb10
      case hyb10 => (intro w hSw; have hc1 := hSw.1.cell; have hc2 := hSw.2.1.cell;go_simp <;> with_reducible rfl)
      try simp only [Act.put, List.setIfInBounds_toArray, List.set_cons_zero, List.set_cons_succ]
      refine wpAnyH_take (i := 10) (oi := { dst := some 14, op := Op.fieldAddr 87 (Operand.tmp 2) 3, type := 0, pos := "l09_house.go:168", after := #[{ on := 5, ground := Ground.guard }], guard := some (5, false) }) (v := ?vvb11) rfl (by kernel_rfl) (by kernel_rfl) (by kernel_rfl) (fun _ _ _ h => h) (Or.inl ⟨by rfl, ?hyb11⟩) S0 ?restb11
      case hyb11 => (intro w hSw; have hc1 := hSw.1.cell; have hc2 := hSw.2.1.cell;go_simp <;> with_reducible rfl)
      try simp only [Act.put, List.setIfInBounds_toArray, List.set_cons_zero, List.set_cons_succ]
      refine wpAnyH_take (i := 11) (oi := { dst := some 15, op := Op.load 2 (Operand.tmp 14), type := 2, pos := "l09_house.go:168", after := #[{ on := 10, ground := Ground.data }, { on := 5, ground := Ground.guard }], guard := some (5, false) }) (v := ?vvb12) rfl (by kernel_rfl) (by kernel_rfl) (by kernel_rfl) (fun _ _ _ h => h) (Or.inl ⟨by rfl, ?hyb12⟩) S0 ?restb12
      case hyb12 => (intro w hSw; have hc1 := hSw.1.cell; have hc2 := hSw.2.1.cell;go_simp <;> with_reducible rfl)
      try simp only [Act.put, List.setIfInBounds_toArray, List.set_cons_zero, List.set_cons_succ]
      refine wpAnyH_ready (rs := [12]) (by kernel_rfl) (by simp) ?_
      refine AllReadyH.cons (o := { dst := some 16, op := Op.call { callee := Callee.value (Operand.func 120), args := #[Operand.tmp 13, Operand.tmp 15], argTypes := #[22, 2] }, type := 2, pos := "l09_house.go:168", after := #[{ on := 9, ground := Ground.data }, { on := 11, ground := Ground.data }, { on := 5, ground := Ground.chain }, { on := 5, ground := Ground.guard }], guard := some (5, false) }) rfl (fun K hK => ?_) AllReadyH.nil
      go_simp
      refine (HD.out _ S0.2.2).mono ?_
      rintro e w1 ⟨rfl, rfl⟩
      refine hK.out _ _ S0 (fun hHeld => ?_)
      clear hK K hHeld
      try simp only [Act.put, List.setIfInBounds_toArray, List.set_cons_zero, List.set_cons_succ]
      refine wpAnyH_take (i := 13) (oi := { dst := some 17, op := Op.binOp BinOp.neq 2 (Operand.tmp 11) (Operand.tmp 16) 2, type := 4, pos := "l09_house.go:168", after := #[{ on := 7, ground := Ground.data }, { on := 12, ground := Ground.data }, { on := 5, ground := Ground.guard }], guard := some (5, false) }) (v := ?vvb13) rfl (by kernel_rfl) (by kernel_rfl) (by kernel_rfl) (fun _ _ _ h => h) (Or.inl ⟨by rfl, ?hyb13⟩) S0 ?restb13
      case hyb13 => (intro w hSw; have hc1 := hSw.1.cell; have hc2 := hSw.2.1.cell;go_simp <;> with_reducible rfl)
      try simp only [Act.put, List.setIfInBounds_toArray, List.set_cons_zero, List.set_cons_succ]
      refine wpAnyH_take (i := 14) (oi := { dst := some 18, op := Op.pick (Operand.tmp 9) (Operand.const (Value.bool true)) (Operand.tmp 17), type := 4, pos := "l09_house.go:168", after := #[{ on := 5, ground := Ground.data }, { on := 13, ground := Ground.data }], guard := none }) (v := ?vvb14) rfl (by kernel_rfl) (by kernel_rfl) (by kernel_rfl) (fun _ _ _ h => h) (Or.inl ⟨by rfl, ?hyb14⟩) S0 ?restb14
      case hyb14 => (intro w hSw; have hc1 := hSw.1.cell; have hc2 := hSw.2.1.cell;go_simp <;> with_reducible rfl)
      try simp only [Act.put, List.setIfInBounds_toArray, List.set_cons_zero, List.set_cons_succ]
      refine wpAnyH_take (i := 15) (oi := { dst := some 3, op := Op.assign (Operand.tmp 18), type := 4, pos := "l09_house.go:168", after := #[{ on := 14, ground := Ground.data }, { on := 12, ground := Ground.chain }, { on := 0, ground := Ground.phase }, { on := 1, ground := Ground.phase }, { on := 2, ground := Ground.phase }, { on := 3, ground := Ground.phase }, { on := 4, ground := Ground.phase }, { on := 5, ground := Ground.phase }, { on := 6, ground := Ground.phase }, { on := 7, ground := Ground.phase }, { on := 8, ground := Ground.phase }, { on := 9, ground := Ground.phase }, { on := 10, ground := Ground.phase }, { on := 11, ground := Ground.phase }, { on := 12, ground := Ground.phase }, { on := 13, ground := Ground.phase }, { on := 14, ground := Ground.phase }], guard := none }) (v := ?vvb15) rfl (by kernel_rfl) (by kernel_rfl) (by kernel_rfl) (fun _ _ _ h => h) (Or.inl ⟨by rfl, ?hyb15⟩) S0 ?restb15
      case hyb15 => (intro w hSw; have hc1 := hSw.1.cell; have hc2 := hSw.2.1.cell;go_simp <;> with_reducible rfl)
      try simp only [Act.put, List.setIfInBounds_toArray, List.set_cons_zero, List.set_cons_succ]
      refine wpAnyH_done (by kernel_rfl) ?_ _
      all_goals
        have HB := Lib.hid S0.2.2
        clear S0
        go_wp2_with fail
        go_ret
        first | exact ⟨rfl, HB.out⟩ | exact ⟨bool_ret (by simp), HB.out⟩
    · have hY : (v == rm) = false := by simpa using h2
      go_enter Tryz.func119, Tryz.ntmps119
      go_upto_region 1 with fail
      generalize W.alloc (.cells #[.int .i64 v, .int .i64 m, .int .i64 i, .int .i64 d, .int .i64 s, .int .i64 n, .bool t] 87) = W1 at *
      refine wp_region_held_drew (S := fun W' => Blk W' q 38 _ ∧ Blk W' W.heap.size 87 _ ∧ Below W.heap.size W W') (by kernel_rfl) S0 (fun hHeld => ?_)
      clear hHeld
      refine wpAnyH_take (i := 0) (oi := { dst := some 4, op := Op.fieldAddr 87 (Operand.tmp 2) 5, type := 0, pos := "l09_house.go:168", after := #[], guard := none }) (v := ?vvc1) rfl (by kernel_rfl) (by kernel_rfl) (by kernel_rfl) (fun _ _ _ h => h) (Or.inl ⟨by rfl, ?hyc1⟩) S0 ?restc1
      case hyc1 => (intro w hSw; have hc1 := hSw.1.cell; have hc2 := hSw.2.1.cell;go_simp <;> with_reducible rfl)
      try simp only [Act.put, List.setIfInBounds_toArray, List.set_cons_zero, List.set_cons_succ]
      refine wpAnyH_take (i := 1) (oi := { dst := some 5, op := Op.load 2 (Operand.tmp 4), type := 2, pos := "l09_house.go:168", after := #[{ on := 0, ground := Ground.data }], guard := none }) (v := ?vvc2) rfl (by kernel_rfl) (by kernel_rfl) (by kernel_rfl) (fun _ _ _ h => h) (Or.inl ⟨by rfl, ?hyc2⟩) S0 ?restc2
      case hyc2 => (intro w hSw; have hc1 := hSw.1.cell; have hc2 := hSw.2.1.cell;go_simp <;> with_reducible rfl)
      try simp only [Act.put, List.setIfInBounds_toArray, List.set_cons_zero, List.set_cons_succ]
      refine wpAnyH_take (i := 2) (oi := { dst := some 6, op := Op.fieldAddr 38 (Operand.tmp 1) 1, type := 0, pos := "l09_house.go:168", after := #[], guard := none }) (v := ?vvc3) rfl (by kernel_rfl) (by kernel_rfl) (by kernel_rfl) (fun _ _ _ h => h) (Or.inl ⟨by rfl, ?hyc3⟩) S0 ?restc3
      case hyc3 => (intro w hSw; have hc1 := hSw.1.cell; have hc2 := hSw.2.1.cell;go_simp <;> with_reducible rfl)
      try simp only [Act.put, List.setIfInBounds_toArray, List.set_cons_zero, List.set_cons_succ]
      refine wpAnyH_take (i := 3) (oi := { dst := some 7, op := Op.load 2 (Operand.tmp 6), type := 2, pos := "l09_house.go:168", after := #[{ on := 2, ground := Ground.data }], guard := none }) (v := ?vvc4) rfl (by kernel_rfl) (by kernel_rfl) (by kernel_rfl) (fun _ _ _ h => h) (Or.inl ⟨by rfl, ?hyc4⟩) S0 ?restc4
      case hyc4 => (intro w hSw; have hc1 := hSw.1.cell; have hc2 := hSw.2.1.cell;go_simp <;> with_reducible rfl)
      try simp only [Act.put, List.setIfInBounds_toArray, List.set_cons_zero, List.set_cons_succ]
      refine wpAnyH_take (i := 4) (oi := { dst := some 8, op := Op.binOp BinOp.gtr 2 (Operand.tmp 5) (Operand.tmp 7) 2, type := 4, pos := "l09_house.go:168", after := #[{ on := 1, ground := Ground.data }, { on := 3, ground := Ground.data }], guard := none }) (v := ?vvc5) rfl (by kernel_rfl) (by kernel_rfl) (by kernel_rfl) (fun _ _ _ h => h) (Or.inl ⟨by rfl, ?hyc5⟩) S0 ?restc5
      case hyc5 => (intro w hSw; have hc1 := hSw.1.cell; have hc2 := hSw.2.1.cell;go_simp <;> with_reducible rfl)
      try simp only [Act.put, List.setIfInBounds_toArray, List.set_cons_zero, List.set_cons_succ]
      refine wpAnyH_take (i := 5) (oi := { dst := some 9, op := Op.move (Operand.tmp 8), type := 4, pos := "l09_house.go:168", after := #[{ on := 4, ground := Ground.data }], guard := none }) (v := ?vvc6) rfl (by kernel_rfl) (by kernel_rfl) (by kernel_rfl) (fun _ _ _ h => h) (Or.inl ⟨by rfl, ?hyc6⟩) S0 ?restc6
      case hyc6 => (intro w hSw; have hc1 := hSw.1.cell; have hc2 := hSw.2.1.cell;go_simp <;> with_reducible rfl)
      try simp only [Act.put, List.setIfInBounds_toArray, List.set_cons_zero, List.set_cons_succ]
      refine wpAnyH_take (i := 6) (oi := { dst := some 10, op := Op.fieldAddr 87 (Operand.tmp 2) 0, type := 0, pos := "l09_house.go:168", after := #[{ on := 5, ground := Ground.guard }], guard := some (5, false) }) (v := ?vvc7) rfl (by kernel_rfl) (by kernel_rfl) (by kernel_rfl) (fun _ _ _ h => h) (Or.inl ⟨by rfl, ?hyc7⟩) S0 ?restc7
      case hyc7 => (intro w hSw; have hc1 := hSw.1.cell; have hc2 := hSw.2.1.cell;go_simp <;> with_reducible rfl)
      try simp only [Act.put, List.setIfInBounds_toArray, List.set_cons_zero, List.set_cons_succ]
      refine wpAnyH_take (i := 7) (oi := { dst := some 11, op := Op.load 2 (Operand.tmp 10), type := 2, pos := "l09_house.go:168", after := #[{ on := 6, ground := Ground.data }, { on := 5, ground := Ground.guard }], guard := some (5, false) }) (v := ?vvc8) rfl (by kernel_rfl) (by kernel_rfl) (by kernel_rfl) (fun _ _ _ h => h) (Or.inl ⟨by rfl, ?hyc8⟩) S0 ?restc8
      case hyc8 => (intro w hSw; have hc1 := hSw.1.cell; have hc2 := hSw.2.1.cell;go_simp <;> with_reducible rfl)
      try simp only [Act.put, List.setIfInBounds_toArray, List.set_cons_zero, List.set_cons_succ]
      refine wpAnyH_take (i := 8) (oi := { dst := some 12, op := Op.fieldAddr 38 (Operand.tmp 1) 3, type := 0, pos := "l09_house.go:168", after := #[{ on := 5, ground := Ground.guard }], guard := some (5, false) }) (v := ?vvc9) rfl (by kernel_rfl) (by kernel_rfl) (by kernel_rfl) (fun _ _ _ h => h) (Or.inl ⟨by rfl, ?hyc9⟩) S0 ?restc9
      case hyc9 => (intro w hSw; have hc1 := hSw.1.cell; have hc2 := hSw.2.1.cell;go_simp <;> with_reducible rfl)
      try simp only [Act.put, List.setIfInBounds_toArray, List.set_cons_zero, List.set_cons_succ]
      refine wpAnyH_take (i := 9) (oi := { dst := some 13, op := Op.load 22 (Operand.tmp 12), type := 22, pos := "l09_house.go:168", after := #[{ on := 8, ground := Ground.data }, { on := 5, ground := Ground.guard }], guard := some (5, false) }) (v := ?vvc10) rfl (by kernel_rfl) (by kernel_rfl) (by kernel_rfl) (fun _ _ _ h => h) (Or.inl ⟨by rfl, ?hyc10⟩) S0 ?restc10
      case hyc10 => (intro w hSw; have hc1 := hSw.1.cell; have hc2 := hSw.2.1.cell;go_simp <;> with_reducible rfl)
      try simp only [Act.put, List.setIfInBounds_toArray, List.set_cons_zero, List.set_cons_succ]
      refine wpAnyH_take (i := 10) (oi := { dst := some 14, op := Op.fieldAddr 87 (Operand.tmp 2) 3, type := 0, pos := "l09_house.go:168", after := #[{ on := 5, ground := Ground.guard }], guard := some (5, false) }) (v := ?vvc11) rfl (by kernel_rfl) (by kernel_rfl) (by kernel_rfl) (fun _ _ _ h => h) (Or.inl ⟨by rfl, ?hyc11⟩) S0 ?restc11
      case hyc11 => (intro w hSw; have hc1 := hSw.1.cell; have hc2 := hSw.2.1.cell;go_simp <;> with_reducible rfl)
      try simp only [Act.put, List.setIfInBounds_toArray, List.set_cons_zero, List.set_cons_succ]
      refine wpAnyH_take (i := 11) (oi := { dst := some 15, op := Op.load 2 (Operand.tmp 14), type := 2, pos := "l09_house.go:168", after := #[{ on := 10, ground := Ground.data }, { on := 5, ground := Ground.guard }], guard := some (5, false) }) (v := ?vvc12) rfl (by kernel_rfl) (by kernel_rfl) (by kernel_rfl) (fun _ _ _ h => h) (Or.inl ⟨by rfl, ?hyc12⟩) S0 ?restc12
      case hyc12 => (intro w hSw; have hc1 := hSw.1.cell; have hc2 := hSw.2.1.cell;go_simp <;> with_reducible rfl)
      try simp only [Act.put, List.setIfInBounds_toArray, List.set_cons_zero, List.set_cons_succ]
      refine wpAnyH_ready (rs := [12]) (by kernel_rfl) (by simp) ?_
      refine AllReadyH.cons (o := { dst := some 16, op := Op.call { callee := Callee.value (Operand.func 120), args := #[Operand.tmp 13, Operand.tmp 15], argTypes := #[22, 2] }, type := 2, pos := "l09_house.go:168", after := #[{ on := 9, ground := Ground.data }, { on := 11, ground := Ground.data }, { on := 5, ground := Ground.chain }, { on := 5, ground := Ground.guard }], guard := some (5, false) }) rfl (fun K hK => ?_) AllReadyH.nil
      go_simp
      refine (HD.out _ S0.2.2).mono ?_
      rintro e w1 ⟨rfl, rfl⟩
      refine hK.out _ _ S0 (fun hHeld => ?_)
      clear hK K hHeld
      try simp only [Act.put, List.setIfInBounds_toArray, List.set_cons_zero, List.set_cons_succ]
      refine wpAnyH_take (i := 13) (oi := { dst := some 17, op := Op.binOp BinOp.neq 2 (Operand.tmp 11) (Operand.tmp 16) 2, type := 4, pos := "l09_house.go:168", after := #[{ on := 7, ground := Ground.data }, { on := 12, ground := Ground.data }, { on := 5, ground := Ground.guard }], guard := some (5, false) }) (v := ?vvc13) rfl (by kernel_rfl) (by kernel_rfl) (by kernel_rfl) (fun _ _ _ h => h) (Or.inl ⟨by rfl, ?hyc13⟩) S0 ?restc13
      case hyc13 => (intro w hSw; have hc1 := hSw.1.cell; have hc2 := hSw.2.1.cell;go_simp <;> with_reducible rfl)
      try simp only [Act.put, List.setIfInBounds_toArray, List.set_cons_zero, List.set_cons_succ]
      refine wpAnyH_take (i := 14) (oi := { dst := some 18, op := Op.pick (Operand.tmp 9) (Operand.const (Value.bool true)) (Operand.tmp 17), type := 4, pos := "l09_house.go:168", after := #[{ on := 5, ground := Ground.data }, { on := 13, ground := Ground.data }], guard := none }) (v := ?vvc14) rfl (by kernel_rfl) (by kernel_rfl) (by kernel_rfl) (fun _ _ _ h => h) (Or.inl ⟨by rfl, ?hyc14⟩) S0 ?restc14
      case hyc14 => (intro w hSw; have hc1 := hSw.1.cell; have hc2 := hSw.2.1.cell;go_simp <;> with_reducible rfl)
      try simp only [Act.put, List.setIfInBounds_toArray, List.set_cons_zero, List.set_cons_succ]
      refine wpAnyH_take (i := 15) (oi := { dst := some 3, op := Op.assign (Operand.tmp 18), type := 4, pos := "l09_house.go:168", after := #[{ on := 14, ground := Ground.data }, { on := 12, ground := Ground.chain }, { on := 0, ground := Ground.phase }, { on := 1, ground := Ground.phase }, { on := 2, ground := Ground.phase }, { on := 3, ground := Ground.phase }, { on := 4, ground := Ground.phase }, { on := 5, ground := Ground.phase }, { on := 6, ground := Ground.phase }, { on := 7, ground := Ground.phase }, { on := 8, ground := Ground.phase }, { on := 9, ground := Ground.phase }, { on := 10, ground := Ground.phase }, { on := 11, ground := Ground.phase }, { on := 12, ground := Ground.phase }, { on := 13, ground := Ground.phase }, { on := 14, ground := Ground.phase }], guard := none }) (v := ?vvc15) rfl (by kernel_rfl) (by kernel_rfl) (by kernel_rfl) (fun _ _ _ h => h) (Or.inl ⟨by rfl, ?hyc15⟩) S0 ?restc15
      case hyc15 => (intro w hSw; have hc1 := hSw.1.cell; have hc2 := hSw.2.1.cell;go_simp <;> with_reducible rfl)
      try simp only [Act.put, List.setIfInBounds_toArray, List.set_cons_zero, List.set_cons_succ]
      refine wpAnyH_done (by kernel_rfl) ?_ _
      all_goals
        have HB := Lib.hid S0.2.2
        clear S0
        go_wp2_with fail
        go_ret
        first | exact ⟨rfl, HB.out⟩ | exact ⟨bool_ret (by simp [h2]), HB.out⟩ | exact ⟨bool_ret (by simp_all), HB.out⟩
set_option maxRecDepth 100000 in
set_option maxHeartbeats 4000000 in
theorem frozC_any (x : Fz) (q : Nat) (id now ep : Int) (vd vp vr vg vw vf : Value) (doors : List Int) (W : World) (hB : Blk W q 38 #[.int .i64 id, .int .i64 now, .int .i64 ep, vd, vp, vr, vg, vw, vf]) (hd : SlAt W 1 vd (doors.map clI)) (hn : doors.length ≤ 1048576) :
    Calls Tryz.prog 128 #[x.val, .pointer (some ⟨q, 0, none⟩)] W fun e w' => e = .returned (.bool (!fzFits id doors x)) ∧ Below W.heap.size W w' := by
  have HD := Lib.hid (fun (W' : World) (hb : Below W.heap.size W W') => implRoomAt_any doors vd x.door W' (SlAt.kept hd hb) hn)
  have S0 : Blk (W.alloc (.cells x.ar 85)) q 38 #[.int .i64 id, .int .i64 now, .int .i64 ep, vd, vp, vr, vg, vw, vf] ∧ Blk (W.alloc (.cells x.ar 85)) W.heap.size 85 x.ar ∧ Below W.heap.size W (W.alloc (.cells x.ar 85)) := ⟨hB.alloc _, Blk.new _ _ _, (Below.refl _ _).alloc (Nat.le_refl _) _⟩
  obtain ⟨da, dc, rfl⟩ : ∃ a c, vd = .slice a (doors.map clI).length c := by
    obtain ⟨a, c, e, _⟩ := hd
    exact ⟨a, c, e⟩
  clear hB hd
  simp only [List.length_map] at *
  have HR : Hid ((x.house = id → (!fzFits id doors x) = !decide (x.vni = roomAt doors x.door)) ∧ (x.house ≠ id → (!fzFits id doors x) = !decide (x.door = 0))) := Lib.hid ⟨fun h => by rw [fzFits, if_pos h], fun h => by rw [fzFits, if_neg h]⟩
  generalize (!fzFits id doors x) = R at *
  unfold Fz.ar at S0
  generalize roomAt doors x.door = rm at *
  obtain ⟨v, m, h, d⟩ := x
  unfold Fz.val
  dsimp only at *
  have c1 := S0.1.cell
  have c2 := S0.2.1.cell
  by_cases h1 : h = id
  · subst h1
    have HR1 := Lib.hid (HR.out.1 rfl)
    clear HR
    go_enter Tryz.func128, Tryz.ntmps128
    go_upto_region 2 with fail
    clear c1 c2
    replace S0 := (show Blk (World.drew _) _ _ _ ∧ Blk (World.drew _) _ _ _ ∧ Below W.heap.size W (World.drew _) from ⟨S0.1.drew, S0.2.1.drew, S0.2.2.drew⟩)
    generalize W.alloc (.cells #[.int .i64 v, .int .i64 m, .int .i64 h, .int .i64 d] 85) = W1 at *
    refine wp_region_held_drew (S := fun W' => Blk W' q 38 _ ∧ Blk W' W.heap.size 85 _ ∧ Below W.heap.size W W') (by kernel_rfl) S0 (fun hHeld => ?_)
    clear hHeld
    refine wpAnyH_take (i := 0) (oi := { dst := some 9, op := Op.fieldAddr 85 (Operand.tmp 2) 0, type := 0, pos := "l09_house.go:185", after := #[], guard := none }) (v := ?vva1) rfl (by kernel_rfl) (by kernel_rfl) (by kernel_rfl) (fun _ _ _ h => h) (Or.inl ⟨by rfl, ?hya1⟩) S0 ?resta1
    case hya1 => (intro w hSw; have hc1 := hSw.1.cell; have hc2 := hSw.2.1.cell;go_simp <;> with_reducible rfl)
    try simp only [Act.put, List.setIfInBounds_toArray, List.set_cons_zero, List.set_cons_succ]
    refine wpAnyH_take (i := 1) (oi := { dst := some 10, op := Op.load 2 (Operand.tmp 9), type := 2, pos := "l09_house.go:185", after := #[{ on := 0, ground := Ground.data }], guard := none }) (v := ?vva2) rfl (by kernel_rfl) (by kernel_rfl) (by kernel_rfl) (fun _ _ _ h => h) (Or.inl ⟨by rfl, ?hya2⟩) S0 ?resta2
    case hya2 => (intro w hSw; have hc1 := hSw.1.cell; have hc2 := hSw.2.1.cell;go_simp <;> with_reducible rfl)
    try simp only [Act.put, List.setIfInBounds_toArray, List.set_cons_zero, List.set_cons_succ]
    refine wpAnyH_take (i := 2) (oi := { dst := some 11, op := Op.fieldAddr 38 (Operand.tmp 1) 3, type := 0, pos := "l09_house.go:185", after := #[], guard := none }) (v := ?vva3) rfl (by kernel_rfl) (by kernel_rfl) (by kernel_rfl) (fun _ _ _ h => h) (Or.inl ⟨by rfl, ?hya3⟩) S0 ?resta3
    case hya3 => (intro w hSw; have hc1 := hSw.1.cell; have hc2 := hSw.2.1.cell;go_simp <;> with_reducible rfl)
    try simp only [Act.put, List.setIfInBounds_toArray, List.set_cons_zero, List.set_cons_succ]
    refine wpAnyH_take (i := 3) (oi := { dst := some 12, op := Op.load 22 (Operand.tmp 11), type := 22, pos := "l09_house.go:185", after := #[{ on := 2, ground := Ground.data }], guard := none }) (v := ?vva4) rfl (by kernel_rfl) (by kernel_rfl) (by kernel_rfl) (fun _ _ _ h => h) (Or.inl ⟨by rfl, ?hya4⟩) S0 ?resta4
    case hya4 => (intro w hSw; have hc1 := hSw.1.cell; have hc2 := hSw.2.1.cell;go_simp <;> with_reducible rfl)
    try simp only [Act.put, List.setIfInBounds_toArray, List.set_cons_zero, List.set_cons_succ]
    refine wpAnyH_take (i := 4) (oi := { dst := some 13, op := Op.fieldAddr 85 (Operand.tmp 2) 3, type := 0, pos := "l09_house.go:185", after := #[], guard := none }) (v := ?vva5) rfl (by kernel_rfl) (by kernel_rfl) (by kernel_rfl) (fun _ _ _ h => h) (Or.inl ⟨by rfl, ?hya5⟩) S0 ?resta5
    case hya5 => (intro w hSw; have hc1 := hSw.1.cell; have hc2 := hSw.2.1.cell;go_simp <;> with_reducible rfl)
    try simp only [Act.put, List.setIfInBounds_toArray, List.set_cons_zero, List.set_cons_succ]
    refine wpAnyH_take (i := 5) (oi := { dst := some 14, op := Op.load 2 (Operand.tmp 13), type := 2, pos := "l09_house.go:185", after := #[{ on := 4, ground := Ground.data }], guard := none }) (v := ?vva6) rfl (by kernel_rfl) (by kernel_rfl) (by kernel_rfl) (fun _ _ _ h => h) (Or.inl ⟨by rfl, ?hya6⟩) S0 ?resta6
    case hya6 => (intro w hSw; have hc1 := hSw.1.cell; have hc2 := hSw.2.1.cell;go_simp <;> with_reducible rfl)
    try simp only [Act.put, List.setIfInBounds_toArray, List.set_cons_zero, List.set_cons_succ]
    refine wpAnyH_ready (rs := [6]) (by kernel_rfl) (by simp) ?_
    refine AllReadyH.cons (o := { dst := some 15, op := Op.call { callee := Callee.value (Operand.func 120), args := #[Operand.tmp 12, Operand.tmp 14], argTypes := #[22, 2] }, type := 2, pos := "l09_house.go:185", after := #[{ on := 3, ground := Ground.data }, { on := 5, ground := Ground.data }], guard := none }) rfl (fun K hK => ?_) AllReadyH.nil
    go_simp
    refine (HD.out _ S0.2.2).mono ?_
    rintro e w1 ⟨rfl, rfl⟩
    refine hK.out _ _ S0 (fun hHeld => ?_)
    clear hK K hHeld
    try simp only [Act.put, List.setIfInBounds_toArray, List.set_cons_zero, List.set_cons_succ]
    refine wpAnyH_take (i := 7) (oi := { dst := some 16, op := Op.binOp BinOp.neq 2 (Operand.tmp 10) (Operand.tmp 15) 2, type := 4, pos := "l09_house.go:185", after := #[{ on := 1, ground := Ground.data }, { on := 6, ground := Ground.data }], guard := none }) (v := ?vva7) rfl (by kernel_rfl) (by kernel_rfl) (by kernel_rfl) (fun _ _ _ h => h) (Or.inl ⟨by rfl, ?hya7⟩) S0 ?resta7
    case hya7 => (intro w hSw; have hc1 := hSw.1.cell; have hc2 := hSw.2.1.cell;go_simp <;> with_reducible rfl)
    try simp only [Act.put, List.setIfInBounds_toArray, List.set_cons_zero, List.set_cons_succ]
    refine wpAnyH_take (i := 8) (oi := { dst := some 3, op := Op.assign (Operand.tmp 16), type := 4, pos := "l09_house.go:185", after := #[{ on := 7, ground := Ground.data }, { on := 6, ground := Ground.chain }, { on := 0, ground := Ground.phase }, { on := 1, ground := Ground.phase }, { on := 2, ground := Ground.phase }, { on := 3, ground := Ground.phase }, { on := 4, ground := Ground.phase }, { on := 5, ground := Ground.phase }, { on := 6, ground := Ground.phase }, { on := 7, ground := Ground.phase }], guard := none }) (v := ?vva8) rfl (by kernel_rfl) (by kernel_rfl) (by kernel_rfl) (fun _ _ _ h => h) (Or.inl ⟨by rfl, ?hya8⟩) S0 ?resta8
    case hya8 => (intro w hSw; have hc1 := hSw.1.cell; have hc2 := hSw.2.1.cell;go_simp <;> with_reducible rfl)
    try simp only [Act.put, List.setIfInBounds_toArray, List.set_cons_zero, List.set_cons_succ]
    refine wpAnyH_done (by kernel_rfl) ?_ _
    all_goals
      have HB := Lib.hid S0.2.2
      clear S0
      go_wp2_with fail
      go_ret
      exact ⟨bool_ret (by rw [HR1.out]; first | rfl | simp | (by_cases hh : v = rm <;> simp [hh])), HB.out⟩
  · have HR2 := Lib.hid (HR.out.2 h1)
    have hX1 : decide (h = id) = false := decide_eq_false h1
    have hX2 : (h == id) = false := by simpa using h1
    have HB := Lib.hid S0.2.2
    clear HR S0
    go_enter Tryz.func128, Tryz.ntmps128
    go_wp2_with fail
    go_ret
    exact ⟨bool_ret (by rw [HR2.out]; first | rfl | simp | (by_cases hh : d = 0 <;> simp [hh])), HB.out⟩
end Go.Proofs.YtglealihdkecpaaGreat

/- HouseRight, of the program. -/
namespace Go.Proofs.YtglealihdkecpaaGreat
open Go.RowKit

theorem all_not_any {α : Type} {l : List α} {P p : α → Bool} (h : ∀ x ∈ l, P x = !p x) : l.all P = !l.any p := by
  induction l with
  | nil => rfl
  | cons a t ih => rw [List.all_cons, List.any_cons, h a (.head _), ih (fun x hx => h x (.tail _ hx)), Bool.not_or]
theorem SlAt.form1 {W : World} {sz : Nat} {v : Value} {vs : List (List Value)} (h : SlAt W sz v vs) : ∃ a c, v = .slice a vs.length c := by
  obtain ⟨a, c, e, _⟩ := h
  exact ⟨a, c, e⟩
set_option maxHeartbeats 1000000 in
theorem implDoors_any (l : List Int) (v : Value) (w : World) (h : SlAt w 1 v (l.map clI)) (hn : l.length ≤ 1048576) :
    Calls Tryz.prog 59 #[v] w fun e w' => e = .returned (.bool (doorsOk l)) ∧ Below w.heap.size w w' := by
  have HC := Lib.hid (containsFI_any (fun d => decide (d ≠ 0) && !isVni d) l v w h hn (fun i hi W hb => (doorsC_any l[i] W).mono (fun e w' ⟨h1, h2⟩ => ⟨h1, by subst h2; exact Below.refl _ _⟩)))
  have HR : Hid (doorsOk l = (decide (l.length = 4) && !l.any (fun d => decide (d ≠ 0) && !isVni d))) := Lib.hid (by
    unfold doorsOk
    rw [all_not_any (p := fun d => decide (d ≠ 0) && !isVni d)]
    intro x _
    by_cases h : x = 0 <;> simp [h])
  obtain ⟨a, c, rfl⟩ := h.form1
  clear h
  rw [List.length_map] at *
  generalize doorsOk l = R at *
  generalize List.any l _ = K at *
  generalize l.length = n at *
  by_cases h4 : n = 4
  · subst h4
    go_enter Tryz.func59, Tryz.ntmps59
    go_wp2_with fail
    refine HC.out.mono ?_
    rintro e w1 ⟨rfl, hb1⟩
    have HB := Lib.hid hb1
    clear hb1
    go_wp2_with fail
    go_ret
    exact ⟨bool_ret (by rw [HR.out]; rfl), HB.out⟩
  · have hX0 : ¬ (n : Int) = 4 := by omega
    have hX1 : decide ((n : Int) = 4) = false := decide_eq_false hX0
    have hX2 : ((n : Int) == 4) = false := by simpa using hX0
    have HR2 : Hid (R = false) := Lib.hid (by rw [HR.out, decide_eq_false h4]; rfl)
    clear HR
    go_enter Tryz.func59, Tryz.ntmps59
    go_wp2_with fail
    go_ret
    exact ⟨bool_ret HR2.out.symm, Below.refl _ _⟩
set_option maxHeartbeats 1000000 in
theorem implPipes_any (l : List Pi) (v : Value) (ep : Int) (w : World) (h : PisAt w v l) (hn : l.length ≤ 1048576) :
    Calls Tryz.prog 60 #[v, .int .i64 2, .int .i64 ep] w fun e w' => e = .returned (.bool (pipesOk ep l)) ∧ Below w.heap.size w w' := by
  have hb0 : Below w.heap.size w (w.alloc (.cells #[.int .i64 ep] 2)) := (Below.refl _ _).alloc (Nat.le_refl _) _
  have hq : w.heap.size < (w.alloc (.cells #[.int .i64 ep] 2)).heap.size := by simp
  have hcq : (w.alloc (.cells #[.int .i64 ep] 2)).cell? ⟨w.heap.size, 0, none⟩ = some (.int .i64 ep) := by rw [(Blk.new w 2 #[.int .i64 ep]).cell]; rfl
  have HC := Lib.hid (containsFP_any (fun x => !x.right || decide (ep < x.e)) w.heap.size l v _ (h.sl.kept hb0) hn (fun i hi W hb => pipesC_any l[i] ep w.heap.size W (Nat.lt_of_lt_of_le hq hb.size) ((hb.cell (p := ⟨w.heap.size, 0, none⟩) hq).trans hcq) (((h.out _ (List.getElem_mem hi)).kept hb0).kept hb)))
  have HR : Hid (pipesOk ep l = (decide (1 ≤ l.length) && (decide (l.length ≤ 2) && !l.any (fun x => !x.right || decide (ep < x.e))))) := Lib.hid (by
    unfold pipesOk
    rw [all_not_any (p := fun x => !x.right || decide (ep < x.e))]
    intro x _
    have : (!decide (ep < x.e)) = decide (x.e ≤ ep) := by
      by_cases h : x.e ≤ ep
      · rw [decide_eq_true h, decide_eq_false (by omega)]; rfl
      · rw [decide_eq_false h, decide_eq_true (by omega)]; rfl
    rw [Bool.not_or, Bool.not_not, this])
  have HB0 := Lib.hid hb0
  obtain ⟨a, c, rfl⟩ := h.sl.form1
  clear h hcq hq hb0
  rw [List.length_map] at *
  generalize pipesOk ep l = R at *
  generalize List.any l _ = K at *
  generalize l.length = n at *
  by_cases h1 : 1 ≤ n
  · by_cases h2 : n ≤ 2
    · have HR2 : Hid (R = !K) := Lib.hid (by rw [HR.out, decide_eq_true h1, decide_eq_true h2]; rfl)
      clear HR
      go_enter Tryz.func60, Tryz.ntmps60
      go_wp2_with fail
      refine HC.out.mono ?_
      rintro e w1 ⟨rfl, hb1⟩
      have HB := Lib.hid (HB0.out.trans (hb1.mono HB0.out.size))
      clear hb1
      go_wp2_with fail
      go_ret
      exact ⟨bool_ret HR2.out.symm, HB.out⟩
    · have HR2 : Hid (R = false) := Lib.hid (by rw [HR.out, decide_eq_true h1, decide_eq_false h2]; rfl)
      clear HR
      go_enter Tryz.func60, Tryz.ntmps60
      go_wp2_with fail
      go_ret
      refine ⟨bool_ret HR2.out.symm, ?_⟩
      go_grown
  · have HR2 : Hid (R = false) := Lib.hid (by rw [HR.out, decide_eq_false h1]; rfl)
    clear HR
    go_enter Tryz.func60, Tryz.ntmps60
    go_wp2_with fail
    go_ret
    refine ⟨bool_ret HR2.out.symm, ?_⟩
    go_grown
set_option maxRecDepth 100000 in
set_option maxHeartbeats 1000000 in
theorem ribFits_any (h : Ho) (vd vp vr vg vw vf : Value) (w : World) (A : HoAt w vd vp vr vg vw vf h) (hs : h.small 1048576) :
    Calls Tryz.prog 61 #[hoV h vd vp vr vg vw vf] w fun e w' => e = .returned (.bool (ribFits h.pipes.length h.rib)) ∧ Below w.heap.size w w' := by
  obtain ⟨ap, cp, hvp⟩ := A.pipes.sl.form1
  subst hvp
  have X0 := Blk.new w 38 #[.int .i64 h.id, .int .i64 h.now, .int .i64 h.ep, vd, .slice ap (h.pipes.map Pi.cl).length cp, vr, vg, vw, vf]
  have hb0 : Below w.heap.size w (w.alloc (.cells #[.int .i64 h.id, .int .i64 h.now, .int .i64 h.ep, vd, .slice ap (h.pipes.map Pi.cl).length cp, vr, vg, vw, vf] 38)) := (Below.refl _ _).alloc (Nat.le_refl _) _
  have A0 := A.kept hb0
  have HRi := Lib.hid (fun (W1 : World) (hb1 : Below (w.alloc (.cells #[.int .i64 h.id, .int .i64 h.now, .int .i64 h.ep, vd, .slice ap (h.pipes.map Pi.cl).length cp, vr, vg, vw, vf] 38)).heap.size (w.alloc (.cells #[.int .i64 h.id, .int .i64 h.now, .int .i64 h.ep, vd, .slice ap (h.pipes.map Pi.cl).length cp, vr, vg, vw, vf] 38)) W1) => implRibRight_any h.rib vr W1 (SlAt.kept A0.rib hb1) hs.rib)
  have HCo := Lib.hid (fun (W1 : World) (hb1 : Below (w.alloc (.cells #[.int .i64 h.id, .int .i64 h.now, .int .i64 h.ep, vd, .slice ap (h.pipes.map Pi.cl).length cp, vr, vg, vw, vf] 38)).heap.size (w.alloc (.cells #[.int .i64 h.id, .int .i64 h.now, .int .i64 h.ep, vd, .slice ap (h.pipes.map Pi.cl).length cp, vr, vg, vw, vf] 38)) W1) => containsFH_any (fun x => decide (((h.pipes.map Pi.cl).length : Int) < x.p)) w.heap.size h.rib vr W1 (SlAt.kept A0.rib hb1) hs.rib (fun i hi W hb => ribC_any (h.rib[i]) w.heap.size h.id h.now h.ep vd ap (h.pipes.map Pi.cl).length cp vr vg vw vf W ((X0.kept hb1).kept hb)))
  have HR : Hid ((ribFits h.pipes.length h.rib) = (ribOk h.rib && !(h.rib).any (fun x => decide (((h.pipes.map Pi.cl).length : Int) < x.p)))) := Lib.hid (by
    unfold ribFits
    rw [all_not_any (p := fun x => decide (((h.pipes.map Pi.cl).length : Int) < x.p))]
    intro x _
    rw [List.length_map]
    by_cases hh : x.p ≤ (h.pipes.length : Int)
    · rw [decide_eq_true hh, decide_eq_false (by omega)]; rfl
    · rw [decide_eq_false hh, decide_eq_true (by omega)]; rfl)
  have HX := Lib.hid X0
  have HB0 := Lib.hid hb0
  unfold RrPost at HRi
  obtain ⟨ad, cd, hvd⟩ := A.doors.form1
  obtain ⟨ar, cr, hvr⟩ := SlAt.form1 A.rib
  obtain ⟨ag, cg, hvg⟩ := SlAt.form1 A.gus
  obtain ⟨aw, cw, hvw⟩ := SlAt.form1 A.went
  obtain ⟨af, cf, hvf⟩ := SlAt.form1 A.froz
  subst hvd hvr hvg hvw hvf
  clear A A0 X0 hb0
  simp only [List.length_map] at *
  generalize ribFits h.pipes.length h.rib = R at *
  generalize ribOk h.rib = K1 at *
  generalize List.any _ _ = K2 at *
  unfold hoV
  go_enter Tryz.func61, Tryz.ntmps61
  go_upto_region 1 with fail
  generalize w.alloc (.cells #[.int .i64 h.id, .int .i64 h.now, .int .i64 h.ep, .slice ad h.doors.length cd, .slice ap h.pipes.length cp, .slice ar h.rib.length cr, .slice ag h.gus.length cg, .slice aw h.went.length cw, .slice af h.froz.length cf] 38) = W1 at *
  have cX := HX.out.cell
  cases K1
  · have HR2 : Hid (R = false) := Lib.hid (by rw [HR.out]; rfl)
    clear HR
    go_wp2_with fail
    refine (HRi.out _ (Below.refl _ _)).mono ?_
    rintro e w1 ⟨rfl, hb1⟩
    have HB := Lib.hid (HB0.out.trans (hb1.mono HB0.out.size))
    clear hb1
    go_wp2_with fail
    go_ret
    exact ⟨bool_ret HR2.out.symm, HB.out⟩
  · have HR2 : Hid (R = !K2) := Lib.hid (by rw [HR.out]; rfl)
    clear HR
    go_wp2_with fail
    refine (HRi.out _ (Below.refl _ _)).mono ?_
    rintro e w1 ⟨rfl, hb1⟩
    have HB := Lib.hid (HB0.out.trans (hb1.mono HB0.out.size))
    have HK := Lib.hid (HCo.out _ hb1)
    have cX1 := (HX.out.kept hb1).cell
    clear hb1 cX
    go_wp2_with fail
    refine HK.out.mono ?_
    rintro e w2 ⟨rfl, hb2⟩
    have HB2 := Lib.hid (HB.out.trans (hb2.mono HB.out.size))
    clear hb2
    go_wp2_with fail
    go_ret
    exact ⟨bool_ret HR2.out.symm, HB2.out⟩
set_option maxRecDepth 100000 in
set_option maxHeartbeats 1000000 in
theorem guestsFit_any (h : Ho) (vd vp vr vg vw vf : Value) (w : World) (A : HoAt w vd vp vr vg vw vf h) (hs : h.small 1048576) :
    Calls Tryz.prog 62 #[hoV h vd vp vr vg vw vf] w fun e w' => e = .returned (.bool (gusFits h.doors h.now h.gus)) ∧ Below w.heap.size w w' := by
  have X0 := Blk.new w 38 #[.int .i64 h.id, .int .i64 h.now, .int .i64 h.ep, vd, vp, vr, vg, vw, vf]
  have hb0 : Below w.heap.size w (w.alloc (.cells #[.int .i64 h.id, .int .i64 h.now, .int .i64 h.ep, vd, vp, vr, vg, vw, vf] 38)) := (Below.refl _ _).alloc (Nat.le_refl _) _
  have A0 := A.kept hb0
  have HRi := Lib.hid (fun (W1 : World) (hb1 : Below (w.alloc (.cells #[.int .i64 h.id, .int .i64 h.now, .int .i64 h.ep, vd, vp, vr, vg, vw, vf] 38)).heap.size (w.alloc (.cells #[.int .i64 h.id, .int .i64 h.now, .int .i64 h.ep, vd, vp, vr, vg, vw, vf] 38)) W1) => implGuestsRight_any h.gus vg W1 (SlAt.kept A0.gus hb1) hs.gus)
  have HCo := Lib.hid (fun (W1 : World) (hb1 : Below (w.alloc (.cells #[.int .i64 h.id, .int .i64 h.now, .int .i64 h.ep, vd, vp, vr, vg, vw, vf] 38)).heap.size (w.alloc (.cells #[.int .i64 h.id, .int .i64 h.now, .int .i64 h.ep, vd, vp, vr, vg, vw, vf] 38)) W1) => containsFG_any (fun x => decide (h.now < x.seen) || !decide (x.vni = roomAt h.doors x.door)) w.heap.size h.gus vg W1 (SlAt.kept A0.gus hb1) hs.gus (fun i hi W hb => guestsC_any (h.gus[i]) w.heap.size h.id h.now h.ep vd vp vr vg vw vf h.doors W ((X0.kept hb1).kept hb) ((A0.doors.kept hb1).kept hb) hs.doors))
  have HR : Hid ((gusFits h.doors h.now h.gus) = (gusOk h.gus && !(h.gus).any (fun x => decide (h.now < x.seen) || !decide (x.vni = roomAt h.doors x.door)))) := Lib.hid (by
    unfold gusFits
    rw [all_not_any (p := fun x => decide (h.now < x.seen) || !decide (x.vni = roomAt h.doors x.door))]
    intro x _
    have : (!decide (h.now < x.seen)) = decide (x.seen ≤ h.now) := by
      by_cases hh : x.seen ≤ h.now
      · rw [decide_eq_true hh, decide_eq_false (by omega)]; rfl
      · rw [decide_eq_false hh, decide_eq_true (by omega)]; rfl
    rw [Bool.not_or, Bool.not_not, this])
  have HX := Lib.hid X0
  have HB0 := Lib.hid hb0
  unfold GrPost at HRi
  obtain ⟨ad, cd, hvd⟩ := A.doors.form1
  obtain ⟨ap, cp, hvp⟩ := A.pipes.sl.form1
  obtain ⟨ar, cr, hvr⟩ := SlAt.form1 A.rib
  obtain ⟨ag, cg, hvg⟩ := SlAt.form1 A.gus
  obtain ⟨aw, cw, hvw⟩ := SlAt.form1 A.went
  obtain ⟨af, cf, hvf⟩ := SlAt.form1 A.froz
  subst hvd hvp hvr hvg hvw hvf
  clear A A0 X0 hb0
  simp only [List.length_map] at *
  generalize gusFits h.doors h.now h.gus = R at *
  generalize gusOk h.gus = K1 at *
  generalize List.any _ _ = K2 at *
  unfold hoV
  go_enter Tryz.func62, Tryz.ntmps62
  go_upto_region 1 with fail
  generalize w.alloc (.cells #[.int .i64 h.id, .int .i64 h.now, .int .i64 h.ep, .slice ad h.doors.length cd, .slice ap h.pipes.length cp, .slice ar h.rib.length cr, .slice ag h.gus.length cg, .slice aw h.went.length cw, .slice af h.froz.length cf] 38) = W1 at *
  have cX := HX.out.cell
  cases K1
  · have HR2 : Hid (R = false) := Lib.hid (by rw [HR.out]; rfl)
    clear HR
    go_wp2_with fail
    refine (HRi.out _ (Below.refl _ _)).mono ?_
    rintro e w1 ⟨rfl, hb1⟩
    have HB := Lib.hid (HB0.out.trans (hb1.mono HB0.out.size))
    clear hb1
    go_wp2_with fail
    go_ret
    exact ⟨bool_ret HR2.out.symm, HB.out⟩
  · have HR2 : Hid (R = !K2) := Lib.hid (by rw [HR.out]; rfl)
    clear HR
    go_wp2_with fail
    refine (HRi.out _ (Below.refl _ _)).mono ?_
    rintro e w1 ⟨rfl, hb1⟩
    have HB := Lib.hid (HB0.out.trans (hb1.mono HB0.out.size))
    have HK := Lib.hid (HCo.out _ hb1)
    have cX1 := (HX.out.kept hb1).cell
    clear hb1 cX
    go_wp2_with fail
    refine HK.out.mono ?_
    rintro e w2 ⟨rfl, hb2⟩
    have HB2 := Lib.hid (HB.out.trans (hb2.mono HB.out.size))
    clear hb2
    go_wp2_with fail
    go_ret
    exact ⟨bool_ret HR2.out.symm, HB2.out⟩
set_option maxRecDepth 100000 in
set_option maxHeartbeats 1000000 in
theorem wentFits_any (h : Ho) (vd vp vr vg vw vf : Value) (w : World) (A : HoAt w vd vp vr vg vw vf h) (hs : h.small 1048576) :
    Calls Tryz.prog 63 #[hoV h vd vp vr vg vw vf] w fun e w' => e = .returned (.bool (mvsFits h.now h.went)) ∧ Below w.heap.size w w' := by
  have X0 := Blk.new w 38 #[.int .i64 h.id, .int .i64 h.now, .int .i64 h.ep, vd, vp, vr, vg, vw, vf]
  have hb0 : Below w.heap.size w (w.alloc (.cells #[.int .i64 h.id, .int .i64 h.now, .int .i64 h.ep, vd, vp, vr, vg, vw, vf] 38)) := (Below.refl _ _).alloc (Nat.le_refl _) _
  have A0 := A.kept hb0
  have HRi := Lib.hid (fun (W1 : World) (hb1 : Below (w.alloc (.cells #[.int .i64 h.id, .int .i64 h.now, .int .i64 h.ep, vd, vp, vr, vg, vw, vf] 38)).heap.size (w.alloc (.cells #[.int .i64 h.id, .int .i64 h.now, .int .i64 h.ep, vd, vp, vr, vg, vw, vf] 38)) W1) => implWentRight_any h.went vw W1 (SlAt.kept A0.went hb1) hs.went)
  have HCo := Lib.hid (fun (W1 : World) (hb1 : Below (w.alloc (.cells #[.int .i64 h.id, .int .i64 h.now, .int .i64 h.ep, vd, vp, vr, vg, vw, vf] 38)).heap.size (w.alloc (.cells #[.int .i64 h.id, .int .i64 h.now, .int .i64 h.ep, vd, vp, vr, vg, vw, vf] 38)) W1) => containsFM_any (fun x => decide (h.now < x.tm)) w.heap.size h.went vw W1 (SlAt.kept A0.went hb1) hs.went (fun i hi W hb => wentC_any (h.went[i]) w.heap.size h.id h.now h.ep vd vp vr vg vw vf W ((X0.kept hb1).kept hb)))
  have HR : Hid ((mvsFits h.now h.went) = (mvsOk h.went && !(h.went).any (fun x => decide (h.now < x.tm)))) := Lib.hid (by
    unfold mvsFits
    rw [all_not_any (p := fun x => decide (h.now < x.tm))]
    intro x _
    by_cases hh : x.tm ≤ h.now
    · rw [decide_eq_true hh, decide_eq_false (by omega)]; rfl
    · rw [decide_eq_false hh, decide_eq_true (by omega)]; rfl)
  have HX := Lib.hid X0
  have HB0 := Lib.hid hb0
  unfold MrPost at HRi
  obtain ⟨ad, cd, hvd⟩ := A.doors.form1
  obtain ⟨ap, cp, hvp⟩ := A.pipes.sl.form1
  obtain ⟨ar, cr, hvr⟩ := SlAt.form1 A.rib
  obtain ⟨ag, cg, hvg⟩ := SlAt.form1 A.gus
  obtain ⟨aw, cw, hvw⟩ := SlAt.form1 A.went
  obtain ⟨af, cf, hvf⟩ := SlAt.form1 A.froz
  subst hvd hvp hvr hvg hvw hvf
  clear A A0 X0 hb0
  simp only [List.length_map] at *
  generalize mvsFits h.now h.went = R at *
  generalize mvsOk h.went = K1 at *
  generalize List.any _ _ = K2 at *
  unfold hoV
  go_enter Tryz.func63, Tryz.ntmps63
  go_upto_region 1 with fail
  generalize w.alloc (.cells #[.int .i64 h.id, .int .i64 h.now, .int .i64 h.ep, .slice ad h.doors.length cd, .slice ap h.pipes.length cp, .slice ar h.rib.length cr, .slice ag h.gus.length cg, .slice aw h.went.length cw, .slice af h.froz.length cf] 38) = W1 at *
  have cX := HX.out.cell
  cases K1
  · have HR2 : Hid (R = false) := Lib.hid (by rw [HR.out]; rfl)
    clear HR
    go_wp2_with fail
    refine (HRi.out _ (Below.refl _ _)).mono ?_
    rintro e w1 ⟨rfl, hb1⟩
    have HB := Lib.hid (HB0.out.trans (hb1.mono HB0.out.size))
    clear hb1
    go_wp2_with fail
    go_ret
    exact ⟨bool_ret HR2.out.symm, HB.out⟩
  · have HR2 : Hid (R = !K2) := Lib.hid (by rw [HR.out]; rfl)
    clear HR
    go_wp2_with fail
    refine (HRi.out _ (Below.refl _ _)).mono ?_
    rintro e w1 ⟨rfl, hb1⟩
    have HB := Lib.hid (HB0.out.trans (hb1.mono HB0.out.size))
    have HK := Lib.hid (HCo.out _ hb1)
    have cX1 := (HX.out.kept hb1).cell
    clear hb1 cX
    go_wp2_with fail
    refine HK.out.mono ?_
    rintro e w2 ⟨rfl, hb2⟩
    have HB2 := Lib.hid (HB.out.trans (hb2.mono HB.out.size))
    clear hb2
    go_wp2_with fail
    go_ret
    exact ⟨bool_ret HR2.out.symm, HB2.out⟩
set_option maxRecDepth 100000 in
set_option maxHeartbeats 1000000 in
theorem frozenFits_any (h : Ho) (vd vp vr vg vw vf : Value) (w : World) (A : HoAt w vd vp vr vg vw vf h) (hs : h.small 1048576) :
    Calls Tryz.prog 64 #[hoV h vd vp vr vg vw vf] w fun e w' => e = .returned (.bool (frozFits h.id h.doors h.froz)) ∧ Below w.heap.size w w' := by
  have X0 := Blk.new w 38 #[.int .i64 h.id, .int .i64 h.now, .int .i64 h.ep, vd, vp, vr, vg, vw, vf]
  have hb0 : Below w.heap.size w (w.alloc (.cells #[.int .i64 h.id, .int .i64 h.now, .int .i64 h.ep, vd, vp, vr, vg, vw, vf] 38)) := (Below.refl _ _).alloc (Nat.le_refl _) _
  have A0 := A.kept hb0
  have HRi := Lib.hid (fun (W1 : World) (hb1 : Below (w.alloc (.cells #[.int .i64 h.id, .int .i64 h.now, .int .i64 h.ep, vd, vp, vr, vg, vw, vf] 38)).heap.size (w.alloc (.cells #[.int .i64 h.id, .int .i64 h.now, .int .i64 h.ep, vd, vp, vr, vg, vw, vf] 38)) W1) => listRightF_any h.froz vf W1 (SlAt.kept A0.froz hb1) hs.froz)
  have HCo := Lib.hid (fun (W1 : World) (hb1 : Below (w.alloc (.cells #[.int .i64 h.id, .int .i64 h.now, .int .i64 h.ep, vd, vp, vr, vg, vw, vf] 38)).heap.size (w.alloc (.cells #[.int .i64 h.id, .int .i64 h.now, .int .i64 h.ep, vd, vp, vr, vg, vw, vf] 38)) W1) => containsFF_any (fun x => !fzFits h.id h.doors x) w.heap.size h.froz vf W1 (SlAt.kept A0.froz hb1) hs.froz (fun i hi W hb => frozC_any (h.froz[i]) w.heap.size h.id h.now h.ep vd vp vr vg vw vf h.doors W ((X0.kept hb1).kept hb) ((A0.doors.kept hb1).kept hb) hs.doors))
  have HR : Hid ((frozFits h.id h.doors h.froz) = (frozOk h.froz && !(h.froz).any (fun x => !fzFits h.id h.doors x))) := Lib.hid (by
    unfold frozFits
    rw [all_not_any (p := fun x => !fzFits h.id h.doors x)]
    intro x _
    rw [Bool.not_not])
  have HX := Lib.hid X0
  have HB0 := Lib.hid hb0
  obtain ⟨ad, cd, hvd⟩ := A.doors.form1
  obtain ⟨ap, cp, hvp⟩ := A.pipes.sl.form1
  obtain ⟨ar, cr, hvr⟩ := SlAt.form1 A.rib
  obtain ⟨ag, cg, hvg⟩ := SlAt.form1 A.gus
  obtain ⟨aw, cw, hvw⟩ := SlAt.form1 A.went
  obtain ⟨af, cf, hvf⟩ := SlAt.form1 A.froz
  subst hvd hvp hvr hvg hvw hvf
  clear A A0 X0 hb0
  simp only [List.length_map] at *
  generalize frozFits h.id h.doors h.froz = R at *
  unfold frozOk at *
  generalize listOk Fz.right lessF 8 h.froz = K1 at *
  generalize List.any _ _ = K2 at *
  unfold hoV
  go_enter Tryz.func64, Tryz.ntmps64
  go_upto_region 1 with fail
  generalize w.alloc (.cells #[.int .i64 h.id, .int .i64 h.now, .int .i64 h.ep, .slice ad h.doors.length cd, .slice ap h.pipes.length cp, .slice ar h.rib.length cr, .slice ag h.gus.length cg, .slice aw h.went.length cw, .slice af h.froz.length cf] 38) = W1 at *
  have cX := HX.out.cell
  cases K1
  · have HR2 : Hid (R = false) := Lib.hid (by rw [HR.out]; rfl)
    clear HR
    go_wp2_with fail
    refine (HRi.out _ (Below.refl _ _)).mono ?_
    rintro e w1 ⟨rfl, hb1⟩
    have HB := Lib.hid (HB0.out.trans (hb1.mono HB0.out.size))
    clear hb1
    go_wp2_with fail
    go_ret
    exact ⟨bool_ret HR2.out.symm, HB.out⟩
  · have HR2 : Hid (R = !K2) := Lib.hid (by rw [HR.out]; rfl)
    clear HR
    go_wp2_with fail
    refine (HRi.out _ (Below.refl _ _)).mono ?_
    rintro e w1 ⟨rfl, hb1⟩
    have HB := Lib.hid (HB0.out.trans (hb1.mono HB0.out.size))
    have HK := Lib.hid (HCo.out _ hb1)
    have cX1 := (HX.out.kept hb1).cell
    clear hb1 cX
    go_wp2_with fail
    refine HK.out.mono ?_
    rintro e w2 ⟨rfl, hb2⟩
    have HB2 := Lib.hid (HB.out.trans (hb2.mono HB.out.size))
    clear hb2
    go_wp2_with fail
    go_ret
    exact ⟨bool_ret HR2.out.symm, HB2.out⟩
end Go.Proofs.YtglealihdkecpaaGreat

/- HouseRight, of the program, whole. -/
namespace Go.Proofs.YtglealihdkecpaaGreat
open Go.RowKit

set_option maxRecDepth 100000 in
set_option maxHeartbeats 4000000 in
theorem implHouseRight_any (h : Ho) (vd vp vr vg vw vf : Value) (w : World) (A : HoAt w vd vp vr vg vw vf h) (hs : h.small 1048576) :
    Calls Tryz.prog 12 #[hoV h vd vp vr vg vw vf] w fun e w' => e = .returned (.bool (hoRight h)) ∧ Below w.heap.size w w' := by
  have HH := Lib.hid (implHouse_any h.id)
  have HT := Lib.hid (implTime_any h.now)
  have HE := Lib.hid (implEpoch_any h.ep)
  have HD := Lib.hid (fun (W : World) (hb : Below w.heap.size w W) => implDoors_any h.doors vd W (A.doors.kept hb) hs.doors)
  have HP := Lib.hid (fun (W : World) (hb : Below w.heap.size w W) => implPipes_any h.pipes vp h.ep W (A.pipes.kept hb) hs.pipes)
  have HRb := Lib.hid (fun (W : World) (hb : Below w.heap.size w W) => ribFits_any h vd vp vr vg vw vf W (A.kept hb) hs)
  have HGu := Lib.hid (fun (W : World) (hb : Below w.heap.size w W) => guestsFit_any h vd vp vr vg vw vf W (A.kept hb) hs)
  have HMv := Lib.hid (fun (W : World) (hb : Below w.heap.size w W) => wentFits_any h vd vp vr vg vw vf W (A.kept hb) hs)
  have HFz := Lib.hid (fun (W : World) (hb : Below w.heap.size w W) => frozenFits_any h vd vp vr vg vw vf W (A.kept hb) hs)
  have HR : Hid (hoRight h = (isHouse h.id && (isTime h.now && (isEpoch h.ep && (doorsOk h.doors && (pipesOk h.ep h.pipes && (ribFits h.pipes.length h.rib && (gusFits h.doors h.now h.gus && (mvsFits h.now h.went && frozFits h.id h.doors h.froz))))))))) := Lib.hid rfl
  have X0 := Blk.new w 38 #[.int .i64 h.id, .int .i64 h.now, .int .i64 h.ep, vd, vp, vr, vg, vw, vf]
  have hb0 : Below w.heap.size w (w.alloc (.cells #[.int .i64 h.id, .int .i64 h.now, .int .i64 h.ep, vd, vp, vr, vg, vw, vf] 38)) := (Below.refl _ _).alloc (Nat.le_refl _) _
  have HX := Lib.hid X0
  have HB := Lib.hid hb0
  obtain ⟨ad, cd, hvd⟩ := A.doors.form1
  obtain ⟨ap, cp, hvp⟩ := A.pipes.sl.form1
  obtain ⟨ar, cr, hvr⟩ := SlAt.form1 A.rib
  obtain ⟨ag, cg, hvg⟩ := SlAt.form1 A.gus
  obtain ⟨aw, cw, hvw⟩ := SlAt.form1 A.went
  obtain ⟨af, cf, hvf⟩ := SlAt.form1 A.froz
  subst hvd hvp hvr hvg hvw hvf
  clear A X0 hb0 hs
  simp only [List.length_map] at *
  unfold hoV at *
  generalize hoRight h = R at *
  generalize isHouse h.id = b1 at *
  generalize isTime h.now = b2 at *
  generalize isEpoch h.ep = b3 at *
  generalize doorsOk h.doors = b4 at *
  generalize pipesOk h.ep h.pipes = b5 at *
  generalize ribFits h.pipes.length h.rib = b6 at *
  generalize gusFits h.doors h.now h.gus = b7 at *
  generalize mvsFits h.now h.went = b8 at *
  generalize frozFits h.id h.doors h.froz = b9 at *
  have key : (b1 = false ∧ Hid (R = false)) ∨ (b1 = true ∧ b2 = false ∧ Hid (R = false)) ∨ (b1 = true ∧ b2 = true ∧ b3 = false ∧ Hid (R = false)) ∨ (b1 = true ∧ b2 = true ∧ b3 = true ∧ b4 = false ∧ Hid (R = false)) ∨ (b1 = true ∧ b2 = true ∧ b3 = true ∧ b4 = true ∧ b5 = false ∧ Hid (R = false)) ∨ (b1 = true ∧ b2 = true ∧ b3 = true ∧ b4 = true ∧ b5 = true ∧ b6 = false ∧ Hid (R = false)) ∨ (b1 = true ∧ b2 = true ∧ b3 = true ∧ b4 = true ∧ b5 = true ∧ b6 = true ∧ b7 = false ∧ Hid (R = false)) ∨ (b1 = true ∧ b2 = true ∧ b3 = true ∧ b4 = true ∧ b5 = true ∧ b6 = true ∧ b7 = true ∧ b8 = false ∧ Hid (R = false)) ∨ (b1 = true ∧ b2 = true ∧ b3 = true ∧ b4 = true ∧ b5 = true ∧ b6 = true ∧ b7 = true ∧ b8 = true ∧ Hid (R = b9)) := by
    have hr := HR.out
    cases b1
    · exact .inl ⟨rfl, Lib.hid hr⟩
    refine .inr ?_
    cases b2
    · exact .inl ⟨rfl, rfl, Lib.hid hr⟩
    refine .inr ?_
    cases b3
    · exact .inl ⟨rfl, rfl, rfl, Lib.hid hr⟩
    refine .inr ?_
    cases b4
    · exact .inl ⟨rfl, rfl, rfl, rfl, Lib.hid hr⟩
    refine .inr ?_
    cases b5
    · exact .inl ⟨rfl, rfl, rfl, rfl, rfl, Lib.hid hr⟩
    refine .inr ?_
    cases b6
    · exact .inl ⟨rfl, rfl, rfl, rfl, rfl, rfl, Lib.hid hr⟩
    refine .inr ?_
    cases b7
    · exact .inl ⟨rfl, rfl, rfl, rfl, rfl, rfl, rfl, Lib.hid hr⟩
    refine .inr ?_
    cases b8
    · exact .inl ⟨rfl, rfl, rfl, rfl, rfl, rfl, rfl, rfl, Lib.hid hr⟩
    · exact .inr ⟨rfl, rfl, rfl, rfl, rfl, rfl, rfl, rfl, Lib.hid hr⟩
  clear HR
  go_enter Tryz.func12, Tryz.ntmps12
  go_upto_region 1 with fail
  generalize w.alloc (.cells #[.int .i64 h.id, .int .i64 h.now, .int .i64 h.ep, .slice ad h.doors.length cd, .slice ap h.pipes.length cp, .slice ar h.rib.length cr, .slice ag h.gus.length cg, .slice aw h.went.length cw, .slice af h.froz.length cf] 38) = W1 at *
  have cX := HX.out.cell
  rcases key with ⟨rfl, hr⟩ | ⟨rfl, rfl, hr⟩ | ⟨rfl, rfl, rfl, hr⟩ | ⟨rfl, rfl, rfl, rfl, hr⟩ | ⟨rfl, rfl, rfl, rfl, rfl, hr⟩ | ⟨rfl, rfl, rfl, rfl, rfl, rfl, hr⟩ | ⟨rfl, rfl, rfl, rfl, rfl, rfl, rfl, hr⟩ | ⟨rfl, rfl, rfl, rfl, rfl, rfl, rfl, rfl, hr⟩ | ⟨rfl, rfl, rfl, rfl, rfl, rfl, rfl, rfl, hr⟩
  all_goals
    go_wp2_with (first | (go_at_call 56; refine (HH.out _).mono ?_; rintro e w' ⟨rfl, rfl⟩) | (go_at_call 57; refine (HT.out _).mono ?_; rintro e w' ⟨rfl, rfl⟩) | (go_at_call 58; refine (HE.out _).mono ?_; rintro e w' ⟨rfl, rfl⟩) | (go_at_call 59; refine (HD.out _ HB.out).mono ?_; rintro e w4 ⟨rfl, hb1⟩; replace HX := Lib.hid (HX.out.kept hb1); replace HB := Lib.hid (HB.out.trans (hb1.mono HB.out.size)); clear hb1 cX; have cX := HX.out.cell) | (go_at_call 60; refine (HP.out _ HB.out).mono ?_; rintro e w5 ⟨rfl, hb1⟩; replace HX := Lib.hid (HX.out.kept hb1); replace HB := Lib.hid (HB.out.trans (hb1.mono HB.out.size)); clear hb1 cX; have cX := HX.out.cell) | (go_at_call 61; refine (HRb.out _ HB.out).mono ?_; rintro e w6 ⟨rfl, hb1⟩; replace HX := Lib.hid (HX.out.kept hb1); replace HB := Lib.hid (HB.out.trans (hb1.mono HB.out.size)); clear hb1 cX; have cX := HX.out.cell) | (go_at_call 62; refine (HGu.out _ HB.out).mono ?_; rintro e w7 ⟨rfl, hb1⟩; replace HX := Lib.hid (HX.out.kept hb1); replace HB := Lib.hid (HB.out.trans (hb1.mono HB.out.size)); clear hb1 cX; have cX := HX.out.cell) | (go_at_call 63; refine (HMv.out _ HB.out).mono ?_; rintro e w8 ⟨rfl, hb1⟩; replace HX := Lib.hid (HX.out.kept hb1); replace HB := Lib.hid (HB.out.trans (hb1.mono HB.out.size)); clear hb1 cX; have cX := HX.out.cell) | (go_at_call 64; refine (HFz.out _ HB.out).mono ?_; rintro e w9 ⟨rfl, hb1⟩; replace HX := Lib.hid (HX.out.kept hb1); replace HB := Lib.hid (HB.out.trans (hb1.mono HB.out.size)); clear hb1 cX; have cX := HX.out.cell))
    go_ret
    exact ⟨bool_ret hr.out.symm, HB.out⟩
end Go.Proofs.YtglealihdkecpaaGreat
