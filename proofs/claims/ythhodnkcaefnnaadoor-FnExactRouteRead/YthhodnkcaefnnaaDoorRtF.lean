/- RouteBytes, of the model and of the program. -/
import Derived.Test.YthhodnkcaefnnaaDoorRtB
import Derived.Test.YthhodnkcaefnnaaDoorPut
import Derived.Test.YthhodnkcaefnnaaDoorJoin
import Derived.Deep.RegionHeld3
import Derived.Deep.RegionHeld
namespace Go.Proofs.YthhodnkcaefnnaaDoor
open Go.RowKit

def stI (t : Bool) : Int := if t = true then 1 else 0
def Rt.nums (r : Rt) : List Int := [r.kind, r.vni, r.mac, r.ip, r.org, r.seq, stI r.st]
def flat (l : List Int) : List UInt8 := l.flatMap putNum
def Rt.bytes (r : Rt) : ByteArray := if r.right = true then strOf (flat r.nums) else ⟨#[]⟩
abbrev I64 (n : Int) : Prop := -9223372036854775808 ≤ n ∧ n ≤ 9223372036854775807
theorem inR_b {n a b : Int} (h : inR n a b = true) : a ≤ n ∧ n ≤ b := inR_t h
theorem stI_b (t : Bool) : I64 (stI t) := by unfold stI; split <;> exact ⟨by omega, by omega⟩
theorem right_b {r : Rt} (h : r.right = true) : (I64 r.kind ∧ I64 r.vni ∧ I64 r.mac) ∧ I64 r.ip ∧ I64 r.org ∧ I64 r.seq := by
  unfold Rt.right rtRight at h
  rw [Bool.and_eq_true, Bool.and_eq_true] at h
  obtain ⟨⟨h1, h2⟩, h3⟩ := h
  have a1 := inR_b (show inR r.vni 1 16777215 = true from h1)
  have a2 := inR_b (show inR r.org 1 4 = true from h2)
  by_cases hk : r.kind = 2
  · rw [if_pos hk] at h3
    unfold macRight at h3
    rw [Bool.and_eq_true, Bool.and_eq_true, Bool.and_eq_true] at h3
    obtain ⟨⟨⟨b1, _⟩, b2⟩, b3⟩ := h3
    have c1 := inR_b (show inR r.mac 0 281474976710655 = true from b1)
    have c2 := inR_b (show inR r.ip 0 4294967295 = true from b2)
    have c3 := inR_b (show inR r.seq 0 1000000 = true from b3)
    refine ⟨⟨⟨?_, ?_⟩, ⟨?_, ?_⟩, ⟨?_, ?_⟩⟩, ⟨?_, ?_⟩, ⟨?_, ?_⟩, ⟨?_, ?_⟩⟩ <;> omega
  · rw [if_neg hk] at h3
    by_cases hk3 : r.kind = 3
    · rw [if_pos hk3] at h3
      unfold roomRight at h3
      simp only [Bool.and_eq_true, decide_eq_true_eq] at h3
      refine ⟨⟨⟨?_, ?_⟩, ⟨?_, ?_⟩, ⟨?_, ?_⟩⟩, ⟨?_, ?_⟩, ⟨?_, ?_⟩, ⟨?_, ?_⟩⟩ <;> omega
    · rw [if_neg hk3] at h3; cases h3
theorem put_small {n : Int} (h : I64 n) : (strOf (putNum n)).size ≤ 10 := by rw [strOf_size]; exact putNum_len n h.1 h.2

abbrev RtAt (w W : World) (B : Nat) (a : Rt) : Prop := (∀ o, W.cell? ⟨B, o, none⟩ = a.cells[o]?) ∧ B < W.heap.size ∧ Below w.heap.size w W
theorem RtAt.keep {w W W' : World} {B : Nat} {a : Rt} (h : RtAt w W B a) (hb : Below W.heap.size W W') : RtAt w W' B a := by
  obtain ⟨h0, h2, hl⟩ := h
  exact ⟨fun o => (hb.cell (p := ⟨B, o, none⟩) h2).trans (h0 o), Nat.lt_of_lt_of_le h2 hb.size, hl.trans (hb.mono hl.size)⟩
theorem flat_seven (a b c d e f g : Int) : flat [a, b, c, d, e, f, g] = putNum a ++ (putNum b ++ (putNum c ++ (putNum d ++ (putNum e ++ (putNum f ++ putNum g))))) := by simp [flat]
set_option maxHeartbeats 2000000 in
theorem specL03Bytes_any (a : Rt) (h : a.right = true) (w : World) : Calls Tryd.prog 37 #[a.val] w fun e w' => e = .returned (.string (strOf (flat a.nums))) ∧ Below w.heap.size w w' := by
  obtain ⟨⟨b0, b1, b2⟩, b3, b4, b5⟩ := right_b h
  clear h
  have b6 := stI_b a.st
  have HR : Hid (strOf (flat a.nums) = _) := Lib.hid (congrArg strOf (flat_seven a.kind a.vni a.mac a.ip a.org a.seq (stI a.st)))
  generalize strOf (flat a.nums) = R at *
  obtain ⟨k, v, m, i, o, s, t⟩ := a
  dsimp only at b0 b1 b2 b3 b4 b5 b6 HR
  have P0 := fun w => specPutNum_any k w b0.1 b0.2
  have P1 := fun w => specPutNum_any v w b1.1 b1.2
  have P2 := fun w => specPutNum_any m w b2.1 b2.2
  have P3 := fun w => specPutNum_any i w b3.1 b3.2
  have P4 := fun w => specPutNum_any o w b4.1 b4.2
  have P5 := fun w => specPutNum_any s w b5.1 b5.2
  have P6 := fun w => specPutNum_any (stI t) w b6.1 b6.2
  have z0 := put_small b0
  have z1 := put_small b1
  have z2 := put_small b2
  have z3 := put_small b3
  have z4 := put_small b4
  have z5 := put_small b5
  have z6 := put_small b6
  clear b0 b1 b2 b3 b4 b5 b6
  have HC : Hid (R = strOf (putNum k) ++ strOf (putNum v) ++ strOf (putNum m) ++ strOf (putNum i) ++ strOf (putNum o) ++ strOf (putNum s) ++ strOf (putNum (stI t))) := Lib.hid (by
    rw [HR.out, app_strs, app_strs, app_strs, app_strs, app_strs, app_strs]; simp only [List.append_assoc])
  clear HR
  generalize strOf (putNum k) = q0 at *
  generalize strOf (putNum v) = q1 at *
  generalize strOf (putNum m) = q2 at *
  generalize strOf (putNum i) = q3 at *
  generalize strOf (putNum o) = q4 at *
  generalize strOf (putNum s) = q5 at *
  generalize strOf (putNum (stI t)) = q6 at *
  have c1 : ¬ 9223372036854775807 < q0.size + q1.size := by omega
  have c2 : ¬ 9223372036854775807 < q0.size + q1.size + q2.size := by omega
  have c3 : ¬ 9223372036854775807 < q0.size + q1.size + q2.size + q3.size := by omega
  have c4 : ¬ 9223372036854775807 < q0.size + q1.size + q2.size + q3.size + q4.size := by omega
  have c5 : ¬ 9223372036854775807 < q0.size + q1.size + q2.size + q3.size + q4.size + q5.size := by omega
  have c6 : ¬ 9223372036854775807 < q0.size + q1.size + q2.size + q3.size + q4.size + q5.size + q6.size := by omega
  clear z0 z1 z2 z3 z4 z5 z6
  replace P0 := Lib.hid P0
  replace P1 := Lib.hid P1
  replace P2 := Lib.hid P2
  replace P3 := Lib.hid P3
  replace P4 := Lib.hid P4
  replace P5 := Lib.hid P5
  replace P6 := Lib.hid P6
  unfold Rt.val rtV
  cases t
  · unfold stI at P6
    dsimp only at P6 ⊢
    simp only [Bool.false_eq_true, if_false] at P6
    go_enter Tryd.func37, Tryd.ntmps37
    go_wp2_with fail
    obtain ⟨W, hW⟩ : ∃ W, W = w.alloc (.cells #[.int .i64 k, .int .i64 v, .int .i64 m, .int .i64 i, .int .i64 o, .int .i64 s, .bool false] 24) := ⟨_, rfl⟩
    rw [← hW]
    have S0 : RtAt w W.drew w.heap.size ⟨k, v, m, i, o, s, false⟩ := by
      subst hW; exact ⟨fun o => by simp [Rt.cells], by simp, ((Below.refl _ _).alloc (Nat.le_refl _) _).drew⟩
    clear hW
    refine wp_region_held_drew (S := fun W' => RtAt w W' w.heap.size ⟨k, v, m, i, o, s, false⟩) (by kernel_rfl) S0 (fun hHeld => ?_)
    clear hHeld
    refine wpAnyH_take (i := 0) (oi := { dst := some 6, op := Op.fieldAddr 24 (Operand.tmp 1) 0, type := 0, pos := "l03_route.go:24", after := #[], guard := none }) (v := ?vvf0) rfl (by kernel_rfl) (by kernel_rfl) (by kernel_rfl) (fun _ _ _ h => h) (Or.inl ⟨by rfl, ?hyf0⟩) S0 ?restf0
    case hyf0 => (intro w hSw; obtain ⟨hS0, hS1, hS2⟩ := hSw; unfold Rt.cells at hS0;go_simp <;> with_reducible rfl)
    try simp only [Act.put, List.setIfInBounds_toArray, List.set_cons_zero, List.set_cons_succ]
    refine wpAnyH_take (i := 1) (oi := { dst := some 7, op := Op.load 2 (Operand.tmp 6), type := 2, pos := "l03_route.go:24", after := #[{ on := 0, ground := Ground.data }], guard := none }) (v := ?vvf1) rfl (by kernel_rfl) (by kernel_rfl) (by kernel_rfl) (fun _ _ _ h => h) (Or.inl ⟨by rfl, ?hyf1⟩) S0 ?restf1
    case hyf1 => (intro w hSw; obtain ⟨hS0, hS1, hS2⟩ := hSw; unfold Rt.cells at hS0;go_simp <;> with_reducible rfl)
    try simp only [Act.put, List.setIfInBounds_toArray, List.set_cons_zero, List.set_cons_succ]
    refine wpAnyH_take (i := 3) (oi := { dst := some 9, op := Op.fieldAddr 24 (Operand.tmp 1) 1, type := 0, pos := "l03_route.go:24", after := #[], guard := none }) (v := ?vvf3) rfl (by kernel_rfl) (by kernel_rfl) (by kernel_rfl) (fun _ _ _ h => h) (Or.inl ⟨by rfl, ?hyf3⟩) S0 ?restf3
    case hyf3 => (intro w hSw; obtain ⟨hS0, hS1, hS2⟩ := hSw; unfold Rt.cells at hS0;go_simp <;> with_reducible rfl)
    try simp only [Act.put, List.setIfInBounds_toArray, List.set_cons_zero, List.set_cons_succ]
    refine wpAnyH_take (i := 4) (oi := { dst := some 10, op := Op.load 2 (Operand.tmp 9), type := 2, pos := "l03_route.go:24", after := #[{ on := 3, ground := Ground.data }], guard := none }) (v := ?vvf4) rfl (by kernel_rfl) (by kernel_rfl) (by kernel_rfl) (fun _ _ _ h => h) (Or.inl ⟨by rfl, ?hyf4⟩) S0 ?restf4
    case hyf4 => (intro w hSw; obtain ⟨hS0, hS1, hS2⟩ := hSw; unfold Rt.cells at hS0;go_simp <;> with_reducible rfl)
    try simp only [Act.put, List.setIfInBounds_toArray, List.set_cons_zero, List.set_cons_succ]
    refine wpAnyH_take (i := 7) (oi := { dst := some 13, op := Op.fieldAddr 24 (Operand.tmp 1) 2, type := 0, pos := "l03_route.go:24", after := #[], guard := none }) (v := ?vvf7) rfl (by kernel_rfl) (by kernel_rfl) (by kernel_rfl) (fun _ _ _ h => h) (Or.inl ⟨by rfl, ?hyf7⟩) S0 ?restf7
    case hyf7 => (intro w hSw; obtain ⟨hS0, hS1, hS2⟩ := hSw; unfold Rt.cells at hS0;go_simp <;> with_reducible rfl)
    try simp only [Act.put, List.setIfInBounds_toArray, List.set_cons_zero, List.set_cons_succ]
    refine wpAnyH_take (i := 8) (oi := { dst := some 14, op := Op.load 2 (Operand.tmp 13), type := 2, pos := "l03_route.go:24", after := #[{ on := 7, ground := Ground.data }], guard := none }) (v := ?vvf8) rfl (by kernel_rfl) (by kernel_rfl) (by kernel_rfl) (fun _ _ _ h => h) (Or.inl ⟨by rfl, ?hyf8⟩) S0 ?restf8
    case hyf8 => (intro w hSw; obtain ⟨hS0, hS1, hS2⟩ := hSw; unfold Rt.cells at hS0;go_simp <;> with_reducible rfl)
    try simp only [Act.put, List.setIfInBounds_toArray, List.set_cons_zero, List.set_cons_succ]
    refine wpAnyH_take (i := 11) (oi := { dst := some 17, op := Op.fieldAddr 24 (Operand.tmp 1) 3, type := 0, pos := "l03_route.go:24", after := #[], guard := none }) (v := ?vvf11) rfl (by kernel_rfl) (by kernel_rfl) (by kernel_rfl) (fun _ _ _ h => h) (Or.inl ⟨by rfl, ?hyf11⟩) S0 ?restf11
    case hyf11 => (intro w hSw; obtain ⟨hS0, hS1, hS2⟩ := hSw; unfold Rt.cells at hS0;go_simp <;> with_reducible rfl)
    try simp only [Act.put, List.setIfInBounds_toArray, List.set_cons_zero, List.set_cons_succ]
    refine wpAnyH_take (i := 12) (oi := { dst := some 18, op := Op.load 2 (Operand.tmp 17), type := 2, pos := "l03_route.go:24", after := #[{ on := 11, ground := Ground.data }], guard := none }) (v := ?vvf12) rfl (by kernel_rfl) (by kernel_rfl) (by kernel_rfl) (fun _ _ _ h => h) (Or.inl ⟨by rfl, ?hyf12⟩) S0 ?restf12
    case hyf12 => (intro w hSw; obtain ⟨hS0, hS1, hS2⟩ := hSw; unfold Rt.cells at hS0;go_simp <;> with_reducible rfl)
    try simp only [Act.put, List.setIfInBounds_toArray, List.set_cons_zero, List.set_cons_succ]
    refine wpAnyH_take (i := 15) (oi := { dst := some 21, op := Op.fieldAddr 24 (Operand.tmp 1) 4, type := 0, pos := "l03_route.go:24", after := #[], guard := none }) (v := ?vvf15) rfl (by kernel_rfl) (by kernel_rfl) (by kernel_rfl) (fun _ _ _ h => h) (Or.inl ⟨by rfl, ?hyf15⟩) S0 ?restf15
    case hyf15 => (intro w hSw; obtain ⟨hS0, hS1, hS2⟩ := hSw; unfold Rt.cells at hS0;go_simp <;> with_reducible rfl)
    try simp only [Act.put, List.setIfInBounds_toArray, List.set_cons_zero, List.set_cons_succ]
    refine wpAnyH_take (i := 16) (oi := { dst := some 22, op := Op.load 2 (Operand.tmp 21), type := 2, pos := "l03_route.go:24", after := #[{ on := 15, ground := Ground.data }], guard := none }) (v := ?vvf16) rfl (by kernel_rfl) (by kernel_rfl) (by kernel_rfl) (fun _ _ _ h => h) (Or.inl ⟨by rfl, ?hyf16⟩) S0 ?restf16
    case hyf16 => (intro w hSw; obtain ⟨hS0, hS1, hS2⟩ := hSw; unfold Rt.cells at hS0;go_simp <;> with_reducible rfl)
    try simp only [Act.put, List.setIfInBounds_toArray, List.set_cons_zero, List.set_cons_succ]
    refine wpAnyH_take (i := 19) (oi := { dst := some 25, op := Op.fieldAddr 24 (Operand.tmp 1) 5, type := 0, pos := "l03_route.go:24", after := #[], guard := none }) (v := ?vvf19) rfl (by kernel_rfl) (by kernel_rfl) (by kernel_rfl) (fun _ _ _ h => h) (Or.inl ⟨by rfl, ?hyf19⟩) S0 ?restf19
    case hyf19 => (intro w hSw; obtain ⟨hS0, hS1, hS2⟩ := hSw; unfold Rt.cells at hS0;go_simp <;> with_reducible rfl)
    try simp only [Act.put, List.setIfInBounds_toArray, List.set_cons_zero, List.set_cons_succ]
    refine wpAnyH_take (i := 20) (oi := { dst := some 26, op := Op.load 2 (Operand.tmp 25), type := 2, pos := "l03_route.go:24", after := #[{ on := 19, ground := Ground.data }], guard := none }) (v := ?vvf20) rfl (by kernel_rfl) (by kernel_rfl) (by kernel_rfl) (fun _ _ _ h => h) (Or.inl ⟨by rfl, ?hyf20⟩) S0 ?restf20
    case hyf20 => (intro w hSw; obtain ⟨hS0, hS1, hS2⟩ := hSw; unfold Rt.cells at hS0;go_simp <;> with_reducible rfl)
    try simp only [Act.put, List.setIfInBounds_toArray, List.set_cons_zero, List.set_cons_succ]
    refine wpAnyH_take (i := 23) (oi := { dst := some 29, op := Op.move (Operand.tmp 3), type := 2, pos := "l03_route.go:24", after := #[], guard := none }) (v := ?vvf23) rfl (by kernel_rfl) (by kernel_rfl) (by kernel_rfl) (fun _ _ _ h => h) (Or.inl ⟨by rfl, ?hyf23⟩) S0 ?restf23
    case hyf23 => (intro w hSw; obtain ⟨hS0, hS1, hS2⟩ := hSw; unfold Rt.cells at hS0;go_simp <;> with_reducible rfl)
    try simp only [Act.put, List.setIfInBounds_toArray, List.set_cons_zero, List.set_cons_succ]
    refine wpAnyH_ready (rs := [2]) (by kernel_rfl) (by simp) ?_
    refine AllReadyH.cons (o := { dst := some 8, op := Op.call { callee := Callee.value (Operand.func 58), args := #[Operand.tmp 7], argTypes := #[2] }, type := 9, pos := "l03_route.go:24", after := #[{ on := 1, ground := Ground.data }], guard := none }) rfl (fun K hK => ?_) AllReadyH.nil
    go_simp
    refine (P0.out _).mono ?_
    rintro e w1 ⟨rfl, hb1⟩
    replace S0 := S0.keep hb1
    clear hb1
    refine hK.out _ _ S0 (fun hHeld => ?_)
    clear hK K hHeld
    try simp only [Act.put, List.setIfInBounds_toArray, List.set_cons_zero, List.set_cons_succ]
    refine wpAnyH_ready (rs := [5]) (by kernel_rfl) (by simp) ?_
    refine AllReadyH.cons (o := { dst := some 11, op := Op.call { callee := Callee.value (Operand.func 58), args := #[Operand.tmp 10], argTypes := #[2] }, type := 9, pos := "l03_route.go:24", after := #[{ on := 4, ground := Ground.data }, { on := 2, ground := Ground.chain }], guard := none }) rfl (fun K hK => ?_) AllReadyH.nil
    go_simp
    refine (P1.out _).mono ?_
    rintro e w1 ⟨rfl, hb1⟩
    replace S0 := S0.keep hb1
    clear hb1
    refine hK.out _ _ S0 (fun hHeld => ?_)
    clear hK K hHeld
    try simp only [Act.put, List.setIfInBounds_toArray, List.set_cons_zero, List.set_cons_succ]
    refine wpAnyH_take (i := 6) (oi := { dst := some 12, op := Op.binOp BinOp.add 9 (Operand.tmp 8) (Operand.tmp 11) 9, type := 9, pos := "l03_route.go:24", after := #[{ on := 2, ground := Ground.data }, { on := 5, ground := Ground.data }], guard := none }) (v := ?vvf6) rfl (by kernel_rfl) (by kernel_rfl) (by kernel_rfl) (fun _ _ _ h => h) (Or.inl ⟨by rfl, ?hyf6⟩) S0 ?restf6
    case hyf6 => (intro w hSw; obtain ⟨hS0, hS1, hS2⟩ := hSw; unfold Rt.cells at hS0;go_simp <;> with_reducible rfl)
    try simp only [Act.put, List.setIfInBounds_toArray, List.set_cons_zero, List.set_cons_succ]
    refine wpAnyH_ready (rs := [9]) (by kernel_rfl) (by simp) ?_
    refine AllReadyH.cons (o := { dst := some 15, op := Op.call { callee := Callee.value (Operand.func 58), args := #[Operand.tmp 14], argTypes := #[2] }, type := 9, pos := "l03_route.go:24", after := #[{ on := 8, ground := Ground.data }, { on := 5, ground := Ground.chain }], guard := none }) rfl (fun K hK => ?_) AllReadyH.nil
    go_simp
    refine (P2.out _).mono ?_
    rintro e w1 ⟨rfl, hb1⟩
    replace S0 := S0.keep hb1
    clear hb1
    refine hK.out _ _ S0 (fun hHeld => ?_)
    clear hK K hHeld
    try simp only [Act.put, List.setIfInBounds_toArray, List.set_cons_zero, List.set_cons_succ]
    refine wpAnyH_take (i := 10) (oi := { dst := some 16, op := Op.binOp BinOp.add 9 (Operand.tmp 12) (Operand.tmp 15) 9, type := 9, pos := "l03_route.go:24", after := #[{ on := 6, ground := Ground.data }, { on := 9, ground := Ground.data }], guard := none }) (v := ?vvf10) rfl (by kernel_rfl) (by kernel_rfl) (by kernel_rfl) (fun _ _ _ h => h) (Or.inl ⟨by rfl, ?hyf10⟩) S0 ?restf10
    case hyf10 => (intro w hSw; obtain ⟨hS0, hS1, hS2⟩ := hSw; unfold Rt.cells at hS0;go_simp <;> with_reducible rfl)
    try simp only [Act.put, List.setIfInBounds_toArray, List.set_cons_zero, List.set_cons_succ]
    refine wpAnyH_ready (rs := [13]) (by kernel_rfl) (by simp) ?_
    refine AllReadyH.cons (o := { dst := some 19, op := Op.call { callee := Callee.value (Operand.func 58), args := #[Operand.tmp 18], argTypes := #[2] }, type := 9, pos := "l03_route.go:24", after := #[{ on := 12, ground := Ground.data }, { on := 9, ground := Ground.chain }], guard := none }) rfl (fun K hK => ?_) AllReadyH.nil
    go_simp
    refine (P3.out _).mono ?_
    rintro e w1 ⟨rfl, hb1⟩
    replace S0 := S0.keep hb1
    clear hb1
    refine hK.out _ _ S0 (fun hHeld => ?_)
    clear hK K hHeld
    try simp only [Act.put, List.setIfInBounds_toArray, List.set_cons_zero, List.set_cons_succ]
    refine wpAnyH_take (i := 14) (oi := { dst := some 20, op := Op.binOp BinOp.add 9 (Operand.tmp 16) (Operand.tmp 19) 9, type := 9, pos := "l03_route.go:24", after := #[{ on := 10, ground := Ground.data }, { on := 13, ground := Ground.data }], guard := none }) (v := ?vvf14) rfl (by kernel_rfl) (by kernel_rfl) (by kernel_rfl) (fun _ _ _ h => h) (Or.inl ⟨by rfl, ?hyf14⟩) S0 ?restf14
    case hyf14 => (intro w hSw; obtain ⟨hS0, hS1, hS2⟩ := hSw; unfold Rt.cells at hS0;go_simp <;> with_reducible rfl)
    try simp only [Act.put, List.setIfInBounds_toArray, List.set_cons_zero, List.set_cons_succ]
    refine wpAnyH_ready (rs := [17]) (by kernel_rfl) (by simp) ?_
    refine AllReadyH.cons (o := { dst := some 23, op := Op.call { callee := Callee.value (Operand.func 58), args := #[Operand.tmp 22], argTypes := #[2] }, type := 9, pos := "l03_route.go:24", after := #[{ on := 16, ground := Ground.data }, { on := 13, ground := Ground.chain }], guard := none }) rfl (fun K hK => ?_) AllReadyH.nil
    go_simp
    refine (P4.out _).mono ?_
    rintro e w1 ⟨rfl, hb1⟩
    replace S0 := S0.keep hb1
    clear hb1
    refine hK.out _ _ S0 (fun hHeld => ?_)
    clear hK K hHeld
    try simp only [Act.put, List.setIfInBounds_toArray, List.set_cons_zero, List.set_cons_succ]
    refine wpAnyH_take (i := 18) (oi := { dst := some 24, op := Op.binOp BinOp.add 9 (Operand.tmp 20) (Operand.tmp 23) 9, type := 9, pos := "l03_route.go:24", after := #[{ on := 14, ground := Ground.data }, { on := 17, ground := Ground.data }], guard := none }) (v := ?vvf18) rfl (by kernel_rfl) (by kernel_rfl) (by kernel_rfl) (fun _ _ _ h => h) (Or.inl ⟨by rfl, ?hyf18⟩) S0 ?restf18
    case hyf18 => (intro w hSw; obtain ⟨hS0, hS1, hS2⟩ := hSw; unfold Rt.cells at hS0;go_simp <;> with_reducible rfl)
    try simp only [Act.put, List.setIfInBounds_toArray, List.set_cons_zero, List.set_cons_succ]
    refine wpAnyH_ready (rs := [21]) (by kernel_rfl) (by simp) ?_
    refine AllReadyH.cons (o := { dst := some 27, op := Op.call { callee := Callee.value (Operand.func 58), args := #[Operand.tmp 26], argTypes := #[2] }, type := 9, pos := "l03_route.go:24", after := #[{ on := 20, ground := Ground.data }, { on := 17, ground := Ground.chain }], guard := none }) rfl (fun K hK => ?_) AllReadyH.nil
    go_simp
    refine (P5.out _).mono ?_
    rintro e w1 ⟨rfl, hb1⟩
    replace S0 := S0.keep hb1
    clear hb1
    refine hK.out _ _ S0 (fun hHeld => ?_)
    clear hK K hHeld
    try simp only [Act.put, List.setIfInBounds_toArray, List.set_cons_zero, List.set_cons_succ]
    refine wpAnyH_take (i := 22) (oi := { dst := some 28, op := Op.binOp BinOp.add 9 (Operand.tmp 24) (Operand.tmp 27) 9, type := 9, pos := "l03_route.go:24", after := #[{ on := 18, ground := Ground.data }, { on := 21, ground := Ground.data }], guard := none }) (v := ?vvf22) rfl (by kernel_rfl) (by kernel_rfl) (by kernel_rfl) (fun _ _ _ h => h) (Or.inl ⟨by rfl, ?hyf22⟩) S0 ?restf22
    case hyf22 => (intro w hSw; obtain ⟨hS0, hS1, hS2⟩ := hSw; unfold Rt.cells at hS0;go_simp <;> with_reducible rfl)
    try simp only [Act.put, List.setIfInBounds_toArray, List.set_cons_zero, List.set_cons_succ]
    refine wpAnyH_ready (rs := [24]) (by kernel_rfl) (by simp) ?_
    refine AllReadyH.cons (o := { dst := some 30, op := Op.call { callee := Callee.value (Operand.func 58), args := #[Operand.tmp 29], argTypes := #[2] }, type := 9, pos := "l03_route.go:24", after := #[{ on := 23, ground := Ground.data }, { on := 21, ground := Ground.chain }], guard := none }) rfl (fun K hK => ?_) AllReadyH.nil
    go_simp
    refine (P6.out _).mono ?_
    rintro e w1 ⟨rfl, hb1⟩
    replace S0 := S0.keep hb1
    clear hb1
    refine hK.out _ _ S0 (fun hHeld => ?_)
    clear hK K hHeld
    try simp only [Act.put, List.setIfInBounds_toArray, List.set_cons_zero, List.set_cons_succ]
    refine wpAnyH_take (i := 25) (oi := { dst := some 31, op := Op.binOp BinOp.add 9 (Operand.tmp 28) (Operand.tmp 30) 9, type := 9, pos := "l03_route.go:24", after := #[{ on := 22, ground := Ground.data }, { on := 24, ground := Ground.data }], guard := none }) (v := ?vvf25) rfl (by kernel_rfl) (by kernel_rfl) (by kernel_rfl) (fun _ _ _ h => h) (Or.inl ⟨by rfl, ?hyf25⟩) S0 ?restf25
    case hyf25 => (intro w hSw; obtain ⟨hS0, hS1, hS2⟩ := hSw; unfold Rt.cells at hS0;go_simp <;> with_reducible rfl)
    try simp only [Act.put, List.setIfInBounds_toArray, List.set_cons_zero, List.set_cons_succ]
    refine wpAnyH_take (i := 26) (oi := { dst := some 2, op := Op.assign (Operand.tmp 31), type := 9, pos := "l03_route.go:24", after := #[{ on := 25, ground := Ground.data }, { on := 24, ground := Ground.chain }, { on := 0, ground := Ground.phase }, { on := 1, ground := Ground.phase }, { on := 2, ground := Ground.phase }, { on := 3, ground := Ground.phase }, { on := 4, ground := Ground.phase }, { on := 5, ground := Ground.phase }, { on := 6, ground := Ground.phase }, { on := 7, ground := Ground.phase }, { on := 8, ground := Ground.phase }, { on := 9, ground := Ground.phase }, { on := 10, ground := Ground.phase }, { on := 11, ground := Ground.phase }, { on := 12, ground := Ground.phase }, { on := 13, ground := Ground.phase }, { on := 14, ground := Ground.phase }, { on := 15, ground := Ground.phase }, { on := 16, ground := Ground.phase }, { on := 17, ground := Ground.phase }, { on := 18, ground := Ground.phase }, { on := 19, ground := Ground.phase }, { on := 20, ground := Ground.phase }, { on := 21, ground := Ground.phase }, { on := 22, ground := Ground.phase }, { on := 23, ground := Ground.phase }, { on := 24, ground := Ground.phase }, { on := 25, ground := Ground.phase }], guard := none }) (v := ?vvf26) rfl (by kernel_rfl) (by kernel_rfl) (by kernel_rfl) (fun _ _ _ h => h) (Or.inl ⟨by rfl, ?hyf26⟩) S0 ?restf26
    case hyf26 => (intro w hSw; obtain ⟨hS0, hS1, hS2⟩ := hSw; unfold Rt.cells at hS0;go_simp <;> with_reducible rfl)
    try simp only [Act.put, List.setIfInBounds_toArray, List.set_cons_zero, List.set_cons_succ]
    refine wpAnyH_done (by kernel_rfl) ?_ _
    go_wp2_with fail
    go_ret
    exact ⟨str_ret HC.out.symm, S0.2.2⟩
  · unfold stI at P6
    dsimp only at P6 ⊢
    simp only [if_true] at P6
    go_enter Tryd.func37, Tryd.ntmps37
    go_wp2_with fail
    obtain ⟨W, hW⟩ : ∃ W, W = w.alloc (.cells #[.int .i64 k, .int .i64 v, .int .i64 m, .int .i64 i, .int .i64 o, .int .i64 s, .bool true] 24) := ⟨_, rfl⟩
    rw [← hW]
    have S0 : RtAt w W.drew w.heap.size ⟨k, v, m, i, o, s, true⟩ := by
      subst hW; exact ⟨fun o => by simp [Rt.cells], by simp, ((Below.refl _ _).alloc (Nat.le_refl _) _).drew⟩
    clear hW
    refine wp_region_held_drew (S := fun W' => RtAt w W' w.heap.size ⟨k, v, m, i, o, s, true⟩) (by kernel_rfl) S0 (fun hHeld => ?_)
    clear hHeld
    refine wpAnyH_take (i := 0) (oi := { dst := some 6, op := Op.fieldAddr 24 (Operand.tmp 1) 0, type := 0, pos := "l03_route.go:24", after := #[], guard := none }) (v := ?vvt0) rfl (by kernel_rfl) (by kernel_rfl) (by kernel_rfl) (fun _ _ _ h => h) (Or.inl ⟨by rfl, ?hyt0⟩) S0 ?restt0
    case hyt0 => (intro w hSw; obtain ⟨hS0, hS1, hS2⟩ := hSw; unfold Rt.cells at hS0;go_simp <;> with_reducible rfl)
    try simp only [Act.put, List.setIfInBounds_toArray, List.set_cons_zero, List.set_cons_succ]
    refine wpAnyH_take (i := 1) (oi := { dst := some 7, op := Op.load 2 (Operand.tmp 6), type := 2, pos := "l03_route.go:24", after := #[{ on := 0, ground := Ground.data }], guard := none }) (v := ?vvt1) rfl (by kernel_rfl) (by kernel_rfl) (by kernel_rfl) (fun _ _ _ h => h) (Or.inl ⟨by rfl, ?hyt1⟩) S0 ?restt1
    case hyt1 => (intro w hSw; obtain ⟨hS0, hS1, hS2⟩ := hSw; unfold Rt.cells at hS0;go_simp <;> with_reducible rfl)
    try simp only [Act.put, List.setIfInBounds_toArray, List.set_cons_zero, List.set_cons_succ]
    refine wpAnyH_take (i := 3) (oi := { dst := some 9, op := Op.fieldAddr 24 (Operand.tmp 1) 1, type := 0, pos := "l03_route.go:24", after := #[], guard := none }) (v := ?vvt3) rfl (by kernel_rfl) (by kernel_rfl) (by kernel_rfl) (fun _ _ _ h => h) (Or.inl ⟨by rfl, ?hyt3⟩) S0 ?restt3
    case hyt3 => (intro w hSw; obtain ⟨hS0, hS1, hS2⟩ := hSw; unfold Rt.cells at hS0;go_simp <;> with_reducible rfl)
    try simp only [Act.put, List.setIfInBounds_toArray, List.set_cons_zero, List.set_cons_succ]
    refine wpAnyH_take (i := 4) (oi := { dst := some 10, op := Op.load 2 (Operand.tmp 9), type := 2, pos := "l03_route.go:24", after := #[{ on := 3, ground := Ground.data }], guard := none }) (v := ?vvt4) rfl (by kernel_rfl) (by kernel_rfl) (by kernel_rfl) (fun _ _ _ h => h) (Or.inl ⟨by rfl, ?hyt4⟩) S0 ?restt4
    case hyt4 => (intro w hSw; obtain ⟨hS0, hS1, hS2⟩ := hSw; unfold Rt.cells at hS0;go_simp <;> with_reducible rfl)
    try simp only [Act.put, List.setIfInBounds_toArray, List.set_cons_zero, List.set_cons_succ]
    refine wpAnyH_take (i := 7) (oi := { dst := some 13, op := Op.fieldAddr 24 (Operand.tmp 1) 2, type := 0, pos := "l03_route.go:24", after := #[], guard := none }) (v := ?vvt7) rfl (by kernel_rfl) (by kernel_rfl) (by kernel_rfl) (fun _ _ _ h => h) (Or.inl ⟨by rfl, ?hyt7⟩) S0 ?restt7
    case hyt7 => (intro w hSw; obtain ⟨hS0, hS1, hS2⟩ := hSw; unfold Rt.cells at hS0;go_simp <;> with_reducible rfl)
    try simp only [Act.put, List.setIfInBounds_toArray, List.set_cons_zero, List.set_cons_succ]
    refine wpAnyH_take (i := 8) (oi := { dst := some 14, op := Op.load 2 (Operand.tmp 13), type := 2, pos := "l03_route.go:24", after := #[{ on := 7, ground := Ground.data }], guard := none }) (v := ?vvt8) rfl (by kernel_rfl) (by kernel_rfl) (by kernel_rfl) (fun _ _ _ h => h) (Or.inl ⟨by rfl, ?hyt8⟩) S0 ?restt8
    case hyt8 => (intro w hSw; obtain ⟨hS0, hS1, hS2⟩ := hSw; unfold Rt.cells at hS0;go_simp <;> with_reducible rfl)
    try simp only [Act.put, List.setIfInBounds_toArray, List.set_cons_zero, List.set_cons_succ]
    refine wpAnyH_take (i := 11) (oi := { dst := some 17, op := Op.fieldAddr 24 (Operand.tmp 1) 3, type := 0, pos := "l03_route.go:24", after := #[], guard := none }) (v := ?vvt11) rfl (by kernel_rfl) (by kernel_rfl) (by kernel_rfl) (fun _ _ _ h => h) (Or.inl ⟨by rfl, ?hyt11⟩) S0 ?restt11
    case hyt11 => (intro w hSw; obtain ⟨hS0, hS1, hS2⟩ := hSw; unfold Rt.cells at hS0;go_simp <;> with_reducible rfl)
    try simp only [Act.put, List.setIfInBounds_toArray, List.set_cons_zero, List.set_cons_succ]
    refine wpAnyH_take (i := 12) (oi := { dst := some 18, op := Op.load 2 (Operand.tmp 17), type := 2, pos := "l03_route.go:24", after := #[{ on := 11, ground := Ground.data }], guard := none }) (v := ?vvt12) rfl (by kernel_rfl) (by kernel_rfl) (by kernel_rfl) (fun _ _ _ h => h) (Or.inl ⟨by rfl, ?hyt12⟩) S0 ?restt12
    case hyt12 => (intro w hSw; obtain ⟨hS0, hS1, hS2⟩ := hSw; unfold Rt.cells at hS0;go_simp <;> with_reducible rfl)
    try simp only [Act.put, List.setIfInBounds_toArray, List.set_cons_zero, List.set_cons_succ]
    refine wpAnyH_take (i := 15) (oi := { dst := some 21, op := Op.fieldAddr 24 (Operand.tmp 1) 4, type := 0, pos := "l03_route.go:24", after := #[], guard := none }) (v := ?vvt15) rfl (by kernel_rfl) (by kernel_rfl) (by kernel_rfl) (fun _ _ _ h => h) (Or.inl ⟨by rfl, ?hyt15⟩) S0 ?restt15
    case hyt15 => (intro w hSw; obtain ⟨hS0, hS1, hS2⟩ := hSw; unfold Rt.cells at hS0;go_simp <;> with_reducible rfl)
    try simp only [Act.put, List.setIfInBounds_toArray, List.set_cons_zero, List.set_cons_succ]
    refine wpAnyH_take (i := 16) (oi := { dst := some 22, op := Op.load 2 (Operand.tmp 21), type := 2, pos := "l03_route.go:24", after := #[{ on := 15, ground := Ground.data }], guard := none }) (v := ?vvt16) rfl (by kernel_rfl) (by kernel_rfl) (by kernel_rfl) (fun _ _ _ h => h) (Or.inl ⟨by rfl, ?hyt16⟩) S0 ?restt16
    case hyt16 => (intro w hSw; obtain ⟨hS0, hS1, hS2⟩ := hSw; unfold Rt.cells at hS0;go_simp <;> with_reducible rfl)
    try simp only [Act.put, List.setIfInBounds_toArray, List.set_cons_zero, List.set_cons_succ]
    refine wpAnyH_take (i := 19) (oi := { dst := some 25, op := Op.fieldAddr 24 (Operand.tmp 1) 5, type := 0, pos := "l03_route.go:24", after := #[], guard := none }) (v := ?vvt19) rfl (by kernel_rfl) (by kernel_rfl) (by kernel_rfl) (fun _ _ _ h => h) (Or.inl ⟨by rfl, ?hyt19⟩) S0 ?restt19
    case hyt19 => (intro w hSw; obtain ⟨hS0, hS1, hS2⟩ := hSw; unfold Rt.cells at hS0;go_simp <;> with_reducible rfl)
    try simp only [Act.put, List.setIfInBounds_toArray, List.set_cons_zero, List.set_cons_succ]
    refine wpAnyH_take (i := 20) (oi := { dst := some 26, op := Op.load 2 (Operand.tmp 25), type := 2, pos := "l03_route.go:24", after := #[{ on := 19, ground := Ground.data }], guard := none }) (v := ?vvt20) rfl (by kernel_rfl) (by kernel_rfl) (by kernel_rfl) (fun _ _ _ h => h) (Or.inl ⟨by rfl, ?hyt20⟩) S0 ?restt20
    case hyt20 => (intro w hSw; obtain ⟨hS0, hS1, hS2⟩ := hSw; unfold Rt.cells at hS0;go_simp <;> with_reducible rfl)
    try simp only [Act.put, List.setIfInBounds_toArray, List.set_cons_zero, List.set_cons_succ]
    refine wpAnyH_take (i := 23) (oi := { dst := some 29, op := Op.move (Operand.tmp 3), type := 2, pos := "l03_route.go:24", after := #[], guard := none }) (v := ?vvt23) rfl (by kernel_rfl) (by kernel_rfl) (by kernel_rfl) (fun _ _ _ h => h) (Or.inl ⟨by rfl, ?hyt23⟩) S0 ?restt23
    case hyt23 => (intro w hSw; obtain ⟨hS0, hS1, hS2⟩ := hSw; unfold Rt.cells at hS0;go_simp <;> with_reducible rfl)
    try simp only [Act.put, List.setIfInBounds_toArray, List.set_cons_zero, List.set_cons_succ]
    refine wpAnyH_ready (rs := [2]) (by kernel_rfl) (by simp) ?_
    refine AllReadyH.cons (o := { dst := some 8, op := Op.call { callee := Callee.value (Operand.func 58), args := #[Operand.tmp 7], argTypes := #[2] }, type := 9, pos := "l03_route.go:24", after := #[{ on := 1, ground := Ground.data }], guard := none }) rfl (fun K hK => ?_) AllReadyH.nil
    go_simp
    refine (P0.out _).mono ?_
    rintro e w1 ⟨rfl, hb1⟩
    replace S0 := S0.keep hb1
    clear hb1
    refine hK.out _ _ S0 (fun hHeld => ?_)
    clear hK K hHeld
    try simp only [Act.put, List.setIfInBounds_toArray, List.set_cons_zero, List.set_cons_succ]
    refine wpAnyH_ready (rs := [5]) (by kernel_rfl) (by simp) ?_
    refine AllReadyH.cons (o := { dst := some 11, op := Op.call { callee := Callee.value (Operand.func 58), args := #[Operand.tmp 10], argTypes := #[2] }, type := 9, pos := "l03_route.go:24", after := #[{ on := 4, ground := Ground.data }, { on := 2, ground := Ground.chain }], guard := none }) rfl (fun K hK => ?_) AllReadyH.nil
    go_simp
    refine (P1.out _).mono ?_
    rintro e w1 ⟨rfl, hb1⟩
    replace S0 := S0.keep hb1
    clear hb1
    refine hK.out _ _ S0 (fun hHeld => ?_)
    clear hK K hHeld
    try simp only [Act.put, List.setIfInBounds_toArray, List.set_cons_zero, List.set_cons_succ]
    refine wpAnyH_take (i := 6) (oi := { dst := some 12, op := Op.binOp BinOp.add 9 (Operand.tmp 8) (Operand.tmp 11) 9, type := 9, pos := "l03_route.go:24", after := #[{ on := 2, ground := Ground.data }, { on := 5, ground := Ground.data }], guard := none }) (v := ?vvt6) rfl (by kernel_rfl) (by kernel_rfl) (by kernel_rfl) (fun _ _ _ h => h) (Or.inl ⟨by rfl, ?hyt6⟩) S0 ?restt6
    case hyt6 => (intro w hSw; obtain ⟨hS0, hS1, hS2⟩ := hSw; unfold Rt.cells at hS0;go_simp <;> with_reducible rfl)
    try simp only [Act.put, List.setIfInBounds_toArray, List.set_cons_zero, List.set_cons_succ]
    refine wpAnyH_ready (rs := [9]) (by kernel_rfl) (by simp) ?_
    refine AllReadyH.cons (o := { dst := some 15, op := Op.call { callee := Callee.value (Operand.func 58), args := #[Operand.tmp 14], argTypes := #[2] }, type := 9, pos := "l03_route.go:24", after := #[{ on := 8, ground := Ground.data }, { on := 5, ground := Ground.chain }], guard := none }) rfl (fun K hK => ?_) AllReadyH.nil
    go_simp
    refine (P2.out _).mono ?_
    rintro e w1 ⟨rfl, hb1⟩
    replace S0 := S0.keep hb1
    clear hb1
    refine hK.out _ _ S0 (fun hHeld => ?_)
    clear hK K hHeld
    try simp only [Act.put, List.setIfInBounds_toArray, List.set_cons_zero, List.set_cons_succ]
    refine wpAnyH_take (i := 10) (oi := { dst := some 16, op := Op.binOp BinOp.add 9 (Operand.tmp 12) (Operand.tmp 15) 9, type := 9, pos := "l03_route.go:24", after := #[{ on := 6, ground := Ground.data }, { on := 9, ground := Ground.data }], guard := none }) (v := ?vvt10) rfl (by kernel_rfl) (by kernel_rfl) (by kernel_rfl) (fun _ _ _ h => h) (Or.inl ⟨by rfl, ?hyt10⟩) S0 ?restt10
    case hyt10 => (intro w hSw; obtain ⟨hS0, hS1, hS2⟩ := hSw; unfold Rt.cells at hS0;go_simp <;> with_reducible rfl)
    try simp only [Act.put, List.setIfInBounds_toArray, List.set_cons_zero, List.set_cons_succ]
    refine wpAnyH_ready (rs := [13]) (by kernel_rfl) (by simp) ?_
    refine AllReadyH.cons (o := { dst := some 19, op := Op.call { callee := Callee.value (Operand.func 58), args := #[Operand.tmp 18], argTypes := #[2] }, type := 9, pos := "l03_route.go:24", after := #[{ on := 12, ground := Ground.data }, { on := 9, ground := Ground.chain }], guard := none }) rfl (fun K hK => ?_) AllReadyH.nil
    go_simp
    refine (P3.out _).mono ?_
    rintro e w1 ⟨rfl, hb1⟩
    replace S0 := S0.keep hb1
    clear hb1
    refine hK.out _ _ S0 (fun hHeld => ?_)
    clear hK K hHeld
    try simp only [Act.put, List.setIfInBounds_toArray, List.set_cons_zero, List.set_cons_succ]
    refine wpAnyH_take (i := 14) (oi := { dst := some 20, op := Op.binOp BinOp.add 9 (Operand.tmp 16) (Operand.tmp 19) 9, type := 9, pos := "l03_route.go:24", after := #[{ on := 10, ground := Ground.data }, { on := 13, ground := Ground.data }], guard := none }) (v := ?vvt14) rfl (by kernel_rfl) (by kernel_rfl) (by kernel_rfl) (fun _ _ _ h => h) (Or.inl ⟨by rfl, ?hyt14⟩) S0 ?restt14
    case hyt14 => (intro w hSw; obtain ⟨hS0, hS1, hS2⟩ := hSw; unfold Rt.cells at hS0;go_simp <;> with_reducible rfl)
    try simp only [Act.put, List.setIfInBounds_toArray, List.set_cons_zero, List.set_cons_succ]
    refine wpAnyH_ready (rs := [17]) (by kernel_rfl) (by simp) ?_
    refine AllReadyH.cons (o := { dst := some 23, op := Op.call { callee := Callee.value (Operand.func 58), args := #[Operand.tmp 22], argTypes := #[2] }, type := 9, pos := "l03_route.go:24", after := #[{ on := 16, ground := Ground.data }, { on := 13, ground := Ground.chain }], guard := none }) rfl (fun K hK => ?_) AllReadyH.nil
    go_simp
    refine (P4.out _).mono ?_
    rintro e w1 ⟨rfl, hb1⟩
    replace S0 := S0.keep hb1
    clear hb1
    refine hK.out _ _ S0 (fun hHeld => ?_)
    clear hK K hHeld
    try simp only [Act.put, List.setIfInBounds_toArray, List.set_cons_zero, List.set_cons_succ]
    refine wpAnyH_take (i := 18) (oi := { dst := some 24, op := Op.binOp BinOp.add 9 (Operand.tmp 20) (Operand.tmp 23) 9, type := 9, pos := "l03_route.go:24", after := #[{ on := 14, ground := Ground.data }, { on := 17, ground := Ground.data }], guard := none }) (v := ?vvt18) rfl (by kernel_rfl) (by kernel_rfl) (by kernel_rfl) (fun _ _ _ h => h) (Or.inl ⟨by rfl, ?hyt18⟩) S0 ?restt18
    case hyt18 => (intro w hSw; obtain ⟨hS0, hS1, hS2⟩ := hSw; unfold Rt.cells at hS0;go_simp <;> with_reducible rfl)
    try simp only [Act.put, List.setIfInBounds_toArray, List.set_cons_zero, List.set_cons_succ]
    refine wpAnyH_ready (rs := [21]) (by kernel_rfl) (by simp) ?_
    refine AllReadyH.cons (o := { dst := some 27, op := Op.call { callee := Callee.value (Operand.func 58), args := #[Operand.tmp 26], argTypes := #[2] }, type := 9, pos := "l03_route.go:24", after := #[{ on := 20, ground := Ground.data }, { on := 17, ground := Ground.chain }], guard := none }) rfl (fun K hK => ?_) AllReadyH.nil
    go_simp
    refine (P5.out _).mono ?_
    rintro e w1 ⟨rfl, hb1⟩
    replace S0 := S0.keep hb1
    clear hb1
    refine hK.out _ _ S0 (fun hHeld => ?_)
    clear hK K hHeld
    try simp only [Act.put, List.setIfInBounds_toArray, List.set_cons_zero, List.set_cons_succ]
    refine wpAnyH_take (i := 22) (oi := { dst := some 28, op := Op.binOp BinOp.add 9 (Operand.tmp 24) (Operand.tmp 27) 9, type := 9, pos := "l03_route.go:24", after := #[{ on := 18, ground := Ground.data }, { on := 21, ground := Ground.data }], guard := none }) (v := ?vvt22) rfl (by kernel_rfl) (by kernel_rfl) (by kernel_rfl) (fun _ _ _ h => h) (Or.inl ⟨by rfl, ?hyt22⟩) S0 ?restt22
    case hyt22 => (intro w hSw; obtain ⟨hS0, hS1, hS2⟩ := hSw; unfold Rt.cells at hS0;go_simp <;> with_reducible rfl)
    try simp only [Act.put, List.setIfInBounds_toArray, List.set_cons_zero, List.set_cons_succ]
    refine wpAnyH_ready (rs := [24]) (by kernel_rfl) (by simp) ?_
    refine AllReadyH.cons (o := { dst := some 30, op := Op.call { callee := Callee.value (Operand.func 58), args := #[Operand.tmp 29], argTypes := #[2] }, type := 9, pos := "l03_route.go:24", after := #[{ on := 23, ground := Ground.data }, { on := 21, ground := Ground.chain }], guard := none }) rfl (fun K hK => ?_) AllReadyH.nil
    go_simp
    refine (P6.out _).mono ?_
    rintro e w1 ⟨rfl, hb1⟩
    replace S0 := S0.keep hb1
    clear hb1
    refine hK.out _ _ S0 (fun hHeld => ?_)
    clear hK K hHeld
    try simp only [Act.put, List.setIfInBounds_toArray, List.set_cons_zero, List.set_cons_succ]
    refine wpAnyH_take (i := 25) (oi := { dst := some 31, op := Op.binOp BinOp.add 9 (Operand.tmp 28) (Operand.tmp 30) 9, type := 9, pos := "l03_route.go:24", after := #[{ on := 22, ground := Ground.data }, { on := 24, ground := Ground.data }], guard := none }) (v := ?vvt25) rfl (by kernel_rfl) (by kernel_rfl) (by kernel_rfl) (fun _ _ _ h => h) (Or.inl ⟨by rfl, ?hyt25⟩) S0 ?restt25
    case hyt25 => (intro w hSw; obtain ⟨hS0, hS1, hS2⟩ := hSw; unfold Rt.cells at hS0;go_simp <;> with_reducible rfl)
    try simp only [Act.put, List.setIfInBounds_toArray, List.set_cons_zero, List.set_cons_succ]
    refine wpAnyH_take (i := 26) (oi := { dst := some 2, op := Op.assign (Operand.tmp 31), type := 9, pos := "l03_route.go:24", after := #[{ on := 25, ground := Ground.data }, { on := 24, ground := Ground.chain }, { on := 0, ground := Ground.phase }, { on := 1, ground := Ground.phase }, { on := 2, ground := Ground.phase }, { on := 3, ground := Ground.phase }, { on := 4, ground := Ground.phase }, { on := 5, ground := Ground.phase }, { on := 6, ground := Ground.phase }, { on := 7, ground := Ground.phase }, { on := 8, ground := Ground.phase }, { on := 9, ground := Ground.phase }, { on := 10, ground := Ground.phase }, { on := 11, ground := Ground.phase }, { on := 12, ground := Ground.phase }, { on := 13, ground := Ground.phase }, { on := 14, ground := Ground.phase }, { on := 15, ground := Ground.phase }, { on := 16, ground := Ground.phase }, { on := 17, ground := Ground.phase }, { on := 18, ground := Ground.phase }, { on := 19, ground := Ground.phase }, { on := 20, ground := Ground.phase }, { on := 21, ground := Ground.phase }, { on := 22, ground := Ground.phase }, { on := 23, ground := Ground.phase }, { on := 24, ground := Ground.phase }, { on := 25, ground := Ground.phase }], guard := none }) (v := ?vvt26) rfl (by kernel_rfl) (by kernel_rfl) (by kernel_rfl) (fun _ _ _ h => h) (Or.inl ⟨by rfl, ?hyt26⟩) S0 ?restt26
    case hyt26 => (intro w hSw; obtain ⟨hS0, hS1, hS2⟩ := hSw; unfold Rt.cells at hS0;go_simp <;> with_reducible rfl)
    try simp only [Act.put, List.setIfInBounds_toArray, List.set_cons_zero, List.set_cons_succ]
    refine wpAnyH_done (by kernel_rfl) ?_ _
    go_wp2_with fail
    go_ret
    exact ⟨str_ret HC.out.symm, S0.2.2⟩
end Go.Proofs.YthhodnkcaefnnaaDoor
