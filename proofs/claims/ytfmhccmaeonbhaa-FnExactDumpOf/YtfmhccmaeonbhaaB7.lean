import Derived.Test.YtfmhccmaeonbhaaB3
import Derived.Test.YtfmhccmaeonbhaaB1
import Derived.Deep.RegionHeld3
import Derived.Deep.RegionHeld
import Derived.Test.YtfmhccmaeonbhaaB4
import Derived.Handy
import Derived.Deep.CutRange
/- RouteBytes, of the model and of the program. -/
namespace Go.Proofs.Ytfmhccmaeonbhaa
open Go.RowKit

def stI (t : Bool) : Int := if t = true then 1 else 0
def Rt.nums (r : Rt) : List Int := [r.kind, r.vni, r.mac, r.ip, r.org, r.seq, stI r.st]
def flat (l : List Int) : List UInt8 := l.flatMap putNum
def Rt.bytes (r : Rt) : ByteArray := if r.right = true then strOf (flat r.nums) else ⟨#[]⟩
abbrev N64 (n : Int) : Prop := -9223372036854775808 ≤ n ∧ n ≤ 9223372036854775807
theorem inR_b {n a b : Int} (h : inR n a b = true) : a ≤ n ∧ n ≤ b := inR_t h
theorem stI_b (t : Bool) : N64 (stI t) := by unfold stI; split <;> exact ⟨by omega, by omega⟩
theorem right_b {r : Rt} (h : r.right = true) : (N64 r.kind ∧ N64 r.vni ∧ N64 r.mac) ∧ N64 r.ip ∧ N64 r.org ∧ N64 r.seq := by
  unfold Rt.right rtRight at h
  rw [Bool.and_eq_true, Bool.and_eq_true] at h
  obtain ⟨⟨h1, h2⟩, h3⟩ := h
  have a1 := inR_b (show inR r.vni 1 16777215 = true from h1)
  have a2 := inR_b (show inR r.org 1 4 = true from h2)
  by_cases hk : r.kind = 2
  · rw [if_pos hk] at h3
    unfold macRight at h3
    rw [Bool.and_eq_true, Bool.and_eq_true, Bool.and_eq_true] at h3
    obtain ⟨⟨⟨b1, _⟩, b2⟩, b3⟩ := h3
    have c1 := inR_b (show inR r.mac 0 281474976710655 = true from b1)
    have c2 := inR_b (show inR r.ip 0 4294967295 = true from b2)
    have c3 := inR_b (show inR r.seq 0 1000000 = true from b3)
    refine ⟨⟨⟨?_, ?_⟩, ⟨?_, ?_⟩, ⟨?_, ?_⟩⟩, ⟨?_, ?_⟩, ⟨?_, ?_⟩, ⟨?_, ?_⟩⟩ <;> omega
  · rw [if_neg hk] at h3
    by_cases hk3 : r.kind = 3
    · rw [if_pos hk3] at h3
      unfold roomRight at h3
      simp only [Bool.and_eq_true, decide_eq_true_eq] at h3
      refine ⟨⟨⟨?_, ?_⟩, ⟨?_, ?_⟩, ⟨?_, ?_⟩⟩, ⟨?_, ?_⟩, ⟨?_, ?_⟩, ⟨?_, ?_⟩⟩ <;> omega
    · rw [if_neg hk3] at h3; cases h3
theorem put_small {n : Int} (h : N64 n) : (strOf (putNum n)).size ≤ 10 := by rw [strOf_size]; exact putNum_len n h.1 h.2

abbrev RtAt (w W : World) (B : Nat) (a : Rt) : Prop := (∀ o, W.cell? ⟨B, o, none⟩ = a.cells[o]?) ∧ B < W.heap.size ∧ Below w.heap.size w W
theorem RtAt.keep {w W W' : World} {B : Nat} {a : Rt} (h : RtAt w W B a) (hb : Below W.heap.size W W') : RtAt w W' B a := by
  obtain ⟨h0, h2, hl⟩ := h
  exact ⟨fun o => (hb.cell (p := ⟨B, o, none⟩) h2).trans (h0 o), Nat.lt_of_lt_of_le h2 hb.size, hl.trans (hb.mono hl.size)⟩
theorem flat_seven (a b c d e f g : Int) : flat [a, b, c, d, e, f, g] = putNum a ++ (putNum b ++ (putNum c ++ (putNum d ++ (putNum e ++ (putNum f ++ putNum g))))) := by simp [flat]
set_option maxHeartbeats 2000000 in
theorem specL03Bytes_any (a : Rt) (h : a.right = true) (w : World) : Calls Try.prog 89 #[a.val] w fun e w' => e = .returned (.string (strOf (flat a.nums))) ∧ Below w.heap.size w w' := by
  obtain ⟨⟨b0, b1, b2⟩, b3, b4, b5⟩ := right_b h
  clear h
  have b6 := stI_b a.st
  have HR : Hid (strOf (flat a.nums) = _) := Lib.hid (congrArg strOf (flat_seven a.kind a.vni a.mac a.ip a.org a.seq (stI a.st)))
  generalize strOf (flat a.nums) = R at *
  obtain ⟨k, v, m, i, o, s, t⟩ := a
  dsimp only at b0 b1 b2 b3 b4 b5 b6 HR
  have P0 := fun w => specPutNum_any k w b0.1 b0.2
  have P1 := fun w => specPutNum_any v w b1.1 b1.2
  have P2 := fun w => specPutNum_any m w b2.1 b2.2
  have P3 := fun w => specPutNum_any i w b3.1 b3.2
  have P4 := fun w => specPutNum_any o w b4.1 b4.2
  have P5 := fun w => specPutNum_any s w b5.1 b5.2
  have P6 := fun w => specPutNum_any (stI t) w b6.1 b6.2
  have z0 := put_small b0
  have z1 := put_small b1
  have z2 := put_small b2
  have z3 := put_small b3
  have z4 := put_small b4
  have z5 := put_small b5
  have z6 := put_small b6
  clear b0 b1 b2 b3 b4 b5 b6
  have HC : Hid (R = strOf (putNum k) ++ strOf (putNum v) ++ strOf (putNum m) ++ strOf (putNum i) ++ strOf (putNum o) ++ strOf (putNum s) ++ strOf (putNum (stI t))) := Lib.hid (by
    rw [HR.out, app_strs, app_strs, app_strs, app_strs, app_strs, app_strs]; simp only [List.append_assoc])
  clear HR
  generalize strOf (putNum k) = q0 at *
  generalize strOf (putNum v) = q1 at *
  generalize strOf (putNum m) = q2 at *
  generalize strOf (putNum i) = q3 at *
  generalize strOf (putNum o) = q4 at *
  generalize strOf (putNum s) = q5 at *
  generalize strOf (putNum (stI t)) = q6 at *
  have c1 : ¬ 9223372036854775807 < q0.size + q1.size := by omega
  have c2 : ¬ 9223372036854775807 < q0.size + q1.size + q2.size := by omega
  have c3 : ¬ 9223372036854775807 < q0.size + q1.size + q2.size + q3.size := by omega
  have c4 : ¬ 9223372036854775807 < q0.size + q1.size + q2.size + q3.size + q4.size := by omega
  have c5 : ¬ 9223372036854775807 < q0.size + q1.size + q2.size + q3.size + q4.size + q5.size := by omega
  have c6 : ¬ 9223372036854775807 < q0.size + q1.size + q2.size + q3.size + q4.size + q5.size + q6.size := by omega
  clear z0 z1 z2 z3 z4 z5 z6
  replace P0 := Lib.hid P0
  replace P1 := Lib.hid P1
  replace P2 := Lib.hid P2
  replace P3 := Lib.hid P3
  replace P4 := Lib.hid P4
  replace P5 := Lib.hid P5
  replace P6 := Lib.hid P6
  unfold Rt.val rtV
  cases t
  · unfold stI at P6
    dsimp only at P6 ⊢
    simp only [Bool.false_eq_true, if_false] at P6
    go_enter Try.func89, Try.ntmps89
    go_wp2_with fail
    obtain ⟨W, hW⟩ : ∃ W, W = w.alloc (.cells #[.int .i64 k, .int .i64 v, .int .i64 m, .int .i64 i, .int .i64 o, .int .i64 s, .bool false] 69) := ⟨_, rfl⟩
    rw [← hW]
    have S0 : RtAt w W.drew w.heap.size ⟨k, v, m, i, o, s, false⟩ := by
      subst hW; exact ⟨fun o => by simp [Rt.cells], by simp, ((Below.refl _ _).alloc (Nat.le_refl _) _).drew⟩
    clear hW
    refine wp_region_held_drew (S := fun W' => RtAt w W' w.heap.size ⟨k, v, m, i, o, s, false⟩) (by kernel_rfl) S0 (fun hHeld => ?_)
    clear hHeld
    refine wpAnyH_take (i := 0) (oi := { dst := some 6, op := Op.fieldAddr 69 (Operand.tmp 1) 0, type := 0, pos := "l03_route.go:24", after := #[], guard := none }) (v := ?vvf1) rfl (by kernel_rfl) (by kernel_rfl) (by kernel_rfl) (fun _ _ _ h => h) (Or.inl ⟨by rfl, ?hyf1⟩) S0 ?restf1
    case hyf1 => (intro w hSw; obtain ⟨hS0, hS1, hS2⟩ := hSw; unfold Rt.cells at hS0;go_simp <;> with_reducible rfl)
    try simp only [Act.put, List.setIfInBounds_toArray, List.set_cons_zero, List.set_cons_succ]
    refine wpAnyH_take (i := 1) (oi := { dst := some 7, op := Op.load 2 (Operand.tmp 6), type := 2, pos := "l03_route.go:24", after := #[{ on := 0, ground := Ground.data }], guard := none }) (v := ?vvf2) rfl (by kernel_rfl) (by kernel_rfl) (by kernel_rfl) (fun _ _ _ h => h) (Or.inl ⟨by rfl, ?hyf2⟩) S0 ?restf2
    case hyf2 => (intro w hSw; obtain ⟨hS0, hS1, hS2⟩ := hSw; unfold Rt.cells at hS0;go_simp <;> with_reducible rfl)
    try simp only [Act.put, List.setIfInBounds_toArray, List.set_cons_zero, List.set_cons_succ]
    refine wpAnyH_take (i := 3) (oi := { dst := some 9, op := Op.fieldAddr 69 (Operand.tmp 1) 1, type := 0, pos := "l03_route.go:24", after := #[], guard := none }) (v := ?vvf3) rfl (by kernel_rfl) (by kernel_rfl) (by kernel_rfl) (fun _ _ _ h => h) (Or.inl ⟨by rfl, ?hyf3⟩) S0 ?restf3
    case hyf3 => (intro w hSw; obtain ⟨hS0, hS1, hS2⟩ := hSw; unfold Rt.cells at hS0;go_simp <;> with_reducible rfl)
    try simp only [Act.put, List.setIfInBounds_toArray, List.set_cons_zero, List.set_cons_succ]
    refine wpAnyH_take (i := 4) (oi := { dst := some 10, op := Op.load 2 (Operand.tmp 9), type := 2, pos := "l03_route.go:24", after := #[{ on := 3, ground := Ground.data }], guard := none }) (v := ?vvf4) rfl (by kernel_rfl) (by kernel_rfl) (by kernel_rfl) (fun _ _ _ h => h) (Or.inl ⟨by rfl, ?hyf4⟩) S0 ?restf4
    case hyf4 => (intro w hSw; obtain ⟨hS0, hS1, hS2⟩ := hSw; unfold Rt.cells at hS0;go_simp <;> with_reducible rfl)
    try simp only [Act.put, List.setIfInBounds_toArray, List.set_cons_zero, List.set_cons_succ]
    refine wpAnyH_take (i := 7) (oi := { dst := some 13, op := Op.fieldAddr 69 (Operand.tmp 1) 2, type := 0, pos := "l03_route.go:24", after := #[], guard := none }) (v := ?vvf5) rfl (by kernel_rfl) (by kernel_rfl) (by kernel_rfl) (fun _ _ _ h => h) (Or.inl ⟨by rfl, ?hyf5⟩) S0 ?restf5
    case hyf5 => (intro w hSw; obtain ⟨hS0, hS1, hS2⟩ := hSw; unfold Rt.cells at hS0;go_simp <;> with_reducible rfl)
    try simp only [Act.put, List.setIfInBounds_toArray, List.set_cons_zero, List.set_cons_succ]
    refine wpAnyH_take (i := 8) (oi := { dst := some 14, op := Op.load 2 (Operand.tmp 13), type := 2, pos := "l03_route.go:24", after := #[{ on := 7, ground := Ground.data }], guard := none }) (v := ?vvf6) rfl (by kernel_rfl) (by kernel_rfl) (by kernel_rfl) (fun _ _ _ h => h) (Or.inl ⟨by rfl, ?hyf6⟩) S0 ?restf6
    case hyf6 => (intro w hSw; obtain ⟨hS0, hS1, hS2⟩ := hSw; unfold Rt.cells at hS0;go_simp <;> with_reducible rfl)
    try simp only [Act.put, List.setIfInBounds_toArray, List.set_cons_zero, List.set_cons_succ]
    refine wpAnyH_take (i := 11) (oi := { dst := some 17, op := Op.fieldAddr 69 (Operand.tmp 1) 3, type := 0, pos := "l03_route.go:24", after := #[], guard := none }) (v := ?vvf7) rfl (by kernel_rfl) (by kernel_rfl) (by kernel_rfl) (fun _ _ _ h => h) (Or.inl ⟨by rfl, ?hyf7⟩) S0 ?restf7
    case hyf7 => (intro w hSw; obtain ⟨hS0, hS1, hS2⟩ := hSw; unfold Rt.cells at hS0;go_simp <;> with_reducible rfl)
    try simp only [Act.put, List.setIfInBounds_toArray, List.set_cons_zero, List.set_cons_succ]
    refine wpAnyH_take (i := 12) (oi := { dst := some 18, op := Op.load 2 (Operand.tmp 17), type := 2, pos := "l03_route.go:24", after := #[{ on := 11, ground := Ground.data }], guard := none }) (v := ?vvf8) rfl (by kernel_rfl) (by kernel_rfl) (by kernel_rfl) (fun _ _ _ h => h) (Or.inl ⟨by rfl, ?hyf8⟩) S0 ?restf8
    case hyf8 => (intro w hSw; obtain ⟨hS0, hS1, hS2⟩ := hSw; unfold Rt.cells at hS0;go_simp <;> with_reducible rfl)
    try simp only [Act.put, List.setIfInBounds_toArray, List.set_cons_zero, List.set_cons_succ]
    refine wpAnyH_take (i := 15) (oi := { dst := some 21, op := Op.fieldAddr 69 (Operand.tmp 1) 4, type := 0, pos := "l03_route.go:24", after := #[], guard := none }) (v := ?vvf9) rfl (by kernel_rfl) (by kernel_rfl) (by kernel_rfl) (fun _ _ _ h => h) (Or.inl ⟨by rfl, ?hyf9⟩) S0 ?restf9
    case hyf9 => (intro w hSw; obtain ⟨hS0, hS1, hS2⟩ := hSw; unfold Rt.cells at hS0;go_simp <;> with_reducible rfl)
    try simp only [Act.put, List.setIfInBounds_toArray, List.set_cons_zero, List.set_cons_succ]
    refine wpAnyH_take (i := 16) (oi := { dst := some 22, op := Op.load 2 (Operand.tmp 21), type := 2, pos := "l03_route.go:24", after := #[{ on := 15, ground := Ground.data }], guard := none }) (v := ?vvf10) rfl (by kernel_rfl) (by kernel_rfl) (by kernel_rfl) (fun _ _ _ h => h) (Or.inl ⟨by rfl, ?hyf10⟩) S0 ?restf10
    case hyf10 => (intro w hSw; obtain ⟨hS0, hS1, hS2⟩ := hSw; unfold Rt.cells at hS0;go_simp <;> with_reducible rfl)
    try simp only [Act.put, List.setIfInBounds_toArray, List.set_cons_zero, List.set_cons_succ]
    refine wpAnyH_take (i := 19) (oi := { dst := some 25, op := Op.fieldAddr 69 (Operand.tmp 1) 5, type := 0, pos := "l03_route.go:24", after := #[], guard := none }) (v := ?vvf11) rfl (by kernel_rfl) (by kernel_rfl) (by kernel_rfl) (fun _ _ _ h => h) (Or.inl ⟨by rfl, ?hyf11⟩) S0 ?restf11
    case hyf11 => (intro w hSw; obtain ⟨hS0, hS1, hS2⟩ := hSw; unfold Rt.cells at hS0;go_simp <;> with_reducible rfl)
    try simp only [Act.put, List.setIfInBounds_toArray, List.set_cons_zero, List.set_cons_succ]
    refine wpAnyH_take (i := 20) (oi := { dst := some 26, op := Op.load 2 (Operand.tmp 25), type := 2, pos := "l03_route.go:24", after := #[{ on := 19, ground := Ground.data }], guard := none }) (v := ?vvf12) rfl (by kernel_rfl) (by kernel_rfl) (by kernel_rfl) (fun _ _ _ h => h) (Or.inl ⟨by rfl, ?hyf12⟩) S0 ?restf12
    case hyf12 => (intro w hSw; obtain ⟨hS0, hS1, hS2⟩ := hSw; unfold Rt.cells at hS0;go_simp <;> with_reducible rfl)
    try simp only [Act.put, List.setIfInBounds_toArray, List.set_cons_zero, List.set_cons_succ]
    refine wpAnyH_take (i := 23) (oi := { dst := some 29, op := Op.move (Operand.tmp 3), type := 2, pos := "l03_route.go:24", after := #[], guard := none }) (v := ?vvf13) rfl (by kernel_rfl) (by kernel_rfl) (by kernel_rfl) (fun _ _ _ h => h) (Or.inl ⟨by rfl, ?hyf13⟩) S0 ?restf13
    case hyf13 => (intro w hSw; obtain ⟨hS0, hS1, hS2⟩ := hSw; unfold Rt.cells at hS0;go_simp <;> with_reducible rfl)
    try simp only [Act.put, List.setIfInBounds_toArray, List.set_cons_zero, List.set_cons_succ]
    refine wpAnyH_ready (rs := [2]) (by kernel_rfl) (by simp) ?_
    refine AllReadyH.cons (o := { dst := some 8, op := Op.call { callee := Callee.value (Operand.func 69), args := #[Operand.tmp 7], argTypes := #[2] }, type := 9, pos := "l03_route.go:24", after := #[{ on := 1, ground := Ground.data }], guard := none }) rfl (fun K hK => ?_) AllReadyH.nil
    go_simp
    refine (P0.out _).mono ?_
    rintro e w1 ⟨rfl, hb1⟩
    replace S0 := S0.keep hb1
    clear hb1
    refine hK.out _ _ S0 (fun hHeld => ?_)
    clear hK K hHeld
    try simp only [Act.put, List.setIfInBounds_toArray, List.set_cons_zero, List.set_cons_succ]
    refine wpAnyH_ready (rs := [5]) (by kernel_rfl) (by simp) ?_
    refine AllReadyH.cons (o := { dst := some 11, op := Op.call { callee := Callee.value (Operand.func 69), args := #[Operand.tmp 10], argTypes := #[2] }, type := 9, pos := "l03_route.go:24", after := #[{ on := 4, ground := Ground.data }, { on := 2, ground := Ground.chain }], guard := none }) rfl (fun K hK => ?_) AllReadyH.nil
    go_simp
    refine (P1.out _).mono ?_
    rintro e w1 ⟨rfl, hb1⟩
    replace S0 := S0.keep hb1
    clear hb1
    refine hK.out _ _ S0 (fun hHeld => ?_)
    clear hK K hHeld
    try simp only [Act.put, List.setIfInBounds_toArray, List.set_cons_zero, List.set_cons_succ]
    refine wpAnyH_take (i := 6) (oi := { dst := some 12, op := Op.binOp BinOp.add 9 (Operand.tmp 8) (Operand.tmp 11) 9, type := 9, pos := "l03_route.go:24", after := #[{ on := 2, ground := Ground.data }, { on := 5, ground := Ground.data }], guard := none }) (v := ?vvf14) rfl (by kernel_rfl) (by kernel_rfl) (by kernel_rfl) (fun _ _ _ h => h) (Or.inl ⟨by rfl, ?hyf14⟩) S0 ?restf14
    case hyf14 => (intro w hSw; obtain ⟨hS0, hS1, hS2⟩ := hSw; unfold Rt.cells at hS0;go_simp <;> with_reducible rfl)
    try simp only [Act.put, List.setIfInBounds_toArray, List.set_cons_zero, List.set_cons_succ]
    refine wpAnyH_ready (rs := [9]) (by kernel_rfl) (by simp) ?_
    refine AllReadyH.cons (o := { dst := some 15, op := Op.call { callee := Callee.value (Operand.func 69), args := #[Operand.tmp 14], argTypes := #[2] }, type := 9, pos := "l03_route.go:24", after := #[{ on := 8, ground := Ground.data }, { on := 5, ground := Ground.chain }], guard := none }) rfl (fun K hK => ?_) AllReadyH.nil
    go_simp
    refine (P2.out _).mono ?_
    rintro e w1 ⟨rfl, hb1⟩
    replace S0 := S0.keep hb1
    clear hb1
    refine hK.out _ _ S0 (fun hHeld => ?_)
    clear hK K hHeld
    try simp only [Act.put, List.setIfInBounds_toArray, List.set_cons_zero, List.set_cons_succ]
    refine wpAnyH_take (i := 10) (oi := { dst := some 16, op := Op.binOp BinOp.add 9 (Operand.tmp 12) (Operand.tmp 15) 9, type := 9, pos := "l03_route.go:24", after := #[{ on := 6, ground := Ground.data }, { on := 9, ground := Ground.data }], guard := none }) (v := ?vvf15) rfl (by kernel_rfl) (by kernel_rfl) (by kernel_rfl) (fun _ _ _ h => h) (Or.inl ⟨by rfl, ?hyf15⟩) S0 ?restf15
    case hyf15 => (intro w hSw; obtain ⟨hS0, hS1, hS2⟩ := hSw; unfold Rt.cells at hS0;go_simp <;> with_reducible rfl)
    try simp only [Act.put, List.setIfInBounds_toArray, List.set_cons_zero, List.set_cons_succ]
    refine wpAnyH_ready (rs := [13]) (by kernel_rfl) (by simp) ?_
    refine AllReadyH.cons (o := { dst := some 19, op := Op.call { callee := Callee.value (Operand.func 69), args := #[Operand.tmp 18], argTypes := #[2] }, type := 9, pos := "l03_route.go:24", after := #[{ on := 12, ground := Ground.data }, { on := 9, ground := Ground.chain }], guard := none }) rfl (fun K hK => ?_) AllReadyH.nil
    go_simp
    refine (P3.out _).mono ?_
    rintro e w1 ⟨rfl, hb1⟩
    replace S0 := S0.keep hb1
    clear hb1
    refine hK.out _ _ S0 (fun hHeld => ?_)
    clear hK K hHeld
    try simp only [Act.put, List.setIfInBounds_toArray, List.set_cons_zero, List.set_cons_succ]
    refine wpAnyH_take (i := 14) (oi := { dst := some 20, op := Op.binOp BinOp.add 9 (Operand.tmp 16) (Operand.tmp 19) 9, type := 9, pos := "l03_route.go:24", after := #[{ on := 10, ground := Ground.data }, { on := 13, ground := Ground.data }], guard := none }) (v := ?vvf16) rfl (by kernel_rfl) (by kernel_rfl) (by kernel_rfl) (fun _ _ _ h => h) (Or.inl ⟨by rfl, ?hyf16⟩) S0 ?restf16
    case hyf16 => (intro w hSw; obtain ⟨hS0, hS1, hS2⟩ := hSw; unfold Rt.cells at hS0;go_simp <;> with_reducible rfl)
    try simp only [Act.put, List.setIfInBounds_toArray, List.set_cons_zero, List.set_cons_succ]
    refine wpAnyH_ready (rs := [17]) (by kernel_rfl) (by simp) ?_
    refine AllReadyH.cons (o := { dst := some 23, op := Op.call { callee := Callee.value (Operand.func 69), args := #[Operand.tmp 22], argTypes := #[2] }, type := 9, pos := "l03_route.go:24", after := #[{ on := 16, ground := Ground.data }, { on := 13, ground := Ground.chain }], guard := none }) rfl (fun K hK => ?_) AllReadyH.nil
    go_simp
    refine (P4.out _).mono ?_
    rintro e w1 ⟨rfl, hb1⟩
    replace S0 := S0.keep hb1
    clear hb1
    refine hK.out _ _ S0 (fun hHeld => ?_)
    clear hK K hHeld
    try simp only [Act.put, List.setIfInBounds_toArray, List.set_cons_zero, List.set_cons_succ]
    refine wpAnyH_take (i := 18) (oi := { dst := some 24, op := Op.binOp BinOp.add 9 (Operand.tmp 20) (Operand.tmp 23) 9, type := 9, pos := "l03_route.go:24", after := #[{ on := 14, ground := Ground.data }, { on := 17, ground := Ground.data }], guard := none }) (v := ?vvf17) rfl (by kernel_rfl) (by kernel_rfl) (by kernel_rfl) (fun _ _ _ h => h) (Or.inl ⟨by rfl, ?hyf17⟩) S0 ?restf17
    case hyf17 => (intro w hSw; obtain ⟨hS0, hS1, hS2⟩ := hSw; unfold Rt.cells at hS0;go_simp <;> with_reducible rfl)
    try simp only [Act.put, List.setIfInBounds_toArray, List.set_cons_zero, List.set_cons_succ]
    refine wpAnyH_ready (rs := [21]) (by kernel_rfl) (by simp) ?_
    refine AllReadyH.cons (o := { dst := some 27, op := Op.call { callee := Callee.value (Operand.func 69), args := #[Operand.tmp 26], argTypes := #[2] }, type := 9, pos := "l03_route.go:24", after := #[{ on := 20, ground := Ground.data }, { on := 17, ground := Ground.chain }], guard := none }) rfl (fun K hK => ?_) AllReadyH.nil
    go_simp
    refine (P5.out _).mono ?_
    rintro e w1 ⟨rfl, hb1⟩
    replace S0 := S0.keep hb1
    clear hb1
    refine hK.out _ _ S0 (fun hHeld => ?_)
    clear hK K hHeld
    try simp only [Act.put, List.setIfInBounds_toArray, List.set_cons_zero, List.set_cons_succ]
    refine wpAnyH_take (i := 22) (oi := { dst := some 28, op := Op.binOp BinOp.add 9 (Operand.tmp 24) (Operand.tmp 27) 9, type := 9, pos := "l03_route.go:24", after := #[{ on := 18, ground := Ground.data }, { on := 21, ground := Ground.data }], guard := none }) (v := ?vvf18) rfl (by kernel_rfl) (by kernel_rfl) (by kernel_rfl) (fun _ _ _ h => h) (Or.inl ⟨by rfl, ?hyf18⟩) S0 ?restf18
    case hyf18 => (intro w hSw; obtain ⟨hS0, hS1, hS2⟩ := hSw; unfold Rt.cells at hS0;go_simp <;> with_reducible rfl)
    try simp only [Act.put, List.setIfInBounds_toArray, List.set_cons_zero, List.set_cons_succ]
    refine wpAnyH_ready (rs := [24]) (by kernel_rfl) (by simp) ?_
    refine AllReadyH.cons (o := { dst := some 30, op := Op.call { callee := Callee.value (Operand.func 69), args := #[Operand.tmp 29], argTypes := #[2] }, type := 9, pos := "l03_route.go:24", after := #[{ on := 23, ground := Ground.data }, { on := 21, ground := Ground.chain }], guard := none }) rfl (fun K hK => ?_) AllReadyH.nil
    go_simp
    refine (P6.out _).mono ?_
    rintro e w1 ⟨rfl, hb1⟩
    replace S0 := S0.keep hb1
    clear hb1
    refine hK.out _ _ S0 (fun hHeld => ?_)
    clear hK K hHeld
    try simp only [Act.put, List.setIfInBounds_toArray, List.set_cons_zero, List.set_cons_succ]
    refine wpAnyH_take (i := 25) (oi := { dst := some 31, op := Op.binOp BinOp.add 9 (Operand.tmp 28) (Operand.tmp 30) 9, type := 9, pos := "l03_route.go:24", after := #[{ on := 22, ground := Ground.data }, { on := 24, ground := Ground.data }], guard := none }) (v := ?vvf19) rfl (by kernel_rfl) (by kernel_rfl) (by kernel_rfl) (fun _ _ _ h => h) (Or.inl ⟨by rfl, ?hyf19⟩) S0 ?restf19
    case hyf19 => (intro w hSw; obtain ⟨hS0, hS1, hS2⟩ := hSw; unfold Rt.cells at hS0;go_simp <;> with_reducible rfl)
    try simp only [Act.put, List.setIfInBounds_toArray, List.set_cons_zero, List.set_cons_succ]
    refine wpAnyH_take (i := 26) (oi := { dst := some 2, op := Op.assign (Operand.tmp 31), type := 9, pos := "l03_route.go:24", after := #[{ on := 25, ground := Ground.data }, { on := 24, ground := Ground.chain }, { on := 0, ground := Ground.phase }, { on := 1, ground := Ground.phase }, { on := 2, ground := Ground.phase }, { on := 3, ground := Ground.phase }, { on := 4, ground := Ground.phase }, { on := 5, ground := Ground.phase }, { on := 6, ground := Ground.phase }, { on := 7, ground := Ground.phase }, { on := 8, ground := Ground.phase }, { on := 9, ground := Ground.phase }, { on := 10, ground := Ground.phase }, { on := 11, ground := Ground.phase }, { on := 12, ground := Ground.phase }, { on := 13, ground := Ground.phase }, { on := 14, ground := Ground.phase }, { on := 15, ground := Ground.phase }, { on := 16, ground := Ground.phase }, { on := 17, ground := Ground.phase }, { on := 18, ground := Ground.phase }, { on := 19, ground := Ground.phase }, { on := 20, ground := Ground.phase }, { on := 21, ground := Ground.phase }, { on := 22, ground := Ground.phase }, { on := 23, ground := Ground.phase }, { on := 24, ground := Ground.phase }, { on := 25, ground := Ground.phase }], guard := none }) (v := ?vvf20) rfl (by kernel_rfl) (by kernel_rfl) (by kernel_rfl) (fun _ _ _ h => h) (Or.inl ⟨by rfl, ?hyf20⟩) S0 ?restf20
    case hyf20 => (intro w hSw; obtain ⟨hS0, hS1, hS2⟩ := hSw; unfold Rt.cells at hS0;go_simp <;> with_reducible rfl)
    try simp only [Act.put, List.setIfInBounds_toArray, List.set_cons_zero, List.set_cons_succ]
    refine wpAnyH_done (by kernel_rfl) ?_ _
    go_wp2_with fail
    go_ret
    exact ⟨str_ret HC.out.symm, S0.2.2⟩
  · unfold stI at P6
    dsimp only at P6 ⊢
    simp only [if_true] at P6
    go_enter Try.func89, Try.ntmps89
    go_wp2_with fail
    obtain ⟨W, hW⟩ : ∃ W, W = w.alloc (.cells #[.int .i64 k, .int .i64 v, .int .i64 m, .int .i64 i, .int .i64 o, .int .i64 s, .bool true] 69) := ⟨_, rfl⟩
    rw [← hW]
    have S0 : RtAt w W.drew w.heap.size ⟨k, v, m, i, o, s, true⟩ := by
      subst hW; exact ⟨fun o => by simp [Rt.cells], by simp, ((Below.refl _ _).alloc (Nat.le_refl _) _).drew⟩
    clear hW
    refine wp_region_held_drew (S := fun W' => RtAt w W' w.heap.size ⟨k, v, m, i, o, s, true⟩) (by kernel_rfl) S0 (fun hHeld => ?_)
    clear hHeld
    refine wpAnyH_take (i := 0) (oi := { dst := some 6, op := Op.fieldAddr 69 (Operand.tmp 1) 0, type := 0, pos := "l03_route.go:24", after := #[], guard := none }) (v := ?vvt1) rfl (by kernel_rfl) (by kernel_rfl) (by kernel_rfl) (fun _ _ _ h => h) (Or.inl ⟨by rfl, ?hyt1⟩) S0 ?restt1
    case hyt1 => (intro w hSw; obtain ⟨hS0, hS1, hS2⟩ := hSw; unfold Rt.cells at hS0;go_simp <;> with_reducible rfl)
    try simp only [Act.put, List.setIfInBounds_toArray, List.set_cons_zero, List.set_cons_succ]
    refine wpAnyH_take (i := 1) (oi := { dst := some 7, op := Op.load 2 (Operand.tmp 6), type := 2, pos := "l03_route.go:24", after := #[{ on := 0, ground := Ground.data }], guard := none }) (v := ?vvt2) rfl (by kernel_rfl) (by kernel_rfl) (by kernel_rfl) (fun _ _ _ h => h) (Or.inl ⟨by rfl, ?hyt2⟩) S0 ?restt2
    case hyt2 => (intro w hSw; obtain ⟨hS0, hS1, hS2⟩ := hSw; unfold Rt.cells at hS0;go_simp <;> with_reducible rfl)
    try simp only [Act.put, List.setIfInBounds_toArray, List.set_cons_zero, List.set_cons_succ]
    refine wpAnyH_take (i := 3) (oi := { dst := some 9, op := Op.fieldAddr 69 (Operand.tmp 1) 1, type := 0, pos := "l03_route.go:24", after := #[], guard := none }) (v := ?vvt3) rfl (by kernel_rfl) (by kernel_rfl) (by kernel_rfl) (fun _ _ _ h => h) (Or.inl ⟨by rfl, ?hyt3⟩) S0 ?restt3
    case hyt3 => (intro w hSw; obtain ⟨hS0, hS1, hS2⟩ := hSw; unfold Rt.cells at hS0;go_simp <;> with_reducible rfl)
    try simp only [Act.put, List.setIfInBounds_toArray, List.set_cons_zero, List.set_cons_succ]
    refine wpAnyH_take (i := 4) (oi := { dst := some 10, op := Op.load 2 (Operand.tmp 9), type := 2, pos := "l03_route.go:24", after := #[{ on := 3, ground := Ground.data }], guard := none }) (v := ?vvt4) rfl (by kernel_rfl) (by kernel_rfl) (by kernel_rfl) (fun _ _ _ h => h) (Or.inl ⟨by rfl, ?hyt4⟩) S0 ?restt4
    case hyt4 => (intro w hSw; obtain ⟨hS0, hS1, hS2⟩ := hSw; unfold Rt.cells at hS0;go_simp <;> with_reducible rfl)
    try simp only [Act.put, List.setIfInBounds_toArray, List.set_cons_zero, List.set_cons_succ]
    refine wpAnyH_take (i := 7) (oi := { dst := some 13, op := Op.fieldAddr 69 (Operand.tmp 1) 2, type := 0, pos := "l03_route.go:24", after := #[], guard := none }) (v := ?vvt5) rfl (by kernel_rfl) (by kernel_rfl) (by kernel_rfl) (fun _ _ _ h => h) (Or.inl ⟨by rfl, ?hyt5⟩) S0 ?restt5
    case hyt5 => (intro w hSw; obtain ⟨hS0, hS1, hS2⟩ := hSw; unfold Rt.cells at hS0;go_simp <;> with_reducible rfl)
    try simp only [Act.put, List.setIfInBounds_toArray, List.set_cons_zero, List.set_cons_succ]
    refine wpAnyH_take (i := 8) (oi := { dst := some 14, op := Op.load 2 (Operand.tmp 13), type := 2, pos := "l03_route.go:24", after := #[{ on := 7, ground := Ground.data }], guard := none }) (v := ?vvt6) rfl (by kernel_rfl) (by kernel_rfl) (by kernel_rfl) (fun _ _ _ h => h) (Or.inl ⟨by rfl, ?hyt6⟩) S0 ?restt6
    case hyt6 => (intro w hSw; obtain ⟨hS0, hS1, hS2⟩ := hSw; unfold Rt.cells at hS0;go_simp <;> with_reducible rfl)
    try simp only [Act.put, List.setIfInBounds_toArray, List.set_cons_zero, List.set_cons_succ]
    refine wpAnyH_take (i := 11) (oi := { dst := some 17, op := Op.fieldAddr 69 (Operand.tmp 1) 3, type := 0, pos := "l03_route.go:24", after := #[], guard := none }) (v := ?vvt7) rfl (by kernel_rfl) (by kernel_rfl) (by kernel_rfl) (fun _ _ _ h => h) (Or.inl ⟨by rfl, ?hyt7⟩) S0 ?restt7
    case hyt7 => (intro w hSw; obtain ⟨hS0, hS1, hS2⟩ := hSw; unfold Rt.cells at hS0;go_simp <;> with_reducible rfl)
    try simp only [Act.put, List.setIfInBounds_toArray, List.set_cons_zero, List.set_cons_succ]
    refine wpAnyH_take (i := 12) (oi := { dst := some 18, op := Op.load 2 (Operand.tmp 17), type := 2, pos := "l03_route.go:24", after := #[{ on := 11, ground := Ground.data }], guard := none }) (v := ?vvt8) rfl (by kernel_rfl) (by kernel_rfl) (by kernel_rfl) (fun _ _ _ h => h) (Or.inl ⟨by rfl, ?hyt8⟩) S0 ?restt8
    case hyt8 => (intro w hSw; obtain ⟨hS0, hS1, hS2⟩ := hSw; unfold Rt.cells at hS0;go_simp <;> with_reducible rfl)
    try simp only [Act.put, List.setIfInBounds_toArray, List.set_cons_zero, List.set_cons_succ]
    refine wpAnyH_take (i := 15) (oi := { dst := some 21, op := Op.fieldAddr 69 (Operand.tmp 1) 4, type := 0, pos := "l03_route.go:24", after := #[], guard := none }) (v := ?vvt9) rfl (by kernel_rfl) (by kernel_rfl) (by kernel_rfl) (fun _ _ _ h => h) (Or.inl ⟨by rfl, ?hyt9⟩) S0 ?restt9
    case hyt9 => (intro w hSw; obtain ⟨hS0, hS1, hS2⟩ := hSw; unfold Rt.cells at hS0;go_simp <;> with_reducible rfl)
    try simp only [Act.put, List.setIfInBounds_toArray, List.set_cons_zero, List.set_cons_succ]
    refine wpAnyH_take (i := 16) (oi := { dst := some 22, op := Op.load 2 (Operand.tmp 21), type := 2, pos := "l03_route.go:24", after := #[{ on := 15, ground := Ground.data }], guard := none }) (v := ?vvt10) rfl (by kernel_rfl) (by kernel_rfl) (by kernel_rfl) (fun _ _ _ h => h) (Or.inl ⟨by rfl, ?hyt10⟩) S0 ?restt10
    case hyt10 => (intro w hSw; obtain ⟨hS0, hS1, hS2⟩ := hSw; unfold Rt.cells at hS0;go_simp <;> with_reducible rfl)
    try simp only [Act.put, List.setIfInBounds_toArray, List.set_cons_zero, List.set_cons_succ]
    refine wpAnyH_take (i := 19) (oi := { dst := some 25, op := Op.fieldAddr 69 (Operand.tmp 1) 5, type := 0, pos := "l03_route.go:24", after := #[], guard := none }) (v := ?vvt11) rfl (by kernel_rfl) (by kernel_rfl) (by kernel_rfl) (fun _ _ _ h => h) (Or.inl ⟨by rfl, ?hyt11⟩) S0 ?restt11
    case hyt11 => (intro w hSw; obtain ⟨hS0, hS1, hS2⟩ := hSw; unfold Rt.cells at hS0;go_simp <;> with_reducible rfl)
    try simp only [Act.put, List.setIfInBounds_toArray, List.set_cons_zero, List.set_cons_succ]
    refine wpAnyH_take (i := 20) (oi := { dst := some 26, op := Op.load 2 (Operand.tmp 25), type := 2, pos := "l03_route.go:24", after := #[{ on := 19, ground := Ground.data }], guard := none }) (v := ?vvt12) rfl (by kernel_rfl) (by kernel_rfl) (by kernel_rfl) (fun _ _ _ h => h) (Or.inl ⟨by rfl, ?hyt12⟩) S0 ?restt12
    case hyt12 => (intro w hSw; obtain ⟨hS0, hS1, hS2⟩ := hSw; unfold Rt.cells at hS0;go_simp <;> with_reducible rfl)
    try simp only [Act.put, List.setIfInBounds_toArray, List.set_cons_zero, List.set_cons_succ]
    refine wpAnyH_take (i := 23) (oi := { dst := some 29, op := Op.move (Operand.tmp 3), type := 2, pos := "l03_route.go:24", after := #[], guard := none }) (v := ?vvt13) rfl (by kernel_rfl) (by kernel_rfl) (by kernel_rfl) (fun _ _ _ h => h) (Or.inl ⟨by rfl, ?hyt13⟩) S0 ?restt13
    case hyt13 => (intro w hSw; obtain ⟨hS0, hS1, hS2⟩ := hSw; unfold Rt.cells at hS0;go_simp <;> with_reducible rfl)
    try simp only [Act.put, List.setIfInBounds_toArray, List.set_cons_zero, List.set_cons_succ]
    refine wpAnyH_ready (rs := [2]) (by kernel_rfl) (by simp) ?_
    refine AllReadyH.cons (o := { dst := some 8, op := Op.call { callee := Callee.value (Operand.func 69), args := #[Operand.tmp 7], argTypes := #[2] }, type := 9, pos := "l03_route.go:24", after := #[{ on := 1, ground := Ground.data }], guard := none }) rfl (fun K hK => ?_) AllReadyH.nil
    go_simp
    refine (P0.out _).mono ?_
    rintro e w1 ⟨rfl, hb1⟩
    replace S0 := S0.keep hb1
    clear hb1
    refine hK.out _ _ S0 (fun hHeld => ?_)
    clear hK K hHeld
    try simp only [Act.put, List.setIfInBounds_toArray, List.set_cons_zero, List.set_cons_succ]
    refine wpAnyH_ready (rs := [5]) (by kernel_rfl) (by simp) ?_
    refine AllReadyH.cons (o := { dst := some 11, op := Op.call { callee := Callee.value (Operand.func 69), args := #[Operand.tmp 10], argTypes := #[2] }, type := 9, pos := "l03_route.go:24", after := #[{ on := 4, ground := Ground.data }, { on := 2, ground := Ground.chain }], guard := none }) rfl (fun K hK => ?_) AllReadyH.nil
    go_simp
    refine (P1.out _).mono ?_
    rintro e w1 ⟨rfl, hb1⟩
    replace S0 := S0.keep hb1
    clear hb1
    refine hK.out _ _ S0 (fun hHeld => ?_)
    clear hK K hHeld
    try simp only [Act.put, List.setIfInBounds_toArray, List.set_cons_zero, List.set_cons_succ]
    refine wpAnyH_take (i := 6) (oi := { dst := some 12, op := Op.binOp BinOp.add 9 (Operand.tmp 8) (Operand.tmp 11) 9, type := 9, pos := "l03_route.go:24", after := #[{ on := 2, ground := Ground.data }, { on := 5, ground := Ground.data }], guard := none }) (v := ?vvt14) rfl (by kernel_rfl) (by kernel_rfl) (by kernel_rfl) (fun _ _ _ h => h) (Or.inl ⟨by rfl, ?hyt14⟩) S0 ?restt14
    case hyt14 => (intro w hSw; obtain ⟨hS0, hS1, hS2⟩ := hSw; unfold Rt.cells at hS0;go_simp <;> with_reducible rfl)
    try simp only [Act.put, List.setIfInBounds_toArray, List.set_cons_zero, List.set_cons_succ]
    refine wpAnyH_ready (rs := [9]) (by kernel_rfl) (by simp) ?_
    refine AllReadyH.cons (o := { dst := some 15, op := Op.call { callee := Callee.value (Operand.func 69), args := #[Operand.tmp 14], argTypes := #[2] }, type := 9, pos := "l03_route.go:24", after := #[{ on := 8, ground := Ground.data }, { on := 5, ground := Ground.chain }], guard := none }) rfl (fun K hK => ?_) AllReadyH.nil
    go_simp
    refine (P2.out _).mono ?_
    rintro e w1 ⟨rfl, hb1⟩
    replace S0 := S0.keep hb1
    clear hb1
    refine hK.out _ _ S0 (fun hHeld => ?_)
    clear hK K hHeld
    try simp only [Act.put, List.setIfInBounds_toArray, List.set_cons_zero, List.set_cons_succ]
    refine wpAnyH_take (i := 10) (oi := { dst := some 16, op := Op.binOp BinOp.add 9 (Operand.tmp 12) (Operand.tmp 15) 9, type := 9, pos := "l03_route.go:24", after := #[{ on := 6, ground := Ground.data }, { on := 9, ground := Ground.data }], guard := none }) (v := ?vvt15) rfl (by kernel_rfl) (by kernel_rfl) (by kernel_rfl) (fun _ _ _ h => h) (Or.inl ⟨by rfl, ?hyt15⟩) S0 ?restt15
    case hyt15 => (intro w hSw; obtain ⟨hS0, hS1, hS2⟩ := hSw; unfold Rt.cells at hS0;go_simp <;> with_reducible rfl)
    try simp only [Act.put, List.setIfInBounds_toArray, List.set_cons_zero, List.set_cons_succ]
    refine wpAnyH_ready (rs := [13]) (by kernel_rfl) (by simp) ?_
    refine AllReadyH.cons (o := { dst := some 19, op := Op.call { callee := Callee.value (Operand.func 69), args := #[Operand.tmp 18], argTypes := #[2] }, type := 9, pos := "l03_route.go:24", after := #[{ on := 12, ground := Ground.data }, { on := 9, ground := Ground.chain }], guard := none }) rfl (fun K hK => ?_) AllReadyH.nil
    go_simp
    refine (P3.out _).mono ?_
    rintro e w1 ⟨rfl, hb1⟩
    replace S0 := S0.keep hb1
    clear hb1
    refine hK.out _ _ S0 (fun hHeld => ?_)
    clear hK K hHeld
    try simp only [Act.put, List.setIfInBounds_toArray, List.set_cons_zero, List.set_cons_succ]
    refine wpAnyH_take (i := 14) (oi := { dst := some 20, op := Op.binOp BinOp.add 9 (Operand.tmp 16) (Operand.tmp 19) 9, type := 9, pos := "l03_route.go:24", after := #[{ on := 10, ground := Ground.data }, { on := 13, ground := Ground.data }], guard := none }) (v := ?vvt16) rfl (by kernel_rfl) (by kernel_rfl) (by kernel_rfl) (fun _ _ _ h => h) (Or.inl ⟨by rfl, ?hyt16⟩) S0 ?restt16
    case hyt16 => (intro w hSw; obtain ⟨hS0, hS1, hS2⟩ := hSw; unfold Rt.cells at hS0;go_simp <;> with_reducible rfl)
    try simp only [Act.put, List.setIfInBounds_toArray, List.set_cons_zero, List.set_cons_succ]
    refine wpAnyH_ready (rs := [17]) (by kernel_rfl) (by simp) ?_
    refine AllReadyH.cons (o := { dst := some 23, op := Op.call { callee := Callee.value (Operand.func 69), args := #[Operand.tmp 22], argTypes := #[2] }, type := 9, pos := "l03_route.go:24", after := #[{ on := 16, ground := Ground.data }, { on := 13, ground := Ground.chain }], guard := none }) rfl (fun K hK => ?_) AllReadyH.nil
    go_simp
    refine (P4.out _).mono ?_
    rintro e w1 ⟨rfl, hb1⟩
    replace S0 := S0.keep hb1
    clear hb1
    refine hK.out _ _ S0 (fun hHeld => ?_)
    clear hK K hHeld
    try simp only [Act.put, List.setIfInBounds_toArray, List.set_cons_zero, List.set_cons_succ]
    refine wpAnyH_take (i := 18) (oi := { dst := some 24, op := Op.binOp BinOp.add 9 (Operand.tmp 20) (Operand.tmp 23) 9, type := 9, pos := "l03_route.go:24", after := #[{ on := 14, ground := Ground.data }, { on := 17, ground := Ground.data }], guard := none }) (v := ?vvt17) rfl (by kernel_rfl) (by kernel_rfl) (by kernel_rfl) (fun _ _ _ h => h) (Or.inl ⟨by rfl, ?hyt17⟩) S0 ?restt17
    case hyt17 => (intro w hSw; obtain ⟨hS0, hS1, hS2⟩ := hSw; unfold Rt.cells at hS0;go_simp <;> with_reducible rfl)
    try simp only [Act.put, List.setIfInBounds_toArray, List.set_cons_zero, List.set_cons_succ]
    refine wpAnyH_ready (rs := [21]) (by kernel_rfl) (by simp) ?_
    refine AllReadyH.cons (o := { dst := some 27, op := Op.call { callee := Callee.value (Operand.func 69), args := #[Operand.tmp 26], argTypes := #[2] }, type := 9, pos := "l03_route.go:24", after := #[{ on := 20, ground := Ground.data }, { on := 17, ground := Ground.chain }], guard := none }) rfl (fun K hK => ?_) AllReadyH.nil
    go_simp
    refine (P5.out _).mono ?_
    rintro e w1 ⟨rfl, hb1⟩
    replace S0 := S0.keep hb1
    clear hb1
    refine hK.out _ _ S0 (fun hHeld => ?_)
    clear hK K hHeld
    try simp only [Act.put, List.setIfInBounds_toArray, List.set_cons_zero, List.set_cons_succ]
    refine wpAnyH_take (i := 22) (oi := { dst := some 28, op := Op.binOp BinOp.add 9 (Operand.tmp 24) (Operand.tmp 27) 9, type := 9, pos := "l03_route.go:24", after := #[{ on := 18, ground := Ground.data }, { on := 21, ground := Ground.data }], guard := none }) (v := ?vvt18) rfl (by kernel_rfl) (by kernel_rfl) (by kernel_rfl) (fun _ _ _ h => h) (Or.inl ⟨by rfl, ?hyt18⟩) S0 ?restt18
    case hyt18 => (intro w hSw; obtain ⟨hS0, hS1, hS2⟩ := hSw; unfold Rt.cells at hS0;go_simp <;> with_reducible rfl)
    try simp only [Act.put, List.setIfInBounds_toArray, List.set_cons_zero, List.set_cons_succ]
    refine wpAnyH_ready (rs := [24]) (by kernel_rfl) (by simp) ?_
    refine AllReadyH.cons (o := { dst := some 30, op := Op.call { callee := Callee.value (Operand.func 69), args := #[Operand.tmp 29], argTypes := #[2] }, type := 9, pos := "l03_route.go:24", after := #[{ on := 23, ground := Ground.data }, { on := 21, ground := Ground.chain }], guard := none }) rfl (fun K hK => ?_) AllReadyH.nil
    go_simp
    refine (P6.out _).mono ?_
    rintro e w1 ⟨rfl, hb1⟩
    replace S0 := S0.keep hb1
    clear hb1
    refine hK.out _ _ S0 (fun hHeld => ?_)
    clear hK K hHeld
    try simp only [Act.put, List.setIfInBounds_toArray, List.set_cons_zero, List.set_cons_succ]
    refine wpAnyH_take (i := 25) (oi := { dst := some 31, op := Op.binOp BinOp.add 9 (Operand.tmp 28) (Operand.tmp 30) 9, type := 9, pos := "l03_route.go:24", after := #[{ on := 22, ground := Ground.data }, { on := 24, ground := Ground.data }], guard := none }) (v := ?vvt19) rfl (by kernel_rfl) (by kernel_rfl) (by kernel_rfl) (fun _ _ _ h => h) (Or.inl ⟨by rfl, ?hyt19⟩) S0 ?restt19
    case hyt19 => (intro w hSw; obtain ⟨hS0, hS1, hS2⟩ := hSw; unfold Rt.cells at hS0;go_simp <;> with_reducible rfl)
    try simp only [Act.put, List.setIfInBounds_toArray, List.set_cons_zero, List.set_cons_succ]
    refine wpAnyH_take (i := 26) (oi := { dst := some 2, op := Op.assign (Operand.tmp 31), type := 9, pos := "l03_route.go:24", after := #[{ on := 25, ground := Ground.data }, { on := 24, ground := Ground.chain }, { on := 0, ground := Ground.phase }, { on := 1, ground := Ground.phase }, { on := 2, ground := Ground.phase }, { on := 3, ground := Ground.phase }, { on := 4, ground := Ground.phase }, { on := 5, ground := Ground.phase }, { on := 6, ground := Ground.phase }, { on := 7, ground := Ground.phase }, { on := 8, ground := Ground.phase }, { on := 9, ground := Ground.phase }, { on := 10, ground := Ground.phase }, { on := 11, ground := Ground.phase }, { on := 12, ground := Ground.phase }, { on := 13, ground := Ground.phase }, { on := 14, ground := Ground.phase }, { on := 15, ground := Ground.phase }, { on := 16, ground := Ground.phase }, { on := 17, ground := Ground.phase }, { on := 18, ground := Ground.phase }, { on := 19, ground := Ground.phase }, { on := 20, ground := Ground.phase }, { on := 21, ground := Ground.phase }, { on := 22, ground := Ground.phase }, { on := 23, ground := Ground.phase }, { on := 24, ground := Ground.phase }, { on := 25, ground := Ground.phase }], guard := none }) (v := ?vvt20) rfl (by kernel_rfl) (by kernel_rfl) (by kernel_rfl) (fun _ _ _ h => h) (Or.inl ⟨by rfl, ?hyt20⟩) S0 ?restt20
    case hyt20 => (intro w hSw; obtain ⟨hS0, hS1, hS2⟩ := hSw; unfold Rt.cells at hS0;go_simp <;> with_reducible rfl)
    try simp only [Act.put, List.setIfInBounds_toArray, List.set_cons_zero, List.set_cons_succ]
    refine wpAnyH_done (by kernel_rfl) ?_ _
    go_wp2_with fail
    go_ret
    exact ⟨str_ret HC.out.symm, S0.2.2⟩
end Go.Proofs.Ytfmhccmaeonbhaa

/- Numbers encoded one behind the other. -/
namespace Go.Proofs.Ytfmhccmaeonbhaa
open Go.RowKit

theorem flat_take (l : List Int) (j : Nat) (h : j < l.length) : flat (l.take (j + 1)) = flat (l.take j) ++ putNum (l.getD j 0) := by
  rw [List.take_succ_eq_append_getElem h, List.getD_eq_getElem?_getD, List.getElem?_eq_getElem h]; unfold flat; rw [List.flatMap_append, List.flatMap_singleton]; rfl
theorem flat_len (l : List Int) (h : ∀ n ∈ l, N64 n) : (flat l).length ≤ 10 * l.length := by
  induction l with
  | nil => simp [flat]
  | cons a l ih =>
    have h1 := putNum_len a (h a (by simp)).1 (h a (by simp)).2
    have h2 := ih (fun n hn => h n (by simp [hn]))
    simp only [flat, List.flatMap_cons, List.length_append, List.length_cons] at h2 ⊢
    omega
set_option maxHeartbeats 1000000 in
theorem putNums_any (g cap n : Nat) (L : List Int) (w : World) (hg : g < w.heap.size) (hc : ∀ j (h : j < L.length), w.cell? ⟨g, j, none⟩ = some (.int .i64 L[j])) (hn : L.length = n) (hL : n ≤ 10) (hb : ∀ n ∈ L, N64 n) :
    Calls Try.prog 71 #[.slice (some ⟨g, 0, none⟩) n cap] w fun e w' => e = .returned (.string (strOf (flat L))) ∧ Below w.heap.size w w' := by
  have HC := Lib.hid hc
  have HN := Lib.hid hn
  have hnb := Lib.hid hb
  clear hc hn hb
  go_enter Try.func71, Try.ntmps71
  go_wp2_with fail
  go_loopw [8, 3, 5] (fun x y _ wr => ∃ j : Nat, j ≤ n ∧ x = .int .i64 (j : Int) ∧ y = .string (strOf (flat (L.take j))) ∧ Hid (Below w.heap.size w wr)) (fun x _ _ _ => n - (intOf x).toNat)
  case atStart => exact ⟨0, by omega, rfl, rfl, Lib.hid (Below.refl _ _)⟩
  case round =>
    obtain ⟨j, hj, rfl, rfl, HB⟩ := hrel
    by_cases hlt : j < n
    · have hjl : j < L.length := by rw [HN.out]; exact hlt
      have p0 := (HB.out.cell (p := ⟨g, j, none⟩) hg).trans (HC.out j hjl)
      have hgd : L.getD j 0 = L[j] := by rw [List.getD_eq_getElem?_getD, List.getElem?_eq_getElem hjl]; rfl
      rw [← hgd] at p0
      have hb := hnb.out (L.getD j 0) (by rw [hgd]; exact List.getElem_mem hjl)
      have HP := Lib.hid (fun w => implPutNum_any (L.getD j 0) w hb.1 hb.2)
      have hl1 : (flat (L.take j)).length ≤ 100 := by
        have := flat_len (L.take j) (fun n hn => hnb.out n (List.mem_of_mem_take hn))
        have := List.length_take_le j L
        omega
      have HJ := Lib.hid (fun w => joined_any (strOf (flat (L.take j))) (strOf (putNum (L.getD j 0))) w (by rw [strOf_size, strOf_size]; have := putNum_len _ hb.1 hb.2; omega))
      rw [strOf_list, strOf_list, ← flat_take L j hjl] at HJ
      clear hgd
      generalize L.getD j 0 = m at *
      clear hl1 hb
      have hjj : ((j : Int) < n) := by omega
      go_wp2_with (first | (go_at_call 99; refine (HP.out _).mono ?_; rintro e w3 ⟨rfl, hb3⟩; have HB3 : Hid (Below w.heap.size w w3) := Lib.hid (HB.out.trans (hb3.mono HB.out.size)); clear hb3) | (go_at_call 73; refine (HJ.out _).mono ?_; rintro e w4 ⟨rfl, hb4⟩; have HB4 : Hid (Below w.heap.size w w4) := Lib.hid (HB3.out.trans (hb4.mono HB3.out.size)); clear hb4))
      go_roundw
      case rel => exact ⟨j + 1, by omega, by simp, rfl, HB4⟩
      case measure => simp [intOf]; omega
    · have hj7 : j = n := by omega
      subst hj7
      rw [List.take_of_length_le (by rw [HN.out]; exact Nat.le_refl _)]
      go_wp2_with fail
      go_ret
      exact ⟨rfl, HB.out⟩
end Go.Proofs.Ytfmhccmaeonbhaa

/- RouteBytes, whole: of the model and of the program. -/
namespace Go.Proofs.Ytfmhccmaeonbhaa
open Go.RowKit

set_option maxHeartbeats 1000000 in
theorem specRouteBytes_any (a : Rt) (w : World) : Calls Try.prog 51 #[a.val] w fun e w' => e = .returned (.string a.bytes) ∧ Below w.heap.size w w' := by
  have HA := Lib.hid (specRight_any a)
  cases h : a.right
  · have HR : Hid (a.bytes = ⟨#[]⟩) := Lib.hid (by unfold Rt.bytes; rw [h]; rfl)
    rw [h] at HA
    clear h
    generalize a.bytes = R at *
    unfold Rt.val rtV at *
    go_enter Try.func51, Try.ntmps51
    go_wp2_with (go_at_call 85; refine (HA.out _).mono ?_; rintro e w1 ⟨rfl, hb1⟩; have HB1 : Hid (Below w.heap.size w w1) := Lib.hid (((Below.refl _ _).alloc (Nat.le_refl _) _).trans (hb1.mono (by simp))); clear hb1)
    go_ret
    exact ⟨str_ret HR.out.symm, HB1.out⟩
  · have HB := Lib.hid (specL03Bytes_any a h)
    have HR : Hid (a.bytes = strOf (flat a.nums)) := Lib.hid (by unfold Rt.bytes; rw [h]; rfl)
    rw [h] at HA
    clear h
    generalize strOf (flat a.nums) = R at *
    generalize a.bytes = R2 at *
    unfold Rt.val rtV at *
    go_enter Try.func51, Try.ntmps51
    go_wp2_with fail
    refine (HA.out _).mono ?_
    rintro e w1 ⟨rfl, hb1⟩
    have hc1 : ∀ o, w1.cell? ⟨w.heap.size, o, none⟩ = _ := fun o => hb1.cell (p := ⟨w.heap.size, o, none⟩) (by simp)
    have HB1 : Hid (Below w.heap.size w w1) := Lib.hid (((Below.refl _ _).alloc (Nat.le_refl _) _).trans (hb1.mono (by simp)))
    clear hb1
    go_wp2_with (go_at_call 89; refine (HB.out _).mono ?_; rintro e w2 ⟨rfl, hb2⟩; have HB2 : Hid (Below w.heap.size w w2) := Lib.hid (HB1.out.trans (hb2.mono HB1.out.size)); clear hb2)
    go_ret
    exact ⟨str_ret HR.out.symm, HB2.out⟩

def numsV (a b c d e f g : Int) : Value := .agg #[.int .i64 a, .int .i64 b, .int .i64 c, .int .i64 d, .int .i64 e, .int .i64 f, .int .i64 g]
set_option maxHeartbeats 1000000 in
theorem numsOf_any (a : Rt) (w : World) : Calls Try.prog 90 #[a.val] w fun e w' => e = .returned (numsV a.kind a.vni a.mac a.ip a.org a.seq (stI a.st)) ∧ Below w.heap.size w w' := by
  obtain ⟨k, v, m, i, o, s, t⟩ := a
  unfold Rt.val rtV
  dsimp only
  cases t
  · go_enter Try.func90, Try.ntmps90
    go_wp2
    refine bodyPost_ret (v := numsV k v m i o s (stI false)) (by simp [results, Try.results90, go_sem, numsV, stI]) rfl ⟨rfl, ?_⟩
    go_grown
  · go_enter Try.func90, Try.ntmps90
    go_wp2
    refine bodyPost_ret (v := numsV k v m i o s (stI true)) (by simp [results, Try.results90, go_sem, numsV, stI]) rfl ⟨rfl, ?_⟩
    go_grown
theorem nums_cells (a : Rt) (W : World) (q : Nat) (t : TypeId) (X : Blk W q t #[.int .i64 a.kind, .int .i64 a.vni, .int .i64 a.mac, .int .i64 a.ip, .int .i64 a.org, .int .i64 a.seq, .int .i64 (stI a.st)]) : ∀ j (h : j < a.nums.length), W.cell? ⟨q, j, none⟩ = some (.int .i64 a.nums[j]) := by
  intro j h
  rw [X.cell]
  have hj : j < 7 := h
  have hc : j = 0 ∨ j = 1 ∨ j = 2 ∨ j = 3 ∨ j = 4 ∨ j = 5 ∨ j = 6 := by omega
  rcases hc with rfl | rfl | rfl | rfl | rfl | rfl | rfl <;> rfl
theorem nums_b {r : Rt} (h : r.right = true) : ∀ n ∈ r.nums, N64 n := by
  obtain ⟨⟨b0, b1, b2⟩, b3, b4, b5⟩ := right_b h
  have b6 := stI_b r.st
  intro n hn
  simp only [Rt.nums, List.mem_cons, List.not_mem_nil, or_false] at hn
  rcases hn with rfl | rfl | rfl | rfl | rfl | rfl | rfl <;> assumption
set_option maxHeartbeats 2000000 in
theorem implRouteBytes_any (a : Rt) (w : World) : Calls Try.prog 53 #[a.val] w fun e w' => e = .returned (.string a.bytes) ∧ Below w.heap.size w w' := by
  have HA := Lib.hid (implRight_any a)
  cases h : a.right
  · have HR : Hid (a.bytes = ⟨#[]⟩) := Lib.hid (by unfold Rt.bytes; rw [h]; rfl)
    rw [h] at HA
    clear h
    generalize a.bytes = R at *
    unfold Rt.val rtV at *
    go_enter Try.func53, Try.ntmps53
    go_wp2_with (go_at_call 87; refine (HA.out _).mono ?_; rintro e w1 ⟨rfl, hb1⟩; have HB1 : Hid (Below w.heap.size w w1) := Lib.hid (((Below.refl _ _).alloc (Nat.le_refl _) _).trans (hb1.mono (by simp))); clear hb1)
    go_ret
    exact ⟨str_ret HR.out.symm, HB1.out⟩
  · have HN := Lib.hid (numsOf_any a)
    have HR : Hid (a.bytes = strOf (flat a.nums)) := Lib.hid (by unfold Rt.bytes; rw [h]; rfl)
    have hnb := nums_b h
    have HP := Lib.hid (fun (g cap : Nat) (W' : World) (hg : g < W'.heap.size) (hc : ∀ j (h : j < a.nums.length), W'.cell? ⟨g, j, none⟩ = some (.int .i64 a.nums[j])) => putNums_any g cap 7 a.nums W' hg hc rfl (by omega) hnb)
    have HL := Lib.hid (nums_cells a)
    rw [h] at HA
    clear h hnb
    generalize a.bytes = R2 at *
    generalize a.nums = L at *
    obtain ⟨k, v, m, i, o, s, t⟩ := a
    unfold Rt.val rtV numsV at *
    dsimp only at *
    generalize stI t = u at *
    go_enter Try.func53, Try.ntmps53
    go_wp2_with fail
    refine (HA.out _).mono ?_
    rintro e w1 ⟨rfl, hb1⟩
    have hc1 : ∀ o, w1.cell? ⟨w.heap.size, o, none⟩ = _ := fun o => hb1.cell (p := ⟨w.heap.size, o, none⟩) (by simp)
    have HB1 : Hid (Below w.heap.size w w1) := Lib.hid (((Below.refl _ _).alloc (Nat.le_refl _) _).trans (hb1.mono (by simp)))
    clear hb1
    go_wp2_with fail
    refine (HN.out _).mono ?_
    rintro e w2 ⟨rfl, hb2⟩
    have HB2 : Hid (Below w.heap.size w w2) := Lib.hid (HB1.out.trans (hb2.mono HB1.out.size))
    clear hb2 hc1
    go_upto_region 4 with fail
    obtain ⟨W3, hW3⟩ : ∃ W, W = w2.alloc (.cells #[.int .i64 k, .int .i64 v, .int .i64 m, .int .i64 i, .int .i64 o, .int .i64 s, .int .i64 u] 98) := ⟨_, rfl⟩
    obtain ⟨q, hq⟩ : ∃ q, q = w2.heap.size := ⟨_, rfl⟩
    rw [← hW3, ← hq]
    have X : Blk W3 q 98 #[.int .i64 k, .int .i64 v, .int .i64 m, .int .i64 i, .int .i64 o, .int .i64 s, .int .i64 u] := by subst hW3 hq; exact Blk.new _ _ _
    have HB3 : Hid (Below w.heap.size w W3) := Lib.hid (by subst hW3; exact HB2.out.alloc HB2.out.size _)
    have HX := Lib.hid (HL.out W3 q _ X)
    have hlt := X.lt
    clear hW3 hq X HL
    go_wp2_with fail
    refine (HP.out q 7 _ hlt HX.out).mono ?_
    rintro e w4 ⟨rfl, hb4⟩
    have HB4 : Hid (Below w.heap.size w w4) := Lib.hid (HB3.out.trans (hb4.mono HB3.out.size))
    clear hb4 HX
    go_wp2_with fail
    go_ret
    exact ⟨str_ret HR.out.symm, HB4.out⟩
end Go.Proofs.Ytfmhccmaeonbhaa
