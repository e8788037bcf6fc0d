/- PacketBytes, of the model and of the program. -/
import Derived.Test.YtfmhccmaeonbhaaPk
import Derived.Test.YtfmhccmaeonbhaaSeal
import Derived.Test.YtfmhccmaeonbhaaB7
import Derived.Deep.CutRange
namespace Go.Proofs.Ytfmhccmaeonbhaa
open Go.RowKit

theorem belA (w : World) (o : Obj) : Below w.heap.size w (w.alloc o) := (Below.refl _ _).alloc (Nat.le_refl _) _
def pkBody (e c n a : Int) (t : ByteArray) : ByteArray := strOf (flat [e, c, n, a] ++ (putText t).data.toList)
def pkBytes (e c n a : Int) (t : ByteArray) : ByteArray := if pkRight e c n a t = true then sealS (pkBody e c n a t) else ⟨#[]⟩
theorem pkRight_b {e c n a : Int} {t : ByteArray} (h : pkRight e c n a t = true) : (N64 e ∧ N64 c ∧ N64 n ∧ N64 a) ∧ t.size ≤ 60 := by
  unfold pkRight isEpoch isTime inR at h
  simp only [Bool.and_eq_true, decide_eq_true_eq] at h
  obtain ⟨⟨h1, h2⟩, ⟨h3, h4⟩, ⟨h5, h6⟩, ⟨h7, h8⟩, h9, _⟩ := h
  exact ⟨⟨⟨by omega, by omega⟩, ⟨by omega, by omega⟩, ⟨by omega, by omega⟩, ⟨by omega, by omega⟩⟩, h9⟩
theorem putText_small60 {t : ByteArray} (h : t.size ≤ 60) : (putText t).size ≤ 70 := by
  rw [putText_small t (by omega), strOf_size, List.length_append, ← size_list]
  have := putNum_len (t.size : Int) (by omega) (by omega)
  omega
theorem flat_four (a b c d : Int) : flat [a, b, c, d] = putNum a ++ (putNum b ++ (putNum c ++ putNum d)) := by simp [flat]
def PkAt (w W : World) (B : Nat) (cs : Array Value) : Prop := (∀ o, W.cell? ⟨B, o, none⟩ = cs[o]?) ∧ B < W.heap.size ∧ Below w.heap.size w W
theorem PkAt.keep {w W W' : World} {B : Nat} {cs : Array Value} (h : PkAt w W B cs) (hb : Below W.heap.size W W') : PkAt w W' B cs :=
  ⟨fun o => (hb.cell (p := ⟨B, o, none⟩) h.2.1).trans (h.1 o), Nat.lt_of_lt_of_le h.2.1 hb.size, h.2.2.trans (hb.mono h.2.2.size)⟩
set_option maxHeartbeats 2000000 in
theorem specPacketBytes_any (e c n a : Int) (t : ByteArray) (w : World) (ht : t.size ≤ maxLen) : Calls Try.prog 31 #[pkV e c n a t] w fun x w' => x = .returned (.string (pkBytes e c n a t)) ∧ Below w.heap.size w w' := by
  have HA := Lib.hid (specPacketRight_any e c n a t)
  cases h : pkRight e c n a t
  · have HR : Hid (pkBytes e c n a t = ⟨#[]⟩) := Lib.hid (by unfold pkBytes; rw [h]; rfl)
    rw [h] at HA
    clear h
    generalize pkBytes e c n a t = R at *
    unfold pkV at *
    go_enter Try.func31, Try.ntmps31
    go_wp2_with (go_at_call 15; refine (HA.out _).mono ?_; rintro e w1 ⟨rfl, hb1⟩; have HB1 : Hid (Below w.heap.size w w1) := Lib.hid (((Below.refl _ _).alloc (Nat.le_refl _) _).trans (hb1.mono (by simp))); clear hb1)
    go_ret
    exact ⟨str_ret HR.out.symm, HB1.out⟩
  · obtain ⟨⟨b0, b1, b2, b3⟩, hts⟩ := pkRight_b h
    have P0 := fun w => specPutNum_any e w b0.1 b0.2
    have P1 := fun w => specPutNum_any c w b1.1 b1.2
    have P2 := fun w => specPutNum_any n w b2.1 b2.2
    have P3 := fun w => specPutNum_any a w b3.1 b3.2
    have P4 := fun w => specPutText_any t w ht
    have z0 := put_small b0
    have z1 := put_small b1
    have z2 := put_small b2
    have z3 := put_small b3
    have z4 := putText_small60 hts
    have HR : Hid (pkBytes e c n a t = sealS (strOf (putNum e) ++ strOf (putNum c) ++ strOf (putNum n) ++ strOf (putNum a) ++ putText t)) := Lib.hid (by
      unfold pkBytes pkBody
      rw [h, if_pos rfl, flat_four, app_strs, app_strs, app_strs, app_strOf, strOf_list]
      simp only [List.append_assoc])
    rw [h] at HA
    clear h b0 b1 b2 b3 hts
    generalize pkBytes e c n a t = R at *
    generalize strOf (putNum e) = q0 at *
    generalize strOf (putNum c) = q1 at *
    generalize strOf (putNum n) = q2 at *
    generalize strOf (putNum a) = q3 at *
    generalize putText t = q4 at *
    have hcat : (q0 ++ q1 ++ q2 ++ q3 ++ q4).size = q0.size + q1.size + q2.size + q3.size + q4.size := by simp only [ByteArray.size_append]
    have P5 := fun w => specSeal_any (q0 ++ q1 ++ q2 ++ q3 ++ q4) w (by unfold maxLen; omega)
    generalize sealS (q0 ++ q1 ++ q2 ++ q3 ++ q4) = RS at *
    have c1 : ¬ 9223372036854775807 < q0.size + q1.size := by omega
    have c2 : ¬ 9223372036854775807 < q0.size + q1.size + q2.size := by omega
    have c3 : ¬ 9223372036854775807 < q0.size + q1.size + q2.size + q3.size := by omega
    have c4 : ¬ 9223372036854775807 < q0.size + q1.size + q2.size + q3.size + q4.size := by omega
    clear z0 z1 z2 z3 z4 hcat
    replace P0 := Lib.hid P0
    replace P1 := Lib.hid P1
    replace P2 := Lib.hid P2
    replace P3 := Lib.hid P3
    replace P4 := Lib.hid P4
    replace P5 := Lib.hid P5
    unfold pkV at *
    go_enter Try.func31, Try.ntmps31
    go_wp2_with fail
    refine (HA.out _).mono ?_
    rintro x w1 ⟨rfl, hb1⟩
    have S0 : PkAt w w1.drew w.heap.size #[.int .i64 e, .int .i64 c, .int .i64 n, .int .i64 a, .string t] := by
      have X := (Blk.new w 26 #[.int .i64 e, .int .i64 c, .int .i64 n, .int .i64 a, .string t]).kept hb1
      exact ⟨X.cell, X.lt, ((belA _ _).trans (hb1.mono (by simp))).drew⟩
    clear hb1
    go_wp2_with fail
    refine wp_region_held_drew (S := fun W' => PkAt w W' w.heap.size #[.int .i64 e, .int .i64 c, .int .i64 n, .int .i64 a, .string t]) (by kernel_rfl) S0 (fun hHeld => ?_)
    clear hHeld
    refine wpAnyH_take (i := 0) (oi := { dst := some 6, op := Op.fieldAddr 26 (Operand.tmp 1) 0, type := 0, pos := "l05_pipe.go:15", after := #[], guard := none }) (v := ?vvf1) rfl (by kernel_rfl) (by kernel_rfl) (by kernel_rfl) (fun _ _ _ h => h) (Or.inl ⟨by rfl, ?hyf1⟩) S0 ?restf1
    case hyf1 => (intro w hSw; obtain ⟨hS0, hS1, hS2⟩ := hSw;go_simp <;> with_reducible rfl)
    try simp only [Act.put, List.setIfInBounds_toArray, List.set_cons_zero, List.set_cons_succ]
    refine wpAnyH_take (i := 1) (oi := { dst := some 7, op := Op.load 2 (Operand.tmp 6), type := 2, pos := "l05_pipe.go:15", after := #[{ on := 0, ground := Ground.data }], guard := none }) (v := ?vvf2) rfl (by kernel_rfl) (by kernel_rfl) (by kernel_rfl) (fun _ _ _ h => h) (Or.inl ⟨by rfl, ?hyf2⟩) S0 ?restf2
    case hyf2 => (intro w hSw; obtain ⟨hS0, hS1, hS2⟩ := hSw;go_simp <;> with_reducible rfl)
    try simp only [Act.put, List.setIfInBounds_toArray, List.set_cons_zero, List.set_cons_succ]
    refine wpAnyH_take (i := 3) (oi := { dst := some 9, op := Op.fieldAddr 26 (Operand.tmp 1) 1, type := 0, pos := "l05_pipe.go:15", after := #[], guard := none }) (v := ?vvf3) rfl (by kernel_rfl) (by kernel_rfl) (by kernel_rfl) (fun _ _ _ h => h) (Or.inl ⟨by rfl, ?hyf3⟩) S0 ?restf3
    case hyf3 => (intro w hSw; obtain ⟨hS0, hS1, hS2⟩ := hSw;go_simp <;> with_reducible rfl)
    try simp only [Act.put, List.setIfInBounds_toArray, List.set_cons_zero, List.set_cons_succ]
    refine wpAnyH_take (i := 4) (oi := { dst := some 10, op := Op.load 2 (Operand.tmp 9), type := 2, pos := "l05_pipe.go:15", after := #[{ on := 3, ground := Ground.data }], guard := none }) (v := ?vvf4) rfl (by kernel_rfl) (by kernel_rfl) (by kernel_rfl) (fun _ _ _ h => h) (Or.inl ⟨by rfl, ?hyf4⟩) S0 ?restf4
    case hyf4 => (intro w hSw; obtain ⟨hS0, hS1, hS2⟩ := hSw;go_simp <;> with_reducible rfl)
    try simp only [Act.put, List.setIfInBounds_toArray, List.set_cons_zero, List.set_cons_succ]
    refine wpAnyH_take (i := 7) (oi := { dst := some 13, op := Op.fieldAddr 26 (Operand.tmp 1) 2, type := 0, pos := "l05_pipe.go:15", after := #[], guard := none }) (v := ?vvf5) rfl (by kernel_rfl) (by kernel_rfl) (by kernel_rfl) (fun _ _ _ h => h) (Or.inl ⟨by rfl, ?hyf5⟩) S0 ?restf5
    case hyf5 => (intro w hSw; obtain ⟨hS0, hS1, hS2⟩ := hSw;go_simp <;> with_reducible rfl)
    try simp only [Act.put, List.setIfInBounds_toArray, List.set_cons_zero, List.set_cons_succ]
    refine wpAnyH_take (i := 8) (oi := { dst := some 14, op := Op.load 2 (Operand.tmp 13), type := 2, pos := "l05_pipe.go:15", after := #[{ on := 7, ground := Ground.data }], guard := none }) (v := ?vvf6) rfl (by kernel_rfl) (by kernel_rfl) (by kernel_rfl) (fun _ _ _ h => h) (Or.inl ⟨by rfl, ?hyf6⟩) S0 ?restf6
    case hyf6 => (intro w hSw; obtain ⟨hS0, hS1, hS2⟩ := hSw;go_simp <;> with_reducible rfl)
    try simp only [Act.put, List.setIfInBounds_toArray, List.set_cons_zero, List.set_cons_succ]
    refine wpAnyH_take (i := 11) (oi := { dst := some 17, op := Op.fieldAddr 26 (Operand.tmp 1) 3, type := 0, pos := "l05_pipe.go:15", after := #[], guard := none }) (v := ?vvf7) rfl (by kernel_rfl) (by kernel_rfl) (by kernel_rfl) (fun _ _ _ h => h) (Or.inl ⟨by rfl, ?hyf7⟩) S0 ?restf7
    case hyf7 => (intro w hSw; obtain ⟨hS0, hS1, hS2⟩ := hSw;go_simp <;> with_reducible rfl)
    try simp only [Act.put, List.setIfInBounds_toArray, List.set_cons_zero, List.set_cons_succ]
    refine wpAnyH_take (i := 12) (oi := { dst := some 18, op := Op.load 2 (Operand.tmp 17), type := 2, pos := "l05_pipe.go:15", after := #[{ on := 11, ground := Ground.data }], guard := none }) (v := ?vvf8) rfl (by kernel_rfl) (by kernel_rfl) (by kernel_rfl) (fun _ _ _ h => h) (Or.inl ⟨by rfl, ?hyf8⟩) S0 ?restf8
    case hyf8 => (intro w hSw; obtain ⟨hS0, hS1, hS2⟩ := hSw;go_simp <;> with_reducible rfl)
    try simp only [Act.put, List.setIfInBounds_toArray, List.set_cons_zero, List.set_cons_succ]
    refine wpAnyH_take (i := 15) (oi := { dst := some 21, op := Op.fieldAddr 26 (Operand.tmp 1) 4, type := 0, pos := "l05_pipe.go:15", after := #[], guard := none }) (v := ?vvf9) rfl (by kernel_rfl) (by kernel_rfl) (by kernel_rfl) (fun _ _ _ h => h) (Or.inl ⟨by rfl, ?hyf9⟩) S0 ?restf9
    case hyf9 => (intro w hSw; obtain ⟨hS0, hS1, hS2⟩ := hSw;go_simp <;> with_reducible rfl)
    try simp only [Act.put, List.setIfInBounds_toArray, List.set_cons_zero, List.set_cons_succ]
    refine wpAnyH_take (i := 16) (oi := { dst := some 22, op := Op.load 9 (Operand.tmp 21), type := 9, pos := "l05_pipe.go:15", after := #[{ on := 15, ground := Ground.data }], guard := none }) (v := ?vvf10) rfl (by kernel_rfl) (by kernel_rfl) (by kernel_rfl) (fun _ _ _ h => h) (Or.inl ⟨by rfl, ?hyf10⟩) S0 ?restf10
    case hyf10 => (intro w hSw; obtain ⟨hS0, hS1, hS2⟩ := hSw;go_simp <;> with_reducible rfl)
    try simp only [Act.put, List.setIfInBounds_toArray, List.set_cons_zero, List.set_cons_succ]
    refine wpAnyH_ready (rs := [2]) (by kernel_rfl) (by simp) ?_
    refine AllReadyH.cons (o := { dst := some 8, op := Op.call { callee := Callee.value (Operand.func 69), args := #[Operand.tmp 7], argTypes := #[2] }, type := 9, pos := "l05_pipe.go:15", after := #[{ on := 1, ground := Ground.data }], guard := none }) rfl (fun K hK => ?_) AllReadyH.nil
    go_simp
    refine (P0.out _).mono ?_
    rintro e w1 ⟨rfl, hb1⟩
    replace S0 := S0.keep hb1
    clear hb1
    refine hK.out _ _ S0 (fun hHeld => ?_)
    clear hK K hHeld
    try simp only [Act.put, List.setIfInBounds_toArray, List.set_cons_zero, List.set_cons_succ]
    refine wpAnyH_ready (rs := [5]) (by kernel_rfl) (by simp) ?_
    refine AllReadyH.cons (o := { dst := some 11, op := Op.call { callee := Callee.value (Operand.func 69), args := #[Operand.tmp 10], argTypes := #[2] }, type := 9, pos := "l05_pipe.go:15", after := #[{ on := 4, ground := Ground.data }, { on := 2, ground := Ground.chain }], guard := none }) rfl (fun K hK => ?_) AllReadyH.nil
    go_simp
    refine (P1.out _).mono ?_
    rintro e w1 ⟨rfl, hb1⟩
    replace S0 := S0.keep hb1
    clear hb1
    refine hK.out _ _ S0 (fun hHeld => ?_)
    clear hK K hHeld
    try simp only [Act.put, List.setIfInBounds_toArray, List.set_cons_zero, List.set_cons_succ]
    refine wpAnyH_take (i := 6) (oi := { dst := some 12, op := Op.binOp BinOp.add 9 (Operand.tmp 8) (Operand.tmp 11) 9, type := 9, pos := "l05_pipe.go:15", after := #[{ on := 2, ground := Ground.data }, { on := 5, ground := Ground.data }], guard := none }) (v := ?vvf11) rfl (by kernel_rfl) (by kernel_rfl) (by kernel_rfl) (fun _ _ _ h => h) (Or.inl ⟨by rfl, ?hyf11⟩) S0 ?restf11
    case hyf11 => (intro w hSw; obtain ⟨hS0, hS1, hS2⟩ := hSw;go_simp <;> with_reducible rfl)
    try simp only [Act.put, List.setIfInBounds_toArray, List.set_cons_zero, List.set_cons_succ]
    refine wpAnyH_ready (rs := [9]) (by kernel_rfl) (by simp) ?_
    refine AllReadyH.cons (o := { dst := some 15, op := Op.call { callee := Callee.value (Operand.func 69), args := #[Operand.tmp 14], argTypes := #[2] }, type := 9, pos := "l05_pipe.go:15", after := #[{ on := 8, ground := Ground.data }, { on := 5, ground := Ground.chain }], guard := none }) rfl (fun K hK => ?_) AllReadyH.nil
    go_simp
    refine (P2.out _).mono ?_
    rintro e w1 ⟨rfl, hb1⟩
    replace S0 := S0.keep hb1
    clear hb1
    refine hK.out _ _ S0 (fun hHeld => ?_)
    clear hK K hHeld
    try simp only [Act.put, List.setIfInBounds_toArray, List.set_cons_zero, List.set_cons_succ]
    refine wpAnyH_take (i := 10) (oi := { dst := some 16, op := Op.binOp BinOp.add 9 (Operand.tmp 12) (Operand.tmp 15) 9, type := 9, pos := "l05_pipe.go:15", after := #[{ on := 6, ground := Ground.data }, { on := 9, ground := Ground.data }], guard := none }) (v := ?vvf12) rfl (by kernel_rfl) (by kernel_rfl) (by kernel_rfl) (fun _ _ _ h => h) (Or.inl ⟨by rfl, ?hyf12⟩) S0 ?restf12
    case hyf12 => (intro w hSw; obtain ⟨hS0, hS1, hS2⟩ := hSw;go_simp <;> with_reducible rfl)
    try simp only [Act.put, List.setIfInBounds_toArray, List.set_cons_zero, List.set_cons_succ]
    refine wpAnyH_ready (rs := [13]) (by kernel_rfl) (by simp) ?_
    refine AllReadyH.cons (o := { dst := some 19, op := Op.call { callee := Callee.value (Operand.func 69), args := #[Operand.tmp 18], argTypes := #[2] }, type := 9, pos := "l05_pipe.go:15", after := #[{ on := 12, ground := Ground.data }, { on := 9, ground := Ground.chain }], guard := none }) rfl (fun K hK => ?_) AllReadyH.nil
    go_simp
    refine (P3.out _).mono ?_
    rintro e w1 ⟨rfl, hb1⟩
    replace S0 := S0.keep hb1
    clear hb1
    refine hK.out _ _ S0 (fun hHeld => ?_)
    clear hK K hHeld
    try simp only [Act.put, List.setIfInBounds_toArray, List.set_cons_zero, List.set_cons_succ]
    refine wpAnyH_take (i := 14) (oi := { dst := some 20, op := Op.binOp BinOp.add 9 (Operand.tmp 16) (Operand.tmp 19) 9, type := 9, pos := "l05_pipe.go:15", after := #[{ on := 10, ground := Ground.data }, { on := 13, ground := Ground.data }], guard := none }) (v := ?vvf13) rfl (by kernel_rfl) (by kernel_rfl) (by kernel_rfl) (fun _ _ _ h => h) (Or.inl ⟨by rfl, ?hyf13⟩) S0 ?restf13
    case hyf13 => (intro w hSw; obtain ⟨hS0, hS1, hS2⟩ := hSw;go_simp <;> with_reducible rfl)
    try simp only [Act.put, List.setIfInBounds_toArray, List.set_cons_zero, List.set_cons_succ]
    refine wpAnyH_ready (rs := [17]) (by kernel_rfl) (by simp) ?_
    refine AllReadyH.cons (o := { dst := some 23, op := Op.call { callee := Callee.value (Operand.func 70), args := #[Operand.tmp 22], argTypes := #[9] }, type := 9, pos := "l05_pipe.go:15", after := #[{ on := 16, ground := Ground.data }, { on := 13, ground := Ground.chain }], guard := none }) rfl (fun K hK => ?_) AllReadyH.nil
    go_simp
    refine (P4.out _).mono ?_
    rintro e w1 ⟨rfl, hb1⟩
    replace S0 := S0.keep hb1
    clear hb1
    refine hK.out _ _ S0 (fun hHeld => ?_)
    clear hK K hHeld
    try simp only [Act.put, List.setIfInBounds_toArray, List.set_cons_zero, List.set_cons_succ]
    refine wpAnyH_take (i := 18) (oi := { dst := some 24, op := Op.binOp BinOp.add 9 (Operand.tmp 20) (Operand.tmp 23) 9, type := 9, pos := "l05_pipe.go:15", after := #[{ on := 14, ground := Ground.data }, { on := 17, ground := Ground.data }], guard := none }) (v := ?vvf14) rfl (by kernel_rfl) (by kernel_rfl) (by kernel_rfl) (fun _ _ _ h => h) (Or.inl ⟨by rfl, ?hyf14⟩) S0 ?restf14
    case hyf14 => (intro w hSw; obtain ⟨hS0, hS1, hS2⟩ := hSw;go_simp <;> with_reducible rfl)
    try simp only [Act.put, List.setIfInBounds_toArray, List.set_cons_zero, List.set_cons_succ]
    refine wpAnyH_ready (rs := [19]) (by kernel_rfl) (by simp) ?_
    refine AllReadyH.cons (o := { dst := some 25, op := Op.call { callee := Callee.value (Operand.func 68), args := #[Operand.tmp 24], argTypes := #[9] }, type := 9, pos := "l05_pipe.go:15", after := #[{ on := 18, ground := Ground.data }, { on := 17, ground := Ground.chain }], guard := none }) rfl (fun K hK => ?_) AllReadyH.nil
    go_simp
    refine (P5.out _).mono ?_
    rintro e w1 ⟨rfl, hb1⟩
    replace S0 := S0.keep hb1
    clear hb1
    refine hK.out _ _ S0 (fun hHeld => ?_)
    clear hK K hHeld
    try simp only [Act.put, List.setIfInBounds_toArray, List.set_cons_zero, List.set_cons_succ]
    refine wpAnyH_take (i := 20) (oi := { dst := some 2, op := Op.assign (Operand.tmp 25), type := 9, pos := "l05_pipe.go:15", after := #[{ on := 19, ground := Ground.data }, { on := 19, ground := Ground.chain }, { on := 0, ground := Ground.phase }, { on := 1, ground := Ground.phase }, { on := 2, ground := Ground.phase }, { on := 3, ground := Ground.phase }, { on := 4, ground := Ground.phase }, { on := 5, ground := Ground.phase }, { on := 6, ground := Ground.phase }, { on := 7, ground := Ground.phase }, { on := 8, ground := Ground.phase }, { on := 9, ground := Ground.phase }, { on := 10, ground := Ground.phase }, { on := 11, ground := Ground.phase }, { on := 12, ground := Ground.phase }, { on := 13, ground := Ground.phase }, { on := 14, ground := Ground.phase }, { on := 15, ground := Ground.phase }, { on := 16, ground := Ground.phase }, { on := 17, ground := Ground.phase }, { on := 18, ground := Ground.phase }, { on := 19, ground := Ground.phase }], guard := none }) (v := ?vvf15) rfl (by kernel_rfl) (by kernel_rfl) (by kernel_rfl) (fun _ _ _ h => h) (Or.inl ⟨by rfl, ?hyf15⟩) S0 ?restf15
    case hyf15 => (intro w hSw; obtain ⟨hS0, hS1, hS2⟩ := hSw;go_simp <;> with_reducible rfl)
    try simp only [Act.put, List.setIfInBounds_toArray, List.set_cons_zero, List.set_cons_succ]
    refine wpAnyH_done (by kernel_rfl) ?_ _
    go_wp2_with fail
    go_ret
    exact ⟨str_ret HR.out.symm, S0.2.2⟩
set_option maxHeartbeats 2000000 in
theorem implPacketBytes_any (e c n a : Int) (t : ByteArray) (w : World) (ht : t.size ≤ maxLen) : Calls Try.prog 32 #[pkV e c n a t] w fun x w' => x = .returned (.string (pkBytes e c n a t)) ∧ Below w.heap.size w w' := by
  have HA := Lib.hid (implPacketRight_any e c n a t)
  cases h : pkRight e c n a t
  · have HR : Hid (pkBytes e c n a t = ⟨#[]⟩) := Lib.hid (by unfold pkBytes; rw [h]; rfl)
    rw [h] at HA
    clear h
    generalize pkBytes e c n a t = R at *
    unfold pkV at *
    go_enter Try.func32, Try.ntmps32
    go_wp2_with (go_at_call 17; refine (HA.out _).mono ?_; rintro e w1 ⟨rfl, hb1⟩; have HB1 : Hid (Below w.heap.size w w1) := Lib.hid (((Below.refl _ _).alloc (Nat.le_refl _) _).trans (hb1.mono (by simp))); clear hb1)
    go_ret
    exact ⟨str_ret HR.out.symm, HB1.out⟩
  · obtain ⟨⟨b0, b1, b2, b3⟩, hts⟩ := pkRight_b h
    have hnb : ∀ m ∈ [e, c, n, a], N64 m := by
      intro m hm
      simp only [List.mem_cons, List.not_mem_nil, or_false] at hm
      rcases hm with rfl | rfl | rfl | rfl <;> assumption
    have HN := Lib.hid (fun (g : Nat) (W' : World) (X : Blk W' g 2 #[.int .i64 e, .int .i64 c, .int .i64 n, .int .i64 a]) => putNums_any g 4 4 [e, c, n, a] W' X.lt (fun j hj => by
      rw [X.cell]
      have hj4 : j < 4 := hj
      have hc : j = 0 ∨ j = 1 ∨ j = 2 ∨ j = 3 := by omega
      rcases hc with rfl | rfl | rfl | rfl <;> rfl) rfl (by omega) hnb)
    have z0 := flat_len [e, c, n, a] hnb
    have z4 := putText_small60 hts
    have HT := Lib.hid (fun w => implPutText_any t w ht)
    have HR : Hid (pkBytes e c n a t = sealS (strOf ((strOf (flat [e, c, n, a])).data.toList ++ (putText t).data.toList))) := Lib.hid (by
      unfold pkBytes pkBody
      rw [h, if_pos rfl, strOf_list])
    rw [h] at HA
    clear h b0 b1 b2 b3 hts hnb
    have zz : (strOf (flat [e, c, n, a])).size ≤ 40 := by rw [strOf_size]; exact z0
    generalize pkBytes e c n a t = R at *
    generalize strOf (flat [e, c, n, a]) = q0 at *
    generalize putText t = q1 at *
    have HJ := Lib.hid (fun w => joined_any q0 q1 w (by omega))
    have HS := Lib.hid (fun w => implSeal_any (strOf (q0.data.toList ++ q1.data.toList)) w (by rw [strOf_size, List.length_append, ← size_list, ← size_list]; unfold maxLen; omega))
    generalize strOf (q0.data.toList ++ q1.data.toList) = q2 at *
    generalize sealS q2 = RS at *
    clear z0 z4 zz
    unfold pkV at *
    go_enter Try.func32, Try.ntmps32
    go_wp2_with fail
    refine (HA.out _).mono ?_
    rintro x w1 ⟨rfl, hb1⟩
    have X := (Blk.new w 26 #[.int .i64 e, .int .i64 c, .int .i64 n, .int .i64 a, .string t]).kept hb1
    have HB : Hid (Below w.heap.size w w1) := Lib.hid ((belA _ _).trans (hb1.mono (by simp)))
    clear hb1
    have hc := X.cell
    go_wp2_with fail
    have Y := Blk.new w1 2 #[.int .i64 e, .int .i64 c, .int .i64 n, .int .i64 a]
    refine (HN.out _ _ Y).mono ?_
    rintro x w2 ⟨rfl, hb2⟩
    replace X := (X.alloc _).kept hb2
    replace HB : Hid (Below w.heap.size w w2) := Lib.hid ((HB.out.alloc HB.out.size _).trans (hb2.mono (by have := HB.out.size; simp; omega)))
    clear hb2 hc Y
    have hc := X.cell
    go_wp2_with fail
    refine (HT.out _).mono ?_
    rintro x w3 ⟨rfl, hb3⟩
    replace HB : Hid (Below w.heap.size w w3) := Lib.hid (HB.out.trans (hb3.mono HB.out.size))
    clear hb3 hc X
    go_wp2_with fail
    refine (HJ.out _).mono ?_
    rintro x w4 ⟨rfl, hb4⟩
    replace HB : Hid (Below w.heap.size w w4) := Lib.hid (HB.out.trans (hb4.mono HB.out.size))
    clear hb4
    go_wp2_with fail
    refine (HS.out _).mono ?_
    rintro x w5 ⟨rfl, hb5⟩
    replace HB : Hid (Below w.heap.size w w5) := Lib.hid (HB.out.trans (hb5.mono HB.out.size))
    clear hb5
    go_wp2_with fail
    go_ret
    exact ⟨str_ret HR.out.symm, HB.out⟩
end Go.Proofs.Ytfmhccmaeonbhaa
