/- Notes: NoteBytes of the program. -/
import Derived.Test.YtfmhccmaeonbhaaNtB
import Derived.Test.YtfmhccmaeonbhaaB1
namespace Go.Proofs.Ytfmhccmaeonbhaa
open Go.RowKit

theorem ta_putting_putting (v : Value) (w : World) : (Instr.typeAssert (.iface 114 v) 103 114 true).run Try.prog w = .ok (.tuple #[v, .bool true]) w := by kernel_rfl
theorem ta_taking_putting (v : Value) (w : World) : (Instr.typeAssert (.iface 116 v) 103 114 true).run Try.prog w = .ok (.tuple #[.agg #[.int .i64 0, .int .i64 0, .int .i64 0, .int .i64 0, .int .i64 0, .int .i64 0, .bool false], .bool false]) w := by kernel_rfl
theorem ta_taking_taking (v : Value) (w : World) : (Instr.typeAssert (.iface 116 v) 103 116 true).run Try.prog w = .ok (.tuple #[v, .bool true]) w := by kernel_rfl
theorem ta_ending_putting (v : Value) (w : World) : (Instr.typeAssert (.iface 118 v) 103 114 true).run Try.prog w = .ok (.tuple #[.agg #[.int .i64 0, .int .i64 0, .int .i64 0, .int .i64 0, .int .i64 0, .int .i64 0, .bool false], .bool false]) w := by kernel_rfl
theorem ta_ending_taking (v : Value) (w : World) : (Instr.typeAssert (.iface 118 v) 103 116 true).run Try.prog w = .ok (.tuple #[.agg #[.int .i64 0, .int .i64 0, .int .i64 0, .int .i64 0, .int .i64 0, .int .i64 0, .bool false], .bool false]) w := by kernel_rfl
theorem ta_ending_ending (v : Value) (w : World) : (Instr.typeAssert (.iface 118 v) 103 118 true).run Try.prog w = .ok (.tuple #[v, .bool true]) w := by kernel_rfl
structure MsAt (w W : World) (B : Nat) (t : TypeId) (r : Rt) : Prop where
  blk : Blk W B t #[.int .i64 r.kind, .int .i64 r.vni, .int .i64 r.mac, .int .i64 r.ip, .int .i64 r.org, .int .i64 r.seq, .bool r.st]
  low : Below w.heap.size w W
theorem MsAt.kept {w W W' : World} {B : Nat} {t : TypeId} {r : Rt} (h : MsAt w W B t r) (hb : Below W.heap.size W W') : MsAt w W' B t r := ⟨h.blk.kept hb, h.low.trans (hb.mono h.low.size)⟩
theorem joined_two (K : Int) (hk : N64 K) (r : Rt) (hr : r.right = true) (w : World) : Calls Try.prog 73 #[.string (strOf (putNum K)), .string r.bytes] w fun e w' => e = .returned (.string (strOf (putNum K ++ flat r.nums))) ∧ Below w.heap.size w w' := by
  have h1 := put_small hk
  have h2 := flat_small hr
  have h := joined_any (strOf (putNum K)) r.bytes w (by rw [Rt.bytes, if_pos hr]; omega)
  rwa [join_put K r hr] at h
set_option maxHeartbeats 2000000 in
theorem msgBytes1 (r : Rt) (hr : r.right = true) (w : World) : Calls Try.prog 94 #[.iface 114 r.val] w fun e w' => e = .returned (.string (strOf (putNum 1 ++ flat r.nums))) ∧ Below w.heap.size w w' := by
  have HP := Lib.hid fun W => implPutNum_any 1 W (by omega) (by omega)
  have HL := Lib.hid (implRouteBytes_any r)
  have HJ := Lib.hid (joined_two 1 ⟨by omega, by omega⟩ r hr)
  generalize strOf (putNum 1 ++ flat r.nums) = q3 at *
  generalize strOf (putNum 1) = q at *
  generalize r.bytes = q2 at *
  unfold Rt.val rtV at *
  have tp := ta_putting_putting
  go_enter Try.func94, Try.ntmps94
  go_wp2_with fail
  obtain ⟨W, hW⟩ : ∃ W, W = w.alloc (.cells #[.int .i64 r.kind, .int .i64 r.vni, .int .i64 r.mac, .int .i64 r.ip, .int .i64 r.org, .int .i64 r.seq, .bool r.st] 114) := ⟨_, rfl⟩
  obtain ⟨B, hB⟩ : ∃ q, q = w.heap.size := ⟨_, rfl⟩
  rw [← hW, ← hB]
  have S0 : MsAt w W.drew B 114 r := by
    subst hW hB; exact ⟨(Blk.new _ _ _).drew, ((Below.refl _ _).alloc (Nat.le_refl _) _).drew⟩
  clear hW hB
  refine wp_region_held_drew (S := fun W' => MsAt w W' B 114 r) (by kernel_rfl) S0 (fun hHeld => ?_)
  clear hHeld
  refine wpAnyH_take (i := 1) (oi := { dst := some 11, op := Op.fieldAddr 114 (Operand.tmp 3) 0, type := 0, pos := "l04_note.go:71", after := #[], guard := none }) (v := ?vva1) rfl (by kernel_rfl) (by kernel_rfl) (by kernel_rfl) (fun _ _ _ h => h) (Or.inl ⟨by rfl, ?hya1⟩) S0 ?resta1
  case hya1 => (intro w hSw; have p0 := hSw.blk.cell;go_simp <;> with_reducible rfl)
  try simp only [Act.put, List.setIfInBounds_toArray, List.set_cons_zero, List.set_cons_succ]
  refine wpAnyH_take (i := 2) (oi := { dst := some 12, op := Op.load 69 (Operand.tmp 11), type := 69, pos := "l04_note.go:71", after := #[{ on := 1, ground := Ground.data }], guard := none }) (v := ?vva2) rfl (by kernel_rfl) (by kernel_rfl) (by kernel_rfl) (fun _ _ _ h => h) (Or.inl ⟨by rfl, ?hya2⟩) S0 ?resta2
  case hya2 => (intro w hSw; have p0 := hSw.blk.cell;go_simp <;> with_reducible rfl)
  try simp only [Act.put, List.setIfInBounds_toArray, List.set_cons_zero, List.set_cons_succ]
  refine wpAnyH_ready (rs := [0]) (by kernel_rfl) (by simp) ?_
  refine AllReadyH.cons (o := { dst := some 10, op := Op.call { callee := Callee.value (Operand.func 99), args := #[Operand.const (Value.int IntKind.i64 1)], argTypes := #[2] }, type := 9, pos := "l04_note.go:71", after := #[], guard := none }) rfl (fun K hK => ?_) AllReadyH.nil
  go_simp
  refine (HP.out _).mono ?_
  rintro e w1 ⟨rfl, hb1⟩
  replace S0 := S0.kept hb1
  clear hb1
  refine hK.out _ _ S0 (fun hHeld => ?_)
  clear hK K hHeld
  try simp only [Act.put, List.setIfInBounds_toArray, List.set_cons_zero, List.set_cons_succ]
  refine wpAnyH_ready (rs := [3]) (by kernel_rfl) (by simp) ?_
  refine AllReadyH.cons (o := { dst := some 13, op := Op.call { callee := Callee.value (Operand.func 53), args := #[Operand.tmp 12], argTypes := #[69] }, type := 9, pos := "l04_note.go:71", after := #[{ on := 2, ground := Ground.data }, { on := 0, ground := Ground.chain }], guard := none }) rfl (fun K hK => ?_) AllReadyH.nil
  go_simp
  refine (HL.out _).mono ?_
  rintro e w1 ⟨rfl, hb1⟩
  replace S0 := S0.kept hb1
  clear hb1
  refine hK.out _ _ S0 (fun hHeld => ?_)
  clear hK K hHeld
  try simp only [Act.put, List.setIfInBounds_toArray, List.set_cons_zero, List.set_cons_succ]
  refine wpAnyH_ready (rs := [4]) (by kernel_rfl) (by simp) ?_
  refine AllReadyH.cons (o := { dst := some 14, op := Op.call { callee := Callee.value (Operand.func 73), args := #[Operand.tmp 10, Operand.tmp 13], argTypes := #[9, 9] }, type := 9, pos := "l04_note.go:71", after := #[{ on := 0, ground := Ground.data }, { on := 3, ground := Ground.data }, { on := 3, ground := Ground.chain }], guard := none }) rfl (fun K hK => ?_) AllReadyH.nil
  go_simp
  refine (HJ.out _).mono ?_
  rintro e w1 ⟨rfl, hb1⟩
  replace S0 := S0.kept hb1
  clear hb1
  refine hK.out _ _ S0 (fun hHeld => ?_)
  clear hK K hHeld
  try simp only [Act.put, List.setIfInBounds_toArray, List.set_cons_zero, List.set_cons_succ]
  refine wpAnyH_take (i := 5) (oi := { dst := some 2, op := Op.assign (Operand.tmp 14), type := 9, pos := "l04_note.go:71", after := #[{ on := 4, ground := Ground.data }, { on := 4, ground := Ground.chain }, { on := 0, ground := Ground.phase }, { on := 1, ground := Ground.phase }, { on := 2, ground := Ground.phase }, { on := 3, ground := Ground.phase }, { on := 4, ground := Ground.phase }], guard := none }) (v := ?vva3) rfl (by kernel_rfl) (by kernel_rfl) (by kernel_rfl) (fun _ _ _ h => h) (Or.inl ⟨by rfl, ?hya3⟩) S0 ?resta3
  case hya3 => (intro w hSw; have p0 := hSw.blk.cell;go_simp <;> with_reducible rfl)
  try simp only [Act.put, List.setIfInBounds_toArray, List.set_cons_zero, List.set_cons_succ]
  refine wpAnyH_done (by kernel_rfl) ?_ _
  go_wp2_with fail
  go_ret
  exact ⟨rfl, S0.low⟩
set_option maxHeartbeats 2000000 in
theorem msgBytes2 (r : Rt) (hr : r.right = true) (w : World) : Calls Try.prog 94 #[.iface 116 r.val] w fun e w' => e = .returned (.string (strOf (putNum 2 ++ flat r.nums))) ∧ Below w.heap.size w w' := by
  have HP := Lib.hid fun W => implPutNum_any 2 W (by omega) (by omega)
  have HL := Lib.hid (implRouteBytes_any r)
  have HJ := Lib.hid (joined_two 2 ⟨by omega, by omega⟩ r hr)
  generalize strOf (putNum 2 ++ flat r.nums) = q3 at *
  generalize strOf (putNum 2) = q at *
  generalize r.bytes = q2 at *
  unfold Rt.val rtV at *
  have tp := ta_taking_putting
  have tt := ta_taking_taking
  go_enter Try.func94, Try.ntmps94
  go_wp2_with fail
  obtain ⟨W, hW⟩ : ∃ W, W = w.alloc (.cells #[.int .i64 r.kind, .int .i64 r.vni, .int .i64 r.mac, .int .i64 r.ip, .int .i64 r.org, .int .i64 r.seq, .bool r.st] 116) := ⟨_, rfl⟩
  obtain ⟨B, hB⟩ : ∃ q, q = w.heap.size := ⟨_, rfl⟩
  rw [← hW, ← hB]
  have S0 : MsAt w W.drew B 116 r := by
    subst hW hB; exact ⟨(Blk.new _ _ _).drew, ((Below.refl _ _).alloc (Nat.le_refl _) _).drew⟩
  clear hW hB
  refine wp_region_held_drew (S := fun W' => MsAt w W' B 116 r) (by kernel_rfl) S0 (fun hHeld => ?_)
  clear hHeld
  refine wpAnyH_take (i := 1) (oi := { dst := some 19, op := Op.fieldAddr 116 (Operand.tmp 4) 0, type := 0, pos := "l04_note.go:73", after := #[], guard := none }) (v := ?vva1) rfl (by kernel_rfl) (by kernel_rfl) (by kernel_rfl) (fun _ _ _ h => h) (Or.inl ⟨by rfl, ?hya1⟩) S0 ?resta1
  case hya1 => (intro w hSw; have p0 := hSw.blk.cell;go_simp <;> with_reducible rfl)
  try simp only [Act.put, List.setIfInBounds_toArray, List.set_cons_zero, List.set_cons_succ]
  refine wpAnyH_take (i := 2) (oi := { dst := some 20, op := Op.load 69 (Operand.tmp 19), type := 69, pos := "l04_note.go:73", after := #[{ on := 1, ground := Ground.data }], guard := none }) (v := ?vva2) rfl (by kernel_rfl) (by kernel_rfl) (by kernel_rfl) (fun _ _ _ h => h) (Or.inl ⟨by rfl, ?hya2⟩) S0 ?resta2
  case hya2 => (intro w hSw; have p0 := hSw.blk.cell;go_simp <;> with_reducible rfl)
  try simp only [Act.put, List.setIfInBounds_toArray, List.set_cons_zero, List.set_cons_succ]
  refine wpAnyH_ready (rs := [0]) (by kernel_rfl) (by simp) ?_
  refine AllReadyH.cons (o := { dst := some 18, op := Op.call { callee := Callee.value (Operand.func 99), args := #[Operand.const (Value.int IntKind.i64 2)], argTypes := #[2] }, type := 9, pos := "l04_note.go:73", after := #[], guard := none }) rfl (fun K hK => ?_) AllReadyH.nil
  go_simp
  refine (HP.out _).mono ?_
  rintro e w1 ⟨rfl, hb1⟩
  replace S0 := S0.kept hb1
  clear hb1
  refine hK.out _ _ S0 (fun hHeld => ?_)
  clear hK K hHeld
  try simp only [Act.put, List.setIfInBounds_toArray, List.set_cons_zero, List.set_cons_succ]
  refine wpAnyH_ready (rs := [3]) (by kernel_rfl) (by simp) ?_
  refine AllReadyH.cons (o := { dst := some 21, op := Op.call { callee := Callee.value (Operand.func 53), args := #[Operand.tmp 20], argTypes := #[69] }, type := 9, pos := "l04_note.go:73", after := #[{ on := 2, ground := Ground.data }, { on := 0, ground := Ground.chain }], guard := none }) rfl (fun K hK => ?_) AllReadyH.nil
  go_simp
  refine (HL.out _).mono ?_
  rintro e w1 ⟨rfl, hb1⟩
  replace S0 := S0.kept hb1
  clear hb1
  refine hK.out _ _ S0 (fun hHeld => ?_)
  clear hK K hHeld
  try simp only [Act.put, List.setIfInBounds_toArray, List.set_cons_zero, List.set_cons_succ]
  refine wpAnyH_ready (rs := [4]) (by kernel_rfl) (by simp) ?_
  refine AllReadyH.cons (o := { dst := some 22, op := Op.call { callee := Callee.value (Operand.func 73), args := #[Operand.tmp 18, Operand.tmp 21], argTypes := #[9, 9] }, type := 9, pos := "l04_note.go:73", after := #[{ on := 0, ground := Ground.data }, { on := 3, ground := Ground.data }, { on := 3, ground := Ground.chain }], guard := none }) rfl (fun K hK => ?_) AllReadyH.nil
  go_simp
  refine (HJ.out _).mono ?_
  rintro e w1 ⟨rfl, hb1⟩
  replace S0 := S0.kept hb1
  clear hb1
  refine hK.out _ _ S0 (fun hHeld => ?_)
  clear hK K hHeld
  try simp only [Act.put, List.setIfInBounds_toArray, List.set_cons_zero, List.set_cons_succ]
  refine wpAnyH_take (i := 5) (oi := { dst := some 2, op := Op.assign (Operand.tmp 22), type := 9, pos := "l04_note.go:73", after := #[{ on := 4, ground := Ground.data }, { on := 4, ground := Ground.chain }, { on := 0, ground := Ground.phase }, { on := 1, ground := Ground.phase }, { on := 2, ground := Ground.phase }, { on := 3, ground := Ground.phase }, { on := 4, ground := Ground.phase }], guard := none }) (v := ?vva3) rfl (by kernel_rfl) (by kernel_rfl) (by kernel_rfl) (fun _ _ _ h => h) (Or.inl ⟨by rfl, ?hya3⟩) S0 ?resta3
  case hya3 => (intro w hSw; have p0 := hSw.blk.cell;go_simp <;> with_reducible rfl)
  try simp only [Act.put, List.setIfInBounds_toArray, List.set_cons_zero, List.set_cons_succ]
  refine wpAnyH_done (by kernel_rfl) ?_ _
  go_wp2_with fail
  go_ret
  exact ⟨rfl, S0.low⟩
set_option maxHeartbeats 2000000 in
theorem msgBytes3 (r : Rt) (w : World) : Calls Try.prog 94 #[.iface 118 r.val] w fun e w' => e = .returned (.string (strOf (putNum 3))) ∧ Below w.heap.size w w' := by
  have HP := Lib.hid fun W => implPutNum_any 3 W (by omega) (by omega)
  generalize strOf (putNum 3) = q at *
  unfold Rt.val rtV at *
  have tp := ta_ending_putting
  have tt := ta_ending_taking
  have te := ta_ending_ending
  go_enter Try.func94, Try.ntmps94
  go_wp2_with (refine (HP.out _).mono ?_; rintro e w1 ⟨rfl, hb1⟩; have HB : Hid (Below w.heap.size w w1) := Lib.hid (((Below.refl _ _).alloc (Nat.le_refl _) _).trans (hb1.mono (by simp))); clear hb1)
  go_ret
  exact ⟨rfl, HB.out⟩
theorem messageBytes_any (K : Int) (r : Rt) (hn : ntRight K r = true) (w : World) : Calls Try.prog 94 #[msgV K r] w fun e w' => e = .returned (.string (ntBytes K r)) ∧ Below w.heap.size w w' := by
  by_cases h3 : K = 3
  · subst h3
    rw [ntB_end hn]
    exact msgBytes3 r w
  obtain ⟨hr, hk⟩ := nt_kind hn h3
  rw [ntB_route hn h3]
  rcases hk with rfl | rfl
  · exact msgBytes1 r hr w
  · exact msgBytes2 r hr w
set_option maxHeartbeats 1000000 in
theorem implNoteBytes_any (K : Int) (r : Rt) (w : World) : Calls Try.prog 56 #[ntV K r] w fun e w' => e = .returned (.string (ntBytes K r)) ∧ Below w.heap.size w w' := by
  have HR := Lib.hid (implNoteRight_any K r)
  cases hn : ntRight K r
  · rw [ntB_none hn]
    rw [hn] at HR
    unfold ntV at *
    go_enter Try.func56, Try.ntmps56
    go_wp2_with (refine (HR.out _).mono ?_; rintro e w1 ⟨rfl, hb1⟩; have HB : Hid (Below w.heap.size w w1) := Lib.hid (((Below.refl _ _).alloc (Nat.le_refl _) _).trans (hb1.mono (by simp))); clear hb1)
    go_ret
    exact ⟨rfl, HB.out⟩
  · have HL := Lib.hid (messageBytes_any K r hn)
    have HM := Lib.hid (messageOf_any K r)
    rw [hn] at HR
    clear hn
    generalize ntBytes K r = q at *
    generalize msgV K r = mv at *
    unfold ntV at *
    go_enter Try.func56, Try.ntmps56
    go_wp2_with (first | (go_at_call 93; refine (HR.out _).mono ?_; rintro e w1 ⟨rfl, hb1⟩; have HB : Hid (Below w.heap.size w w1) := Lib.hid (((Below.refl _ _).alloc (Nat.le_refl _) _).trans (hb1.mono (by simp))); have hc : ∀ o, w1.cell? ⟨w.heap.size, o, none⟩ = _ := fun o => hb1.cell (p := ⟨w.heap.size, o, none⟩) (by simp); clear hb1) | (go_at_call 95; refine (HM.out _).mono ?_; rintro e w2 ⟨rfl, hb2⟩; replace HB : Hid (Below w.heap.size w w2) := Lib.hid (HB.out.trans (hb2.mono HB.out.size)); clear hb2) | (go_at_call 94; refine (HL.out _).mono ?_; rintro e w3 ⟨rfl, hb3⟩; replace HB : Hid (Below w.heap.size w w3) := Lib.hid (HB.out.trans (hb3.mono HB.out.size)); clear hb3))
    go_ret
    exact ⟨rfl, HB.out⟩
end Go.Proofs.Ytfmhccmaeonbhaa
