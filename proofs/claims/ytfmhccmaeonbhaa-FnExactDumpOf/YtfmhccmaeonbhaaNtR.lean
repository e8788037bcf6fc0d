/- Notes: NoteRight of the program and of the model. -/
import Derived.Test.YtfmhccmaeonbhaaNtQ
namespace Go.Proofs.Ytfmhccmaeonbhaa
open Go.RowKit

set_option maxRecDepth 100000 in
set_option maxHeartbeats 1000000 in
theorem implNoteRight_any (K : Int) (r : Rt) (w : World) : Calls Try.prog 93 #[ntV K r] w fun e w' => e = .returned (.bool (ntRight K r)) ∧ Below w.heap.size w w' := by
  have HM := Lib.hid (messageOf_any K r)
  have HP := Lib.hid (puttingRight_any r)
  have HT := Lib.hid (takingRight_any r)
  have HE := Lib.hid (endingRight_any r)
  by_cases h1 : K = 1
  · subst h1
    have HR := Lib.hid (nt1 r)
    rw [show msgV 1 r = .iface 114 r.val from rfl] at HM
    unfold ntV Rt.val rtV at *
    go_enter Try.func93, Try.ntmps93
    go_wp2_with (first | (refine (HM.out _).mono ?_; rintro e w1 ⟨rfl, hb1⟩; have HB : Hid (Below w.heap.size w w1) := Lib.hid (((Below.refl _ _).alloc (Nat.le_refl _) _).trans (hb1.mono (by simp))); clear hb1) | (refine (HP.out _).mono ?_; rintro e w2 ⟨rfl, hb2⟩; replace HB : Hid (Below w.heap.size w w2) := Lib.hid (HB.out.trans (hb2.mono HB.out.size)); clear hb2))
    go_ret
    exact ⟨bool_ret HR.out.symm, HB.out⟩
  by_cases h2 : K = 2
  · subst h2
    have HR := Lib.hid (nt2 r)
    rw [show msgV 2 r = .iface 116 r.val from rfl] at HM
    unfold ntV Rt.val rtV at *
    go_enter Try.func93, Try.ntmps93
    go_wp2_with (first | (refine (HM.out _).mono ?_; rintro e w1 ⟨rfl, hb1⟩; have HB : Hid (Below w.heap.size w w1) := Lib.hid (((Below.refl _ _).alloc (Nat.le_refl _) _).trans (hb1.mono (by simp))); clear hb1) | (refine (HT.out _).mono ?_; rintro e w2 ⟨rfl, hb2⟩; replace HB : Hid (Below w.heap.size w w2) := Lib.hid (HB.out.trans (hb2.mono HB.out.size)); clear hb2))
    go_ret
    exact ⟨bool_ret HR.out.symm, HB.out⟩
  by_cases h3 : K = 3
  · subst h3
    have HR := Lib.hid (nt3 r)
    rw [show msgV 3 r = .iface 118 r.val from rfl] at HM
    unfold ntV Rt.val rtV at *
    go_enter Try.func93, Try.ntmps93
    go_wp2_with (first | (refine (HM.out _).mono ?_; rintro e w1 ⟨rfl, hb1⟩; have HB : Hid (Below w.heap.size w w1) := Lib.hid (((Below.refl _ _).alloc (Nat.le_refl _) _).trans (hb1.mono (by simp))); clear hb1) | (refine (HE.out _).mono ?_; rintro e w2 ⟨rfl, hb2⟩; replace HB : Hid (Below w.heap.size w w2) := Lib.hid (HB.out.trans (hb2.mono HB.out.size)); clear hb2))
    go_ret
    exact ⟨bool_ret HR.out.symm, HB.out⟩
  have HR := Lib.hid (nt0 r h1 h2 h3)
  rw [msg0 r h1 h2 h3] at HM
  clear h1 h2 h3
  unfold ntV Rt.val rtV at *
  go_enter Try.func93, Try.ntmps93
  go_wp2_with (refine (HM.out _).mono ?_; rintro e w1 ⟨rfl, hb1⟩; have HB : Hid (Below w.heap.size w w1) := Lib.hid (((Below.refl _ _).alloc (Nat.le_refl _) _).trans (hb1.mono (by simp))); clear hb1)
  go_ret
  exact ⟨bool_ret HR.out.symm, HB.out⟩

structure NtAt (w W : World) (B : Nat) (K : Int) (r : Rt) : Prop where
  blk : Blk W B 76 #[.int .i64 K, .int .i64 r.kind, .int .i64 r.vni, .int .i64 r.mac, .int .i64 r.ip, .int .i64 r.org, .int .i64 r.seq, .bool r.st]
  low : Below w.heap.size w W
theorem NtAt.kept {w W W' : World} {B : Nat} {K : Int} {r : Rt} (h : NtAt w W B K r) (hb : Below W.heap.size W W') : NtAt w W' B K r := ⟨h.blk.kept hb, h.low.trans (hb.mono h.low.size)⟩
set_option maxHeartbeats 2000000 in
theorem specNoteRight_any (K : Int) (r : Rt) (w : World) : Calls Try.prog 91 #[ntV K r] w fun e w' => e = .returned (.bool (ntRight K r)) ∧ Below w.heap.size w w' := by
  have H := Lib.hid (specRight_any r)
  have HK := Lib.hid (specKeyOf_any r.kind r.vni r.mac r.ip r.org r.seq r.st)
  have hq := key_equal r
  have hz := zero_equal r
  by_cases h1 : K = 1
  · subst h1
    have HR := Lib.hid (nt1 r)
    unfold ntV Rt.val rtV at *
    go_enter Try.func91, Try.ntmps91
    go_wp2_with (refine (H.out _).mono ?_; rintro e w1 ⟨rfl, hb1⟩; have HB : Hid (Below w.heap.size w w1) := Lib.hid (((Below.refl _ _).alloc (Nat.le_refl _) _).trans (hb1.mono (by simp))); clear hb1)
    go_ret
    exact ⟨bool_ret HR.out.symm, HB.out⟩
  by_cases h2 : K = 2
  · subst h2
    have HR := Lib.hid (nt2 r)
    generalize isKey r = ky at *
    generalize r.right = ra at *
    clear hz h1
    unfold ntV Rt.val rtV at *
    go_enter Try.func91, Try.ntmps91
    go_wp2_with fail
    obtain ⟨W, hW⟩ : ∃ W, W = w.alloc (.cells #[.int .i64 2, .int .i64 r.kind, .int .i64 r.vni, .int .i64 r.mac, .int .i64 r.ip, .int .i64 r.org, .int .i64 r.seq, .bool r.st] 76) := ⟨_, rfl⟩
    obtain ⟨B, hB⟩ : ∃ q, q = w.heap.size := ⟨_, rfl⟩
    rw [← hW, ← hB]
    have S0 : NtAt w W.drew B 2 r := by
      subst hW hB; exact ⟨(Blk.new _ _ _).drew, ((Below.refl _ _).alloc (Nat.le_refl _) _).drew⟩
    clear hW hB
    cases ra
    ·
      refine wp_region_held_drew (S := fun W' => NtAt w W' B 2 r) (by kernel_rfl) S0 (fun hHeld => ?_)
      clear hHeld
      refine wpAnyH_take (i := 0) (oi := { dst := some 12, op := Op.fieldAddr 76 (Operand.tmp 1) 1, type := 0, pos := "l04_note.go:10", after := #[], guard := none }) (v := ?vva1) rfl (by kernel_rfl) (by kernel_rfl) (by kernel_rfl) (fun _ _ _ h => h) (Or.inl ⟨by rfl, ?hya1⟩) S0 ?resta1
      case hya1 => (intro w hSw; have p0 := hSw.blk.cell;go_simp <;> with_reducible rfl)
      try simp only [Act.put, List.setIfInBounds_toArray, List.set_cons_zero, List.set_cons_succ]
      refine wpAnyH_take (i := 1) (oi := { dst := some 13, op := Op.load 69 (Operand.tmp 12), type := 69, pos := "l04_note.go:10", after := #[{ on := 0, ground := Ground.data }], guard := none }) (v := ?vva2) rfl (by kernel_rfl) (by kernel_rfl) (by kernel_rfl) (fun _ _ _ h => h) (Or.inl ⟨by rfl, ?hya2⟩) S0 ?resta2
      case hya2 => (intro w hSw; have p0 := hSw.blk.cell;go_simp <;> with_reducible rfl)
      try simp only [Act.put, List.setIfInBounds_toArray, List.set_cons_zero, List.set_cons_succ]
      refine wpAnyH_ready (rs := [2]) (by kernel_rfl) (by simp) ?_
      refine AllReadyH.cons (o := { dst := some 14, op := Op.call { callee := Callee.value (Operand.func 85), args := #[Operand.tmp 13], argTypes := #[69] }, type := 4, pos := "l04_note.go:10", after := #[{ on := 1, ground := Ground.data }], guard := none }) rfl (fun K hK => ?_) AllReadyH.nil
      go_simp
      refine (H.out _).mono ?_
      rintro e w1 ⟨rfl, hb1⟩
      replace S0 := S0.kept hb1
      clear hb1
      refine hK.out _ _ S0 (fun hHeld => ?_)
      clear hK K hHeld
      try simp only [Act.put, List.setIfInBounds_toArray, List.set_cons_zero, List.set_cons_succ]
      refine wpAnyH_take (i := 3) (oi := { dst := some 15, op := Op.move (Operand.tmp 14), type := 4, pos := "l04_note.go:10", after := #[{ on := 2, ground := Ground.data }, { on := 2, ground := Ground.chain }], guard := none }) (v := ?vva3) rfl (by kernel_rfl) (by kernel_rfl) (by kernel_rfl) (fun _ _ _ h => h) (Or.inl ⟨by rfl, ?hya3⟩) S0 ?resta3
      case hya3 => (intro w hSw; have p0 := hSw.blk.cell;go_simp <;> with_reducible rfl)
      try simp only [Act.put, List.setIfInBounds_toArray, List.set_cons_zero, List.set_cons_succ]
      refine wpAnyH_take (i := 4) (oi := { dst := some 16, op := Op.fieldAddr 76 (Operand.tmp 1) 1, type := 0, pos := "l04_note.go:10", after := #[{ on := 3, ground := Ground.guard }], guard := some (3, true) }) (v := undef) rfl (by kernel_rfl) (by kernel_rfl) (by kernel_rfl) (fun _ _ _ h => h) (Or.inr ⟨by rfl, rfl⟩) S0 ?_
      try simp only [Act.put, List.setIfInBounds_toArray, List.set_cons_zero, List.set_cons_succ]
      refine wpAnyH_take (i := 5) (oi := { dst := some 17, op := Op.load 69 (Operand.tmp 16), type := 69, pos := "l04_note.go:10", after := #[{ on := 4, ground := Ground.data }, { on := 3, ground := Ground.guard }], guard := some (3, true) }) (v := undef) rfl (by kernel_rfl) (by kernel_rfl) (by kernel_rfl) (fun _ _ _ h => h) (Or.inr ⟨by rfl, rfl⟩) S0 ?_
      try simp only [Act.put, List.setIfInBounds_toArray, List.set_cons_zero, List.set_cons_succ]
      refine wpAnyH_take (i := 6) (oi := { dst := some 18, op := Op.fieldAddr 76 (Operand.tmp 1) 1, type := 0, pos := "l04_note.go:10", after := #[{ on := 3, ground := Ground.guard }], guard := some (3, true) }) (v := undef) rfl (by kernel_rfl) (by kernel_rfl) (by kernel_rfl) (fun _ _ _ h => h) (Or.inr ⟨by rfl, rfl⟩) S0 ?_
      try simp only [Act.put, List.setIfInBounds_toArray, List.set_cons_zero, List.set_cons_succ]
      refine wpAnyH_take (i := 7) (oi := { dst := some 19, op := Op.load 69 (Operand.tmp 18), type := 69, pos := "l04_note.go:10", after := #[{ on := 6, ground := Ground.data }, { on := 3, ground := Ground.guard }], guard := some (3, true) }) (v := undef) rfl (by kernel_rfl) (by kernel_rfl) (by kernel_rfl) (fun _ _ _ h => h) (Or.inr ⟨by rfl, rfl⟩) S0 ?_
      try simp only [Act.put, List.setIfInBounds_toArray, List.set_cons_zero, List.set_cons_succ]
      refine wpAnyH_take (i := 8) (oi := { dst := some 20, op := Op.call { callee := Callee.value (Operand.func 112), args := #[Operand.tmp 19], argTypes := #[69] }, type := 69, pos := "l04_note.go:10", after := #[{ on := 7, ground := Ground.data }, { on := 3, ground := Ground.chain }, { on := 3, ground := Ground.guard }], guard := some (3, true) }) (v := undef) rfl (by kernel_rfl) (by kernel_rfl) (by kernel_rfl) (fun _ _ _ h => h) (Or.inr ⟨by rfl, rfl⟩) S0 ?_
      try simp only [Act.put, List.setIfInBounds_toArray, List.set_cons_zero, List.set_cons_succ]
      refine wpAnyH_take (i := 9) (oi := { dst := some 21, op := Op.binOp BinOp.eql 69 (Operand.tmp 17) (Operand.tmp 20) 69, type := 4, pos := "l04_note.go:10", after := #[{ on := 5, ground := Ground.data }, { on := 8, ground := Ground.data }, { on := 3, ground := Ground.guard }], guard := some (3, true) }) (v := undef) rfl (by kernel_rfl) (by kernel_rfl) (by kernel_rfl) (fun _ _ _ h => h) (Or.inr ⟨by rfl, rfl⟩) S0 ?_
      try simp only [Act.put, List.setIfInBounds_toArray, List.set_cons_zero, List.set_cons_succ]
      refine wpAnyH_take (i := 10) (oi := { dst := some 22, op := Op.pick (Operand.tmp 15) (Operand.tmp 21) (Operand.const (Value.bool false)), type := 4, pos := "l04_note.go:10", after := #[{ on := 3, ground := Ground.data }, { on := 9, ground := Ground.data }], guard := none }) (v := ?vva10) rfl (by kernel_rfl) (by kernel_rfl) (by kernel_rfl) (fun _ _ _ h => h) (Or.inl ⟨by rfl, ?hya10⟩) S0 ?resta10
      case hya10 => (intro w hSw; have p0 := hSw.blk.cell;go_simp <;> with_reducible rfl)
      try simp only [Act.put, List.setIfInBounds_toArray, List.set_cons_zero, List.set_cons_succ]
      refine wpAnyH_take (i := 11) (oi := { dst := some 2, op := Op.assign (Operand.tmp 22), type := 4, pos := "l04_note.go:10", after := #[{ on := 10, ground := Ground.data }, { on := 8, ground := Ground.chain }, { on := 0, ground := Ground.phase }, { on := 1, ground := Ground.phase }, { on := 2, ground := Ground.phase }, { on := 3, ground := Ground.phase }, { on := 4, ground := Ground.phase }, { on := 5, ground := Ground.phase }, { on := 6, ground := Ground.phase }, { on := 7, ground := Ground.phase }, { on := 8, ground := Ground.phase }, { on := 9, ground := Ground.phase }, { on := 10, ground := Ground.phase }], guard := none }) (v := ?vva11) rfl (by kernel_rfl) (by kernel_rfl) (by kernel_rfl) (fun _ _ _ h => h) (Or.inl ⟨by rfl, ?hya11⟩) S0 ?resta11
      case hya11 => (intro w hSw; have p0 := hSw.blk.cell;go_simp <;> with_reducible rfl)
      try simp only [Act.put, List.setIfInBounds_toArray, List.set_cons_zero, List.set_cons_succ]
      refine wpAnyH_done (by kernel_rfl) ?_ _
      go_wp2_with fail
      go_ret
      exact ⟨bool_ret HR.out.symm, S0.low⟩
    ·
      refine wp_region_held_drew (S := fun W' => NtAt w W' B 2 r) (by kernel_rfl) S0 (fun hHeld => ?_)
      clear hHeld
      refine wpAnyH_take (i := 0) (oi := { dst := some 12, op := Op.fieldAddr 76 (Operand.tmp 1) 1, type := 0, pos := "l04_note.go:10", after := #[], guard := none }) (v := ?vvb1) rfl (by kernel_rfl) (by kernel_rfl) (by kernel_rfl) (fun _ _ _ h => h) (Or.inl ⟨by rfl, ?hyb1⟩) S0 ?restb1
      case hyb1 => (intro w hSw; have p0 := hSw.blk.cell;go_simp <;> with_reducible rfl)
      try simp only [Act.put, List.setIfInBounds_toArray, List.set_cons_zero, List.set_cons_succ]
      refine wpAnyH_take (i := 1) (oi := { dst := some 13, op := Op.load 69 (Operand.tmp 12), type := 69, pos := "l04_note.go:10", after := #[{ on := 0, ground := Ground.data }], guard := none }) (v := ?vvb2) rfl (by kernel_rfl) (by kernel_rfl) (by kernel_rfl) (fun _ _ _ h => h) (Or.inl ⟨by rfl, ?hyb2⟩) S0 ?restb2
      case hyb2 => (intro w hSw; have p0 := hSw.blk.cell;go_simp <;> with_reducible rfl)
      try simp only [Act.put, List.setIfInBounds_toArray, List.set_cons_zero, List.set_cons_succ]
      refine wpAnyH_ready (rs := [2]) (by kernel_rfl) (by simp) ?_
      refine AllReadyH.cons (o := { dst := some 14, op := Op.call { callee := Callee.value (Operand.func 85), args := #[Operand.tmp 13], argTypes := #[69] }, type := 4, pos := "l04_note.go:10", after := #[{ on := 1, ground := Ground.data }], guard := none }) rfl (fun K hK => ?_) AllReadyH.nil
      go_simp
      refine (H.out _).mono ?_
      rintro e w1 ⟨rfl, hb1⟩
      replace S0 := S0.kept hb1
      clear hb1
      refine hK.out _ _ S0 (fun hHeld => ?_)
      clear hK K hHeld
      try simp only [Act.put, List.setIfInBounds_toArray, List.set_cons_zero, List.set_cons_succ]
      refine wpAnyH_take (i := 3) (oi := { dst := some 15, op := Op.move (Operand.tmp 14), type := 4, pos := "l04_note.go:10", after := #[{ on := 2, ground := Ground.data }, { on := 2, ground := Ground.chain }], guard := none }) (v := ?vvb3) rfl (by kernel_rfl) (by kernel_rfl) (by kernel_rfl) (fun _ _ _ h => h) (Or.inl ⟨by rfl, ?hyb3⟩) S0 ?restb3
      case hyb3 => (intro w hSw; have p0 := hSw.blk.cell;go_simp <;> with_reducible rfl)
      try simp only [Act.put, List.setIfInBounds_toArray, List.set_cons_zero, List.set_cons_succ]
      refine wpAnyH_take (i := 4) (oi := { dst := some 16, op := Op.fieldAddr 76 (Operand.tmp 1) 1, type := 0, pos := "l04_note.go:10", after := #[{ on := 3, ground := Ground.guard }], guard := some (3, true) }) (v := ?vvb4) rfl (by kernel_rfl) (by kernel_rfl) (by kernel_rfl) (fun _ _ _ h => h) (Or.inl ⟨by rfl, ?hyb4⟩) S0 ?restb4
      case hyb4 => (intro w hSw; have p0 := hSw.blk.cell;go_simp <;> with_reducible rfl)
      try simp only [Act.put, List.setIfInBounds_toArray, List.set_cons_zero, List.set_cons_succ]
      refine wpAnyH_take (i := 5) (oi := { dst := some 17, op := Op.load 69 (Operand.tmp 16), type := 69, pos := "l04_note.go:10", after := #[{ on := 4, ground := Ground.data }, { on := 3, ground := Ground.guard }], guard := some (3, true) }) (v := ?vvb5) rfl (by kernel_rfl) (by kernel_rfl) (by kernel_rfl) (fun _ _ _ h => h) (Or.inl ⟨by rfl, ?hyb5⟩) S0 ?restb5
      case hyb5 => (intro w hSw; have p0 := hSw.blk.cell;go_simp <;> with_reducible rfl)
      try simp only [Act.put, List.setIfInBounds_toArray, List.set_cons_zero, List.set_cons_succ]
      refine wpAnyH_take (i := 6) (oi := { dst := some 18, op := Op.fieldAddr 76 (Operand.tmp 1) 1, type := 0, pos := "l04_note.go:10", after := #[{ on := 3, ground := Ground.guard }], guard := some (3, true) }) (v := ?vvb6) rfl (by kernel_rfl) (by kernel_rfl) (by kernel_rfl) (fun _ _ _ h => h) (Or.inl ⟨by rfl, ?hyb6⟩) S0 ?restb6
      case hyb6 => (intro w hSw; have p0 := hSw.blk.cell;go_simp <;> with_reducible rfl)
      try simp only [Act.put, List.setIfInBounds_toArray, List.set_cons_zero, List.set_cons_succ]
      refine wpAnyH_take (i := 7) (oi := { dst := some 19, op := Op.load 69 (Operand.tmp 18), type := 69, pos := "l04_note.go:10", after := #[{ on := 6, ground := Ground.data }, { on := 3, ground := Ground.guard }], guard := some (3, true) }) (v := ?vvb7) rfl (by kernel_rfl) (by kernel_rfl) (by kernel_rfl) (fun _ _ _ h => h) (Or.inl ⟨by rfl, ?hyb7⟩) S0 ?restb7
      case hyb7 => (intro w hSw; have p0 := hSw.blk.cell;go_simp <;> with_reducible rfl)
      try simp only [Act.put, List.setIfInBounds_toArray, List.set_cons_zero, List.set_cons_succ]
      refine wpAnyH_ready (rs := [8]) (by kernel_rfl) (by simp) ?_
      refine AllReadyH.cons (o := { dst := some 20, op := Op.call { callee := Callee.value (Operand.func 112), args := #[Operand.tmp 19], argTypes := #[69] }, type := 69, pos := "l04_note.go:10", after := #[{ on := 7, ground := Ground.data }, { on := 3, ground := Ground.chain }, { on := 3, ground := Ground.guard }], guard := some (3, true) }) rfl (fun K hK => ?_) AllReadyH.nil
      go_simp
      refine (HK.out _).mono ?_
      rintro e w1 ⟨rfl, hb1⟩
      replace S0 := S0.kept hb1
      clear hb1
      refine hK.out _ _ S0 (fun hHeld => ?_)
      clear hK K hHeld
      try simp only [Act.put, List.setIfInBounds_toArray, List.set_cons_zero, List.set_cons_succ]
      refine wpAnyH_take (i := 9) (oi := { dst := some 21, op := Op.binOp BinOp.eql 69 (Operand.tmp 17) (Operand.tmp 20) 69, type := 4, pos := "l04_note.go:10", after := #[{ on := 5, ground := Ground.data }, { on := 8, ground := Ground.data }, { on := 3, ground := Ground.guard }], guard := some (3, true) }) (v := ?vvb8) rfl (by kernel_rfl) (by kernel_rfl) (by kernel_rfl) (fun _ _ _ h => h) (Or.inl ⟨by rfl, ?hyb8⟩) S0 ?restb8
      case hyb8 => (intro w hSw; have p0 := hSw.blk.cell;go_simp <;> with_reducible rfl)
      try simp only [Act.put, List.setIfInBounds_toArray, List.set_cons_zero, List.set_cons_succ]
      refine wpAnyH_take (i := 10) (oi := { dst := some 22, op := Op.pick (Operand.tmp 15) (Operand.tmp 21) (Operand.const (Value.bool false)), type := 4, pos := "l04_note.go:10", after := #[{ on := 3, ground := Ground.data }, { on := 9, ground := Ground.data }], guard := none }) (v := ?vvb9) rfl (by kernel_rfl) (by kernel_rfl) (by kernel_rfl) (fun _ _ _ h => h) (Or.inl ⟨by rfl, ?hyb9⟩) S0 ?restb9
      case hyb9 => (intro w hSw; have p0 := hSw.blk.cell;go_simp <;> with_reducible rfl)
      try simp only [Act.put, List.setIfInBounds_toArray, List.set_cons_zero, List.set_cons_succ]
      refine wpAnyH_take (i := 11) (oi := { dst := some 2, op := Op.assign (Operand.tmp 22), type := 4, pos := "l04_note.go:10", after := #[{ on := 10, ground := Ground.data }, { on := 8, ground := Ground.chain }, { on := 0, ground := Ground.phase }, { on := 1, ground := Ground.phase }, { on := 2, ground := Ground.phase }, { on := 3, ground := Ground.phase }, { on := 4, ground := Ground.phase }, { on := 5, ground := Ground.phase }, { on := 6, ground := Ground.phase }, { on := 7, ground := Ground.phase }, { on := 8, ground := Ground.phase }, { on := 9, ground := Ground.phase }, { on := 10, ground := Ground.phase }], guard := none }) (v := ?vvb10) rfl (by kernel_rfl) (by kernel_rfl) (by kernel_rfl) (fun _ _ _ h => h) (Or.inl ⟨by rfl, ?hyb10⟩) S0 ?restb10
      case hyb10 => (intro w hSw; have p0 := hSw.blk.cell;go_simp <;> with_reducible rfl)
      try simp only [Act.put, List.setIfInBounds_toArray, List.set_cons_zero, List.set_cons_succ]
      refine wpAnyH_done (by kernel_rfl) ?_ _
      go_wp2_with fail
      go_ret
      exact ⟨bool_ret HR.out.symm, S0.low⟩
  by_cases h3 : K = 3
  · subst h3
    have HR := Lib.hid (nt3 r)
    unfold ntV Rt.val rtV at *
    go_enter Try.func91, Try.ntmps91
    go_wp2_with fail
    go_ret
    refine ⟨bool_ret HR.out.symm, ?_⟩
    go_grown
  have HR := Lib.hid (nt0 r h1 h2 h3)
  unfold ntV Rt.val rtV at *
  go_enter Try.func91, Try.ntmps91
  go_wp2_with fail
  go_ret
  refine ⟨bool_ret HR.out.symm, ?_⟩
  go_grown
end Go.Proofs.Ytfmhccmaeonbhaa
