/- Notes: NoteBytes of the program and of the model. -/
import Derived.Test.YtfmhccmaeonbhaaNtS
import Derived.Test.YtfmhccmaeonbhaaB7
namespace Go.Proofs.Ytfmhccmaeonbhaa
open Go.RowKit

def ntBytes (K : Int) (r : Rt) : ByteArray := if ntRight K r = true then (if K = 3 then strOf (putNum 3) else strOf (putNum K ++ flat r.nums)) else ⟨#[]⟩
theorem ntB_none {K : Int} {r : Rt} (h : ntRight K r = false) : ntBytes K r = ⟨#[]⟩ := by rw [ntBytes, h]; rfl
theorem ntB_end {r : Rt} (h : ntRight 3 r = true) : ntBytes 3 r = strOf (putNum 3) := by rw [ntBytes, h]; rfl
theorem ntB_route {K : Int} {r : Rt} (h : ntRight K r = true) (h3 : ¬ K = 3) : ntBytes K r = strOf (putNum K ++ flat r.nums) := by rw [ntBytes, h, if_pos rfl, if_neg h3]
theorem nt_kind {K : Int} {r : Rt} (h : ntRight K r = true) (h3 : ¬ K = 3) : r.right = true ∧ (K = 1 ∨ K = 2) := by
  by_cases h1 : K = 1
  · subst h1; exact ⟨h, .inl rfl⟩
  by_cases h2 : K = 2
  · subst h2
    rw [nt2] at h
    cases hr : r.right
    · rw [hr] at h; cases h
    · exact ⟨rfl, .inr rfl⟩
  · rw [nt0 r h1 h2 h3] at h; cases h
theorem join_put (K : Int) (r : Rt) (h : r.right = true) : strOf ((strOf (putNum K)).data.toList ++ r.bytes.data.toList) = strOf (putNum K ++ flat r.nums) := by
  rw [Rt.bytes, if_pos h, strOf_list, strOf_list]
theorem flat_small {r : Rt} (h : r.right = true) : (strOf (flat r.nums)).size ≤ 70 := by
  rw [strOf_size]; exact flat_len _ (nums_b h)

set_option maxHeartbeats 2000000 in
theorem specL04Bytes_any (K : Int) (r : Rt) (hn : ntRight K r = true) (w : World) : Calls Try.prog 92 #[ntV K r] w fun e w' => e = .returned (.string (ntBytes K r)) ∧ Below w.heap.size w w' := by
  by_cases h3 : K = 3
  · subst h3
    rw [ntB_end hn]
    have HP := Lib.hid fun W => specPutNum_any 3 W (by omega) (by omega)
    generalize strOf (putNum 3) = q at *
    unfold ntV
    go_enter Try.func92, Try.ntmps92
    go_wp2_with (refine (HP.out _).mono ?_; rintro e w1 ⟨rfl, hb1⟩; have HB : Hid (Below w.heap.size w w1) := Lib.hid (((Below.refl _ _).alloc (Nat.le_refl _) _).trans (hb1.mono (by simp))); clear hb1)
    go_ret
    exact ⟨rfl, HB.out⟩
  · obtain ⟨hr, hk⟩ := nt_kind hn h3
    rw [ntB_route hn h3]
    have hb : (K == 3) = false := by simp [h3]
    have HP := Lib.hid fun W => specPutNum_any K W (by rcases hk with rfl | rfl <;> omega) (by rcases hk with rfl | rfl <;> omega)
    have HL := Lib.hid (specL03Bytes_any r hr)
    have HE : Hid (strOf (putNum K) ++ strOf (flat r.nums) = strOf (putNum K ++ flat r.nums)) := Lib.hid (by rw [app_strOf, strOf_list, strOf_list])
    have hs : (strOf (putNum K)).size + (strOf (flat r.nums)).size ≤ 1000 := by
      have h1 := put_small (n := K) (by rcases hk with rfl | rfl <;> exact ⟨by omega, by omega⟩)
      have h2 := flat_small hr
      omega
    replace hs : ¬ 9223372036854775807 < (strOf (putNum K)).size + (strOf (flat r.nums)).size := by omega
    rw [← HE.out]
    clear HE hk hn
    generalize strOf (putNum K) = q at *
    generalize strOf (flat r.nums) = q2 at *
    unfold ntV
    unfold Rt.val rtV at HL
    go_enter Try.func92, Try.ntmps92
    go_wp2_with fail
    obtain ⟨W, hW⟩ : ∃ W, W = w.alloc (.cells #[.int .i64 K, .int .i64 r.kind, .int .i64 r.vni, .int .i64 r.mac, .int .i64 r.ip, .int .i64 r.org, .int .i64 r.seq, .bool r.st] 76) := ⟨_, rfl⟩
    obtain ⟨B, hB⟩ : ∃ q, q = w.heap.size := ⟨_, rfl⟩
    rw [← hW, ← hB]
    have S0 : NtAt w W.drew B K r := by
      subst hW hB; exact ⟨(Blk.new _ _ _).drew, ((Below.refl _ _).alloc (Nat.le_refl _) _).drew⟩
    clear hW hB
    refine wp_region_held_drew (S := fun W' => NtAt w W' B K r) (by kernel_rfl) S0 (fun hHeld => ?_)
    clear hHeld
    refine wpAnyH_take (i := 0) (oi := { dst := some 9, op := Op.fieldAddr 76 (Operand.tmp 1) 0, type := 0, pos := "l04_note.go:22", after := #[], guard := none }) (v := ?vva1) rfl (by kernel_rfl) (by kernel_rfl) (by kernel_rfl) (fun _ _ _ h => h) (Or.inl ⟨by rfl, ?hya1⟩) S0 ?resta1
    case hya1 => (intro w hSw; have p0 := hSw.blk.cell;go_simp <;> with_reducible rfl)
    try simp only [Act.put, List.setIfInBounds_toArray, List.set_cons_zero, List.set_cons_succ]
    refine wpAnyH_take (i := 1) (oi := { dst := some 10, op := Op.load 2 (Operand.tmp 9), type := 2, pos := "l04_note.go:22", after := #[{ on := 0, ground := Ground.data }], guard := none }) (v := ?vva2) rfl (by kernel_rfl) (by kernel_rfl) (by kernel_rfl) (fun _ _ _ h => h) (Or.inl ⟨by rfl, ?hya2⟩) S0 ?resta2
    case hya2 => (intro w hSw; have p0 := hSw.blk.cell;go_simp <;> with_reducible rfl)
    try simp only [Act.put, List.setIfInBounds_toArray, List.set_cons_zero, List.set_cons_succ]
    refine wpAnyH_take (i := 3) (oi := { dst := some 12, op := Op.fieldAddr 76 (Operand.tmp 1) 1, type := 0, pos := "l04_note.go:22", after := #[], guard := none }) (v := ?vva3) rfl (by kernel_rfl) (by kernel_rfl) (by kernel_rfl) (fun _ _ _ h => h) (Or.inl ⟨by rfl, ?hya3⟩) S0 ?resta3
    case hya3 => (intro w hSw; have p0 := hSw.blk.cell;go_simp <;> with_reducible rfl)
    try simp only [Act.put, List.setIfInBounds_toArray, List.set_cons_zero, List.set_cons_succ]
    refine wpAnyH_take (i := 4) (oi := { dst := some 13, op := Op.load 69 (Operand.tmp 12), type := 69, pos := "l04_note.go:22", after := #[{ on := 3, ground := Ground.data }], guard := none }) (v := ?vva4) rfl (by kernel_rfl) (by kernel_rfl) (by kernel_rfl) (fun _ _ _ h => h) (Or.inl ⟨by rfl, ?hya4⟩) S0 ?resta4
    case hya4 => (intro w hSw; have p0 := hSw.blk.cell;go_simp <;> with_reducible rfl)
    try simp only [Act.put, List.setIfInBounds_toArray, List.set_cons_zero, List.set_cons_succ]
    refine wpAnyH_ready (rs := [2]) (by kernel_rfl) (by simp) ?_
    refine AllReadyH.cons (o := { dst := some 11, op := Op.call { callee := Callee.value (Operand.func 69), args := #[Operand.tmp 10], argTypes := #[2] }, type := 9, pos := "l04_note.go:22", after := #[{ on := 1, ground := Ground.data }], guard := none }) rfl (fun K hK => ?_) AllReadyH.nil
    go_simp
    refine (HP.out _).mono ?_
    rintro e w1 ⟨rfl, hb1⟩
    replace S0 := S0.kept hb1
    clear hb1
    refine hK.out _ _ S0 (fun hHeld => ?_)
    clear hK K hHeld
    try simp only [Act.put, List.setIfInBounds_toArray, List.set_cons_zero, List.set_cons_succ]
    refine wpAnyH_ready (rs := [5]) (by kernel_rfl) (by simp) ?_
    refine AllReadyH.cons (o := { dst := some 14, op := Op.call { callee := Callee.value (Operand.func 89), args := #[Operand.tmp 13], argTypes := #[69] }, type := 9, pos := "l04_note.go:22", after := #[{ on := 4, ground := Ground.data }, { on := 2, ground := Ground.chain }], guard := none }) rfl (fun K hK => ?_) AllReadyH.nil
    go_simp
    refine (HL.out _).mono ?_
    rintro e w1 ⟨rfl, hb1⟩
    replace S0 := S0.kept hb1
    clear hb1
    refine hK.out _ _ S0 (fun hHeld => ?_)
    clear hK K hHeld
    try simp only [Act.put, List.setIfInBounds_toArray, List.set_cons_zero, List.set_cons_succ]
    refine wpAnyH_take (i := 6) (oi := { dst := some 15, op := Op.binOp BinOp.add 9 (Operand.tmp 11) (Operand.tmp 14) 9, type := 9, pos := "l04_note.go:22", after := #[{ on := 2, ground := Ground.data }, { on := 5, ground := Ground.data }], guard := none }) (v := ?vva5) rfl (by kernel_rfl) (by kernel_rfl) (by kernel_rfl) (fun _ _ _ h => h) (Or.inl ⟨by rfl, ?hya5⟩) S0 ?resta5
    case hya5 => (intro w hSw; have p0 := hSw.blk.cell;go_simp <;> with_reducible rfl)
    try simp only [Act.put, List.setIfInBounds_toArray, List.set_cons_zero, List.set_cons_succ]
    refine wpAnyH_take (i := 7) (oi := { dst := some 2, op := Op.assign (Operand.tmp 15), type := 9, pos := "l04_note.go:22", after := #[{ on := 6, ground := Ground.data }, { on := 5, ground := Ground.chain }, { on := 0, ground := Ground.phase }, { on := 1, ground := Ground.phase }, { on := 2, ground := Ground.phase }, { on := 3, ground := Ground.phase }, { on := 4, ground := Ground.phase }, { on := 5, ground := Ground.phase }, { on := 6, ground := Ground.phase }], guard := none }) (v := ?vva6) rfl (by kernel_rfl) (by kernel_rfl) (by kernel_rfl) (fun _ _ _ h => h) (Or.inl ⟨by rfl, ?hya6⟩) S0 ?resta6
    case hya6 => (intro w hSw; have p0 := hSw.blk.cell;go_simp <;> with_reducible rfl)
    try simp only [Act.put, List.setIfInBounds_toArray, List.set_cons_zero, List.set_cons_succ]
    refine wpAnyH_done (by kernel_rfl) ?_ _
    go_wp2_with fail
    go_ret
    exact ⟨rfl, S0.low⟩
set_option maxHeartbeats 1000000 in
theorem specNoteBytes_any (K : Int) (r : Rt) (w : World) : Calls Try.prog 54 #[ntV K r] w fun e w' => e = .returned (.string (ntBytes K r)) ∧ Below w.heap.size w w' := by
  have HR := Lib.hid (specNoteRight_any K r)
  cases hn : ntRight K r
  · rw [ntB_none hn]
    rw [hn] at HR
    unfold ntV at *
    go_enter Try.func54, Try.ntmps54
    go_wp2_with (refine (HR.out _).mono ?_; rintro e w1 ⟨rfl, hb1⟩; have HB : Hid (Below w.heap.size w w1) := Lib.hid (((Below.refl _ _).alloc (Nat.le_refl _) _).trans (hb1.mono (by simp))); clear hb1)
    go_ret
    exact ⟨rfl, HB.out⟩
  · have HL := Lib.hid (specL04Bytes_any K r hn)
    rw [hn] at HR
    clear hn
    generalize ntBytes K r = q at *
    unfold ntV at *
    go_enter Try.func54, Try.ntmps54
    go_wp2_with (first | (go_at_call 91; refine (HR.out _).mono ?_; rintro e w1 ⟨rfl, hb1⟩; have HB : Hid (Below w.heap.size w w1) := Lib.hid (((Below.refl _ _).alloc (Nat.le_refl _) _).trans (hb1.mono (by simp))); have hc : ∀ o, w1.cell? ⟨w.heap.size, o, none⟩ = _ := fun o => hb1.cell (p := ⟨w.heap.size, o, none⟩) (by simp); clear hb1) | (go_at_call 92; refine (HL.out _).mono ?_; rintro e w2 ⟨rfl, hb2⟩; replace HB : Hid (Below w.heap.size w w2) := Lib.hid (HB.out.trans (hb2.mono HB.out.size)); clear hb2))
    go_ret
    exact ⟨rfl, HB.out⟩
end Go.Proofs.Ytfmhccmaeonbhaa
