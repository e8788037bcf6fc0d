/- Better, of the program. -/
import Derived.Test.YthhodnkcaefnnaaRtD
namespace Go.Proofs.Ythhodnkcaefnnaa
open Go.RowKit

theorem pref_better (a b : Rt) : prefR a.vni a.mac a b = betterB a b := by
  unfold prefR betterB hasR
  by_cases h1 : a.vni = b.vni
  · by_cases h2 : a.mac = b.mac
    · rw [← h1, ← h2]
      cases a.right <;> cases b.right <;> cases decide (a.kind = 2) <;> cases decide (b.kind = 2) <;> simp
    · have h3 : ¬ (b.vni = a.vni ∧ b.mac = a.mac) := fun h => h2 h.2.symm
      simp [h2, h3]
  · have h3 : ¬ (b.vni = a.vni ∧ b.mac = a.mac) := fun h => h1 h.1.symm
    simp [h1, h3]
abbrev BtAt (w W : World) (B : Nat) (a b : Rt) : Prop := (∀ o, W.cell? ⟨B, o, none⟩ = a.cells[o]?) ∧ (∀ o, W.cell? ⟨B + 1, o, none⟩ = b.cells[o]?) ∧ B + 1 < W.heap.size ∧ Below w.heap.size w W
theorem BtAt.keep {w W W' : World} {B : Nat} {a b : Rt} (h : BtAt w W B a b) (hb : Below W.heap.size W W') : BtAt w W' B a b := by
  obtain ⟨h0, h1, h2, hl⟩ := h
  exact ⟨fun o => (hb.cell (p := ⟨B, o, none⟩) (by dsimp only; omega)).trans (h0 o), fun o => (hb.cell (p := ⟨B + 1, o, none⟩) h2).trans (h1 o), Nat.lt_of_lt_of_le h2 hb.size, hl.trans (hb.mono hl.size)⟩
set_option maxHeartbeats 2000000 in
theorem implBetter_any (a b : Rt) (w : World) : Calls Try.prog 17 #[a.val, b.val] w fun e w' => e = .returned (.bool (betterB a b)) ∧ Below w.heap.size w w' := by
  have HG := Lib.hid (guestOf_any a)
  have HP := Lib.hid (prefers_any a.vni a.mac a b)
  rw [pref_better] at HP
  generalize betterB a b = r at *
  obtain ⟨k, av, am, i, o, s, t⟩ := a
  obtain ⟨k', v', m', i', o', s', t'⟩ := b
  unfold Rt.val rtV gnV at *
  dsimp only at HG HP ⊢
  go_enter Try.func17, Try.ntmps17
  go_wp2_with fail
  obtain ⟨W, hW⟩ : ∃ W, W = (w.alloc (.cells #[.int .i64 k, .int .i64 av, .int .i64 am, .int .i64 i, .int .i64 o, .int .i64 s, .bool t] 25)).alloc (.cells #[.int .i64 k', .int .i64 v', .int .i64 m', .int .i64 i', .int .i64 o', .int .i64 s', .bool t'] 25) := ⟨_, rfl⟩
  rw [← hW]
  have S0 : BtAt w W.drew w.heap.size ⟨k, av, am, i, o, s, t⟩ ⟨k', v', m', i', o', s', t'⟩ := by
    subst hW; exact ⟨fun o => by simp [Rt.cells], fun o => by simp [Rt.cells], by simp, (((Below.refl _ _).alloc (Nat.le_refl _) _).alloc (by simp) _).drew⟩
  clear hW
  refine wp_region_held_drew (S := fun W' => BtAt w W' w.heap.size ⟨k, av, am, i, o, s, t⟩ ⟨k', v', m', i', o', s', t'⟩) (by kernel_rfl) S0 (fun hHeld => ?_)
  clear hHeld
  refine wpAnyH_take (i := 0) (oi := { dst := some 5, op := Op.load 25 (Operand.tmp 2), type := 25, pos := "l03_route.go:153", after := #[], guard := none }) (v := ?vva0) rfl (by kernel_rfl) (by kernel_rfl) (by kernel_rfl) (fun _ _ _ h => h) (Or.inl ⟨by rfl, ?hya0⟩) S0 ?resta0
  case hya0 => (intro w hSw; obtain ⟨hS0, hS1, hS2, hS3⟩ := hSw; unfold Rt.cells at hS0 hS1;go_simp <;> with_reducible rfl)
  try simp only [Act.put, List.setIfInBounds_toArray, List.set_cons_zero, List.set_cons_succ]
  refine wpAnyH_take (i := 2) (oi := { dst := some 7, op := Op.load 25 (Operand.tmp 2), type := 25, pos := "l03_route.go:153", after := #[], guard := none }) (v := ?vva2) rfl (by kernel_rfl) (by kernel_rfl) (by kernel_rfl) (fun _ _ _ h => h) (Or.inl ⟨by rfl, ?hya2⟩) S0 ?resta2
  case hya2 => (intro w hSw; obtain ⟨hS0, hS1, hS2, hS3⟩ := hSw; unfold Rt.cells at hS0 hS1;go_simp <;> with_reducible rfl)
  try simp only [Act.put, List.setIfInBounds_toArray, List.set_cons_zero, List.set_cons_succ]
  refine wpAnyH_take (i := 3) (oi := { dst := some 8, op := Op.load 25 (Operand.tmp 3), type := 25, pos := "l03_route.go:153", after := #[], guard := none }) (v := ?vva3) rfl (by kernel_rfl) (by kernel_rfl) (by kernel_rfl) (fun _ _ _ h => h) (Or.inl ⟨by rfl, ?hya3⟩) S0 ?resta3
  case hya3 => (intro w hSw; obtain ⟨hS0, hS1, hS2, hS3⟩ := hSw; unfold Rt.cells at hS0 hS1;go_simp <;> with_reducible rfl)
  try simp only [Act.put, List.setIfInBounds_toArray, List.set_cons_zero, List.set_cons_succ]
  refine wpAnyH_ready (rs := [1]) (by kernel_rfl) (by simp) ?_
  refine AllReadyH.cons (o := { dst := some 6, op := Op.call { callee := Callee.value (Operand.func 38), args := #[Operand.tmp 5], argTypes := #[25] }, type := 46, pos := "l03_route.go:153", after := #[{ on := 0, ground := Ground.data }], guard := none }) rfl (fun K hK => ?_) AllReadyH.nil
  go_simp
  refine (HG.out _).mono ?_
  rintro e w1 ⟨rfl, hb1⟩
  replace S0 := S0.keep hb1
  clear hb1
  refine hK.out _ _ S0 (fun hHeld => ?_)
  clear hK K hHeld
  try simp only [Act.put, List.setIfInBounds_toArray, List.set_cons_zero, List.set_cons_succ]
  refine wpAnyH_ready (rs := [4]) (by kernel_rfl) (by simp) ?_
  refine AllReadyH.cons (o := { dst := some 9, op := Op.call { callee := Callee.value (Operand.func 39), args := #[Operand.tmp 6, Operand.tmp 7, Operand.tmp 8], argTypes := #[46, 25, 25] }, type := 4, pos := "l03_route.go:153", after := #[{ on := 1, ground := Ground.data }, { on := 2, ground := Ground.data }, { on := 3, ground := Ground.data }, { on := 1, ground := Ground.chain }], guard := none }) rfl (fun K hK => ?_) AllReadyH.nil
  go_simp
  refine (HP.out _).mono ?_
  rintro e w1 ⟨rfl, hb1⟩
  replace S0 := S0.keep hb1
  clear hb1
  refine hK.out _ _ S0 (fun hHeld => ?_)
  clear hK K hHeld
  try simp only [Act.put, List.setIfInBounds_toArray, List.set_cons_zero, List.set_cons_succ]
  refine wpAnyH_take (i := 5) (oi := { dst := some 4, op := Op.assign (Operand.tmp 9), type := 4, pos := "l03_route.go:153", after := #[{ on := 4, ground := Ground.data }, { on := 4, ground := Ground.chain }, { on := 0, ground := Ground.phase }, { on := 1, ground := Ground.phase }, { on := 2, ground := Ground.phase }, { on := 3, ground := Ground.phase }, { on := 4, ground := Ground.phase }], guard := none }) (v := ?vva5) rfl (by kernel_rfl) (by kernel_rfl) (by kernel_rfl) (fun _ _ _ h => h) (Or.inl ⟨by rfl, ?hya5⟩) S0 ?resta5
  case hya5 => (intro w hSw; obtain ⟨hS0, hS1, hS2, hS3⟩ := hSw; unfold Rt.cells at hS0 hS1;go_simp <;> with_reducible rfl)
  try simp only [Act.put, List.setIfInBounds_toArray, List.set_cons_zero, List.set_cons_succ]
  refine wpAnyH_done (by kernel_rfl) ?_ _
  go_wp2_with fail
  go_ret
  exact ⟨rfl, S0.2.2.2⟩
end Go.Proofs.Ythhodnkcaefnnaa
