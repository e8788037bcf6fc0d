/- Slices of routes: a law's own turned into the program's; two that hold the same are found equal. -/
import Derived.Test.YthhodnkcaefnnaaSl
import Derived.Test.YthhodnkcaefnnaaRtB
import Derived.Deep.RegionHeld3
namespace Go.Proofs.Ythhodnkcaefnnaa
open Go.RowKit

def Rt.cl (r : Rt) : List Value := [.int .i64 r.kind, .int .i64 r.vni, .int .i64 r.mac, .int .i64 r.ip, .int .i64 r.org, .int .i64 r.seq, .bool r.st]
abbrev RtsAt (W : World) (v : Value) (rs : List Rt) : Prop := SlAt W 7 v (rs.map Rt.cl)
/- the cells of one of them -/
theorem Elems.rt {W : World} {b off : Nat} {rs : List Rt} (h : Elems W b off 7 (rs.map Rt.cl)) (i : Nat) (hi : i < rs.length) :
    W.cell? ⟨b, off + i * 7, none⟩ = some (.int .i64 (rs[i]).kind) ∧ W.cell? ⟨b, off + i * 7 + 1, none⟩ = some (.int .i64 (rs[i]).vni) ∧ W.cell? ⟨b, off + i * 7 + 2, none⟩ = some (.int .i64 (rs[i]).mac) ∧
    W.cell? ⟨b, off + i * 7 + 3, none⟩ = some (.int .i64 (rs[i]).ip) ∧ W.cell? ⟨b, off + i * 7 + 4, none⟩ = some (.int .i64 (rs[i]).org) ∧ W.cell? ⟨b, off + i * 7 + 5, none⟩ = some (.int .i64 (rs[i]).seq) ∧ W.cell? ⟨b, off + i * 7 + 6, none⟩ = some (.bool (rs[i]).st) := by
  have k := h i (rs[i]).cl (by rw [List.getElem?_map, List.getElem?_eq_getElem hi]; rfl)
  exact ⟨k 0 _ rfl, k 1 _ rfl, k 2 _ rfl, k 3 _ rfl, k 4 _ rfl, k 5 _ rfl, k 6 _ rfl⟩
theorem Elems.below {W W' : World} {b off sz B : Nat} {vs : List (List Value)} (h : Elems W b off sz vs) (hb : Below B W W') (hl : b < B) : Elems W' b off sz vs :=
  fun i cs hi j u hj => (hb.cell (p := ⟨b, off + i * sz + j, none⟩) hl).trans (h i cs hi j u hj)
set_option maxHeartbeats 2000000 in
theorem eqRouteS_same (rs : List Rt) (v v' : Value) (w : World) (h : RtsAt w v rs) (h' : RtsAt w v' rs) (hn : rs.length ≤ 1048576) :
    Calls Try.prog 22 #[v, v'] w fun e w' => e = .returned (.bool true) ∧ Below w.heap.size w w' := by
  obtain ⟨a, cap, rfl, h⟩ := h
  obtain ⟨a', cap', rfl, h'⟩ := h'
  rw [List.length_map] at *
  have HH := Lib.hid h
  have HH' := Lib.hid h'
  clear h h'
  obtain ⟨n, hnn⟩ : ∃ n, n = rs.length := ⟨_, rfl⟩
  rw [← hnn] at hn ⊢
  have HN := Lib.hid hnn
  clear hnn
  go_enter Try.func22, Try.ntmps22
  go_wp2_with fail
  go_loopw [5] (fun u wr => ∃ i : Nat, i ≤ n ∧ u = .int .i64 (i : Int) ∧ Hid (Below w.heap.size w wr)) (fun u _ => n - (intOf u).toNat)
  case atStart => exact ⟨0, Nat.zero_le _, rfl, Lib.hid (Below.refl _ _)⟩
  case round =>
    obtain ⟨i, hi, rfl, HB⟩ := hrel
    by_cases hlt : i < n
    · have hne : rs.map Rt.cl ≠ [] := fun e => by
        have := congrArg List.length e
        rw [List.length_map, ← HN.out] at this
        simp at this; omega
      obtain ⟨b, off, ha, hb, HE⟩ := HH.out hne
      obtain ⟨b', off', ha', hb', HE'⟩ := HH'.out hne
      subst ha ha'
      have hir : i < rs.length := by rw [← HN.out]; exact hlt
      have hl1 : (i : Int) < n := by omega
      have HQ := Lib.hid (eqRoute_same (rs[i]).kind (rs[i]).vni (rs[i]).mac (rs[i]).ip (rs[i]).org (rs[i]).seq (rs[i]).st)
      have S0 : Below w.heap.size w wr.drew := HB.out.drew
      go_wp2_with fail
      refine wp_region_held_drew (S := fun W' => Below w.heap.size w W') (by kernel_rfl) S0 (fun hHeld => ?_)
      clear hHeld
      refine wpAnyH_take (i := 0) (oi := { dst := some 17, op := Op.move (Operand.tmp 0), type := 35, pos := "exact.go:377", after := #[], guard := none }) (v := ?vva1) rfl (by kernel_rfl) (by kernel_rfl) (by kernel_rfl) (fun _ _ _ h => h) (Or.inl ⟨by rfl, ?hya1⟩) S0 ?resta1
      case hya1 => (intro w hSw; obtain ⟨p0, p1, p2, p3, p4, p5, p6⟩ := (HE.below hSw hb).rt i hir; obtain ⟨q0, q1, q2, q3, q4, q5, q6⟩ := (HE'.below hSw hb').rt i hir;go_simp <;> with_reducible rfl)
      try simp only [Act.put, List.setIfInBounds_toArray, List.set_cons_zero, List.set_cons_succ]
      refine wpAnyH_take (i := 1) (oi := { dst := some 18, op := Op.move (Operand.tmp 5), type := 3, pos := "exact.go:377", after := #[], guard := none }) (v := ?vva2) rfl (by kernel_rfl) (by kernel_rfl) (by kernel_rfl) (fun _ _ _ h => h) (Or.inl ⟨by rfl, ?hya2⟩) S0 ?resta2
      case hya2 => (intro w hSw; obtain ⟨p0, p1, p2, p3, p4, p5, p6⟩ := (HE.below hSw hb).rt i hir; obtain ⟨q0, q1, q2, q3, q4, q5, q6⟩ := (HE'.below hSw hb').rt i hir;go_simp <;> with_reducible rfl)
      try simp only [Act.put, List.setIfInBounds_toArray, List.set_cons_zero, List.set_cons_succ]
      refine wpAnyH_take (i := 2) (oi := { dst := some 19, op := Op.indexAddr 35 (Operand.tmp 17) (Operand.tmp 18), type := 0, pos := "exact.go:377", after := #[{ on := 0, ground := Ground.data }, { on := 1, ground := Ground.data }], guard := none }) (v := ?vva3) rfl (by kernel_rfl) (by kernel_rfl) (by kernel_rfl) (fun _ _ _ h => h) (Or.inl ⟨by rfl, ?hya3⟩) S0 ?resta3
      case hya3 => (intro w hSw; obtain ⟨p0, p1, p2, p3, p4, p5, p6⟩ := (HE.below hSw hb).rt i hir; obtain ⟨q0, q1, q2, q3, q4, q5, q6⟩ := (HE'.below hSw hb').rt i hir;go_simp <;> with_reducible rfl)
      try simp only [Act.put, List.setIfInBounds_toArray, List.set_cons_zero, List.set_cons_succ]
      refine wpAnyH_take (i := 3) (oi := { dst := some 20, op := Op.load 25 (Operand.tmp 19), type := 25, pos := "exact.go:377", after := #[{ on := 2, ground := Ground.data }], guard := none }) (v := ?vva4) rfl (by kernel_rfl) (by kernel_rfl) (by kernel_rfl) (fun _ _ _ h => h) (Or.inl ⟨by rfl, ?hya4⟩) S0 ?resta4
      case hya4 => (intro w hSw; obtain ⟨p0, p1, p2, p3, p4, p5, p6⟩ := (HE.below hSw hb).rt i hir; obtain ⟨q0, q1, q2, q3, q4, q5, q6⟩ := (HE'.below hSw hb').rt i hir;go_simp <;> with_reducible rfl)
      try simp only [Act.put, List.setIfInBounds_toArray, List.set_cons_zero, List.set_cons_succ]
      refine wpAnyH_take (i := 4) (oi := { dst := some 21, op := Op.move (Operand.tmp 1), type := 35, pos := "exact.go:377", after := #[], guard := none }) (v := ?vva5) rfl (by kernel_rfl) (by kernel_rfl) (by kernel_rfl) (fun _ _ _ h => h) (Or.inl ⟨by rfl, ?hya5⟩) S0 ?resta5
      case hya5 => (intro w hSw; obtain ⟨p0, p1, p2, p3, p4, p5, p6⟩ := (HE.below hSw hb).rt i hir; obtain ⟨q0, q1, q2, q3, q4, q5, q6⟩ := (HE'.below hSw hb').rt i hir;go_simp <;> with_reducible rfl)
      try simp only [Act.put, List.setIfInBounds_toArray, List.set_cons_zero, List.set_cons_succ]
      refine wpAnyH_take (i := 5) (oi := { dst := some 22, op := Op.move (Operand.tmp 5), type := 3, pos := "exact.go:377", after := #[], guard := none }) (v := ?vva6) rfl (by kernel_rfl) (by kernel_rfl) (by kernel_rfl) (fun _ _ _ h => h) (Or.inl ⟨by rfl, ?hya6⟩) S0 ?resta6
      case hya6 => (intro w hSw; obtain ⟨p0, p1, p2, p3, p4, p5, p6⟩ := (HE.below hSw hb).rt i hir; obtain ⟨q0, q1, q2, q3, q4, q5, q6⟩ := (HE'.below hSw hb').rt i hir;go_simp <;> with_reducible rfl)
      try simp only [Act.put, List.setIfInBounds_toArray, List.set_cons_zero, List.set_cons_succ]
      refine wpAnyH_take (i := 6) (oi := { dst := some 23, op := Op.indexAddr 35 (Operand.tmp 21) (Operand.tmp 22), type := 0, pos := "exact.go:377", after := #[{ on := 4, ground := Ground.data }, { on := 5, ground := Ground.data }], guard := none }) (v := ?vva7) rfl (by kernel_rfl) (by kernel_rfl) (by kernel_rfl) (fun _ _ _ h => h) (Or.inl ⟨by rfl, ?hya7⟩) S0 ?resta7
      case hya7 => (intro w hSw; obtain ⟨p0, p1, p2, p3, p4, p5, p6⟩ := (HE.below hSw hb).rt i hir; obtain ⟨q0, q1, q2, q3, q4, q5, q6⟩ := (HE'.below hSw hb').rt i hir;go_simp <;> with_reducible rfl)
      try simp only [Act.put, List.setIfInBounds_toArray, List.set_cons_zero, List.set_cons_succ]
      refine wpAnyH_take (i := 7) (oi := { dst := some 24, op := Op.load 25 (Operand.tmp 23), type := 25, pos := "exact.go:377", after := #[{ on := 6, ground := Ground.data }], guard := none }) (v := ?vva8) rfl (by kernel_rfl) (by kernel_rfl) (by kernel_rfl) (fun _ _ _ h => h) (Or.inl ⟨by rfl, ?hya8⟩) S0 ?resta8
      case hya8 => (intro w hSw; obtain ⟨p0, p1, p2, p3, p4, p5, p6⟩ := (HE.below hSw hb).rt i hir; obtain ⟨q0, q1, q2, q3, q4, q5, q6⟩ := (HE'.below hSw hb').rt i hir;go_simp <;> with_reducible rfl)
      try simp only [Act.put, List.setIfInBounds_toArray, List.set_cons_zero, List.set_cons_succ]
      refine wpAnyH_ready (rs := [8]) (by kernel_rfl) (by simp) ?_
      refine AllReadyH.cons (o := { dst := some 25, op := Op.call { callee := Callee.value (Operand.func 15), args := #[Operand.tmp 20, Operand.tmp 24], argTypes := #[25, 25] }, type := 4, pos := "exact.go:377", after := #[{ on := 3, ground := Ground.data }, { on := 7, ground := Ground.data }], guard := none }) rfl (fun K hK => ?_) AllReadyH.nil
      go_simp
      refine (HQ.out _).mono ?_
      rintro e w1 ⟨rfl, hb1⟩
      replace S0 := S0.trans (hb1.mono S0.size)
      clear hb1
      refine hK.out _ _ S0 (fun hHeld => ?_)
      clear hK K hHeld
      try simp only [Act.put, List.setIfInBounds_toArray, List.set_cons_zero, List.set_cons_succ]
      refine wpAnyH_take (i := 9) (oi := { dst := some 26, op := Op.unOp UnOp.not 4 (Operand.tmp 25), type := 4, pos := "exact.go:377", after := #[{ on := 8, ground := Ground.data }], guard := none }) (v := ?vva9) rfl (by kernel_rfl) (by kernel_rfl) (by kernel_rfl) (fun _ _ _ h => h) (Or.inl ⟨by rfl, ?hya9⟩) S0 ?resta9
      case hya9 => (intro w hSw; obtain ⟨p0, p1, p2, p3, p4, p5, p6⟩ := (HE.below hSw hb).rt i hir; obtain ⟨q0, q1, q2, q3, q4, q5, q6⟩ := (HE'.below hSw hb').rt i hir;go_simp <;> with_reducible rfl)
      try simp only [Act.put, List.setIfInBounds_toArray, List.set_cons_zero, List.set_cons_succ]
      refine wpAnyH_done (by kernel_rfl) ?_ _
      go_wp2_with fail
      go_roundw
      case rel => exact ⟨i + 1, by omega, by simp, Lib.hid S0⟩
      case measure => simp [intOf]; omega
    · have : i = n := by omega
      subst this
      go_wp2_with fail
      go_ret
      exact ⟨rfl, HB.out⟩

/- a row of routes that is being filled: the first i are there -/
def Filling (W : World) (g n : Nat) (t : TypeId) (rs : List Rt) (i : Nat) : Prop := ∃ cur, Blk W g t cur ∧ cur.size = n * 7 ∧ ∀ k, k < i → ∀ (hk : k < rs.length) j, j < 7 → cur[k * 7 + j]? = (rs[k]).cl[j]?
theorem Filling.kept {W W' : World} {g n i : Nat} {t : TypeId} {rs : List Rt} (h : Filling W g n t rs i) (hb : Below W.heap.size W W') : Filling W' g n t rs i := by
  obtain ⟨cur, h1, h2, h3⟩ := h
  exact ⟨cur, h1.kept hb, h2, h3⟩
theorem Filling.cell {W : World} {g n i : Nat} {t : TypeId} {rs : List Rt} (h : Filling W g n t rs i) (hi : i < n) (j : Nat) (hj : j < 7) : ∃ z, W.cell? ⟨g, i * 7 + j, none⟩ = some z := by
  obtain ⟨cur, h1, h2, h3⟩ := h
  rw [h1.cell]
  exact ⟨cur[i * 7 + j]'(by omega), Array.getElem?_eq_getElem _⟩
theorem Filling.frozen {W : World} {g n i : Nat} {t : TypeId} {rs : List Rt} (h : Filling W g n t rs i) (o : Nat) : W.frozen? ⟨g, o, none⟩ = false := by
  obtain ⟨cur, h1, _⟩ := h
  exact h1.frozen o
theorem Filling.lt {W : World} {g n i : Nat} {t : TypeId} {rs : List Rt} (h : Filling W g n t rs i) : g < W.heap.size := by
  obtain ⟨cur, h1, _⟩ := h
  exact h1.lt
theorem Filling.step {W : World} {g n i : Nat} {t : TypeId} {rs : List Rt} (h : Filling W g n t rs i) (hi : i < n) (hr : i < rs.length) :
    Filling (((((((W.setCell ⟨g, i * 7, none⟩ (.int .i64 (rs[i]).kind)).setCell ⟨g, i * 7 + 1, none⟩ (.int .i64 (rs[i]).vni)).setCell ⟨g, i * 7 + 2, none⟩ (.int .i64 (rs[i]).mac)).setCell ⟨g, i * 7 + 3, none⟩ (.int .i64 (rs[i]).ip)).setCell ⟨g, i * 7 + 4, none⟩ (.int .i64 (rs[i]).org)).setCell ⟨g, i * 7 + 5, none⟩ (.int .i64 (rs[i]).seq)).setCell ⟨g, i * 7 + 6, none⟩ (.bool (rs[i]).st)) g n t rs (i + 1) := by
  obtain ⟨cur, h1, h2, h3⟩ := h
  refine ⟨_, ((((((h1.set _ _).set _ _).set _ _).set _ _).set _ _).set _ _).set _ _, by simp [h2], fun k hk hkr j hj => ?_⟩
  by_cases hki : k = i
  · subst hki
    have hc : j = 0 ∨ j = 1 ∨ j = 2 ∨ j = 3 ∨ j = 4 ∨ j = 5 ∨ j = 6 := by omega
    rcases hc with rfl | rfl | rfl | rfl | rfl | rfl | rfl
    all_goals
      simp only [Array.getElem?_setIfInBounds, Array.size_setIfInBounds, h2]
      simp [Rt.cl]
      try omega
  · rw [← h3 k (by omega) hkr j hj]
    rw [Array.getElem?_setIfInBounds_ne (by omega), Array.getElem?_setIfInBounds_ne (by omega), Array.getElem?_setIfInBounds_ne (by omega), Array.getElem?_setIfInBounds_ne (by omega), Array.getElem?_setIfInBounds_ne (by omega), Array.getElem?_setIfInBounds_ne (by omega), Array.getElem?_setIfInBounds_ne (by omega)]
theorem Filling.done {W : World} {g n : Nat} {t : TypeId} {rs : List Rt} (h : Filling W g n t rs n) (hn : rs.length = n) : RtsAt W (.slice (some ⟨g, 0, none⟩) n n) rs := by
  obtain ⟨cur, h1, h2, h3⟩ := h
  refine ⟨some ⟨g, 0, none⟩, n, by rw [List.length_map, hn], fun _ => ⟨g, 0, rfl, h1.lt, fun i cs hi j u hj => ?_⟩⟩
  have hir : i < rs.length := by have := (List.getElem?_eq_some_iff.1 hi).1; simpa using this
  have hcs : cs = (rs[i]).cl := by rw [List.getElem?_map, List.getElem?_eq_getElem hir] at hi; simpa using hi.symm
  subst hcs
  have hj7 : j < 7 := by have := (List.getElem?_eq_some_iff.1 hj).1; simpa [Rt.cl] using this
  rw [h1.cell, Nat.zero_add, h3 i (by omega) hir j hj7, hj]
end Go.Proofs.Ythhodnkcaefnnaa
