/- A heap of held routes: its methods. -/
import Derived.Test.YthdldanfmdnlfabHpM
import Derived.Test.YthdldanfmdnlfabRHd
import Derived.Test.YthdldanfmdnlfabApR
namespace Go.Proofs.Ythdldanfmdnlfab
open Go.RowKit

structure HpAt (W : World) (B hb : Nat) (es : List Hd) (a : Option Addr) (c : Nat) : Prop where
  box : Blk W hb 116 #[.slice a es.length c]
  row : W.ownsRow B 74 9 (.slice a es.length c) es.length (rcells Hd.cl es)
/- nothing but the heap's own two blocks has turned -/
structure Hp2 (w w' : World) (hb : Nat) (v v' : Value) : Prop where
  os : w'.os = w.os
  tape : w'.tape = w.tape
  output : w'.output = w.output
  size : w.heap.size ≤ w'.heap.size
  block : ∀ k, k < w.heap.size → k ≠ hb → some k ≠ v.ownBlock → w'.heap[k]? = w.heap[k]?
  own : ∀ k, v'.ownBlock = some k → v.ownBlock = some k ∨ w.heap.size ≤ k
theorem Hp2.of_below {w w' : World} {hb : Nat} {v v' : Value} (h : Below w.heap.size w w') (hv : v'.ownBlock = v.ownBlock) : Hp2 w w' hb v v' := ⟨h.os, h.tape, h.output, h.size, fun k hk _ _ => h.block k hk, fun k hk => .inl (by rw [← hv]; exact hk)⟩
theorem Hp2.trans {a b c : World} {hb : Nat} {u v x : Value} (h : Hp2 a b hb u v) (k : Hp2 b c hb v x) : Hp2 a c hb u x := by
  refine ⟨k.os.trans h.os, k.tape.trans h.tape, k.output.trans h.output, Nat.le_trans h.size k.size, fun i hi h1 h2 => ?_, fun i hi => ?_⟩
  · refine (k.block i (Nat.lt_of_lt_of_le hi h.size) h1 (fun e => ?_)).trans (h.block i hi h1 h2)
    rcases h.own i e.symm with e2 | e2
    · exact h2 e2.symm
    · omega
  · rcases k.own i hi with e | e
    · exact h.own i e
    · exact .inr (Nat.le_trans h.size e)
/- the row's elements -/
theorem HpAt.sl {W : World} {B hb c : Nat} {es : List Hd} {a : Option Addr} (h : HpAt W B hb es a c) : SlAt W 9 (.slice a es.length c) (es.map Hd.cl) := rows_of_own Hd.cl_len h.row
theorem HpAt.kept {W W' : World} {B hb c : Nat} {es : List Hd} {a : Option Addr} (h : HpAt W B hb es a c) (hb1 : Below W.heap.size W W') : HpAt W' B hb es a c := ⟨h.box.kept hb1, rown_below h.row hb1⟩

theorem hpLen_any (n c : Nat) (a : Option Addr) (w : World) : Calls Try.prog 107 #[.slice a n c] w fun e w' => e = .returned (.int .i64 (n : Int)) ∧ w = w' := by
  go_enter Try.func107, Try.ntmps107
  go_wp2
  go_ret
  exact ⟨rfl, rfl⟩
theorem less_dec (a b : Hd) : decide (cmpH a b < 0) = lessH a b := by
  have := cmpH_neg a b
  cases h : lessH a b
  · rw [h] at this; simpa using this
  · rw [h] at this; simpa using this
set_option maxRecDepth 100000 in
set_option maxHeartbeats 2000000 in
theorem hpLess_any (es : List Hd) (c : Nat) (a : Option Addr) (i j : Nat) (w : World) (h : SlAt w 9 (.slice a es.length c) (es.map Hd.cl)) (hi : i < es.length) (hj : j < es.length) :
    Calls Try.prog 185 #[.slice a es.length c, .int .i64 (i : Int), .int .i64 (j : Int)] w fun e w' => e = .returned (.bool (lessH (gH es i) (gH es j))) ∧ Below w.heap.size w w' := by
  rw [gH_eq hi, gH_eq hj]
  obtain ⟨a', c', e, h⟩ := h
  injection e with e1 e2 e3
  subst e1 e3
  obtain ⟨b, off, rfl, hbl, hE⟩ := h (fun e => by have := congrArg List.length e; simp at this; rw [this] at hi; simp at hi)
  have HI := Lib.hid (fun (W' : World) (hS : Below w.heap.size w W') => (Elems.below1 hE hS hbl).hd i hi)
  have HJ := Lib.hid (fun (W' : World) (hS : Below w.heap.size w W') => (Elems.below1 hE hS hbl).hd j hj)
  have HC := Lib.hid (compareHeld_any es[i] es[j])
  have HD := Lib.hid (less_dec es[i] es[j])
  unfold Hd.val at HC
  clear hE h e2
  generalize es[i] = x at *
  generalize es[j] = y at *
  generalize cmpH x y = r at *
  generalize lessH x y = R at *
  obtain ⟨n, hnn⟩ : ∃ n, n = es.length := ⟨_, rfl⟩
  rw [← hnn] at hi hj ⊢
  clear hnn
  have S0 : Below w.heap.size w w.drew := (Below.refl _ _).drew
  go_enter Try.func185, Try.ntmps185
  go_wp2_with fail
  refine wp_region_held_drew (S := fun W' => Below w.heap.size w W') (by kernel_rfl) S0 (fun hHeld => ?_)
  clear hHeld
  refine wpAnyH_take (i := 0) (oi := { dst := some 7, op := Op.move (Operand.tmp 0), type := 116, pos := "l06_rib.go:59", after := #[], guard := none }) (v := ?vva1) rfl (by kernel_rfl) (by kernel_rfl) (by kernel_rfl) (fun _ _ _ h => h) (Or.inl ⟨by rfl, ?hya1⟩) S0 ?resta1
  case hya1 => (intro w hSw; obtain ⟨p0, p1, p2, p3, p4, p5, p6, p7, p8⟩ := HI.out _ hSw; obtain ⟨q0, q1, q2, q3, q4, q5, q6, q7, q8⟩ := HJ.out _ hSw;go_simp <;> with_reducible rfl)
  try simp only [Act.put, List.setIfInBounds_toArray, List.set_cons_zero, List.set_cons_succ]
  refine wpAnyH_take (i := 1) (oi := { dst := some 8, op := Op.move (Operand.tmp 1), type := 3, pos := "l06_rib.go:59", after := #[], guard := none }) (v := ?vva2) rfl (by kernel_rfl) (by kernel_rfl) (by kernel_rfl) (fun _ _ _ h => h) (Or.inl ⟨by rfl, ?hya2⟩) S0 ?resta2
  case hya2 => (intro w hSw; obtain ⟨p0, p1, p2, p3, p4, p5, p6, p7, p8⟩ := HI.out _ hSw; obtain ⟨q0, q1, q2, q3, q4, q5, q6, q7, q8⟩ := HJ.out _ hSw;go_simp <;> with_reducible rfl)
  try simp only [Act.put, List.setIfInBounds_toArray, List.set_cons_zero, List.set_cons_succ]
  refine wpAnyH_take (i := 2) (oi := { dst := some 9, op := Op.indexAddr 116 (Operand.tmp 7) (Operand.tmp 8), type := 0, pos := "l06_rib.go:59", after := #[{ on := 0, ground := Ground.data }, { on := 1, ground := Ground.data }], guard := none }) (v := ?vva3) rfl (by kernel_rfl) (by kernel_rfl) (by kernel_rfl) (fun _ _ _ h => h) (Or.inl ⟨by rfl, ?hya3⟩) S0 ?resta3
  case hya3 => (intro w hSw; obtain ⟨p0, p1, p2, p3, p4, p5, p6, p7, p8⟩ := HI.out _ hSw; obtain ⟨q0, q1, q2, q3, q4, q5, q6, q7, q8⟩ := HJ.out _ hSw;go_simp <;> with_reducible rfl)
  try simp only [Act.put, List.setIfInBounds_toArray, List.set_cons_zero, List.set_cons_succ]
  refine wpAnyH_take (i := 3) (oi := { dst := some 10, op := Op.load 74 (Operand.tmp 9), type := 74, pos := "l06_rib.go:59", after := #[{ on := 2, ground := Ground.data }], guard := none }) (v := ?vva4) rfl (by kernel_rfl) (by kernel_rfl) (by kernel_rfl) (fun _ _ _ h => h) (Or.inl ⟨by rfl, ?hya4⟩) S0 ?resta4
  case hya4 => (intro w hSw; obtain ⟨p0, p1, p2, p3, p4, p5, p6, p7, p8⟩ := HI.out _ hSw; obtain ⟨q0, q1, q2, q3, q4, q5, q6, q7, q8⟩ := HJ.out _ hSw;go_simp <;> with_reducible rfl)
  try simp only [Act.put, List.setIfInBounds_toArray, List.set_cons_zero, List.set_cons_succ]
  refine wpAnyH_take (i := 4) (oi := { dst := some 11, op := Op.move (Operand.tmp 0), type := 116, pos := "l06_rib.go:59", after := #[], guard := none }) (v := ?vva5) rfl (by kernel_rfl) (by kernel_rfl) (by kernel_rfl) (fun _ _ _ h => h) (Or.inl ⟨by rfl, ?hya5⟩) S0 ?resta5
  case hya5 => (intro w hSw; obtain ⟨p0, p1, p2, p3, p4, p5, p6, p7, p8⟩ := HI.out _ hSw; obtain ⟨q0, q1, q2, q3, q4, q5, q6, q7, q8⟩ := HJ.out _ hSw;go_simp <;> with_reducible rfl)
  try simp only [Act.put, List.setIfInBounds_toArray, List.set_cons_zero, List.set_cons_succ]
  refine wpAnyH_take (i := 5) (oi := { dst := some 12, op := Op.move (Operand.tmp 2), type := 3, pos := "l06_rib.go:59", after := #[], guard := none }) (v := ?vva6) rfl (by kernel_rfl) (by kernel_rfl) (by kernel_rfl) (fun _ _ _ h => h) (Or.inl ⟨by rfl, ?hya6⟩) S0 ?resta6
  case hya6 => (intro w hSw; obtain ⟨p0, p1, p2, p3, p4, p5, p6, p7, p8⟩ := HI.out _ hSw; obtain ⟨q0, q1, q2, q3, q4, q5, q6, q7, q8⟩ := HJ.out _ hSw;go_simp <;> with_reducible rfl)
  try simp only [Act.put, List.setIfInBounds_toArray, List.set_cons_zero, List.set_cons_succ]
  refine wpAnyH_take (i := 6) (oi := { dst := some 13, op := Op.indexAddr 116 (Operand.tmp 11) (Operand.tmp 12), type := 0, pos := "l06_rib.go:59", after := #[{ on := 4, ground := Ground.data }, { on := 5, ground := Ground.data }], guard := none }) (v := ?vva7) rfl (by kernel_rfl) (by kernel_rfl) (by kernel_rfl) (fun _ _ _ h => h) (Or.inl ⟨by rfl, ?hya7⟩) S0 ?resta7
  case hya7 => (intro w hSw; obtain ⟨p0, p1, p2, p3, p4, p5, p6, p7, p8⟩ := HI.out _ hSw; obtain ⟨q0, q1, q2, q3, q4, q5, q6, q7, q8⟩ := HJ.out _ hSw;go_simp <;> with_reducible rfl)
  try simp only [Act.put, List.setIfInBounds_toArray, List.set_cons_zero, List.set_cons_succ]
  refine wpAnyH_take (i := 7) (oi := { dst := some 14, op := Op.load 74 (Operand.tmp 13), type := 74, pos := "l06_rib.go:59", after := #[{ on := 6, ground := Ground.data }], guard := none }) (v := ?vva8) rfl (by kernel_rfl) (by kernel_rfl) (by kernel_rfl) (fun _ _ _ h => h) (Or.inl ⟨by rfl, ?hya8⟩) S0 ?resta8
  case hya8 => (intro w hSw; obtain ⟨p0, p1, p2, p3, p4, p5, p6, p7, p8⟩ := HI.out _ hSw; obtain ⟨q0, q1, q2, q3, q4, q5, q6, q7, q8⟩ := HJ.out _ hSw;go_simp <;> with_reducible rfl)
  try simp only [Act.put, List.setIfInBounds_toArray, List.set_cons_zero, List.set_cons_succ]
  refine wpAnyH_ready (rs := [8]) (by kernel_rfl) (by simp) ?_
  refine AllReadyH.cons (o := { dst := some 15, op := Op.call { callee := Callee.value (Operand.func 113), args := #[Operand.tmp 10, Operand.tmp 14], argTypes := #[74, 74] }, type := 3, pos := "l06_rib.go:59", after := #[{ on := 3, ground := Ground.data }, { on := 7, ground := Ground.data }], guard := none }) rfl (fun K hK => ?_) AllReadyH.nil
  go_simp
  refine (HC.out _).mono ?_
  rintro e w1 ⟨rfl, hb1⟩
  replace S0 := S0.trans (hb1.mono S0.size)
  clear hb1
  refine hK.out _ _ S0 (fun hHeld => ?_)
  clear hK K hHeld
  try simp only [Act.put, List.setIfInBounds_toArray, List.set_cons_zero, List.set_cons_succ]
  refine wpAnyH_take (i := 9) (oi := { dst := some 16, op := Op.binOp BinOp.lss 3 (Operand.tmp 15) (Operand.const (Value.int IntKind.i64 0)) 3, type := 4, pos := "l06_rib.go:59", after := #[{ on := 8, ground := Ground.data }], guard := none }) (v := ?vva9) rfl (by kernel_rfl) (by kernel_rfl) (by kernel_rfl) (fun _ _ _ h => h) (Or.inl ⟨by rfl, ?hya9⟩) S0 ?resta9
  case hya9 => (intro w hSw; obtain ⟨p0, p1, p2, p3, p4, p5, p6, p7, p8⟩ := HI.out _ hSw; obtain ⟨q0, q1, q2, q3, q4, q5, q6, q7, q8⟩ := HJ.out _ hSw;go_simp <;> with_reducible rfl)
  try simp only [Act.put, List.setIfInBounds_toArray, List.set_cons_zero, List.set_cons_succ]
  refine wpAnyH_take (i := 10) (oi := { dst := some 6, op := Op.assign (Operand.tmp 16), type := 4, pos := "l06_rib.go:59", after := #[{ on := 9, ground := Ground.data }, { on := 8, ground := Ground.chain }, { on := 0, ground := Ground.phase }, { on := 1, ground := Ground.phase }, { on := 2, ground := Ground.phase }, { on := 3, ground := Ground.phase }, { on := 4, ground := Ground.phase }, { on := 5, ground := Ground.phase }, { on := 6, ground := Ground.phase }, { on := 7, ground := Ground.phase }, { on := 8, ground := Ground.phase }, { on := 9, ground := Ground.phase }], guard := none }) (v := ?vva10) rfl (by kernel_rfl) (by kernel_rfl) (by kernel_rfl) (fun _ _ _ h => h) (Or.inl ⟨by rfl, ?hya10⟩) S0 ?resta10
  case hya10 => (intro w hSw; obtain ⟨p0, p1, p2, p3, p4, p5, p6, p7, p8⟩ := HI.out _ hSw; obtain ⟨q0, q1, q2, q3, q4, q5, q6, q7, q8⟩ := HJ.out _ hSw;go_simp <;> with_reducible rfl)
  try simp only [Act.put, List.setIfInBounds_toArray, List.set_cons_zero, List.set_cons_succ]
  refine wpAnyH_done (by kernel_rfl) ?_ _
  go_wp2_with fail
  go_ret
  exact ⟨bool_ret (by rw [← HD.out]), S0⟩
/- two elements exchanged in the row -/
theorem rcells_swap {es : List Hd} {i j : Nat} {zs : List Value} (hi : i < es.length) (hj : j < es.length) (hl : zs.length = es.length * 9) (h : ∀ k, k < es.length → ∀ o, o < 9 → zs[k * 9 + o]? = (if k = j then (gH es i).cl else if k = i then (gH es j).cl else (gH es k).cl)[o]?) : zs = rcells Hd.cl (swapL es i j) := by
  apply List.ext_getElem?
  intro o
  by_cases ho : o < es.length * 9
  · have e : o = o / 9 * 9 + o % 9 := by omega
    have hs : o / 9 < (swapL es i j).length := by rw [swapL_len]; omega
    have hr := rcells_at Hd.cl_len (swapL es i j) (o / 9) hs (o % 9) (by omega)
    rw [← gH_eq hs, gH_swap hi hj] at hr
    rw [← e] at hr
    have hz := h (o / 9) (by omega) (o % 9) (by omega)
    rw [← e] at hz
    rw [hz, hr]
    split
    · rfl
    · split <;> rfl
  · rw [List.getElem?_eq_none (by omega), List.getElem?_eq_none (by rw [rcells_len Hd.cl_len, swapL_len]; omega)]
/- a row's cells, told by element and place -/
def RowF (W : World) (B g cap n : Nat) (F : Nat → Nat → Option Value) : Prop := ∃ zs, W.ownsRow B 74 9 (.slice (some ⟨g, 0, none⟩) n cap) n zs ∧ ∀ k, k < n → ∀ o, o < 9 → zs[k * 9 + o]? = F k o
section
variable {W : World} {B g cap n : Nat} {F : Nat → Nat → Option Value}
theorem RowF.set (h : RowF W B g cap n F) {i o0 : Nat} (hi : i < n) (ho : o0 < 9) (u : Value) : RowF (W.setCell ⟨g, i * 9 + o0, none⟩ u) B g cap n (fun k o => if k = i ∧ o = o0 then some u else F k o) := by
  obtain ⟨zs, h1, h2⟩ := h
  refine ⟨_, (h1.stored _ u).1, fun k hk o ho' => ?_⟩
  dsimp only
  by_cases e : k = i ∧ o = o0
  · obtain ⟨rfl, rfl⟩ := e
    rw [List.getElem?_set_self (by rw [h1.1]; omega), if_pos ⟨rfl, rfl⟩]
  · rw [if_neg e, List.getElem?_set_ne (by omega)]
    exact h2 k hk o ho'
theorem RowF.as {F' : Nat → Nat → Option Value} (h : RowF W B g cap n F) (he : ∀ k, k < n → ∀ o, o < 9 → F k o = F' k o) : RowF W B g cap n F' := by
  obtain ⟨zs, h1, h2⟩ := h
  exact ⟨zs, h1, fun k hk o ho => (h2 k hk o ho).trans (he k hk o ho)⟩
theorem RowF.put9 (h : RowF W B g cap n F) {i : Nat} (hi : i < n) (v0 v1 v2 v3 v4 v5 v6 v7 v8 : Value) :
    RowF (((((((((W.setCell ⟨g, i * 9, none⟩ v0).setCell ⟨g, i * 9 + 1, none⟩ v1).setCell ⟨g, i * 9 + 2, none⟩ v2).setCell ⟨g, i * 9 + 3, none⟩ v3).setCell ⟨g, i * 9 + 4, none⟩ v4).setCell ⟨g, i * 9 + 5, none⟩ v5).setCell ⟨g, i * 9 + 6, none⟩ v6).setCell ⟨g, i * 9 + 7, none⟩ v7).setCell ⟨g, i * 9 + 8, none⟩ v8) B g cap n (fun k o => if k = i then [v0, v1, v2, v3, v4, v5, v6, v7, v8][o]? else F k o) := by
  refine RowF.as (((((((((h.set (o0 := 0) hi (by omega) v0).set (o0 := 1) hi (by omega) v1).set (o0 := 2) hi (by omega) v2).set (o0 := 3) hi (by omega) v3).set (o0 := 4) hi (by omega) v4).set (o0 := 5) hi (by omega) v5).set (o0 := 6) hi (by omega) v6).set (o0 := 7) hi (by omega) v7).set (o0 := 8) hi (by omega) v8) (fun k hk o ho => ?_)
  by_cases e : k = i
  · subst e
    have hc : o = 0 ∨ o = 1 ∨ o = 2 ∨ o = 3 ∨ o = 4 ∨ o = 5 ∨ o = 6 ∨ o = 7 ∨ o = 8 := by omega
    rcases hc with rfl | rfl | rfl | rfl | rfl | rfl | rfl | rfl | rfl <;> simp
  · simp [e]
theorem RowF.cell (h : RowF W B g cap n F) {i : Nat} (hi : i < n) (o : Nat) (ho : o < 9) : ∃ z, W.cell? ⟨g, i * 9 + o, none⟩ = some z := by
  obtain ⟨zs, h1, _⟩ := h
  exact ⟨zs[i * 9 + o]'(by rw [h1.1]; omega), by rw [h1.cellAt _ (by omega), List.getElem?_eq_getElem (by rw [h1.1]; omega)]⟩
theorem RowF.frozen (h : RowF W B g cap n F) (o : Nat) : W.frozen? ⟨g, o, none⟩ = false := by
  obtain ⟨zs, h1, _⟩ := h
  exact h1.frozenAt o
end
def SwapPost (B : Nat) (es : List Hd) (i j c : Nat) (a : Option Addr) (w : World) (e : Ending) (w' : World) : Prop :=
  (∃ v, e = .returned v) ∧ w'.ownsRow B 74 9 (.slice a es.length c) es.length (rcells Hd.cl (swapL es i j)) ∧ w.grownBy w' (Value.slice a es.length c).ownBlock
theorem grown9 {W : World} {g : Nat} (i : Nat) (v0 v1 v2 v3 v4 v5 v6 v7 v8 : Value) : W.grownBy (((((((((W.setCell ⟨g, i * 9, none⟩ v0).setCell ⟨g, i * 9 + 1, none⟩ v1).setCell ⟨g, i * 9 + 2, none⟩ v2).setCell ⟨g, i * 9 + 3, none⟩ v3).setCell ⟨g, i * 9 + 4, none⟩ v4).setCell ⟨g, i * 9 + 5, none⟩ v5).setCell ⟨g, i * 9 + 6, none⟩ v6).setCell ⟨g, i * 9 + 7, none⟩ v7).setCell ⟨g, i * 9 + 8, none⟩ v8) (some g) :=
  grownSet (grownSet (grownSet (grownSet (grownSet (grownSet (grownSet (grownSet (grownSet (World.grownBy.refl _ _)))))))))
theorem below_drewG {a : World} {row : Option Nat} : a.grownBy a.drew row := ⟨rfl, rfl, rfl, Nat.le_refl _, fun _ _ _ => rfl⟩
set_option maxRecDepth 100000 in
set_option maxHeartbeats 4000000 in
theorem hpSwap_any (B : Nat) (es : List Hd) (c : Nat) (a : Option Addr) (i j : Nat) (w : World) (h : w.ownsRow B 74 9 (.slice a es.length c) es.length (rcells Hd.cl es)) (hi : i < es.length) (hj : j < es.length) :
    Calls Try.prog 186 #[.slice a es.length c, .int .i64 (i : Int), .int .i64 (j : Int)] w (SwapPost B es i j c a w) := by
  obtain ⟨g, rfl⟩ : ∃ g, a = some ⟨g, 0, none⟩ := by
    rcases h.2 with ⟨e, _⟩ | ⟨g, cp, cu, e, _⟩
    · injection e with _ e2 _; omega
    · injection e with e1 _ _; exact ⟨g, e1⟩
  have h' : w.drew.ownsRow B 74 9 (.slice (some ⟨g, 0, none⟩) es.length c) es.length (rcells Hd.cl es) := h
  have HS := rows_of_own Hd.cl_len h'
  obtain ⟨a', c', e, hE⟩ := HS
  injection e with e1 e2 e3
  obtain ⟨b, off, e4, hbl, hE⟩ := hE (fun e => by have := congrArg List.length e; simp at this; rw [this] at hi; simp at hi)
  rw [← e1] at e4
  injection e4 with e4
  injection e4 with e4 e5
  subst e4 e5
  have hI := hE.hd i hi
  have hJ := hE.hd j hj
  simp only [Nat.zero_add] at hI hJ
  have F0 : RowF w.drew B g c es.length (fun k o => (gH es k).cl[o]?) := ⟨_, h', fun k hk o ho => by dsimp only; rw [gH_eq hk]; exact rcells_at Hd.cl_len es k hk o ho⟩
  have HFIN := Lib.hid (fun (zs : List Value) hl hz => rcells_swap (es := es) (i := i) (j := j) (zs := zs) hi hj hl hz)
  unfold SwapPost
  generalize hC : rcells Hd.cl (swapL es i j) = C at *
  clear h h' hE e1 e2 e3 hC hbl
  rw [gH_eq hi, gH_eq hj] at HFIN
  generalize hx : es[i] = x at *
  generalize hy : es[j] = y at *
  clear hx hy
  obtain ⟨Fn, hFn⟩ : ∃ Fn : Nat → Nat → Option Value, Fn = fun k o => (gH es k).cl[o]? := ⟨_, rfl⟩
  have HFn : Hid (∀ k o, (gH es k).cl[o]? = Fn k o) := Lib.hid (fun k o => by rw [hFn])
  rw [← hFn] at F0
  clear hFn
  obtain ⟨n, hnn⟩ : ∃ n, n = es.length := ⟨_, rfl⟩
  rw [← hnn] at hi hj F0 HFIN ⊢
  clear hnn
  have G0 : w.grownBy w.drew (some g) := below_drewG
  obtain ⟨p0, p1, p2, p3, p4, p5, p6, p7, p8⟩ := hI
  obtain ⟨q0, q1, q2, q3, q4, q5, q6, q7, q8⟩ := hJ
  go_enter Try.func186, Try.ntmps186
  go_wp2_with fail
  refine wp_region_any (by kernel_rfl) ?_
  try (change wpAny _ _ _ _ _ _ _ (World.drew _))
  generalize w.drew = Wd at *
  refine wpAny_take (i := 0) (v := ?vva1) rfl (by kernel_rfl) (by kernel_rfl) (by kernel_rfl) (fun _ _ _ h => h) (Or.inl ⟨by rfl, ?hya1⟩) ?resta1
  case hya1 => (intro w; go_simp <;> with_reducible rfl)
  refine wpAny_take (i := 1) (v := ?vva2) rfl (by kernel_rfl) (by kernel_rfl) (by kernel_rfl) (fun _ _ _ h => h) (Or.inl ⟨by rfl, ?hya2⟩) ?resta2
  case hya2 => (intro w; go_simp <;> with_reducible rfl)
  refine wpAny_take (i := 2) (v := ?vva3) rfl (by kernel_rfl) (by kernel_rfl) (by kernel_rfl) (fun _ _ _ h => h) (Or.inl ⟨by rfl, ?hya3⟩) ?resta3
  case hya3 => (intro w; go_simp <;> with_reducible rfl)
  refine wpAny_take (i := 3) (v := ?vva4) rfl (by kernel_rfl) (by kernel_rfl) (by kernel_rfl) (fun _ _ _ h => h) (Or.inl ⟨by rfl, ?hya4⟩) ?resta4
  case hya4 => (intro w; go_simp <;> with_reducible rfl)
  refine wpAny_take (i := 4) (v := ?vva5) rfl (by kernel_rfl) (by kernel_rfl) (by kernel_rfl) (fun _ _ _ h => h) (Or.inl ⟨by rfl, ?hya5⟩) ?resta5
  case hya5 => (intro w; go_simp <;> with_reducible rfl)
  refine wpAny_take (i := 5) (v := ?vva6) rfl (by kernel_rfl) (by kernel_rfl) (by kernel_rfl) (fun _ _ _ h => h) (Or.inl ⟨by rfl, ?hya6⟩) ?resta6
  case hya6 => (intro w; go_simp <;> with_reducible rfl)
  refine wpAny_take (i := 6) (v := ?vva7) rfl (by kernel_rfl) (by kernel_rfl) (by kernel_rfl) (fun _ _ _ h => h) (Or.inl ⟨by rfl, ?hya7⟩) ?resta7
  case hya7 => (intro w; go_simp <;> with_reducible rfl)
  refine wpAny_take (i := 8) (v := ?vva8) rfl (by kernel_rfl) (by kernel_rfl) (by kernel_rfl) (fun _ _ _ h => h) (Or.inl ⟨by rfl, ?hya8⟩) ?resta8
  case hya8 => (intro w; go_simp <;> with_reducible rfl)
  refine wpAny_take (i := 9) (v := ?vva9) rfl (by kernel_rfl) (by kernel_rfl) (by kernel_rfl) (fun _ _ _ h => h) (Or.inl ⟨by rfl, ?hya9⟩) ?resta9
  case hya9 => (intro w; go_simp <;> with_reducible rfl)
  refine wpAny_take (i := 10) (v := ?vva10) rfl (by kernel_rfl) (by kernel_rfl) (by kernel_rfl) (fun _ _ _ h => h) (Or.inl ⟨by rfl, ?hya10⟩) ?resta10
  case hya10 => (intro w; go_simp <;> with_reducible rfl)
  refine wpAny_ready (rs := [7, 11]) (by kernel_rfl) (by simp) ?_
  refine (AllReady.cons (o := { dst := some 13, op := Op.load 74 (Operand.tmp 12), type := 74, pos := "l06_rib.go:63", after := #[{ on := 6, ground := Ground.data }], guard := none }) rfl (fun K hK => ?_) (AllReady.cons (o := { dst := some 17, op := Op.load 74 (Operand.tmp 16), type := 74, pos := "l06_rib.go:63", after := #[{ on := 10, ground := Ground.data }], guard := none }) rfl (fun K hK => ?_) AllReady.nil))
  focus
    go_simp
    refine hK _ _ ?_
    clear hK K
    refine wpAny_ready (rs := [11]) (by kernel_rfl) (by simp) ?_
    refine AllReady.cons (o := { dst := some 17, op := Op.load 74 (Operand.tmp 16), type := 74, pos := "l06_rib.go:63", after := #[{ on := 10, ground := Ground.data }], guard := none }) rfl (fun K hK => ?_) AllReady.nil
    go_simp
    refine hK _ _ ?_
    clear hK K
    refine wpAny_take (i := 12) (v := ?vva11) rfl (by kernel_rfl) (by kernel_rfl) (by kernel_rfl) (fun _ _ _ h => h) (Or.inl ⟨by rfl, ?hya11⟩) ?resta11
    case hya11 => (intro w; go_simp <;> with_reducible rfl)
    refine wpAny_ready (rs := [13]) (by kernel_rfl) (by simp) ?_
    refine AllReady.cons (o := { dst := none, op := Op.store 74 (Operand.tmp 18) (Operand.tmp 13), type := 0, pos := "l06_rib.go:63", after := #[{ on := 12, ground := Ground.data }, { on := 7, ground := Ground.data }, { on := 0, ground := Ground.phase }, { on := 1, ground := Ground.phase }, { on := 2, ground := Ground.textOnly Departure.lateStores }, { on := 3, ground := Ground.textOnly Departure.lateStores }, { on := 4, ground := Ground.phase }, { on := 5, ground := Ground.phase }, { on := 6, ground := Ground.phase }, { on := 7, ground := Ground.phase }, { on := 8, ground := Ground.textOnly Departure.lateStores }, { on := 9, ground := Ground.textOnly Departure.lateStores }, { on := 10, ground := Ground.textOnly Departure.lateStoresUnsure }, { on := 11, ground := Ground.phase }], guard := none }) rfl (fun K hK => ?_) AllReady.nil
    obtain ⟨z0, c0⟩ := F0.cell hi 0 (by omega)
    obtain ⟨z1, c1⟩ := F0.cell hi 1 (by omega)
    obtain ⟨z2, c2⟩ := F0.cell hi 2 (by omega)
    obtain ⟨z3, c3⟩ := F0.cell hi 3 (by omega)
    obtain ⟨z4, c4⟩ := F0.cell hi 4 (by omega)
    obtain ⟨z5, c5⟩ := F0.cell hi 5 (by omega)
    obtain ⟨z6, c6⟩ := F0.cell hi 6 (by omega)
    obtain ⟨z7, c7⟩ := F0.cell hi 7 (by omega)
    obtain ⟨z8, c8⟩ := F0.cell hi 8 (by omega)
    rw [Nat.add_zero] at c0
    have fz := F0.frozen
    go_simp
    replace F0 := F0.put9 hi (.int .i64 y.p) (.bool y.s) (.int .i64 y.r.kind) (.int .i64 y.r.vni) (.int .i64 y.r.mac) (.int .i64 y.r.ip) (.int .i64 y.r.org) (.int .i64 y.r.seq) (.bool y.r.st)
    replace G0 := grownTrans G0 (grown9 i (.int .i64 y.p) (.bool y.s) (.int .i64 y.r.kind) (.int .i64 y.r.vni) (.int .i64 y.r.mac) (.int .i64 y.r.ip) (.int .i64 y.r.org) (.int .i64 y.r.seq) (.bool y.r.st))
    obtain ⟨W1, hW1⟩ : ∃ X, X = (((((((((Wd.setCell ⟨g, i * 9, none⟩ (.int .i64 y.p)).setCell ⟨g, i * 9 + 1, none⟩ (.bool y.s)).setCell ⟨g, i * 9 + 2, none⟩ (.int .i64 y.r.kind)).setCell ⟨g, i * 9 + 3, none⟩ (.int .i64 y.r.vni)).setCell ⟨g, i * 9 + 4, none⟩ (.int .i64 y.r.mac)).setCell ⟨g, i * 9 + 5, none⟩ (.int .i64 y.r.ip)).setCell ⟨g, i * 9 + 6, none⟩ (.int .i64 y.r.org)).setCell ⟨g, i * 9 + 7, none⟩ (.int .i64 y.r.seq)).setCell ⟨g, i * 9 + 8, none⟩ (.bool y.r.st)) := ⟨_, rfl⟩
    rw [← hW1] at F0 G0 ⊢
    clear hW1 c0 c1 c2 c3 c4 c5 c6 c7 c8 fz
    refine hK _ _ ?_
    clear hK K
    refine wpAny_take (i := 14) (v := ?vva12) rfl (by kernel_rfl) (by kernel_rfl) (by kernel_rfl) (fun _ _ _ h => h) (Or.inl ⟨by rfl, ?hya12⟩) ?resta12
    case hya12 => (intro w; go_simp <;> with_reducible rfl)
    refine wpAny_ready (rs := [15]) (by kernel_rfl) (by simp) ?_
    refine AllReady.cons (o := { dst := none, op := Op.store 74 (Operand.tmp 19) (Operand.tmp 17), type := 0, pos := "l06_rib.go:63", after := #[{ on := 14, ground := Ground.data }, { on := 11, ground := Ground.data }, { on := 13, ground := Ground.chain }, { on := 0, ground := Ground.phase }, { on := 1, ground := Ground.phase }, { on := 2, ground := Ground.phase }, { on := 3, ground := Ground.phase }, { on := 4, ground := Ground.phase }, { on := 5, ground := Ground.phase }, { on := 6, ground := Ground.phase }, { on := 7, ground := Ground.phase }, { on := 8, ground := Ground.phase }, { on := 9, ground := Ground.phase }, { on := 10, ground := Ground.phase }, { on := 11, ground := Ground.phase }, { on := 12, ground := Ground.phase }, { on := 13, ground := Ground.phase }], guard := none }) rfl (fun K hK => ?_) AllReady.nil
    obtain ⟨z0, c0⟩ := F0.cell hj 0 (by omega)
    obtain ⟨z1, c1⟩ := F0.cell hj 1 (by omega)
    obtain ⟨z2, c2⟩ := F0.cell hj 2 (by omega)
    obtain ⟨z3, c3⟩ := F0.cell hj 3 (by omega)
    obtain ⟨z4, c4⟩ := F0.cell hj 4 (by omega)
    obtain ⟨z5, c5⟩ := F0.cell hj 5 (by omega)
    obtain ⟨z6, c6⟩ := F0.cell hj 6 (by omega)
    obtain ⟨z7, c7⟩ := F0.cell hj 7 (by omega)
    obtain ⟨z8, c8⟩ := F0.cell hj 8 (by omega)
    rw [Nat.add_zero] at c0
    have fz := F0.frozen
    go_simp
    replace F0 := F0.put9 hj (.int .i64 x.p) (.bool x.s) (.int .i64 x.r.kind) (.int .i64 x.r.vni) (.int .i64 x.r.mac) (.int .i64 x.r.ip) (.int .i64 x.r.org) (.int .i64 x.r.seq) (.bool x.r.st)
    replace G0 := grownTrans G0 (grown9 j (.int .i64 x.p) (.bool x.s) (.int .i64 x.r.kind) (.int .i64 x.r.vni) (.int .i64 x.r.mac) (.int .i64 x.r.ip) (.int .i64 x.r.org) (.int .i64 x.r.seq) (.bool x.r.st))
    obtain ⟨W2, hW2⟩ : ∃ X, X = (((((((((W1.setCell ⟨g, j * 9, none⟩ (.int .i64 x.p)).setCell ⟨g, j * 9 + 1, none⟩ (.bool x.s)).setCell ⟨g, j * 9 + 2, none⟩ (.int .i64 x.r.kind)).setCell ⟨g, j * 9 + 3, none⟩ (.int .i64 x.r.vni)).setCell ⟨g, j * 9 + 4, none⟩ (.int .i64 x.r.mac)).setCell ⟨g, j * 9 + 5, none⟩ (.int .i64 x.r.ip)).setCell ⟨g, j * 9 + 6, none⟩ (.int .i64 x.r.org)).setCell ⟨g, j * 9 + 7, none⟩ (.int .i64 x.r.seq)).setCell ⟨g, j * 9 + 8, none⟩ (.bool x.r.st)) := ⟨_, rfl⟩
    rw [← hW2] at F0 G0 ⊢
    clear hW2 c0 c1 c2 c3 c4 c5 c6 c7 c8 fz
    refine hK _ _ ?_
    clear hK K
    refine wpAny_done (by kernel_rfl) ?_ _
  rotate_left 1
  focus
    go_simp
    refine hK _ _ ?_
    clear hK K
    refine wpAny_ready (rs := [7]) (by kernel_rfl) (by simp) ?_
    refine AllReady.cons (o := { dst := some 13, op := Op.load 74 (Operand.tmp 12), type := 74, pos := "l06_rib.go:63", after := #[{ on := 6, ground := Ground.data }], guard := none }) rfl (fun K hK => ?_) AllReady.nil
    go_simp
    refine hK _ _ ?_
    clear hK K
    refine wpAny_take (i := 12) (v := ?vva13) rfl (by kernel_rfl) (by kernel_rfl) (by kernel_rfl) (fun _ _ _ h => h) (Or.inl ⟨by rfl, ?hya13⟩) ?resta13
    case hya13 => (intro w; go_simp <;> with_reducible rfl)
    refine wpAny_ready (rs := [13]) (by kernel_rfl) (by simp) ?_
    refine AllReady.cons (o := { dst := none, op := Op.store 74 (Operand.tmp 18) (Operand.tmp 13), type := 0, pos := "l06_rib.go:63", after := #[{ on := 12, ground := Ground.data }, { on := 7, ground := Ground.data }, { on := 0, ground := Ground.phase }, { on := 1, ground := Ground.phase }, { on := 2, ground := Ground.textOnly Departure.lateStores }, { on := 3, ground := Ground.textOnly Departure.lateStores }, { on := 4, ground := Ground.phase }, { on := 5, ground := Ground.phase }, { on := 6, ground := Ground.phase }, { on := 7, ground := Ground.phase }, { on := 8, ground := Ground.textOnly Departure.lateStores }, { on := 9, ground := Ground.textOnly Departure.lateStores }, { on := 10, ground := Ground.textOnly Departure.lateStoresUnsure }, { on := 11, ground := Ground.phase }], guard := none }) rfl (fun K hK => ?_) AllReady.nil
    obtain ⟨z0, c0⟩ := F0.cell hi 0 (by omega)
    obtain ⟨z1, c1⟩ := F0.cell hi 1 (by omega)
    obtain ⟨z2, c2⟩ := F0.cell hi 2 (by omega)
    obtain ⟨z3, c3⟩ := F0.cell hi 3 (by omega)
    obtain ⟨z4, c4⟩ := F0.cell hi 4 (by omega)
    obtain ⟨z5, c5⟩ := F0.cell hi 5 (by omega)
    obtain ⟨z6, c6⟩ := F0.cell hi 6 (by omega)
    obtain ⟨z7, c7⟩ := F0.cell hi 7 (by omega)
    obtain ⟨z8, c8⟩ := F0.cell hi 8 (by omega)
    rw [Nat.add_zero] at c0
    have fz := F0.frozen
    go_simp
    replace F0 := F0.put9 hi (.int .i64 y.p) (.bool y.s) (.int .i64 y.r.kind) (.int .i64 y.r.vni) (.int .i64 y.r.mac) (.int .i64 y.r.ip) (.int .i64 y.r.org) (.int .i64 y.r.seq) (.bool y.r.st)
    replace G0 := grownTrans G0 (grown9 i (.int .i64 y.p) (.bool y.s) (.int .i64 y.r.kind) (.int .i64 y.r.vni) (.int .i64 y.r.mac) (.int .i64 y.r.ip) (.int .i64 y.r.org) (.int .i64 y.r.seq) (.bool y.r.st))
    obtain ⟨W1, hW1⟩ : ∃ X, X = (((((((((Wd.setCell ⟨g, i * 9, none⟩ (.int .i64 y.p)).setCell ⟨g, i * 9 + 1, none⟩ (.bool y.s)).setCell ⟨g, i * 9 + 2, none⟩ (.int .i64 y.r.kind)).setCell ⟨g, i * 9 + 3, none⟩ (.int .i64 y.r.vni)).setCell ⟨g, i * 9 + 4, none⟩ (.int .i64 y.r.mac)).setCell ⟨g, i * 9 + 5, none⟩ (.int .i64 y.r.ip)).setCell ⟨g, i * 9 + 6, none⟩ (.int .i64 y.r.org)).setCell ⟨g, i * 9 + 7, none⟩ (.int .i64 y.r.seq)).setCell ⟨g, i * 9 + 8, none⟩ (.bool y.r.st)) := ⟨_, rfl⟩
    rw [← hW1] at F0 G0 ⊢
    clear hW1 c0 c1 c2 c3 c4 c5 c6 c7 c8 fz
    refine hK _ _ ?_
    clear hK K
    refine wpAny_take (i := 14) (v := ?vva14) rfl (by kernel_rfl) (by kernel_rfl) (by kernel_rfl) (fun _ _ _ h => h) (Or.inl ⟨by rfl, ?hya14⟩) ?resta14
    case hya14 => (intro w; go_simp <;> with_reducible rfl)
    refine wpAny_ready (rs := [15]) (by kernel_rfl) (by simp) ?_
    refine AllReady.cons (o := { dst := none, op := Op.store 74 (Operand.tmp 19) (Operand.tmp 17), type := 0, pos := "l06_rib.go:63", after := #[{ on := 14, ground := Ground.data }, { on := 11, ground := Ground.data }, { on := 13, ground := Ground.chain }, { on := 0, ground := Ground.phase }, { on := 1, ground := Ground.phase }, { on := 2, ground := Ground.phase }, { on := 3, ground := Ground.phase }, { on := 4, ground := Ground.phase }, { on := 5, ground := Ground.phase }, { on := 6, ground := Ground.phase }, { on := 7, ground := Ground.phase }, { on := 8, ground := Ground.phase }, { on := 9, ground := Ground.phase }, { on := 10, ground := Ground.phase }, { on := 11, ground := Ground.phase }, { on := 12, ground := Ground.phase }, { on := 13, ground := Ground.phase }], guard := none }) rfl (fun K hK => ?_) AllReady.nil
    obtain ⟨z0, c0⟩ := F0.cell hj 0 (by omega)
    obtain ⟨z1, c1⟩ := F0.cell hj 1 (by omega)
    obtain ⟨z2, c2⟩ := F0.cell hj 2 (by omega)
    obtain ⟨z3, c3⟩ := F0.cell hj 3 (by omega)
    obtain ⟨z4, c4⟩ := F0.cell hj 4 (by omega)
    obtain ⟨z5, c5⟩ := F0.cell hj 5 (by omega)
    obtain ⟨z6, c6⟩ := F0.cell hj 6 (by omega)
    obtain ⟨z7, c7⟩ := F0.cell hj 7 (by omega)
    obtain ⟨z8, c8⟩ := F0.cell hj 8 (by omega)
    rw [Nat.add_zero] at c0
    have fz := F0.frozen
    go_simp
    replace F0 := F0.put9 hj (.int .i64 x.p) (.bool x.s) (.int .i64 x.r.kind) (.int .i64 x.r.vni) (.int .i64 x.r.mac) (.int .i64 x.r.ip) (.int .i64 x.r.org) (.int .i64 x.r.seq) (.bool x.r.st)
    replace G0 := grownTrans G0 (grown9 j (.int .i64 x.p) (.bool x.s) (.int .i64 x.r.kind) (.int .i64 x.r.vni) (.int .i64 x.r.mac) (.int .i64 x.r.ip) (.int .i64 x.r.org) (.int .i64 x.r.seq) (.bool x.r.st))
    obtain ⟨W2, hW2⟩ : ∃ X, X = (((((((((W1.setCell ⟨g, j * 9, none⟩ (.int .i64 x.p)).setCell ⟨g, j * 9 + 1, none⟩ (.bool x.s)).setCell ⟨g, j * 9 + 2, none⟩ (.int .i64 x.r.kind)).setCell ⟨g, j * 9 + 3, none⟩ (.int .i64 x.r.vni)).setCell ⟨g, j * 9 + 4, none⟩ (.int .i64 x.r.mac)).setCell ⟨g, j * 9 + 5, none⟩ (.int .i64 x.r.ip)).setCell ⟨g, j * 9 + 6, none⟩ (.int .i64 x.r.org)).setCell ⟨g, j * 9 + 7, none⟩ (.int .i64 x.r.seq)).setCell ⟨g, j * 9 + 8, none⟩ (.bool x.r.st)) := ⟨_, rfl⟩
    rw [← hW2] at F0 G0 ⊢
    clear hW2 c0 c1 c2 c3 c4 c5 c6 c7 c8 fz
    refine hK _ _ ?_
    clear hK K
    refine wpAny_done (by kernel_rfl) ?_ _
  rotate_left 1
  all_goals
    have HG := Lib.hid G0
    have HF := Lib.hid F0
    clear G0 F0
    go_wp2_with fail
    go_end0
    refine ⟨⟨_, rfl⟩, ?_, HG.out⟩
    obtain ⟨zs, h1, h2⟩ := HF.out
    have := HFIN.out zs h1.1 (fun k hk o ho => by
      rw [h2 k hk o ho]
      dsimp only
      by_cases e1 : k = j
      · rw [if_pos e1, if_pos e1]; rfl
      · rw [if_neg e1, if_neg e1]
        by_cases e2 : k = i
        · rw [if_pos e2, if_pos e2]; rfl
        · rw [if_neg e2, if_neg e2]; exact (HFn.out k o).symm)
    rw [← this]
    exact h1
end Go.Proofs.Ythdldanfmdnlfab
