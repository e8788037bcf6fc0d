/- The model's reader: its method num. -/
import Derived.Test.YthhodnkcaefnnaaDoorRdM
import Derived.Test.YthhodnkcaefnnaaDoorGetN
import Derived.Deep.RegionHeld3
import Derived.Deep.RegionHeld
import Derived.Handy
namespace Go.Proofs.YthhodnkcaefnnaaDoor
open Go.RowKit

/- the reader lies in block g -/
def RdAt (w : World) (g : Nat) (s : ByteArray) (k : Int) (b : Bool) : Prop := w.heap[g]? = some (.cells #[.string s, .int .i64 k, .bool b] 64 (0, 0))
theorem RdAt.cells {w : World} {g : Nat} {s : ByteArray} {k : Int} {b : Bool} (h : RdAt w g s k b) :
    w.cell? ⟨g, 0, none⟩ = some (.string s) ∧ w.cell? ⟨g, 1, none⟩ = some (.int .i64 k) ∧ w.cell? ⟨g, 2, none⟩ = some (.bool b) ∧ (∀ o, w.frozen? ⟨g, o, none⟩ = false) ∧ g < w.heap.size := by
  unfold RdAt at h
  refine ⟨by simp [World.cell?, h], by simp [World.cell?, h], by simp [World.cell?, h], fun o => by simp [World.frozen?, h], ?_⟩
  rcases Nat.lt_or_ge g w.heap.size with hl | hl
  · exact hl
  · rw [Array.getElem?_eq_none hl] at h; cases h
theorem RdAt.below {w w' : World} {g B : Nat} {s : ByteArray} {k : Int} {b : Bool} (h : RdAt w g s k b) (hb : Below B w w') (hg : g < B) : RdAt w' g s k b := (hb.block g hg).trans h
theorem RdAt.grown {w w' : World} {g : Nat} {s : ByteArray} {k : Int} {b : Bool} {row : Option Nat} (h : RdAt w g s k b) (hb : w.grownBy w' row) (hg : some g ≠ row) : RdAt w' g s k b := (hb.block g h.cells.2.2.2.2 hg).trans h
theorem RdAt.setBad {w : World} {g : Nat} {s : ByteArray} {k : Int} {b : Bool} (h : RdAt w g s k b) (c : Bool) : RdAt (w.setCell ⟨g, 2, none⟩ (.bool c)) g s k c := heap_setCell_same w g 2 _ _ _ h
theorem RdAt.setAt {w : World} {g : Nat} {s : ByteArray} {k : Int} {b : Bool} (h : RdAt w g s k b) (c : Int) : RdAt (w.setCell ⟨g, 1, none⟩ (.int .i64 c)) g s c b := heap_setCell_same w g 1 _ _ _ h
theorem grown_of_below {w w' : World} {row : Option Nat} (h : Below w.heap.size w w') : w.grownBy w' row := ⟨h.os, h.tape, h.output, h.size, fun k hk _ => h.block k hk⟩
theorem grown_setCell' {w W : World} {g i : Nat} {v : Value} (h : w.grownBy W (some g)) : w.grownBy (W.setCell ⟨g, i, none⟩ v) (some g) := by
  have k := Lib.grownBy_setCell W g i v
  refine ⟨k.os.trans h.os, k.tape.trans h.tape, k.output.trans h.output, Nat.le_trans h.size k.size, fun b hb hne => (k.block b (Nat.lt_of_lt_of_le hb h.size) hne).trans (h.block b hb hne)⟩
theorem grown_trans' {w w1 w2 : World} {g : Nat} (h1 : w.grownBy w1 (some g)) (h2 : w1.grownBy w2 (some g)) : w.grownBy w2 (some g) := by
  refine ⟨h2.os.trans h1.os, h2.tape.trans h1.tape, h2.output.trans h1.output, Nat.le_trans h1.size h2.size, fun k hk hne => ?_⟩
  exact (h2.block k (Nat.lt_of_lt_of_le hk h1.size) hne).trans (h1.block k hk hne)

def NumPost (g : Nat) (s : ByteArray) (n k : Int) (b : Bool) (w : World) (e : Ending) (w' : World) : Prop := e = .returned (.int .i64 n) ∧ RdAt w' g s k b ∧ w.grownBy w' (some g)
def nextN (b : Bool) (o : NumO) (k : Int) : Int × Int × Bool := if b = true ∨ o.code ≠ 0 then (0, k, true) else (o.n, o.at_, false)
/- behind the first region: the answer lies in a new block -/
structure NumMid (w W : World) (B : Nat) (n y c : Int) : Prop where
  low : w.heap.size ≤ B
  below : Below w.heap.size w W
  c0 : W.cell? ⟨B, 0, none⟩ = some (.int .i64 n)
  c1 : W.cell? ⟨B, 1, none⟩ = some (.int .i64 y)
  c2 : W.cell? ⟨B, 2, none⟩ = some (.int .i64 c)
set_option maxHeartbeats 4000000 in
theorem specNum_any (g : Nat) (s : ByteArray) (k : Nat) (b : Bool) (w : World) (hs : s.size ≤ maxLen) (hk : (k : Int) ≤ 9223372036854775807) (h : RdAt w g s k b) :
    Calls Tryd.prog 38 #[.pointer (some ⟨g, 0, none⟩)] w (NumPost g s (nextN b (getNum s k) k).1 (nextN b (getNum s k) k).2.1 (nextN b (getNum s k) k).2.2 w) := by
  have HG := Lib.hid (fun w => specGetNum_any s k w hs hk)
  clear hs hk
  generalize getNum s k = o at *
  obtain ⟨n, y, c⟩ := o
  unfold NumO.v numOutV at HG
  dsimp only at *
  obtain ⟨r, hr⟩ : ∃ r, r = nextN b ⟨n, y, c⟩ k := ⟨_, rfl⟩
  rw [← hr]
  unfold nextN at hr
  dsimp only at hr
  replace hr := Lib.hid hr
  obtain ⟨n', y', b'⟩ := r
  dsimp only
  have HH := Lib.hid h
  obtain ⟨q0, q1, q2, qf, hlt⟩ := h.cells
  clear h
  go_enter Tryd.func38, Tryd.ntmps38
  go_wp2_with fail
  have S0 : Below w.heap.size w w.drew := (Below.refl _ _).drew
  refine wp_region_held_drew (S := fun W' => Below w.heap.size w W') (by kernel_rfl) S0 (fun hHeld => ?_)
  clear hHeld
  refine wpAnyH_take (i := 0) (oi := { dst := some 4, op := Op.move (Operand.tmp 0), type := 62, pos := "l03_route.go:42", after := #[], guard := none }) (v := ?vva1) rfl (by kernel_rfl) (by kernel_rfl) (by kernel_rfl) (fun _ _ _ h => h) (Or.inl ⟨by rfl, ?hya1⟩) S0 ?resta1
  case hya1 => (intro w hSw; have p0 := (hSw.cell (p := ⟨g, 0, none⟩) hlt).trans q0; have p1 := (hSw.cell (p := ⟨g, 1, none⟩) hlt).trans q1;go_simp <;> with_reducible rfl)
  try simp only [Act.put, List.setIfInBounds_toArray, List.set_cons_zero, List.set_cons_succ]
  refine wpAnyH_take (i := 1) (oi := { dst := some 5, op := Op.nilCheck (Operand.tmp 4), type := 0, pos := "l03_route.go:42", after := #[{ on := 0, ground := Ground.data }], guard := none }) (v := ?vva2) rfl (by kernel_rfl) (by kernel_rfl) (by kernel_rfl) (fun _ _ _ h => h) (Or.inl ⟨by rfl, ?hya2⟩) S0 ?resta2
  case hya2 => (intro w hSw; have p0 := (hSw.cell (p := ⟨g, 0, none⟩) hlt).trans q0; have p1 := (hSw.cell (p := ⟨g, 1, none⟩) hlt).trans q1;go_simp <;> with_reducible rfl)
  try simp only [Act.put, List.setIfInBounds_toArray, List.set_cons_zero, List.set_cons_succ]
  refine wpAnyH_take (i := 2) (oi := { dst := some 6, op := Op.fieldAddr 64 (Operand.tmp 5) 0, type := 0, pos := "l03_route.go:42", after := #[{ on := 1, ground := Ground.data }], guard := none }) (v := ?vva3) rfl (by kernel_rfl) (by kernel_rfl) (by kernel_rfl) (fun _ _ _ h => h) (Or.inl ⟨by rfl, ?hya3⟩) S0 ?resta3
  case hya3 => (intro w hSw; have p0 := (hSw.cell (p := ⟨g, 0, none⟩) hlt).trans q0; have p1 := (hSw.cell (p := ⟨g, 1, none⟩) hlt).trans q1;go_simp <;> with_reducible rfl)
  try simp only [Act.put, List.setIfInBounds_toArray, List.set_cons_zero, List.set_cons_succ]
  refine wpAnyH_take (i := 3) (oi := { dst := some 7, op := Op.load 9 (Operand.tmp 6), type := 9, pos := "l03_route.go:42", after := #[{ on := 2, ground := Ground.data }], guard := none }) (v := ?vva4) rfl (by kernel_rfl) (by kernel_rfl) (by kernel_rfl) (fun _ _ _ h => h) (Or.inl ⟨by rfl, ?hya4⟩) S0 ?resta4
  case hya4 => (intro w hSw; have p0 := (hSw.cell (p := ⟨g, 0, none⟩) hlt).trans q0; have p1 := (hSw.cell (p := ⟨g, 1, none⟩) hlt).trans q1;go_simp <;> with_reducible rfl)
  try simp only [Act.put, List.setIfInBounds_toArray, List.set_cons_zero, List.set_cons_succ]
  refine wpAnyH_take (i := 4) (oi := { dst := some 8, op := Op.move (Operand.tmp 0), type := 62, pos := "l03_route.go:42", after := #[], guard := none }) (v := ?vva5) rfl (by kernel_rfl) (by kernel_rfl) (by kernel_rfl) (fun _ _ _ h => h) (Or.inl ⟨by rfl, ?hya5⟩) S0 ?resta5
  case hya5 => (intro w hSw; have p0 := (hSw.cell (p := ⟨g, 0, none⟩) hlt).trans q0; have p1 := (hSw.cell (p := ⟨g, 1, none⟩) hlt).trans q1;go_simp <;> with_reducible rfl)
  try simp only [Act.put, List.setIfInBounds_toArray, List.set_cons_zero, List.set_cons_succ]
  refine wpAnyH_take (i := 5) (oi := { dst := some 9, op := Op.nilCheck (Operand.tmp 8), type := 0, pos := "l03_route.go:42", after := #[{ on := 4, ground := Ground.data }], guard := none }) (v := ?vva6) rfl (by kernel_rfl) (by kernel_rfl) (by kernel_rfl) (fun _ _ _ h => h) (Or.inl ⟨by rfl, ?hya6⟩) S0 ?resta6
  case hya6 => (intro w hSw; have p0 := (hSw.cell (p := ⟨g, 0, none⟩) hlt).trans q0; have p1 := (hSw.cell (p := ⟨g, 1, none⟩) hlt).trans q1;go_simp <;> with_reducible rfl)
  try simp only [Act.put, List.setIfInBounds_toArray, List.set_cons_zero, List.set_cons_succ]
  refine wpAnyH_take (i := 6) (oi := { dst := some 10, op := Op.fieldAddr 64 (Operand.tmp 9) 1, type := 0, pos := "l03_route.go:42", after := #[{ on := 5, ground := Ground.data }], guard := none }) (v := ?vva7) rfl (by kernel_rfl) (by kernel_rfl) (by kernel_rfl) (fun _ _ _ h => h) (Or.inl ⟨by rfl, ?hya7⟩) S0 ?resta7
  case hya7 => (intro w hSw; have p0 := (hSw.cell (p := ⟨g, 0, none⟩) hlt).trans q0; have p1 := (hSw.cell (p := ⟨g, 1, none⟩) hlt).trans q1;go_simp <;> with_reducible rfl)
  try simp only [Act.put, List.setIfInBounds_toArray, List.set_cons_zero, List.set_cons_succ]
  refine wpAnyH_take (i := 7) (oi := { dst := some 11, op := Op.load 2 (Operand.tmp 10), type := 2, pos := "l03_route.go:42", after := #[{ on := 6, ground := Ground.data }], guard := none }) (v := ?vva8) rfl (by kernel_rfl) (by kernel_rfl) (by kernel_rfl) (fun _ _ _ h => h) (Or.inl ⟨by rfl, ?hya8⟩) S0 ?resta8
  case hya8 => (intro w hSw; have p0 := (hSw.cell (p := ⟨g, 0, none⟩) hlt).trans q0; have p1 := (hSw.cell (p := ⟨g, 1, none⟩) hlt).trans q1;go_simp <;> with_reducible rfl)
  try simp only [Act.put, List.setIfInBounds_toArray, List.set_cons_zero, List.set_cons_succ]
  refine wpAnyH_ready (rs := [8, 9]) (by kernel_rfl) (by simp) ?_
  refine (AllReadyH.cons (o := { dst := some 12, op := Op.call { callee := Callee.value (Operand.func 59), args := #[Operand.tmp 7, Operand.tmp 11], argTypes := #[9, 2] }, type := 75, pos := "l03_route.go:42", after := #[{ on := 3, ground := Ground.data }, { on := 7, ground := Ground.data }], guard := none }) rfl (fun K hK => ?_) (AllReadyH.cons (o := { dst := some 3, op := Op.alloc 75, type := 0, pos := "l03_route.go:42", after := #[], guard := none }) rfl (fun K hK => ?_) AllReadyH.nil))
  focus
    go_simp
    refine (HG.out _).mono ?_
    rintro e w1 ⟨rfl, hb1⟩
    have hcell := fun (b : Nat) (o : Nat) (h : b < _) => hb1.cell (p := ⟨b, o, none⟩) h
    have hfro := fun (b : Nat) (o : Nat) (h : b < _) => hb1.frozen (p := ⟨b, o, none⟩) h
    have hz1 := hb1.size
    replace S0 := S0.trans (hb1.mono S0.size)
    clear hb1
    refine hK.out _ _ S0 (fun hHeld => ?_)
    clear hK K hHeld
    try simp only [Act.put, List.setIfInBounds_toArray, List.set_cons_zero, List.set_cons_succ]
    refine wpAnyH_ready (rs := [9]) (by kernel_rfl) (by simp) ?_
    refine AllReadyH.cons (o := { dst := some 3, op := Op.alloc 75, type := 0, pos := "l03_route.go:42", after := #[], guard := none }) rfl (fun K hK => ?_) AllReadyH.nil
    go_simp
    have S00 := S0
    replace S0 := S0.alloc S0.size (.cells #[.int .i64 0, .int .i64 0, .int .i64 0] 75)
    refine hK.out _ _ S0 (fun hHeld => ?_)
    clear hK K hHeld
    try simp only [Act.put, List.setIfInBounds_toArray, List.set_cons_zero, List.set_cons_succ]
    refine wpAnyH_ready (rs := [10]) (by kernel_rfl) (by simp) ?_
    refine AllReadyH.cons (o := { dst := none, op := Op.store 75 (Operand.tmp 3) (Operand.tmp 12), type := 0, pos := "l03_route.go:42", after := #[{ on := 9, ground := Ground.data }, { on := 8, ground := Ground.data }, { on := 8, ground := Ground.chain }, { on := 0, ground := Ground.phase }, { on := 1, ground := Ground.phase }, { on := 2, ground := Ground.phase }, { on := 3, ground := Ground.phase }, { on := 4, ground := Ground.phase }, { on := 5, ground := Ground.phase }, { on := 6, ground := Ground.phase }, { on := 7, ground := Ground.phase }, { on := 8, ground := Ground.phase }, { on := 9, ground := Ground.phase }], guard := none }) rfl (fun K hK => ?_) AllReadyH.nil
    go_simp
    first | (replace S0 : Below w.heap.size w (w1.alloc (.cells #[.int .i64 n, .int .i64 y, .int .i64 c] 75)) := S00.alloc S00.size (.cells #[.int .i64 n, .int .i64 y, .int .i64 c] 75)) | (replace S0 := ((S0.setCell (p := ⟨w.heap.size, 0, none⟩) (Nat.le_refl _) (.int .i64 n)).setCell (p := ⟨w.heap.size, 1, none⟩) (Nat.le_refl _) (.int .i64 y)).setCell (p := ⟨w.heap.size, 2, none⟩) (Nat.le_refl _) (.int .i64 c))
    refine hK.out _ _ S0 (fun hHeld => ?_)
    clear hK K hHeld
    try simp only [Act.put, List.setIfInBounds_toArray, List.set_cons_zero, List.set_cons_succ]
    refine wpAnyH_done (by kernel_rfl) ?_ _
  rotate_left 1
  focus
    go_simp
    have S00 := S0
    replace S0 := S0.alloc S0.size (.cells #[.int .i64 0, .int .i64 0, .int .i64 0] 75)
    refine hK.out _ _ S0 (fun hHeld => ?_)
    clear hK K hHeld
    try simp only [Act.put, List.setIfInBounds_toArray, List.set_cons_zero, List.set_cons_succ]
    refine wpAnyH_ready (rs := [8]) (by kernel_rfl) (by simp) ?_
    refine AllReadyH.cons (o := { dst := some 12, op := Op.call { callee := Callee.value (Operand.func 59), args := #[Operand.tmp 7, Operand.tmp 11], argTypes := #[9, 2] }, type := 75, pos := "l03_route.go:42", after := #[{ on := 3, ground := Ground.data }, { on := 7, ground := Ground.data }], guard := none }) rfl (fun K hK => ?_) AllReadyH.nil
    go_simp
    refine (HG.out _).mono ?_
    rintro e w1 ⟨rfl, hb1⟩
    have hcell := fun (b : Nat) (o : Nat) (h : b < _) => hb1.cell (p := ⟨b, o, none⟩) h
    have hfro := fun (b : Nat) (o : Nat) (h : b < _) => hb1.frozen (p := ⟨b, o, none⟩) h
    have hz1 := hb1.size
    replace S0 := S0.trans (hb1.mono S0.size)
    clear hb1
    refine hK.out _ _ S0 (fun hHeld => ?_)
    clear hK K hHeld
    try simp only [Act.put, List.setIfInBounds_toArray, List.set_cons_zero, List.set_cons_succ]
    refine wpAnyH_ready (rs := [10]) (by kernel_rfl) (by simp) ?_
    refine AllReadyH.cons (o := { dst := none, op := Op.store 75 (Operand.tmp 3) (Operand.tmp 12), type := 0, pos := "l03_route.go:42", after := #[{ on := 9, ground := Ground.data }, { on := 8, ground := Ground.data }, { on := 8, ground := Ground.chain }, { on := 0, ground := Ground.phase }, { on := 1, ground := Ground.phase }, { on := 2, ground := Ground.phase }, { on := 3, ground := Ground.phase }, { on := 4, ground := Ground.phase }, { on := 5, ground := Ground.phase }, { on := 6, ground := Ground.phase }, { on := 7, ground := Ground.phase }, { on := 8, ground := Ground.phase }, { on := 9, ground := Ground.phase }], guard := none }) rfl (fun K hK => ?_) AllReadyH.nil
    go_simp
    first | (replace S0 : Below w.heap.size w (w1.alloc (.cells #[.int .i64 n, .int .i64 y, .int .i64 c] 75)) := S00.alloc S00.size (.cells #[.int .i64 n, .int .i64 y, .int .i64 c] 75)) | (replace S0 := ((S0.setCell (p := ⟨w.heap.size, 0, none⟩) (Nat.le_refl _) (.int .i64 n)).setCell (p := ⟨w.heap.size, 1, none⟩) (Nat.le_refl _) (.int .i64 y)).setCell (p := ⟨w.heap.size, 2, none⟩) (Nat.le_refl _) (.int .i64 c))
    refine hK.out _ _ S0 (fun hHeld => ?_)
    clear hK K hHeld
    try simp only [Act.put, List.setIfInBounds_toArray, List.set_cons_zero, List.set_cons_succ]
    refine wpAnyH_done (by kernel_rfl) ?_ _
  rotate_left 1
  focus
    obtain ⟨W, hW⟩ : ∃ W, W = w1.alloc (.cells #[.int .i64 n, .int .i64 y, .int .i64 c] 75) := ⟨_, rfl⟩
    obtain ⟨B, hB⟩ : ∃ B, B = w1.heap.size := ⟨_, rfl⟩
    rw [← hW, ← hB]
    have M : NumMid w W B n y c := by
      subst hW hB; exact ⟨S00.size, S0, by simp, by simp, by simp⟩
    clear hW hB S0 S00 hcell hfro hz1
  rotate_left 1
  focus
    obtain ⟨W, hW⟩ : ∃ W, W = ((w1.setCell ⟨w.heap.size, 0, none⟩ (.int .i64 n)).setCell ⟨w.heap.size, 1, none⟩ (.int .i64 y)).setCell ⟨w.heap.size, 2, none⟩ (.int .i64 c) := ⟨_, rfl⟩
    obtain ⟨B, hB⟩ : ∃ B, B = w.heap.size := ⟨_, rfl⟩
    rw [← hW, ← hB]
    have M : NumMid w W B n y c := by
      have r0 := hcell w.heap.size 0 (by simp)
      have r1 := hcell w.heap.size 1 (by simp)
      have r2 := hcell w.heap.size 2 (by simp)
      subst hW hB; exact ⟨Nat.le_refl _, S0, by simp [go_sem, r0], by simp [go_sem, r1], by simp [go_sem, r2]⟩
    clear hW hB S0 S00 hcell hfro hz1
  all_goals
    obtain ⟨m0, m1, m2, m3, m4⟩ := M
    have hgb : g ≠ B := fun e => by omega
    have HR0 := Lib.hid (HH.out.below m1 hlt)
    have HG0 : Hid (w.grownBy W (some g)) := Lib.hid (grown_of_below m1)
    obtain ⟨q0', q1', q2', qf', _⟩ := HR0.out.cells
    clear q0 q1 q2 qf m1 HG
    cases b
    · by_cases hc : c = 0
      · subst hc
        obtain ⟨rfl, rfl, rfl⟩ : n' = n ∧ y' = y ∧ b' = false := by have := hr.out; rw [if_neg (by simp)] at this; simpa using this
        go_wp2_with fail
        go_ret
        exact ⟨rfl, HR0.out.setAt _, grown_setCell' HG0.out⟩
      · obtain ⟨rfl, rfl, rfl⟩ : n' = 0 ∧ y' = k ∧ b' = true := by have := hr.out; rw [if_pos (.inr hc)] at this; simpa using this
        have hcb : (c == 0) = false := by simp [hc]
        go_wp2_with fail
        go_ret
        exact ⟨rfl, HR0.out.setBad true, grown_setCell' HG0.out⟩
    · obtain ⟨rfl, rfl, rfl⟩ : n' = 0 ∧ y' = k ∧ b' = true := by have := hr.out; rw [if_pos (.inl rfl)] at this; simpa using this
      go_wp2_with fail
      go_ret
      exact ⟨rfl, HR0.out.setBad true, grown_setCell' HG0.out⟩

theorem step_fst (s : ByteArray) (j : Nat) : (runS s (j + 1)).l = (runS s j).l ++ [(nextN (runS s j).bad (getNum s (runS s j).at_) (runS s j).at_).1] := by
  show (stepS s (runS s j)).l = _
  unfold stepS nextN; split <;> rfl
theorem step_bad (s : ByteArray) (j : Nat) : (runS s (j + 1)).bad = (nextN (runS s j).bad (getNum s (runS s j).at_) (runS s j).at_).2.2 := by
  show (stepS s (runS s j)).bad = _
  unfold stepS nextN; split <;> rfl
theorem step_at (s : ByteArray) (j : Nat) : ((runS s (j + 1)).at_ : Int) = (nextN (runS s j).bad (getNum s (runS s j).at_) (runS s j).at_).2.1 := by
  show ((stepS s (runS s j)).at_ : Int) = _
  unfold stepS nextN
  split
  · rfl
  · rename_i h
    have hc : (getNum s ((runS s j).at_ : Int)).code = 0 := Classical.byContradiction fun hc => h (.inr hc)
    obtain ⟨n, y, hg⟩ : ∃ n y, getNum s ((runS s j).at_ : Int) = ⟨n, y, 0⟩ := ⟨_, _, by rw [← hc]⟩
    obtain ⟨e1, _⟩ := getNum_sound s _ n y hg
    rw [hg]
    dsimp only
    omega
theorem runS_pre (s : ByteArray) (j m : Nat) : (runS s (j + 1)).l.getD j 0 = (runS s (j + 1 + m)).l.getD j 0 := by
  induction m with
  | zero => rfl
  | succ m ih =>
    rw [ih, show j + 1 + (m + 1) = (j + 1 + m) + 1 by omega, step_fst]
    rw [List.getD_eq_getElem?_getD, List.getD_eq_getElem?_getD, List.getElem?_append_left (by rw [runS_len]; omega)]
def numAt7 (s : ByteArray) (j : Nat) : Int := (runS s 7).l.getD j 0
theorem num_at7 (s : ByteArray) (j : Nat) (hj : j < 7) : (nextN (runS s j).bad (getNum s (runS s j).at_) (runS s j).at_).1 = numAt7 s j := by
  have := runS_pre s j (6 - j)
  rw [show j + 1 + (6 - j) = 7 by omega, step_fst, List.getD_eq_getElem?_getD, List.getElem?_append_right (by rw [runS_len]; exact Nat.le_refl _), runS_len] at this
  simpa [numAt7] using this
/- the j-th number, and where the reader stands behind it -/
theorem specNum_run (g : Nat) (s : ByteArray) (j : Nat) (w : World) (hs : s.size ≤ 8000) (hj : j < 7) (h : RdAt w g s (runS s j).at_ (runS s j).bad) :
    Calls Tryd.prog 38 #[.pointer (some ⟨g, 0, none⟩)] w (NumPost g s (numAt7 s j) (runS s (j + 1)).at_ (runS s (j + 1)).bad w) := by
  rw [← num_at7 s j hj, step_at, step_bad]
  exact specNum_any g s _ _ w (by unfold maxLen; omega) (by have := (runS_inv s hs j).le; omega) h
end Go.Proofs.YthhodnkcaefnnaaDoor
