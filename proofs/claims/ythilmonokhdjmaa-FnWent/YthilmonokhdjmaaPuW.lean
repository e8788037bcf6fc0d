/- WentPut, of the model (the whole of it) and of the program. -/
import Derived.Test.YthilmonokhdjmaaPuS
namespace Go.Proofs.Ythilmonokhdjmaa
open Go.RowKit

/- the ways through the model's test -/
inductive PuWay (l : List Mv) (x : Mv) : Prop
  | long (h1 : 400 < l.length)
  | wrong (h1 : ¬ 400 < l.length) (h2 : mvsOk l = false)
  | bad (h1 : ¬ 400 < l.length) (h2 : mvsOk l = true) (h3 : x.right = false)
  | nil (h1 : ¬ 400 < l.length) (h2 : mvsOk l = true) (h3 : x.right = true) (h4 : l.length = 0) (h5 : lastOk l x = true)
  | late (h1 : ¬ 400 < l.length) (h2 : mvsOk l = true) (h3 : x.right = true) (j : Nat) (h4 : l.length = j + 1) (hj : j < l.length) (a : Mv) (ha : Hid (l[j] = a)) (h5 : ¬ x.tm < a.tm) (h6 : lastOk l x = true)
  | early (h1 : ¬ 400 < l.length) (h2 : mvsOk l = true) (h3 : x.right = true) (j : Nat) (h4 : l.length = j + 1) (hj : j < l.length) (a : Mv) (ha : Hid (l[j] = a)) (h5 : x.tm < a.tm) (h6 : lastOk l x = false)
theorem lastOk_at {l : List Mv} {x : Mv} {j : Nat} (h4 : l.length = j + 1) (hj : j < l.length) : lastOk l x = decide ((l[j]).tm ≤ x.tm) := by
  have e : l.getLast? = some l[j] := by
    rw [List.getLast?_eq_getElem?, h4, Nat.add_sub_cancel, List.getElem?_eq_getElem hj]
  unfold lastOk
  rw [e]
theorem pu_way (l : List Mv) (x : Mv) : PuWay l x := by
  by_cases h1 : 400 < l.length
  · exact .long h1
  cases h2 : mvsOk l
  · exact .wrong h1 h2
  cases h3 : x.right
  · exact .bad h1 h2 h3
  cases h4 : l.length with
  | zero =>
    have e : l = [] := List.eq_nil_of_length_eq_zero h4
    exact .nil h1 h2 h3 h4 (by rw [e]; rfl)
  | succ j =>
    have hj : j < l.length := by omega
    by_cases h5 : x.tm < (l[j]).tm
    · exact .early h1 h2 h3 j h4 hj _ (Lib.hid rfl) h5 (by rw [lastOk_at h4 hj, decide_eq_false (by omega)])
    · exact .late h1 h2 h3 j h4 hj _ (Lib.hid rfl) h5 (by rw [lastOk_at h4 hj, decide_eq_true (by omega)])
/- the key's box, the answer's -/
structure PuB (w W : World) (x : Mv) : Prop where
  key : Blk W w.heap.size 34 x.ar
  ans : Blk W (w.heap.size + 1) 32 #[.slice none 0 0, .int .i64 0]
  bel : Below w.heap.size w W
section
variable {w W W' : World} {x : Mv}
theorem PuB.kept (h : PuB w W x) (hb : Below W.heap.size W W') : PuB w W' x := ⟨h.key.kept hb, h.ans.kept hb, h.bel.trans (hb.mono h.bel.size)⟩
theorem PuB.drew (h : PuB w W x) : PuB w W.drew x := ⟨h.key.drew, h.ans.drew, h.bel.drew⟩
theorem PuB.start (w : World) (x : Mv) : PuB w ((w.alloc (.cells x.ar 34)).alloc (.cells #[.slice none 0 0, .int .i64 0] 32)) x := by
  have X := Blk.new (w.alloc (.cells x.ar 34)) 32 #[.slice none 0 0, .int .i64 0]
  rw [World.size_alloc] at X
  exact ⟨(Blk.new w _ _).alloc _, X, ((Below.refl _ _).alloc (Nat.le_refl _) _).alloc (by simp) _⟩
theorem PuB.low (h : PuB w W x) : w.heap.size + 2 ≤ W.heap.size := h.ans.lt
theorem PuB.grown (h : PuB w W x) {v : Value} {n sz : Nat} {t : TypeId} {xs : List Value} (ho : W.ownsRow (w.heap.size + 2) t sz v n xs) (hg : W.grownBy W' v.ownBlock) : PuB w W' x :=
  ⟨h.key.grown hg (fun e => by have := (ho.lt _ e.symm).1; omega), h.ans.grown hg (fun e => by have := (ho.lt _ e.symm).1; omega), h.bel.grown hg h.bel.size (fun k hk => by have := (ho.lt k hk).1; omega)⟩
theorem PuB.pack (h : PuB w W x) (cs : Array Value) (t : TypeId) : ∃ Wn q, W.alloc (.cells cs t) = Wn ∧ W.heap.size = q ∧ PuB w Wn x ∧ Blk Wn q t cs ∧ Below W.heap.size W Wn ∧ w.heap.size + 2 ≤ q :=
  ⟨_, _, rfl, rfl, h.kept ((Below.refl _ _).alloc (Nat.le_refl _) _), Blk.new _ _ _, (Below.refl _ _).alloc (Nat.le_refl _) _, h.low⟩
theorem PuB.fill (h : PuB w W x) (v0 v1 : Value) : Blk ((W.setCell ⟨w.heap.size + 1, 0, none⟩ v0).setCell ⟨w.heap.size + 1, 1, none⟩ v1) (w.heap.size + 1) 32 #[v0, v1] ∧ Below w.heap.size w ((W.setCell ⟨w.heap.size + 1, 0, none⟩ v0).setCell ⟨w.heap.size + 1, 1, none⟩ v1) := fillW h.ans h.bel (by omega) v0 v1
end
set_option maxRecDepth 100000 in
set_option maxHeartbeats 16000000 in
theorem specWentPut_any (l : List Mv) (v0 : Value) (x : Mv) (w : World) (h : MvsAt w v0 l) (hc : NcOk v0) (hnb : l.length ≤ 1048576) :
    Calls Try.prog 20 #[v0, x.val] w (WoPost (putR8 l x) w) := by
  have S0 := PuB.start w x
  have HRR := Lib.hid (fun (W' : World) (hb : Below w.heap.size w W') => specWentRight_any l v0 W' (SlAt.kept h hb) hnb)
  have HP := Lib.hid (specWent_any x)
  have HQ := Lib.hid (fun (c : Int) => specIll8_any c)
  have HW := pu_way l x
  have HLg := Lib.hid (fun h1 => putR8_long (l := l) (x := x) h1)
  have HNo := Lib.hid (fun h1 h2 => putR8_no (l := l) (x := x) h1 h2)
  have HOk := Lib.hid (fun h1 h2 h3 => putR8_ok (l := l) (x := x) h1 h2 h3)
  have HIn := Lib.hid (fun (h30 : l.length ≤ 30) (W' : World) (hb : Below w.heap.size w W') => specPutIn8_any l v0 x W' (SlAt.kept h hb) hc h30)
  have HEl := Lib.hid (fun (W' : World) (hb : Below w.heap.size w W') => SlAt.kept h hb)
  have HL := Lib.hid (fun (h : mvsOk l = true) => mvsOk_len h)
  unfold MrPost at HRR
  unfold RowPost at HIn
  unfold woV at HQ
  obtain ⟨a, cap, rfl, hbox⟩ := h
  rw [List.length_map] at *
  generalize putR8 l x = S at *
  unfold Mv.ar at S0
  unfold Mv.val at *
  rcases HW with ⟨h1⟩ | ⟨h1, h2⟩ | ⟨h1, h2, h3⟩ | ⟨h1, h2, h3, h4, h5⟩ | ⟨h1, h2, h3, j, h4, hj, y, ha, h5, h6⟩ | ⟨h1, h2, h3, j, h4, hj, y, ha, h5, h6⟩
  · have HR := Lib.hid (HLg.out h1)
    have hg : (400 : Int) < (l.length : Int) := by omega
    clear HEl HIn HL HLg HNo HOk hbox hc
    generalize l.length = n at *
    go_enter Try.func20, Try.ntmps20
    go_upto_region 1 with fail
    generalize (w.alloc (.cells #[.int .i64 x.vni, .int .i64 x.mac, .int .i64 x.tm] 34)).alloc (.cells #[.slice none 0 0, .int .i64 0] 32) = W0 at *
    go_wp2_with (go_at_call 87; refine (HQ.out _ _).mono ?_; rintro e w1 ⟨rfl, hb1⟩; have S1 := S0.kept hb1; have hc := S1.ans.cell; have hf := S1.ans.frozen; clear hb1)
    have HY := Lib.hid (S1.fill (.slice none 0 0) (.int .i64 2))
    generalize ((w1.setCell ⟨w.heap.size + 1, 0, none⟩ (.slice none 0 0)).setCell ⟨w.heap.size + 1, 1, none⟩ (.int .i64 2)) = w2 at *
    have hc2 := HY.out.1.cell
    refine bodyPost_ret (v := woV (.slice none 0 0) 2) (by simp [results, Try.results20, go_sem, woV, hc2]) rfl ?_
    exact WoPost.ill HR.out rfl HY.out.2
  · have HR := Lib.hid (HNo.out h1 (.inl h2))
    have hg : ¬ (400 : Int) < (l.length : Int) := by omega
    rw [h2] at HRR
    clear HEl HIn HL HLg HNo HOk hbox hc h2
    generalize l.length = n at *
    go_enter Try.func20, Try.ntmps20
    go_upto_region 1 with fail
    generalize (w.alloc (.cells #[.int .i64 x.vni, .int .i64 x.mac, .int .i64 x.tm] 34)).alloc (.cells #[.slice none 0 0, .int .i64 0] 32) = W0 at *
    go_upto_region 3 with fail
    replace S0 := S0.drew
    refine wp_region_held_drew (S := fun W' => PuB w W' _) (by kernel_rfl) S0 (fun hHeld => ?_)
    clear hHeld
    generalize W0.drew = Wd at *
    refine wpAnyH_take (i := 0) (oi := { dst := some 9, op := Op.move (Operand.tmp 0), type := 25, pos := "l08_moves.go:33", after := #[], guard := none }) (v := ?vva1) rfl (by kernel_rfl) (by kernel_rfl) (by kernel_rfl) (fun _ _ _ h => h) (Or.inl ⟨by rfl, ?hya1⟩) S0 ?resta1
    case hya1 => (intro w hSw; have hcx := hSw.key.cell; unfold Mv.ar at hcx;go_simp <;> with_reducible rfl)
    try simp only [Act.put, List.setIfInBounds_toArray, List.set_cons_zero, List.set_cons_succ]
    refine wpAnyH_ready (rs := [1]) (by kernel_rfl) (by simp) ?_
    refine AllReadyH.cons (o := { dst := some 10, op := Op.call { callee := Callee.value (Operand.func 16), args := #[Operand.tmp 9], argTypes := #[25] }, type := 4, pos := "l08_moves.go:33", after := #[{ on := 0, ground := Ground.data }], guard := none }) rfl (fun K hK => ?_) AllReadyH.nil
    go_simp
    refine (HRR.out _ S0.bel).mono ?_
    rintro e w3 ⟨rfl, hb3⟩
    replace S0 := S0.kept hb3
    clear hb3
    refine hK.out _ _ S0 (fun hHeld => ?_)
    clear hK K hHeld
    try simp only [Act.put, List.setIfInBounds_toArray, List.set_cons_zero, List.set_cons_succ]
    refine wpAnyH_take (i := 2) (oi := { dst := some 11, op := Op.unOp UnOp.not 4 (Operand.tmp 10), type := 4, pos := "l08_moves.go:33", after := #[{ on := 1, ground := Ground.data }], guard := none }) (v := ?vva2) rfl (by kernel_rfl) (by kernel_rfl) (by kernel_rfl) (fun _ _ _ h => h) (Or.inl ⟨by rfl, ?hya2⟩) S0 ?resta2
    case hya2 => (intro w hSw; have hcx := hSw.key.cell; unfold Mv.ar at hcx;go_simp <;> with_reducible rfl)
    try simp only [Act.put, List.setIfInBounds_toArray, List.set_cons_zero, List.set_cons_succ]
    refine wpAnyH_take (i := 3) (oi := { dst := some 12, op := Op.move (Operand.tmp 11), type := 4, pos := "l08_moves.go:33", after := #[{ on := 2, ground := Ground.data }, { on := 1, ground := Ground.chain }], guard := none }) (v := ?vva3) rfl (by kernel_rfl) (by kernel_rfl) (by kernel_rfl) (fun _ _ _ h => h) (Or.inl ⟨by rfl, ?hya3⟩) S0 ?resta3
    case hya3 => (intro w hSw; have hcx := hSw.key.cell; unfold Mv.ar at hcx;go_simp <;> with_reducible rfl)
    try simp only [Act.put, List.setIfInBounds_toArray, List.set_cons_zero, List.set_cons_succ]
    refine wpAnyH_take (i := 4) (oi := { dst := some 13, op := Op.load 34 (Operand.tmp 3), type := 34, pos := "l08_moves.go:33", after := #[{ on := 3, ground := Ground.guard }], guard := some (3, false) }) (v := undef) rfl (by kernel_rfl) (by kernel_rfl) (by kernel_rfl) (fun _ _ _ h => h) (Or.inr ⟨by rfl, rfl⟩) S0 ?_
    try simp only [Act.put, List.setIfInBounds_toArray, List.set_cons_zero, List.set_cons_succ]
    refine wpAnyH_take (i := 5) (oi := { dst := some 14, op := Op.call { callee := Callee.value (Operand.func 82), args := #[Operand.tmp 13], argTypes := #[34] }, type := 4, pos := "l08_moves.go:33", after := #[{ on := 4, ground := Ground.data }, { on := 3, ground := Ground.chain }, { on := 3, ground := Ground.guard }], guard := some (3, false) }) (v := undef) rfl (by kernel_rfl) (by kernel_rfl) (by kernel_rfl) (fun _ _ _ h => h) (Or.inr ⟨by rfl, rfl⟩) S0 ?_
    try simp only [Act.put, List.setIfInBounds_toArray, List.set_cons_zero, List.set_cons_succ]
    refine wpAnyH_take (i := 6) (oi := { dst := some 15, op := Op.unOp UnOp.not 4 (Operand.tmp 14), type := 4, pos := "l08_moves.go:33", after := #[{ on := 5, ground := Ground.data }, { on := 3, ground := Ground.guard }], guard := some (3, false) }) (v := undef) rfl (by kernel_rfl) (by kernel_rfl) (by kernel_rfl) (fun _ _ _ h => h) (Or.inr ⟨by rfl, rfl⟩) S0 ?_
    try simp only [Act.put, List.setIfInBounds_toArray, List.set_cons_zero, List.set_cons_succ]
    refine wpAnyH_take (i := 7) (oi := { dst := some 16, op := Op.pick (Operand.tmp 12) (Operand.const (Value.bool true)) (Operand.tmp 15), type := 4, pos := "l08_moves.go:33", after := #[{ on := 3, ground := Ground.data }, { on := 6, ground := Ground.data }], guard := none }) (v := ?vva7) rfl (by kernel_rfl) (by kernel_rfl) (by kernel_rfl) (fun _ _ _ h => h) (Or.inl ⟨by rfl, ?hya7⟩) S0 ?resta7
    case hya7 => (intro w hSw; have hcx := hSw.key.cell; unfold Mv.ar at hcx;go_simp <;> with_reducible rfl)
    try simp only [Act.put, List.setIfInBounds_toArray, List.set_cons_zero, List.set_cons_succ]
    refine wpAnyH_take (i := 8) (oi := { dst := some 17, op := Op.move (Operand.tmp 16), type := 4, pos := "l08_moves.go:33", after := #[{ on := 7, ground := Ground.data }, { on := 5, ground := Ground.chain }], guard := none }) (v := ?vva8) rfl (by kernel_rfl) (by kernel_rfl) (by kernel_rfl) (fun _ _ _ h => h) (Or.inl ⟨by rfl, ?hya8⟩) S0 ?resta8
    case hya8 => (intro w hSw; have hcx := hSw.key.cell; unfold Mv.ar at hcx;go_simp <;> with_reducible rfl)
    try simp only [Act.put, List.setIfInBounds_toArray, List.set_cons_zero, List.set_cons_succ]
    refine wpAnyH_take (i := 9) (oi := { dst := some 18, op := Op.move (Operand.tmp 0), type := 25, pos := "l08_moves.go:33", after := #[{ on := 8, ground := Ground.guard }], guard := some (8, false) }) (v := undef) rfl (by kernel_rfl) (by kernel_rfl) (by kernel_rfl) (fun _ _ _ h => h) (Or.inr ⟨by rfl, rfl⟩) S0 ?_
    try simp only [Act.put, List.setIfInBounds_toArray, List.set_cons_zero, List.set_cons_succ]
    refine wpAnyH_take (i := 10) (oi := { dst := some 19, op := Op.call { callee := Callee.builtin Builtin.len, args := #[Operand.tmp 18], argTypes := #[25] }, type := 3, pos := "l08_moves.go:33", after := #[{ on := 9, ground := Ground.data }, { on := 8, ground := Ground.guard }], guard := some (8, false) }) (v := undef) rfl (by kernel_rfl) (by kernel_rfl) (by kernel_rfl) (fun _ _ _ h => h) (Or.inr ⟨by rfl, rfl⟩) S0 ?_
    try simp only [Act.put, List.setIfInBounds_toArray, List.set_cons_zero, List.set_cons_succ]
    refine wpAnyH_take (i := 11) (oi := { dst := some 20, op := Op.binOp BinOp.gtr 3 (Operand.tmp 19) (Operand.const (Value.int IntKind.i64 0)) 3, type := 4, pos := "l08_moves.go:33", after := #[{ on := 10, ground := Ground.data }, { on := 8, ground := Ground.guard }], guard := some (8, false) }) (v := undef) rfl (by kernel_rfl) (by kernel_rfl) (by kernel_rfl) (fun _ _ _ h => h) (Or.inr ⟨by rfl, rfl⟩) S0 ?_
    try simp only [Act.put, List.setIfInBounds_toArray, List.set_cons_zero, List.set_cons_succ]
    refine wpAnyH_take (i := 12) (oi := { dst := some 21, op := Op.move (Operand.tmp 20), type := 4, pos := "l08_moves.go:33", after := #[{ on := 11, ground := Ground.data }, { on := 8, ground := Ground.chain }, { on := 8, ground := Ground.guard }], guard := some (8, false) }) (v := undef) rfl (by kernel_rfl) (by kernel_rfl) (by kernel_rfl) (fun _ _ _ h => h) (Or.inr ⟨by rfl, rfl⟩) S0 ?_
    try simp only [Act.put, List.setIfInBounds_toArray, List.set_cons_zero, List.set_cons_succ]
    refine wpAnyH_take (i := 13) (oi := { dst := some 22, op := Op.move (Operand.tmp 0), type := 25, pos := "l08_moves.go:33", after := #[{ on := 12, ground := Ground.guard }], guard := some (12, true) }) (v := undef) rfl (by kernel_rfl) (by kernel_rfl) (by kernel_rfl) (fun _ _ _ h => h) (Or.inr ⟨by rfl, rfl⟩) S0 ?_
    try simp only [Act.put, List.setIfInBounds_toArray, List.set_cons_zero, List.set_cons_succ]
    refine wpAnyH_take (i := 14) (oi := { dst := some 23, op := Op.move (Operand.tmp 0), type := 25, pos := "l08_moves.go:33", after := #[{ on := 12, ground := Ground.guard }], guard := some (12, true) }) (v := undef) rfl (by kernel_rfl) (by kernel_rfl) (by kernel_rfl) (fun _ _ _ h => h) (Or.inr ⟨by rfl, rfl⟩) S0 ?_
    try simp only [Act.put, List.setIfInBounds_toArray, List.set_cons_zero, List.set_cons_succ]
    refine wpAnyH_take (i := 15) (oi := { dst := some 24, op := Op.call { callee := Callee.builtin Builtin.len, args := #[Operand.tmp 23], argTypes := #[25] }, type := 3, pos := "l08_moves.go:33", after := #[{ on := 14, ground := Ground.data }, { on := 12, ground := Ground.guard }], guard := some (12, true) }) (v := undef) rfl (by kernel_rfl) (by kernel_rfl) (by kernel_rfl) (fun _ _ _ h => h) (Or.inr ⟨by rfl, rfl⟩) S0 ?_
    try simp only [Act.put, List.setIfInBounds_toArray, List.set_cons_zero, List.set_cons_succ]
    refine wpAnyH_take (i := 16) (oi := { dst := some 25, op := Op.binOp BinOp.sub 3 (Operand.tmp 24) (Operand.const (Value.int IntKind.i64 1)) 3, type := 3, pos := "l08_moves.go:33", after := #[{ on := 15, ground := Ground.data }, { on := 12, ground := Ground.guard }], guard := some (12, true) }) (v := undef) rfl (by kernel_rfl) (by kernel_rfl) (by kernel_rfl) (fun _ _ _ h => h) (Or.inr ⟨by rfl, rfl⟩) S0 ?_
    try simp only [Act.put, List.setIfInBounds_toArray, List.set_cons_zero, List.set_cons_succ]
    refine wpAnyH_take (i := 17) (oi := { dst := some 26, op := Op.indexAddr 25 (Operand.tmp 22) (Operand.tmp 25), type := 0, pos := "l08_moves.go:33", after := #[{ on := 13, ground := Ground.data }, { on := 16, ground := Ground.data }, { on := 12, ground := Ground.guard }], guard := some (12, true) }) (v := undef) rfl (by kernel_rfl) (by kernel_rfl) (by kernel_rfl) (fun _ _ _ h => h) (Or.inr ⟨by rfl, rfl⟩) S0 ?_
    try simp only [Act.put, List.setIfInBounds_toArray, List.set_cons_zero, List.set_cons_succ]
    refine wpAnyH_take (i := 18) (oi := { dst := some 27, op := Op.fieldAddr 34 (Operand.tmp 26) 2, type := 0, pos := "l08_moves.go:33", after := #[{ on := 17, ground := Ground.data }, { on := 12, ground := Ground.guard }], guard := some (12, true) }) (v := undef) rfl (by kernel_rfl) (by kernel_rfl) (by kernel_rfl) (fun _ _ _ h => h) (Or.inr ⟨by rfl, rfl⟩) S0 ?_
    try simp only [Act.put, List.setIfInBounds_toArray, List.set_cons_zero, List.set_cons_succ]
    refine wpAnyH_take (i := 19) (oi := { dst := some 28, op := Op.load 2 (Operand.tmp 27), type := 2, pos := "l08_moves.go:33", after := #[{ on := 18, ground := Ground.data }, { on := 12, ground := Ground.guard }], guard := some (12, true) }) (v := undef) rfl (by kernel_rfl) (by kernel_rfl) (by kernel_rfl) (fun _ _ _ h => h) (Or.inr ⟨by rfl, rfl⟩) S0 ?_
    try simp only [Act.put, List.setIfInBounds_toArray, List.set_cons_zero, List.set_cons_succ]
    refine wpAnyH_take (i := 20) (oi := { dst := some 29, op := Op.fieldAddr 34 (Operand.tmp 3) 2, type := 0, pos := "l08_moves.go:33", after := #[{ on := 12, ground := Ground.guard }], guard := some (12, true) }) (v := undef) rfl (by kernel_rfl) (by kernel_rfl) (by kernel_rfl) (fun _ _ _ h => h) (Or.inr ⟨by rfl, rfl⟩) S0 ?_
    try simp only [Act.put, List.setIfInBounds_toArray, List.set_cons_zero, List.set_cons_succ]
    refine wpAnyH_take (i := 21) (oi := { dst := some 30, op := Op.load 2 (Operand.tmp 29), type := 2, pos := "l08_moves.go:33", after := #[{ on := 20, ground := Ground.data }, { on := 12, ground := Ground.guard }], guard := some (12, true) }) (v := undef) rfl (by kernel_rfl) (by kernel_rfl) (by kernel_rfl) (fun _ _ _ h => h) (Or.inr ⟨by rfl, rfl⟩) S0 ?_
    try simp only [Act.put, List.setIfInBounds_toArray, List.set_cons_zero, List.set_cons_succ]
    refine wpAnyH_take (i := 22) (oi := { dst := some 31, op := Op.binOp BinOp.gtr 2 (Operand.tmp 28) (Operand.tmp 30) 2, type := 4, pos := "l08_moves.go:33", after := #[{ on := 19, ground := Ground.data }, { on := 21, ground := Ground.data }, { on := 12, ground := Ground.guard }], guard := some (12, true) }) (v := undef) rfl (by kernel_rfl) (by kernel_rfl) (by kernel_rfl) (fun _ _ _ h => h) (Or.inr ⟨by rfl, rfl⟩) S0 ?_
    try simp only [Act.put, List.setIfInBounds_toArray, List.set_cons_zero, List.set_cons_succ]
    refine wpAnyH_take (i := 23) (oi := { dst := some 32, op := Op.pick (Operand.tmp 21) (Operand.tmp 31) (Operand.const (Value.bool false)), type := 4, pos := "l08_moves.go:33", after := #[{ on := 12, ground := Ground.data }, { on := 22, ground := Ground.data }, { on := 8, ground := Ground.guard }], guard := some (8, false) }) (v := undef) rfl (by kernel_rfl) (by kernel_rfl) (by kernel_rfl) (fun _ _ _ h => h) (Or.inr ⟨by rfl, rfl⟩) S0 ?_
    try simp only [Act.put, List.setIfInBounds_toArray, List.set_cons_zero, List.set_cons_succ]
    refine wpAnyH_take (i := 24) (oi := { dst := some 33, op := Op.pick (Operand.tmp 17) (Operand.const (Value.bool true)) (Operand.tmp 32), type := 4, pos := "l08_moves.go:33", after := #[{ on := 8, ground := Ground.data }, { on := 23, ground := Ground.data }], guard := none }) (v := ?vva24) rfl (by kernel_rfl) (by kernel_rfl) (by kernel_rfl) (fun _ _ _ h => h) (Or.inl ⟨by rfl, ?hya24⟩) S0 ?resta24
    case hya24 => (intro w hSw; have hcx := hSw.key.cell; unfold Mv.ar at hcx;go_simp <;> with_reducible rfl)
    try simp only [Act.put, List.setIfInBounds_toArray, List.set_cons_zero, List.set_cons_succ]
    refine wpAnyH_done (by kernel_rfl) ?_ _
    all_goals
      go_wp2_with (go_at_call 87; refine (HQ.out _ _).mono ?_; rintro e w1 ⟨rfl, hb1⟩; have S1 := S0.kept hb1; have hc := S1.ans.cell; have hf := S1.ans.frozen; clear hb1)
      have HY := Lib.hid (S1.fill (.slice none 0 0) (.int .i64 1))
      generalize ((w1.setCell ⟨w.heap.size + 1, 0, none⟩ (.slice none 0 0)).setCell ⟨w.heap.size + 1, 1, none⟩ (.int .i64 1)) = w2 at *
      have hc2 := HY.out.1.cell
      refine bodyPost_ret (v := woV (.slice none 0 0) 1) (by simp [results, Try.results20, go_sem, woV, hc2]) rfl ?_
      exact WoPost.ill HR.out rfl HY.out.2
  · have HR := Lib.hid (HNo.out h1 (.inr (by rw [h3]; rfl)))
    have hg : ¬ (400 : Int) < (l.length : Int) := by omega
    rw [h2] at HRR
    rw [h3] at HP
    clear HEl HIn HL HLg HNo HOk hbox hc h2 h3
    generalize l.length = n at *
    go_enter Try.func20, Try.ntmps20
    go_upto_region 1 with fail
    generalize (w.alloc (.cells #[.int .i64 x.vni, .int .i64 x.mac, .int .i64 x.tm] 34)).alloc (.cells #[.slice none 0 0, .int .i64 0] 32) = W0 at *
    go_upto_region 3 with fail
    replace S0 := S0.drew
    refine wp_region_held_drew (S := fun W' => PuB w W' _) (by kernel_rfl) S0 (fun hHeld => ?_)
    clear hHeld
    generalize W0.drew = Wd at *
    refine wpAnyH_take (i := 0) (oi := { dst := some 9, op := Op.move (Operand.tmp 0), type := 25, pos := "l08_moves.go:33", after := #[], guard := none }) (v := ?vvb1) rfl (by kernel_rfl) (by kernel_rfl) (by kernel_rfl) (fun _ _ _ h => h) (Or.inl ⟨by rfl, ?hyb1⟩) S0 ?restb1
    case hyb1 => (intro w hSw; have hcx := hSw.key.cell; unfold Mv.ar at hcx;go_simp <;> with_reducible rfl)
    try simp only [Act.put, List.setIfInBounds_toArray, List.set_cons_zero, List.set_cons_succ]
    refine wpAnyH_ready (rs := [1]) (by kernel_rfl) (by simp) ?_
    refine AllReadyH.cons (o := { dst := some 10, op := Op.call { callee := Callee.value (Operand.func 16), args := #[Operand.tmp 9], argTypes := #[25] }, type := 4, pos := "l08_moves.go:33", after := #[{ on := 0, ground := Ground.data }], guard := none }) rfl (fun K hK => ?_) AllReadyH.nil
    go_simp
    refine (HRR.out _ S0.bel).mono ?_
    rintro e w3 ⟨rfl, hb3⟩
    replace S0 := S0.kept hb3
    clear hb3
    refine hK.out _ _ S0 (fun hHeld => ?_)
    clear hK K hHeld
    try simp only [Act.put, List.setIfInBounds_toArray, List.set_cons_zero, List.set_cons_succ]
    refine wpAnyH_take (i := 2) (oi := { dst := some 11, op := Op.unOp UnOp.not 4 (Operand.tmp 10), type := 4, pos := "l08_moves.go:33", after := #[{ on := 1, ground := Ground.data }], guard := none }) (v := ?vvb2) rfl (by kernel_rfl) (by kernel_rfl) (by kernel_rfl) (fun _ _ _ h => h) (Or.inl ⟨by rfl, ?hyb2⟩) S0 ?restb2
    case hyb2 => (intro w hSw; have hcx := hSw.key.cell; unfold Mv.ar at hcx;go_simp <;> with_reducible rfl)
    try simp only [Act.put, List.setIfInBounds_toArray, List.set_cons_zero, List.set_cons_succ]
    refine wpAnyH_take (i := 3) (oi := { dst := some 12, op := Op.move (Operand.tmp 11), type := 4, pos := "l08_moves.go:33", after := #[{ on := 2, ground := Ground.data }, { on := 1, ground := Ground.chain }], guard := none }) (v := ?vvb3) rfl (by kernel_rfl) (by kernel_rfl) (by kernel_rfl) (fun _ _ _ h => h) (Or.inl ⟨by rfl, ?hyb3⟩) S0 ?restb3
    case hyb3 => (intro w hSw; have hcx := hSw.key.cell; unfold Mv.ar at hcx;go_simp <;> with_reducible rfl)
    try simp only [Act.put, List.setIfInBounds_toArray, List.set_cons_zero, List.set_cons_succ]
    refine wpAnyH_take (i := 4) (oi := { dst := some 13, op := Op.load 34 (Operand.tmp 3), type := 34, pos := "l08_moves.go:33", after := #[{ on := 3, ground := Ground.guard }], guard := some (3, false) }) (v := ?vvb4) rfl (by kernel_rfl) (by kernel_rfl) (by kernel_rfl) (fun _ _ _ h => h) (Or.inl ⟨by rfl, ?hyb4⟩) S0 ?restb4
    case hyb4 => (intro w hSw; have hcx := hSw.key.cell; unfold Mv.ar at hcx;go_simp <;> with_reducible rfl)
    try simp only [Act.put, List.setIfInBounds_toArray, List.set_cons_zero, List.set_cons_succ]
    refine wpAnyH_ready (rs := [5]) (by kernel_rfl) (by simp) ?_
    refine AllReadyH.cons (o := { dst := some 14, op := Op.call { callee := Callee.value (Operand.func 82), args := #[Operand.tmp 13], argTypes := #[34] }, type := 4, pos := "l08_moves.go:33", after := #[{ on := 4, ground := Ground.data }, { on := 3, ground := Ground.chain }, { on := 3, ground := Ground.guard }], guard := some (3, false) }) rfl (fun K hK => ?_) AllReadyH.nil
    go_simp
    refine (HP.out _).mono ?_
    rintro e w4 ⟨rfl, hb4⟩
    replace S0 := S0.kept hb4
    clear hb4
    refine hK.out _ _ S0 (fun hHeld => ?_)
    clear hK K hHeld
    try simp only [Act.put, List.setIfInBounds_toArray, List.set_cons_zero, List.set_cons_succ]
    refine wpAnyH_take (i := 6) (oi := { dst := some 15, op := Op.unOp UnOp.not 4 (Operand.tmp 14), type := 4, pos := "l08_moves.go:33", after := #[{ on := 5, ground := Ground.data }, { on := 3, ground := Ground.guard }], guard := some (3, false) }) (v := ?vvb5) rfl (by kernel_rfl) (by kernel_rfl) (by kernel_rfl) (fun _ _ _ h => h) (Or.inl ⟨by rfl, ?hyb5⟩) S0 ?restb5
    case hyb5 => (intro w hSw; have hcx := hSw.key.cell; unfold Mv.ar at hcx;go_simp <;> with_reducible rfl)
    try simp only [Act.put, List.setIfInBounds_toArray, List.set_cons_zero, List.set_cons_succ]
    refine wpAnyH_take (i := 7) (oi := { dst := some 16, op := Op.pick (Operand.tmp 12) (Operand.const (Value.bool true)) (Operand.tmp 15), type := 4, pos := "l08_moves.go:33", after := #[{ on := 3, ground := Ground.data }, { on := 6, ground := Ground.data }], guard := none }) (v := ?vvb6) rfl (by kernel_rfl) (by kernel_rfl) (by kernel_rfl) (fun _ _ _ h => h) (Or.inl ⟨by rfl, ?hyb6⟩) S0 ?restb6
    case hyb6 => (intro w hSw; have hcx := hSw.key.cell; unfold Mv.ar at hcx;go_simp <;> with_reducible rfl)
    try simp only [Act.put, List.setIfInBounds_toArray, List.set_cons_zero, List.set_cons_succ]
    refine wpAnyH_take (i := 8) (oi := { dst := some 17, op := Op.move (Operand.tmp 16), type := 4, pos := "l08_moves.go:33", after := #[{ on := 7, ground := Ground.data }, { on := 5, ground := Ground.chain }], guard := none }) (v := ?vvb7) rfl (by kernel_rfl) (by kernel_rfl) (by kernel_rfl) (fun _ _ _ h => h) (Or.inl ⟨by rfl, ?hyb7⟩) S0 ?restb7
    case hyb7 => (intro w hSw; have hcx := hSw.key.cell; unfold Mv.ar at hcx;go_simp <;> with_reducible rfl)
    try simp only [Act.put, List.setIfInBounds_toArray, List.set_cons_zero, List.set_cons_succ]
    refine wpAnyH_take (i := 9) (oi := { dst := some 18, op := Op.move (Operand.tmp 0), type := 25, pos := "l08_moves.go:33", after := #[{ on := 8, ground := Ground.guard }], guard := some (8, false) }) (v := undef) rfl (by kernel_rfl) (by kernel_rfl) (by kernel_rfl) (fun _ _ _ h => h) (Or.inr ⟨by rfl, rfl⟩) S0 ?_
    try simp only [Act.put, List.setIfInBounds_toArray, List.set_cons_zero, List.set_cons_succ]
    refine wpAnyH_take (i := 10) (oi := { dst := some 19, op := Op.call { callee := Callee.builtin Builtin.len, args := #[Operand.tmp 18], argTypes := #[25] }, type := 3, pos := "l08_moves.go:33", after := #[{ on := 9, ground := Ground.data }, { on := 8, ground := Ground.guard }], guard := some (8, false) }) (v := undef) rfl (by kernel_rfl) (by kernel_rfl) (by kernel_rfl) (fun _ _ _ h => h) (Or.inr ⟨by rfl, rfl⟩) S0 ?_
    try simp only [Act.put, List.setIfInBounds_toArray, List.set_cons_zero, List.set_cons_succ]
    refine wpAnyH_take (i := 11) (oi := { dst := some 20, op := Op.binOp BinOp.gtr 3 (Operand.tmp 19) (Operand.const (Value.int IntKind.i64 0)) 3, type := 4, pos := "l08_moves.go:33", after := #[{ on := 10, ground := Ground.data }, { on := 8, ground := Ground.guard }], guard := some (8, false) }) (v := undef) rfl (by kernel_rfl) (by kernel_rfl) (by kernel_rfl) (fun _ _ _ h => h) (Or.inr ⟨by rfl, rfl⟩) S0 ?_
    try simp only [Act.put, List.setIfInBounds_toArray, List.set_cons_zero, List.set_cons_succ]
    refine wpAnyH_take (i := 12) (oi := { dst := some 21, op := Op.move (Operand.tmp 20), type := 4, pos := "l08_moves.go:33", after := #[{ on := 11, ground := Ground.data }, { on := 8, ground := Ground.chain }, { on := 8, ground := Ground.guard }], guard := some (8, false) }) (v := undef) rfl (by kernel_rfl) (by kernel_rfl) (by kernel_rfl) (fun _ _ _ h => h) (Or.inr ⟨by rfl, rfl⟩) S0 ?_
    try simp only [Act.put, List.setIfInBounds_toArray, List.set_cons_zero, List.set_cons_succ]
    refine wpAnyH_take (i := 13) (oi := { dst := some 22, op := Op.move (Operand.tmp 0), type := 25, pos := "l08_moves.go:33", after := #[{ on := 12, ground := Ground.guard }], guard := some (12, true) }) (v := undef) rfl (by kernel_rfl) (by kernel_rfl) (by kernel_rfl) (fun _ _ _ h => h) (Or.inr ⟨by rfl, rfl⟩) S0 ?_
    try simp only [Act.put, List.setIfInBounds_toArray, List.set_cons_zero, List.set_cons_succ]
    refine wpAnyH_take (i := 14) (oi := { dst := some 23, op := Op.move (Operand.tmp 0), type := 25, pos := "l08_moves.go:33", after := #[{ on := 12, ground := Ground.guard }], guard := some (12, true) }) (v := undef) rfl (by kernel_rfl) (by kernel_rfl) (by kernel_rfl) (fun _ _ _ h => h) (Or.inr ⟨by rfl, rfl⟩) S0 ?_
    try simp only [Act.put, List.setIfInBounds_toArray, List.set_cons_zero, List.set_cons_succ]
    refine wpAnyH_take (i := 15) (oi := { dst := some 24, op := Op.call { callee := Callee.builtin Builtin.len, args := #[Operand.tmp 23], argTypes := #[25] }, type := 3, pos := "l08_moves.go:33", after := #[{ on := 14, ground := Ground.data }, { on := 12, ground := Ground.guard }], guard := some (12, true) }) (v := undef) rfl (by kernel_rfl) (by kernel_rfl) (by kernel_rfl) (fun _ _ _ h => h) (Or.inr ⟨by rfl, rfl⟩) S0 ?_
    try simp only [Act.put, List.setIfInBounds_toArray, List.set_cons_zero, List.set_cons_succ]
    refine wpAnyH_take (i := 16) (oi := { dst := some 25, op := Op.binOp BinOp.sub 3 (Operand.tmp 24) (Operand.const (Value.int IntKind.i64 1)) 3, type := 3, pos := "l08_moves.go:33", after := #[{ on := 15, ground := Ground.data }, { on := 12, ground := Ground.guard }], guard := some (12, true) }) (v := undef) rfl (by kernel_rfl) (by kernel_rfl) (by kernel_rfl) (fun _ _ _ h => h) (Or.inr ⟨by rfl, rfl⟩) S0 ?_
    try simp only [Act.put, List.setIfInBounds_toArray, List.set_cons_zero, List.set_cons_succ]
    refine wpAnyH_take (i := 17) (oi := { dst := some 26, op := Op.indexAddr 25 (Operand.tmp 22) (Operand.tmp 25), type := 0, pos := "l08_moves.go:33", after := #[{ on := 13, ground := Ground.data }, { on := 16, ground := Ground.data }, { on := 12, ground := Ground.guard }], guard := some (12, true) }) (v := undef) rfl (by kernel_rfl) (by kernel_rfl) (by kernel_rfl) (fun _ _ _ h => h) (Or.inr ⟨by rfl, rfl⟩) S0 ?_
    try simp only [Act.put, List.setIfInBounds_toArray, List.set_cons_zero, List.set_cons_succ]
    refine wpAnyH_take (i := 18) (oi := { dst := some 27, op := Op.fieldAddr 34 (Operand.tmp 26) 2, type := 0, pos := "l08_moves.go:33", after := #[{ on := 17, ground := Ground.data }, { on := 12, ground := Ground.guard }], guard := some (12, true) }) (v := undef) rfl (by kernel_rfl) (by kernel_rfl) (by kernel_rfl) (fun _ _ _ h => h) (Or.inr ⟨by rfl, rfl⟩) S0 ?_
    try simp only [Act.put, List.setIfInBounds_toArray, List.set_cons_zero, List.set_cons_succ]
    refine wpAnyH_take (i := 19) (oi := { dst := some 28, op := Op.load 2 (Operand.tmp 27), type := 2, pos := "l08_moves.go:33", after := #[{ on := 18, ground := Ground.data }, { on := 12, ground := Ground.guard }], guard := some (12, true) }) (v := undef) rfl (by kernel_rfl) (by kernel_rfl) (by kernel_rfl) (fun _ _ _ h => h) (Or.inr ⟨by rfl, rfl⟩) S0 ?_
    try simp only [Act.put, List.setIfInBounds_toArray, List.set_cons_zero, List.set_cons_succ]
    refine wpAnyH_take (i := 20) (oi := { dst := some 29, op := Op.fieldAddr 34 (Operand.tmp 3) 2, type := 0, pos := "l08_moves.go:33", after := #[{ on := 12, ground := Ground.guard }], guard := some (12, true) }) (v := undef) rfl (by kernel_rfl) (by kernel_rfl) (by kernel_rfl) (fun _ _ _ h => h) (Or.inr ⟨by rfl, rfl⟩) S0 ?_
    try simp only [Act.put, List.setIfInBounds_toArray, List.set_cons_zero, List.set_cons_succ]
    refine wpAnyH_take (i := 21) (oi := { dst := some 30, op := Op.load 2 (Operand.tmp 29), type := 2, pos := "l08_moves.go:33", after := #[{ on := 20, ground := Ground.data }, { on := 12, ground := Ground.guard }], guard := some (12, true) }) (v := undef) rfl (by kernel_rfl) (by kernel_rfl) (by kernel_rfl) (fun _ _ _ h => h) (Or.inr ⟨by rfl, rfl⟩) S0 ?_
    try simp only [Act.put, List.setIfInBounds_toArray, List.set_cons_zero, List.set_cons_succ]
    refine wpAnyH_take (i := 22) (oi := { dst := some 31, op := Op.binOp BinOp.gtr 2 (Operand.tmp 28) (Operand.tmp 30) 2, type := 4, pos := "l08_moves.go:33", after := #[{ on := 19, ground := Ground.data }, { on := 21, ground := Ground.data }, { on := 12, ground := Ground.guard }], guard := some (12, true) }) (v := undef) rfl (by kernel_rfl) (by kernel_rfl) (by kernel_rfl) (fun _ _ _ h => h) (Or.inr ⟨by rfl, rfl⟩) S0 ?_
    try simp only [Act.put, List.setIfInBounds_toArray, List.set_cons_zero, List.set_cons_succ]
    refine wpAnyH_take (i := 23) (oi := { dst := some 32, op := Op.pick (Operand.tmp 21) (Operand.tmp 31) (Operand.const (Value.bool false)), type := 4, pos := "l08_moves.go:33", after := #[{ on := 12, ground := Ground.data }, { on := 22, ground := Ground.data }, { on := 8, ground := Ground.guard }], guard := some (8, false) }) (v := undef) rfl (by kernel_rfl) (by kernel_rfl) (by kernel_rfl) (fun _ _ _ h => h) (Or.inr ⟨by rfl, rfl⟩) S0 ?_
    try simp only [Act.put, List.setIfInBounds_toArray, List.set_cons_zero, List.set_cons_succ]
    refine wpAnyH_take (i := 24) (oi := { dst := some 33, op := Op.pick (Operand.tmp 17) (Operand.const (Value.bool true)) (Operand.tmp 32), type := 4, pos := "l08_moves.go:33", after := #[{ on := 8, ground := Ground.data }, { on := 23, ground := Ground.data }], guard := none }) (v := ?vvb23) rfl (by kernel_rfl) (by kernel_rfl) (by kernel_rfl) (fun _ _ _ h => h) (Or.inl ⟨by rfl, ?hyb23⟩) S0 ?restb23
    case hyb23 => (intro w hSw; have hcx := hSw.key.cell; unfold Mv.ar at hcx;go_simp <;> with_reducible rfl)
    try simp only [Act.put, List.setIfInBounds_toArray, List.set_cons_zero, List.set_cons_succ]
    refine wpAnyH_done (by kernel_rfl) ?_ _
    all_goals
      go_wp2_with (go_at_call 87; refine (HQ.out _ _).mono ?_; rintro e w1 ⟨rfl, hb1⟩; have S1 := S0.kept hb1; have hc := S1.ans.cell; have hf := S1.ans.frozen; clear hb1)
      have HY := Lib.hid (S1.fill (.slice none 0 0) (.int .i64 1))
      generalize ((w1.setCell ⟨w.heap.size + 1, 0, none⟩ (.slice none 0 0)).setCell ⟨w.heap.size + 1, 1, none⟩ (.int .i64 1)) = w2 at *
      have hc2 := HY.out.1.cell
      refine bodyPost_ret (v := woV (.slice none 0 0) 1) (by simp [results, Try.results20, go_sem, woV, hc2]) rfl ?_
      exact WoPost.ill HR.out rfl HY.out.2
  · have HR := Lib.hid (HOk.out h1 h2 (by rw [h3, h5]; rfl))
    have hg : ¬ (400 : Int) < (l.length : Int) := by omega
    rw [h2] at HRR
    have HIx := Lib.hid (HIn.out (HL.out h2))
    rw [h3] at HP
    clear HEl HIn HL HLg HNo HOk hbox hc h2 h3 h5
    generalize putW l x = K at *
    have hg0 : ¬ (0 : Int) < (l.length : Int) := by omega
    have hg0n : ¬ 0 < l.length := by omega
    clear h4
    generalize l.length = n at *
    go_enter Try.func20, Try.ntmps20
    go_upto_region 1 with fail
    generalize (w.alloc (.cells #[.int .i64 x.vni, .int .i64 x.mac, .int .i64 x.tm] 34)).alloc (.cells #[.slice none 0 0, .int .i64 0] 32) = W0 at *
    go_upto_region 3 with fail
    replace S0 := S0.drew
    refine wp_region_held_drew (S := fun W' => PuB w W' _) (by kernel_rfl) S0 (fun hHeld => ?_)
    clear hHeld
    generalize W0.drew = Wd at *
    refine wpAnyH_take (i := 0) (oi := { dst := some 9, op := Op.move (Operand.tmp 0), type := 25, pos := "l08_moves.go:33", after := #[], guard := none }) (v := ?vvc1) rfl (by kernel_rfl) (by kernel_rfl) (by kernel_rfl) (fun _ _ _ h => h) (Or.inl ⟨by rfl, ?hyc1⟩) S0 ?restc1
    case hyc1 => (intro w hSw; have hcx := hSw.key.cell; unfold Mv.ar at hcx;go_simp <;> with_reducible rfl)
    try simp only [Act.put, List.setIfInBounds_toArray, List.set_cons_zero, List.set_cons_succ]
    refine wpAnyH_ready (rs := [1]) (by kernel_rfl) (by simp) ?_
    refine AllReadyH.cons (o := { dst := some 10, op := Op.call { callee := Callee.value (Operand.func 16), args := #[Operand.tmp 9], argTypes := #[25] }, type := 4, pos := "l08_moves.go:33", after := #[{ on := 0, ground := Ground.data }], guard := none }) rfl (fun K hK => ?_) AllReadyH.nil
    go_simp
    refine (HRR.out _ S0.bel).mono ?_
    rintro e w3 ⟨rfl, hb3⟩
    replace S0 := S0.kept hb3
    clear hb3
    refine hK.out _ _ S0 (fun hHeld => ?_)
    clear hK K hHeld
    try simp only [Act.put, List.setIfInBounds_toArray, List.set_cons_zero, List.set_cons_succ]
    refine wpAnyH_take (i := 2) (oi := { dst := some 11, op := Op.unOp UnOp.not 4 (Operand.tmp 10), type := 4, pos := "l08_moves.go:33", after := #[{ on := 1, ground := Ground.data }], guard := none }) (v := ?vvc2) rfl (by kernel_rfl) (by kernel_rfl) (by kernel_rfl) (fun _ _ _ h => h) (Or.inl ⟨by rfl, ?hyc2⟩) S0 ?restc2
    case hyc2 => (intro w hSw; have hcx := hSw.key.cell; unfold Mv.ar at hcx;go_simp <;> with_reducible rfl)
    try simp only [Act.put, List.setIfInBounds_toArray, List.set_cons_zero, List.set_cons_succ]
    refine wpAnyH_take (i := 3) (oi := { dst := some 12, op := Op.move (Operand.tmp 11), type := 4, pos := "l08_moves.go:33", after := #[{ on := 2, ground := Ground.data }, { on := 1, ground := Ground.chain }], guard := none }) (v := ?vvc3) rfl (by kernel_rfl) (by kernel_rfl) (by kernel_rfl) (fun _ _ _ h => h) (Or.inl ⟨by rfl, ?hyc3⟩) S0 ?restc3
    case hyc3 => (intro w hSw; have hcx := hSw.key.cell; unfold Mv.ar at hcx;go_simp <;> with_reducible rfl)
    try simp only [Act.put, List.setIfInBounds_toArray, List.set_cons_zero, List.set_cons_succ]
    refine wpAnyH_take (i := 4) (oi := { dst := some 13, op := Op.load 34 (Operand.tmp 3), type := 34, pos := "l08_moves.go:33", after := #[{ on := 3, ground := Ground.guard }], guard := some (3, false) }) (v := ?vvc4) rfl (by kernel_rfl) (by kernel_rfl) (by kernel_rfl) (fun _ _ _ h => h) (Or.inl ⟨by rfl, ?hyc4⟩) S0 ?restc4
    case hyc4 => (intro w hSw; have hcx := hSw.key.cell; unfold Mv.ar at hcx;go_simp <;> with_reducible rfl)
    try simp only [Act.put, List.setIfInBounds_toArray, List.set_cons_zero, List.set_cons_succ]
    refine wpAnyH_ready (rs := [5]) (by kernel_rfl) (by simp) ?_
    refine AllReadyH.cons (o := { dst := some 14, op := Op.call { callee := Callee.value (Operand.func 82), args := #[Operand.tmp 13], argTypes := #[34] }, type := 4, pos := "l08_moves.go:33", after := #[{ on := 4, ground := Ground.data }, { on := 3, ground := Ground.chain }, { on := 3, ground := Ground.guard }], guard := some (3, false) }) rfl (fun K hK => ?_) AllReadyH.nil
    go_simp
    refine (HP.out _).mono ?_
    rintro e w4 ⟨rfl, hb4⟩
    replace S0 := S0.kept hb4
    clear hb4
    refine hK.out _ _ S0 (fun hHeld => ?_)
    clear hK K hHeld
    try simp only [Act.put, List.setIfInBounds_toArray, List.set_cons_zero, List.set_cons_succ]
    refine wpAnyH_take (i := 6) (oi := { dst := some 15, op := Op.unOp UnOp.not 4 (Operand.tmp 14), type := 4, pos := "l08_moves.go:33", after := #[{ on := 5, ground := Ground.data }, { on := 3, ground := Ground.guard }], guard := some (3, false) }) (v := ?vvc5) rfl (by kernel_rfl) (by kernel_rfl) (by kernel_rfl) (fun _ _ _ h => h) (Or.inl ⟨by rfl, ?hyc5⟩) S0 ?restc5
    case hyc5 => (intro w hSw; have hcx := hSw.key.cell; unfold Mv.ar at hcx;go_simp <;> with_reducible rfl)
    try simp only [Act.put, List.setIfInBounds_toArray, List.set_cons_zero, List.set_cons_succ]
    refine wpAnyH_take (i := 7) (oi := { dst := some 16, op := Op.pick (Operand.tmp 12) (Operand.const (Value.bool true)) (Operand.tmp 15), type := 4, pos := "l08_moves.go:33", after := #[{ on := 3, ground := Ground.data }, { on := 6, ground := Ground.data }], guard := none }) (v := ?vvc6) rfl (by kernel_rfl) (by kernel_rfl) (by kernel_rfl) (fun _ _ _ h => h) (Or.inl ⟨by rfl, ?hyc6⟩) S0 ?restc6
    case hyc6 => (intro w hSw; have hcx := hSw.key.cell; unfold Mv.ar at hcx;go_simp <;> with_reducible rfl)
    try simp only [Act.put, List.setIfInBounds_toArray, List.set_cons_zero, List.set_cons_succ]
    refine wpAnyH_take (i := 8) (oi := { dst := some 17, op := Op.move (Operand.tmp 16), type := 4, pos := "l08_moves.go:33", after := #[{ on := 7, ground := Ground.data }, { on := 5, ground := Ground.chain }], guard := none }) (v := ?vvc7) rfl (by kernel_rfl) (by kernel_rfl) (by kernel_rfl) (fun _ _ _ h => h) (Or.inl ⟨by rfl, ?hyc7⟩) S0 ?restc7
    case hyc7 => (intro w hSw; have hcx := hSw.key.cell; unfold Mv.ar at hcx;go_simp <;> with_reducible rfl)
    try simp only [Act.put, List.setIfInBounds_toArray, List.set_cons_zero, List.set_cons_succ]
    refine wpAnyH_take (i := 9) (oi := { dst := some 18, op := Op.move (Operand.tmp 0), type := 25, pos := "l08_moves.go:33", after := #[{ on := 8, ground := Ground.guard }], guard := some (8, false) }) (v := ?vvc8) rfl (by kernel_rfl) (by kernel_rfl) (by kernel_rfl) (fun _ _ _ h => h) (Or.inl ⟨by rfl, ?hyc8⟩) S0 ?restc8
    case hyc8 => (intro w hSw; have hcx := hSw.key.cell; unfold Mv.ar at hcx;go_simp <;> with_reducible rfl)
    try simp only [Act.put, List.setIfInBounds_toArray, List.set_cons_zero, List.set_cons_succ]
    refine wpAnyH_take (i := 10) (oi := { dst := some 19, op := Op.call { callee := Callee.builtin Builtin.len, args := #[Operand.tmp 18], argTypes := #[25] }, type := 3, pos := "l08_moves.go:33", after := #[{ on := 9, ground := Ground.data }, { on := 8, ground := Ground.guard }], guard := some (8, false) }) (v := ?vvc9) rfl (by kernel_rfl) (by kernel_rfl) (by kernel_rfl) (fun _ _ _ h => h) (Or.inl ⟨by rfl, ?hyc9⟩) S0 ?restc9
    case hyc9 => (intro w hSw; have hcx := hSw.key.cell; unfold Mv.ar at hcx;go_simp <;> with_reducible rfl)
    try simp only [Act.put, List.setIfInBounds_toArray, List.set_cons_zero, List.set_cons_succ]
    refine wpAnyH_take (i := 11) (oi := { dst := some 20, op := Op.binOp BinOp.gtr 3 (Operand.tmp 19) (Operand.const (Value.int IntKind.i64 0)) 3, type := 4, pos := "l08_moves.go:33", after := #[{ on := 10, ground := Ground.data }, { on := 8, ground := Ground.guard }], guard := some (8, false) }) (v := ?vvc10) rfl (by kernel_rfl) (by kernel_rfl) (by kernel_rfl) (fun _ _ _ h => h) (Or.inl ⟨by rfl, ?hyc10⟩) S0 ?restc10
    case hyc10 => (intro w hSw; have hcx := hSw.key.cell; unfold Mv.ar at hcx;go_simp <;> with_reducible rfl)
    try simp only [Act.put, List.setIfInBounds_toArray, List.set_cons_zero, List.set_cons_succ]
    refine wpAnyH_take (i := 12) (oi := { dst := some 21, op := Op.move (Operand.tmp 20), type := 4, pos := "l08_moves.go:33", after := #[{ on := 11, ground := Ground.data }, { on := 8, ground := Ground.chain }, { on := 8, ground := Ground.guard }], guard := some (8, false) }) (v := ?vvc11) rfl (by kernel_rfl) (by kernel_rfl) (by kernel_rfl) (fun _ _ _ h => h) (Or.inl ⟨by rfl, ?hyc11⟩) S0 ?restc11
    case hyc11 => (intro w hSw; have hcx := hSw.key.cell; unfold Mv.ar at hcx;go_simp <;> with_reducible rfl)
    try simp only [Act.put, List.setIfInBounds_toArray, List.set_cons_zero, List.set_cons_succ]
    refine wpAnyH_take (i := 13) (oi := { dst := some 22, op := Op.move (Operand.tmp 0), type := 25, pos := "l08_moves.go:33", after := #[{ on := 12, ground := Ground.guard }], guard := some (12, true) }) (v := undef) rfl (by kernel_rfl) (by kernel_rfl) (by kernel_rfl) (fun _ _ _ h => h) (Or.inr ⟨by rfl, rfl⟩) S0 ?_
    try simp only [Act.put, List.setIfInBounds_toArray, List.set_cons_zero, List.set_cons_succ]
    refine wpAnyH_take (i := 14) (oi := { dst := some 23, op := Op.move (Operand.tmp 0), type := 25, pos := "l08_moves.go:33", after := #[{ on := 12, ground := Ground.guard }], guard := some (12, true) }) (v := undef) rfl (by kernel_rfl) (by kernel_rfl) (by kernel_rfl) (fun _ _ _ h => h) (Or.inr ⟨by rfl, rfl⟩) S0 ?_
    try simp only [Act.put, List.setIfInBounds_toArray, List.set_cons_zero, List.set_cons_succ]
    refine wpAnyH_take (i := 15) (oi := { dst := some 24, op := Op.call { callee := Callee.builtin Builtin.len, args := #[Operand.tmp 23], argTypes := #[25] }, type := 3, pos := "l08_moves.go:33", after := #[{ on := 14, ground := Ground.data }, { on := 12, ground := Ground.guard }], guard := some (12, true) }) (v := undef) rfl (by kernel_rfl) (by kernel_rfl) (by kernel_rfl) (fun _ _ _ h => h) (Or.inr ⟨by rfl, rfl⟩) S0 ?_
    try simp only [Act.put, List.setIfInBounds_toArray, List.set_cons_zero, List.set_cons_succ]
    refine wpAnyH_take (i := 16) (oi := { dst := some 25, op := Op.binOp BinOp.sub 3 (Operand.tmp 24) (Operand.const (Value.int IntKind.i64 1)) 3, type := 3, pos := "l08_moves.go:33", after := #[{ on := 15, ground := Ground.data }, { on := 12, ground := Ground.guard }], guard := some (12, true) }) (v := undef) rfl (by kernel_rfl) (by kernel_rfl) (by kernel_rfl) (fun _ _ _ h => h) (Or.inr ⟨by rfl, rfl⟩) S0 ?_
    try simp only [Act.put, List.setIfInBounds_toArray, List.set_cons_zero, List.set_cons_succ]
    refine wpAnyH_take (i := 17) (oi := { dst := some 26, op := Op.indexAddr 25 (Operand.tmp 22) (Operand.tmp 25), type := 0, pos := "l08_moves.go:33", after := #[{ on := 13, ground := Ground.data }, { on := 16, ground := Ground.data }, { on := 12, ground := Ground.guard }], guard := some (12, true) }) (v := undef) rfl (by kernel_rfl) (by kernel_rfl) (by kernel_rfl) (fun _ _ _ h => h) (Or.inr ⟨by rfl, rfl⟩) S0 ?_
    try simp only [Act.put, List.setIfInBounds_toArray, List.set_cons_zero, List.set_cons_succ]
    refine wpAnyH_take (i := 18) (oi := { dst := some 27, op := Op.fieldAddr 34 (Operand.tmp 26) 2, type := 0, pos := "l08_moves.go:33", after := #[{ on := 17, ground := Ground.data }, { on := 12, ground := Ground.guard }], guard := some (12, true) }) (v := undef) rfl (by kernel_rfl) (by kernel_rfl) (by kernel_rfl) (fun _ _ _ h => h) (Or.inr ⟨by rfl, rfl⟩) S0 ?_
    try simp only [Act.put, List.setIfInBounds_toArray, List.set_cons_zero, List.set_cons_succ]
    refine wpAnyH_take (i := 19) (oi := { dst := some 28, op := Op.load 2 (Operand.tmp 27), type := 2, pos := "l08_moves.go:33", after := #[{ on := 18, ground := Ground.data }, { on := 12, ground := Ground.guard }], guard := some (12, true) }) (v := undef) rfl (by kernel_rfl) (by kernel_rfl) (by kernel_rfl) (fun _ _ _ h => h) (Or.inr ⟨by rfl, rfl⟩) S0 ?_
    try simp only [Act.put, List.setIfInBounds_toArray, List.set_cons_zero, List.set_cons_succ]
    refine wpAnyH_take (i := 20) (oi := { dst := some 29, op := Op.fieldAddr 34 (Operand.tmp 3) 2, type := 0, pos := "l08_moves.go:33", after := #[{ on := 12, ground := Ground.guard }], guard := some (12, true) }) (v := undef) rfl (by kernel_rfl) (by kernel_rfl) (by kernel_rfl) (fun _ _ _ h => h) (Or.inr ⟨by rfl, rfl⟩) S0 ?_
    try simp only [Act.put, List.setIfInBounds_toArray, List.set_cons_zero, List.set_cons_succ]
    refine wpAnyH_take (i := 21) (oi := { dst := some 30, op := Op.load 2 (Operand.tmp 29), type := 2, pos := "l08_moves.go:33", after := #[{ on := 20, ground := Ground.data }, { on := 12, ground := Ground.guard }], guard := some (12, true) }) (v := undef) rfl (by kernel_rfl) (by kernel_rfl) (by kernel_rfl) (fun _ _ _ h => h) (Or.inr ⟨by rfl, rfl⟩) S0 ?_
    try simp only [Act.put, List.setIfInBounds_toArray, List.set_cons_zero, List.set_cons_succ]
    refine wpAnyH_take (i := 22) (oi := { dst := some 31, op := Op.binOp BinOp.gtr 2 (Operand.tmp 28) (Operand.tmp 30) 2, type := 4, pos := "l08_moves.go:33", after := #[{ on := 19, ground := Ground.data }, { on := 21, ground := Ground.data }, { on := 12, ground := Ground.guard }], guard := some (12, true) }) (v := undef) rfl (by kernel_rfl) (by kernel_rfl) (by kernel_rfl) (fun _ _ _ h => h) (Or.inr ⟨by rfl, rfl⟩) S0 ?_
    try simp only [Act.put, List.setIfInBounds_toArray, List.set_cons_zero, List.set_cons_succ]
    refine wpAnyH_take (i := 23) (oi := { dst := some 32, op := Op.pick (Operand.tmp 21) (Operand.tmp 31) (Operand.const (Value.bool false)), type := 4, pos := "l08_moves.go:33", after := #[{ on := 12, ground := Ground.data }, { on := 22, ground := Ground.data }, { on := 8, ground := Ground.guard }], guard := some (8, false) }) (v := ?vvc22) rfl (by kernel_rfl) (by kernel_rfl) (by kernel_rfl) (fun _ _ _ h => h) (Or.inl ⟨by rfl, ?hyc22⟩) S0 ?restc22
    case hyc22 => (intro w hSw; have hcx := hSw.key.cell; unfold Mv.ar at hcx;go_simp <;> with_reducible rfl)
    try simp only [Act.put, List.setIfInBounds_toArray, List.set_cons_zero, List.set_cons_succ]
    refine wpAnyH_take (i := 24) (oi := { dst := some 33, op := Op.pick (Operand.tmp 17) (Operand.const (Value.bool true)) (Operand.tmp 32), type := 4, pos := "l08_moves.go:33", after := #[{ on := 8, ground := Ground.data }, { on := 23, ground := Ground.data }], guard := none }) (v := ?vvc23) rfl (by kernel_rfl) (by kernel_rfl) (by kernel_rfl) (fun _ _ _ h => h) (Or.inl ⟨by rfl, ?hyc23⟩) S0 ?restc23
    case hyc23 => (intro w hSw; have hcx := hSw.key.cell; unfold Mv.ar at hcx;go_simp <;> with_reducible rfl)
    try simp only [Act.put, List.setIfInBounds_toArray, List.set_cons_zero, List.set_cons_succ]
    refine wpAnyH_done (by kernel_rfl) ?_ _
    all_goals
      have hcx := S0.key.cell
      unfold Mv.ar at hcx
      go_wp2_with fail
      refine (HIx.out _ S0.bel).mono ?_
      rintro e w5 ⟨y5, rfl, ho5, hb5⟩
      have S5 := S0.kept hb5
      have HO5 := Lib.hid (rown_mono (B' := w.heap.size) ho5 S0.bel.size)
      have hc := S5.ans.cell
      have hf := S5.ans.frozen
      obtain ⟨ya, yc, rfl⟩ := rown_form ho5
      clear ho5 hb5 hcx
      go_wp2_with fail
      have HY := Lib.hid (S5.fill (.slice ya K.length yc) (.int .i64 0))
      have HO6 := Lib.hid (rowW_fill HO5.out S5.ans (by decide) (.slice ya K.length yc) (.int .i64 0))
      generalize ((w5.setCell ⟨w.heap.size + 1, 0, none⟩ (.slice ya K.length yc)).setCell ⟨w.heap.size + 1, 1, none⟩ (.int .i64 0)) = w6 at *
      have hc2 := HY.out.1.cell
      refine bodyPost_ret (v := woV (.slice ya K.length yc) 0) (by simp [results, Try.results20, go_sem, woV, hc2]) rfl ?_
      rw [HR.out]
      exact WoPost.own (r := ⟨K, 0⟩) rfl HO6.out HY.out.2
  · have HR := Lib.hid (HOk.out h1 h2 (by rw [h3, h6]; rfl))
    have hg : ¬ (400 : Int) < (l.length : Int) := by omega
    rw [h2] at HRR
    have HIx := Lib.hid (HIn.out (HL.out h2))
    rw [h3] at HP
    have hjl : l.map Mv.cl ≠ [] := fun e => by
      have := congrArg List.length e
      rw [List.length_map, h4] at this
      simp at this
    obtain ⟨b, off, rfl, hbl, hE⟩ := hbox hjl
    have HEj := Lib.hid (fun (W' : World) (hS : Below w.heap.size w W') => (Elems.below hE hS hbl).mv j hj)
    rw [ha.out] at HEj
    have hj0 : (0 : Int) < (j : Int) + 1 := by omega
    have hj00 : (0 : Int) ≤ (j : Int) + 1 := by omega
    have h400 := HL.out h2
    have hjl1 : (j : Int) < (j : Int) + 1 := by omega
    have hj1 : IntKind.i64.wrap (j : Int) = (j : Int) := by simp only [IntKind.wrap_i64]; omega
    clear HEl HIn HL HLg HNo HOk hbox hc h2 h3 h6 hE ha hj hjl
    generalize putW l x = K at *
    rw [h4] at *
    clear h4
    rw [Int.natCast_add] at *
    go_enter Try.func20, Try.ntmps20
    go_upto_region 1 with fail
    generalize (w.alloc (.cells #[.int .i64 x.vni, .int .i64 x.mac, .int .i64 x.tm] 34)).alloc (.cells #[.slice none 0 0, .int .i64 0] 32) = W0 at *
    go_upto_region 3 with fail
    replace S0 := S0.drew
    refine wp_region_held_drew (S := fun W' => PuB w W' _) (by kernel_rfl) S0 (fun hHeld => ?_)
    clear hHeld
    generalize W0.drew = Wd at *
    refine wpAnyH_take (i := 0) (oi := { dst := some 9, op := Op.move (Operand.tmp 0), type := 25, pos := "l08_moves.go:33", after := #[], guard := none }) (v := ?vvd1) rfl (by kernel_rfl) (by kernel_rfl) (by kernel_rfl) (fun _ _ _ h => h) (Or.inl ⟨by rfl, ?hyd1⟩) S0 ?restd1
    case hyd1 => (intro w hSw; have hcx := hSw.key.cell; unfold Mv.ar at hcx; obtain ⟨q0, q1, q2⟩ := HEj.out _ hSw.bel;go_simp <;> with_reducible rfl)
    try simp only [Act.put, List.setIfInBounds_toArray, List.set_cons_zero, List.set_cons_succ]
    refine wpAnyH_ready (rs := [1]) (by kernel_rfl) (by simp) ?_
    refine AllReadyH.cons (o := { dst := some 10, op := Op.call { callee := Callee.value (Operand.func 16), args := #[Operand.tmp 9], argTypes := #[25] }, type := 4, pos := "l08_moves.go:33", after := #[{ on := 0, ground := Ground.data }], guard := none }) rfl (fun K hK => ?_) AllReadyH.nil
    go_simp
    refine (HRR.out _ S0.bel).mono ?_
    rintro e w3 ⟨rfl, hb3⟩
    replace S0 := S0.kept hb3
    clear hb3
    refine hK.out _ _ S0 (fun hHeld => ?_)
    clear hK K hHeld
    try simp only [Act.put, List.setIfInBounds_toArray, List.set_cons_zero, List.set_cons_succ]
    refine wpAnyH_take (i := 2) (oi := { dst := some 11, op := Op.unOp UnOp.not 4 (Operand.tmp 10), type := 4, pos := "l08_moves.go:33", after := #[{ on := 1, ground := Ground.data }], guard := none }) (v := ?vvd2) rfl (by kernel_rfl) (by kernel_rfl) (by kernel_rfl) (fun _ _ _ h => h) (Or.inl ⟨by rfl, ?hyd2⟩) S0 ?restd2
    case hyd2 => (intro w hSw; have hcx := hSw.key.cell; unfold Mv.ar at hcx; obtain ⟨q0, q1, q2⟩ := HEj.out _ hSw.bel;go_simp <;> with_reducible rfl)
    try simp only [Act.put, List.setIfInBounds_toArray, List.set_cons_zero, List.set_cons_succ]
    refine wpAnyH_take (i := 3) (oi := { dst := some 12, op := Op.move (Operand.tmp 11), type := 4, pos := "l08_moves.go:33", after := #[{ on := 2, ground := Ground.data }, { on := 1, ground := Ground.chain }], guard := none }) (v := ?vvd3) rfl (by kernel_rfl) (by kernel_rfl) (by kernel_rfl) (fun _ _ _ h => h) (Or.inl ⟨by rfl, ?hyd3⟩) S0 ?restd3
    case hyd3 => (intro w hSw; have hcx := hSw.key.cell; unfold Mv.ar at hcx; obtain ⟨q0, q1, q2⟩ := HEj.out _ hSw.bel;go_simp <;> with_reducible rfl)
    try simp only [Act.put, List.setIfInBounds_toArray, List.set_cons_zero, List.set_cons_succ]
    refine wpAnyH_take (i := 4) (oi := { dst := some 13, op := Op.load 34 (Operand.tmp 3), type := 34, pos := "l08_moves.go:33", after := #[{ on := 3, ground := Ground.guard }], guard := some (3, false) }) (v := ?vvd4) rfl (by kernel_rfl) (by kernel_rfl) (by kernel_rfl) (fun _ _ _ h => h) (Or.inl ⟨by rfl, ?hyd4⟩) S0 ?restd4
    case hyd4 => (intro w hSw; have hcx := hSw.key.cell; unfold Mv.ar at hcx; obtain ⟨q0, q1, q2⟩ := HEj.out _ hSw.bel;go_simp <;> with_reducible rfl)
    try simp only [Act.put, List.setIfInBounds_toArray, List.set_cons_zero, List.set_cons_succ]
    refine wpAnyH_ready (rs := [5]) (by kernel_rfl) (by simp) ?_
    refine AllReadyH.cons (o := { dst := some 14, op := Op.call { callee := Callee.value (Operand.func 82), args := #[Operand.tmp 13], argTypes := #[34] }, type := 4, pos := "l08_moves.go:33", after := #[{ on := 4, ground := Ground.data }, { on := 3, ground := Ground.chain }, { on := 3, ground := Ground.guard }], guard := some (3, false) }) rfl (fun K hK => ?_) AllReadyH.nil
    go_simp
    refine (HP.out _).mono ?_
    rintro e w4 ⟨rfl, hb4⟩
    replace S0 := S0.kept hb4
    clear hb4
    refine hK.out _ _ S0 (fun hHeld => ?_)
    clear hK K hHeld
    try simp only [Act.put, List.setIfInBounds_toArray, List.set_cons_zero, List.set_cons_succ]
    refine wpAnyH_take (i := 6) (oi := { dst := some 15, op := Op.unOp UnOp.not 4 (Operand.tmp 14), type := 4, pos := "l08_moves.go:33", after := #[{ on := 5, ground := Ground.data }, { on := 3, ground := Ground.guard }], guard := some (3, false) }) (v := ?vvd5) rfl (by kernel_rfl) (by kernel_rfl) (by kernel_rfl) (fun _ _ _ h => h) (Or.inl ⟨by rfl, ?hyd5⟩) S0 ?restd5
    case hyd5 => (intro w hSw; have hcx := hSw.key.cell; unfold Mv.ar at hcx; obtain ⟨q0, q1, q2⟩ := HEj.out _ hSw.bel;go_simp <;> with_reducible rfl)
    try simp only [Act.put, List.setIfInBounds_toArray, List.set_cons_zero, List.set_cons_succ]
    refine wpAnyH_take (i := 7) (oi := { dst := some 16, op := Op.pick (Operand.tmp 12) (Operand.const (Value.bool true)) (Operand.tmp 15), type := 4, pos := "l08_moves.go:33", after := #[{ on := 3, ground := Ground.data }, { on := 6, ground := Ground.data }], guard := none }) (v := ?vvd6) rfl (by kernel_rfl) (by kernel_rfl) (by kernel_rfl) (fun _ _ _ h => h) (Or.inl ⟨by rfl, ?hyd6⟩) S0 ?restd6
    case hyd6 => (intro w hSw; have hcx := hSw.key.cell; unfold Mv.ar at hcx; obtain ⟨q0, q1, q2⟩ := HEj.out _ hSw.bel;go_simp <;> with_reducible rfl)
    try simp only [Act.put, List.setIfInBounds_toArray, List.set_cons_zero, List.set_cons_succ]
    refine wpAnyH_take (i := 8) (oi := { dst := some 17, op := Op.move (Operand.tmp 16), type := 4, pos := "l08_moves.go:33", after := #[{ on := 7, ground := Ground.data }, { on := 5, ground := Ground.chain }], guard := none }) (v := ?vvd7) rfl (by kernel_rfl) (by kernel_rfl) (by kernel_rfl) (fun _ _ _ h => h) (Or.inl ⟨by rfl, ?hyd7⟩) S0 ?restd7
    case hyd7 => (intro w hSw; have hcx := hSw.key.cell; unfold Mv.ar at hcx; obtain ⟨q0, q1, q2⟩ := HEj.out _ hSw.bel;go_simp <;> with_reducible rfl)
    try simp only [Act.put, List.setIfInBounds_toArray, List.set_cons_zero, List.set_cons_succ]
    refine wpAnyH_take (i := 9) (oi := { dst := some 18, op := Op.move (Operand.tmp 0), type := 25, pos := "l08_moves.go:33", after := #[{ on := 8, ground := Ground.guard }], guard := some (8, false) }) (v := ?vvd8) rfl (by kernel_rfl) (by kernel_rfl) (by kernel_rfl) (fun _ _ _ h => h) (Or.inl ⟨by rfl, ?hyd8⟩) S0 ?restd8
    case hyd8 => (intro w hSw; have hcx := hSw.key.cell; unfold Mv.ar at hcx; obtain ⟨q0, q1, q2⟩ := HEj.out _ hSw.bel;go_simp <;> with_reducible rfl)
    try simp only [Act.put, List.setIfInBounds_toArray, List.set_cons_zero, List.set_cons_succ]
    refine wpAnyH_take (i := 10) (oi := { dst := some 19, op := Op.call { callee := Callee.builtin Builtin.len, args := #[Operand.tmp 18], argTypes := #[25] }, type := 3, pos := "l08_moves.go:33", after := #[{ on := 9, ground := Ground.data }, { on := 8, ground := Ground.guard }], guard := some (8, false) }) (v := ?vvd9) rfl (by kernel_rfl) (by kernel_rfl) (by kernel_rfl) (fun _ _ _ h => h) (Or.inl ⟨by rfl, ?hyd9⟩) S0 ?restd9
    case hyd9 => (intro w hSw; have hcx := hSw.key.cell; unfold Mv.ar at hcx; obtain ⟨q0, q1, q2⟩ := HEj.out _ hSw.bel;go_simp <;> with_reducible rfl)
    try simp only [Act.put, List.setIfInBounds_toArray, List.set_cons_zero, List.set_cons_succ]
    refine wpAnyH_take (i := 11) (oi := { dst := some 20, op := Op.binOp BinOp.gtr 3 (Operand.tmp 19) (Operand.const (Value.int IntKind.i64 0)) 3, type := 4, pos := "l08_moves.go:33", after := #[{ on := 10, ground := Ground.data }, { on := 8, ground := Ground.guard }], guard := some (8, false) }) (v := ?vvd10) rfl (by kernel_rfl) (by kernel_rfl) (by kernel_rfl) (fun _ _ _ h => h) (Or.inl ⟨by rfl, ?hyd10⟩) S0 ?restd10
    case hyd10 => (intro w hSw; have hcx := hSw.key.cell; unfold Mv.ar at hcx; obtain ⟨q0, q1, q2⟩ := HEj.out _ hSw.bel;go_simp <;> with_reducible rfl)
    try simp only [Act.put, List.setIfInBounds_toArray, List.set_cons_zero, List.set_cons_succ]
    refine wpAnyH_take (i := 12) (oi := { dst := some 21, op := Op.move (Operand.tmp 20), type := 4, pos := "l08_moves.go:33", after := #[{ on := 11, ground := Ground.data }, { on := 8, ground := Ground.chain }, { on := 8, ground := Ground.guard }], guard := some (8, false) }) (v := ?vvd11) rfl (by kernel_rfl) (by kernel_rfl) (by kernel_rfl) (fun _ _ _ h => h) (Or.inl ⟨by rfl, ?hyd11⟩) S0 ?restd11
    case hyd11 => (intro w hSw; have hcx := hSw.key.cell; unfold Mv.ar at hcx; obtain ⟨q0, q1, q2⟩ := HEj.out _ hSw.bel;go_simp <;> with_reducible rfl)
    try simp only [Act.put, List.setIfInBounds_toArray, List.set_cons_zero, List.set_cons_succ]
    refine wpAnyH_take (i := 13) (oi := { dst := some 22, op := Op.move (Operand.tmp 0), type := 25, pos := "l08_moves.go:33", after := #[{ on := 12, ground := Ground.guard }], guard := some (12, true) }) (v := ?vvd12) rfl (by kernel_rfl) (by kernel_rfl) (by kernel_rfl) (fun _ _ _ h => h) (Or.inl ⟨by rfl, ?hyd12⟩) S0 ?restd12
    case hyd12 => (intro w hSw; have hcx := hSw.key.cell; unfold Mv.ar at hcx; obtain ⟨q0, q1, q2⟩ := HEj.out _ hSw.bel;go_simp <;> with_reducible rfl)
    try simp only [Act.put, List.setIfInBounds_toArray, List.set_cons_zero, List.set_cons_succ]
    refine wpAnyH_take (i := 14) (oi := { dst := some 23, op := Op.move (Operand.tmp 0), type := 25, pos := "l08_moves.go:33", after := #[{ on := 12, ground := Ground.guard }], guard := some (12, true) }) (v := ?vvd13) rfl (by kernel_rfl) (by kernel_rfl) (by kernel_rfl) (fun _ _ _ h => h) (Or.inl ⟨by rfl, ?hyd13⟩) S0 ?restd13
    case hyd13 => (intro w hSw; have hcx := hSw.key.cell; unfold Mv.ar at hcx; obtain ⟨q0, q1, q2⟩ := HEj.out _ hSw.bel;go_simp <;> with_reducible rfl)
    try simp only [Act.put, List.setIfInBounds_toArray, List.set_cons_zero, List.set_cons_succ]
    refine wpAnyH_take (i := 15) (oi := { dst := some 24, op := Op.call { callee := Callee.builtin Builtin.len, args := #[Operand.tmp 23], argTypes := #[25] }, type := 3, pos := "l08_moves.go:33", after := #[{ on := 14, ground := Ground.data }, { on := 12, ground := Ground.guard }], guard := some (12, true) }) (v := ?vvd14) rfl (by kernel_rfl) (by kernel_rfl) (by kernel_rfl) (fun _ _ _ h => h) (Or.inl ⟨by rfl, ?hyd14⟩) S0 ?restd14
    case hyd14 => (intro w hSw; have hcx := hSw.key.cell; unfold Mv.ar at hcx; obtain ⟨q0, q1, q2⟩ := HEj.out _ hSw.bel;go_simp <;> with_reducible rfl)
    try simp only [Act.put, List.setIfInBounds_toArray, List.set_cons_zero, List.set_cons_succ]
    refine wpAnyH_take (i := 16) (oi := { dst := some 25, op := Op.binOp BinOp.sub 3 (Operand.tmp 24) (Operand.const (Value.int IntKind.i64 1)) 3, type := 3, pos := "l08_moves.go:33", after := #[{ on := 15, ground := Ground.data }, { on := 12, ground := Ground.guard }], guard := some (12, true) }) (v := ?vvd15) rfl (by kernel_rfl) (by kernel_rfl) (by kernel_rfl) (fun _ _ _ h => h) (Or.inl ⟨by rfl, ?hyd15⟩) S0 ?restd15
    case hyd15 => (intro w hSw; have hcx := hSw.key.cell; unfold Mv.ar at hcx; obtain ⟨q0, q1, q2⟩ := HEj.out _ hSw.bel;go_simp <;> with_reducible rfl)
    try simp only [Act.put, List.setIfInBounds_toArray, List.set_cons_zero, List.set_cons_succ]
    refine wpAnyH_take (i := 17) (oi := { dst := some 26, op := Op.indexAddr 25 (Operand.tmp 22) (Operand.tmp 25), type := 0, pos := "l08_moves.go:33", after := #[{ on := 13, ground := Ground.data }, { on := 16, ground := Ground.data }, { on := 12, ground := Ground.guard }], guard := some (12, true) }) (v := ?vvd16) rfl (by kernel_rfl) (by kernel_rfl) (by kernel_rfl) (fun _ _ _ h => h) (Or.inl ⟨by rfl, ?hyd16⟩) S0 ?restd16
    case hyd16 => (intro w hSw; have hcx := hSw.key.cell; unfold Mv.ar at hcx; obtain ⟨q0, q1, q2⟩ := HEj.out _ hSw.bel;go_simp <;> with_reducible rfl)
    try simp only [Act.put, List.setIfInBounds_toArray, List.set_cons_zero, List.set_cons_succ]
    refine wpAnyH_take (i := 18) (oi := { dst := some 27, op := Op.fieldAddr 34 (Operand.tmp 26) 2, type := 0, pos := "l08_moves.go:33", after := #[{ on := 17, ground := Ground.data }, { on := 12, ground := Ground.guard }], guard := some (12, true) }) (v := ?vvd17) rfl (by kernel_rfl) (by kernel_rfl) (by kernel_rfl) (fun _ _ _ h => h) (Or.inl ⟨by rfl, ?hyd17⟩) S0 ?restd17
    case hyd17 => (intro w hSw; have hcx := hSw.key.cell; unfold Mv.ar at hcx; obtain ⟨q0, q1, q2⟩ := HEj.out _ hSw.bel;go_simp <;> with_reducible rfl)
    try simp only [Act.put, List.setIfInBounds_toArray, List.set_cons_zero, List.set_cons_succ]
    refine wpAnyH_take (i := 19) (oi := { dst := some 28, op := Op.load 2 (Operand.tmp 27), type := 2, pos := "l08_moves.go:33", after := #[{ on := 18, ground := Ground.data }, { on := 12, ground := Ground.guard }], guard := some (12, true) }) (v := ?vvd18) rfl (by kernel_rfl) (by kernel_rfl) (by kernel_rfl) (fun _ _ _ h => h) (Or.inl ⟨by rfl, ?hyd18⟩) S0 ?restd18
    case hyd18 => (intro w hSw; have hcx := hSw.key.cell; unfold Mv.ar at hcx; obtain ⟨q0, q1, q2⟩ := HEj.out _ hSw.bel;go_simp <;> with_reducible rfl)
    try simp only [Act.put, List.setIfInBounds_toArray, List.set_cons_zero, List.set_cons_succ]
    refine wpAnyH_take (i := 20) (oi := { dst := some 29, op := Op.fieldAddr 34 (Operand.tmp 3) 2, type := 0, pos := "l08_moves.go:33", after := #[{ on := 12, ground := Ground.guard }], guard := some (12, true) }) (v := ?vvd19) rfl (by kernel_rfl) (by kernel_rfl) (by kernel_rfl) (fun _ _ _ h => h) (Or.inl ⟨by rfl, ?hyd19⟩) S0 ?restd19
    case hyd19 => (intro w hSw; have hcx := hSw.key.cell; unfold Mv.ar at hcx; obtain ⟨q0, q1, q2⟩ := HEj.out _ hSw.bel;go_simp <;> with_reducible rfl)
    try simp only [Act.put, List.setIfInBounds_toArray, List.set_cons_zero, List.set_cons_succ]
    refine wpAnyH_take (i := 21) (oi := { dst := some 30, op := Op.load 2 (Operand.tmp 29), type := 2, pos := "l08_moves.go:33", after := #[{ on := 20, ground := Ground.data }, { on := 12, ground := Ground.guard }], guard := some (12, true) }) (v := ?vvd20) rfl (by kernel_rfl) (by kernel_rfl) (by kernel_rfl) (fun _ _ _ h => h) (Or.inl ⟨by rfl, ?hyd20⟩) S0 ?restd20
    case hyd20 => (intro w hSw; have hcx := hSw.key.cell; unfold Mv.ar at hcx; obtain ⟨q0, q1, q2⟩ := HEj.out _ hSw.bel;go_simp <;> with_reducible rfl)
    try simp only [Act.put, List.setIfInBounds_toArray, List.set_cons_zero, List.set_cons_succ]
    refine wpAnyH_take (i := 22) (oi := { dst := some 31, op := Op.binOp BinOp.gtr 2 (Operand.tmp 28) (Operand.tmp 30) 2, type := 4, pos := "l08_moves.go:33", after := #[{ on := 19, ground := Ground.data }, { on := 21, ground := Ground.data }, { on := 12, ground := Ground.guard }], guard := some (12, true) }) (v := ?vvd21) rfl (by kernel_rfl) (by kernel_rfl) (by kernel_rfl) (fun _ _ _ h => h) (Or.inl ⟨by rfl, ?hyd21⟩) S0 ?restd21
    case hyd21 => (intro w hSw; have hcx := hSw.key.cell; unfold Mv.ar at hcx; obtain ⟨q0, q1, q2⟩ := HEj.out _ hSw.bel;go_simp <;> with_reducible rfl)
    try simp only [Act.put, List.setIfInBounds_toArray, List.set_cons_zero, List.set_cons_succ]
    refine wpAnyH_take (i := 23) (oi := { dst := some 32, op := Op.pick (Operand.tmp 21) (Operand.tmp 31) (Operand.const (Value.bool false)), type := 4, pos := "l08_moves.go:33", after := #[{ on := 12, ground := Ground.data }, { on := 22, ground := Ground.data }, { on := 8, ground := Ground.guard }], guard := some (8, false) }) (v := ?vvd22) rfl (by kernel_rfl) (by kernel_rfl) (by kernel_rfl) (fun _ _ _ h => h) (Or.inl ⟨by rfl, ?hyd22⟩) S0 ?restd22
    case hyd22 => (intro w hSw; have hcx := hSw.key.cell; unfold Mv.ar at hcx; obtain ⟨q0, q1, q2⟩ := HEj.out _ hSw.bel;go_simp <;> with_reducible rfl)
    try simp only [Act.put, List.setIfInBounds_toArray, List.set_cons_zero, List.set_cons_succ]
    refine wpAnyH_take (i := 24) (oi := { dst := some 33, op := Op.pick (Operand.tmp 17) (Operand.const (Value.bool true)) (Operand.tmp 32), type := 4, pos := "l08_moves.go:33", after := #[{ on := 8, ground := Ground.data }, { on := 23, ground := Ground.data }], guard := none }) (v := ?vvd23) rfl (by kernel_rfl) (by kernel_rfl) (by kernel_rfl) (fun _ _ _ h => h) (Or.inl ⟨by rfl, ?hyd23⟩) S0 ?restd23
    case hyd23 => (intro w hSw; have hcx := hSw.key.cell; unfold Mv.ar at hcx; obtain ⟨q0, q1, q2⟩ := HEj.out _ hSw.bel;go_simp <;> with_reducible rfl)
    try simp only [Act.put, List.setIfInBounds_toArray, List.set_cons_zero, List.set_cons_succ]
    refine wpAnyH_done (by kernel_rfl) ?_ _
    all_goals
      have hcx := S0.key.cell
      unfold Mv.ar at hcx
      go_wp2_with fail
      refine (HIx.out _ S0.bel).mono ?_
      rintro e w5 ⟨y5, rfl, ho5, hb5⟩
      have S5 := S0.kept hb5
      have HO5 := Lib.hid (rown_mono (B' := w.heap.size) ho5 S0.bel.size)
      have hc := S5.ans.cell
      have hf := S5.ans.frozen
      obtain ⟨ya, yc, rfl⟩ := rown_form ho5
      clear ho5 hb5 hcx
      go_wp2_with fail
      have HY := Lib.hid (S5.fill (.slice ya K.length yc) (.int .i64 0))
      have HO6 := Lib.hid (rowW_fill HO5.out S5.ans (by decide) (.slice ya K.length yc) (.int .i64 0))
      generalize ((w5.setCell ⟨w.heap.size + 1, 0, none⟩ (.slice ya K.length yc)).setCell ⟨w.heap.size + 1, 1, none⟩ (.int .i64 0)) = w6 at *
      have hc2 := HY.out.1.cell
      refine bodyPost_ret (v := woV (.slice ya K.length yc) 0) (by simp [results, Try.results20, go_sem, woV, hc2]) rfl ?_
      rw [HR.out]
      exact WoPost.own (r := ⟨K, 0⟩) rfl HO6.out HY.out.2
  · have HR := Lib.hid (HNo.out h1 (.inr (by rw [h3, h6]; rfl)))
    have hg : ¬ (400 : Int) < (l.length : Int) := by omega
    rw [h2] at HRR
    rw [h3] at HP
    have hjl : l.map Mv.cl ≠ [] := fun e => by
      have := congrArg List.length e
      rw [List.length_map, h4] at this
      simp at this
    obtain ⟨b, off, rfl, hbl, hE⟩ := hbox hjl
    have HEj := Lib.hid (fun (W' : World) (hS : Below w.heap.size w W') => (Elems.below hE hS hbl).mv j hj)
    rw [ha.out] at HEj
    have hj0 : (0 : Int) < (j : Int) + 1 := by omega
    have hj00 : (0 : Int) ≤ (j : Int) + 1 := by omega
    have h400 := HL.out h2
    have hjl1 : (j : Int) < (j : Int) + 1 := by omega
    have hj1 : IntKind.i64.wrap (j : Int) = (j : Int) := by simp only [IntKind.wrap_i64]; omega
    clear HEl HIn HL HLg HNo HOk hbox hc h2 h3 h6 hE ha hj hjl
    rw [h4] at *
    clear h4
    rw [Int.natCast_add] at *
    go_enter Try.func20, Try.ntmps20
    go_upto_region 1 with fail
    generalize (w.alloc (.cells #[.int .i64 x.vni, .int .i64 x.mac, .int .i64 x.tm] 34)).alloc (.cells #[.slice none 0 0, .int .i64 0] 32) = W0 at *
    go_upto_region 3 with fail
    replace S0 := S0.drew
    refine wp_region_held_drew (S := fun W' => PuB w W' _) (by kernel_rfl) S0 (fun hHeld => ?_)
    clear hHeld
    generalize W0.drew = Wd at *
    refine wpAnyH_take (i := 0) (oi := { dst := some 9, op := Op.move (Operand.tmp 0), type := 25, pos := "l08_moves.go:33", after := #[], guard := none }) (v := ?vve1) rfl (by kernel_rfl) (by kernel_rfl) (by kernel_rfl) (fun _ _ _ h => h) (Or.inl ⟨by rfl, ?hye1⟩) S0 ?reste1
    case hye1 => (intro w hSw; have hcx := hSw.key.cell; unfold Mv.ar at hcx; obtain ⟨q0, q1, q2⟩ := HEj.out _ hSw.bel;go_simp <;> with_reducible rfl)
    try simp only [Act.put, List.setIfInBounds_toArray, List.set_cons_zero, List.set_cons_succ]
    refine wpAnyH_ready (rs := [1]) (by kernel_rfl) (by simp) ?_
    refine AllReadyH.cons (o := { dst := some 10, op := Op.call { callee := Callee.value (Operand.func 16), args := #[Operand.tmp 9], argTypes := #[25] }, type := 4, pos := "l08_moves.go:33", after := #[{ on := 0, ground := Ground.data }], guard := none }) rfl (fun K hK => ?_) AllReadyH.nil
    go_simp
    refine (HRR.out _ S0.bel).mono ?_
    rintro e w3 ⟨rfl, hb3⟩
    replace S0 := S0.kept hb3
    clear hb3
    refine hK.out _ _ S0 (fun hHeld => ?_)
    clear hK K hHeld
    try simp only [Act.put, List.setIfInBounds_toArray, List.set_cons_zero, List.set_cons_succ]
    refine wpAnyH_take (i := 2) (oi := { dst := some 11, op := Op.unOp UnOp.not 4 (Operand.tmp 10), type := 4, pos := "l08_moves.go:33", after := #[{ on := 1, ground := Ground.data }], guard := none }) (v := ?vve2) rfl (by kernel_rfl) (by kernel_rfl) (by kernel_rfl) (fun _ _ _ h => h) (Or.inl ⟨by rfl, ?hye2⟩) S0 ?reste2
    case hye2 => (intro w hSw; have hcx := hSw.key.cell; unfold Mv.ar at hcx; obtain ⟨q0, q1, q2⟩ := HEj.out _ hSw.bel;go_simp <;> with_reducible rfl)
    try simp only [Act.put, List.setIfInBounds_toArray, List.set_cons_zero, List.set_cons_succ]
    refine wpAnyH_take (i := 3) (oi := { dst := some 12, op := Op.move (Operand.tmp 11), type := 4, pos := "l08_moves.go:33", after := #[{ on := 2, ground := Ground.data }, { on := 1, ground := Ground.chain }], guard := none }) (v := ?vve3) rfl (by kernel_rfl) (by kernel_rfl) (by kernel_rfl) (fun _ _ _ h => h) (Or.inl ⟨by rfl, ?hye3⟩) S0 ?reste3
    case hye3 => (intro w hSw; have hcx := hSw.key.cell; unfold Mv.ar at hcx; obtain ⟨q0, q1, q2⟩ := HEj.out _ hSw.bel;go_simp <;> with_reducible rfl)
    try simp only [Act.put, List.setIfInBounds_toArray, List.set_cons_zero, List.set_cons_succ]
    refine wpAnyH_take (i := 4) (oi := { dst := some 13, op := Op.load 34 (Operand.tmp 3), type := 34, pos := "l08_moves.go:33", after := #[{ on := 3, ground := Ground.guard }], guard := some (3, false) }) (v := ?vve4) rfl (by kernel_rfl) (by kernel_rfl) (by kernel_rfl) (fun _ _ _ h => h) (Or.inl ⟨by rfl, ?hye4⟩) S0 ?reste4
    case hye4 => (intro w hSw; have hcx := hSw.key.cell; unfold Mv.ar at hcx; obtain ⟨q0, q1, q2⟩ := HEj.out _ hSw.bel;go_simp <;> with_reducible rfl)
    try simp only [Act.put, List.setIfInBounds_toArray, List.set_cons_zero, List.set_cons_succ]
    refine wpAnyH_ready (rs := [5]) (by kernel_rfl) (by simp) ?_
    refine AllReadyH.cons (o := { dst := some 14, op := Op.call { callee := Callee.value (Operand.func 82), args := #[Operand.tmp 13], argTypes := #[34] }, type := 4, pos := "l08_moves.go:33", after := #[{ on := 4, ground := Ground.data }, { on := 3, ground := Ground.chain }, { on := 3, ground := Ground.guard }], guard := some (3, false) }) rfl (fun K hK => ?_) AllReadyH.nil
    go_simp
    refine (HP.out _).mono ?_
    rintro e w4 ⟨rfl, hb4⟩
    replace S0 := S0.kept hb4
    clear hb4
    refine hK.out _ _ S0 (fun hHeld => ?_)
    clear hK K hHeld
    try simp only [Act.put, List.setIfInBounds_toArray, List.set_cons_zero, List.set_cons_succ]
    refine wpAnyH_take (i := 6) (oi := { dst := some 15, op := Op.unOp UnOp.not 4 (Operand.tmp 14), type := 4, pos := "l08_moves.go:33", after := #[{ on := 5, ground := Ground.data }, { on := 3, ground := Ground.guard }], guard := some (3, false) }) (v := ?vve5) rfl (by kernel_rfl) (by kernel_rfl) (by kernel_rfl) (fun _ _ _ h => h) (Or.inl ⟨by rfl, ?hye5⟩) S0 ?reste5
    case hye5 => (intro w hSw; have hcx := hSw.key.cell; unfold Mv.ar at hcx; obtain ⟨q0, q1, q2⟩ := HEj.out _ hSw.bel;go_simp <;> with_reducible rfl)
    try simp only [Act.put, List.setIfInBounds_toArray, List.set_cons_zero, List.set_cons_succ]
    refine wpAnyH_take (i := 7) (oi := { dst := some 16, op := Op.pick (Operand.tmp 12) (Operand.const (Value.bool true)) (Operand.tmp 15), type := 4, pos := "l08_moves.go:33", after := #[{ on := 3, ground := Ground.data }, { on := 6, ground := Ground.data }], guard := none }) (v := ?vve6) rfl (by kernel_rfl) (by kernel_rfl) (by kernel_rfl) (fun _ _ _ h => h) (Or.inl ⟨by rfl, ?hye6⟩) S0 ?reste6
    case hye6 => (intro w hSw; have hcx := hSw.key.cell; unfold Mv.ar at hcx; obtain ⟨q0, q1, q2⟩ := HEj.out _ hSw.bel;go_simp <;> with_reducible rfl)
    try simp only [Act.put, List.setIfInBounds_toArray, List.set_cons_zero, List.set_cons_succ]
    refine wpAnyH_take (i := 8) (oi := { dst := some 17, op := Op.move (Operand.tmp 16), type := 4, pos := "l08_moves.go:33", after := #[{ on := 7, ground := Ground.data }, { on := 5, ground := Ground.chain }], guard := none }) (v := ?vve7) rfl (by kernel_rfl) (by kernel_rfl) (by kernel_rfl) (fun _ _ _ h => h) (Or.inl ⟨by rfl, ?hye7⟩) S0 ?reste7
    case hye7 => (intro w hSw; have hcx := hSw.key.cell; unfold Mv.ar at hcx; obtain ⟨q0, q1, q2⟩ := HEj.out _ hSw.bel;go_simp <;> with_reducible rfl)
    try simp only [Act.put, List.setIfInBounds_toArray, List.set_cons_zero, List.set_cons_succ]
    refine wpAnyH_take (i := 9) (oi := { dst := some 18, op := Op.move (Operand.tmp 0), type := 25, pos := "l08_moves.go:33", after := #[{ on := 8, ground := Ground.guard }], guard := some (8, false) }) (v := ?vve8) rfl (by kernel_rfl) (by kernel_rfl) (by kernel_rfl) (fun _ _ _ h => h) (Or.inl ⟨by rfl, ?hye8⟩) S0 ?reste8
    case hye8 => (intro w hSw; have hcx := hSw.key.cell; unfold Mv.ar at hcx; obtain ⟨q0, q1, q2⟩ := HEj.out _ hSw.bel;go_simp <;> with_reducible rfl)
    try simp only [Act.put, List.setIfInBounds_toArray, List.set_cons_zero, List.set_cons_succ]
    refine wpAnyH_take (i := 10) (oi := { dst := some 19, op := Op.call { callee := Callee.builtin Builtin.len, args := #[Operand.tmp 18], argTypes := #[25] }, type := 3, pos := "l08_moves.go:33", after := #[{ on := 9, ground := Ground.data }, { on := 8, ground := Ground.guard }], guard := some (8, false) }) (v := ?vve9) rfl (by kernel_rfl) (by kernel_rfl) (by kernel_rfl) (fun _ _ _ h => h) (Or.inl ⟨by rfl, ?hye9⟩) S0 ?reste9
    case hye9 => (intro w hSw; have hcx := hSw.key.cell; unfold Mv.ar at hcx; obtain ⟨q0, q1, q2⟩ := HEj.out _ hSw.bel;go_simp <;> with_reducible rfl)
    try simp only [Act.put, List.setIfInBounds_toArray, List.set_cons_zero, List.set_cons_succ]
    refine wpAnyH_take (i := 11) (oi := { dst := some 20, op := Op.binOp BinOp.gtr 3 (Operand.tmp 19) (Operand.const (Value.int IntKind.i64 0)) 3, type := 4, pos := "l08_moves.go:33", after := #[{ on := 10, ground := Ground.data }, { on := 8, ground := Ground.guard }], guard := some (8, false) }) (v := ?vve10) rfl (by kernel_rfl) (by kernel_rfl) (by kernel_rfl) (fun _ _ _ h => h) (Or.inl ⟨by rfl, ?hye10⟩) S0 ?reste10
    case hye10 => (intro w hSw; have hcx := hSw.key.cell; unfold Mv.ar at hcx; obtain ⟨q0, q1, q2⟩ := HEj.out _ hSw.bel;go_simp <;> with_reducible rfl)
    try simp only [Act.put, List.setIfInBounds_toArray, List.set_cons_zero, List.set_cons_succ]
    refine wpAnyH_take (i := 12) (oi := { dst := some 21, op := Op.move (Operand.tmp 20), type := 4, pos := "l08_moves.go:33", after := #[{ on := 11, ground := Ground.data }, { on := 8, ground := Ground.chain }, { on := 8, ground := Ground.guard }], guard := some (8, false) }) (v := ?vve11) rfl (by kernel_rfl) (by kernel_rfl) (by kernel_rfl) (fun _ _ _ h => h) (Or.inl ⟨by rfl, ?hye11⟩) S0 ?reste11
    case hye11 => (intro w hSw; have hcx := hSw.key.cell; unfold Mv.ar at hcx; obtain ⟨q0, q1, q2⟩ := HEj.out _ hSw.bel;go_simp <;> with_reducible rfl)
    try simp only [Act.put, List.setIfInBounds_toArray, List.set_cons_zero, List.set_cons_succ]
    refine wpAnyH_take (i := 13) (oi := { dst := some 22, op := Op.move (Operand.tmp 0), type := 25, pos := "l08_moves.go:33", after := #[{ on := 12, ground := Ground.guard }], guard := some (12, true) }) (v := ?vve12) rfl (by kernel_rfl) (by kernel_rfl) (by kernel_rfl) (fun _ _ _ h => h) (Or.inl ⟨by rfl, ?hye12⟩) S0 ?reste12
    case hye12 => (intro w hSw; have hcx := hSw.key.cell; unfold Mv.ar at hcx; obtain ⟨q0, q1, q2⟩ := HEj.out _ hSw.bel;go_simp <;> with_reducible rfl)
    try simp only [Act.put, List.setIfInBounds_toArray, List.set_cons_zero, List.set_cons_succ]
    refine wpAnyH_take (i := 14) (oi := { dst := some 23, op := Op.move (Operand.tmp 0), type := 25, pos := "l08_moves.go:33", after := #[{ on := 12, ground := Ground.guard }], guard := some (12, true) }) (v := ?vve13) rfl (by kernel_rfl) (by kernel_rfl) (by kernel_rfl) (fun _ _ _ h => h) (Or.inl ⟨by rfl, ?hye13⟩) S0 ?reste13
    case hye13 => (intro w hSw; have hcx := hSw.key.cell; unfold Mv.ar at hcx; obtain ⟨q0, q1, q2⟩ := HEj.out _ hSw.bel;go_simp <;> with_reducible rfl)
    try simp only [Act.put, List.setIfInBounds_toArray, List.set_cons_zero, List.set_cons_succ]
    refine wpAnyH_take (i := 15) (oi := { dst := some 24, op := Op.call { callee := Callee.builtin Builtin.len, args := #[Operand.tmp 23], argTypes := #[25] }, type := 3, pos := "l08_moves.go:33", after := #[{ on := 14, ground := Ground.data }, { on := 12, ground := Ground.guard }], guard := some (12, true) }) (v := ?vve14) rfl (by kernel_rfl) (by kernel_rfl) (by kernel_rfl) (fun _ _ _ h => h) (Or.inl ⟨by rfl, ?hye14⟩) S0 ?reste14
    case hye14 => (intro w hSw; have hcx := hSw.key.cell; unfold Mv.ar at hcx; obtain ⟨q0, q1, q2⟩ := HEj.out _ hSw.bel;go_simp <;> with_reducible rfl)
    try simp only [Act.put, List.setIfInBounds_toArray, List.set_cons_zero, List.set_cons_succ]
    refine wpAnyH_take (i := 16) (oi := { dst := some 25, op := Op.binOp BinOp.sub 3 (Operand.tmp 24) (Operand.const (Value.int IntKind.i64 1)) 3, type := 3, pos := "l08_moves.go:33", after := #[{ on := 15, ground := Ground.data }, { on := 12, ground := Ground.guard }], guard := some (12, true) }) (v := ?vve15) rfl (by kernel_rfl) (by kernel_rfl) (by kernel_rfl) (fun _ _ _ h => h) (Or.inl ⟨by rfl, ?hye15⟩) S0 ?reste15
    case hye15 => (intro w hSw; have hcx := hSw.key.cell; unfold Mv.ar at hcx; obtain ⟨q0, q1, q2⟩ := HEj.out _ hSw.bel;go_simp <;> with_reducible rfl)
    try simp only [Act.put, List.setIfInBounds_toArray, List.set_cons_zero, List.set_cons_succ]
    refine wpAnyH_take (i := 17) (oi := { dst := some 26, op := Op.indexAddr 25 (Operand.tmp 22) (Operand.tmp 25), type := 0, pos := "l08_moves.go:33", after := #[{ on := 13, ground := Ground.data }, { on := 16, ground := Ground.data }, { on := 12, ground := Ground.guard }], guard := some (12, true) }) (v := ?vve16) rfl (by kernel_rfl) (by kernel_rfl) (by kernel_rfl) (fun _ _ _ h => h) (Or.inl ⟨by rfl, ?hye16⟩) S0 ?reste16
    case hye16 => (intro w hSw; have hcx := hSw.key.cell; unfold Mv.ar at hcx; obtain ⟨q0, q1, q2⟩ := HEj.out _ hSw.bel;go_simp <;> with_reducible rfl)
    try simp only [Act.put, List.setIfInBounds_toArray, List.set_cons_zero, List.set_cons_succ]
    refine wpAnyH_take (i := 18) (oi := { dst := some 27, op := Op.fieldAddr 34 (Operand.tmp 26) 2, type := 0, pos := "l08_moves.go:33", after := #[{ on := 17, ground := Ground.data }, { on := 12, ground := Ground.guard }], guard := some (12, true) }) (v := ?vve17) rfl (by kernel_rfl) (by kernel_rfl) (by kernel_rfl) (fun _ _ _ h => h) (Or.inl ⟨by rfl, ?hye17⟩) S0 ?reste17
    case hye17 => (intro w hSw; have hcx := hSw.key.cell; unfold Mv.ar at hcx; obtain ⟨q0, q1, q2⟩ := HEj.out _ hSw.bel;go_simp <;> with_reducible rfl)
    try simp only [Act.put, List.setIfInBounds_toArray, List.set_cons_zero, List.set_cons_succ]
    refine wpAnyH_take (i := 19) (oi := { dst := some 28, op := Op.load 2 (Operand.tmp 27), type := 2, pos := "l08_moves.go:33", after := #[{ on := 18, ground := Ground.data }, { on := 12, ground := Ground.guard }], guard := some (12, true) }) (v := ?vve18) rfl (by kernel_rfl) (by kernel_rfl) (by kernel_rfl) (fun _ _ _ h => h) (Or.inl ⟨by rfl, ?hye18⟩) S0 ?reste18
    case hye18 => (intro w hSw; have hcx := hSw.key.cell; unfold Mv.ar at hcx; obtain ⟨q0, q1, q2⟩ := HEj.out _ hSw.bel;go_simp <;> with_reducible rfl)
    try simp only [Act.put, List.setIfInBounds_toArray, List.set_cons_zero, List.set_cons_succ]
    refine wpAnyH_take (i := 20) (oi := { dst := some 29, op := Op.fieldAddr 34 (Operand.tmp 3) 2, type := 0, pos := "l08_moves.go:33", after := #[{ on := 12, ground := Ground.guard }], guard := some (12, true) }) (v := ?vve19) rfl (by kernel_rfl) (by kernel_rfl) (by kernel_rfl) (fun _ _ _ h => h) (Or.inl ⟨by rfl, ?hye19⟩) S0 ?reste19
    case hye19 => (intro w hSw; have hcx := hSw.key.cell; unfold Mv.ar at hcx; obtain ⟨q0, q1, q2⟩ := HEj.out _ hSw.bel;go_simp <;> with_reducible rfl)
    try simp only [Act.put, List.setIfInBounds_toArray, List.set_cons_zero, List.set_cons_succ]
    refine wpAnyH_take (i := 21) (oi := { dst := some 30, op := Op.load 2 (Operand.tmp 29), type := 2, pos := "l08_moves.go:33", after := #[{ on := 20, ground := Ground.data }, { on := 12, ground := Ground.guard }], guard := some (12, true) }) (v := ?vve20) rfl (by kernel_rfl) (by kernel_rfl) (by kernel_rfl) (fun _ _ _ h => h) (Or.inl ⟨by rfl, ?hye20⟩) S0 ?reste20
    case hye20 => (intro w hSw; have hcx := hSw.key.cell; unfold Mv.ar at hcx; obtain ⟨q0, q1, q2⟩ := HEj.out _ hSw.bel;go_simp <;> with_reducible rfl)
    try simp only [Act.put, List.setIfInBounds_toArray, List.set_cons_zero, List.set_cons_succ]
    refine wpAnyH_take (i := 22) (oi := { dst := some 31, op := Op.binOp BinOp.gtr 2 (Operand.tmp 28) (Operand.tmp 30) 2, type := 4, pos := "l08_moves.go:33", after := #[{ on := 19, ground := Ground.data }, { on := 21, ground := Ground.data }, { on := 12, ground := Ground.guard }], guard := some (12, true) }) (v := ?vve21) rfl (by kernel_rfl) (by kernel_rfl) (by kernel_rfl) (fun _ _ _ h => h) (Or.inl ⟨by rfl, ?hye21⟩) S0 ?reste21
    case hye21 => (intro w hSw; have hcx := hSw.key.cell; unfold Mv.ar at hcx; obtain ⟨q0, q1, q2⟩ := HEj.out _ hSw.bel;go_simp <;> with_reducible rfl)
    try simp only [Act.put, List.setIfInBounds_toArray, List.set_cons_zero, List.set_cons_succ]
    refine wpAnyH_take (i := 23) (oi := { dst := some 32, op := Op.pick (Operand.tmp 21) (Operand.tmp 31) (Operand.const (Value.bool false)), type := 4, pos := "l08_moves.go:33", after := #[{ on := 12, ground := Ground.data }, { on := 22, ground := Ground.data }, { on := 8, ground := Ground.guard }], guard := some (8, false) }) (v := ?vve22) rfl (by kernel_rfl) (by kernel_rfl) (by kernel_rfl) (fun _ _ _ h => h) (Or.inl ⟨by rfl, ?hye22⟩) S0 ?reste22
    case hye22 => (intro w hSw; have hcx := hSw.key.cell; unfold Mv.ar at hcx; obtain ⟨q0, q1, q2⟩ := HEj.out _ hSw.bel;go_simp <;> with_reducible rfl)
    try simp only [Act.put, List.setIfInBounds_toArray, List.set_cons_zero, List.set_cons_succ]
    refine wpAnyH_take (i := 24) (oi := { dst := some 33, op := Op.pick (Operand.tmp 17) (Operand.const (Value.bool true)) (Operand.tmp 32), type := 4, pos := "l08_moves.go:33", after := #[{ on := 8, ground := Ground.data }, { on := 23, ground := Ground.data }], guard := none }) (v := ?vve23) rfl (by kernel_rfl) (by kernel_rfl) (by kernel_rfl) (fun _ _ _ h => h) (Or.inl ⟨by rfl, ?hye23⟩) S0 ?reste23
    case hye23 => (intro w hSw; have hcx := hSw.key.cell; unfold Mv.ar at hcx; obtain ⟨q0, q1, q2⟩ := HEj.out _ hSw.bel;go_simp <;> with_reducible rfl)
    try simp only [Act.put, List.setIfInBounds_toArray, List.set_cons_zero, List.set_cons_succ]
    refine wpAnyH_done (by kernel_rfl) ?_ _
    all_goals
      go_wp2_with (go_at_call 87; refine (HQ.out _ _).mono ?_; rintro e w1 ⟨rfl, hb1⟩; have S1 := S0.kept hb1; have hc := S1.ans.cell; have hf := S1.ans.frozen; clear hb1)
      have HY := Lib.hid (S1.fill (.slice none 0 0) (.int .i64 1))
      generalize ((w1.setCell ⟨w.heap.size + 1, 0, none⟩ (.slice none 0 0)).setCell ⟨w.heap.size + 1, 1, none⟩ (.int .i64 1)) = w2 at *
      have hc2 := HY.out.1.cell
      refine bodyPost_ret (v := woV (.slice none 0 0) 1) (by simp [results, Try.results20, go_sem, woV, hc2]) rfl ?_
      exact WoPost.ill HR.out rfl HY.out.2
end Go.Proofs.Ythilmonokhdjmaa
