/- spec.l07Put: the model puts an element into a sorted list. -/
import Derived.Test.YtmkoppbbenombaaAgS
import Derived.Test.YtmkoppbbenombaaGaM
import Derived.Test.YtmkoppbbenombaaMg
import Derived.Test.YtmkoppbbenombaaCuM
namespace Go.Proofs.Ytmkoppbbenombaa
open Go.RowKit
abbrev oc7ec9_0 : Oper := { dst := some 7, op := Op.move (Operand.tmp 5), type := 3, pos := "l07_local.go:47", after := #[], guard := none }
abbrev oc7ec9_1 : Oper := { dst := some 8, op := Op.move (Operand.tmp 0), type := 54, pos := "l07_local.go:47", after := #[], guard := none }
abbrev oc7ec9_2 : Oper := { dst := some 9, op := Op.call { callee := Callee.builtin Builtin.len, args := #[Operand.tmp 8], argTypes := #[54] }, type := 3, pos := "l07_local.go:47", after := #[{ on := 1, ground := Ground.data }], guard := none }
abbrev oc7ec9_3 : Oper := { dst := some 10, op := Op.binOp BinOp.lss 3 (Operand.tmp 7) (Operand.tmp 9) 3, type := 4, pos := "l07_local.go:47", after := #[{ on := 0, ground := Ground.data }, { on := 2, ground := Ground.data }], guard := none }
abbrev oc7ec9_4 : Oper := { dst := some 11, op := Op.move (Operand.tmp 10), type := 4, pos := "l07_local.go:47", after := #[{ on := 3, ground := Ground.data }], guard := none }
abbrev oc7ec9_5 : Oper := { dst := some 12, op := Op.move (Operand.tmp 0), type := 54, pos := "l07_local.go:47", after := #[{ on := 4, ground := Ground.guard }], guard := some (4, true) }
abbrev oc7ec9_6 : Oper := { dst := some 13, op := Op.move (Operand.tmp 5), type := 3, pos := "l07_local.go:47", after := #[{ on := 4, ground := Ground.guard }], guard := some (4, true) }
abbrev oc7ec9_7 : Oper := { dst := some 14, op := Op.indexAddr 54 (Operand.tmp 12) (Operand.tmp 13), type := 0, pos := "l07_local.go:47", after := #[{ on := 5, ground := Ground.data }, { on := 6, ground := Ground.data }, { on := 4, ground := Ground.guard }], guard := some (4, true) }
abbrev oc7ec9_8 : Oper := { dst := some 15, op := Op.load 59 (Operand.tmp 14), type := 59, pos := "l07_local.go:47", after := #[{ on := 7, ground := Ground.data }, { on := 4, ground := Ground.guard }], guard := some (4, true) }
abbrev oc7ec9_9 : Oper := { dst := some 16, op := Op.load 59 (Operand.tmp 3), type := 59, pos := "l07_local.go:47", after := #[{ on := 4, ground := Ground.guard }], guard := some (4, true) }
abbrev oc7ec9_10 : Oper := { dst := some 17, op := Op.call { callee := Callee.value (Operand.func 89), args := #[Operand.tmp 15, Operand.tmp 16], argTypes := #[59, 59] }, type := 4, pos := "l07_local.go:47", after := #[{ on := 8, ground := Ground.data }, { on := 9, ground := Ground.data }, { on := 4, ground := Ground.chain }, { on := 4, ground := Ground.guard }], guard := some (4, true) }
abbrev oc7ec9_11 : Oper := { dst := some 18, op := Op.pick (Operand.tmp 11) (Operand.tmp 17) (Operand.const (Value.bool false)), type := 4, pos := "l07_local.go:47", after := #[{ on := 4, ground := Ground.data }, { on := 10, ground := Ground.data }], guard := none }
abbrev oc7ec9_12 : Oper := { dst := some 30, op := Op.move (Operand.tmp 5), type := 3, pos := "l07_local.go:52", after := #[], guard := none }
abbrev oc7ec9_13 : Oper := { dst := some 31, op := Op.move (Operand.tmp 0), type := 54, pos := "l07_local.go:52", after := #[], guard := none }
abbrev oc7ec9_14 : Oper := { dst := some 32, op := Op.call { callee := Callee.builtin Builtin.len, args := #[Operand.tmp 31], argTypes := #[54] }, type := 3, pos := "l07_local.go:52", after := #[{ on := 1, ground := Ground.data }], guard := none }
abbrev oc7ec9_15 : Oper := { dst := some 33, op := Op.binOp BinOp.lss 3 (Operand.tmp 30) (Operand.tmp 32) 3, type := 4, pos := "l07_local.go:52", after := #[{ on := 0, ground := Ground.data }, { on := 2, ground := Ground.data }], guard := none }
abbrev oc7ec9_16 : Oper := { dst := some 34, op := Op.move (Operand.tmp 33), type := 4, pos := "l07_local.go:52", after := #[{ on := 3, ground := Ground.data }], guard := none }
abbrev oc7ec9_17 : Oper := { dst := some 35, op := Op.load 59 (Operand.tmp 3), type := 59, pos := "l07_local.go:52", after := #[{ on := 4, ground := Ground.guard }], guard := some (4, true) }
abbrev oc7ec9_18 : Oper := { dst := some 36, op := Op.move (Operand.tmp 0), type := 54, pos := "l07_local.go:52", after := #[{ on := 4, ground := Ground.guard }], guard := some (4, true) }
abbrev oc7ec9_19 : Oper := { dst := some 37, op := Op.move (Operand.tmp 5), type := 3, pos := "l07_local.go:52", after := #[{ on := 4, ground := Ground.guard }], guard := some (4, true) }
abbrev oc7ec9_20 : Oper := { dst := some 38, op := Op.indexAddr 54 (Operand.tmp 36) (Operand.tmp 37), type := 0, pos := "l07_local.go:52", after := #[{ on := 6, ground := Ground.data }, { on := 7, ground := Ground.data }, { on := 4, ground := Ground.guard }], guard := some (4, true) }
abbrev oc7ec9_21 : Oper := { dst := some 39, op := Op.load 59 (Operand.tmp 38), type := 59, pos := "l07_local.go:52", after := #[{ on := 8, ground := Ground.data }, { on := 4, ground := Ground.guard }], guard := some (4, true) }
abbrev oc7ec9_22 : Oper := { dst := some 40, op := Op.call { callee := Callee.value (Operand.func 89), args := #[Operand.tmp 35, Operand.tmp 39], argTypes := #[59, 59] }, type := 4, pos := "l07_local.go:52", after := #[{ on := 5, ground := Ground.data }, { on := 9, ground := Ground.data }, { on := 4, ground := Ground.chain }, { on := 4, ground := Ground.guard }], guard := some (4, true) }
abbrev oc7ec9_23 : Oper := { dst := some 41, op := Op.unOp UnOp.not 4 (Operand.tmp 40), type := 4, pos := "l07_local.go:52", after := #[{ on := 10, ground := Ground.data }, { on := 4, ground := Ground.guard }], guard := some (4, true) }
abbrev oc7ec9_24 : Oper := { dst := some 42, op := Op.pick (Operand.tmp 34) (Operand.tmp 41) (Operand.const (Value.bool false)), type := 4, pos := "l07_local.go:52", after := #[{ on := 4, ground := Ground.data }, { on := 11, ground := Ground.data }], guard := none }

instance LtG_dec : DecidableRel LtG := fun a b => by unfold LtG; infer_instance
theorem ordG : OrdOk LtG sameG := ⟨fun h k => ltG_trans h k, fun h => ltG_not_same h, fun h k => (by unfold LtG sameG at *; omega), fun h => sameG_symm h, fun h k => (by unfold LtG sameG at *; omega), fun h k => (by unfold LtG sameG at *; omega)⟩
def putG (x : Gu) (l : List Gu) : GsO := if 8 ≤ l.length ∧ ¬ ∃ y ∈ l, sameG x y then goIll 9 else ⟨insL LtG x l, [], 0⟩
theorem putG_full {x : Gu} {l : List Gu} (h : 8 ≤ l.length) (h2 : ¬ ∃ y ∈ l, sameG x y) : putG x l = goIll 9 := by rw [putG, if_pos ⟨h, h2⟩]
theorem putG_new {x : Gu} {l : List Gu} (h : ¬ 8 ≤ l.length) : putG x l = ⟨insL LtG x l, [], 0⟩ := by rw [putG, if_neg (fun e => h e.1)]
theorem putG_hit {x : Gu} {l : List Gu} (h : ∃ y ∈ l, sameG x y) : putG x l = ⟨insL LtG x l, [], 0⟩ := by rw [putG, if_neg (fun e => e.2 h)]
theorem elem_Gp : Try.prog.elem 54 = 59 := by kernel_rfl
theorem under_Gp : Try.prog.underlying 54 = some (.slice (Try.prog.elem 54)) := by rw [elem_Gp]; exact Try.underlying54
theorem size_Gp (W : World) : (sizeOf (Try.prog.elem 54)).run Try.prog W = .ok 7 W := by
  obtain ⟨i0, z, hi0, hz0, hz1, hz2⟩ := tyG.info
  rw [elem_Gp]
  simp [sizeOf, typeInfo, hi0, hz1]
theorem cutH_Gp (a : Option Addr) (n cap k : Nat) (hk : k ≤ cap) (W : World) : (Instr.slice 54 (.slice a n cap) none (some (.int .i64 (k : Int))) none).run Try.prog W = .ok (sliced a 0 k cap 7) W := by
  rw [run_slice_h (P := Try.prog) W 54 a n cap under_Gp .i64 k (by omega) (by omega), size_Gp]
  simp [Result.andThen]
theorem cutL_Gp (a : Option Addr) (n cap k : Nat) (hk : k ≤ n) (W : World) : (Instr.slice 54 (.slice a n cap) (some (.int .i64 (k : Int))) none none).run Try.prog W = .ok (sliced a k n cap 7) W := by
  rw [run_slice_l (P := Try.prog) W 54 a n cap under_Gp .i64 k (by omega) (by omega), size_Gp]
  simp [Result.andThen]
structure GpAt (w wr : World) (x : Gu) (y : Value) (rib : List Gu) : Prop where
  out : Blk wr (w.heap.size + 1) 65 #[.slice none 0 0, .slice none 0 0, .int .i64 0]
  key : Blk wr (w.heap.size) 59 x.ar
  row : wr.ownsRow (w.heap.size + 2) 59 7 y rib.length (rcells Gu.cl rib)
  bel : Below w.heap.size w wr
  low : w.heap.size + 2 ≤ wr.heap.size
section
variable {w wr w5 : World} {x : Gu} {y : Value} {rib rib' : List Gu} {a5 : Option Addr} {n5 k5 : Nat}
theorem GpAt.kept (h : GpAt w wr x y rib) (hb : Below wr.heap.size wr w5) : GpAt w w5 x y rib := ⟨h.out.kept hb, h.key.kept hb, rown_below h.row hb, h.bel.trans (hb.mono h.bel.size), Nat.le_trans h.low hb.size⟩
theorem GpAt.drew (h : GpAt w wr x y rib) : GpAt w wr.drew x y rib := ⟨h.out.drew, h.key.drew, h.row, h.bel.drew, h.low⟩
theorem GpAt.alloc (h : GpAt w wr x y rib) (o : Obj) : GpAt w (wr.alloc o) x y rib := h.kept ((Below.refl _ _).alloc (Nat.le_refl _) o)
theorem GpAt.app (h : GpAt w wr x y rib) (hn5 : n5 = rib'.length) (ho : w5.ownsRow (w.heap.size + 2) 59 7 (.slice a5 n5 k5) n5 (rcells Gu.cl rib')) (hg : wr.grownBy w5 y.ownBlock) : GpAt w w5 x (.slice a5 n5 k5) rib' := by
  have hne : ∀ q, q < w.heap.size + 2 → some q ≠ y.ownBlock := fun q hq e => by
    have := (h.row.lt q e.symm).1
    omega
  refine ⟨h.out.grown hg (hne _ (by omega)), h.key.grown hg (hne _ (by omega)), by rw [← hn5]; exact ho, h.bel.grown hg h.bel.size (fun k hk => by have := (h.row.lt k hk).1; omega), Nat.le_trans h.low hg.size⟩
theorem GpAt.lit (h : GpAt w wr x y rib) : GpAt w (wr.alloc (.cells #[] 59)) x (.slice (some ⟨wr.heap.size, 0, none⟩) 0 0) [] :=
  ⟨h.out.alloc _, h.key.alloc _, World.ownsRow_lit (base := w.heap.size + 2) (e := 59) (size := 7) wr #[] 0 h.low (Nat.zero_le _) rfl, h.bel.alloc h.bel.size _, Nat.le_trans h.low (by simp)⟩
theorem GpAt.fin (h : GpAt w wr x y rib) (v0 v1 v2 : Value) :
    (Blk (((wr.setCell ⟨w.heap.size + 1, 0, none⟩ v0).setCell ⟨w.heap.size + 1, 1, none⟩ v1).setCell ⟨w.heap.size + 1, 2, none⟩ v2) (w.heap.size + 1) 65 #[v0, v1, v2] ∧ Below w.heap.size w (((wr.setCell ⟨w.heap.size + 1, 0, none⟩ v0).setCell ⟨w.heap.size + 1, 1, none⟩ v1).setCell ⟨w.heap.size + 1, 2, none⟩ v2)) ∧
    (((wr.setCell ⟨w.heap.size + 1, 0, none⟩ v0).setCell ⟨w.heap.size + 1, 1, none⟩ v1).setCell ⟨w.heap.size + 1, 2, none⟩ v2).ownsRow w.heap.size 59 7 y rib.length (rcells Gu.cl rib) :=
  ⟨fillO h.out h.bel (by omega) v0 v1 v2, (rown_mono (B' := w.heap.size) h.row (by omega)).kept (row := some (w.heap.size + 1)) (grownSet (grownSet (grownSet (World.grownBy.refl _ _)))) (.inr (fun e => by have := (h.row.lt _ e).1; omega))⟩
end
theorem apart_Gp (v : Value) : v.ownBlock = none ∨ v.ownBlock ≠ (Value.slice none 0 0).ownBlock := by
  cases h : v.ownBlock with
  | none => exact .inl rfl
  | some k => exact .inr (by simp [Value.ownBlock])
set_option maxRecDepth 100000 in
set_option maxHeartbeats 16000000 in
theorem specGPutIn_any (l : List Gu) (v : Value) (x : Gu) (w : World) (h : GusAt w v l) (hc : NcOk v) (hn : l.length ≤ 8) (hpw : l.Pairwise LtG) :
    Calls Try.prog 96 #[v, x.val] w (GoPost (putG x l) w) := by
  have hx : x = x := rfl
  have HE1 := Lib.hid (fun (hb : ∀ j (h : j < l.length), LtG l[j] x) => insL_end (lt := LtG) x l hb)
  have HE2 := Lib.hid (fun (k : Nat) (hk : k < l.length) hb h1 h2 => insL_new (lt := LtG) x l k hk hb h1 h2)
  have HE3 := Lib.hid (fun (k : Nat) (hk : k < l.length) hb h1 h2 => insL_hit (lt := LtG) x l k hk hb h1 h2)
  have HN1 := Lib.hid (fun (k : Nat) (hb : ∀ j (h : j < l.length), j < k → LtG l[j] x) (ha : ∀ h : k < l.length, LtG x l[k]) => hit_not ordG hpw hb ha)
  have HN2 := Lib.hid (fun (k : Nat) (hk : k < l.length) (h1 : ¬ LtG l[k] x) (h2 : ¬ LtG x l[k]) => hit_at ordG hk h1 h2)
  have HP1 := Lib.hid (fun h h2 => putG_full (x := x) (l := l) h h2)
  have HP2 := Lib.hid (fun h => putG_new (x := x) (l := l) h)
  have HP3 := Lib.hid (fun h => putG_hit (x := x) (l := l) h)
  have HIll := Lib.hid (specIll7_any 9)
  unfold goV at HIll
  generalize putG x l = S at *
  have HLe := Lib.hid (fun (a b : Gu) => lessG_iff a b)
  obtain ⟨a, cap, rfl, h⟩ := h
  rw [List.length_map] at *
  have HSl : Hid (∀ W' : World, Below w.heap.size w W' → SlAt W' 7 (.slice a l.length cap) (l.map Gu.cl)) := Lib.hid (fun W' hb => SlAt.kept ⟨a, cap, by rw [List.length_map], h⟩ hb)
  have HH := Lib.hid h
  have HNc := Lib.hid hc
  have HCap := Lib.hid ((hc _ _ _ rfl).2)
  clear h hc hpw
  unfold Gu.val
  obtain ⟨W0, hW0⟩ : ∃ W, W = (w.alloc (.cells #[.int .i64 x.vni, .int .i64 x.mac, .int .i64 x.ip, .int .i64 x.door, .int .i64 x.seq, .int .i64 x.seen, .bool x.st] 59)).alloc (.cells #[.slice none 0 0, .slice none 0 0, .int .i64 0] 65) := ⟨_, rfl⟩
  have A0 := ((MemAt.start w).new 59 #[.int .i64 x.vni, .int .i64 x.mac, .int .i64 x.ip, .int .i64 x.door, .int .i64 x.seq, .int .i64 x.seen, .bool x.st]).new 65 #[.slice none 0 0, .slice none 0 0, .int .i64 0]
  simp only [World.size_alloc] at A0
  rw [← hW0] at A0
  have hsz0 : W0.heap.size = w.heap.size + 2 := by rw [hW0]; simp
  have HA0 : Hid (GpAt w W0 x (.slice none 0 0) []) := Lib.hid ⟨A0.b0, A0.b1, World.ownsRow_nil _ _ _ _, A0.bel, by omega⟩
  clear A0 hsz0
  obtain ⟨n, hnn⟩ : ∃ n, n = l.length := ⟨_, rfl⟩
  rw [← hnn] at hn HP1 HP2 HSl HNc HCap ⊢
  have HN := Lib.hid hnn
  clear hnn
  go_enter Try.func96, Try.ntmps96
  go_upto_region 1 with fail
  rw [← hW0]
  clear hW0 hx
  go_wp2_with fail
  go_loopw [5] (fun u wr => ∃ k : Nat, k ≤ n ∧ u = .int .i64 (k : Int) ∧ Hid (∀ j (h : j < l.length), j < k → LtG l[j] x) ∧ Hid (GpAt w wr x (.slice none 0 0) [])) (fun u _ => n - (intOf u).toNat)
  case atStart => exact ⟨0, Nat.zero_le _, rfl, Lib.hid (fun j h hj => by omega), HA0⟩
  case round =>
    clear HA0
    obtain ⟨k, hk, rfl, HK, HA⟩ := hrel
    by_cases hlt : k < n
    · have hir : k < l.length := by rw [← HN.out]; exact hlt
      have hne : l.map Gu.cl ≠ [] := fun e => by
        have := congrArg List.length e
        rw [List.length_map] at this
        simp at this
        rw [this] at hir
        simp at hir
      obtain ⟨b, off, ha, hb, HE⟩ := HH.out hne
      subst ha
      have hl1 : (k : Int) < n := by omega
      have S0 := HA.out.drew
      have HEi := Lib.hid (fun (W' : World) (hS : Below w.heap.size w W') => (Elems.below HE hS hb).gu k hir)
      have HC := Lib.hid (specLessG_any l[k] x)
      have HC2 := Lib.hid (specLessG_any x l[k])
      have HLk := HLe.out l[k] x
      have HLk2 := HLe.out x l[k]
      have HK1 : Hid (LtG l[k] x → ∀ j (h : j < l.length), j < k + 1 → LtG l[j] x) := Lib.hid (fun hx j h hj => by
        by_cases e : j = k
        · subst e; exact hx
        · exact HK.out j h (by omega))
      have HF2 := Lib.hid (fun h1 h2 => HE2.out k hir HK.out h1 h2)
      have HF3 := Lib.hid (fun h1 h2 => HE3.out k hir HK.out h1 h2)
      have HM1 := Lib.hid (fun (h2 : LtG x l[k]) => HN1.out k HK.out (fun _ => h2))
      have HM2 := Lib.hid (fun h1 h2 => HN2.out k hir h1 h2)
      unfold Gu.val at HC HC2
      clear HE HA HE1 HE2 HE3 HN1 HN2
      generalize l[k] = z at *
      cases hless : lessG z x
      · have hnl : ¬ LtG z x := fun e => by rw [HLk.2 e] at hless; cases hless
        rw [hless] at HC
        clear HK1 hless
        go_wp2_with fail
        refine wp_region_held_drew (S := fun W' => GpAt w W' x _ _) (by kernel_rfl) S0 (fun hHeld => ?_)
        clear hHeld
        refine wpAnyH_take (i := 0) (oi := oc7ec9_0) (v := ?vva1) rfl (by kernel_rfl) (by kernel_rfl) (by kernel_rfl) (fun _ _ _ h => h) (Or.inl ⟨by rfl, ?hya1⟩) S0 ?resta1
        case hya1 => (intro w hSw; go_simp <;> with_reducible rfl)
        try simp only [Act.put, List.setIfInBounds_toArray, List.set_cons_zero, List.set_cons_succ]
        refine wpAnyH_take (i := 1) (oi := oc7ec9_1) (v := ?vva2) rfl (by kernel_rfl) (by kernel_rfl) (by kernel_rfl) (fun _ _ _ h => h) (Or.inl ⟨by rfl, ?hya2⟩) S0 ?resta2
        case hya2 => (intro w hSw; go_simp <;> with_reducible rfl)
        try simp only [Act.put, List.setIfInBounds_toArray, List.set_cons_zero, List.set_cons_succ]
        refine wpAnyH_take (i := 2) (oi := oc7ec9_2) (v := ?vva3) rfl (by kernel_rfl) (by kernel_rfl) (by kernel_rfl) (fun _ _ _ h => h) (Or.inl ⟨by rfl, ?hya3⟩) S0 ?resta3
        case hya3 => (intro w hSw; go_simp <;> with_reducible rfl)
        try simp only [Act.put, List.setIfInBounds_toArray, List.set_cons_zero, List.set_cons_succ]
        refine wpAnyH_take (i := 3) (oi := oc7ec9_3) (v := ?vva4) rfl (by kernel_rfl) (by kernel_rfl) (by kernel_rfl) (fun _ _ _ h => h) (Or.inl ⟨by rfl, ?hya4⟩) S0 ?resta4
        case hya4 => (intro w hSw; go_simp <;> with_reducible rfl)
        try simp only [Act.put, List.setIfInBounds_toArray, List.set_cons_zero, List.set_cons_succ]
        refine wpAnyH_take (i := 4) (oi := oc7ec9_4) (v := ?vva5) rfl (by kernel_rfl) (by kernel_rfl) (by kernel_rfl) (fun _ _ _ h => h) (Or.inl ⟨by rfl, ?hya5⟩) S0 ?resta5
        case hya5 => (intro w hSw; go_simp <;> with_reducible rfl)
        try simp only [Act.put, List.setIfInBounds_toArray, List.set_cons_zero, List.set_cons_succ]
        refine wpAnyH_take (i := 5) (oi := oc7ec9_5) (v := ?vva6) rfl (by kernel_rfl) (by kernel_rfl) (by kernel_rfl) (fun _ _ _ h => h) (Or.inl ⟨by rfl, ?hya6⟩) S0 ?resta6
        case hya6 => (intro w hSw; go_simp <;> with_reducible rfl)
        try simp only [Act.put, List.setIfInBounds_toArray, List.set_cons_zero, List.set_cons_succ]
        refine wpAnyH_take (i := 6) (oi := oc7ec9_6) (v := ?vva7) rfl (by kernel_rfl) (by kernel_rfl) (by kernel_rfl) (fun _ _ _ h => h) (Or.inl ⟨by rfl, ?hya7⟩) S0 ?resta7
        case hya7 => (intro w hSw; go_simp <;> with_reducible rfl)
        try simp only [Act.put, List.setIfInBounds_toArray, List.set_cons_zero, List.set_cons_succ]
        refine wpAnyH_take (i := 7) (oi := oc7ec9_7) (v := ?vva8) rfl (by kernel_rfl) (by kernel_rfl) (by kernel_rfl) (fun _ _ _ h => h) (Or.inl ⟨by rfl, ?hya8⟩) S0 ?resta8
        case hya8 => (intro w hSw; go_simp <;> with_reducible rfl)
        try simp only [Act.put, List.setIfInBounds_toArray, List.set_cons_zero, List.set_cons_succ]
        refine wpAnyH_take (i := 8) (oi := oc7ec9_8) (v := ?vva9) rfl (by kernel_rfl) (by kernel_rfl) (by kernel_rfl) (fun _ _ _ h => h) (Or.inl ⟨by rfl, ?hya9⟩) S0 ?resta9
        case hya9 => (intro w hSw; obtain ⟨p0, p1, p2, p3, p4, p5, p6⟩ := HEi.out _ hSw.bel; have hcx := hSw.key.cell; unfold Gu.ar at hcx;go_simp <;> with_reducible rfl)
        try simp only [Act.put, List.setIfInBounds_toArray, List.set_cons_zero, List.set_cons_succ]
        refine wpAnyH_take (i := 9) (oi := oc7ec9_9) (v := ?vva10) rfl (by kernel_rfl) (by kernel_rfl) (by kernel_rfl) (fun _ _ _ h => h) (Or.inl ⟨by rfl, ?hya10⟩) S0 ?resta10
        case hya10 => (intro w hSw; obtain ⟨p0, p1, p2, p3, p4, p5, p6⟩ := HEi.out _ hSw.bel; have hcx := hSw.key.cell; unfold Gu.ar at hcx;go_simp <;> with_reducible rfl)
        try simp only [Act.put, List.setIfInBounds_toArray, List.set_cons_zero, List.set_cons_succ]
        refine wpAnyH_ready (rs := [10]) (by kernel_rfl) (by simp) ?_
        refine AllReadyH.cons (o := oc7ec9_10) rfl (fun K hK => ?_) AllReadyH.nil
        go_simp
        refine (HC.out _).mono ?_
        rintro e w1 ⟨rfl, hb1⟩
        replace S0 := S0.kept hb1
        clear hb1
        refine hK.out _ _ S0 (fun hHeld => ?_)
        clear hK K hHeld
        try simp only [Act.put, List.setIfInBounds_toArray, List.set_cons_zero, List.set_cons_succ]
        refine wpAnyH_take (i := 11) (oi := oc7ec9_11) (v := ?vva11) rfl (by kernel_rfl) (by kernel_rfl) (by kernel_rfl) (fun _ _ _ h => h) (Or.inl ⟨by rfl, ?hya11⟩) S0 ?resta11
        case hya11 => (intro w hSw; go_simp <;> with_reducible rfl)
        try simp only [Act.put, List.setIfInBounds_toArray, List.set_cons_zero, List.set_cons_succ]
        refine wpAnyH_done (by kernel_rfl) ?_ _
        go_upto_region 4 with fail
        have hbT := S0.bel
        obtain ⟨a1, e1, sl1, nl1⟩ := cut_take (HSl.out _ S0.lit.bel) HNc.out k hk
        have hrunT : ∀ W : World, (Instr.slice 54 (.slice (some ⟨b, off, none⟩) n cap) none (some (.int .i64 (k : Int))) none).run Try.prog W = .ok (.slice a1 k cap) W := fun W => by rw [cutH_Gp _ n cap k (Nat.le_trans hk HCap.out) W, e1]
        have HKL : Hid (k = (l.take k).length) := Lib.hid (by rw [List.length_take]; have := HN.out; omega)
        have S1 := S0.lit
        have hlo1 := S1.low
        clear e1 hbT S0
        go_upto_region 5 with (at_builtin; refine wpList_append_slice Gu.cl_len Gu.cl_one1 tyG _ rfl _ _ rfl (w.heap.size + 2) _ [] (l.take k) rfl S1.row a1 cap (by rw [← HKL.out]; rfl) (by rw [← HKL.out]; exact nl1) (by rw [← HKL.out]; exact sl1) (by rw [← HKL.out]; simp; omega) hlo1 ?_; intro a' c' n' w5 HN5 hown5 hg5; have S2 := S1.app HN5.out hown5 hg5; clear hown5 hg5 S1 hlo1 hrunT)
        have hcx := S2.key.cell
        unfold Gu.ar at hcx
        have hlo2 := S2.low
        go_upto_region 6 with (at_builtin; refine wpList_append_row Gu.cl_len Gu.cl_one1 tyG _ rfl _ _ rfl (w.heap.size + 2) _ ([] ++ l.take k) x rfl (S2.row.alloc _) ⟨w5.heap.size, 0, none⟩ rfl (lit_cells w5 _ _ x rfl) (by simp; omega) (by simp; omega) ?_; intro a2 c2 n2 w6 HN6 hown6 hg6; have S3 := (S2.alloc (.cells #[.int .i64 x.vni, .int .i64 x.mac, .int .i64 x.ip, .int .i64 x.door, .int .i64 x.seq, .int .i64 x.seen, .bool x.st] 59)).app HN6.out hown6 hg6; clear hown6 hg6 S2 hlo2 hcx)
        have S0 := S3.drew
        clear S3
        cases hless2 : lessG x z
        · have hnl2 : ¬ LtG x z := fun e => by rw [HLk2.2 e] at hless2; cases hless2
          rw [hless2] at HC2
          have HR := Lib.hid (HP3.out (HM2.out hnl hnl2))
          have HEq := Lib.hid (HF3.out hnl hnl2)
          clear HC hless2
          refine wp_region_held_drew (S := fun W' => GpAt w W' x _ _) (by kernel_rfl) S0 (fun hHeld => ?_)
          clear hHeld
          refine wpAnyH_take (i := 0) (oi := oc7ec9_12) (v := ?vvd1) rfl (by kernel_rfl) (by kernel_rfl) (by kernel_rfl) (fun _ _ _ h => h) (Or.inl ⟨by rfl, ?hyd1⟩) S0 ?restd1
          case hyd1 => (intro w hSw; go_simp <;> with_reducible rfl)
          try simp only [Act.put, List.setIfInBounds_toArray, List.set_cons_zero, List.set_cons_succ]
          refine wpAnyH_take (i := 1) (oi := oc7ec9_13) (v := ?vvd2) rfl (by kernel_rfl) (by kernel_rfl) (by kernel_rfl) (fun _ _ _ h => h) (Or.inl ⟨by rfl, ?hyd2⟩) S0 ?restd2
          case hyd2 => (intro w hSw; go_simp <;> with_reducible rfl)
          try simp only [Act.put, List.setIfInBounds_toArray, List.set_cons_zero, List.set_cons_succ]
          refine wpAnyH_take (i := 2) (oi := oc7ec9_14) (v := ?vvd3) rfl (by kernel_rfl) (by kernel_rfl) (by kernel_rfl) (fun _ _ _ h => h) (Or.inl ⟨by rfl, ?hyd3⟩) S0 ?restd3
          case hyd3 => (intro w hSw; go_simp <;> with_reducible rfl)
          try simp only [Act.put, List.setIfInBounds_toArray, List.set_cons_zero, List.set_cons_succ]
          refine wpAnyH_take (i := 3) (oi := oc7ec9_15) (v := ?vvd4) rfl (by kernel_rfl) (by kernel_rfl) (by kernel_rfl) (fun _ _ _ h => h) (Or.inl ⟨by rfl, ?hyd4⟩) S0 ?restd4
          case hyd4 => (intro w hSw; go_simp <;> with_reducible rfl)
          try simp only [Act.put, List.setIfInBounds_toArray, List.set_cons_zero, List.set_cons_succ]
          refine wpAnyH_take (i := 4) (oi := oc7ec9_16) (v := ?vvd5) rfl (by kernel_rfl) (by kernel_rfl) (by kernel_rfl) (fun _ _ _ h => h) (Or.inl ⟨by rfl, ?hyd5⟩) S0 ?restd5
          case hyd5 => (intro w hSw; go_simp <;> with_reducible rfl)
          try simp only [Act.put, List.setIfInBounds_toArray, List.set_cons_zero, List.set_cons_succ]
          refine wpAnyH_take (i := 5) (oi := oc7ec9_17) (v := ?vvd6) rfl (by kernel_rfl) (by kernel_rfl) (by kernel_rfl) (fun _ _ _ h => h) (Or.inl ⟨by rfl, ?hyd6⟩) S0 ?restd6
          case hyd6 => (intro w hSw; obtain ⟨p0, p1, p2, p3, p4, p5, p6⟩ := HEi.out _ hSw.bel; have hcx := hSw.key.cell; unfold Gu.ar at hcx;go_simp <;> with_reducible rfl)
          try simp only [Act.put, List.setIfInBounds_toArray, List.set_cons_zero, List.set_cons_succ]
          refine wpAnyH_take (i := 6) (oi := oc7ec9_18) (v := ?vvd7) rfl (by kernel_rfl) (by kernel_rfl) (by kernel_rfl) (fun _ _ _ h => h) (Or.inl ⟨by rfl, ?hyd7⟩) S0 ?restd7
          case hyd7 => (intro w hSw; go_simp <;> with_reducible rfl)
          try simp only [Act.put, List.setIfInBounds_toArray, List.set_cons_zero, List.set_cons_succ]
          refine wpAnyH_take (i := 7) (oi := oc7ec9_19) (v := ?vvd8) rfl (by kernel_rfl) (by kernel_rfl) (by kernel_rfl) (fun _ _ _ h => h) (Or.inl ⟨by rfl, ?hyd8⟩) S0 ?restd8
          case hyd8 => (intro w hSw; go_simp <;> with_reducible rfl)
          try simp only [Act.put, List.setIfInBounds_toArray, List.set_cons_zero, List.set_cons_succ]
          refine wpAnyH_take (i := 8) (oi := oc7ec9_20) (v := ?vvd9) rfl (by kernel_rfl) (by kernel_rfl) (by kernel_rfl) (fun _ _ _ h => h) (Or.inl ⟨by rfl, ?hyd9⟩) S0 ?restd9
          case hyd9 => (intro w hSw; go_simp <;> with_reducible rfl)
          try simp only [Act.put, List.setIfInBounds_toArray, List.set_cons_zero, List.set_cons_succ]
          refine wpAnyH_take (i := 9) (oi := oc7ec9_21) (v := ?vvd10) rfl (by kernel_rfl) (by kernel_rfl) (by kernel_rfl) (fun _ _ _ h => h) (Or.inl ⟨by rfl, ?hyd10⟩) S0 ?restd10
          case hyd10 => (intro w hSw; obtain ⟨p0, p1, p2, p3, p4, p5, p6⟩ := HEi.out _ hSw.bel; have hcx := hSw.key.cell; unfold Gu.ar at hcx;go_simp <;> with_reducible rfl)
          try simp only [Act.put, List.setIfInBounds_toArray, List.set_cons_zero, List.set_cons_succ]
          refine wpAnyH_ready (rs := [10]) (by kernel_rfl) (by simp) ?_
          refine AllReadyH.cons (o := oc7ec9_22) rfl (fun K hK => ?_) AllReadyH.nil
          go_simp
          refine (HC2.out _).mono ?_
          rintro e w8 ⟨rfl, hb1⟩
          replace S0 := S0.kept hb1
          clear hb1
          refine hK.out _ _ S0 (fun hHeld => ?_)
          clear hK K hHeld
          try simp only [Act.put, List.setIfInBounds_toArray, List.set_cons_zero, List.set_cons_succ]
          refine wpAnyH_take (i := 11) (oi := oc7ec9_23) (v := ?vvd11) rfl (by kernel_rfl) (by kernel_rfl) (by kernel_rfl) (fun _ _ _ h => h) (Or.inl ⟨by rfl, ?hyd11⟩) S0 ?restd11
          case hyd11 => (intro w hSw; go_simp <;> with_reducible rfl)
          try simp only [Act.put, List.setIfInBounds_toArray, List.set_cons_zero, List.set_cons_succ]
          refine wpAnyH_take (i := 12) (oi := oc7ec9_24) (v := ?vvd12) rfl (by kernel_rfl) (by kernel_rfl) (by kernel_rfl) (fun _ _ _ h => h) (Or.inl ⟨by rfl, ?hyd12⟩) S0 ?restd12
          case hyd12 => (intro w hSw; go_simp <;> with_reducible rfl)
          try simp only [Act.put, List.setIfInBounds_toArray, List.set_cons_zero, List.set_cons_succ]
          refine wpAnyH_done (by kernel_rfl) ?_ _
          have S3 := S0
          clear S0
          have hw1 : IntKind.i64.wrap ((k : Int) + 1) = (k : Int) + 1 := by simp only [IntKind.wrap_i64]; omega
          go_upto_region 7 with fail
          obtain ⟨a3, e3, sl3, nl3⟩ := cut_drop (HSl.out _ S3.bel) HNc.out (k + 1) (by omega)
          have hrunD : ∀ W : World, (Instr.slice 54 (.slice (some ⟨b, off, none⟩) n cap) (some (.int .i64 ((k : Int) + 1))) none none).run Try.prog W = .ok (.slice a3 (n - (k + 1)) (cap - (k + 1))) W := fun W => by rw [show ((k : Int) + 1) = ((k + 1 : Nat) : Int) by omega, cutL_Gp _ n cap (k + 1) (by omega) W, e3]
          have HDL : Hid (n - (k + 1) = (l.drop (k + 1)).length) := Lib.hid (by rw [List.length_drop, ← HN.out])
          have hlo3 := S3.low
          have hcO := S3.out.cell
          have hfO := S3.out.frozen
          clear e3
          have hll : ([] ++ l.take k ++ [x]).length + (l.drop (k + 1)).length ≤ 1100000 := by rw [← HDL.out]; simp; omega
          go_wp2_with (at_builtin; refine wpList_append_slice Gu.cl_len Gu.cl_one1 tyG _ rfl _ _ rfl (w.heap.size + 2) _ ([] ++ l.take k ++ [x]) (l.drop (k + 1)) rfl S3.row a3 (cap - (k + 1)) (by rw [← HDL.out]; rfl) (by rw [← HDL.out]; exact nl3) (by rw [← HDL.out]; exact sl3) hll hlo3 ?_; intro a4 c4 n4 w7 HN7 hown7 hg7; have S4 := S3.app HN7.out hown7 hg7; clear hown7 hg7 hcO hfO hlo3 hrunD; have hcO := S4.out.cell; have hfO := S4.out.frozen)
          have HY := Lib.hid (S4.fin (.slice a4 n4 c4) (.slice none 0 0) (.int .i64 0))
          generalize (((w7.setCell ⟨w.heap.size + 1, 0, none⟩ (.slice a4 n4 c4)).setCell ⟨w.heap.size + 1, 1, none⟩ (.slice none 0 0)).setCell ⟨w.heap.size + 1, 2, none⟩ (.int .i64 0)) = w9 at *
          have hc9 := HY.out.1.1.cell
          refine bodyPost_ret (v := goV (.slice a4 n4 c4) (.slice none 0 0) 0) (by simp [results, Try.results96, go_sem, goV, hc9]) rfl ?_
          rw [HR.out]
          have hrib : ([] ++ l.take k ++ [x]) ++ l.drop (k + 1) = insL LtG x l := by rw [HEq.out]; simp
          rw [hrib] at HY HN7
          refine ⟨_, _, rfl, ?_, World.ownsRow_nil _ _ _ _, apart_Gp _, HY.out.1.2⟩
          exact HY.out.2
        · have hl2 : LtG x z := HLk2.1 hless2
          rw [hless2] at HC2
          have HEq := Lib.hid (HF2.out hnl hl2)
          have HNo := Lib.hid (HM1.out hl2)
          clear HC hless2
          refine wp_region_held_drew (S := fun W' => GpAt w W' x _ _) (by kernel_rfl) S0 (fun hHeld => ?_)
          clear hHeld
          refine wpAnyH_take (i := 0) (oi := oc7ec9_12) (v := ?vve1) rfl (by kernel_rfl) (by kernel_rfl) (by kernel_rfl) (fun _ _ _ h => h) (Or.inl ⟨by rfl, ?hye1⟩) S0 ?reste1
          case hye1 => (intro w hSw; go_simp <;> with_reducible rfl)
          try simp only [Act.put, List.setIfInBounds_toArray, List.set_cons_zero, List.set_cons_succ]
          refine wpAnyH_take (i := 1) (oi := oc7ec9_13) (v := ?vve2) rfl (by kernel_rfl) (by kernel_rfl) (by kernel_rfl) (fun _ _ _ h => h) (Or.inl ⟨by rfl, ?hye2⟩) S0 ?reste2
          case hye2 => (intro w hSw; go_simp <;> with_reducible rfl)
          try simp only [Act.put, List.setIfInBounds_toArray, List.set_cons_zero, List.set_cons_succ]
          refine wpAnyH_take (i := 2) (oi := oc7ec9_14) (v := ?vve3) rfl (by kernel_rfl) (by kernel_rfl) (by kernel_rfl) (fun _ _ _ h => h) (Or.inl ⟨by rfl, ?hye3⟩) S0 ?reste3
          case hye3 => (intro w hSw; go_simp <;> with_reducible rfl)
          try simp only [Act.put, List.setIfInBounds_toArray, List.set_cons_zero, List.set_cons_succ]
          refine wpAnyH_take (i := 3) (oi := oc7ec9_15) (v := ?vve4) rfl (by kernel_rfl) (by kernel_rfl) (by kernel_rfl) (fun _ _ _ h => h) (Or.inl ⟨by rfl, ?hye4⟩) S0 ?reste4
          case hye4 => (intro w hSw; go_simp <;> with_reducible rfl)
          try simp only [Act.put, List.setIfInBounds_toArray, List.set_cons_zero, List.set_cons_succ]
          refine wpAnyH_take (i := 4) (oi := oc7ec9_16) (v := ?vve5) rfl (by kernel_rfl) (by kernel_rfl) (by kernel_rfl) (fun _ _ _ h => h) (Or.inl ⟨by rfl, ?hye5⟩) S0 ?reste5
          case hye5 => (intro w hSw; go_simp <;> with_reducible rfl)
          try simp only [Act.put, List.setIfInBounds_toArray, List.set_cons_zero, List.set_cons_succ]
          refine wpAnyH_take (i := 5) (oi := oc7ec9_17) (v := ?vve6) rfl (by kernel_rfl) (by kernel_rfl) (by kernel_rfl) (fun _ _ _ h => h) (Or.inl ⟨by rfl, ?hye6⟩) S0 ?reste6
          case hye6 => (intro w hSw; obtain ⟨p0, p1, p2, p3, p4, p5, p6⟩ := HEi.out _ hSw.bel; have hcx := hSw.key.cell; unfold Gu.ar at hcx;go_simp <;> with_reducible rfl)
          try simp only [Act.put, List.setIfInBounds_toArray, List.set_cons_zero, List.set_cons_succ]
          refine wpAnyH_take (i := 6) (oi := oc7ec9_18) (v := ?vve7) rfl (by kernel_rfl) (by kernel_rfl) (by kernel_rfl) (fun _ _ _ h => h) (Or.inl ⟨by rfl, ?hye7⟩) S0 ?reste7
          case hye7 => (intro w hSw; go_simp <;> with_reducible rfl)
          try simp only [Act.put, List.setIfInBounds_toArray, List.set_cons_zero, List.set_cons_succ]
          refine wpAnyH_take (i := 7) (oi := oc7ec9_19) (v := ?vve8) rfl (by kernel_rfl) (by kernel_rfl) (by kernel_rfl) (fun _ _ _ h => h) (Or.inl ⟨by rfl, ?hye8⟩) S0 ?reste8
          case hye8 => (intro w hSw; go_simp <;> with_reducible rfl)
          try simp only [Act.put, List.setIfInBounds_toArray, List.set_cons_zero, List.set_cons_succ]
          refine wpAnyH_take (i := 8) (oi := oc7ec9_20) (v := ?vve9) rfl (by kernel_rfl) (by kernel_rfl) (by kernel_rfl) (fun _ _ _ h => h) (Or.inl ⟨by rfl, ?hye9⟩) S0 ?reste9
          case hye9 => (intro w hSw; go_simp <;> with_reducible rfl)
          try simp only [Act.put, List.setIfInBounds_toArray, List.set_cons_zero, List.set_cons_succ]
          refine wpAnyH_take (i := 9) (oi := oc7ec9_21) (v := ?vve10) rfl (by kernel_rfl) (by kernel_rfl) (by kernel_rfl) (fun _ _ _ h => h) (Or.inl ⟨by rfl, ?hye10⟩) S0 ?reste10
          case hye10 => (intro w hSw; obtain ⟨p0, p1, p2, p3, p4, p5, p6⟩ := HEi.out _ hSw.bel; have hcx := hSw.key.cell; unfold Gu.ar at hcx;go_simp <;> with_reducible rfl)
          try simp only [Act.put, List.setIfInBounds_toArray, List.set_cons_zero, List.set_cons_succ]
          refine wpAnyH_ready (rs := [10]) (by kernel_rfl) (by simp) ?_
          refine AllReadyH.cons (o := oc7ec9_22) rfl (fun K hK => ?_) AllReadyH.nil
          go_simp
          refine (HC2.out _).mono ?_
          rintro e w8 ⟨rfl, hb1⟩
          replace S0 := S0.kept hb1
          clear hb1
          refine hK.out _ _ S0 (fun hHeld => ?_)
          clear hK K hHeld
          try simp only [Act.put, List.setIfInBounds_toArray, List.set_cons_zero, List.set_cons_succ]
          refine wpAnyH_take (i := 11) (oi := oc7ec9_23) (v := ?vve11) rfl (by kernel_rfl) (by kernel_rfl) (by kernel_rfl) (fun _ _ _ h => h) (Or.inl ⟨by rfl, ?hye11⟩) S0 ?reste11
          case hye11 => (intro w hSw; go_simp <;> with_reducible rfl)
          try simp only [Act.put, List.setIfInBounds_toArray, List.set_cons_zero, List.set_cons_succ]
          refine wpAnyH_take (i := 12) (oi := oc7ec9_24) (v := ?vve12) rfl (by kernel_rfl) (by kernel_rfl) (by kernel_rfl) (fun _ _ _ h => h) (Or.inl ⟨by rfl, ?hye12⟩) S0 ?reste12
          case hye12 => (intro w hSw; go_simp <;> with_reducible rfl)
          try simp only [Act.put, List.setIfInBounds_toArray, List.set_cons_zero, List.set_cons_succ]
          refine wpAnyH_done (by kernel_rfl) ?_ _
          have S3 := S0
          clear S0
          by_cases hfull : 8 ≤ n
          · have HR := Lib.hid (HP1.out hfull HNo.out)
            have hfz : (8 : Int) ≤ (n : Int) := by omega
            have hcO := S3.out.cell
            have hfO := S3.out.frozen
            go_wp2_with (go_at_call 95; refine (HIll.out _).mono ?_; rintro x1 w7 ⟨rfl, hb7⟩; have S4 := S3.kept hb7; clear hb7 hcO hfO; have hcO := S4.out.cell; have hfO := S4.out.frozen)
            have HY := Lib.hid (S4.fin (.slice none 0 0) (.slice none 0 0) (.int .i64 9))
            generalize (((w7.setCell ⟨w.heap.size + 1, 0, none⟩ (.slice none 0 0)).setCell ⟨w.heap.size + 1, 1, none⟩ (.slice none 0 0)).setCell ⟨w.heap.size + 1, 2, none⟩ (.int .i64 9)) = w9 at *
            have hc9 := HY.out.1.1.cell
            refine bodyPost_ret (v := goV (.slice none 0 0) (.slice none 0 0) 9) (by simp [results, Try.results96, go_sem, goV, hc9]) rfl ?_
            exact GoPost.ill HR.out rfl HY.out.1.2
          · have HR := Lib.hid (HP2.out hfull)
            have hfz : ¬ (8 : Int) ≤ (n : Int) := by omega
            go_upto_region 10 with fail
            obtain ⟨a3, e3, sl3, nl3⟩ := cut_drop (HSl.out _ S3.bel) HNc.out (k) (by omega)
            have hrunD : ∀ W : World, (Instr.slice 54 (.slice (some ⟨b, off, none⟩) n cap) (some (.int .i64 ((k : Int)))) none none).run Try.prog W = .ok (.slice a3 (n - (k)) (cap - (k))) W := fun W => by rw [cutL_Gp _ n cap (k) (by omega) W, e3]
            have HDL : Hid (n - (k) = (l.drop (k)).length) := Lib.hid (by rw [List.length_drop, ← HN.out])
            have hlo3 := S3.low
            have hcO := S3.out.cell
            have hfO := S3.out.frozen
            clear e3
            have hll : ([] ++ l.take k ++ [x]).length + (l.drop (k)).length ≤ 1100000 := by rw [← HDL.out]; simp; omega
            go_wp2_with (at_builtin; refine wpList_append_slice Gu.cl_len Gu.cl_one1 tyG _ rfl _ _ rfl (w.heap.size + 2) _ ([] ++ l.take k ++ [x]) (l.drop (k)) rfl S3.row a3 (cap - (k)) (by rw [← HDL.out]; rfl) (by rw [← HDL.out]; exact nl3) (by rw [← HDL.out]; exact sl3) hll hlo3 ?_; intro a4 c4 n4 w7 HN7 hown7 hg7; have S4 := S3.app HN7.out hown7 hg7; clear hown7 hg7 hcO hfO hlo3 hrunD; have hcO := S4.out.cell; have hfO := S4.out.frozen)
            have HY := Lib.hid (S4.fin (.slice a4 n4 c4) (.slice none 0 0) (.int .i64 0))
            generalize (((w7.setCell ⟨w.heap.size + 1, 0, none⟩ (.slice a4 n4 c4)).setCell ⟨w.heap.size + 1, 1, none⟩ (.slice none 0 0)).setCell ⟨w.heap.size + 1, 2, none⟩ (.int .i64 0)) = w9 at *
            have hc9 := HY.out.1.1.cell
            refine bodyPost_ret (v := goV (.slice a4 n4 c4) (.slice none 0 0) 0) (by simp [results, Try.results96, go_sem, goV, hc9]) rfl ?_
            rw [HR.out]
            have hrib : ([] ++ l.take k ++ [x]) ++ l.drop (k) = insL LtG x l := by rw [HEq.out]; simp
            rw [hrib] at HY HN7
            refine ⟨_, _, rfl, ?_, World.ownsRow_nil _ _ _ _, apart_Gp _, HY.out.1.2⟩
            exact HY.out.2
      · have hl : LtG z x := HLk.1 hless
        rw [hless] at HC
        have HK2 := Lib.hid (HK1.out hl)
        clear HK1 hless HC2 HF2 HF3 HM1 HM2
        go_wp2_with fail
        refine wp_region_held_drew (S := fun W' => GpAt w W' x _ _) (by kernel_rfl) S0 (fun hHeld => ?_)
        clear hHeld
        refine wpAnyH_take (i := 0) (oi := oc7ec9_0) (v := ?vvb1) rfl (by kernel_rfl) (by kernel_rfl) (by kernel_rfl) (fun _ _ _ h => h) (Or.inl ⟨by rfl, ?hyb1⟩) S0 ?restb1
        case hyb1 => (intro w hSw; go_simp <;> with_reducible rfl)
        try simp only [Act.put, List.setIfInBounds_toArray, List.set_cons_zero, List.set_cons_succ]
        refine wpAnyH_take (i := 1) (oi := oc7ec9_1) (v := ?vvb2) rfl (by kernel_rfl) (by kernel_rfl) (by kernel_rfl) (fun _ _ _ h => h) (Or.inl ⟨by rfl, ?hyb2⟩) S0 ?restb2
        case hyb2 => (intro w hSw; go_simp <;> with_reducible rfl)
        try simp only [Act.put, List.setIfInBounds_toArray, List.set_cons_zero, List.set_cons_succ]
        refine wpAnyH_take (i := 2) (oi := oc7ec9_2) (v := ?vvb3) rfl (by kernel_rfl) (by kernel_rfl) (by kernel_rfl) (fun _ _ _ h => h) (Or.inl ⟨by rfl, ?hyb3⟩) S0 ?restb3
        case hyb3 => (intro w hSw; go_simp <;> with_reducible rfl)
        try simp only [Act.put, List.setIfInBounds_toArray, List.set_cons_zero, List.set_cons_succ]
        refine wpAnyH_take (i := 3) (oi := oc7ec9_3) (v := ?vvb4) rfl (by kernel_rfl) (by kernel_rfl) (by kernel_rfl) (fun _ _ _ h => h) (Or.inl ⟨by rfl, ?hyb4⟩) S0 ?restb4
        case hyb4 => (intro w hSw; go_simp <;> with_reducible rfl)
        try simp only [Act.put, List.setIfInBounds_toArray, List.set_cons_zero, List.set_cons_succ]
        refine wpAnyH_take (i := 4) (oi := oc7ec9_4) (v := ?vvb5) rfl (by kernel_rfl) (by kernel_rfl) (by kernel_rfl) (fun _ _ _ h => h) (Or.inl ⟨by rfl, ?hyb5⟩) S0 ?restb5
        case hyb5 => (intro w hSw; go_simp <;> with_reducible rfl)
        try simp only [Act.put, List.setIfInBounds_toArray, List.set_cons_zero, List.set_cons_succ]
        refine wpAnyH_take (i := 5) (oi := oc7ec9_5) (v := ?vvb6) rfl (by kernel_rfl) (by kernel_rfl) (by kernel_rfl) (fun _ _ _ h => h) (Or.inl ⟨by rfl, ?hyb6⟩) S0 ?restb6
        case hyb6 => (intro w hSw; go_simp <;> with_reducible rfl)
        try simp only [Act.put, List.setIfInBounds_toArray, List.set_cons_zero, List.set_cons_succ]
        refine wpAnyH_take (i := 6) (oi := oc7ec9_6) (v := ?vvb7) rfl (by kernel_rfl) (by kernel_rfl) (by kernel_rfl) (fun _ _ _ h => h) (Or.inl ⟨by rfl, ?hyb7⟩) S0 ?restb7
        case hyb7 => (intro w hSw; go_simp <;> with_reducible rfl)
        try simp only [Act.put, List.setIfInBounds_toArray, List.set_cons_zero, List.set_cons_succ]
        refine wpAnyH_take (i := 7) (oi := oc7ec9_7) (v := ?vvb8) rfl (by kernel_rfl) (by kernel_rfl) (by kernel_rfl) (fun _ _ _ h => h) (Or.inl ⟨by rfl, ?hyb8⟩) S0 ?restb8
        case hyb8 => (intro w hSw; go_simp <;> with_reducible rfl)
        try simp only [Act.put, List.setIfInBounds_toArray, List.set_cons_zero, List.set_cons_succ]
        refine wpAnyH_take (i := 8) (oi := oc7ec9_8) (v := ?vvb9) rfl (by kernel_rfl) (by kernel_rfl) (by kernel_rfl) (fun _ _ _ h => h) (Or.inl ⟨by rfl, ?hyb9⟩) S0 ?restb9
        case hyb9 => (intro w hSw; obtain ⟨p0, p1, p2, p3, p4, p5, p6⟩ := HEi.out _ hSw.bel; have hcx := hSw.key.cell; unfold Gu.ar at hcx;go_simp <;> with_reducible rfl)
        try simp only [Act.put, List.setIfInBounds_toArray, List.set_cons_zero, List.set_cons_succ]
        refine wpAnyH_take (i := 9) (oi := oc7ec9_9) (v := ?vvb10) rfl (by kernel_rfl) (by kernel_rfl) (by kernel_rfl) (fun _ _ _ h => h) (Or.inl ⟨by rfl, ?hyb10⟩) S0 ?restb10
        case hyb10 => (intro w hSw; obtain ⟨p0, p1, p2, p3, p4, p5, p6⟩ := HEi.out _ hSw.bel; have hcx := hSw.key.cell; unfold Gu.ar at hcx;go_simp <;> with_reducible rfl)
        try simp only [Act.put, List.setIfInBounds_toArray, List.set_cons_zero, List.set_cons_succ]
        refine wpAnyH_ready (rs := [10]) (by kernel_rfl) (by simp) ?_
        refine AllReadyH.cons (o := oc7ec9_10) rfl (fun K hK => ?_) AllReadyH.nil
        go_simp
        refine (HC.out _).mono ?_
        rintro e w1 ⟨rfl, hb1⟩
        replace S0 := S0.kept hb1
        clear hb1
        refine hK.out _ _ S0 (fun hHeld => ?_)
        clear hK K hHeld
        try simp only [Act.put, List.setIfInBounds_toArray, List.set_cons_zero, List.set_cons_succ]
        refine wpAnyH_take (i := 11) (oi := oc7ec9_11) (v := ?vvb11) rfl (by kernel_rfl) (by kernel_rfl) (by kernel_rfl) (fun _ _ _ h => h) (Or.inl ⟨by rfl, ?hyb11⟩) S0 ?restb11
        case hyb11 => (intro w hSw; go_simp <;> with_reducible rfl)
        try simp only [Act.put, List.setIfInBounds_toArray, List.set_cons_zero, List.set_cons_succ]
        refine wpAnyH_done (by kernel_rfl) ?_ _
        go_wp2_with fail
        go_roundw
        case rel => exact ⟨k + 1, by omega, by simp, HK2, Lib.hid S0⟩
        case measure => simp [intOf]; omega
    · have HIN : Hid (k = n) := Lib.hid (by omega)
      have hl1 : ¬ (k : Int) < n := by omega
      have S0 := HA.out.drew
      have HKK : Hid (k = l.length) := Lib.hid (HIN.out.trans HN.out)
      clear HIN
      have HEq := Lib.hid (HE1.out (fun j h => HK.out j h (by have := HKK.out; omega)))
      have HNo := Lib.hid (HN1.out k HK.out (fun h => absurd h (by have := HKK.out; omega)))
      clear HA HE1 HE2 HE3 HN1 HN2
      go_wp2_with fail
      refine wp_region_held_drew (S := fun W' => GpAt w W' x _ _) (by kernel_rfl) S0 (fun hHeld => ?_)
      clear hHeld
      refine wpAnyH_take (i := 0) (oi := oc7ec9_0) (v := ?vvc1) rfl (by kernel_rfl) (by kernel_rfl) (by kernel_rfl) (fun _ _ _ h => h) (Or.inl ⟨by rfl, ?hyc1⟩) S0 ?restc1
      case hyc1 => (intro w hSw; go_simp <;> with_reducible rfl)
      try simp only [Act.put, List.setIfInBounds_toArray, List.set_cons_zero, List.set_cons_succ]
      refine wpAnyH_take (i := 1) (oi := oc7ec9_1) (v := ?vvc2) rfl (by kernel_rfl) (by kernel_rfl) (by kernel_rfl) (fun _ _ _ h => h) (Or.inl ⟨by rfl, ?hyc2⟩) S0 ?restc2
      case hyc2 => (intro w hSw; go_simp <;> with_reducible rfl)
      try simp only [Act.put, List.setIfInBounds_toArray, List.set_cons_zero, List.set_cons_succ]
      refine wpAnyH_take (i := 2) (oi := oc7ec9_2) (v := ?vvc3) rfl (by kernel_rfl) (by kernel_rfl) (by kernel_rfl) (fun _ _ _ h => h) (Or.inl ⟨by rfl, ?hyc3⟩) S0 ?restc3
      case hyc3 => (intro w hSw; go_simp <;> with_reducible rfl)
      try simp only [Act.put, List.setIfInBounds_toArray, List.set_cons_zero, List.set_cons_succ]
      refine wpAnyH_take (i := 3) (oi := oc7ec9_3) (v := ?vvc4) rfl (by kernel_rfl) (by kernel_rfl) (by kernel_rfl) (fun _ _ _ h => h) (Or.inl ⟨by rfl, ?hyc4⟩) S0 ?restc4
      case hyc4 => (intro w hSw; go_simp <;> with_reducible rfl)
      try simp only [Act.put, List.setIfInBounds_toArray, List.set_cons_zero, List.set_cons_succ]
      refine wpAnyH_take (i := 4) (oi := oc7ec9_4) (v := ?vvc5) rfl (by kernel_rfl) (by kernel_rfl) (by kernel_rfl) (fun _ _ _ h => h) (Or.inl ⟨by rfl, ?hyc5⟩) S0 ?restc5
      case hyc5 => (intro w hSw; go_simp <;> with_reducible rfl)
      try simp only [Act.put, List.setIfInBounds_toArray, List.set_cons_zero, List.set_cons_succ]
      refine wpAnyH_take (i := 5) (oi := oc7ec9_5) (v := undef) rfl (by kernel_rfl) (by kernel_rfl) (by kernel_rfl) (fun _ _ _ h => h) (Or.inr ⟨by rfl, rfl⟩) S0 ?_
      try simp only [Act.put, List.setIfInBounds_toArray, List.set_cons_zero, List.set_cons_succ]
      refine wpAnyH_take (i := 6) (oi := oc7ec9_6) (v := undef) rfl (by kernel_rfl) (by kernel_rfl) (by kernel_rfl) (fun _ _ _ h => h) (Or.inr ⟨by rfl, rfl⟩) S0 ?_
      try simp only [Act.put, List.setIfInBounds_toArray, List.set_cons_zero, List.set_cons_succ]
      refine wpAnyH_take (i := 7) (oi := oc7ec9_7) (v := undef) rfl (by kernel_rfl) (by kernel_rfl) (by kernel_rfl) (fun _ _ _ h => h) (Or.inr ⟨by rfl, rfl⟩) S0 ?_
      try simp only [Act.put, List.setIfInBounds_toArray, List.set_cons_zero, List.set_cons_succ]
      refine wpAnyH_take (i := 8) (oi := oc7ec9_8) (v := undef) rfl (by kernel_rfl) (by kernel_rfl) (by kernel_rfl) (fun _ _ _ h => h) (Or.inr ⟨by rfl, rfl⟩) S0 ?_
      try simp only [Act.put, List.setIfInBounds_toArray, List.set_cons_zero, List.set_cons_succ]
      refine wpAnyH_take (i := 9) (oi := oc7ec9_9) (v := undef) rfl (by kernel_rfl) (by kernel_rfl) (by kernel_rfl) (fun _ _ _ h => h) (Or.inr ⟨by rfl, rfl⟩) S0 ?_
      try simp only [Act.put, List.setIfInBounds_toArray, List.set_cons_zero, List.set_cons_succ]
      refine wpAnyH_take (i := 10) (oi := oc7ec9_10) (v := undef) rfl (by kernel_rfl) (by kernel_rfl) (by kernel_rfl) (fun _ _ _ h => h) (Or.inr ⟨by rfl, rfl⟩) S0 ?_
      try simp only [Act.put, List.setIfInBounds_toArray, List.set_cons_zero, List.set_cons_succ]
      refine wpAnyH_take (i := 11) (oi := oc7ec9_11) (v := ?vvc12) rfl (by kernel_rfl) (by kernel_rfl) (by kernel_rfl) (fun _ _ _ h => h) (Or.inl ⟨by rfl, ?hyc12⟩) S0 ?restc12
      case hyc12 => (intro w hSw; go_simp <;> with_reducible rfl)
      try simp only [Act.put, List.setIfInBounds_toArray, List.set_cons_zero, List.set_cons_succ]
      refine wpAnyH_done (by kernel_rfl) ?_ _
      go_upto_region 4 with fail
      have hbT := S0.bel
      obtain ⟨a1, e1, sl1, nl1⟩ := cut_take (HSl.out _ S0.lit.bel) HNc.out k hk
      have hrunT : ∀ W : World, (Instr.slice 54 (.slice a n cap) none (some (.int .i64 (k : Int))) none).run Try.prog W = .ok (.slice a1 k cap) W := fun W => by rw [cutH_Gp _ n cap k (Nat.le_trans hk HCap.out) W, e1]
      have HKL : Hid (k = (l.take k).length) := Lib.hid (by rw [List.length_take]; have := HN.out; omega)
      have S1 := S0.lit
      have hlo1 := S1.low
      clear e1 hbT S0
      go_upto_region 5 with (at_builtin; refine wpList_append_slice Gu.cl_len Gu.cl_one1 tyG _ rfl _ _ rfl (w.heap.size + 2) _ [] (l.take k) rfl S1.row a1 cap (by rw [← HKL.out]; rfl) (by rw [← HKL.out]; exact nl1) (by rw [← HKL.out]; exact sl1) (by rw [← HKL.out]; simp; omega) hlo1 ?_; intro a' c' n' w5 HN5 hown5 hg5; have S2 := S1.app HN5.out hown5 hg5; clear hown5 hg5 S1 hlo1 hrunT)
      have hcx := S2.key.cell
      unfold Gu.ar at hcx
      have hlo2 := S2.low
      go_upto_region 6 with (at_builtin; refine wpList_append_row Gu.cl_len Gu.cl_one1 tyG _ rfl _ _ rfl (w.heap.size + 2) _ ([] ++ l.take k) x rfl (S2.row.alloc _) ⟨w5.heap.size, 0, none⟩ rfl (lit_cells w5 _ _ x rfl) (by simp; omega) (by simp; omega) ?_; intro a2 c2 n2 w6 HN6 hown6 hg6; have S3 := (S2.alloc (.cells #[.int .i64 x.vni, .int .i64 x.mac, .int .i64 x.ip, .int .i64 x.door, .int .i64 x.seq, .int .i64 x.seen, .bool x.st] 59)).app HN6.out hown6 hg6; clear hown6 hg6 S2 hlo2 hcx)
      have S0 := S3.drew
      clear S3
      refine wp_region_held_drew (S := fun W' => GpAt w W' x _ _) (by kernel_rfl) S0 (fun hHeld => ?_)
      clear hHeld
      refine wpAnyH_take (i := 0) (oi := oc7ec9_12) (v := ?vvf1) rfl (by kernel_rfl) (by kernel_rfl) (by kernel_rfl) (fun _ _ _ h => h) (Or.inl ⟨by rfl, ?hyf1⟩) S0 ?restf1
      case hyf1 => (intro w hSw; go_simp <;> with_reducible rfl)
      try simp only [Act.put, List.setIfInBounds_toArray, List.set_cons_zero, List.set_cons_succ]
      refine wpAnyH_take (i := 1) (oi := oc7ec9_13) (v := ?vvf2) rfl (by kernel_rfl) (by kernel_rfl) (by kernel_rfl) (fun _ _ _ h => h) (Or.inl ⟨by rfl, ?hyf2⟩) S0 ?restf2
      case hyf2 => (intro w hSw; go_simp <;> with_reducible rfl)
      try simp only [Act.put, List.setIfInBounds_toArray, List.set_cons_zero, List.set_cons_succ]
      refine wpAnyH_take (i := 2) (oi := oc7ec9_14) (v := ?vvf3) rfl (by kernel_rfl) (by kernel_rfl) (by kernel_rfl) (fun _ _ _ h => h) (Or.inl ⟨by rfl, ?hyf3⟩) S0 ?restf3
      case hyf3 => (intro w hSw; go_simp <;> with_reducible rfl)
      try simp only [Act.put, List.setIfInBounds_toArray, List.set_cons_zero, List.set_cons_succ]
      refine wpAnyH_take (i := 3) (oi := oc7ec9_15) (v := ?vvf4) rfl (by kernel_rfl) (by kernel_rfl) (by kernel_rfl) (fun _ _ _ h => h) (Or.inl ⟨by rfl, ?hyf4⟩) S0 ?restf4
      case hyf4 => (intro w hSw; go_simp <;> with_reducible rfl)
      try simp only [Act.put, List.setIfInBounds_toArray, List.set_cons_zero, List.set_cons_succ]
      refine wpAnyH_take (i := 4) (oi := oc7ec9_16) (v := ?vvf5) rfl (by kernel_rfl) (by kernel_rfl) (by kernel_rfl) (fun _ _ _ h => h) (Or.inl ⟨by rfl, ?hyf5⟩) S0 ?restf5
      case hyf5 => (intro w hSw; go_simp <;> with_reducible rfl)
      try simp only [Act.put, List.setIfInBounds_toArray, List.set_cons_zero, List.set_cons_succ]
      refine wpAnyH_take (i := 5) (oi := oc7ec9_17) (v := undef) rfl (by kernel_rfl) (by kernel_rfl) (by kernel_rfl) (fun _ _ _ h => h) (Or.inr ⟨by rfl, rfl⟩) S0 ?_
      try simp only [Act.put, List.setIfInBounds_toArray, List.set_cons_zero, List.set_cons_succ]
      refine wpAnyH_take (i := 6) (oi := oc7ec9_18) (v := undef) rfl (by kernel_rfl) (by kernel_rfl) (by kernel_rfl) (fun _ _ _ h => h) (Or.inr ⟨by rfl, rfl⟩) S0 ?_
      try simp only [Act.put, List.setIfInBounds_toArray, List.set_cons_zero, List.set_cons_succ]
      refine wpAnyH_take (i := 7) (oi := oc7ec9_19) (v := undef) rfl (by kernel_rfl) (by kernel_rfl) (by kernel_rfl) (fun _ _ _ h => h) (Or.inr ⟨by rfl, rfl⟩) S0 ?_
      try simp only [Act.put, List.setIfInBounds_toArray, List.set_cons_zero, List.set_cons_succ]
      refine wpAnyH_take (i := 8) (oi := oc7ec9_20) (v := undef) rfl (by kernel_rfl) (by kernel_rfl) (by kernel_rfl) (fun _ _ _ h => h) (Or.inr ⟨by rfl, rfl⟩) S0 ?_
      try simp only [Act.put, List.setIfInBounds_toArray, List.set_cons_zero, List.set_cons_succ]
      refine wpAnyH_take (i := 9) (oi := oc7ec9_21) (v := undef) rfl (by kernel_rfl) (by kernel_rfl) (by kernel_rfl) (fun _ _ _ h => h) (Or.inr ⟨by rfl, rfl⟩) S0 ?_
      try simp only [Act.put, List.setIfInBounds_toArray, List.set_cons_zero, List.set_cons_succ]
      refine wpAnyH_take (i := 10) (oi := oc7ec9_22) (v := undef) rfl (by kernel_rfl) (by kernel_rfl) (by kernel_rfl) (fun _ _ _ h => h) (Or.inr ⟨by rfl, rfl⟩) S0 ?_
      try simp only [Act.put, List.setIfInBounds_toArray, List.set_cons_zero, List.set_cons_succ]
      refine wpAnyH_take (i := 11) (oi := oc7ec9_23) (v := undef) rfl (by kernel_rfl) (by kernel_rfl) (by kernel_rfl) (fun _ _ _ h => h) (Or.inr ⟨by rfl, rfl⟩) S0 ?_
      try simp only [Act.put, List.setIfInBounds_toArray, List.set_cons_zero, List.set_cons_succ]
      refine wpAnyH_take (i := 12) (oi := oc7ec9_24) (v := ?vvf13) rfl (by kernel_rfl) (by kernel_rfl) (by kernel_rfl) (fun _ _ _ h => h) (Or.inl ⟨by rfl, ?hyf13⟩) S0 ?restf13
      case hyf13 => (intro w hSw; go_simp <;> with_reducible rfl)
      try simp only [Act.put, List.setIfInBounds_toArray, List.set_cons_zero, List.set_cons_succ]
      refine wpAnyH_done (by kernel_rfl) ?_ _
      have S3 := S0
      clear S0
      by_cases hfull : 8 ≤ n
      · have HR := Lib.hid (HP1.out hfull HNo.out)
        have hfz : (8 : Int) ≤ (n : Int) := by omega
        have hcO := S3.out.cell
        have hfO := S3.out.frozen
        go_wp2_with (go_at_call 95; refine (HIll.out _).mono ?_; rintro x1 w7 ⟨rfl, hb7⟩; have S4 := S3.kept hb7; clear hb7 hcO hfO; have hcO := S4.out.cell; have hfO := S4.out.frozen)
        have HY := Lib.hid (S4.fin (.slice none 0 0) (.slice none 0 0) (.int .i64 9))
        generalize (((w7.setCell ⟨w.heap.size + 1, 0, none⟩ (.slice none 0 0)).setCell ⟨w.heap.size + 1, 1, none⟩ (.slice none 0 0)).setCell ⟨w.heap.size + 1, 2, none⟩ (.int .i64 9)) = w9 at *
        have hc9 := HY.out.1.1.cell
        refine bodyPost_ret (v := goV (.slice none 0 0) (.slice none 0 0) 9) (by simp [results, Try.results96, go_sem, goV, hc9]) rfl ?_
        exact GoPost.ill HR.out rfl HY.out.1.2
      · have HR := Lib.hid (HP2.out hfull)
        have hfz : ¬ (8 : Int) ≤ (n : Int) := by omega
        go_upto_region 10 with fail
        obtain ⟨a3, e3, sl3, nl3⟩ := cut_drop (HSl.out _ S3.bel) HNc.out (k) (by omega)
        have hrunD : ∀ W : World, (Instr.slice 54 (.slice a n cap) (some (.int .i64 ((k : Int)))) none none).run Try.prog W = .ok (.slice a3 (n - (k)) (cap - (k))) W := fun W => by rw [cutL_Gp _ n cap (k) (by omega) W, e3]
        have HDL : Hid (n - (k) = (l.drop (k)).length) := Lib.hid (by rw [List.length_drop, ← HN.out])
        have hlo3 := S3.low
        have hcO := S3.out.cell
        have hfO := S3.out.frozen
        clear e3
        have hll : ([] ++ l.take k ++ [x]).length + (l.drop (k)).length ≤ 1100000 := by rw [← HDL.out]; simp; omega
        go_wp2_with (at_builtin; refine wpList_append_slice Gu.cl_len Gu.cl_one1 tyG _ rfl _ _ rfl (w.heap.size + 2) _ ([] ++ l.take k ++ [x]) (l.drop (k)) rfl S3.row a3 (cap - (k)) (by rw [← HDL.out]; rfl) (by rw [← HDL.out]; exact nl3) (by rw [← HDL.out]; exact sl3) hll hlo3 ?_; intro a4 c4 n4 w7 HN7 hown7 hg7; have S4 := S3.app HN7.out hown7 hg7; clear hown7 hg7 hcO hfO hlo3 hrunD; have hcO := S4.out.cell; have hfO := S4.out.frozen)
        have HY := Lib.hid (S4.fin (.slice a4 n4 c4) (.slice none 0 0) (.int .i64 0))
        generalize (((w7.setCell ⟨w.heap.size + 1, 0, none⟩ (.slice a4 n4 c4)).setCell ⟨w.heap.size + 1, 1, none⟩ (.slice none 0 0)).setCell ⟨w.heap.size + 1, 2, none⟩ (.int .i64 0)) = w9 at *
        have hc9 := HY.out.1.1.cell
        refine bodyPost_ret (v := goV (.slice a4 n4 c4) (.slice none 0 0) 0) (by simp [results, Try.results96, go_sem, goV, hc9]) rfl ?_
        rw [HR.out]
        have hrib : ([] ++ l.take k ++ [x]) ++ l.drop (k) = insL LtG x l := by rw [HEq.out, HKK.out, List.drop_length, List.take_length]; simp
        rw [hrib] at HY HN7
        refine ⟨_, _, rfl, ?_, World.ownsRow_nil _ _ _ _, apart_Gp _, HY.out.1.2⟩
        exact HY.out.2
end Go.Proofs.Ytmkoppbbenombaa
