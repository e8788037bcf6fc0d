/- spec.l06Put: the model puts an element into a sorted list. -/
import Derived.Test.YtmkoppbbenombaaTkT
import Derived.Test.YtmkoppbbenombaaMg
import Derived.Test.YtmkoppbbenombaaCuM
namespace Go.Proofs.Ytmkoppbbenombaa
open Go.RowKit
abbrev o4edfa_0 : Oper := { dst := some 13, op := Op.move (Operand.tmp 8), type := 3, pos := "l06_rib.go:41", after := #[], guard := none }
abbrev o4edfa_1 : Oper := { dst := some 14, op := Op.move (Operand.tmp 0), type := 25, pos := "l06_rib.go:41", after := #[], guard := none }
abbrev o4edfa_2 : Oper := { dst := some 15, op := Op.call { callee := Callee.builtin Builtin.len, args := #[Operand.tmp 14], argTypes := #[25] }, type := 3, pos := "l06_rib.go:41", after := #[{ on := 1, ground := Ground.data }], guard := none }
abbrev o4edfa_3 : Oper := { dst := some 16, op := Op.binOp BinOp.lss 3 (Operand.tmp 13) (Operand.tmp 15) 3, type := 4, pos := "l06_rib.go:41", after := #[{ on := 0, ground := Ground.data }, { on := 2, ground := Ground.data }], guard := none }
abbrev o4edfa_4 : Oper := { dst := some 17, op := Op.move (Operand.tmp 16), type := 4, pos := "l06_rib.go:41", after := #[{ on := 3, ground := Ground.data }], guard := none }
abbrev o4edfa_5 : Oper := { dst := some 18, op := Op.move (Operand.tmp 0), type := 25, pos := "l06_rib.go:41", after := #[{ on := 4, ground := Ground.guard }], guard := some (4, true) }
abbrev o4edfa_6 : Oper := { dst := some 19, op := Op.move (Operand.tmp 8), type := 3, pos := "l06_rib.go:41", after := #[{ on := 4, ground := Ground.guard }], guard := some (4, true) }
abbrev o4edfa_7 : Oper := { dst := some 20, op := Op.indexAddr 25 (Operand.tmp 18) (Operand.tmp 19), type := 0, pos := "l06_rib.go:41", after := #[{ on := 5, ground := Ground.data }, { on := 6, ground := Ground.data }, { on := 4, ground := Ground.guard }], guard := some (4, true) }
abbrev o4edfa_8 : Oper := { dst := some 21, op := Op.load 77 (Operand.tmp 20), type := 77, pos := "l06_rib.go:41", after := #[{ on := 7, ground := Ground.data }, { on := 4, ground := Ground.guard }], guard := some (4, true) }
abbrev o4edfa_9 : Oper := { dst := some 22, op := Op.load 77 (Operand.tmp 7), type := 77, pos := "l06_rib.go:41", after := #[{ on := 4, ground := Ground.guard }], guard := some (4, true) }
abbrev o4edfa_10 : Oper := { dst := some 23, op := Op.call { callee := Callee.value (Operand.func 64), args := #[Operand.tmp 21, Operand.tmp 22], argTypes := #[77, 77] }, type := 4, pos := "l06_rib.go:41", after := #[{ on := 8, ground := Ground.data }, { on := 9, ground := Ground.data }, { on := 4, ground := Ground.chain }, { on := 4, ground := Ground.guard }], guard := some (4, true) }
abbrev o4edfa_11 : Oper := { dst := some 24, op := Op.pick (Operand.tmp 17) (Operand.tmp 23) (Operand.const (Value.bool false)), type := 4, pos := "l06_rib.go:41", after := #[{ on := 4, ground := Ground.data }, { on := 10, ground := Ground.data }], guard := none }
abbrev o4edfa_12 : Oper := { dst := some 36, op := Op.move (Operand.tmp 8), type := 3, pos := "l06_rib.go:46", after := #[], guard := none }
abbrev o4edfa_13 : Oper := { dst := some 37, op := Op.move (Operand.tmp 0), type := 25, pos := "l06_rib.go:46", after := #[], guard := none }
abbrev o4edfa_14 : Oper := { dst := some 38, op := Op.call { callee := Callee.builtin Builtin.len, args := #[Operand.tmp 37], argTypes := #[25] }, type := 3, pos := "l06_rib.go:46", after := #[{ on := 1, ground := Ground.data }], guard := none }
abbrev o4edfa_15 : Oper := { dst := some 39, op := Op.binOp BinOp.lss 3 (Operand.tmp 36) (Operand.tmp 38) 3, type := 4, pos := "l06_rib.go:46", after := #[{ on := 0, ground := Ground.data }, { on := 2, ground := Ground.data }], guard := none }
abbrev o4edfa_16 : Oper := { dst := some 40, op := Op.move (Operand.tmp 39), type := 4, pos := "l06_rib.go:46", after := #[{ on := 3, ground := Ground.data }], guard := none }
abbrev o4edfa_17 : Oper := { dst := some 41, op := Op.load 77 (Operand.tmp 7), type := 77, pos := "l06_rib.go:46", after := #[{ on := 4, ground := Ground.guard }], guard := some (4, true) }
abbrev o4edfa_18 : Oper := { dst := some 42, op := Op.move (Operand.tmp 0), type := 25, pos := "l06_rib.go:46", after := #[{ on := 4, ground := Ground.guard }], guard := some (4, true) }
abbrev o4edfa_19 : Oper := { dst := some 43, op := Op.move (Operand.tmp 8), type := 3, pos := "l06_rib.go:46", after := #[{ on := 4, ground := Ground.guard }], guard := some (4, true) }
abbrev o4edfa_20 : Oper := { dst := some 44, op := Op.indexAddr 25 (Operand.tmp 42) (Operand.tmp 43), type := 0, pos := "l06_rib.go:46", after := #[{ on := 6, ground := Ground.data }, { on := 7, ground := Ground.data }, { on := 4, ground := Ground.guard }], guard := some (4, true) }
abbrev o4edfa_21 : Oper := { dst := some 45, op := Op.load 77 (Operand.tmp 44), type := 77, pos := "l06_rib.go:46", after := #[{ on := 8, ground := Ground.data }, { on := 4, ground := Ground.guard }], guard := some (4, true) }
abbrev o4edfa_22 : Oper := { dst := some 46, op := Op.call { callee := Callee.value (Operand.func 64), args := #[Operand.tmp 41, Operand.tmp 45], argTypes := #[77, 77] }, type := 4, pos := "l06_rib.go:46", after := #[{ on := 5, ground := Ground.data }, { on := 9, ground := Ground.data }, { on := 4, ground := Ground.chain }, { on := 4, ground := Ground.guard }], guard := some (4, true) }
abbrev o4edfa_23 : Oper := { dst := some 47, op := Op.unOp UnOp.not 4 (Operand.tmp 46), type := 4, pos := "l06_rib.go:46", after := #[{ on := 10, ground := Ground.data }, { on := 4, ground := Ground.guard }], guard := some (4, true) }
abbrev o4edfa_24 : Oper := { dst := some 48, op := Op.pick (Operand.tmp 40) (Operand.tmp 47) (Operand.const (Value.bool false)), type := 4, pos := "l06_rib.go:46", after := #[{ on := 4, ground := Ground.data }, { on := 11, ground := Ground.data }], guard := none }

instance LtH_dec : DecidableRel LtH := fun a b => by unfold LtH; infer_instance
theorem ordH : OrdOk LtH same := ⟨fun h k => lt_trans h k, fun h => lt_not_same h, fun h k => (by unfold LtH same at *; omega), fun h => same_symm h, fun h k => (by unfold LtH same at *; omega), fun h k => (by unfold LtH same at *; omega)⟩
def putH (x : Hd) (l : List Hd) : Ro := if 60 ≤ l.length ∧ ¬ ∃ y ∈ l, same x y then roIll 9 else ⟨insL LtH x l, [], 0⟩
theorem putH_full {x : Hd} {l : List Hd} (h : 60 ≤ l.length) (h2 : ¬ ∃ y ∈ l, same x y) : putH x l = roIll 9 := by rw [putH, if_pos ⟨h, h2⟩]
theorem putH_new {x : Hd} {l : List Hd} (h : ¬ 60 ≤ l.length) : putH x l = ⟨insL LtH x l, [], 0⟩ := by rw [putH, if_neg (fun e => h e.1)]
theorem putH_hit {x : Hd} {l : List Hd} (h : ∃ y ∈ l, same x y) : putH x l = ⟨insL LtH x l, [], 0⟩ := by rw [putH, if_neg (fun e => e.2 h)]
theorem elem_Pt : Try.prog.elem 25 = 77 := by kernel_rfl
theorem under_Pt : Try.prog.underlying 25 = some (.slice (Try.prog.elem 25)) := by rw [elem_Pt]; exact Try.underlying25
theorem size_Pt (W : World) : (sizeOf (Try.prog.elem 25)).run Try.prog W = .ok 9 W := by
  obtain ⟨i0, z, hi0, hz0, hz1, hz2⟩ := tyH.info
  rw [elem_Pt]
  simp [sizeOf, typeInfo, hi0, hz1]
theorem cutH_Pt (a : Option Addr) (n cap k : Nat) (hk : k ≤ cap) (W : World) : (Instr.slice 25 (.slice a n cap) none (some (.int .i64 (k : Int))) none).run Try.prog W = .ok (sliced a 0 k cap 9) W := by
  rw [run_slice_h (P := Try.prog) W 25 a n cap under_Pt .i64 k (by omega) (by omega), size_Pt]
  simp [Result.andThen]
theorem cutL_Pt (a : Option Addr) (n cap k : Nat) (hk : k ≤ n) (W : World) : (Instr.slice 25 (.slice a n cap) (some (.int .i64 (k : Int))) none none).run Try.prog W = .ok (sliced a k n cap 9) W := by
  rw [run_slice_l (P := Try.prog) W 25 a n cap under_Pt .i64 k (by omega) (by omega), size_Pt]
  simp [Result.andThen]
structure PtAt (w wr : World) (x : Hd) (y : Value) (rib : List Hd) : Prop where
  out : Blk wr (w.heap.size + 1) 33 #[.slice none 0 0, .slice none 0 0, .int .i64 0]
  key : Blk wr (w.heap.size + 2) 77 x.ar
  row : wr.ownsRow (w.heap.size + 3) 77 9 y rib.length (rcells Hd.cl rib)
  bel : Below w.heap.size w wr
  low : w.heap.size + 3 ≤ wr.heap.size
section
variable {w wr w5 : World} {x : Hd} {y : Value} {rib rib' : List Hd} {a5 : Option Addr} {n5 k5 : Nat}
theorem PtAt.kept (h : PtAt w wr x y rib) (hb : Below wr.heap.size wr w5) : PtAt w w5 x y rib := ⟨h.out.kept hb, h.key.kept hb, rown_below h.row hb, h.bel.trans (hb.mono h.bel.size), Nat.le_trans h.low hb.size⟩
theorem PtAt.drew (h : PtAt w wr x y rib) : PtAt w wr.drew x y rib := ⟨h.out.drew, h.key.drew, h.row, h.bel.drew, h.low⟩
theorem PtAt.alloc (h : PtAt w wr x y rib) (o : Obj) : PtAt w (wr.alloc o) x y rib := h.kept ((Below.refl _ _).alloc (Nat.le_refl _) o)
theorem PtAt.app (h : PtAt w wr x y rib) (hn5 : n5 = rib'.length) (ho : w5.ownsRow (w.heap.size + 3) 77 9 (.slice a5 n5 k5) n5 (rcells Hd.cl rib')) (hg : wr.grownBy w5 y.ownBlock) : PtAt w w5 x (.slice a5 n5 k5) rib' := by
  have hne : ∀ q, q < w.heap.size + 3 → some q ≠ y.ownBlock := fun q hq e => by
    have := (h.row.lt q e.symm).1
    omega
  refine ⟨h.out.grown hg (hne _ (by omega)), h.key.grown hg (hne _ (by omega)), by rw [← hn5]; exact ho, h.bel.grown hg h.bel.size (fun k hk => by have := (h.row.lt k hk).1; omega), Nat.le_trans h.low hg.size⟩
theorem PtAt.lit (h : PtAt w wr x y rib) : PtAt w (wr.alloc (.cells #[] 77)) x (.slice (some ⟨wr.heap.size, 0, none⟩) 0 0) [] :=
  ⟨h.out.alloc _, h.key.alloc _, World.ownsRow_lit (base := w.heap.size + 3) (e := 77) (size := 9) wr #[] 0 h.low (Nat.zero_le _) rfl, h.bel.alloc h.bel.size _, Nat.le_trans h.low (by simp)⟩
theorem PtAt.fin (h : PtAt w wr x y rib) (v0 v1 v2 : Value) :
    (Blk (((wr.setCell ⟨w.heap.size + 1, 0, none⟩ v0).setCell ⟨w.heap.size + 1, 1, none⟩ v1).setCell ⟨w.heap.size + 1, 2, none⟩ v2) (w.heap.size + 1) 33 #[v0, v1, v2] ∧ Below w.heap.size w (((wr.setCell ⟨w.heap.size + 1, 0, none⟩ v0).setCell ⟨w.heap.size + 1, 1, none⟩ v1).setCell ⟨w.heap.size + 1, 2, none⟩ v2)) ∧
    (((wr.setCell ⟨w.heap.size + 1, 0, none⟩ v0).setCell ⟨w.heap.size + 1, 1, none⟩ v1).setCell ⟨w.heap.size + 1, 2, none⟩ v2).ownsRow w.heap.size 77 9 y rib.length (rcells Hd.cl rib) :=
  ⟨fill3 h.out h.bel (by omega) v0 v1 v2, (rown_mono (B' := w.heap.size) h.row (by omega)).kept (row := some (w.heap.size + 1)) (grownSet (grownSet (grownSet (World.grownBy.refl _ _)))) (.inr (fun e => by have := (h.row.lt _ e).1; omega))⟩
end
theorem apart_Pt (v : Value) : v.ownBlock = none ∨ v.ownBlock ≠ (Value.slice none 0 0).ownBlock := by
  cases h : v.ownBlock with
  | none => exact .inl rfl
  | some k => exact .inr (by simp [Value.ownBlock])
set_option maxRecDepth 100000 in
set_option maxHeartbeats 16000000 in
theorem specPutIn_any (l : List Hd) (v : Value) (p : Int) (r : Rt) (w : World) (h : HdsAt w v l) (hc : NcOk v) (hn : l.length ≤ 60) (hpw : l.Pairwise LtH) :
    Calls Try.prog 71 #[v, .int .i64 p, r.val] w (RoPost (putH (⟨p, false, r⟩ : Hd) l) w) := by
  obtain ⟨x, hx⟩ : ∃ x : Hd, x = (⟨p, false, r⟩ : Hd) := ⟨_, rfl⟩
  rw [← hx]
  have HE1 := Lib.hid (fun (hb : ∀ j (h : j < l.length), LtH l[j] x) => insL_end (lt := LtH) x l hb)
  have HE2 := Lib.hid (fun (k : Nat) (hk : k < l.length) hb h1 h2 => insL_new (lt := LtH) x l k hk hb h1 h2)
  have HE3 := Lib.hid (fun (k : Nat) (hk : k < l.length) hb h1 h2 => insL_hit (lt := LtH) x l k hk hb h1 h2)
  have HN1 := Lib.hid (fun (k : Nat) (hb : ∀ j (h : j < l.length), j < k → LtH l[j] x) (ha : ∀ h : k < l.length, LtH x l[k]) => hit_not ordH hpw hb ha)
  have HN2 := Lib.hid (fun (k : Nat) (hk : k < l.length) (h1 : ¬ LtH l[k] x) (h2 : ¬ LtH x l[k]) => hit_at ordH hk h1 h2)
  have HP1 := Lib.hid (fun h h2 => putH_full (x := x) (l := l) h h2)
  have HP2 := Lib.hid (fun h => putH_new (x := x) (l := l) h)
  have HP3 := Lib.hid (fun h => putH_hit (x := x) (l := l) h)
  have HIll := Lib.hid (specIll6_any 9)
  unfold roV at HIll
  generalize putH x l = S at *
  have HLe := Lib.hid (fun (a b : Hd) => less_iff a b)
  obtain ⟨a, cap, rfl, h⟩ := h
  rw [List.length_map] at *
  have HSl : Hid (∀ W' : World, Below w.heap.size w W' → SlAt W' 9 (.slice a l.length cap) (l.map Hd.cl)) := Lib.hid (fun W' hb => SlAt.kept ⟨a, cap, by rw [List.length_map], h⟩ hb)
  have HH := Lib.hid h
  have HNc := Lib.hid hc
  have HCap := Lib.hid ((hc _ _ _ rfl).2)
  clear h hc hpw
  unfold Rt.val rtV
  obtain ⟨W0, hW0⟩ : ∃ W, W = ((w.alloc (.cells #[.int .i64 r.kind, .int .i64 r.vni, .int .i64 r.mac, .int .i64 r.ip, .int .i64 r.org, .int .i64 r.seq, .bool r.st] 35)).alloc (.cells #[.slice none 0 0, .slice none 0 0, .int .i64 0] 33)).alloc (.cells #[.int .i64 p, .bool false, .int .i64 r.kind, .int .i64 r.vni, .int .i64 r.mac, .int .i64 r.ip, .int .i64 r.org, .int .i64 r.seq, .bool r.st] 77) := ⟨_, rfl⟩
  have A0 := (((MemAt.start w).new 35 #[.int .i64 r.kind, .int .i64 r.vni, .int .i64 r.mac, .int .i64 r.ip, .int .i64 r.org, .int .i64 r.seq, .bool r.st]).new 33 #[.slice none 0 0, .slice none 0 0, .int .i64 0]).new 77 #[.int .i64 p, .bool false, .int .i64 r.kind, .int .i64 r.vni, .int .i64 r.mac, .int .i64 r.ip, .int .i64 r.org, .int .i64 r.seq, .bool r.st]
  simp only [World.size_alloc] at A0
  rw [← hW0] at A0
  have hsz0 : W0.heap.size = w.heap.size + 3 := by rw [hW0]; simp
  have HA0 : Hid (PtAt w W0 x (.slice none 0 0) []) := Lib.hid ⟨A0.b1, by rw [hx]; exact A0.b0, World.ownsRow_nil _ _ _ _, A0.bel, by omega⟩
  clear A0 hsz0
  obtain ⟨n, hnn⟩ : ∃ n, n = l.length := ⟨_, rfl⟩
  rw [← hnn] at hn HP1 HP2 HSl HNc HCap ⊢
  have HN := Lib.hid hnn
  clear hnn
  go_enter Try.func71, Try.ntmps71
  go_upto_region 2 with fail
  rw [← hW0]
  clear hW0 hx
  go_wp2_with fail
  go_loopw [8] (fun u wr => ∃ k : Nat, k ≤ n ∧ u = .int .i64 (k : Int) ∧ Hid (∀ j (h : j < l.length), j < k → LtH l[j] x) ∧ Hid (PtAt w wr x (.slice none 0 0) [])) (fun u _ => n - (intOf u).toNat)
  case atStart => exact ⟨0, Nat.zero_le _, rfl, Lib.hid (fun j h hj => by omega), HA0⟩
  case round =>
    clear HA0
    obtain ⟨k, hk, rfl, HK, HA⟩ := hrel
    by_cases hlt : k < n
    · have hir : k < l.length := by rw [← HN.out]; exact hlt
      have hne : l.map Hd.cl ≠ [] := fun e => by
        have := congrArg List.length e
        rw [List.length_map] at this
        simp at this
        rw [this] at hir
        simp at hir
      obtain ⟨b, off, ha, hb, HE⟩ := HH.out hne
      subst ha
      have hl1 : (k : Int) < n := by omega
      have S0 := HA.out.drew
      have HEi := Lib.hid (fun (W' : World) (hS : Below w.heap.size w W') => (elemsB HE hS hb).hd k hir)
      have HC := Lib.hid (specLess_any l[k] x)
      have HC2 := Lib.hid (specLess_any x l[k])
      have HLk := HLe.out l[k] x
      have HLk2 := HLe.out x l[k]
      have HK1 : Hid (LtH l[k] x → ∀ j (h : j < l.length), j < k + 1 → LtH l[j] x) := Lib.hid (fun hx j h hj => by
        by_cases e : j = k
        · subst e; exact hx
        · exact HK.out j h (by omega))
      have HF2 := Lib.hid (fun h1 h2 => HE2.out k hir HK.out h1 h2)
      have HF3 := Lib.hid (fun h1 h2 => HE3.out k hir HK.out h1 h2)
      have HM1 := Lib.hid (fun (h2 : LtH x l[k]) => HN1.out k HK.out (fun _ => h2))
      have HM2 := Lib.hid (fun h1 h2 => HN2.out k hir h1 h2)
      unfold Hd.val at HC HC2
      clear HE HA HE1 HE2 HE3 HN1 HN2
      generalize l[k] = z at *
      cases hless : lessH z x
      · have hnl : ¬ LtH z x := fun e => by rw [HLk.2 e] at hless; cases hless
        rw [hless] at HC
        clear HK1 hless
        go_wp2_with fail
        refine wp_region_held_drew (S := fun W' => PtAt w W' x _ _) (by kernel_rfl) S0 (fun hHeld => ?_)
        clear hHeld
        refine wpAnyH_take (i := 0) (oi := o4edfa_0) (v := ?vva1) rfl (by kernel_rfl) (by kernel_rfl) (by kernel_rfl) (fun _ _ _ h => h) (Or.inl ⟨by rfl, ?hya1⟩) S0 ?resta1
        case hya1 => (intro w hSw; go_simp <;> with_reducible rfl)
        try simp only [Act.put, List.setIfInBounds_toArray, List.set_cons_zero, List.set_cons_succ]
        refine wpAnyH_take (i := 1) (oi := o4edfa_1) (v := ?vva2) rfl (by kernel_rfl) (by kernel_rfl) (by kernel_rfl) (fun _ _ _ h => h) (Or.inl ⟨by rfl, ?hya2⟩) S0 ?resta2
        case hya2 => (intro w hSw; go_simp <;> with_reducible rfl)
        try simp only [Act.put, List.setIfInBounds_toArray, List.set_cons_zero, List.set_cons_succ]
        refine wpAnyH_take (i := 2) (oi := o4edfa_2) (v := ?vva3) rfl (by kernel_rfl) (by kernel_rfl) (by kernel_rfl) (fun _ _ _ h => h) (Or.inl ⟨by rfl, ?hya3⟩) S0 ?resta3
        case hya3 => (intro w hSw; go_simp <;> with_reducible rfl)
        try simp only [Act.put, List.setIfInBounds_toArray, List.set_cons_zero, List.set_cons_succ]
        refine wpAnyH_take (i := 3) (oi := o4edfa_3) (v := ?vva4) rfl (by kernel_rfl) (by kernel_rfl) (by kernel_rfl) (fun _ _ _ h => h) (Or.inl ⟨by rfl, ?hya4⟩) S0 ?resta4
        case hya4 => (intro w hSw; go_simp <;> with_reducible rfl)
        try simp only [Act.put, List.setIfInBounds_toArray, List.set_cons_zero, List.set_cons_succ]
        refine wpAnyH_take (i := 4) (oi := o4edfa_4) (v := ?vva5) rfl (by kernel_rfl) (by kernel_rfl) (by kernel_rfl) (fun _ _ _ h => h) (Or.inl ⟨by rfl, ?hya5⟩) S0 ?resta5
        case hya5 => (intro w hSw; go_simp <;> with_reducible rfl)
        try simp only [Act.put, List.setIfInBounds_toArray, List.set_cons_zero, List.set_cons_succ]
        refine wpAnyH_take (i := 5) (oi := o4edfa_5) (v := ?vva6) rfl (by kernel_rfl) (by kernel_rfl) (by kernel_rfl) (fun _ _ _ h => h) (Or.inl ⟨by rfl, ?hya6⟩) S0 ?resta6
        case hya6 => (intro w hSw; go_simp <;> with_reducible rfl)
        try simp only [Act.put, List.setIfInBounds_toArray, List.set_cons_zero, List.set_cons_succ]
        refine wpAnyH_take (i := 6) (oi := o4edfa_6) (v := ?vva7) rfl (by kernel_rfl) (by kernel_rfl) (by kernel_rfl) (fun _ _ _ h => h) (Or.inl ⟨by rfl, ?hya7⟩) S0 ?resta7
        case hya7 => (intro w hSw; go_simp <;> with_reducible rfl)
        try simp only [Act.put, List.setIfInBounds_toArray, List.set_cons_zero, List.set_cons_succ]
        refine wpAnyH_take (i := 7) (oi := o4edfa_7) (v := ?vva8) rfl (by kernel_rfl) (by kernel_rfl) (by kernel_rfl) (fun _ _ _ h => h) (Or.inl ⟨by rfl, ?hya8⟩) S0 ?resta8
        case hya8 => (intro w hSw; go_simp <;> with_reducible rfl)
        try simp only [Act.put, List.setIfInBounds_toArray, List.set_cons_zero, List.set_cons_succ]
        refine wpAnyH_take (i := 8) (oi := o4edfa_8) (v := ?vva9) rfl (by kernel_rfl) (by kernel_rfl) (by kernel_rfl) (fun _ _ _ h => h) (Or.inl ⟨by rfl, ?hya9⟩) S0 ?resta9
        case hya9 => (intro w hSw; obtain ⟨p0, p1, p2, p3, p4, p5, p6, p7, p8⟩ := HEi.out _ hSw.bel; have hcx := hSw.key.cell; unfold Hd.ar at hcx;go_simp <;> with_reducible rfl)
        try simp only [Act.put, List.setIfInBounds_toArray, List.set_cons_zero, List.set_cons_succ]
        refine wpAnyH_take (i := 9) (oi := o4edfa_9) (v := ?vva10) rfl (by kernel_rfl) (by kernel_rfl) (by kernel_rfl) (fun _ _ _ h => h) (Or.inl ⟨by rfl, ?hya10⟩) S0 ?resta10
        case hya10 => (intro w hSw; obtain ⟨p0, p1, p2, p3, p4, p5, p6, p7, p8⟩ := HEi.out _ hSw.bel; have hcx := hSw.key.cell; unfold Hd.ar at hcx;go_simp <;> with_reducible rfl)
        try simp only [Act.put, List.setIfInBounds_toArray, List.set_cons_zero, List.set_cons_succ]
        refine wpAnyH_ready (rs := [10]) (by kernel_rfl) (by simp) ?_
        refine AllReadyH.cons (o := o4edfa_10) rfl (fun K hK => ?_) AllReadyH.nil
        go_simp
        refine (HC.out _).mono ?_
        rintro e w1 ⟨rfl, hb1⟩
        replace S0 := S0.kept hb1
        clear hb1
        refine hK.out _ _ S0 (fun hHeld => ?_)
        clear hK K hHeld
        try simp only [Act.put, List.setIfInBounds_toArray, List.set_cons_zero, List.set_cons_succ]
        refine wpAnyH_take (i := 11) (oi := o4edfa_11) (v := ?vva11) rfl (by kernel_rfl) (by kernel_rfl) (by kernel_rfl) (fun _ _ _ h => h) (Or.inl ⟨by rfl, ?hya11⟩) S0 ?resta11
        case hya11 => (intro w hSw; go_simp <;> with_reducible rfl)
        try simp only [Act.put, List.setIfInBounds_toArray, List.set_cons_zero, List.set_cons_succ]
        refine wpAnyH_done (by kernel_rfl) ?_ _
        go_upto_region 5 with fail
        have hbT := S0.bel
        obtain ⟨a1, e1, sl1, nl1⟩ := cut_take (HSl.out _ S0.lit.bel) HNc.out k hk
        have hrunT : ∀ W : World, (Instr.slice 25 (.slice (some ⟨b, off, none⟩) n cap) none (some (.int .i64 (k : Int))) none).run Try.prog W = .ok (.slice a1 k cap) W := fun W => by rw [cutH_Pt _ n cap k (Nat.le_trans hk HCap.out) W, e1]
        have HKL : Hid (k = (l.take k).length) := Lib.hid (by rw [List.length_take]; have := HN.out; omega)
        have S1 := S0.lit
        have hlo1 := S1.low
        clear e1 hbT S0
        go_upto_region 6 with (at_builtin; refine wpList_append_slice Hd.cl_len Hd.cl_one1 tyH _ rfl _ _ rfl (w.heap.size + 3) _ [] (l.take k) rfl S1.row a1 cap (by rw [← HKL.out]; rfl) (by rw [← HKL.out]; exact nl1) (by rw [← HKL.out]; exact sl1) (by rw [← HKL.out]; simp; omega) hlo1 ?_; intro a' c' n' w5 HN5 hown5 hg5; have S2 := S1.app HN5.out hown5 hg5; clear hown5 hg5 S1 hlo1 hrunT)
        have hcx := S2.key.cell
        unfold Hd.ar at hcx
        have hlo2 := S2.low
        go_upto_region 7 with (at_builtin; refine wpList_append_row Hd.cl_len Hd.cl_one1 tyH _ rfl _ _ rfl (w.heap.size + 3) _ ([] ++ l.take k) x rfl (S2.row.alloc _) ⟨w5.heap.size, 0, none⟩ rfl (lit_cells w5 _ _ x rfl) (by simp; omega) (by simp; omega) ?_; intro a2 c2 n2 w6 HN6 hown6 hg6; have S3 := (S2.alloc (.cells #[.int .i64 x.p, .bool x.s, .int .i64 x.r.kind, .int .i64 x.r.vni, .int .i64 x.r.mac, .int .i64 x.r.ip, .int .i64 x.r.org, .int .i64 x.r.seq, .bool x.r.st] 77)).app HN6.out hown6 hg6; clear hown6 hg6 S2 hlo2 hcx)
        have S0 := S3.drew
        clear S3
        cases hless2 : lessH x z
        · have hnl2 : ¬ LtH x z := fun e => by rw [HLk2.2 e] at hless2; cases hless2
          rw [hless2] at HC2
          have HR := Lib.hid (HP3.out (HM2.out hnl hnl2))
          have HEq := Lib.hid (HF3.out hnl hnl2)
          clear HC hless2
          refine wp_region_held_drew (S := fun W' => PtAt w W' x _ _) (by kernel_rfl) S0 (fun hHeld => ?_)
          clear hHeld
          refine wpAnyH_take (i := 0) (oi := o4edfa_12) (v := ?vvd1) rfl (by kernel_rfl) (by kernel_rfl) (by kernel_rfl) (fun _ _ _ h => h) (Or.inl ⟨by rfl, ?hyd1⟩) S0 ?restd1
          case hyd1 => (intro w hSw; go_simp <;> with_reducible rfl)
          try simp only [Act.put, List.setIfInBounds_toArray, List.set_cons_zero, List.set_cons_succ]
          refine wpAnyH_take (i := 1) (oi := o4edfa_13) (v := ?vvd2) rfl (by kernel_rfl) (by kernel_rfl) (by kernel_rfl) (fun _ _ _ h => h) (Or.inl ⟨by rfl, ?hyd2⟩) S0 ?restd2
          case hyd2 => (intro w hSw; go_simp <;> with_reducible rfl)
          try simp only [Act.put, List.setIfInBounds_toArray, List.set_cons_zero, List.set_cons_succ]
          refine wpAnyH_take (i := 2) (oi := o4edfa_14) (v := ?vvd3) rfl (by kernel_rfl) (by kernel_rfl) (by kernel_rfl) (fun _ _ _ h => h) (Or.inl ⟨by rfl, ?hyd3⟩) S0 ?restd3
          case hyd3 => (intro w hSw; go_simp <;> with_reducible rfl)
          try simp only [Act.put, List.setIfInBounds_toArray, List.set_cons_zero, List.set_cons_succ]
          refine wpAnyH_take (i := 3) (oi := o4edfa_15) (v := ?vvd4) rfl (by kernel_rfl) (by kernel_rfl) (by kernel_rfl) (fun _ _ _ h => h) (Or.inl ⟨by rfl, ?hyd4⟩) S0 ?restd4
          case hyd4 => (intro w hSw; go_simp <;> with_reducible rfl)
          try simp only [Act.put, List.setIfInBounds_toArray, List.set_cons_zero, List.set_cons_succ]
          refine wpAnyH_take (i := 4) (oi := o4edfa_16) (v := ?vvd5) rfl (by kernel_rfl) (by kernel_rfl) (by kernel_rfl) (fun _ _ _ h => h) (Or.inl ⟨by rfl, ?hyd5⟩) S0 ?restd5
          case hyd5 => (intro w hSw; go_simp <;> with_reducible rfl)
          try simp only [Act.put, List.setIfInBounds_toArray, List.set_cons_zero, List.set_cons_succ]
          refine wpAnyH_take (i := 5) (oi := o4edfa_17) (v := ?vvd6) rfl (by kernel_rfl) (by kernel_rfl) (by kernel_rfl) (fun _ _ _ h => h) (Or.inl ⟨by rfl, ?hyd6⟩) S0 ?restd6
          case hyd6 => (intro w hSw; obtain ⟨p0, p1, p2, p3, p4, p5, p6, p7, p8⟩ := HEi.out _ hSw.bel; have hcx := hSw.key.cell; unfold Hd.ar at hcx;go_simp <;> with_reducible rfl)
          try simp only [Act.put, List.setIfInBounds_toArray, List.set_cons_zero, List.set_cons_succ]
          refine wpAnyH_take (i := 6) (oi := o4edfa_18) (v := ?vvd7) rfl (by kernel_rfl) (by kernel_rfl) (by kernel_rfl) (fun _ _ _ h => h) (Or.inl ⟨by rfl, ?hyd7⟩) S0 ?restd7
          case hyd7 => (intro w hSw; go_simp <;> with_reducible rfl)
          try simp only [Act.put, List.setIfInBounds_toArray, List.set_cons_zero, List.set_cons_succ]
          refine wpAnyH_take (i := 7) (oi := o4edfa_19) (v := ?vvd8) rfl (by kernel_rfl) (by kernel_rfl) (by kernel_rfl) (fun _ _ _ h => h) (Or.inl ⟨by rfl, ?hyd8⟩) S0 ?restd8
          case hyd8 => (intro w hSw; go_simp <;> with_reducible rfl)
          try simp only [Act.put, List.setIfInBounds_toArray, List.set_cons_zero, List.set_cons_succ]
          refine wpAnyH_take (i := 8) (oi := o4edfa_20) (v := ?vvd9) rfl (by kernel_rfl) (by kernel_rfl) (by kernel_rfl) (fun _ _ _ h => h) (Or.inl ⟨by rfl, ?hyd9⟩) S0 ?restd9
          case hyd9 => (intro w hSw; go_simp <;> with_reducible rfl)
          try simp only [Act.put, List.setIfInBounds_toArray, List.set_cons_zero, List.set_cons_succ]
          refine wpAnyH_take (i := 9) (oi := o4edfa_21) (v := ?vvd10) rfl (by kernel_rfl) (by kernel_rfl) (by kernel_rfl) (fun _ _ _ h => h) (Or.inl ⟨by rfl, ?hyd10⟩) S0 ?restd10
          case hyd10 => (intro w hSw; obtain ⟨p0, p1, p2, p3, p4, p5, p6, p7, p8⟩ := HEi.out _ hSw.bel; have hcx := hSw.key.cell; unfold Hd.ar at hcx;go_simp <;> with_reducible rfl)
          try simp only [Act.put, List.setIfInBounds_toArray, List.set_cons_zero, List.set_cons_succ]
          refine wpAnyH_ready (rs := [10]) (by kernel_rfl) (by simp) ?_
          refine AllReadyH.cons (o := o4edfa_22) rfl (fun K hK => ?_) AllReadyH.nil
          go_simp
          refine (HC2.out _).mono ?_
          rintro e w8 ⟨rfl, hb1⟩
          replace S0 := S0.kept hb1
          clear hb1
          refine hK.out _ _ S0 (fun hHeld => ?_)
          clear hK K hHeld
          try simp only [Act.put, List.setIfInBounds_toArray, List.set_cons_zero, List.set_cons_succ]
          refine wpAnyH_take (i := 11) (oi := o4edfa_23) (v := ?vvd11) rfl (by kernel_rfl) (by kernel_rfl) (by kernel_rfl) (fun _ _ _ h => h) (Or.inl ⟨by rfl, ?hyd11⟩) S0 ?restd11
          case hyd11 => (intro w hSw; go_simp <;> with_reducible rfl)
          try simp only [Act.put, List.setIfInBounds_toArray, List.set_cons_zero, List.set_cons_succ]
          refine wpAnyH_take (i := 12) (oi := o4edfa_24) (v := ?vvd12) rfl (by kernel_rfl) (by kernel_rfl) (by kernel_rfl) (fun _ _ _ h => h) (Or.inl ⟨by rfl, ?hyd12⟩) S0 ?restd12
          case hyd12 => (intro w hSw; go_simp <;> with_reducible rfl)
          try simp only [Act.put, List.setIfInBounds_toArray, List.set_cons_zero, List.set_cons_succ]
          refine wpAnyH_done (by kernel_rfl) ?_ _
          have S3 := S0
          clear S0
          have hw1 : IntKind.i64.wrap ((k : Int) + 1) = (k : Int) + 1 := by simp only [IntKind.wrap_i64]; omega
          go_upto_region 8 with fail
          obtain ⟨a3, e3, sl3, nl3⟩ := cut_drop (HSl.out _ S3.bel) HNc.out (k + 1) (by omega)
          have hrunD : ∀ W : World, (Instr.slice 25 (.slice (some ⟨b, off, none⟩) n cap) (some (.int .i64 ((k : Int) + 1))) none none).run Try.prog W = .ok (.slice a3 (n - (k + 1)) (cap - (k + 1))) W := fun W => by rw [show ((k : Int) + 1) = ((k + 1 : Nat) : Int) by omega, cutL_Pt _ n cap (k + 1) (by omega) W, e3]
          have HDL : Hid (n - (k + 1) = (l.drop (k + 1)).length) := Lib.hid (by rw [List.length_drop, ← HN.out])
          have hlo3 := S3.low
          have hcO := S3.out.cell
          have hfO := S3.out.frozen
          clear e3
          have hll : ([] ++ l.take k ++ [x]).length + (l.drop (k + 1)).length ≤ 1100000 := by rw [← HDL.out]; simp; omega
          go_wp2_with (at_builtin; refine wpList_append_slice Hd.cl_len Hd.cl_one1 tyH _ rfl _ _ rfl (w.heap.size + 3) _ ([] ++ l.take k ++ [x]) (l.drop (k + 1)) rfl S3.row a3 (cap - (k + 1)) (by rw [← HDL.out]; rfl) (by rw [← HDL.out]; exact nl3) (by rw [← HDL.out]; exact sl3) hll hlo3 ?_; intro a4 c4 n4 w7 HN7 hown7 hg7; have S4 := S3.app HN7.out hown7 hg7; clear hown7 hg7 hcO hfO hlo3 hrunD; have hcO := S4.out.cell; have hfO := S4.out.frozen)
          have HY := Lib.hid (S4.fin (.slice a4 n4 c4) (.slice none 0 0) (.int .i64 0))
          generalize (((w7.setCell ⟨w.heap.size + 1, 0, none⟩ (.slice a4 n4 c4)).setCell ⟨w.heap.size + 1, 1, none⟩ (.slice none 0 0)).setCell ⟨w.heap.size + 1, 2, none⟩ (.int .i64 0)) = w9 at *
          have hc9 := HY.out.1.1.cell
          refine bodyPost_ret (v := roV (.slice a4 n4 c4) (.slice none 0 0) 0) (by simp [results, Try.results71, go_sem, roV, hc9]) rfl ?_
          rw [HR.out]
          have hrib : ([] ++ l.take k ++ [x]) ++ l.drop (k + 1) = insL LtH x l := by rw [HEq.out]; simp
          rw [hrib] at HY HN7
          refine ⟨_, _, rfl, ?_, World.ownsRow_nil _ _ _ _, apart_Pt _, HY.out.1.2⟩
          exact HY.out.2
        · have hl2 : LtH x z := HLk2.1 hless2
          rw [hless2] at HC2
          have HEq := Lib.hid (HF2.out hnl hl2)
          have HNo := Lib.hid (HM1.out hl2)
          clear HC hless2
          refine wp_region_held_drew (S := fun W' => PtAt w W' x _ _) (by kernel_rfl) S0 (fun hHeld => ?_)
          clear hHeld
          refine wpAnyH_take (i := 0) (oi := o4edfa_12) (v := ?vve1) rfl (by kernel_rfl) (by kernel_rfl) (by kernel_rfl) (fun _ _ _ h => h) (Or.inl ⟨by rfl, ?hye1⟩) S0 ?reste1
          case hye1 => (intro w hSw; go_simp <;> with_reducible rfl)
          try simp only [Act.put, List.setIfInBounds_toArray, List.set_cons_zero, List.set_cons_succ]
          refine wpAnyH_take (i := 1) (oi := o4edfa_13) (v := ?vve2) rfl (by kernel_rfl) (by kernel_rfl) (by kernel_rfl) (fun _ _ _ h => h) (Or.inl ⟨by rfl, ?hye2⟩) S0 ?reste2
          case hye2 => (intro w hSw; go_simp <;> with_reducible rfl)
          try simp only [Act.put, List.setIfInBounds_toArray, List.set_cons_zero, List.set_cons_succ]
          refine wpAnyH_take (i := 2) (oi := o4edfa_14) (v := ?vve3) rfl (by kernel_rfl) (by kernel_rfl) (by kernel_rfl) (fun _ _ _ h => h) (Or.inl ⟨by rfl, ?hye3⟩) S0 ?reste3
          case hye3 => (intro w hSw; go_simp <;> with_reducible rfl)
          try simp only [Act.put, List.setIfInBounds_toArray, List.set_cons_zero, List.set_cons_succ]
          refine wpAnyH_take (i := 3) (oi := o4edfa_15) (v := ?vve4) rfl (by kernel_rfl) (by kernel_rfl) (by kernel_rfl) (fun _ _ _ h => h) (Or.inl ⟨by rfl, ?hye4⟩) S0 ?reste4
          case hye4 => (intro w hSw; go_simp <;> with_reducible rfl)
          try simp only [Act.put, List.setIfInBounds_toArray, List.set_cons_zero, List.set_cons_succ]
          refine wpAnyH_take (i := 4) (oi := o4edfa_16) (v := ?vve5) rfl (by kernel_rfl) (by kernel_rfl) (by kernel_rfl) (fun _ _ _ h => h) (Or.inl ⟨by rfl, ?hye5⟩) S0 ?reste5
          case hye5 => (intro w hSw; go_simp <;> with_reducible rfl)
          try simp only [Act.put, List.setIfInBounds_toArray, List.set_cons_zero, List.set_cons_succ]
          refine wpAnyH_take (i := 5) (oi := o4edfa_17) (v := ?vve6) rfl (by kernel_rfl) (by kernel_rfl) (by kernel_rfl) (fun _ _ _ h => h) (Or.inl ⟨by rfl, ?hye6⟩) S0 ?reste6
          case hye6 => (intro w hSw; obtain ⟨p0, p1, p2, p3, p4, p5, p6, p7, p8⟩ := HEi.out _ hSw.bel; have hcx := hSw.key.cell; unfold Hd.ar at hcx;go_simp <;> with_reducible rfl)
          try simp only [Act.put, List.setIfInBounds_toArray, List.set_cons_zero, List.set_cons_succ]
          refine wpAnyH_take (i := 6) (oi := o4edfa_18) (v := ?vve7) rfl (by kernel_rfl) (by kernel_rfl) (by kernel_rfl) (fun _ _ _ h => h) (Or.inl ⟨by rfl, ?hye7⟩) S0 ?reste7
          case hye7 => (intro w hSw; go_simp <;> with_reducible rfl)
          try simp only [Act.put, List.setIfInBounds_toArray, List.set_cons_zero, List.set_cons_succ]
          refine wpAnyH_take (i := 7) (oi := o4edfa_19) (v := ?vve8) rfl (by kernel_rfl) (by kernel_rfl) (by kernel_rfl) (fun _ _ _ h => h) (Or.inl ⟨by rfl, ?hye8⟩) S0 ?reste8
          case hye8 => (intro w hSw; go_simp <;> with_reducible rfl)
          try simp only [Act.put, List.setIfInBounds_toArray, List.set_cons_zero, List.set_cons_succ]
          refine wpAnyH_take (i := 8) (oi := o4edfa_20) (v := ?vve9) rfl (by kernel_rfl) (by kernel_rfl) (by kernel_rfl) (fun _ _ _ h => h) (Or.inl ⟨by rfl, ?hye9⟩) S0 ?reste9
          case hye9 => (intro w hSw; go_simp <;> with_reducible rfl)
          try simp only [Act.put, List.setIfInBounds_toArray, List.set_cons_zero, List.set_cons_succ]
          refine wpAnyH_take (i := 9) (oi := o4edfa_21) (v := ?vve10) rfl (by kernel_rfl) (by kernel_rfl) (by kernel_rfl) (fun _ _ _ h => h) (Or.inl ⟨by rfl, ?hye10⟩) S0 ?reste10
          case hye10 => (intro w hSw; obtain ⟨p0, p1, p2, p3, p4, p5, p6, p7, p8⟩ := HEi.out _ hSw.bel; have hcx := hSw.key.cell; unfold Hd.ar at hcx;go_simp <;> with_reducible rfl)
          try simp only [Act.put, List.setIfInBounds_toArray, List.set_cons_zero, List.set_cons_succ]
          refine wpAnyH_ready (rs := [10]) (by kernel_rfl) (by simp) ?_
          refine AllReadyH.cons (o := o4edfa_22) rfl (fun K hK => ?_) AllReadyH.nil
          go_simp
          refine (HC2.out _).mono ?_
          rintro e w8 ⟨rfl, hb1⟩
          replace S0 := S0.kept hb1
          clear hb1
          refine hK.out _ _ S0 (fun hHeld => ?_)
          clear hK K hHeld
          try simp only [Act.put, List.setIfInBounds_toArray, List.set_cons_zero, List.set_cons_succ]
          refine wpAnyH_take (i := 11) (oi := o4edfa_23) (v := ?vve11) rfl (by kernel_rfl) (by kernel_rfl) (by kernel_rfl) (fun _ _ _ h => h) (Or.inl ⟨by rfl, ?hye11⟩) S0 ?reste11
          case hye11 => (intro w hSw; go_simp <;> with_reducible rfl)
          try simp only [Act.put, List.setIfInBounds_toArray, List.set_cons_zero, List.set_cons_succ]
          refine wpAnyH_take (i := 12) (oi := o4edfa_24) (v := ?vve12) rfl (by kernel_rfl) (by kernel_rfl) (by kernel_rfl) (fun _ _ _ h => h) (Or.inl ⟨by rfl, ?hye12⟩) S0 ?reste12
          case hye12 => (intro w hSw; go_simp <;> with_reducible rfl)
          try simp only [Act.put, List.setIfInBounds_toArray, List.set_cons_zero, List.set_cons_succ]
          refine wpAnyH_done (by kernel_rfl) ?_ _
          have S3 := S0
          clear S0
          by_cases hfull : 60 ≤ n
          · have HR := Lib.hid (HP1.out hfull HNo.out)
            have hfz : (60 : Int) ≤ (n : Int) := by omega
            have hcO := S3.out.cell
            have hfO := S3.out.frozen
            go_wp2_with (go_at_call 70; refine (HIll.out _).mono ?_; rintro x1 w7 ⟨rfl, hb7⟩; have S4 := S3.kept hb7; clear hb7 hcO hfO; have hcO := S4.out.cell; have hfO := S4.out.frozen)
            have HY := Lib.hid (S4.fin (.slice none 0 0) (.slice none 0 0) (.int .i64 9))
            generalize (((w7.setCell ⟨w.heap.size + 1, 0, none⟩ (.slice none 0 0)).setCell ⟨w.heap.size + 1, 1, none⟩ (.slice none 0 0)).setCell ⟨w.heap.size + 1, 2, none⟩ (.int .i64 9)) = w9 at *
            have hc9 := HY.out.1.1.cell
            refine bodyPost_ret (v := roV (.slice none 0 0) (.slice none 0 0) 9) (by simp [results, Try.results71, go_sem, roV, hc9]) rfl ?_
            exact RoPost.ill HR.out rfl HY.out.1.2
          · have HR := Lib.hid (HP2.out hfull)
            have hfz : ¬ (60 : Int) ≤ (n : Int) := by omega
            go_upto_region 11 with fail
            obtain ⟨a3, e3, sl3, nl3⟩ := cut_drop (HSl.out _ S3.bel) HNc.out (k) (by omega)
            have hrunD : ∀ W : World, (Instr.slice 25 (.slice (some ⟨b, off, none⟩) n cap) (some (.int .i64 ((k : Int)))) none none).run Try.prog W = .ok (.slice a3 (n - (k)) (cap - (k))) W := fun W => by rw [cutL_Pt _ n cap (k) (by omega) W, e3]
            have HDL : Hid (n - (k) = (l.drop (k)).length) := Lib.hid (by rw [List.length_drop, ← HN.out])
            have hlo3 := S3.low
            have hcO := S3.out.cell
            have hfO := S3.out.frozen
            clear e3
            have hll : ([] ++ l.take k ++ [x]).length + (l.drop (k)).length ≤ 1100000 := by rw [← HDL.out]; simp; omega
            go_wp2_with (at_builtin; refine wpList_append_slice Hd.cl_len Hd.cl_one1 tyH _ rfl _ _ rfl (w.heap.size + 3) _ ([] ++ l.take k ++ [x]) (l.drop (k)) rfl S3.row a3 (cap - (k)) (by rw [← HDL.out]; rfl) (by rw [← HDL.out]; exact nl3) (by rw [← HDL.out]; exact sl3) hll hlo3 ?_; intro a4 c4 n4 w7 HN7 hown7 hg7; have S4 := S3.app HN7.out hown7 hg7; clear hown7 hg7 hcO hfO hlo3 hrunD; have hcO := S4.out.cell; have hfO := S4.out.frozen)
            have HY := Lib.hid (S4.fin (.slice a4 n4 c4) (.slice none 0 0) (.int .i64 0))
            generalize (((w7.setCell ⟨w.heap.size + 1, 0, none⟩ (.slice a4 n4 c4)).setCell ⟨w.heap.size + 1, 1, none⟩ (.slice none 0 0)).setCell ⟨w.heap.size + 1, 2, none⟩ (.int .i64 0)) = w9 at *
            have hc9 := HY.out.1.1.cell
            refine bodyPost_ret (v := roV (.slice a4 n4 c4) (.slice none 0 0) 0) (by simp [results, Try.results71, go_sem, roV, hc9]) rfl ?_
            rw [HR.out]
            have hrib : ([] ++ l.take k ++ [x]) ++ l.drop (k) = insL LtH x l := by rw [HEq.out]; simp
            rw [hrib] at HY HN7
            refine ⟨_, _, rfl, ?_, World.ownsRow_nil _ _ _ _, apart_Pt _, HY.out.1.2⟩
            exact HY.out.2
      · have hl : LtH z x := HLk.1 hless
        rw [hless] at HC
        have HK2 := Lib.hid (HK1.out hl)
        clear HK1 hless HC2 HF2 HF3 HM1 HM2
        go_wp2_with fail
        refine wp_region_held_drew (S := fun W' => PtAt w W' x _ _) (by kernel_rfl) S0 (fun hHeld => ?_)
        clear hHeld
        refine wpAnyH_take (i := 0) (oi := o4edfa_0) (v := ?vvb1) rfl (by kernel_rfl) (by kernel_rfl) (by kernel_rfl) (fun _ _ _ h => h) (Or.inl ⟨by rfl, ?hyb1⟩) S0 ?restb1
        case hyb1 => (intro w hSw; go_simp <;> with_reducible rfl)
        try simp only [Act.put, List.setIfInBounds_toArray, List.set_cons_zero, List.set_cons_succ]
        refine wpAnyH_take (i := 1) (oi := o4edfa_1) (v := ?vvb2) rfl (by kernel_rfl) (by kernel_rfl) (by kernel_rfl) (fun _ _ _ h => h) (Or.inl ⟨by rfl, ?hyb2⟩) S0 ?restb2
        case hyb2 => (intro w hSw; go_simp <;> with_reducible rfl)
        try simp only [Act.put, List.setIfInBounds_toArray, List.set_cons_zero, List.set_cons_succ]
        refine wpAnyH_take (i := 2) (oi := o4edfa_2) (v := ?vvb3) rfl (by kernel_rfl) (by kernel_rfl) (by kernel_rfl) (fun _ _ _ h => h) (Or.inl ⟨by rfl, ?hyb3⟩) S0 ?restb3
        case hyb3 => (intro w hSw; go_simp <;> with_reducible rfl)
        try simp only [Act.put, List.setIfInBounds_toArray, List.set_cons_zero, List.set_cons_succ]
        refine wpAnyH_take (i := 3) (oi := o4edfa_3) (v := ?vvb4) rfl (by kernel_rfl) (by kernel_rfl) (by kernel_rfl) (fun _ _ _ h => h) (Or.inl ⟨by rfl, ?hyb4⟩) S0 ?restb4
        case hyb4 => (intro w hSw; go_simp <;> with_reducible rfl)
        try simp only [Act.put, List.setIfInBounds_toArray, List.set_cons_zero, List.set_cons_succ]
        refine wpAnyH_take (i := 4) (oi := o4edfa_4) (v := ?vvb5) rfl (by kernel_rfl) (by kernel_rfl) (by kernel_rfl) (fun _ _ _ h => h) (Or.inl ⟨by rfl, ?hyb5⟩) S0 ?restb5
        case hyb5 => (intro w hSw; go_simp <;> with_reducible rfl)
        try simp only [Act.put, List.setIfInBounds_toArray, List.set_cons_zero, List.set_cons_succ]
        refine wpAnyH_take (i := 5) (oi := o4edfa_5) (v := ?vvb6) rfl (by kernel_rfl) (by kernel_rfl) (by kernel_rfl) (fun _ _ _ h => h) (Or.inl ⟨by rfl, ?hyb6⟩) S0 ?restb6
        case hyb6 => (intro w hSw; go_simp <;> with_reducible rfl)
        try simp only [Act.put, List.setIfInBounds_toArray, List.set_cons_zero, List.set_cons_succ]
        refine wpAnyH_take (i := 6) (oi := o4edfa_6) (v := ?vvb7) rfl (by kernel_rfl) (by kernel_rfl) (by kernel_rfl) (fun _ _ _ h => h) (Or.inl ⟨by rfl, ?hyb7⟩) S0 ?restb7
        case hyb7 => (intro w hSw; go_simp <;> with_reducible rfl)
        try simp only [Act.put, List.setIfInBounds_toArray, List.set_cons_zero, List.set_cons_succ]
        refine wpAnyH_take (i := 7) (oi := o4edfa_7) (v := ?vvb8) rfl (by kernel_rfl) (by kernel_rfl) (by kernel_rfl) (fun _ _ _ h => h) (Or.inl ⟨by rfl, ?hyb8⟩) S0 ?restb8
        case hyb8 => (intro w hSw; go_simp <;> with_reducible rfl)
        try simp only [Act.put, List.setIfInBounds_toArray, List.set_cons_zero, List.set_cons_succ]
        refine wpAnyH_take (i := 8) (oi := o4edfa_8) (v := ?vvb9) rfl (by kernel_rfl) (by kernel_rfl) (by kernel_rfl) (fun _ _ _ h => h) (Or.inl ⟨by rfl, ?hyb9⟩) S0 ?restb9
        case hyb9 => (intro w hSw; obtain ⟨p0, p1, p2, p3, p4, p5, p6, p7, p8⟩ := HEi.out _ hSw.bel; have hcx := hSw.key.cell; unfold Hd.ar at hcx;go_simp <;> with_reducible rfl)
        try simp only [Act.put, List.setIfInBounds_toArray, List.set_cons_zero, List.set_cons_succ]
        refine wpAnyH_take (i := 9) (oi := o4edfa_9) (v := ?vvb10) rfl (by kernel_rfl) (by kernel_rfl) (by kernel_rfl) (fun _ _ _ h => h) (Or.inl ⟨by rfl, ?hyb10⟩) S0 ?restb10
        case hyb10 => (intro w hSw; obtain ⟨p0, p1, p2, p3, p4, p5, p6, p7, p8⟩ := HEi.out _ hSw.bel; have hcx := hSw.key.cell; unfold Hd.ar at hcx;go_simp <;> with_reducible rfl)
        try simp only [Act.put, List.setIfInBounds_toArray, List.set_cons_zero, List.set_cons_succ]
        refine wpAnyH_ready (rs := [10]) (by kernel_rfl) (by simp) ?_
        refine AllReadyH.cons (o := o4edfa_10) rfl (fun K hK => ?_) AllReadyH.nil
        go_simp
        refine (HC.out _).mono ?_
        rintro e w1 ⟨rfl, hb1⟩
        replace S0 := S0.kept hb1
        clear hb1
        refine hK.out _ _ S0 (fun hHeld => ?_)
        clear hK K hHeld
        try simp only [Act.put, List.setIfInBounds_toArray, List.set_cons_zero, List.set_cons_succ]
        refine wpAnyH_take (i := 11) (oi := o4edfa_11) (v := ?vvb11) rfl (by kernel_rfl) (by kernel_rfl) (by kernel_rfl) (fun _ _ _ h => h) (Or.inl ⟨by rfl, ?hyb11⟩) S0 ?restb11
        case hyb11 => (intro w hSw; go_simp <;> with_reducible rfl)
        try simp only [Act.put, List.setIfInBounds_toArray, List.set_cons_zero, List.set_cons_succ]
        refine wpAnyH_done (by kernel_rfl) ?_ _
        go_wp2_with fail
        go_roundw
        case rel => exact ⟨k + 1, by omega, by simp, HK2, Lib.hid S0⟩
        case measure => simp [intOf]; omega
    · have HIN : Hid (k = n) := Lib.hid (by omega)
      have hl1 : ¬ (k : Int) < n := by omega
      have S0 := HA.out.drew
      have HKK : Hid (k = l.length) := Lib.hid (HIN.out.trans HN.out)
      clear HIN
      have HEq := Lib.hid (HE1.out (fun j h => HK.out j h (by have := HKK.out; omega)))
      have HNo := Lib.hid (HN1.out k HK.out (fun h => absurd h (by have := HKK.out; omega)))
      clear HA HE1 HE2 HE3 HN1 HN2
      go_wp2_with fail
      refine wp_region_held_drew (S := fun W' => PtAt w W' x _ _) (by kernel_rfl) S0 (fun hHeld => ?_)
      clear hHeld
      refine wpAnyH_take (i := 0) (oi := o4edfa_0) (v := ?vvc1) rfl (by kernel_rfl) (by kernel_rfl) (by kernel_rfl) (fun _ _ _ h => h) (Or.inl ⟨by rfl, ?hyc1⟩) S0 ?restc1
      case hyc1 => (intro w hSw; go_simp <;> with_reducible rfl)
      try simp only [Act.put, List.setIfInBounds_toArray, List.set_cons_zero, List.set_cons_succ]
      refine wpAnyH_take (i := 1) (oi := o4edfa_1) (v := ?vvc2) rfl (by kernel_rfl) (by kernel_rfl) (by kernel_rfl) (fun _ _ _ h => h) (Or.inl ⟨by rfl, ?hyc2⟩) S0 ?restc2
      case hyc2 => (intro w hSw; go_simp <;> with_reducible rfl)
      try simp only [Act.put, List.setIfInBounds_toArray, List.set_cons_zero, List.set_cons_succ]
      refine wpAnyH_take (i := 2) (oi := o4edfa_2) (v := ?vvc3) rfl (by kernel_rfl) (by kernel_rfl) (by kernel_rfl) (fun _ _ _ h => h) (Or.inl ⟨by rfl, ?hyc3⟩) S0 ?restc3
      case hyc3 => (intro w hSw; go_simp <;> with_reducible rfl)
      try simp only [Act.put, List.setIfInBounds_toArray, List.set_cons_zero, List.set_cons_succ]
      refine wpAnyH_take (i := 3) (oi := o4edfa_3) (v := ?vvc4) rfl (by kernel_rfl) (by kernel_rfl) (by kernel_rfl) (fun _ _ _ h => h) (Or.inl ⟨by rfl, ?hyc4⟩) S0 ?restc4
      case hyc4 => (intro w hSw; go_simp <;> with_reducible rfl)
      try simp only [Act.put, List.setIfInBounds_toArray, List.set_cons_zero, List.set_cons_succ]
      refine wpAnyH_take (i := 4) (oi := o4edfa_4) (v := ?vvc5) rfl (by kernel_rfl) (by kernel_rfl) (by kernel_rfl) (fun _ _ _ h => h) (Or.inl ⟨by rfl, ?hyc5⟩) S0 ?restc5
      case hyc5 => (intro w hSw; go_simp <;> with_reducible rfl)
      try simp only [Act.put, List.setIfInBounds_toArray, List.set_cons_zero, List.set_cons_succ]
      refine wpAnyH_take (i := 5) (oi := o4edfa_5) (v := undef) rfl (by kernel_rfl) (by kernel_rfl) (by kernel_rfl) (fun _ _ _ h => h) (Or.inr ⟨by rfl, rfl⟩) S0 ?_
      try simp only [Act.put, List.setIfInBounds_toArray, List.set_cons_zero, List.set_cons_succ]
      refine wpAnyH_take (i := 6) (oi := o4edfa_6) (v := undef) rfl (by kernel_rfl) (by kernel_rfl) (by kernel_rfl) (fun _ _ _ h => h) (Or.inr ⟨by rfl, rfl⟩) S0 ?_
      try simp only [Act.put, List.setIfInBounds_toArray, List.set_cons_zero, List.set_cons_succ]
      refine wpAnyH_take (i := 7) (oi := o4edfa_7) (v := undef) rfl (by kernel_rfl) (by kernel_rfl) (by kernel_rfl) (fun _ _ _ h => h) (Or.inr ⟨by rfl, rfl⟩) S0 ?_
      try simp only [Act.put, List.setIfInBounds_toArray, List.set_cons_zero, List.set_cons_succ]
      refine wpAnyH_take (i := 8) (oi := o4edfa_8) (v := undef) rfl (by kernel_rfl) (by kernel_rfl) (by kernel_rfl) (fun _ _ _ h => h) (Or.inr ⟨by rfl, rfl⟩) S0 ?_
      try simp only [Act.put, List.setIfInBounds_toArray, List.set_cons_zero, List.set_cons_succ]
      refine wpAnyH_take (i := 9) (oi := o4edfa_9) (v := undef) rfl (by kernel_rfl) (by kernel_rfl) (by kernel_rfl) (fun _ _ _ h => h) (Or.inr ⟨by rfl, rfl⟩) S0 ?_
      try simp only [Act.put, List.setIfInBounds_toArray, List.set_cons_zero, List.set_cons_succ]
      refine wpAnyH_take (i := 10) (oi := o4edfa_10) (v := undef) rfl (by kernel_rfl) (by kernel_rfl) (by kernel_rfl) (fun _ _ _ h => h) (Or.inr ⟨by rfl, rfl⟩) S0 ?_
      try simp only [Act.put, List.setIfInBounds_toArray, List.set_cons_zero, List.set_cons_succ]
      refine wpAnyH_take (i := 11) (oi := o4edfa_11) (v := ?vvc12) rfl (by kernel_rfl) (by kernel_rfl) (by kernel_rfl) (fun _ _ _ h => h) (Or.inl ⟨by rfl, ?hyc12⟩) S0 ?restc12
      case hyc12 => (intro w hSw; go_simp <;> with_reducible rfl)
      try simp only [Act.put, List.setIfInBounds_toArray, List.set_cons_zero, List.set_cons_succ]
      refine wpAnyH_done (by kernel_rfl) ?_ _
      go_upto_region 5 with fail
      have hbT := S0.bel
      obtain ⟨a1, e1, sl1, nl1⟩ := cut_take (HSl.out _ S0.lit.bel) HNc.out k hk
      have hrunT : ∀ W : World, (Instr.slice 25 (.slice a n cap) none (some (.int .i64 (k : Int))) none).run Try.prog W = .ok (.slice a1 k cap) W := fun W => by rw [cutH_Pt _ n cap k (Nat.le_trans hk HCap.out) W, e1]
      have HKL : Hid (k = (l.take k).length) := Lib.hid (by rw [List.length_take]; have := HN.out; omega)
      have S1 := S0.lit
      have hlo1 := S1.low
      clear e1 hbT S0
      go_upto_region 6 with (at_builtin; refine wpList_append_slice Hd.cl_len Hd.cl_one1 tyH _ rfl _ _ rfl (w.heap.size + 3) _ [] (l.take k) rfl S1.row a1 cap (by rw [← HKL.out]; rfl) (by rw [← HKL.out]; exact nl1) (by rw [← HKL.out]; exact sl1) (by rw [← HKL.out]; simp; omega) hlo1 ?_; intro a' c' n' w5 HN5 hown5 hg5; have S2 := S1.app HN5.out hown5 hg5; clear hown5 hg5 S1 hlo1 hrunT)
      have hcx := S2.key.cell
      unfold Hd.ar at hcx
      have hlo2 := S2.low
      go_upto_region 7 with (at_builtin; refine wpList_append_row Hd.cl_len Hd.cl_one1 tyH _ rfl _ _ rfl (w.heap.size + 3) _ ([] ++ l.take k) x rfl (S2.row.alloc _) ⟨w5.heap.size, 0, none⟩ rfl (lit_cells w5 _ _ x rfl) (by simp; omega) (by simp; omega) ?_; intro a2 c2 n2 w6 HN6 hown6 hg6; have S3 := (S2.alloc (.cells #[.int .i64 x.p, .bool x.s, .int .i64 x.r.kind, .int .i64 x.r.vni, .int .i64 x.r.mac, .int .i64 x.r.ip, .int .i64 x.r.org, .int .i64 x.r.seq, .bool x.r.st] 77)).app HN6.out hown6 hg6; clear hown6 hg6 S2 hlo2 hcx)
      have S0 := S3.drew
      clear S3
      refine wp_region_held_drew (S := fun W' => PtAt w W' x _ _) (by kernel_rfl) S0 (fun hHeld => ?_)
      clear hHeld
      refine wpAnyH_take (i := 0) (oi := o4edfa_12) (v := ?vvf1) rfl (by kernel_rfl) (by kernel_rfl) (by kernel_rfl) (fun _ _ _ h => h) (Or.inl ⟨by rfl, ?hyf1⟩) S0 ?restf1
      case hyf1 => (intro w hSw; go_simp <;> with_reducible rfl)
      try simp only [Act.put, List.setIfInBounds_toArray, List.set_cons_zero, List.set_cons_succ]
      refine wpAnyH_take (i := 1) (oi := o4edfa_13) (v := ?vvf2) rfl (by kernel_rfl) (by kernel_rfl) (by kernel_rfl) (fun _ _ _ h => h) (Or.inl ⟨by rfl, ?hyf2⟩) S0 ?restf2
      case hyf2 => (intro w hSw; go_simp <;> with_reducible rfl)
      try simp only [Act.put, List.setIfInBounds_toArray, List.set_cons_zero, List.set_cons_succ]
      refine wpAnyH_take (i := 2) (oi := o4edfa_14) (v := ?vvf3) rfl (by kernel_rfl) (by kernel_rfl) (by kernel_rfl) (fun _ _ _ h => h) (Or.inl ⟨by rfl, ?hyf3⟩) S0 ?restf3
      case hyf3 => (intro w hSw; go_simp <;> with_reducible rfl)
      try simp only [Act.put, List.setIfInBounds_toArray, List.set_cons_zero, List.set_cons_succ]
      refine wpAnyH_take (i := 3) (oi := o4edfa_15) (v := ?vvf4) rfl (by kernel_rfl) (by kernel_rfl) (by kernel_rfl) (fun _ _ _ h => h) (Or.inl ⟨by rfl, ?hyf4⟩) S0 ?restf4
      case hyf4 => (intro w hSw; go_simp <;> with_reducible rfl)
      try simp only [Act.put, List.setIfInBounds_toArray, List.set_cons_zero, List.set_cons_succ]
      refine wpAnyH_take (i := 4) (oi := o4edfa_16) (v := ?vvf5) rfl (by kernel_rfl) (by kernel_rfl) (by kernel_rfl) (fun _ _ _ h => h) (Or.inl ⟨by rfl, ?hyf5⟩) S0 ?restf5
      case hyf5 => (intro w hSw; go_simp <;> with_reducible rfl)
      try simp only [Act.put, List.setIfInBounds_toArray, List.set_cons_zero, List.set_cons_succ]
      refine wpAnyH_take (i := 5) (oi := o4edfa_17) (v := undef) rfl (by kernel_rfl) (by kernel_rfl) (by kernel_rfl) (fun _ _ _ h => h) (Or.inr ⟨by rfl, rfl⟩) S0 ?_
      try simp only [Act.put, List.setIfInBounds_toArray, List.set_cons_zero, List.set_cons_succ]
      refine wpAnyH_take (i := 6) (oi := o4edfa_18) (v := undef) rfl (by kernel_rfl) (by kernel_rfl) (by kernel_rfl) (fun _ _ _ h => h) (Or.inr ⟨by rfl, rfl⟩) S0 ?_
      try simp only [Act.put, List.setIfInBounds_toArray, List.set_cons_zero, List.set_cons_succ]
      refine wpAnyH_take (i := 7) (oi := o4edfa_19) (v := undef) rfl (by kernel_rfl) (by kernel_rfl) (by kernel_rfl) (fun _ _ _ h => h) (Or.inr ⟨by rfl, rfl⟩) S0 ?_
      try simp only [Act.put, List.setIfInBounds_toArray, List.set_cons_zero, List.set_cons_succ]
      refine wpAnyH_take (i := 8) (oi := o4edfa_20) (v := undef) rfl (by kernel_rfl) (by kernel_rfl) (by kernel_rfl) (fun _ _ _ h => h) (Or.inr ⟨by rfl, rfl⟩) S0 ?_
      try simp only [Act.put, List.setIfInBounds_toArray, List.set_cons_zero, List.set_cons_succ]
      refine wpAnyH_take (i := 9) (oi := o4edfa_21) (v := undef) rfl (by kernel_rfl) (by kernel_rfl) (by kernel_rfl) (fun _ _ _ h => h) (Or.inr ⟨by rfl, rfl⟩) S0 ?_
      try simp only [Act.put, List.setIfInBounds_toArray, List.set_cons_zero, List.set_cons_succ]
      refine wpAnyH_take (i := 10) (oi := o4edfa_22) (v := undef) rfl (by kernel_rfl) (by kernel_rfl) (by kernel_rfl) (fun _ _ _ h => h) (Or.inr ⟨by rfl, rfl⟩) S0 ?_
      try simp only [Act.put, List.setIfInBounds_toArray, List.set_cons_zero, List.set_cons_succ]
      refine wpAnyH_take (i := 11) (oi := o4edfa_23) (v := undef) rfl (by kernel_rfl) (by kernel_rfl) (by kernel_rfl) (fun _ _ _ h => h) (Or.inr ⟨by rfl, rfl⟩) S0 ?_
      try simp only [Act.put, List.setIfInBounds_toArray, List.set_cons_zero, List.set_cons_succ]
      refine wpAnyH_take (i := 12) (oi := o4edfa_24) (v := ?vvf13) rfl (by kernel_rfl) (by kernel_rfl) (by kernel_rfl) (fun _ _ _ h => h) (Or.inl ⟨by rfl, ?hyf13⟩) S0 ?restf13
      case hyf13 => (intro w hSw; go_simp <;> with_reducible rfl)
      try simp only [Act.put, List.setIfInBounds_toArray, List.set_cons_zero, List.set_cons_succ]
      refine wpAnyH_done (by kernel_rfl) ?_ _
      have S3 := S0
      clear S0
      by_cases hfull : 60 ≤ n
      · have HR := Lib.hid (HP1.out hfull HNo.out)
        have hfz : (60 : Int) ≤ (n : Int) := by omega
        have hcO := S3.out.cell
        have hfO := S3.out.frozen
        go_wp2_with (go_at_call 70; refine (HIll.out _).mono ?_; rintro x1 w7 ⟨rfl, hb7⟩; have S4 := S3.kept hb7; clear hb7 hcO hfO; have hcO := S4.out.cell; have hfO := S4.out.frozen)
        have HY := Lib.hid (S4.fin (.slice none 0 0) (.slice none 0 0) (.int .i64 9))
        generalize (((w7.setCell ⟨w.heap.size + 1, 0, none⟩ (.slice none 0 0)).setCell ⟨w.heap.size + 1, 1, none⟩ (.slice none 0 0)).setCell ⟨w.heap.size + 1, 2, none⟩ (.int .i64 9)) = w9 at *
        have hc9 := HY.out.1.1.cell
        refine bodyPost_ret (v := roV (.slice none 0 0) (.slice none 0 0) 9) (by simp [results, Try.results71, go_sem, roV, hc9]) rfl ?_
        exact RoPost.ill HR.out rfl HY.out.1.2
      · have HR := Lib.hid (HP2.out hfull)
        have hfz : ¬ (60 : Int) ≤ (n : Int) := by omega
        go_upto_region 11 with fail
        obtain ⟨a3, e3, sl3, nl3⟩ := cut_drop (HSl.out _ S3.bel) HNc.out (k) (by omega)
        have hrunD : ∀ W : World, (Instr.slice 25 (.slice a n cap) (some (.int .i64 ((k : Int)))) none none).run Try.prog W = .ok (.slice a3 (n - (k)) (cap - (k))) W := fun W => by rw [cutL_Pt _ n cap (k) (by omega) W, e3]
        have HDL : Hid (n - (k) = (l.drop (k)).length) := Lib.hid (by rw [List.length_drop, ← HN.out])
        have hlo3 := S3.low
        have hcO := S3.out.cell
        have hfO := S3.out.frozen
        clear e3
        have hll : ([] ++ l.take k ++ [x]).length + (l.drop (k)).length ≤ 1100000 := by rw [← HDL.out]; simp; omega
        go_wp2_with (at_builtin; refine wpList_append_slice Hd.cl_len Hd.cl_one1 tyH _ rfl _ _ rfl (w.heap.size + 3) _ ([] ++ l.take k ++ [x]) (l.drop (k)) rfl S3.row a3 (cap - (k)) (by rw [← HDL.out]; rfl) (by rw [← HDL.out]; exact nl3) (by rw [← HDL.out]; exact sl3) hll hlo3 ?_; intro a4 c4 n4 w7 HN7 hown7 hg7; have S4 := S3.app HN7.out hown7 hg7; clear hown7 hg7 hcO hfO hlo3 hrunD; have hcO := S4.out.cell; have hfO := S4.out.frozen)
        have HY := Lib.hid (S4.fin (.slice a4 n4 c4) (.slice none 0 0) (.int .i64 0))
        generalize (((w7.setCell ⟨w.heap.size + 1, 0, none⟩ (.slice a4 n4 c4)).setCell ⟨w.heap.size + 1, 1, none⟩ (.slice none 0 0)).setCell ⟨w.heap.size + 1, 2, none⟩ (.int .i64 0)) = w9 at *
        have hc9 := HY.out.1.1.cell
        refine bodyPost_ret (v := roV (.slice a4 n4 c4) (.slice none 0 0) 0) (by simp [results, Try.results71, go_sem, roV, hc9]) rfl ?_
        rw [HR.out]
        have hrib : ([] ++ l.take k ++ [x]) ++ l.drop (k) = insL LtH x l := by rw [HEq.out, HKK.out, List.drop_length, List.take_length]; simp
        rw [hrib] at HY HN7
        refine ⟨_, _, rfl, ?_, World.ownsRow_nil _ _ _ _, apart_Pt _, HY.out.1.2⟩
        exact HY.out.2
end Go.Proofs.Ytmkoppbbenombaa
