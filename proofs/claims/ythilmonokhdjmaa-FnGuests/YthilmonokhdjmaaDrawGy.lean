/- Draws of chapter 8: DrawRouteOf. -/
import Derived.Test.YthilmonokhdjmaaDrawGx
namespace Go.Proofs.Ythilmonokhdjmaa
open Go.RowKit

theorem Blk.packG {W : World} {b : Nat} {t : TypeId} {cs : Array Value} (h : Blk W b t cs) (cs' : Array Value) (t' : TypeId) : ∃ Wn q, W.alloc (.cells cs' t') = Wn ∧ W.heap.size = q ∧ Blk Wn q t' cs' ∧ Below W.heap.size W Wn ∧ b < q :=
  ⟨_, _, rfl, rfl, Blk.new _ _ _, (Below.refl _ _).alloc (Nat.le_refl _) _, h.lt⟩
theorem Blk.pack7 {W : World} {b : Nat} {t : TypeId} {c0 c1 c2 c3 c4 c5 c6 : Value} (h : Blk W b t #[c0, c1, c2, c3, c4, c5, c6]) (v0 v1 v2 v3 v4 v5 v6 : Value) :
    ∃ Wn, (((((((W.setCell ⟨b, 0, none⟩ v0).setCell ⟨b, 1, none⟩ v1).setCell ⟨b, 2, none⟩ v2).setCell ⟨b, 3, none⟩ v3).setCell ⟨b, 4, none⟩ v4).setCell ⟨b, 5, none⟩ v5).setCell ⟨b, 6, none⟩ v6) = Wn ∧ Blk Wn b t #[v0, v1, v2, v3, v4, v5, v6] ∧ (∀ b' t' cs, b' ≠ b → Blk W b' t' cs → Blk Wn b' t' cs) ∧ ∀ B w0, Below B w0 W → B ≤ b → Below B w0 Wn := by
  refine ⟨_, rfl, ?_, fun b' t' cs hne hb => ((((((hb.far hne).far hne).far hne).far hne).far hne).far hne).far hne, fun B w0 hb hB => ((((((hb.setCell hB _).setCell hB _).setCell hB _).setCell hB _).setCell hB _).setCell hB _).setCell hB _⟩
  have h2 := ((((((h.set 0 v0).set 1 v1).set 2 v2).set 3 v3).set 4 v4).set 5 v5).set 6 v6
  simp only [List.setIfInBounds_toArray, List.set_cons_zero, List.set_cons_succ] at h2
  exact h2
def sixOf (n : Int) : Int := [1, 2, 3, 4, 0, 5].getD n.toNat 0
theorem six_at {W : World} {q : Nat} {n : Int} (h : Blk W q 2 #[.int .i64 1, .int .i64 2, .int .i64 3, .int .i64 4, .int .i64 0, .int .i64 5]) (h0 : 0 ≤ n) (h1 : n < 6) : W.cell? ⟨q, n.toNat, none⟩ = some (.int .i64 (sixOf n)) := by
  rw [h.cell]
  unfold sixOf
  rcases (by omega : n = 0 ∨ n = 1 ∨ n = 2 ∨ n = 3 ∨ n = 4 ∨ n = 5) with h | h | h | h | h | h <;> subst h <;> rfl
theorem Blk.drawnG {W W' : World} {b g : Nat} {t : TypeId} {vs : Array Value} {a : Option Addr} {len cap : Nat} (h : Blk W b t vs) (hne : g ≠ b) (hd : Drawn g a len cap W W') : Blk W' b t vs := h.grown hd.2 (by intro e; injection e; omega)
def RfDraw (w : World) (e : Ending) (w' : World) : Prop := ∃ (r : Gu) (n : Int), e = .returned (.tuple #[r.val, .int .i64 n]) ∧ Below w.heap.size w w'
set_option maxRecDepth 100000 in
set_option maxHeartbeats 4000000 in
theorem draw_routeOf {len cap : Nat} {a : Option Addr} {w : World} (hl : len ≤ 1048576) (hb : BytesAt w a len) :
    Calls Try.prog 44 #[.slice a len cap] w (RfDraw w) := by
  have X0 := Blk.new w 58 #[.int .i64 0, .int .i64 0, .int .i64 0, .int .i64 0, .int .i64 0, .int .i64 0, .bool false]
  have HB0 : Below w.heap.size w (w.alloc (.cells #[.int .i64 0, .int .i64 0, .int .i64 0, .int .i64 0, .int .i64 0, .int .i64 0, .bool false] 58)) := (Below.refl _ _).alloc (Nat.le_refl _) _
  have HS := Lib.hid (draw_source (cap := cap) hl (bytes_below hb HB0))
  clear hb
  go_enter Try.func44, Try.ntmps44
  go_upto_region 1 with fail
  generalize w.alloc (.cells #[.int .i64 0, .int .i64 0, .int .i64 0, .int .i64 0, .int .i64 0, .int .i64 0, .bool false] 58) = w0 at *
  go_wp2_with fail
  refine HS.out.mono ?_
  rintro e w1 ⟨g, rfl, hg, hs, hb1⟩
  have X1 := X0.kept hb1
  have HB1 := HB0.trans (hb1.mono HB0.size)
  have hgs := hs.src.lt
  have hx0 := X0.lt
  have HG := Lib.hid (draw_guest hs)
  clear hs hb1 HS X0 HB0
  go_wp2_with fail
  refine HG.out.mono ?_
  rintro e w2 ⟨r, rfl, hd⟩
  have hz := hd.2.size
  have hs := hd.1.alloc (.cells #[.int .i64 r.vni, .int .i64 r.mac, .int .i64 r.ip, .int .i64 r.door, .int .i64 r.seq, .int .i64 r.seen, .bool r.st] 58)
  have HX := (X1.grown hd.2 (by intro e; injection e; omega)).alloc (.cells #[.int .i64 r.vni, .int .i64 r.mac, .int .i64 r.ip, .int .i64 r.door, .int .i64 r.seq, .int .i64 r.seen, .bool r.st] 58)
  have S0 := Blk.new w2 58 #[.int .i64 r.vni, .int .i64 r.mac, .int .i64 r.ip, .int .i64 r.door, .int .i64 r.seq, .int .i64 r.seen, .bool r.st]
  have HB := (src_below HB1 (by omega) hd).alloc (src_below HB1 (by omega) hd).size (.cells #[.int .i64 r.vni, .int .i64 r.mac, .int .i64 r.ip, .int .i64 r.door, .int .i64 r.seq, .int .i64 r.seen, .bool r.st] 58)
  have hgq : g ≠ w2.heap.size := by omega
  have hgw : g ≠ w.heap.size := by omega
  have hgw2 : w.heap.size ≤ g := by omega
  have hqw : w2.heap.size ≠ w.heap.size := by omega
  clear hd HG X1 HB1 hz
  unfold Gu.val
  go_upto_region 3 with fail
  obtain ⟨W, hW⟩ : ∃ W, W = w2.alloc (.cells #[.int .i64 r.vni, .int .i64 r.mac, .int .i64 r.ip, .int .i64 r.door, .int .i64 r.seq, .int .i64 r.seen, .bool r.st] 58) := ⟨_, rfl⟩
  rw [← hW] at hs HX S0 HB ⊢
  clear hW
  generalize w2.heap.size = q at *
  replace hs : Src W.drew g a len cap := ⟨hs.small, hs.bytes, hs.src, hs.apart⟩
  replace HX := HX.drew
  replace S0 := S0.drew
  replace HB := HB.drew
  have hcX := HX.cell
  have hfX := HX.frozen
  refine wp_region_held_drew (S := fun W' => Blk W' q 58 #[.int .i64 r.vni, .int .i64 r.mac, .int .i64 r.ip, .int .i64 r.door, .int .i64 r.seq, .int .i64 r.seen, .bool r.st]) (by kernel_rfl) S0 (fun hHeld => ?_)
  clear hHeld
  generalize W.drew = Wd at *
  refine wpAnyH_take (i := 0) (oi := { dst := some 10, op := Op.load 58 (Operand.tmp 5), type := 58, pos := "l07_local.go:205", after := #[], guard := none }) (v := ?vva1) rfl (by kernel_rfl) (by kernel_rfl) (by kernel_rfl) (fun _ _ _ h => h) (Or.inl ⟨by rfl, ?hya1⟩) S0 ?resta1
  case hya1 => (intro w hSw; have hcY := hSw.cell;go_simp <;> with_reducible rfl)
  try simp only [Act.put, List.setIfInBounds_toArray, List.set_cons_zero, List.set_cons_succ]
  refine wpAnyH_take (i := 2) (oi := { dst := some 12, op := Op.move (Operand.tmp 4), type := 122, pos := "l07_local.go:205", after := #[], guard := none }) (v := ?vva2) rfl (by kernel_rfl) (by kernel_rfl) (by kernel_rfl) (fun _ _ _ h => h) (Or.inl ⟨by rfl, ?hya2⟩) S0 ?resta2
  case hya2 => (intro w hSw; have hcY := hSw.cell;go_simp <;> with_reducible rfl)
  try simp only [Act.put, List.setIfInBounds_toArray, List.set_cons_zero, List.set_cons_succ]
  refine wpAnyH_ready (rs := [1, 3]) (by kernel_rfl) (by simp) ?_
  refine (AllReadyH.cons (o := { dst := some 11, op := Op.buildSlice 81 6 #[(0, Operand.const (Value.int IntKind.i64 1)), (1, Operand.const (Value.int IntKind.i64 2)), (2, Operand.const (Value.int IntKind.i64 3)), (3, Operand.const (Value.int IntKind.i64 4)), (4, Operand.const (Value.int IntKind.i64 0)), (5, Operand.const (Value.int IntKind.i64 5))], type := 81, pos := "l07_local.go:205", after := #[{ on := 6, ground := Ground.gcOnly Departure.lateStores }], guard := none }) rfl (fun K hK => ?_) (AllReadyH.cons (o := { dst := some 13, op := Op.call { callee := Callee.value (Operand.func 102), args := #[Operand.tmp 12, Operand.const (Value.int IntKind.i64 6)], argTypes := #[122, 2] }, type := 2, pos := "l07_local.go:205", after := #[{ on := 2, ground := Ground.data }], guard := none }) rfl (fun K hK => ?_) AllReadyH.nil))
  focus
    go_simp
    try have hsl := hs.src.lt
    obtain ⟨Wn, qa, hWn, hqa, AR, bn, hqq⟩ := HX.packG #[.int .i64 1, .int .i64 2, .int .i64 3, .int .i64 4, .int .i64 0, .int .i64 5] 2
    rw [hWn, hqa]
    have hqg : (∀ x : Unit, True) := fun _ => trivial
    try replace hs := hs.alloc (.cells #[.int .i64 1, .int .i64 2, .int .i64 3, .int .i64 4, .int .i64 0, .int .i64 5] 2)
    try rw [hWn] at hs
    try have hga := Nat.ne_of_lt (hqa ▸ hsl)
    replace HX := HX.kept bn
    replace S0 := S0.kept bn
    replace HB := HB.trans (bn.mono HB.size)
    clear hcX hfX
    have hcX := HX.cell
    have hfX := HX.frozen
    try have hcA := six_at AR hn0 hn1
    clear hWn bn hqg
    refine hK.out _ _ S0 (fun hHeld => ?_)
    clear hK K hHeld
    try simp only [Act.put, List.setIfInBounds_toArray, List.set_cons_zero, List.set_cons_succ]
    refine wpAnyH_ready (rs := [3]) (by kernel_rfl) (by simp) ?_
    refine AllReadyH.cons (o := { dst := some 13, op := Op.call { callee := Callee.value (Operand.func 102), args := #[Operand.tmp 12, Operand.const (Value.int IntKind.i64 6)], argTypes := #[122, 2] }, type := 2, pos := "l07_local.go:205", after := #[{ on := 2, ground := Ground.data }], guard := none }) rfl (fun K hK => ?_) AllReadyH.nil
    go_simp
    have hd0 := hs
    refine (draw_n 6 (by omega) (by omega) hs).mono ?_
    rintro e w6 ⟨n, rfl, ⟨hn0, hn1⟩, hd⟩
    replace HX := HX.drawnG hgw hd
    replace S0 := S0.drawnG hgq hd
    try replace AR := AR.drawnG hga hd
    replace HB := src_below HB hgw2 hd
    clear hs hd hd0 hcX hfX
    have hcX := HX.cell
    have hfX := HX.frozen
    try have hcA := six_at AR hn0 hn1
    refine hK.out _ _ S0 (fun hHeld => ?_)
    clear hK K hHeld
    try simp only [Act.put, List.setIfInBounds_toArray, List.set_cons_zero, List.set_cons_succ]
    refine wpAnyH_take (i := 4) (oi := { dst := some 14, op := Op.indexAddr 81 (Operand.tmp 11) (Operand.tmp 13), type := 0, pos := "l07_local.go:205", after := #[{ on := 1, ground := Ground.data }, { on := 3, ground := Ground.data }, { on := 6, ground := Ground.gcOnly Departure.lateStores }], guard := none }) (v := ?vva3) rfl (by kernel_rfl) (by kernel_rfl) (by kernel_rfl) (fun _ _ _ h => h) (Or.inl ⟨by rfl, ?hya3⟩) S0 ?resta3
    case hya3 => (intro w hSw; have hcY := hSw.cell;go_simp <;> with_reducible rfl)
    try simp only [Act.put, List.setIfInBounds_toArray, List.set_cons_zero, List.set_cons_succ]
    refine wpAnyH_ready (rs := [5, 6]) (by kernel_rfl) (by simp) ?_
    refine (AllReadyH.cons (o := { dst := some 15, op := Op.load 2 (Operand.tmp 14), type := 2, pos := "l07_local.go:205", after := #[{ on := 4, ground := Ground.data }, { on := 6, ground := Ground.gcOnly Departure.lateStores }], guard := none }) rfl (fun K hK => ?_) (AllReadyH.cons (o := { dst := none, op := Op.store 58 (Operand.tmp 2) (Operand.tmp 10), type := 0, pos := "l07_local.go:205", after := #[{ on := 0, ground := Ground.data }, { on := 3, ground := Ground.chain }, { on := 0, ground := Ground.phase }, { on := 1, ground := Ground.textOnly Departure.lateStores }, { on := 2, ground := Ground.textOnly Departure.lateStores }, { on := 3, ground := Ground.textOnly Departure.lateStoresUnsure }, { on := 4, ground := Ground.textOnly Departure.lateStores }, { on := 5, ground := Ground.textOnly Departure.lateStores }], guard := none }) rfl (fun K hK => ?_) AllReadyH.nil))
    focus
      go_simp
      refine hK.out _ _ S0 (fun hHeld => ?_)
      clear hK K hHeld
      try simp only [Act.put, List.setIfInBounds_toArray, List.set_cons_zero, List.set_cons_succ]
      refine wpAnyH_ready (rs := [6]) (by kernel_rfl) (by simp) ?_
      refine AllReadyH.cons (o := { dst := none, op := Op.store 58 (Operand.tmp 2) (Operand.tmp 10), type := 0, pos := "l07_local.go:205", after := #[{ on := 0, ground := Ground.data }, { on := 3, ground := Ground.chain }, { on := 0, ground := Ground.phase }, { on := 1, ground := Ground.textOnly Departure.lateStores }, { on := 2, ground := Ground.textOnly Departure.lateStores }, { on := 3, ground := Ground.textOnly Departure.lateStoresUnsure }, { on := 4, ground := Ground.textOnly Departure.lateStores }, { on := 5, ground := Ground.textOnly Departure.lateStores }], guard := none }) rfl (fun K hK => ?_) AllReadyH.nil
      go_simp
      obtain ⟨Wn, hWn, hX2, hfar, hbl⟩ := HX.pack7 (.int .i64 r.vni) (.int .i64 r.mac) (.int .i64 r.ip) (.int .i64 r.door) (.int .i64 r.seq) (.int .i64 r.seen) (.bool r.st)
      rw [hWn]
      replace S0 := hfar _ _ _ hqw S0
      try replace AR := hfar _ _ _ (Nat.ne_of_gt hqq) AR
      replace HB := hbl _ _ HB (Nat.le_refl _)
      try clear hcA
      clear HX hcX hfX
      have HX := hX2
      have hcX := HX.cell
      have hfX := HX.frozen
      try have hcA := six_at AR hn0 hn1
      clear hWn hX2 hfar hbl
      refine hK.out _ _ S0 (fun hHeld => ?_)
      clear hK K hHeld
      try simp only [Act.put, List.setIfInBounds_toArray, List.set_cons_zero, List.set_cons_succ]
      refine wpAnyH_take (i := 7) (oi := { dst := some 3, op := Op.assign (Operand.tmp 15), type := 2, pos := "l07_local.go:205", after := #[{ on := 5, ground := Ground.data }, { on := 6, ground := Ground.chain }, { on := 0, ground := Ground.phase }, { on := 1, ground := Ground.phase }, { on := 2, ground := Ground.phase }, { on := 3, ground := Ground.phase }, { on := 4, ground := Ground.phase }, { on := 5, ground := Ground.phase }, { on := 6, ground := Ground.phase }], guard := none }) (v := ?vva4) rfl (by kernel_rfl) (by kernel_rfl) (by kernel_rfl) (fun _ _ _ h => h) (Or.inl ⟨by rfl, ?hya4⟩) S0 ?resta4
      case hya4 => (intro w hSw; have hcY := hSw.cell;go_simp <;> with_reducible rfl)
      try simp only [Act.put, List.setIfInBounds_toArray, List.set_cons_zero, List.set_cons_succ]
      refine wpAnyH_done (by kernel_rfl) ?_ _
    rotate_left 1
    focus
      go_simp
      obtain ⟨Wn, hWn, hX2, hfar, hbl⟩ := HX.pack7 (.int .i64 r.vni) (.int .i64 r.mac) (.int .i64 r.ip) (.int .i64 r.door) (.int .i64 r.seq) (.int .i64 r.seen) (.bool r.st)
      rw [hWn]
      replace S0 := hfar _ _ _ hqw S0
      try replace AR := hfar _ _ _ (Nat.ne_of_gt hqq) AR
      replace HB := hbl _ _ HB (Nat.le_refl _)
      try clear hcA
      clear HX hcX hfX
      have HX := hX2
      have hcX := HX.cell
      have hfX := HX.frozen
      try have hcA := six_at AR hn0 hn1
      clear hWn hX2 hfar hbl
      refine hK.out _ _ S0 (fun hHeld => ?_)
      clear hK K hHeld
      try simp only [Act.put, List.setIfInBounds_toArray, List.set_cons_zero, List.set_cons_succ]
      refine wpAnyH_ready (rs := [5]) (by kernel_rfl) (by simp) ?_
      refine AllReadyH.cons (o := { dst := some 15, op := Op.load 2 (Operand.tmp 14), type := 2, pos := "l07_local.go:205", after := #[{ on := 4, ground := Ground.data }, { on := 6, ground := Ground.gcOnly Departure.lateStores }], guard := none }) rfl (fun K hK => ?_) AllReadyH.nil
      go_simp
      refine hK.out _ _ S0 (fun hHeld => ?_)
      clear hK K hHeld
      try simp only [Act.put, List.setIfInBounds_toArray, List.set_cons_zero, List.set_cons_succ]
      refine wpAnyH_take (i := 7) (oi := { dst := some 3, op := Op.assign (Operand.tmp 15), type := 2, pos := "l07_local.go:205", after := #[{ on := 5, ground := Ground.data }, { on := 6, ground := Ground.chain }, { on := 0, ground := Ground.phase }, { on := 1, ground := Ground.phase }, { on := 2, ground := Ground.phase }, { on := 3, ground := Ground.phase }, { on := 4, ground := Ground.phase }, { on := 5, ground := Ground.phase }, { on := 6, ground := Ground.phase }], guard := none }) (v := ?vva5) rfl (by kernel_rfl) (by kernel_rfl) (by kernel_rfl) (fun _ _ _ h => h) (Or.inl ⟨by rfl, ?hya5⟩) S0 ?resta5
      case hya5 => (intro w hSw; have hcY := hSw.cell;go_simp <;> with_reducible rfl)
      try simp only [Act.put, List.setIfInBounds_toArray, List.set_cons_zero, List.set_cons_succ]
      refine wpAnyH_done (by kernel_rfl) ?_ _
    rotate_left 1
  rotate_left 2
  focus
    go_simp
    have hd0 := hs
    refine (draw_n 6 (by omega) (by omega) hs).mono ?_
    rintro e w6 ⟨n, rfl, ⟨hn0, hn1⟩, hd⟩
    replace HX := HX.drawnG hgw hd
    replace S0 := S0.drawnG hgq hd
    try replace AR := AR.drawnG hga hd
    replace HB := src_below HB hgw2 hd
    clear hs hd hd0 hcX hfX
    have hcX := HX.cell
    have hfX := HX.frozen
    try have hcA := six_at AR hn0 hn1
    refine hK.out _ _ S0 (fun hHeld => ?_)
    clear hK K hHeld
    try simp only [Act.put, List.setIfInBounds_toArray, List.set_cons_zero, List.set_cons_succ]
    refine wpAnyH_ready (rs := [1, 6]) (by kernel_rfl) (by simp) ?_
    refine (AllReadyH.cons (o := { dst := some 11, op := Op.buildSlice 81 6 #[(0, Operand.const (Value.int IntKind.i64 1)), (1, Operand.const (Value.int IntKind.i64 2)), (2, Operand.const (Value.int IntKind.i64 3)), (3, Operand.const (Value.int IntKind.i64 4)), (4, Operand.const (Value.int IntKind.i64 0)), (5, Operand.const (Value.int IntKind.i64 5))], type := 81, pos := "l07_local.go:205", after := #[{ on := 6, ground := Ground.gcOnly Departure.lateStores }], guard := none }) rfl (fun K hK => ?_) (AllReadyH.cons (o := { dst := none, op := Op.store 58 (Operand.tmp 2) (Operand.tmp 10), type := 0, pos := "l07_local.go:205", after := #[{ on := 0, ground := Ground.data }, { on := 3, ground := Ground.chain }, { on := 0, ground := Ground.phase }, { on := 1, ground := Ground.textOnly Departure.lateStores }, { on := 2, ground := Ground.textOnly Departure.lateStores }, { on := 3, ground := Ground.textOnly Departure.lateStoresUnsure }, { on := 4, ground := Ground.textOnly Departure.lateStores }, { on := 5, ground := Ground.textOnly Departure.lateStores }], guard := none }) rfl (fun K hK => ?_) AllReadyH.nil))
    focus
      go_simp
      try have hsl := hs.src.lt
      obtain ⟨Wn, qa, hWn, hqa, AR, bn, hqq⟩ := HX.packG #[.int .i64 1, .int .i64 2, .int .i64 3, .int .i64 4, .int .i64 0, .int .i64 5] 2
      rw [hWn, hqa]
      have hqg : (∀ x : Unit, True) := fun _ => trivial
      try replace hs := hs.alloc (.cells #[.int .i64 1, .int .i64 2, .int .i64 3, .int .i64 4, .int .i64 0, .int .i64 5] 2)
      try rw [hWn] at hs
      try have hga := Nat.ne_of_lt (hqa ▸ hsl)
      replace HX := HX.kept bn
      replace S0 := S0.kept bn
      replace HB := HB.trans (bn.mono HB.size)
      clear hcX hfX
      have hcX := HX.cell
      have hfX := HX.frozen
      try have hcA := six_at AR hn0 hn1
      clear hWn bn hqg
      refine hK.out _ _ S0 (fun hHeld => ?_)
      clear hK K hHeld
      try simp only [Act.put, List.setIfInBounds_toArray, List.set_cons_zero, List.set_cons_succ]
      refine wpAnyH_take (i := 4) (oi := { dst := some 14, op := Op.indexAddr 81 (Operand.tmp 11) (Operand.tmp 13), type := 0, pos := "l07_local.go:205", after := #[{ on := 1, ground := Ground.data }, { on := 3, ground := Ground.data }, { on := 6, ground := Ground.gcOnly Departure.lateStores }], guard := none }) (v := ?vva6) rfl (by kernel_rfl) (by kernel_rfl) (by kernel_rfl) (fun _ _ _ h => h) (Or.inl ⟨by rfl, ?hya6⟩) S0 ?resta6
      case hya6 => (intro w hSw; have hcY := hSw.cell;go_simp <;> with_reducible rfl)
      try simp only [Act.put, List.setIfInBounds_toArray, List.set_cons_zero, List.set_cons_succ]
      refine wpAnyH_ready (rs := [5, 6]) (by kernel_rfl) (by simp) ?_
      refine (AllReadyH.cons (o := { dst := some 15, op := Op.load 2 (Operand.tmp 14), type := 2, pos := "l07_local.go:205", after := #[{ on := 4, ground := Ground.data }, { on := 6, ground := Ground.gcOnly Departure.lateStores }], guard := none }) rfl (fun K hK => ?_) (AllReadyH.cons (o := { dst := none, op := Op.store 58 (Operand.tmp 2) (Operand.tmp 10), type := 0, pos := "l07_local.go:205", after := #[{ on := 0, ground := Ground.data }, { on := 3, ground := Ground.chain }, { on := 0, ground := Ground.phase }, { on := 1, ground := Ground.textOnly Departure.lateStores }, { on := 2, ground := Ground.textOnly Departure.lateStores }, { on := 3, ground := Ground.textOnly Departure.lateStoresUnsure }, { on := 4, ground := Ground.textOnly Departure.lateStores }, { on := 5, ground := Ground.textOnly Departure.lateStores }], guard := none }) rfl (fun K hK => ?_) AllReadyH.nil))
      focus
        go_simp
        refine hK.out _ _ S0 (fun hHeld => ?_)
        clear hK K hHeld
        try simp only [Act.put, List.setIfInBounds_toArray, List.set_cons_zero, List.set_cons_succ]
        refine wpAnyH_ready (rs := [6]) (by kernel_rfl) (by simp) ?_
        refine AllReadyH.cons (o := { dst := none, op := Op.store 58 (Operand.tmp 2) (Operand.tmp 10), type := 0, pos := "l07_local.go:205", after := #[{ on := 0, ground := Ground.data }, { on := 3, ground := Ground.chain }, { on := 0, ground := Ground.phase }, { on := 1, ground := Ground.textOnly Departure.lateStores }, { on := 2, ground := Ground.textOnly Departure.lateStores }, { on := 3, ground := Ground.textOnly Departure.lateStoresUnsure }, { on := 4, ground := Ground.textOnly Departure.lateStores }, { on := 5, ground := Ground.textOnly Departure.lateStores }], guard := none }) rfl (fun K hK => ?_) AllReadyH.nil
        go_simp
        obtain ⟨Wn, hWn, hX2, hfar, hbl⟩ := HX.pack7 (.int .i64 r.vni) (.int .i64 r.mac) (.int .i64 r.ip) (.int .i64 r.door) (.int .i64 r.seq) (.int .i64 r.seen) (.bool r.st)
        rw [hWn]
        replace S0 := hfar _ _ _ hqw S0
        try replace AR := hfar _ _ _ (Nat.ne_of_gt hqq) AR
        replace HB := hbl _ _ HB (Nat.le_refl _)
        try clear hcA
        clear HX hcX hfX
        have HX := hX2
        have hcX := HX.cell
        have hfX := HX.frozen
        try have hcA := six_at AR hn0 hn1
        clear hWn hX2 hfar hbl
        refine hK.out _ _ S0 (fun hHeld => ?_)
        clear hK K hHeld
        try simp only [Act.put, List.setIfInBounds_toArray, List.set_cons_zero, List.set_cons_succ]
        refine wpAnyH_take (i := 7) (oi := { dst := some 3, op := Op.assign (Operand.tmp 15), type := 2, pos := "l07_local.go:205", after := #[{ on := 5, ground := Ground.data }, { on := 6, ground := Ground.chain }, { on := 0, ground := Ground.phase }, { on := 1, ground := Ground.phase }, { on := 2, ground := Ground.phase }, { on := 3, ground := Ground.phase }, { on := 4, ground := Ground.phase }, { on := 5, ground := Ground.phase }, { on := 6, ground := Ground.phase }], guard := none }) (v := ?vva7) rfl (by kernel_rfl) (by kernel_rfl) (by kernel_rfl) (fun _ _ _ h => h) (Or.inl ⟨by rfl, ?hya7⟩) S0 ?resta7
        case hya7 => (intro w hSw; have hcY := hSw.cell;go_simp <;> with_reducible rfl)
        try simp only [Act.put, List.setIfInBounds_toArray, List.set_cons_zero, List.set_cons_succ]
        refine wpAnyH_done (by kernel_rfl) ?_ _
      rotate_left 1
      focus
        go_simp
        obtain ⟨Wn, hWn, hX2, hfar, hbl⟩ := HX.pack7 (.int .i64 r.vni) (.int .i64 r.mac) (.int .i64 r.ip) (.int .i64 r.door) (.int .i64 r.seq) (.int .i64 r.seen) (.bool r.st)
        rw [hWn]
        replace S0 := hfar _ _ _ hqw S0
        try replace AR := hfar _ _ _ (Nat.ne_of_gt hqq) AR
        replace HB := hbl _ _ HB (Nat.le_refl _)
        try clear hcA
        clear HX hcX hfX
        have HX := hX2
        have hcX := HX.cell
        have hfX := HX.frozen
        try have hcA := six_at AR hn0 hn1
        clear hWn hX2 hfar hbl
        refine hK.out _ _ S0 (fun hHeld => ?_)
        clear hK K hHeld
        try simp only [Act.put, List.setIfInBounds_toArray, List.set_cons_zero, List.set_cons_succ]
        refine wpAnyH_ready (rs := [5]) (by kernel_rfl) (by simp) ?_
        refine AllReadyH.cons (o := { dst := some 15, op := Op.load 2 (Operand.tmp 14), type := 2, pos := "l07_local.go:205", after := #[{ on := 4, ground := Ground.data }, { on := 6, ground := Ground.gcOnly Departure.lateStores }], guard := none }) rfl (fun K hK => ?_) AllReadyH.nil
        go_simp
        refine hK.out _ _ S0 (fun hHeld => ?_)
        clear hK K hHeld
        try simp only [Act.put, List.setIfInBounds_toArray, List.set_cons_zero, List.set_cons_succ]
        refine wpAnyH_take (i := 7) (oi := { dst := some 3, op := Op.assign (Operand.tmp 15), type := 2, pos := "l07_local.go:205", after := #[{ on := 5, ground := Ground.data }, { on := 6, ground := Ground.chain }, { on := 0, ground := Ground.phase }, { on := 1, ground := Ground.phase }, { on := 2, ground := Ground.phase }, { on := 3, ground := Ground.phase }, { on := 4, ground := Ground.phase }, { on := 5, ground := Ground.phase }, { on := 6, ground := Ground.phase }], guard := none }) (v := ?vva8) rfl (by kernel_rfl) (by kernel_rfl) (by kernel_rfl) (fun _ _ _ h => h) (Or.inl ⟨by rfl, ?hya8⟩) S0 ?resta8
        case hya8 => (intro w hSw; have hcY := hSw.cell;go_simp <;> with_reducible rfl)
        try simp only [Act.put, List.setIfInBounds_toArray, List.set_cons_zero, List.set_cons_succ]
        refine wpAnyH_done (by kernel_rfl) ?_ _
      rotate_left 1
    rotate_left 2
    focus
      go_simp
      obtain ⟨Wn, hWn, hX2, hfar, hbl⟩ := HX.pack7 (.int .i64 r.vni) (.int .i64 r.mac) (.int .i64 r.ip) (.int .i64 r.door) (.int .i64 r.seq) (.int .i64 r.seen) (.bool r.st)
      rw [hWn]
      replace S0 := hfar _ _ _ hqw S0
      try replace AR := hfar _ _ _ (Nat.ne_of_gt hqq) AR
      replace HB := hbl _ _ HB (Nat.le_refl _)
      try clear hcA
      clear HX hcX hfX
      have HX := hX2
      have hcX := HX.cell
      have hfX := HX.frozen
      try have hcA := six_at AR hn0 hn1
      clear hWn hX2 hfar hbl
      refine hK.out _ _ S0 (fun hHeld => ?_)
      clear hK K hHeld
      try simp only [Act.put, List.setIfInBounds_toArray, List.set_cons_zero, List.set_cons_succ]
      refine wpAnyH_ready (rs := [1]) (by kernel_rfl) (by simp) ?_
      refine AllReadyH.cons (o := { dst := some 11, op := Op.buildSlice 81 6 #[(0, Operand.const (Value.int IntKind.i64 1)), (1, Operand.const (Value.int IntKind.i64 2)), (2, Operand.const (Value.int IntKind.i64 3)), (3, Operand.const (Value.int IntKind.i64 4)), (4, Operand.const (Value.int IntKind.i64 0)), (5, Operand.const (Value.int IntKind.i64 5))], type := 81, pos := "l07_local.go:205", after := #[{ on := 6, ground := Ground.gcOnly Departure.lateStores }], guard := none }) rfl (fun K hK => ?_) AllReadyH.nil
      go_simp
      try have hsl := hs.src.lt
      obtain ⟨Wn, qa, hWn, hqa, AR, bn, hqq⟩ := HX.packG #[.int .i64 1, .int .i64 2, .int .i64 3, .int .i64 4, .int .i64 0, .int .i64 5] 2
      rw [hWn, hqa]
      have hqg : (∀ x : Unit, True) := fun _ => trivial
      try replace hs := hs.alloc (.cells #[.int .i64 1, .int .i64 2, .int .i64 3, .int .i64 4, .int .i64 0, .int .i64 5] 2)
      try rw [hWn] at hs
      try have hga := Nat.ne_of_lt (hqa ▸ hsl)
      replace HX := HX.kept bn
      replace S0 := S0.kept bn
      replace HB := HB.trans (bn.mono HB.size)
      clear hcX hfX
      have hcX := HX.cell
      have hfX := HX.frozen
      try have hcA := six_at AR hn0 hn1
      clear hWn bn hqg
      refine hK.out _ _ S0 (fun hHeld => ?_)
      clear hK K hHeld
      try simp only [Act.put, List.setIfInBounds_toArray, List.set_cons_zero, List.set_cons_succ]
      refine wpAnyH_take (i := 4) (oi := { dst := some 14, op := Op.indexAddr 81 (Operand.tmp 11) (Operand.tmp 13), type := 0, pos := "l07_local.go:205", after := #[{ on := 1, ground := Ground.data }, { on := 3, ground := Ground.data }, { on := 6, ground := Ground.gcOnly Departure.lateStores }], guard := none }) (v := ?vva9) rfl (by kernel_rfl) (by kernel_rfl) (by kernel_rfl) (fun _ _ _ h => h) (Or.inl ⟨by rfl, ?hya9⟩) S0 ?resta9
      case hya9 => (intro w hSw; have hcY := hSw.cell;go_simp <;> with_reducible rfl)
      try simp only [Act.put, List.setIfInBounds_toArray, List.set_cons_zero, List.set_cons_succ]
      refine wpAnyH_ready (rs := [5]) (by kernel_rfl) (by simp) ?_
      refine AllReadyH.cons (o := { dst := some 15, op := Op.load 2 (Operand.tmp 14), type := 2, pos := "l07_local.go:205", after := #[{ on := 4, ground := Ground.data }, { on := 6, ground := Ground.gcOnly Departure.lateStores }], guard := none }) rfl (fun K hK => ?_) AllReadyH.nil
      go_simp
      refine hK.out _ _ S0 (fun hHeld => ?_)
      clear hK K hHeld
      try simp only [Act.put, List.setIfInBounds_toArray, List.set_cons_zero, List.set_cons_succ]
      refine wpAnyH_take (i := 7) (oi := { dst := some 3, op := Op.assign (Operand.tmp 15), type := 2, pos := "l07_local.go:205", after := #[{ on := 5, ground := Ground.data }, { on := 6, ground := Ground.chain }, { on := 0, ground := Ground.phase }, { on := 1, ground := Ground.phase }, { on := 2, ground := Ground.phase }, { on := 3, ground := Ground.phase }, { on := 4, ground := Ground.phase }, { on := 5, ground := Ground.phase }, { on := 6, ground := Ground.phase }], guard := none }) (v := ?vva10) rfl (by kernel_rfl) (by kernel_rfl) (by kernel_rfl) (fun _ _ _ h => h) (Or.inl ⟨by rfl, ?hya10⟩) S0 ?resta10
      case hya10 => (intro w hSw; have hcY := hSw.cell;go_simp <;> with_reducible rfl)
      try simp only [Act.put, List.setIfInBounds_toArray, List.set_cons_zero, List.set_cons_succ]
      refine wpAnyH_done (by kernel_rfl) ?_ _
    rotate_left 1
  rotate_left 3
  all_goals
    have HBB := Lib.hid HB
    go_wp2_with fail
    refine bodyPost_ret (v := .tuple #[r.val, .int .i64 (sixOf n)]) ?_ rfl ⟨r, sixOf n, rfl, HBB.out⟩
    simp [results, Try.results44, go_sem, Gu.val, hcX]
end Go.Proofs.Ythilmonokhdjmaa
