/- RibSweep: its mathematics; the model's. -/
import Derived.Test.YtmkoppbbenombaaRbT
import Derived.Test.YtmkoppbbenombaaHpX
import Derived.Test.YtmkoppbbenombaaMg
namespace Go.Proofs.Ytmkoppbbenombaa
open Go.RowKit
abbrev o43b8b_0 : Oper := { dst := some 29, op := Op.load 31 (Operand.tmp 28), type := 31, pos := "l06_rib.go:116", after := #[{ on := 0, ground := Ground.data }], guard := none }
abbrev o43b8b_1 : Oper := { dst := some 34, op := Op.load 35 (Operand.tmp 33), type := 35, pos := "l06_rib.go:116", after := #[{ on := 5, ground := Ground.data }], guard := none }
abbrev o43b8b_2 : Oper := { dst := some 35, op := Op.buildSlice 31 1 #[(0, Operand.tmp 34)], type := 31, pos := "l06_rib.go:116", after := #[{ on := 6, ground := Ground.data }], guard := none }
abbrev o43b8b_3 : Oper := { dst := some 36, op := Op.call { callee := Callee.builtin Builtin.append, args := #[Operand.tmp 29, Operand.tmp 35], argTypes := #[31, 31] }, type := 31, pos := "l06_rib.go:116", after := #[{ on := 1, ground := Ground.data }, { on := 7, ground := Ground.data }], guard := none }
abbrev o43b8b_4 : Oper := { dst := none, op := Op.store 31 (Operand.tmp 37) (Operand.tmp 36), type := 0, pos := "l06_rib.go:116", after := #[{ on := 9, ground := Ground.data }, { on := 8, ground := Ground.data }, { on := 8, ground := Ground.chain }, { on := 0, ground := Ground.phase }, { on := 1, ground := Ground.phase }, { on := 2, ground := Ground.phase }, { on := 3, ground := Ground.phase }, { on := 4, ground := Ground.phase }, { on := 5, ground := Ground.phase }, { on := 6, ground := Ground.phase }, { on := 7, ground := Ground.phase }, { on := 8, ground := Ground.phase }], guard := none }
abbrev o43b8b_5 : Oper := { dst := some 39, op := Op.load 25 (Operand.tmp 38), type := 25, pos := "l06_rib.go:118", after := #[{ on := 0, ground := Ground.data }], guard := none }
abbrev o43b8b_6 : Oper := { dst := some 43, op := Op.load 77 (Operand.tmp 42), type := 77, pos := "l06_rib.go:118", after := #[{ on := 4, ground := Ground.data }], guard := none }
abbrev o43b8b_7 : Oper := { dst := some 44, op := Op.buildSlice 25 1 #[(0, Operand.tmp 43)], type := 25, pos := "l06_rib.go:118", after := #[{ on := 5, ground := Ground.data }], guard := none }
abbrev o43b8b_8 : Oper := { dst := some 45, op := Op.call { callee := Callee.builtin Builtin.append, args := #[Operand.tmp 39, Operand.tmp 44], argTypes := #[25, 25] }, type := 25, pos := "l06_rib.go:118", after := #[{ on := 1, ground := Ground.data }, { on := 6, ground := Ground.data }], guard := none }
abbrev o43b8b_9 : Oper := { dst := none, op := Op.store 25 (Operand.tmp 46) (Operand.tmp 45), type := 0, pos := "l06_rib.go:118", after := #[{ on := 8, ground := Ground.data }, { on := 7, ground := Ground.data }, { on := 7, ground := Ground.chain }, { on := 0, ground := Ground.phase }, { on := 1, ground := Ground.phase }, { on := 2, ground := Ground.phase }, { on := 3, ground := Ground.phase }, { on := 4, ground := Ground.phase }, { on := 5, ground := Ground.phase }, { on := 6, ground := Ground.phase }, { on := 7, ground := Ground.phase }], guard := none }

def goneB (p : Int) (h : Hd) : Bool := (h.p == p) && h.s
def keepL (p : Int) (l : List Hd) : List Hd := l.filter fun h => !goneB p h
def goneL (p : Int) (l : List Hd) : List Rt := (l.filter (goneB p)).map Hd.r
def sweepR (l : List Hd) (p : Int) : Ro := if faultOf l p = 0 then ⟨keepL p l, goneL p l, 0⟩ else roIll (faultOf l p)
theorem sweepR_ill {l : List Hd} {p c : Int} (h : faultOf l p = c) (hc : c ≠ 0) : sweepR l p = roIll c := by rw [sweepR, h, if_neg hc]
theorem sweepR_ok {l : List Hd} {p : Int} (h : faultOf l p = 0) : sweepR l p = ⟨keepL p l, goneL p l, 0⟩ := by rw [sweepR, if_pos h]
theorem keepL_succ (p : Int) (l : List Hd) (i : Nat) (hi : i < l.length) : keepL p (l.take (i + 1)) = if goneB p l[i] = true then keepL p (l.take i) else keepL p (l.take i) ++ [l[i]] := by
  rw [keepL, List.take_succ_eq_append_getElem hi, List.filter_append]
  cases h : goneB p l[i] <;> simp [h, keepL]
theorem goneL_succ (p : Int) (l : List Hd) (i : Nat) (hi : i < l.length) : goneL p (l.take (i + 1)) = if goneB p l[i] = true then goneL p (l.take i) ++ [(l[i]).r] else goneL p (l.take i) := by
  rw [goneL, List.take_succ_eq_append_getElem hi, List.filter_append, List.map_append]
  cases h : goneB p l[i] <;> simp [h, goneL]
theorem keepL_len (p : Int) (l : List Hd) (i : Nat) : (keepL p (l.take i)).length ≤ l.length := by
  have h1 := List.length_filter_le (fun h => !goneB p h) (l.take i)
  have h2 : (l.take i).length ≤ l.length := by rw [List.length_take]; omega
  unfold keepL; omega
theorem goneL_len (p : Int) (l : List Hd) (i : Nat) : (goneL p (l.take i)).length ≤ l.length := by
  have h1 := List.length_filter_le (goneB p) (l.take i)
  have h2 : (l.take i).length ≤ l.length := by rw [List.length_take]; omega
  unfold goneL; rw [List.length_map]; omega
theorem sweepR_len (l : List Hd) (p : Int) : (sweepR l p).rib.length + (sweepR l p).gone.length ≤ 200 := by
  unfold sweepR
  have := fault_way l p
  split
  · rename_i h
    have h1 := List.length_filter_le (fun h => !goneB p h) l
    have h2 := List.length_filter_le (goneB p) l
    rcases this with ⟨_, h3⟩ | ⟨_, _, h3⟩ | ⟨_, _, _, h3⟩ | ⟨_, _, _, h4, _⟩
    · omega
    · omega
    · omega
    · unfold keepL goneL; simp only [List.length_map]; omega
  · simp [roIll]
/- two rows that a call makes beside each other, in a boxed answer -/
structure Two (w wr : World) (qo : Nat) (y t : Value) (rib : List Hd) (gone : List Rt) : Prop where
  out : Blk wr qo 33 #[y, t, .int .i64 0]
  row : wr.ownsRow w.heap.size 77 9 y rib.length (rcells Hd.cl rib)
  rot : wr.ownsRow w.heap.size 35 7 t gone.length (rcells Rt.cl gone)
  bel : Below w.heap.size w wr
theorem apart_types {W : World} {B B' n n' : Nat} {y t : Value} {xs ys : List Value} (h : W.ownsRow B 77 9 y n xs) (k : W.ownsRow B' 35 7 t n' ys) : y.ownBlock = none ∨ y.ownBlock ≠ t.ownBlock := by
  rcases h.2 with ⟨rfl, _⟩ | ⟨g, cap, cu, rfl, _, hg, _⟩
  · exact .inl rfl
  · right
    rcases k.2 with ⟨rfl, _⟩ | ⟨g', cap', cu', rfl, _, hg', _⟩
    · simp [Value.ownBlock]
    · intro e
      simp [Value.ownBlock] at e
      subst e
      rw [hg] at hg'
      simp at hg'
theorem own_ne {W : World} {b B n sz : Nat} {t t' : TypeId} {cs : Array Value} {v : Value} {xs : List Value} (h : Blk W b t cs) (ho : W.ownsRow B t' sz v n xs) (hne : t ≠ t') : v.ownBlock ≠ some b := fun e => blk_not_own1 h ho hne e.symm
theorem Two.gone {w wr w5 : World} {qo : Nat} {y t : Value} {rib : List Hd} {gone : List Rt} {r : Rt} {o : Obj} {a5 : Option Addr} {n5 c5 : Nat} (h : Two w wr qo y t rib gone) (hq : w.heap.size ≤ qo) (hn5 : n5 = (gone ++ [r]).length)
    (ho : w5.ownsRow w.heap.size 35 7 (.slice a5 n5 c5) n5 (rcells Rt.cl (gone ++ [r]))) (hg : (wr.alloc o).grownBy w5 t.ownBlock) :
    Blk w5 qo 33 #[y, t, .int .i64 0] ∧ Two w (w5.setCell ⟨qo, 1, none⟩ (.slice a5 n5 c5)) qo y (.slice a5 n5 c5) rib (gone ++ [r]) ∧ ∀ b t' cs, t' ≠ 35 → b ≠ qo → Blk wr b t' cs → Blk (w5.setCell ⟨qo, 1, none⟩ (.slice a5 n5 c5)) b t' cs := by
  have h5 := (h.out.alloc o).grown hg (blk_not_own1 (h.out.alloc o) (h.rot.alloc o) (by decide))
  have hy5 := (h.row.alloc o).kept hg (apart_types (h.row.alloc o) (h.rot.alloc o))
  have hset := h5.set 1 (.slice a5 n5 c5)
  simp only [List.setIfInBounds_toArray, List.set_cons_zero, List.set_cons_succ] at hset
  refine ⟨h5, ⟨hset, hy5.kept (row := some qo) (grownSet (World.grownBy.refl _ _)) (.inr (own_ne h5 hy5 (by decide))), ?_, (app_below h.bel h.bel.size h.rot hg).setCell hq _⟩, fun b t' cs hne hbq hb => ?_⟩
  · rw [← hn5]
    exact ho.kept (row := some qo) (grownSet (World.grownBy.refl _ _)) (.inr (own_ne h5 ho (by decide)))
  · exact ((hb.alloc o).grown hg (blk_not_own1 (hb.alloc o) (h.rot.alloc o) hne)).far hbq
theorem Two.keep {w wr w5 : World} {qo : Nat} {y t : Value} {rib : List Hd} {gone : List Rt} {x : Hd} {o : Obj} {a5 : Option Addr} {n5 c5 : Nat} (h : Two w wr qo y t rib gone) (hq : w.heap.size ≤ qo) (hn5 : n5 = (rib ++ [x]).length)
    (ho : w5.ownsRow w.heap.size 77 9 (.slice a5 n5 c5) n5 (rcells Hd.cl (rib ++ [x]))) (hg : (wr.alloc o).grownBy w5 y.ownBlock) :
    Blk w5 qo 33 #[y, t, .int .i64 0] ∧ Two w (w5.setCell ⟨qo, 0, none⟩ (.slice a5 n5 c5)) qo (.slice a5 n5 c5) t (rib ++ [x]) gone ∧ ∀ b t' cs, t' ≠ 77 → b ≠ qo → Blk wr b t' cs → Blk (w5.setCell ⟨qo, 0, none⟩ (.slice a5 n5 c5)) b t' cs := by
  have h5 := (h.out.alloc o).grown hg (blk_not_own1 (h.out.alloc o) (h.row.alloc o) (by decide))
  have ht5 := (h.rot.alloc o).kept hg (by
    rcases apart_types (h.row.alloc o) (h.rot.alloc o) with e | e
    · rw [e]; cases t.ownBlock with
      | none => exact .inl rfl
      | some k => exact .inr (by simp)
    · exact .inr (fun e2 => e e2.symm))
  have hset := h5.set 0 (.slice a5 n5 c5)
  simp only [List.setIfInBounds_toArray, List.set_cons_zero] at hset
  refine ⟨h5, ⟨hset, ?_, ht5.kept (row := some qo) (grownSet (World.grownBy.refl _ _)) (.inr (own_ne h5 ht5 (by decide))), (app_below h.bel h.bel.size h.row hg).setCell hq _⟩, fun b t' cs hne hbq hb => ?_⟩
  · rw [← hn5]
    exact ho.kept (row := some qo) (grownSet (World.grownBy.refl _ _)) (.inr (own_ne h5 ho (by decide)))
  · exact ((hb.alloc o).grown hg (blk_not_own1 (hb.alloc o) (h.row.alloc o) hne)).far hbq
theorem cellD {w W : World} (h : W = w.drew) {a : Addr} {v : Value} (e : w.cell? a = some v) : W.cell? a = some v := by
  rw [h]
  exact e
theorem sizeD {w W : World} (h : W = w.drew) {b : Nat} (e : b < w.heap.size) : b < W.heap.size := by
  rw [h]
  exact e
set_option maxRecDepth 100000 in
set_option maxHeartbeats 8000000 in
theorem specSweepIn_any (l : List Hd) (v : Value) (p : Int) (w : World) (h : HdsAt w v l) (hn : l.length ≤ 60) :
    Calls Try.prog 80 #[v, .int .i64 p] w (RoPost ⟨keepL p l, goneL p l, 0⟩ w) := by
  have HKs := Lib.hid (fun (i : Nat) (hi : i < l.length) => keepL_succ p l i hi)
  have HGs := Lib.hid (fun (i : Nat) (hi : i < l.length) => goneL_succ p l i hi)
  have HKl := Lib.hid (fun (i : Nat) => keepL_len p l i)
  have HGl := Lib.hid (fun (i : Nat) => goneL_len p l i)
  have HZ : Hid (keepL p l = keepL p (l.take l.length) ∧ goneL p l = goneL p (l.take l.length)) := Lib.hid (by rw [List.take_length]; exact ⟨rfl, rfl⟩)
  obtain ⟨a, cap, rfl, h⟩ := h
  rw [List.length_map] at *
  have HH := Lib.hid h
  clear h
  obtain ⟨n, hnn⟩ : ∃ n, n = l.length := ⟨_, rfl⟩
  rw [← hnn] at hn HZ HKl HGl ⊢
  have HN := Lib.hid hnn
  clear hnn
  have A0 := ((MemAt.start w).new 33 #[.slice none 0 0, .slice none 0 0, .int .i64 0]).new 33 #[.slice none 0 0, .slice none 0 0, .int .i64 0]
  rw [World.size_alloc] at A0
  have HT0 : Hid (Two w ((w.alloc (.cells #[.slice none 0 0, .slice none 0 0, .int .i64 0] 33)).alloc (.cells #[.slice none 0 0, .slice none 0 0, .int .i64 0] 33)) (w.heap.size + 1) (.slice none 0 0) (.slice none 0 0) (keepL p (l.take 0)) (goneL p (l.take 0))) := Lib.hid ⟨A0.b0, World.ownsRow_nil _ _ _ _, World.ownsRow_nil _ _ _ _, A0.bel⟩
  have HR0 := Lib.hid A0.b1
  clear A0
  unfold RoPost
  go_enter Try.func80, Try.ntmps80
  go_upto_region 2 with fail
  generalize (w.alloc (.cells #[.slice none 0 0, .slice none 0 0, .int .i64 0] 33)).alloc (.cells #[.slice none 0 0, .slice none 0 0, .int .i64 0] 33) = W0 at *
  go_wp2_with fail
  go_loopw [6] (fun u wr => ∃ (i : Nat) (y t : Value), i ≤ n ∧ u = .int .i64 (i : Int) ∧ Hid (Two w wr (w.heap.size + 1) y t (keepL p (l.take i)) (goneL p (l.take i))) ∧ Hid (Blk wr w.heap.size 33 #[.slice none 0 0, .slice none 0 0, .int .i64 0])) (fun u _ => n - (intOf u).toNat)
  case atStart => exact ⟨0, _, _, Nat.zero_le _, rfl, HT0, HR0⟩
  case round =>
    clear HT0 HR0
    obtain ⟨i, y, t, hi, rfl, HT, HR⟩ := hrel
    by_cases hlt : i < n
    · have hne : l.map Hd.cl ≠ [] := fun e => by
        have := congrArg List.length e
        rw [List.length_map, ← HN.out] at this
        simp at this; omega
      obtain ⟨b, off, ha, hb, HE⟩ := HH.out hne
      subst ha
      have hir : i < l.length := by rw [← HN.out]; exact hlt
      have hl1 : (i : Int) < n := by omega
      obtain ⟨p0, p1, p2, p3, p4, p5, p6, p7, p8⟩ := (elemsB HE HT.out.bel hb).hd i hir
      have HK1 := Lib.hid (HKs.out i hir)
      have HG1 := Lib.hid (HGs.out i hir)
      have hk60 := HKl.out i
      have hg60 := HGl.out i
      have hbw : b < wr.heap.size := Nat.lt_of_lt_of_le hb HT.out.bel.size
      clear HE
      generalize l[i] = x at *
      generalize keepL p (l.take i) = rib at *
      generalize goneL p (l.take i) = gone at *
      obtain ⟨ya, yc, rfl⟩ := rown_form HT.out.row
      obtain ⟨ta, tc, rfl⟩ := rown_form HT.out.rot
      obtain ⟨xp, xs, xr⟩ := x
      dsimp only at *
      have hcO := HT.out.out.cell
      have hqlt := HT.out.out.lt
      by_cases hgn : goneB p ⟨xp, xs, xr⟩ = true
      · have hg2 := hgn
        unfold goneB at hg2
        simp only [Bool.and_eq_true, beq_iff_eq] at hg2
        obtain ⟨rfl, rfl⟩ := hg2
        rw [if_pos hgn] at HK1 HG1
        have T0 : Two w wr.drew (w.heap.size + 1) (.slice ya rib.length yc) (.slice ta gone.length tc) rib gone := ⟨HT.out.out.drew, HT.out.row, HT.out.rot, HT.out.bel.drew⟩
        have R0 : Blk wr.drew w.heap.size 33 #[.slice none 0 0, .slice none 0 0, .int .i64 0] := HR.out.drew
        clear hgn
        go_upto_region 6 with fail
        refine wp_region_any (by kernel_rfl) ?_
        try (change wpAny _ _ _ _ _ _ _ (World.drew _))
        obtain ⟨Wd, hWd⟩ : ∃ W, W = wr.drew := ⟨_, rfl⟩
        have q2 := cellD hWd p2
        have q3 := cellD hWd p3
        have q4 := cellD hWd p4
        have q5 := cellD hWd p5
        have q6 := cellD hWd p6
        have q7 := cellD hWd p7
        have q8 := cellD hWd p8
        have hbw2 := sizeD hWd hbw
        rw [← hWd] at T0 R0 ⊢
        clear hWd p0 p1 p2 p3 p4 p5 p6 p7 p8 hcO hqlt hbw
        have hcO := T0.out.cell
        have hqlt := T0.out.lt
        obtain ⟨a5, c5, n5, w5, hrun, hn5, hown5, hg5⟩ := run_append_row Rt.cl_len Rt.cl_one1 tyR Wd w.heap.size (.slice ta gone.length tc) gone xr #[.int .i64 xr.kind, .int .i64 xr.vni, .int .i64 xr.mac, .int .i64 xr.ip, .int .i64 xr.org, .int .i64 xr.seq, .bool xr.st] rfl T0.rot (by omega) T0.bel.size 31
        have HRUN := Lib.hid hrun
        have HE := Lib.hid (T0.gone (by omega) hn5 hown5 hg5)
        have c5x := HE.out.1.cell
        have f5x := HE.out.1.frozen
        have HN5 := Lib.hid hn5
        clear hrun hown5 hg5 hn5
        refine wpAny_take (i := 0) (v := ?vva1) rfl (by kernel_rfl) (by kernel_rfl) (by kernel_rfl) (fun _ _ _ h => h) (Or.inl ⟨by rfl, ?hya1⟩) ?resta1
        case hya1 => (intro w; go_simp <;> with_reducible rfl)
        refine wpAny_take (i := 2) (v := ?vva2) rfl (by kernel_rfl) (by kernel_rfl) (by kernel_rfl) (fun _ _ _ h => h) (Or.inl ⟨by rfl, ?hya2⟩) ?resta2
        case hya2 => (intro w; go_simp <;> with_reducible rfl)
        refine wpAny_take (i := 3) (v := ?vva3) rfl (by kernel_rfl) (by kernel_rfl) (by kernel_rfl) (fun _ _ _ h => h) (Or.inl ⟨by rfl, ?hya3⟩) ?resta3
        case hya3 => (intro w; go_simp <;> with_reducible rfl)
        refine wpAny_take (i := 4) (v := ?vva4) rfl (by kernel_rfl) (by kernel_rfl) (by kernel_rfl) (fun _ _ _ h => h) (Or.inl ⟨by rfl, ?hya4⟩) ?resta4
        case hya4 => (intro w; go_simp <;> with_reducible rfl)
        refine wpAny_take (i := 5) (v := ?vva5) rfl (by kernel_rfl) (by kernel_rfl) (by kernel_rfl) (fun _ _ _ h => h) (Or.inl ⟨by rfl, ?hya5⟩) ?resta5
        case hya5 => (intro w; go_simp <;> with_reducible rfl)
        refine wpAny_ready (rs := [1, 6]) (by kernel_rfl) (by simp) ?_
        refine (AllReady.cons (o := o43b8b_0) rfl (fun K hK => ?_) (AllReady.cons (o := o43b8b_1) rfl (fun K hK => ?_) AllReady.nil))
        focus
          go_simp
          refine hK _ _ ?_
          clear hK K
          refine wpAny_ready (rs := [6]) (by kernel_rfl) (by simp) ?_
          refine AllReady.cons (o := o43b8b_1) rfl (fun K hK => ?_) AllReady.nil
          go_simp
          refine hK _ _ ?_
          clear hK K
          refine wpAny_ready (rs := [7]) (by kernel_rfl) (by simp) ?_
          refine AllReady.cons (o := o43b8b_2) rfl (fun K hK => ?_) AllReady.nil
          go_simp
          refine hK _ _ ?_
          clear hK K
          refine wpAny_ready (rs := [8]) (by kernel_rfl) (by simp) ?_
          refine AllReady.cons (o := o43b8b_3) rfl (fun K hK => ?_) AllReady.nil
          refine step_run_app rfl _ _ _ rfl _ _ _ _ rfl rfl HRUN.out ?_
          refine hK _ _ ?_
          clear hK K
          refine wpAny_take (i := 9) (v := ?vva6) rfl (by kernel_rfl) (by kernel_rfl) (by kernel_rfl) (fun _ _ _ h => h) (Or.inl ⟨by rfl, ?hya6⟩) ?resta6
          case hya6 => (intro w; go_simp <;> with_reducible rfl)
          refine wpAny_ready (rs := [10]) (by kernel_rfl) (by simp) ?_
          refine AllReady.cons (o := o43b8b_4) rfl (fun K hK => ?_) AllReady.nil
          go_simp
          refine hK _ _ ?_
          clear hK K
          refine wpAny_done (by kernel_rfl) ?_ _
        rotate_left 1
        focus
          go_simp
          refine hK _ _ ?_
          clear hK K
          refine wpAny_ready (rs := [1, 7]) (by kernel_rfl) (by simp) ?_
          refine (AllReady.cons (o := o43b8b_0) rfl (fun K hK => ?_) (AllReady.cons (o := o43b8b_2) rfl (fun K hK => ?_) AllReady.nil))
          focus
            go_simp
            refine hK _ _ ?_
            clear hK K
            refine wpAny_ready (rs := [7]) (by kernel_rfl) (by simp) ?_
            refine AllReady.cons (o := o43b8b_2) rfl (fun K hK => ?_) AllReady.nil
            go_simp
            refine hK _ _ ?_
            clear hK K
            refine wpAny_ready (rs := [8]) (by kernel_rfl) (by simp) ?_
            refine AllReady.cons (o := o43b8b_3) rfl (fun K hK => ?_) AllReady.nil
            refine step_run_app rfl _ _ _ rfl _ _ _ _ rfl rfl HRUN.out ?_
            refine hK _ _ ?_
            clear hK K
            refine wpAny_take (i := 9) (v := ?vva7) rfl (by kernel_rfl) (by kernel_rfl) (by kernel_rfl) (fun _ _ _ h => h) (Or.inl ⟨by rfl, ?hya7⟩) ?resta7
            case hya7 => (intro w; go_simp <;> with_reducible rfl)
            refine wpAny_ready (rs := [10]) (by kernel_rfl) (by simp) ?_
            refine AllReady.cons (o := o43b8b_4) rfl (fun K hK => ?_) AllReady.nil
            go_simp
            refine hK _ _ ?_
            clear hK K
            refine wpAny_done (by kernel_rfl) ?_ _
          rotate_left 1
          focus
            go_simp
            refine hK _ _ ?_
            clear hK K
            refine wpAny_ready (rs := [1]) (by kernel_rfl) (by simp) ?_
            refine AllReady.cons (o := o43b8b_0) rfl (fun K hK => ?_) AllReady.nil
            go_simp
            refine hK _ _ ?_
            clear hK K
            refine wpAny_ready (rs := [8]) (by kernel_rfl) (by simp) ?_
            refine AllReady.cons (o := o43b8b_3) rfl (fun K hK => ?_) AllReady.nil
            refine step_run_app rfl _ _ _ rfl _ _ _ _ rfl rfl HRUN.out ?_
            refine hK _ _ ?_
            clear hK K
            refine wpAny_take (i := 9) (v := ?vva8) rfl (by kernel_rfl) (by kernel_rfl) (by kernel_rfl) (fun _ _ _ h => h) (Or.inl ⟨by rfl, ?hya8⟩) ?resta8
            case hya8 => (intro w; go_simp <;> with_reducible rfl)
            refine wpAny_ready (rs := [10]) (by kernel_rfl) (by simp) ?_
            refine AllReady.cons (o := o43b8b_4) rfl (fun K hK => ?_) AllReady.nil
            go_simp
            refine hK _ _ ?_
            clear hK K
            refine wpAny_done (by kernel_rfl) ?_ _
          rotate_left 1
        rotate_left 2
        all_goals
          go_wp2_with fail
          go_roundw
          case rel => exact ⟨i + 1, _, _, by omega, by simp, by rw [HK1.out, HG1.out]; exact Lib.hid HE.out.2.1, Lib.hid (HE.out.2.2 _ _ _ (by decide) (by omega) R0)⟩
          case measure => simp [intOf]; omega
      · rw [if_neg hgn] at HK1 HG1
        have T0 : Two w wr.drew (w.heap.size + 1) (.slice ya rib.length yc) (.slice ta gone.length tc) rib gone := ⟨HT.out.out.drew, HT.out.row, HT.out.rot, HT.out.bel.drew⟩
        have R0 : Blk wr.drew w.heap.size 33 #[.slice none 0 0, .slice none 0 0, .int .i64 0] := HR.out.drew
        have hor : ¬ xp = p ∨ (xp = p ∧ xs = false) := by
          by_cases e : xp = p
          · right
            refine ⟨e, ?_⟩
            cases xs
            · rfl
            · exact absurd (by simp [goneB, e]) hgn
          · exact .inl e
        rcases hor with hor | hor
        · have hne : ¬ xp = p := hor
          clear hgn
          go_upto_region 7 with fail
          refine wp_region_any (by kernel_rfl) ?_
          try (change wpAny _ _ _ _ _ _ _ (World.drew _))
          obtain ⟨Wd, hWd⟩ : ∃ W, W = wr.drew := ⟨_, rfl⟩
          have q0 := cellD hWd p0
          have q1 := cellD hWd p1
          have q2 := cellD hWd p2
          have q3 := cellD hWd p3
          have q4 := cellD hWd p4
          have q5 := cellD hWd p5
          have q6 := cellD hWd p6
          have q7 := cellD hWd p7
          have q8 := cellD hWd p8
          have hbw2 := sizeD hWd hbw
          rw [← hWd] at T0 R0 ⊢
          clear hWd p0 p1 p2 p3 p4 p5 p6 p7 p8 hcO hqlt hbw
          have hcO := T0.out.cell
          have hqlt := T0.out.lt
          obtain ⟨a5, c5, n5, w5, hrun, hn5, hown5, hg5⟩ := run_append_row Hd.cl_len Hd.cl_one1 tyH Wd w.heap.size (.slice ya rib.length yc) rib (⟨xp, xs, xr⟩ : Hd) #[.int .i64 xp, .bool xs, .int .i64 xr.kind, .int .i64 xr.vni, .int .i64 xr.mac, .int .i64 xr.ip, .int .i64 xr.org, .int .i64 xr.seq, .bool xr.st] rfl T0.row (by omega) T0.bel.size 25
          have HRUN := Lib.hid hrun
          have HE := Lib.hid (T0.keep (by omega) hn5 hown5 hg5)
          have c5x := HE.out.1.cell
          have f5x := HE.out.1.frozen
          have HN5 := Lib.hid hn5
          clear hrun hown5 hg5 hn5
          refine wpAny_take (i := 0) (v := ?vvb1) rfl (by kernel_rfl) (by kernel_rfl) (by kernel_rfl) (fun _ _ _ h => h) (Or.inl ⟨by rfl, ?hyb1⟩) ?restb1
          case hyb1 => (intro w; go_simp <;> with_reducible rfl)
          refine wpAny_take (i := 2) (v := ?vvb2) rfl (by kernel_rfl) (by kernel_rfl) (by kernel_rfl) (fun _ _ _ h => h) (Or.inl ⟨by rfl, ?hyb2⟩) ?restb2
          case hyb2 => (intro w; go_simp <;> with_reducible rfl)
          refine wpAny_take (i := 3) (v := ?vvb3) rfl (by kernel_rfl) (by kernel_rfl) (by kernel_rfl) (fun _ _ _ h => h) (Or.inl ⟨by rfl, ?hyb3⟩) ?restb3
          case hyb3 => (intro w; go_simp <;> with_reducible rfl)
          refine wpAny_take (i := 4) (v := ?vvb4) rfl (by kernel_rfl) (by kernel_rfl) (by kernel_rfl) (fun _ _ _ h => h) (Or.inl ⟨by rfl, ?hyb4⟩) ?restb4
          case hyb4 => (intro w; go_simp <;> with_reducible rfl)
          refine wpAny_ready (rs := [1, 5]) (by kernel_rfl) (by simp) ?_
          refine (AllReady.cons (o := o43b8b_5) rfl (fun K hK => ?_) (AllReady.cons (o := o43b8b_6) rfl (fun K hK => ?_) AllReady.nil))
          focus
            go_simp
            refine hK _ _ ?_
            clear hK K
            refine wpAny_ready (rs := [5]) (by kernel_rfl) (by simp) ?_
            refine AllReady.cons (o := o43b8b_6) rfl (fun K hK => ?_) AllReady.nil
            go_simp
            refine hK _ _ ?_
            clear hK K
            refine wpAny_ready (rs := [6]) (by kernel_rfl) (by simp) ?_
            refine AllReady.cons (o := o43b8b_7) rfl (fun K hK => ?_) AllReady.nil
            go_simp
            refine hK _ _ ?_
            clear hK K
            refine wpAny_ready (rs := [7]) (by kernel_rfl) (by simp) ?_
            refine AllReady.cons (o := o43b8b_8) rfl (fun K hK => ?_) AllReady.nil
            refine step_run_app rfl _ _ _ rfl _ _ _ _ rfl rfl HRUN.out ?_
            refine hK _ _ ?_
            clear hK K
            refine wpAny_take (i := 8) (v := ?vvb5) rfl (by kernel_rfl) (by kernel_rfl) (by kernel_rfl) (fun _ _ _ h => h) (Or.inl ⟨by rfl, ?hyb5⟩) ?restb5
            case hyb5 => (intro w; go_simp <;> with_reducible rfl)
            refine wpAny_ready (rs := [9]) (by kernel_rfl) (by simp) ?_
            refine AllReady.cons (o := o43b8b_9) rfl (fun K hK => ?_) AllReady.nil
            go_simp
            refine hK _ _ ?_
            clear hK K
            refine wpAny_done (by kernel_rfl) ?_ _
          rotate_left 1
          focus
            go_simp
            refine hK _ _ ?_
            clear hK K
            refine wpAny_ready (rs := [1, 6]) (by kernel_rfl) (by simp) ?_
            refine (AllReady.cons (o := o43b8b_5) rfl (fun K hK => ?_) (AllReady.cons (o := o43b8b_7) rfl (fun K hK => ?_) AllReady.nil))
            focus
              go_simp
              refine hK _ _ ?_
              clear hK K
              refine wpAny_ready (rs := [6]) (by kernel_rfl) (by simp) ?_
              refine AllReady.cons (o := o43b8b_7) rfl (fun K hK => ?_) AllReady.nil
              go_simp
              refine hK _ _ ?_
              clear hK K
              refine wpAny_ready (rs := [7]) (by kernel_rfl) (by simp) ?_
              refine AllReady.cons (o := o43b8b_8) rfl (fun K hK => ?_) AllReady.nil
              refine step_run_app rfl _ _ _ rfl _ _ _ _ rfl rfl HRUN.out ?_
              refine hK _ _ ?_
              clear hK K
              refine wpAny_take (i := 8) (v := ?vvb6) rfl (by kernel_rfl) (by kernel_rfl) (by kernel_rfl) (fun _ _ _ h => h) (Or.inl ⟨by rfl, ?hyb6⟩) ?restb6
              case hyb6 => (intro w; go_simp <;> with_reducible rfl)
              refine wpAny_ready (rs := [9]) (by kernel_rfl) (by simp) ?_
              refine AllReady.cons (o := o43b8b_9) rfl (fun K hK => ?_) AllReady.nil
              go_simp
              refine hK _ _ ?_
              clear hK K
              refine wpAny_done (by kernel_rfl) ?_ _
            rotate_left 1
            focus
              go_simp
              refine hK _ _ ?_
              clear hK K
              refine wpAny_ready (rs := [1]) (by kernel_rfl) (by simp) ?_
              refine AllReady.cons (o := o43b8b_5) rfl (fun K hK => ?_) AllReady.nil
              go_simp
              refine hK _ _ ?_
              clear hK K
              refine wpAny_ready (rs := [7]) (by kernel_rfl) (by simp) ?_
              refine AllReady.cons (o := o43b8b_8) rfl (fun K hK => ?_) AllReady.nil
              refine step_run_app rfl _ _ _ rfl _ _ _ _ rfl rfl HRUN.out ?_
              refine hK _ _ ?_
              clear hK K
              refine wpAny_take (i := 8) (v := ?vvb7) rfl (by kernel_rfl) (by kernel_rfl) (by kernel_rfl) (fun _ _ _ h => h) (Or.inl ⟨by rfl, ?hyb7⟩) ?restb7
              case hyb7 => (intro w; go_simp <;> with_reducible rfl)
              refine wpAny_ready (rs := [9]) (by kernel_rfl) (by simp) ?_
              refine AllReady.cons (o := o43b8b_9) rfl (fun K hK => ?_) AllReady.nil
              go_simp
              refine hK _ _ ?_
              clear hK K
              refine wpAny_done (by kernel_rfl) ?_ _
            rotate_left 1
          rotate_left 2
          all_goals
            go_wp2_with fail
            go_roundw
            case rel => exact ⟨i + 1, _, _, by omega, by simp, by rw [HK1.out, HG1.out]; exact Lib.hid HE.out.2.1, Lib.hid (HE.out.2.2 _ _ _ (by decide) (by omega) R0)⟩
            case measure => simp [intOf]; omega
        · obtain ⟨rfl, rfl⟩ := hor
          clear hgn
          go_upto_region 7 with fail
          refine wp_region_any (by kernel_rfl) ?_
          try (change wpAny _ _ _ _ _ _ _ (World.drew _))
          obtain ⟨Wd, hWd⟩ : ∃ W, W = wr.drew := ⟨_, rfl⟩
          have q0 := cellD hWd p0
          have q1 := cellD hWd p1
          have q2 := cellD hWd p2
          have q3 := cellD hWd p3
          have q4 := cellD hWd p4
          have q5 := cellD hWd p5
          have q6 := cellD hWd p6
          have q7 := cellD hWd p7
          have q8 := cellD hWd p8
          have hbw2 := sizeD hWd hbw
          rw [← hWd] at T0 R0 ⊢
          clear hWd p0 p1 p2 p3 p4 p5 p6 p7 p8 hcO hqlt hbw
          have hcO := T0.out.cell
          have hqlt := T0.out.lt
          obtain ⟨a5, c5, n5, w5, hrun, hn5, hown5, hg5⟩ := run_append_row Hd.cl_len Hd.cl_one1 tyH Wd w.heap.size (.slice ya rib.length yc) rib (⟨xp, false, xr⟩ : Hd) #[.int .i64 xp, .bool false, .int .i64 xr.kind, .int .i64 xr.vni, .int .i64 xr.mac, .int .i64 xr.ip, .int .i64 xr.org, .int .i64 xr.seq, .bool xr.st] rfl T0.row (by omega) T0.bel.size 25
          have HRUN := Lib.hid hrun
          have HE := Lib.hid (T0.keep (by omega) hn5 hown5 hg5)
          have c5x := HE.out.1.cell
          have f5x := HE.out.1.frozen
          have HN5 := Lib.hid hn5
          clear hrun hown5 hg5 hn5
          refine wpAny_take (i := 0) (v := ?vvc1) rfl (by kernel_rfl) (by kernel_rfl) (by kernel_rfl) (fun _ _ _ h => h) (Or.inl ⟨by rfl, ?hyc1⟩) ?restc1
          case hyc1 => (intro w; go_simp <;> with_reducible rfl)
          refine wpAny_take (i := 2) (v := ?vvc2) rfl (by kernel_rfl) (by kernel_rfl) (by kernel_rfl) (fun _ _ _ h => h) (Or.inl ⟨by rfl, ?hyc2⟩) ?restc2
          case hyc2 => (intro w; go_simp <;> with_reducible rfl)
          refine wpAny_take (i := 3) (v := ?vvc3) rfl (by kernel_rfl) (by kernel_rfl) (by kernel_rfl) (fun _ _ _ h => h) (Or.inl ⟨by rfl, ?hyc3⟩) ?restc3
          case hyc3 => (intro w; go_simp <;> with_reducible rfl)
          refine wpAny_take (i := 4) (v := ?vvc4) rfl (by kernel_rfl) (by kernel_rfl) (by kernel_rfl) (fun _ _ _ h => h) (Or.inl ⟨by rfl, ?hyc4⟩) ?restc4
          case hyc4 => (intro w; go_simp <;> with_reducible rfl)
          refine wpAny_ready (rs := [1, 5]) (by kernel_rfl) (by simp) ?_
          refine (AllReady.cons (o := o43b8b_5) rfl (fun K hK => ?_) (AllReady.cons (o := o43b8b_6) rfl (fun K hK => ?_) AllReady.nil))
          focus
            go_simp
            refine hK _ _ ?_
            clear hK K
            refine wpAny_ready (rs := [5]) (by kernel_rfl) (by simp) ?_
            refine AllReady.cons (o := o43b8b_6) rfl (fun K hK => ?_) AllReady.nil
            go_simp
            refine hK _ _ ?_
            clear hK K
            refine wpAny_ready (rs := [6]) (by kernel_rfl) (by simp) ?_
            refine AllReady.cons (o := o43b8b_7) rfl (fun K hK => ?_) AllReady.nil
            go_simp
            refine hK _ _ ?_
            clear hK K
            refine wpAny_ready (rs := [7]) (by kernel_rfl) (by simp) ?_
            refine AllReady.cons (o := o43b8b_8) rfl (fun K hK => ?_) AllReady.nil
            refine step_run_app rfl _ _ _ rfl _ _ _ _ rfl rfl HRUN.out ?_
            refine hK _ _ ?_
            clear hK K
            refine wpAny_take (i := 8) (v := ?vvc5) rfl (by kernel_rfl) (by kernel_rfl) (by kernel_rfl) (fun _ _ _ h => h) (Or.inl ⟨by rfl, ?hyc5⟩) ?restc5
            case hyc5 => (intro w; go_simp <;> with_reducible rfl)
            refine wpAny_ready (rs := [9]) (by kernel_rfl) (by simp) ?_
            refine AllReady.cons (o := o43b8b_9) rfl (fun K hK => ?_) AllReady.nil
            go_simp
            refine hK _ _ ?_
            clear hK K
            refine wpAny_done (by kernel_rfl) ?_ _
          rotate_left 1
          focus
            go_simp
            refine hK _ _ ?_
            clear hK K
            refine wpAny_ready (rs := [1, 6]) (by kernel_rfl) (by simp) ?_
            refine (AllReady.cons (o := o43b8b_5) rfl (fun K hK => ?_) (AllReady.cons (o := o43b8b_7) rfl (fun K hK => ?_) AllReady.nil))
            focus
              go_simp
              refine hK _ _ ?_
              clear hK K
              refine wpAny_ready (rs := [6]) (by kernel_rfl) (by simp) ?_
              refine AllReady.cons (o := o43b8b_7) rfl (fun K hK => ?_) AllReady.nil
              go_simp
              refine hK _ _ ?_
              clear hK K
              refine wpAny_ready (rs := [7]) (by kernel_rfl) (by simp) ?_
              refine AllReady.cons (o := o43b8b_8) rfl (fun K hK => ?_) AllReady.nil
              refine step_run_app rfl _ _ _ rfl _ _ _ _ rfl rfl HRUN.out ?_
              refine hK _ _ ?_
              clear hK K
              refine wpAny_take (i := 8) (v := ?vvc6) rfl (by kernel_rfl) (by kernel_rfl) (by kernel_rfl) (fun _ _ _ h => h) (Or.inl ⟨by rfl, ?hyc6⟩) ?restc6
              case hyc6 => (intro w; go_simp <;> with_reducible rfl)
              refine wpAny_ready (rs := [9]) (by kernel_rfl) (by simp) ?_
              refine AllReady.cons (o := o43b8b_9) rfl (fun K hK => ?_) AllReady.nil
              go_simp
              refine hK _ _ ?_
              clear hK K
              refine wpAny_done (by kernel_rfl) ?_ _
            rotate_left 1
            focus
              go_simp
              refine hK _ _ ?_
              clear hK K
              refine wpAny_ready (rs := [1]) (by kernel_rfl) (by simp) ?_
              refine AllReady.cons (o := o43b8b_5) rfl (fun K hK => ?_) AllReady.nil
              go_simp
              refine hK _ _ ?_
              clear hK K
              refine wpAny_ready (rs := [7]) (by kernel_rfl) (by simp) ?_
              refine AllReady.cons (o := o43b8b_8) rfl (fun K hK => ?_) AllReady.nil
              refine step_run_app rfl _ _ _ rfl _ _ _ _ rfl rfl HRUN.out ?_
              refine hK _ _ ?_
              clear hK K
              refine wpAny_take (i := 8) (v := ?vvc7) rfl (by kernel_rfl) (by kernel_rfl) (by kernel_rfl) (fun _ _ _ h => h) (Or.inl ⟨by rfl, ?hyc7⟩) ?restc7
              case hyc7 => (intro w; go_simp <;> with_reducible rfl)
              refine wpAny_ready (rs := [9]) (by kernel_rfl) (by simp) ?_
              refine AllReady.cons (o := o43b8b_9) rfl (fun K hK => ?_) AllReady.nil
              go_simp
              refine hK _ _ ?_
              clear hK K
              refine wpAny_done (by kernel_rfl) ?_ _
            rotate_left 1
          rotate_left 2
          all_goals
            go_wp2_with fail
            go_roundw
            case rel => exact ⟨i + 1, _, _, by omega, by simp, by rw [HK1.out, HG1.out]; exact Lib.hid HE.out.2.1, Lib.hid (HE.out.2.2 _ _ _ (by decide) (by omega) R0)⟩
            case measure => simp [intOf]; omega
    · have hin : i = n := by omega
      subst hin
      rw [← HZ.out.1, ← HZ.out.2] at HT
      obtain ⟨K, hK⟩ : ∃ K, K = keepL p l := ⟨_, rfl⟩
      obtain ⟨G, hG⟩ : ∃ G, G = goneL p l := ⟨_, rfl⟩
      rw [← hK, ← hG] at HT
      replace hK := Lib.hid hK
      replace hG := Lib.hid hG
      obtain ⟨ya, yc, rfl⟩ := rown_form HT.out.row
      obtain ⟨ta, tc, rfl⟩ := rown_form HT.out.rot
      have hcO := HT.out.out.cell
      have hc := HR.out.cell
      have hf := HR.out.frozen
      go_wp2_with fail
      have HY := Lib.hid (fill3 HR.out HT.out.bel (Nat.le_refl _) (.slice ya K.length yc) (.slice ta G.length tc) (.int .i64 0))
      have HO2 := Lib.hid (own_far3 HT.out.row (own_ne HR.out HT.out.row (by decide)) (.slice ya K.length yc) (.slice ta G.length tc) (.int .i64 0))
      have HO3 := Lib.hid (own_far3 HT.out.rot (own_ne HR.out HT.out.rot (by decide)) (.slice ya K.length yc) (.slice ta G.length tc) (.int .i64 0))
      generalize (((wr.setCell ⟨w.heap.size, 0, none⟩ (.slice ya K.length yc)).setCell ⟨w.heap.size, 1, none⟩ (.slice ta G.length tc)).setCell ⟨w.heap.size, 2, none⟩ (.int .i64 0)) = w2 at *
      have hc2 := HY.out.1.cell
      refine bodyPost_ret (v := roV (.slice ya K.length yc) (.slice ta G.length tc) 0) (by simp [results, Try.results80, go_sem, roV, hc2]) rfl ?_
      rw [← hK.out, ← hG.out]
      exact RoPost.good (r := ⟨K, G, 0⟩) rfl HO2.out HO3.out (apart_types HT.out.row HT.out.rot) HY.out.2
end Go.Proofs.Ytmkoppbbenombaa
