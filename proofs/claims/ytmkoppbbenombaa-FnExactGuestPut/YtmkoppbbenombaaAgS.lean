/- GuestsAge of the model. -/
import Derived.Test.YtmkoppbbenombaaAgG
import Derived.Deep.RegionLaw
namespace Go.Proofs.Ytmkoppbbenombaa
open Go.RowKit
abbrev o9926d_0 : Oper := { dst := some 43, op := Op.load 54 (Operand.tmp 42), type := 54, pos := "l07_local.go:113", after := #[{ on := 0, ground := Ground.data }], guard := none }
abbrev o9926d_1 : Oper := { dst := some 47, op := Op.load 59 (Operand.tmp 46), type := 59, pos := "l07_local.go:113", after := #[{ on := 4, ground := Ground.data }], guard := none }
abbrev o9926d_2 : Oper := { dst := some 48, op := Op.buildSlice 54 1 #[(0, Operand.tmp 47)], type := 54, pos := "l07_local.go:113", after := #[{ on := 5, ground := Ground.data }], guard := none }
abbrev o9926d_3 : Oper := { dst := some 49, op := Op.call { callee := Callee.builtin Builtin.append, args := #[Operand.tmp 43, Operand.tmp 48], argTypes := #[54, 54] }, type := 54, pos := "l07_local.go:113", after := #[{ on := 1, ground := Ground.data }, { on := 6, ground := Ground.data }], guard := none }
abbrev o9926d_4 : Oper := { dst := none, op := Op.store 54 (Operand.tmp 50) (Operand.tmp 49), type := 0, pos := "l07_local.go:113", after := #[{ on := 8, ground := Ground.data }, { on := 7, ground := Ground.data }, { on := 7, ground := Ground.chain }, { on := 0, ground := Ground.phase }, { on := 1, ground := Ground.phase }, { on := 2, ground := Ground.phase }, { on := 3, ground := Ground.phase }, { on := 4, ground := Ground.phase }, { on := 5, ground := Ground.phase }, { on := 6, ground := Ground.phase }, { on := 7, ground := Ground.phase }], guard := none }
abbrev o9926d_5 : Oper := { dst := some 34, op := Op.load 54 (Operand.tmp 33), type := 54, pos := "l07_local.go:111", after := #[{ on := 0, ground := Ground.data }], guard := none }
abbrev o9926d_6 : Oper := { dst := some 38, op := Op.load 59 (Operand.tmp 37), type := 59, pos := "l07_local.go:111", after := #[{ on := 4, ground := Ground.data }], guard := none }
abbrev o9926d_7 : Oper := { dst := some 39, op := Op.buildSlice 54 1 #[(0, Operand.tmp 38)], type := 54, pos := "l07_local.go:111", after := #[{ on := 5, ground := Ground.data }], guard := none }
abbrev o9926d_8 : Oper := { dst := some 40, op := Op.call { callee := Callee.builtin Builtin.append, args := #[Operand.tmp 34, Operand.tmp 39], argTypes := #[54, 54] }, type := 54, pos := "l07_local.go:111", after := #[{ on := 1, ground := Ground.data }, { on := 6, ground := Ground.data }], guard := none }
abbrev o9926d_9 : Oper := { dst := none, op := Op.store 54 (Operand.tmp 41) (Operand.tmp 40), type := 0, pos := "l07_local.go:111", after := #[{ on := 8, ground := Ground.data }, { on := 7, ground := Ground.data }, { on := 7, ground := Ground.chain }, { on := 0, ground := Ground.phase }, { on := 1, ground := Ground.phase }, { on := 2, ground := Ground.phase }, { on := 3, ground := Ground.phase }, { on := 4, ground := Ground.phase }, { on := 5, ground := Ground.phase }, { on := 6, ground := Ground.phase }, { on := 7, ground := Ground.phase }], guard := none }

theorem step_run_appG {P : Program} {ops : Array Oper} {o : Oper} {a : Act} {w : World} {K : Act → World → Prop} {Q : Exit → Act → World → Prop} {E : Prop}
    (hg : o.guard = none) (s x : Operand) (t : TypeId) (hop : o.op = Op.call { callee := Callee.builtin Builtin.append, args := #[s, x], argTypes := #[t, t] })
    (v u r : Value) (w' : World) (hs : a.eval s = v) (hx : a.eval x = u) (hrun : (Builtin.append_ #[t, t] o.type #[v, u]).run P w = .ok r w') (hK : K (a.put o.dst r) w') :
    if Region.wanted o (yielded ops a.tmps) = true then Oper.wp P o a w K Q else E := by
  have hw : Region.wanted o (yielded ops a.tmps) = true := by simp [Region.wanted, hg]
  rw [if_pos hw]
  unfold Oper.wp
  simp [execOp, hop, resolve, invoke, builtin, hs, hx, hrun, Result.andThen]
  exact hK
/- what the functions over guests answer -/
structure GsO where
  gus : List Gu
  gone : List Gu
  code : Int
def goV (v t : Value) (c : Int) : Value := .agg #[v, t, .int .i64 c]
def GoPost (r : GsO) (w : World) (x : Ending) (w' : World) : Prop :=
  ∃ v t, x = .returned (goV v t r.code) ∧ w'.ownsRow w.heap.size 59 7 v r.gus.length (rcells Gu.cl r.gus) ∧ w'.ownsRow w.heap.size 59 7 t r.gone.length (rcells Gu.cl r.gone) ∧ (v.ownBlock = none ∨ v.ownBlock ≠ t.ownBlock) ∧ Below w.heap.size w w'
def goIll (c : Int) : GsO := ⟨[], [], c⟩
theorem GoPost.ill {r : GsO} {c : Int} {w w' : World} {x : Ending} (hr : r = goIll c) (hx : x = .returned (goV (.slice none 0 0) (.slice none 0 0) c)) (hb : Below w.heap.size w w') : GoPost r w x w' := by
  subst hr
  exact ⟨_, _, hx, World.ownsRow_nil _ _ _ _, World.ownsRow_nil _ _ _ _, .inl rfl, hb⟩
theorem GoPost.two {r : GsO} {w w' : World} {x : Ending} {v t : Value} (hx : x = .returned (goV v t r.code)) (h : Two2 w w' v t r.gus r.gone) : GoPost r w x w' := ⟨v, t, hx, h.ra, h.rb, h.ap, h.bel⟩
theorem fillO {W cur : World} {q B : Nat} {t : TypeId} {c0 c1 c2 : Value} (N : Blk cur q t #[c0, c1, c2]) (h : Below B W cur) (hq : B ≤ q) (v0 v1 v2 : Value) :
    Blk (((cur.setCell ⟨q, 0, none⟩ v0).setCell ⟨q, 1, none⟩ v1).setCell ⟨q, 2, none⟩ v2) q t #[v0, v1, v2] ∧ Below B W (((cur.setCell ⟨q, 0, none⟩ v0).setCell ⟨q, 1, none⟩ v1).setCell ⟨q, 2, none⟩ v2) := by
  have h2 := ((N.set 0 v0).set 1 v1).set 2 v2
  simp only [List.setIfInBounds_toArray, List.set_cons_zero, List.set_cons_succ] at h2
  exact ⟨h2, ((h.setCell hq _).setCell hq _).setCell hq _⟩
theorem Two2.fillO {w cur : World} {y t : Value} {a b : List Gu} (h : Two2 w cur y t a b) {q : Nat} {cs : Array Value} (hq : w.heap.size ≤ q) (N : Blk cur q 65 cs) (v0 v1 v2 : Value) :
    Two2 w (((cur.setCell ⟨q, 0, none⟩ v0).setCell ⟨q, 1, none⟩ v1).setCell ⟨q, 2, none⟩ v2) y t a b :=
  ((h.set hq N (by decide) 0 v0).set hq (N.set 0 v0) (by decide) 1 v1).set hq ((N.set 0 v0).set 1 v1) (by decide) 2 v2
inductive GFaultWay (l : List Gu) (P : Bool) : Prop
  | long (h1 : 400 < l.length)
  | wrong (h1 : ¬ 400 < l.length) (h2 : gusOk l = false)
  | arg (h1 : ¬ 400 < l.length) (h2 : gusOk l = true) (h3 : P = false)
  | ok (h1 : ¬ 400 < l.length) (h2 : gusOk l = true) (h3 : P = true) (h4 : l.length ≤ 8)
theorem gfault_way (l : List Gu) (P : Bool) : GFaultWay l P := by
  by_cases h1 : 400 < l.length
  · exact .long h1
  cases h2 : gusOk l
  · exact .wrong h1 h2
  cases h3 : P
  · exact .arg h1 h2 rfl
  · exact .ok h1 h2 rfl (gusOk_len h2)
def ageR (l : List Gu) (now : Int) : GsO := if 400 < l.length then goIll 2 else if gusOk l = true ∧ isTime now = true then ⟨stayL now l, goneL2 now l, 0⟩ else goIll 1
theorem ageR_long {l : List Gu} {now : Int} (h : 400 < l.length) : ageR l now = goIll 2 := by rw [ageR, if_pos h]
theorem ageR_wrong {l : List Gu} {now : Int} (h : ¬ 400 < l.length) (h2 : gusOk l = false) : ageR l now = goIll 1 := by rw [ageR, if_neg h, if_neg (by simp [h2])]
theorem ageR_arg {l : List Gu} {now : Int} (h : ¬ 400 < l.length) (h2 : isTime now = false) : ageR l now = goIll 1 := by rw [ageR, if_neg h, if_neg (by simp [h2])]
theorem ageR_ok {l : List Gu} {now : Int} (h : ¬ 400 < l.length) (h2 : gusOk l = true) (h3 : isTime now = true) : ageR l now = ⟨stayL now l, goneL2 now l, 0⟩ := by rw [ageR, if_neg h, if_pos ⟨h2, h3⟩]
theorem ageR_len (l : List Gu) (now : Int) : (ageR l now).gus.length ≤ 8 ∧ (ageR l now).gone.length ≤ 8 := by
  unfold ageR
  split
  · simp [goIll]
  · split
    · rename_i h
      have h8 := gusOk_len h.1
      have h1 := stay_len now l l.length
      have h2 := gone_len now l l.length
      rw [List.take_length] at h1 h2
      exact ⟨by dsimp only; omega, by dsimp only; omega⟩
    · simp [goIll]
theorem time_in {n : Int} (h : isTime n = true) : 0 ≤ n ∧ n ≤ 1000000 := by
  unfold isTime inR at h
  simpa using h
set_option maxHeartbeats 1000000 in
theorem specIll7_any (c : Int) (w : World) : Calls Try.prog 95 #[.int .i64 c] w fun x w' => x = .returned (goV (.slice none 0 0) (.slice none 0 0) c) ∧ Below w.heap.size w w' := by
  go_enter Try.func95, Try.ntmps95
  go_wp2
  refine bodyPost_ret (v := goV (.slice none 0 0) (.slice none 0 0) c) (by simp [results, Try.results95, go_sem, goV]) rfl ⟨rfl, ?_⟩
  go_grown
/- the loop's memory, with an element of the list in sight -/
structure AgAt (w W : World) (qo b o : Nat) (x : Gu) (y t : Value) (rib gone : List Gu) : Prop where
  two : Two2 w W y t rib gone
  out : Blk W qo 65 #[y, t, .int .i64 0]
  ans : Blk W w.heap.size 65 #[.slice none 0 0, .slice none 0 0, .int .i64 0]
  hb : b < W.heap.size
  c0 : W.cell? ⟨b, o, none⟩ = some (.int .i64 x.vni)
  c1 : W.cell? ⟨b, o + 1, none⟩ = some (.int .i64 x.mac)
  c2 : W.cell? ⟨b, o + 2, none⟩ = some (.int .i64 x.ip)
  c3 : W.cell? ⟨b, o + 3, none⟩ = some (.int .i64 x.door)
  c4 : W.cell? ⟨b, o + 4, none⟩ = some (.int .i64 x.seq)
  c5 : W.cell? ⟨b, o + 5, none⟩ = some (.int .i64 x.seen)
  c6 : W.cell? ⟨b, o + 6, none⟩ = some (.bool x.st)
section
variable {w W W2 w5 : World} {qo b o : Nat} {x : Gu} {y t : Value} {rib gone : List Gu} {ob : Obj} {a5 : Option Addr} {n5 k5 : Nat}
theorem AgAt.kept (h : AgAt w W qo b o x y t rib gone) (hb : Below W.heap.size W W2) : AgAt w W2 qo b o x y t rib gone :=
  ⟨h.two.kept hb, h.out.kept hb, h.ans.kept hb, Nat.lt_of_lt_of_le h.hb hb.size, (hb.cell (p := ⟨b, o, none⟩) h.hb).trans h.c0, (hb.cell (p := ⟨b, o + 1, none⟩) h.hb).trans h.c1, (hb.cell (p := ⟨b, o + 2, none⟩) h.hb).trans h.c2, (hb.cell (p := ⟨b, o + 3, none⟩) h.hb).trans h.c3, (hb.cell (p := ⟨b, o + 4, none⟩) h.hb).trans h.c4, (hb.cell (p := ⟨b, o + 5, none⟩) h.hb).trans h.c5, (hb.cell (p := ⟨b, o + 6, none⟩) h.hb).trans h.c6⟩
theorem AgAt.drew (h : AgAt w W qo b o x y t rib gone) : AgAt w W.drew qo b o x y t rib gone :=
  ⟨h.two.drew, h.out.drew, h.ans.drew, h.hb, h.c0, h.c1, h.c2, h.c3, h.c4, h.c5, h.c6⟩
theorem AgAt.toRib (h : AgAt w W qo b o x y t rib gone) (hq : w.heap.size < qo) (hn5 : n5 = (rib ++ [x]).length) (ho : w5.ownsRow w.heap.size 59 7 (.slice a5 n5 k5) n5 (rcells Gu.cl (rib ++ [x]))) (hg : (W.alloc ob).grownBy w5 y.ownBlock)
    (hk : (Value.slice a5 n5 k5).ownBlock = y.ownBlock ∨ (Value.slice a5 n5 k5).ownBlock = some (W.alloc ob).heap.size) :
    Blk w5 qo 65 #[y, t, .int .i64 0] ∧ Two2 w (w5.setCell ⟨qo, 0, none⟩ (.slice a5 n5 k5)) (.slice a5 n5 k5) t (rib ++ [x]) gone ∧ Blk (w5.setCell ⟨qo, 0, none⟩ (.slice a5 n5 k5)) qo 65 #[.slice a5 n5 k5, t, .int .i64 0] ∧ Blk (w5.setCell ⟨qo, 0, none⟩ (.slice a5 n5 k5)) w.heap.size 65 #[.slice none 0 0, .slice none 0 0, .int .i64 0] := by
  have h5 := h.two.blk hg h.out (by decide)
  have h6 := h.two.blk hg h.ans (by decide)
  have hset := h5.set 0 (.slice a5 n5 k5)
  simp only [List.setIfInBounds_toArray, List.set_cons_zero] at hset
  exact ⟨h5, (h.two.app hn5 ho hg hk).set (by omega) h5 (by decide) _ _, hset, h6.far (by omega)⟩
theorem AgAt.toGone (h : AgAt w W qo b o x y t rib gone) (hq : w.heap.size < qo) (hn5 : n5 = (gone ++ [x]).length) (ho : w5.ownsRow w.heap.size 59 7 (.slice a5 n5 k5) n5 (rcells Gu.cl (gone ++ [x]))) (hg : (W.alloc ob).grownBy w5 t.ownBlock)
    (hk : (Value.slice a5 n5 k5).ownBlock = t.ownBlock ∨ (Value.slice a5 n5 k5).ownBlock = some (W.alloc ob).heap.size) :
    Blk w5 qo 65 #[y, t, .int .i64 0] ∧ Two2 w (w5.setCell ⟨qo, 1, none⟩ (.slice a5 n5 k5)) y (.slice a5 n5 k5) rib (gone ++ [x]) ∧ Blk (w5.setCell ⟨qo, 1, none⟩ (.slice a5 n5 k5)) qo 65 #[y, .slice a5 n5 k5, .int .i64 0] ∧ Blk (w5.setCell ⟨qo, 1, none⟩ (.slice a5 n5 k5)) w.heap.size 65 #[.slice none 0 0, .slice none 0 0, .int .i64 0] := by
  have h5 := h.two.swap.blk hg h.out (by decide)
  have h6 := h.two.swap.blk hg h.ans (by decide)
  have hset := h5.set 1 (.slice a5 n5 k5)
  simp only [List.setIfInBounds_toArray, List.set_cons_zero, List.set_cons_succ] at hset
  exact ⟨h5, ((h.two.swap.app hn5 ho hg hk).set (by omega) h5 (by decide) _ _).swap, hset, h6.far (by omega)⟩
end
set_option maxRecDepth 100000 in
set_option maxHeartbeats 8000000 in
theorem specGuestsAge_any (l : List Gu) (v : Value) (now : Int) (w : World) (h : GusAt w v l) (hnb : l.length ≤ 1048576) :
    Calls Try.prog 60 #[v, .int .i64 now] w (GoPost (ageR l now) w) := by
  have X0 := Blk.new w 65 #[.slice none 0 0, .slice none 0 0, .int .i64 0]
  have HB0 : Below w.heap.size w (w.alloc (.cells #[.slice none 0 0, .slice none 0 0, .int .i64 0] 65)) := (Below.refl _ _).alloc (Nat.le_refl _) _
  have HRR := Lib.hid (fun (W' : World) (hb : Below w.heap.size w W') => specGuestsRight_any l v W' (SlAt.kept h hb) hnb)
  have HP := Lib.hid (specTime_any now)
  have HQ := Lib.hid (fun (c : Int) => specIll7_any c)
  have HW := gfault_way l (isTime now)
  have HLg := Lib.hid (fun h1 => ageR_long (l := l) (now := now) h1)
  have HWr := Lib.hid (fun h1 h2 => ageR_wrong (l := l) (now := now) h1 h2)
  have HAr := Lib.hid (fun h1 h2 => ageR_arg (l := l) (now := now) h1 h2)
  have HOk := Lib.hid (fun h1 h2 h3 => ageR_ok (l := l) (now := now) h1 h2 h3)
  have HTi := Lib.hid (fun h => time_in (n := now) h)
  have HKs := Lib.hid (fun (i : Nat) (hi : i < l.length) => stay_succ now l i hi)
  have HGs := Lib.hid (fun (i : Nat) (hi : i < l.length) => gone_succ now l i hi)
  have HKl := Lib.hid (fun (i : Nat) => stay_len now l i)
  have HGl := Lib.hid (fun (i : Nat) => gone_len now l i)
  have HZ : Hid (stayL now l = stayL now (l.take l.length) ∧ goneL2 now l = goneL2 now (l.take l.length)) := Lib.hid (by rw [List.take_length]; exact ⟨rfl, rfl⟩)
  unfold GrPost at HRR
  unfold goV at HQ
  obtain ⟨a, cap, rfl, h⟩ := h
  rw [List.length_map] at *
  have HH := Lib.hid h
  clear h
  generalize ageR l now = S at *
  obtain ⟨n, hnn⟩ : ∃ n, n = l.length := ⟨_, rfl⟩
  rcases HW with ⟨h1⟩ | ⟨h1, h2⟩ | ⟨h1, h2, h3⟩ | ⟨h1, h2, h3, h4⟩
  · have HR := Lib.hid (HLg.out h1)
    rw [← hnn] at h1 hnb HRR ⊢
    have hg : (400 : Int) < (n : Int) := by omega
    clear hnn HKs HGs HKl HGl HZ HH
    go_enter Try.func60, Try.ntmps60
    go_upto_region 1 with fail
    generalize w.alloc (.cells #[.slice none 0 0, .slice none 0 0, .int .i64 0] 65) = w0 at *
    go_wp2_with (go_at_call 95; refine (HQ.out _ _).mono ?_; rintro x w1 ⟨rfl, hb1⟩; have X1 := X0.kept hb1; have hc := X1.cell; have hf := X1.frozen; have HB1 := HB0.trans (hb1.mono HB0.size); clear hb1)
    have HY := Lib.hid (fillO X1 HB1 (Nat.le_refl _) (.slice none 0 0) (.slice none 0 0) (.int .i64 2))
    generalize (((w1.setCell ⟨w.heap.size, 0, none⟩ (.slice none 0 0)).setCell ⟨w.heap.size, 1, none⟩ (.slice none 0 0)).setCell ⟨w.heap.size, 2, none⟩ (.int .i64 2)) = w2 at *
    have hc2 := HY.out.1.cell
    refine bodyPost_ret (v := goV (.slice none 0 0) (.slice none 0 0) 2) (by simp [results, Try.results60, go_sem, goV, hc2]) rfl ?_
    exact GoPost.ill HR.out rfl HY.out.2
  · have HR := Lib.hid (HWr.out h1 h2)
    rw [h2] at HRR
    rw [← hnn] at h1 hnb HRR ⊢
    have hg : ¬ (400 : Int) < (n : Int) := by omega
    clear hnn HKs HGs HKl HGl HZ HH h2
    go_enter Try.func60, Try.ntmps60
    go_upto_region 1 with fail
    generalize w.alloc (.cells #[.slice none 0 0, .slice none 0 0, .int .i64 0] 65) = w0 at *
    go_wp2_with (first | (go_at_call 44; refine (HRR.out _ HB0).mono ?_; rintro x w3 ⟨rfl, hb3⟩; have X3 := X0.kept hb3; have HB3 := HB0.trans (hb3.mono HB0.size); clear hb3) | (go_at_call 95; refine (HQ.out _ _).mono ?_; rintro x w1 ⟨rfl, hb1⟩; have X1 := X3.kept hb1; have hc := X1.cell; have hf := X1.frozen; have HB1 := HB3.trans (hb1.mono HB3.size); clear hb1))
    have HY := Lib.hid (fillO X1 HB1 (Nat.le_refl _) (.slice none 0 0) (.slice none 0 0) (.int .i64 1))
    generalize (((w1.setCell ⟨w.heap.size, 0, none⟩ (.slice none 0 0)).setCell ⟨w.heap.size, 1, none⟩ (.slice none 0 0)).setCell ⟨w.heap.size, 2, none⟩ (.int .i64 1)) = w2 at *
    have hc2 := HY.out.1.cell
    refine bodyPost_ret (v := goV (.slice none 0 0) (.slice none 0 0) 1) (by simp [results, Try.results60, go_sem, goV, hc2]) rfl ?_
    exact GoPost.ill HR.out rfl HY.out.2
  · have HR := Lib.hid (HAr.out h1 h3)
    rw [h2] at HRR
    rw [h3] at HP
    rw [← hnn] at h1 hnb HRR ⊢
    have hg : ¬ (400 : Int) < (n : Int) := by omega
    clear hnn HKs HGs HKl HGl HZ HH h2 h3
    go_enter Try.func60, Try.ntmps60
    go_upto_region 1 with fail
    generalize w.alloc (.cells #[.slice none 0 0, .slice none 0 0, .int .i64 0] 65) = w0 at *
    go_wp2_with (first | (go_at_call 44; refine (HRR.out _ HB0).mono ?_; rintro x w3 ⟨rfl, hb3⟩; have X3 := X0.kept hb3; have HB3 := HB0.trans (hb3.mono HB0.size); clear hb3) | (go_at_call 102; refine (HP.out _).mono ?_; rintro x w4 ⟨rfl, rfl⟩) | (go_at_call 95; refine (HQ.out _ _).mono ?_; rintro x w1 ⟨rfl, hb1⟩; have X1 := X3.kept hb1; have hc := X1.cell; have hf := X1.frozen; have HB1 := HB3.trans (hb1.mono HB3.size); clear hb1))
    have HY := Lib.hid (fillO X1 HB1 (Nat.le_refl _) (.slice none 0 0) (.slice none 0 0) (.int .i64 1))
    generalize (((w1.setCell ⟨w.heap.size, 0, none⟩ (.slice none 0 0)).setCell ⟨w.heap.size, 1, none⟩ (.slice none 0 0)).setCell ⟨w.heap.size, 2, none⟩ (.int .i64 1)) = w2 at *
    have hc2 := HY.out.1.cell
    refine bodyPost_ret (v := goV (.slice none 0 0) (.slice none 0 0) 1) (by simp [results, Try.results60, go_sem, goV, hc2]) rfl ?_
    exact GoPost.ill HR.out rfl HY.out.2
  · have HR := Lib.hid (HOk.out h1 h2 h3)
    obtain ⟨ht0, ht1⟩ := HTi.out h3
    have HO := Lib.hid (fun (g : Gu) (W : World) => specOld_any g now W ht0 ht1)
    rw [h2] at HRR
    rw [h3] at HP
    have HN := Lib.hid hnn
    rw [← hnn] at h1 h4 hnb HRR HZ HKl HGl ⊢
    have hg : ¬ (400 : Int) < (n : Int) := by omega
    clear hnn h2 h3 HLg HWr HAr HOk HTi HQ
    go_enter Try.func60, Try.ntmps60
    go_upto_region 1 with fail
    generalize w.alloc (.cells #[.slice none 0 0, .slice none 0 0, .int .i64 0] 65) = w0 at *
    go_upto_region 5 with (first | (go_at_call 44; refine (HRR.out _ HB0).mono ?_; rintro x w3 ⟨rfl, hb3⟩; have X3 := X0.kept hb3; have HB3 := HB0.trans (hb3.mono HB0.size); clear hb3) | (go_at_call 102; refine (HP.out _).mono ?_; rintro x w4 ⟨rfl, rfl⟩))
    go_upto_region 6 with fail
    have N5 := Blk.new w3 65 #[.slice none 0 0, .slice none 0 0, .int .i64 0]
    have T5 : Two2 w (w3.alloc (.cells #[.slice none 0 0, .slice none 0 0, .int .i64 0] 65)) (.slice none 0 0) (.slice none 0 0) (stayL now (l.take 0)) (goneL2 now (l.take 0)) := ⟨World.ownsRow_nil _ _ _ _, World.ownsRow_nil _ _ _ _, .inl rfl, HB3.alloc HB3.size _⟩
    have X5 := X3.alloc (.cells #[.slice none 0 0, .slice none 0 0, .int .i64 0] 65)
    have hqo : w.heap.size < w3.heap.size := X3.lt
    obtain ⟨W5, hW5⟩ : ∃ X, X = w3.alloc (.cells #[.slice none 0 0, .slice none 0 0, .int .i64 0] 65) := ⟨_, rfl⟩
    obtain ⟨qo, hq⟩ : ∃ q, q = w3.heap.size := ⟨_, rfl⟩
    rw [← hW5, ← hq]
    rw [← hW5] at N5 T5 X5
    rw [← hq] at N5 hqo
    have HT5 := Lib.hid T5
    have HN5 := Lib.hid N5
    have HX5 := Lib.hid X5
    clear hW5 hq X3 HB3 T5 N5 X5
    go_wp2_with fail
    go_loopw [6] (fun u wr => ∃ (i : Nat) (y t : Value), i ≤ n ∧ u = .int .i64 (i : Int) ∧ Hid (Two2 w wr y t (stayL now (l.take i)) (goneL2 now (l.take i))) ∧ Hid (Blk wr qo 65 #[y, t, .int .i64 0]) ∧ Hid (Blk wr w.heap.size 65 #[.slice none 0 0, .slice none 0 0, .int .i64 0])) (fun u _ => n - (intOf u).toNat)
    case atStart => exact ⟨0, _, _, Nat.zero_le _, rfl, HT5, HN5, HX5⟩
    case round =>
      clear HT5 HN5 HX5
      obtain ⟨i, y, t, hi, rfl, HT, HY, HX⟩ := hrel
      by_cases hlt : i < n
      · have hir : i < l.length := by rw [← HN.out]; exact hlt
        have hne : l.map Gu.cl ≠ [] := fun e => by
          have := congrArg List.length e
          rw [List.length_map, ← HN.out] at this
          simp at this; omega
        obtain ⟨b, off, ha, hb, HE⟩ := HH.out hne
        subst ha
        have hl1 : (i : Int) < n := by omega
        obtain ⟨p0, p1, p2, p3, p4, p5, p6⟩ := (Elems.below HE HT.out.bel hb).gu i hir
        have S0 : AgAt w wr qo b (off + i * 7) l[i] y t (stayL now (l.take i)) (goneL2 now (l.take i)) := ⟨HT.out, HY.out, HX.out, Nat.lt_of_lt_of_le hb HT.out.bel.size, p0, p1, p2, p3, p4, p5, p6⟩
        have HK1 := Lib.hid (HKs.out i hir)
        have HG1 := Lib.hid (HGs.out i hir)
        have hk60 := HKl.out i
        have hg60 := HGl.out i
        have HOx := Lib.hid (HO.out l[i])
        unfold Gu.val at HOx
        clear HE HT HY HX
        generalize l[i] = x at *
        generalize stayL now (l.take i) = rib at *
        generalize goneL2 now (l.take i) = gone at *
        generalize oldG now x = old at *
        obtain ⟨ya, yc, rfl⟩ := rown_form S0.two.ra
        obtain ⟨ta, tc, rfl⟩ := rown_form S0.two.rb
        cases old
        · rw [if_neg (by simp)] at HK1 HG1
          go_upto_region 11 with (go_at_call 103; refine (HOx.out _).mono ?_; rintro e w1 ⟨rfl, hb1⟩; have S1 := (S0.kept hb1).drew; clear hb1 S0 p0 p1 p2 p3 p4 p5 p6)
          refine wp_region_any (by kernel_rfl) ?_
          try (change wpAny _ _ _ _ _ _ _ (World.drew _))
          generalize w1.drew = Wd at *
          have q0 := S1.c0
          have q1 := S1.c1
          have q2 := S1.c2
          have q3 := S1.c3
          have q4 := S1.c4
          have q5 := S1.c5
          have q6 := S1.c6
          have hbw2 := S1.hb
          have hcO := S1.out.cell
          have hqlt := S1.out.lt
          obtain ⟨a5, c5, n5, w5, hrun, hn5, hown5, hg5, hk5⟩ := run_append_rowB Gu.cl_len Gu.cl_one1 tyG Wd w.heap.size (.slice ya rib.length yc) rib x #[.int .i64 x.vni, .int .i64 x.mac, .int .i64 x.ip, .int .i64 x.door, .int .i64 x.seq, .int .i64 x.seen, .bool x.st] rfl S1.two.ra (by omega) (Nat.le_of_lt S1.ans.lt) 54
          have HRUN := Lib.hid hrun
          have HE := Lib.hid (S1.toRib hqo hn5 hown5 hg5 hk5)
          have c5x := HE.out.1.cell
          have f5x := HE.out.1.frozen
          clear hrun hown5 hg5 hn5 hk5
          refine wpAny_take (i := 0) (v := ?vvd1) rfl (by kernel_rfl) (by kernel_rfl) (by kernel_rfl) (fun _ _ _ h => h) (Or.inl ⟨by rfl, ?hyd1⟩) ?restd1
          case hyd1 => (intro w; go_simp <;> with_reducible rfl)
          refine wpAny_take (i := 2) (v := ?vvd2) rfl (by kernel_rfl) (by kernel_rfl) (by kernel_rfl) (fun _ _ _ h => h) (Or.inl ⟨by rfl, ?hyd2⟩) ?restd2
          case hyd2 => (intro w; go_simp <;> with_reducible rfl)
          refine wpAny_take (i := 3) (v := ?vvd3) rfl (by kernel_rfl) (by kernel_rfl) (by kernel_rfl) (fun _ _ _ h => h) (Or.inl ⟨by rfl, ?hyd3⟩) ?restd3
          case hyd3 => (intro w; go_simp <;> with_reducible rfl)
          refine wpAny_take (i := 4) (v := ?vvd4) rfl (by kernel_rfl) (by kernel_rfl) (by kernel_rfl) (fun _ _ _ h => h) (Or.inl ⟨by rfl, ?hyd4⟩) ?restd4
          case hyd4 => (intro w; go_simp <;> with_reducible rfl)
          refine wpAny_ready (rs := [1, 5]) (by kernel_rfl) (by simp) ?_
          refine (AllReady.cons (o := o9926d_0) rfl (fun K hK => ?_) (AllReady.cons (o := o9926d_1) rfl (fun K hK => ?_) AllReady.nil))
          focus
            go_simp
            refine hK _ _ ?_
            clear hK K
            refine wpAny_ready (rs := [5]) (by kernel_rfl) (by simp) ?_
            refine AllReady.cons (o := o9926d_1) rfl (fun K hK => ?_) AllReady.nil
            go_simp
            refine hK _ _ ?_
            clear hK K
            refine wpAny_ready (rs := [6]) (by kernel_rfl) (by simp) ?_
            refine AllReady.cons (o := o9926d_2) rfl (fun K hK => ?_) AllReady.nil
            go_simp
            refine hK _ _ ?_
            clear hK K
            refine wpAny_ready (rs := [7]) (by kernel_rfl) (by simp) ?_
            refine AllReady.cons (o := o9926d_3) rfl (fun K hK => ?_) AllReady.nil
            refine step_run_appG rfl _ _ _ rfl _ _ _ _ rfl rfl HRUN.out ?_
            refine hK _ _ ?_
            clear hK K
            refine wpAny_take (i := 8) (v := ?vvd5) rfl (by kernel_rfl) (by kernel_rfl) (by kernel_rfl) (fun _ _ _ h => h) (Or.inl ⟨by rfl, ?hyd5⟩) ?restd5
            case hyd5 => (intro w; go_simp <;> with_reducible rfl)
            refine wpAny_ready (rs := [9]) (by kernel_rfl) (by simp) ?_
            refine AllReady.cons (o := o9926d_4) rfl (fun K hK => ?_) AllReady.nil
            go_simp
            refine hK _ _ ?_
            clear hK K
            refine wpAny_done (by kernel_rfl) ?_ _
          rotate_left 1
          focus
            go_simp
            refine hK _ _ ?_
            clear hK K
            refine wpAny_ready (rs := [1, 6]) (by kernel_rfl) (by simp) ?_
            refine (AllReady.cons (o := o9926d_0) rfl (fun K hK => ?_) (AllReady.cons (o := o9926d_2) rfl (fun K hK => ?_) AllReady.nil))
            focus
              go_simp
              refine hK _ _ ?_
              clear hK K
              refine wpAny_ready (rs := [6]) (by kernel_rfl) (by simp) ?_
              refine AllReady.cons (o := o9926d_2) rfl (fun K hK => ?_) AllReady.nil
              go_simp
              refine hK _ _ ?_
              clear hK K
              refine wpAny_ready (rs := [7]) (by kernel_rfl) (by simp) ?_
              refine AllReady.cons (o := o9926d_3) rfl (fun K hK => ?_) AllReady.nil
              refine step_run_appG rfl _ _ _ rfl _ _ _ _ rfl rfl HRUN.out ?_
              refine hK _ _ ?_
              clear hK K
              refine wpAny_take (i := 8) (v := ?vvd6) rfl (by kernel_rfl) (by kernel_rfl) (by kernel_rfl) (fun _ _ _ h => h) (Or.inl ⟨by rfl, ?hyd6⟩) ?restd6
              case hyd6 => (intro w; go_simp <;> with_reducible rfl)
              refine wpAny_ready (rs := [9]) (by kernel_rfl) (by simp) ?_
              refine AllReady.cons (o := o9926d_4) rfl (fun K hK => ?_) AllReady.nil
              go_simp
              refine hK _ _ ?_
              clear hK K
              refine wpAny_done (by kernel_rfl) ?_ _
            rotate_left 1
            focus
              go_simp
              refine hK _ _ ?_
              clear hK K
              refine wpAny_ready (rs := [1]) (by kernel_rfl) (by simp) ?_
              refine AllReady.cons (o := o9926d_0) rfl (fun K hK => ?_) AllReady.nil
              go_simp
              refine hK _ _ ?_
              clear hK K
              refine wpAny_ready (rs := [7]) (by kernel_rfl) (by simp) ?_
              refine AllReady.cons (o := o9926d_3) rfl (fun K hK => ?_) AllReady.nil
              refine step_run_appG rfl _ _ _ rfl _ _ _ _ rfl rfl HRUN.out ?_
              refine hK _ _ ?_
              clear hK K
              refine wpAny_take (i := 8) (v := ?vvd7) rfl (by kernel_rfl) (by kernel_rfl) (by kernel_rfl) (fun _ _ _ h => h) (Or.inl ⟨by rfl, ?hyd7⟩) ?restd7
              case hyd7 => (intro w; go_simp <;> with_reducible rfl)
              refine wpAny_ready (rs := [9]) (by kernel_rfl) (by simp) ?_
              refine AllReady.cons (o := o9926d_4) rfl (fun K hK => ?_) AllReady.nil
              go_simp
              refine hK _ _ ?_
              clear hK K
              refine wpAny_done (by kernel_rfl) ?_ _
            rotate_left 1
          rotate_left 2
          all_goals
            go_wp2_with fail
            go_roundw
            case rel => exact ⟨i + 1, _, _, by omega, by simp, by rw [HK1.out, HG1.out]; exact Lib.hid HE.out.2.1, Lib.hid HE.out.2.2.1, Lib.hid HE.out.2.2.2⟩
            case measure => simp [intOf]; omega
        · rw [if_pos rfl] at HK1 HG1
          go_upto_region 10 with (go_at_call 103; refine (HOx.out _).mono ?_; rintro e w1 ⟨rfl, hb1⟩; have S1 := (S0.kept hb1).drew; clear hb1 S0 p0 p1 p2 p3 p4 p5 p6)
          refine wp_region_any (by kernel_rfl) ?_
          try (change wpAny _ _ _ _ _ _ _ (World.drew _))
          generalize w1.drew = Wd at *
          have q0 := S1.c0
          have q1 := S1.c1
          have q2 := S1.c2
          have q3 := S1.c3
          have q4 := S1.c4
          have q5 := S1.c5
          have q6 := S1.c6
          have hbw2 := S1.hb
          have hcO := S1.out.cell
          have hqlt := S1.out.lt
          obtain ⟨a5, c5, n5, w5, hrun, hn5, hown5, hg5, hk5⟩ := run_append_rowB Gu.cl_len Gu.cl_one1 tyG Wd w.heap.size (.slice ta gone.length tc) gone x #[.int .i64 x.vni, .int .i64 x.mac, .int .i64 x.ip, .int .i64 x.door, .int .i64 x.seq, .int .i64 x.seen, .bool x.st] rfl S1.two.rb (by omega) (Nat.le_of_lt S1.ans.lt) 54
          have HRUN := Lib.hid hrun
          have HE := Lib.hid (S1.toGone hqo hn5 hown5 hg5 hk5)
          have c5x := HE.out.1.cell
          have f5x := HE.out.1.frozen
          clear hrun hown5 hg5 hn5 hk5
          refine wpAny_take (i := 0) (v := ?vve1) rfl (by kernel_rfl) (by kernel_rfl) (by kernel_rfl) (fun _ _ _ h => h) (Or.inl ⟨by rfl, ?hye1⟩) ?reste1
          case hye1 => (intro w; go_simp <;> with_reducible rfl)
          refine wpAny_take (i := 2) (v := ?vve2) rfl (by kernel_rfl) (by kernel_rfl) (by kernel_rfl) (fun _ _ _ h => h) (Or.inl ⟨by rfl, ?hye2⟩) ?reste2
          case hye2 => (intro w; go_simp <;> with_reducible rfl)
          refine wpAny_take (i := 3) (v := ?vve3) rfl (by kernel_rfl) (by kernel_rfl) (by kernel_rfl) (fun _ _ _ h => h) (Or.inl ⟨by rfl, ?hye3⟩) ?reste3
          case hye3 => (intro w; go_simp <;> with_reducible rfl)
          refine wpAny_take (i := 4) (v := ?vve4) rfl (by kernel_rfl) (by kernel_rfl) (by kernel_rfl) (fun _ _ _ h => h) (Or.inl ⟨by rfl, ?hye4⟩) ?reste4
          case hye4 => (intro w; go_simp <;> with_reducible rfl)
          refine wpAny_ready (rs := [1, 5]) (by kernel_rfl) (by simp) ?_
          refine (AllReady.cons (o := o9926d_5) rfl (fun K hK => ?_) (AllReady.cons (o := o9926d_6) rfl (fun K hK => ?_) AllReady.nil))
          focus
            go_simp
            refine hK _ _ ?_
            clear hK K
            refine wpAny_ready (rs := [5]) (by kernel_rfl) (by simp) ?_
            refine AllReady.cons (o := o9926d_6) rfl (fun K hK => ?_) AllReady.nil
            go_simp
            refine hK _ _ ?_
            clear hK K
            refine wpAny_ready (rs := [6]) (by kernel_rfl) (by simp) ?_
            refine AllReady.cons (o := o9926d_7) rfl (fun K hK => ?_) AllReady.nil
            go_simp
            refine hK _ _ ?_
            clear hK K
            refine wpAny_ready (rs := [7]) (by kernel_rfl) (by simp) ?_
            refine AllReady.cons (o := o9926d_8) rfl (fun K hK => ?_) AllReady.nil
            refine step_run_appG rfl _ _ _ rfl _ _ _ _ rfl rfl HRUN.out ?_
            refine hK _ _ ?_
            clear hK K
            refine wpAny_take (i := 8) (v := ?vve5) rfl (by kernel_rfl) (by kernel_rfl) (by kernel_rfl) (fun _ _ _ h => h) (Or.inl ⟨by rfl, ?hye5⟩) ?reste5
            case hye5 => (intro w; go_simp <;> with_reducible rfl)
            refine wpAny_ready (rs := [9]) (by kernel_rfl) (by simp) ?_
            refine AllReady.cons (o := o9926d_9) rfl (fun K hK => ?_) AllReady.nil
            go_simp
            refine hK _ _ ?_
            clear hK K
            refine wpAny_done (by kernel_rfl) ?_ _
          rotate_left 1
          focus
            go_simp
            refine hK _ _ ?_
            clear hK K
            refine wpAny_ready (rs := [1, 6]) (by kernel_rfl) (by simp) ?_
            refine (AllReady.cons (o := o9926d_5) rfl (fun K hK => ?_) (AllReady.cons (o := o9926d_7) rfl (fun K hK => ?_) AllReady.nil))
            focus
              go_simp
              refine hK _ _ ?_
              clear hK K
              refine wpAny_ready (rs := [6]) (by kernel_rfl) (by simp) ?_
              refine AllReady.cons (o := o9926d_7) rfl (fun K hK => ?_) AllReady.nil
              go_simp
              refine hK _ _ ?_
              clear hK K
              refine wpAny_ready (rs := [7]) (by kernel_rfl) (by simp) ?_
              refine AllReady.cons (o := o9926d_8) rfl (fun K hK => ?_) AllReady.nil
              refine step_run_appG rfl _ _ _ rfl _ _ _ _ rfl rfl HRUN.out ?_
              refine hK _ _ ?_
              clear hK K
              refine wpAny_take (i := 8) (v := ?vve6) rfl (by kernel_rfl) (by kernel_rfl) (by kernel_rfl) (fun _ _ _ h => h) (Or.inl ⟨by rfl, ?hye6⟩) ?reste6
              case hye6 => (intro w; go_simp <;> with_reducible rfl)
              refine wpAny_ready (rs := [9]) (by kernel_rfl) (by simp) ?_
              refine AllReady.cons (o := o9926d_9) rfl (fun K hK => ?_) AllReady.nil
              go_simp
              refine hK _ _ ?_
              clear hK K
              refine wpAny_done (by kernel_rfl) ?_ _
            rotate_left 1
            focus
              go_simp
              refine hK _ _ ?_
              clear hK K
              refine wpAny_ready (rs := [1]) (by kernel_rfl) (by simp) ?_
              refine AllReady.cons (o := o9926d_5) rfl (fun K hK => ?_) AllReady.nil
              go_simp
              refine hK _ _ ?_
              clear hK K
              refine wpAny_ready (rs := [7]) (by kernel_rfl) (by simp) ?_
              refine AllReady.cons (o := o9926d_8) rfl (fun K hK => ?_) AllReady.nil
              refine step_run_appG rfl _ _ _ rfl _ _ _ _ rfl rfl HRUN.out ?_
              refine hK _ _ ?_
              clear hK K
              refine wpAny_take (i := 8) (v := ?vve7) rfl (by kernel_rfl) (by kernel_rfl) (by kernel_rfl) (fun _ _ _ h => h) (Or.inl ⟨by rfl, ?hye7⟩) ?reste7
              case hye7 => (intro w; go_simp <;> with_reducible rfl)
              refine wpAny_ready (rs := [9]) (by kernel_rfl) (by simp) ?_
              refine AllReady.cons (o := o9926d_9) rfl (fun K hK => ?_) AllReady.nil
              go_simp
              refine hK _ _ ?_
              clear hK K
              refine wpAny_done (by kernel_rfl) ?_ _
            rotate_left 1
          rotate_left 2
          all_goals
            go_wp2_with fail
            go_roundw
            case rel => exact ⟨i + 1, _, _, by omega, by simp, by rw [HK1.out, HG1.out]; exact Lib.hid HE.out.2.1, Lib.hid HE.out.2.2.1, Lib.hid HE.out.2.2.2⟩
            case measure => simp [intOf]; omega
      · have hin : i = n := by omega
        subst hin
        rw [← HZ.out.1, ← HZ.out.2] at HT
        clear HZ HKs HGs HKl HGl HH HN
        generalize stayL now l = K at *
        generalize goneL2 now l = G at *
        obtain ⟨ya, yc, rfl⟩ := rown_form HT.out.ra
        obtain ⟨ta, tc, rfl⟩ := rown_form HT.out.rb
        have hcO := HY.out.cell
        have hc := HX.out.cell
        have hf := HX.out.frozen
        go_wp2_with fail
        have HY2 := Lib.hid (fillO HX.out HT.out.bel (Nat.le_refl _) (.slice ya K.length yc) (.slice ta G.length tc) (.int .i64 0))
        have HT2 := Lib.hid (HT.out.fillO (Nat.le_refl _) HX.out (.slice ya K.length yc) (.slice ta G.length tc) (.int .i64 0))
        generalize (((wr.setCell ⟨w.heap.size, 0, none⟩ (.slice ya K.length yc)).setCell ⟨w.heap.size, 1, none⟩ (.slice ta G.length tc)).setCell ⟨w.heap.size, 2, none⟩ (.int .i64 0)) = w2 at *
        have hc2 := HY2.out.1.cell
        refine bodyPost_ret (v := goV (.slice ya K.length yc) (.slice ta G.length tc) 0) (by simp [results, Try.results60, go_sem, goV, hc2]) rfl ?_
        rw [HR.out]
        exact GoPost.two (r := ⟨K, G, 0⟩) rfl HT2.out
end Go.Proofs.Ytmkoppbbenombaa
