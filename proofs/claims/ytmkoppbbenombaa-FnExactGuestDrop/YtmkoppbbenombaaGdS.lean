/- GuestDrop of the model. -/
import Derived.Test.YtmkoppbbenombaaGdM
namespace Go.Proofs.Ytmkoppbbenombaa
open Go.RowKit
abbrev oe58d1_0 : Oper := { dst := some 33, op := Op.load 54 (Operand.tmp 32), type := 54, pos := "l07_local.go:76", after := #[{ on := 0, ground := Ground.data }], guard := none }
abbrev oe58d1_1 : Oper := { dst := some 37, op := Op.load 59 (Operand.tmp 36), type := 59, pos := "l07_local.go:76", after := #[{ on := 4, ground := Ground.data }], guard := none }
abbrev oe58d1_2 : Oper := { dst := some 38, op := Op.buildSlice 54 1 #[(0, Operand.tmp 37)], type := 54, pos := "l07_local.go:76", after := #[{ on := 5, ground := Ground.data }], guard := none }
abbrev oe58d1_3 : Oper := { dst := some 39, op := Op.call { callee := Callee.builtin Builtin.append, args := #[Operand.tmp 33, Operand.tmp 38], argTypes := #[54, 54] }, type := 54, pos := "l07_local.go:76", after := #[{ on := 1, ground := Ground.data }, { on := 6, ground := Ground.data }], guard := none }
abbrev oe58d1_4 : Oper := { dst := none, op := Op.store 54 (Operand.tmp 40) (Operand.tmp 39), type := 0, pos := "l07_local.go:76", after := #[{ on := 8, ground := Ground.data }, { on := 7, ground := Ground.data }, { on := 7, ground := Ground.chain }, { on := 0, ground := Ground.phase }, { on := 1, ground := Ground.phase }, { on := 2, ground := Ground.phase }, { on := 3, ground := Ground.phase }, { on := 4, ground := Ground.phase }, { on := 5, ground := Ground.phase }, { on := 6, ground := Ground.phase }, { on := 7, ground := Ground.phase }], guard := none }
abbrev oe58d1_5 : Oper := { dst := some 43, op := Op.load 54 (Operand.tmp 42), type := 54, pos := "l07_local.go:79", after := #[{ on := 0, ground := Ground.data }], guard := none }
abbrev oe58d1_6 : Oper := { dst := some 47, op := Op.load 59 (Operand.tmp 46), type := 59, pos := "l07_local.go:79", after := #[{ on := 4, ground := Ground.data }], guard := none }
abbrev oe58d1_7 : Oper := { dst := some 48, op := Op.buildSlice 54 1 #[(0, Operand.tmp 47)], type := 54, pos := "l07_local.go:79", after := #[{ on := 5, ground := Ground.data }], guard := none }
abbrev oe58d1_8 : Oper := { dst := some 49, op := Op.call { callee := Callee.builtin Builtin.append, args := #[Operand.tmp 43, Operand.tmp 48], argTypes := #[54, 54] }, type := 54, pos := "l07_local.go:79", after := #[{ on := 1, ground := Ground.data }, { on := 6, ground := Ground.data }], guard := none }
abbrev oe58d1_9 : Oper := { dst := none, op := Op.store 54 (Operand.tmp 50) (Operand.tmp 49), type := 0, pos := "l07_local.go:79", after := #[{ on := 8, ground := Ground.data }, { on := 7, ground := Ground.data }, { on := 7, ground := Ground.chain }, { on := 0, ground := Ground.phase }, { on := 1, ground := Ground.phase }, { on := 2, ground := Ground.phase }, { on := 3, ground := Ground.phase }, { on := 4, ground := Ground.phase }, { on := 5, ground := Ground.phase }, { on := 6, ground := Ground.phase }, { on := 7, ground := Ground.phase }], guard := none }

/- the loop's memory, with an element of the list in sight -/
structure DrAt (c : Int) (w W : World) (qo b o : Nat) (x : Gu) (y t : Value) (rib gone : List Gu) : Prop where
  two : Two2 w W y t rib gone
  out : Blk W qo 65 #[y, t, .int .i64 c]
  ans : Blk W w.heap.size 65 #[.slice none 0 0, .slice none 0 0, .int .i64 0]
  hb : b < W.heap.size
  c0 : W.cell? ⟨b, o, none⟩ = some (.int .i64 x.vni)
  c1 : W.cell? ⟨b, o + 1, none⟩ = some (.int .i64 x.mac)
  c2 : W.cell? ⟨b, o + 2, none⟩ = some (.int .i64 x.ip)
  c3 : W.cell? ⟨b, o + 3, none⟩ = some (.int .i64 x.door)
  c4 : W.cell? ⟨b, o + 4, none⟩ = some (.int .i64 x.seq)
  c5 : W.cell? ⟨b, o + 5, none⟩ = some (.int .i64 x.seen)
  c6 : W.cell? ⟨b, o + 6, none⟩ = some (.bool x.st)
section
variable {c : Int} {w W W2 w5 : World} {qo b o : Nat} {x : Gu} {y t : Value} {rib gone : List Gu} {ob : Obj} {a5 : Option Addr} {n5 k5 : Nat}
theorem DrAt.kept (h : DrAt c w W qo b o x y t rib gone) (hb : Below W.heap.size W W2) : DrAt c w W2 qo b o x y t rib gone :=
  ⟨h.two.kept hb, h.out.kept hb, h.ans.kept hb, Nat.lt_of_lt_of_le h.hb hb.size, (hb.cell (p := ⟨b, o, none⟩) h.hb).trans h.c0, (hb.cell (p := ⟨b, o + 1, none⟩) h.hb).trans h.c1, (hb.cell (p := ⟨b, o + 2, none⟩) h.hb).trans h.c2, (hb.cell (p := ⟨b, o + 3, none⟩) h.hb).trans h.c3, (hb.cell (p := ⟨b, o + 4, none⟩) h.hb).trans h.c4, (hb.cell (p := ⟨b, o + 5, none⟩) h.hb).trans h.c5, (hb.cell (p := ⟨b, o + 6, none⟩) h.hb).trans h.c6⟩
theorem DrAt.drew (h : DrAt c w W qo b o x y t rib gone) : DrAt c w W.drew qo b o x y t rib gone :=
  ⟨h.two.drew, h.out.drew, h.ans.drew, h.hb, h.c0, h.c1, h.c2, h.c3, h.c4, h.c5, h.c6⟩
theorem DrAt.toRib (h : DrAt c w W qo b o x y t rib gone) (hq : w.heap.size < qo) (hn5 : n5 = (rib ++ [x]).length) (ho : w5.ownsRow w.heap.size 59 7 (.slice a5 n5 k5) n5 (rcells Gu.cl (rib ++ [x]))) (hg : (W.alloc ob).grownBy w5 y.ownBlock)
    (hk : (Value.slice a5 n5 k5).ownBlock = y.ownBlock ∨ (Value.slice a5 n5 k5).ownBlock = some (W.alloc ob).heap.size) :
    Blk w5 qo 65 #[y, t, .int .i64 c] ∧ Two2 w (w5.setCell ⟨qo, 0, none⟩ (.slice a5 n5 k5)) (.slice a5 n5 k5) t (rib ++ [x]) gone ∧ Blk (w5.setCell ⟨qo, 0, none⟩ (.slice a5 n5 k5)) qo 65 #[.slice a5 n5 k5, t, .int .i64 c] ∧ Blk (w5.setCell ⟨qo, 0, none⟩ (.slice a5 n5 k5)) w.heap.size 65 #[.slice none 0 0, .slice none 0 0, .int .i64 0] := by
  have h5 := h.two.blk hg h.out (by decide)
  have h6 := h.two.blk hg h.ans (by decide)
  have hset := h5.set 0 (.slice a5 n5 k5)
  simp only [List.setIfInBounds_toArray, List.set_cons_zero] at hset
  exact ⟨h5, (h.two.app hn5 ho hg hk).set (by omega) h5 (by decide) _ _, hset, h6.far (by omega)⟩
theorem DrAt.toGone (h : DrAt c w W qo b o x y t rib gone) (hq : w.heap.size < qo) (hn5 : n5 = (gone ++ [x]).length) (ho : w5.ownsRow w.heap.size 59 7 (.slice a5 n5 k5) n5 (rcells Gu.cl (gone ++ [x]))) (hg : (W.alloc ob).grownBy w5 t.ownBlock)
    (hk : (Value.slice a5 n5 k5).ownBlock = t.ownBlock ∨ (Value.slice a5 n5 k5).ownBlock = some (W.alloc ob).heap.size) :
    Blk w5 qo 65 #[y, t, .int .i64 c] ∧ Two2 w (w5.setCell ⟨qo, 1, none⟩ (.slice a5 n5 k5)) y (.slice a5 n5 k5) rib (gone ++ [x]) ∧ Blk (w5.setCell ⟨qo, 1, none⟩ (.slice a5 n5 k5)) qo 65 #[y, .slice a5 n5 k5, .int .i64 c] ∧ Blk (w5.setCell ⟨qo, 1, none⟩ (.slice a5 n5 k5)) w.heap.size 65 #[.slice none 0 0, .slice none 0 0, .int .i64 0] := by
  have h5 := h.two.swap.blk hg h.out (by decide)
  have h6 := h.two.swap.blk hg h.ans (by decide)
  have hset := h5.set 1 (.slice a5 n5 k5)
  simp only [List.setIfInBounds_toArray, List.set_cons_zero, List.set_cons_succ] at hset
  exact ⟨h5, ((h.two.swap.app hn5 ho hg hk).set (by omega) h5 (by decide) _ _).swap, hset, h6.far (by omega)⟩
theorem codeD {w1 : World} (h : Two2 w w1 y t rib gone) (hq : w.heap.size < qo) {c0 c1 c2 : Value} (N : Blk w1 qo 65 #[c0, c1, c2]) {v0 : Array Value} (A : Blk w1 w.heap.size 65 v0) (d : Int) :
    Two2 w (w1.setCell ⟨qo, 2, none⟩ (.int .i64 d)) y t rib gone ∧ Blk (w1.setCell ⟨qo, 2, none⟩ (.int .i64 d)) qo 65 #[c0, c1, .int .i64 d] ∧ Blk (w1.setCell ⟨qo, 2, none⟩ (.int .i64 d)) w.heap.size 65 v0 := by
  have hset := N.set 2 (.int .i64 d)
  simp only [List.setIfInBounds_toArray, List.set_cons_zero, List.set_cons_succ] at hset
  exact ⟨h.set (by omega) N (by decide) _ _, hset, A.far (by omega)⟩
end
set_option maxRecDepth 100000 in
set_option maxHeartbeats 8000000 in
theorem specDropIn_any (l : List Gu) (val : Value) (v m : Int) (w : World) (h : GusAt w val l) (hn : l.length ≤ 8) :
    Calls Try.prog 101 #[val, .int .i64 v, .int .i64 m] w (GoPost (dropIn (keyG v m) l) w) := by
  have HKs := Lib.hid (fun (i : Nat) (hi : i < l.length) => leaveG_succ (keyG v m) l i hi)
  have HGs := Lib.hid (fun (i : Nat) (hi : i < l.length) => hitG_succ (keyG v m) l i hi)
  have HKl := Lib.hid (fun (i : Nat) => leaveG_len (keyG v m) l i)
  have HGl := Lib.hid (fun (i : Nat) => hitG_len (keyG v m) l i)
  have HZ : Hid (leaveG (keyG v m) l = leaveG (keyG v m) (l.take l.length) ∧ hitG (keyG v m) l = hitG (keyG v m) (l.take l.length)) := Lib.hid (by rw [List.take_length]; exact ⟨rfl, rfl⟩)
  have HQ := Lib.hid (fun (c : Int) => specIll7_any c)
  have HSm : Hid (∀ x : Gu, sameG (keyG v m) x ↔ x.vni = v ∧ x.mac = m) := Lib.hid (fun x => by unfold sameG keyG; exact ⟨fun h => ⟨h.1.symm, h.2.symm⟩, fun h => ⟨h.1.symm, h.2.symm⟩⟩)
  have HD6 := Lib.hid (fun h => dropIn_none (x := keyG v m) (l := l) h)
  have HD0 : Hid (hitG (keyG v m) l ≠ [] → dropIn (keyG v m) l = ⟨leaveG (keyG v m) l, hitG (keyG v m) l, 0⟩) := Lib.hid (fun h => by rw [dropIn, if_neg h])
  unfold goV at HQ
  obtain ⟨a, cap, rfl, h⟩ := h
  rw [List.length_map] at *
  have HH := Lib.hid h
  clear h
  generalize keyG v m = K0 at *
  generalize dropIn K0 l = S at *
  obtain ⟨n, hnn⟩ : ∃ n, n = l.length := ⟨_, rfl⟩
  rw [← hnn] at hn HZ HKl HGl ⊢
  have HN := Lib.hid hnn
  clear hnn
  have A0 := (Blk.new w 65 #[.slice none 0 0, .slice none 0 0, .int .i64 0]).alloc (.cells #[.slice none 0 0, .slice none 0 0, .int .i64 6] 65)
  have N0 := Blk.new (w.alloc (.cells #[.slice none 0 0, .slice none 0 0, .int .i64 0] 65)) 65 #[.slice none 0 0, .slice none 0 0, .int .i64 6]
  rw [World.size_alloc] at N0
  obtain ⟨W0, hW0⟩ : ∃ X, X = (w.alloc (.cells #[.slice none 0 0, .slice none 0 0, .int .i64 0] 65)).alloc (.cells #[.slice none 0 0, .slice none 0 0, .int .i64 6] 65) := ⟨_, rfl⟩
  have HB : Below w.heap.size w W0 := by rw [hW0]; exact ((Below.refl _ _).alloc (Nat.le_refl _) _).alloc (by simp) _
  rw [← hW0] at A0 N0
  have HT0 : Hid (Two2 w W0 (.slice none 0 0) (.slice none 0 0) (leaveG K0 (l.take 0)) (hitG K0 (l.take 0))) := Lib.hid ⟨World.ownsRow_nil _ _ _ _, World.ownsRow_nil _ _ _ _, .inl rfl, HB⟩
  obtain ⟨qo, hq⟩ : ∃ q, q = w.heap.size + 1 := ⟨_, rfl⟩
  have hqo : w.heap.size < qo := by omega
  have HN0 : Hid (Blk W0 qo 65 #[.slice none 0 0, .slice none 0 0, .int .i64 (codeG (hitG K0 (l.take 0)))]) := Lib.hid (by rw [hq]; exact N0)
  have HX0 := Lib.hid A0
  clear A0 N0 HB
  go_enter Try.func101, Try.ntmps101
  go_upto_region 2 with fail
  rw [← hW0, ← hq]
  clear hW0 hq
  go_wp2_with fail
  go_loopw [8] (fun u wr => ∃ (i : Nat) (y t : Value), i ≤ n ∧ u = .int .i64 (i : Int) ∧ Hid (Two2 w wr y t (leaveG K0 (l.take i)) (hitG K0 (l.take i))) ∧ Hid (Blk wr qo 65 #[y, t, .int .i64 (codeG (hitG K0 (l.take i)))]) ∧ Hid (Blk wr w.heap.size 65 #[.slice none 0 0, .slice none 0 0, .int .i64 0])) (fun u _ => n - (intOf u).toNat)
  case atStart => exact ⟨0, _, _, Nat.zero_le _, rfl, HT0, HN0, HX0⟩
  case round =>
    clear HT0 HN0 HX0
    obtain ⟨i, y, t, hi, rfl, HT, HY, HX⟩ := hrel
    by_cases hlt : i < n
    · have hir : i < l.length := by rw [← HN.out]; exact hlt
      have hne : l.map Gu.cl ≠ [] := fun e => by
        have := congrArg List.length e
        rw [List.length_map, ← HN.out] at this
        simp at this; omega
      obtain ⟨b, off, ha, hb, HE⟩ := HH.out hne
      subst ha
      have hl1 : (i : Int) < n := by omega
      obtain ⟨p0, p1, p2, p3, p4, p5, p6⟩ := (Elems.below HE HT.out.bel hb).gu i hir
      obtain ⟨cd, hcd⟩ : ∃ cd, cd = codeG (hitG K0 (l.take i)) := ⟨_, rfl⟩
      rw [← hcd] at HY
      have HCD := Lib.hid hcd
      clear hcd
      have S0 : DrAt cd w wr qo b (off + i * 7) l[i] y t (leaveG K0 (l.take i)) (hitG K0 (l.take i)) := ⟨HT.out, HY.out, HX.out, Nat.lt_of_lt_of_le hb HT.out.bel.size, p0, p1, p2, p3, p4, p5, p6⟩
      have HK1 := Lib.hid (HKs.out i hir)
      have HG1 := Lib.hid (HGs.out i hir)
      have hk60 := HKl.out i
      have hg60 := HGl.out i
      have hsx := HSm.out l[i]
      clear HE HT HY HX
      generalize l[i] = x at *
      generalize leaveG K0 (l.take i) = rib at *
      generalize hitG K0 (l.take i) = gone at *
      obtain ⟨ya, yc, rfl⟩ := rown_form S0.two.ra
      obtain ⟨ta, tc, rfl⟩ := rown_form S0.two.rb
      by_cases hs : sameG K0 x
      · rw [if_pos hs] at HK1 HG1
        obtain ⟨h1, h2⟩ := hsx.1 hs
        clear hsx hs
        have S1 := S0.drew
        clear S0
        · go_upto_region 6 with fail
          clear h1 h2 p0 p1 p2 p3 p4 p5 p6
          refine wp_region_any (by kernel_rfl) ?_
          try (change wpAny _ _ _ _ _ _ _ (World.drew _))
          generalize wr.drew = Wd at *
          have q0 := S1.c0
          have q1 := S1.c1
          have q2 := S1.c2
          have q3 := S1.c3
          have q4 := S1.c4
          have q5 := S1.c5
          have q6 := S1.c6
          have hbw2 := S1.hb
          have hcO := S1.out.cell
          have hqlt := S1.out.lt
          obtain ⟨a5, c5, n5, w5, hrun, hn5, hown5, hg5, hk5⟩ := run_append_rowB Gu.cl_len Gu.cl_one1 tyG Wd w.heap.size (.slice ta gone.length tc) gone x #[.int .i64 x.vni, .int .i64 x.mac, .int .i64 x.ip, .int .i64 x.door, .int .i64 x.seq, .int .i64 x.seen, .bool x.st] rfl S1.two.rb (by omega) (Nat.le_of_lt S1.ans.lt) 54
          have HRUN := Lib.hid hrun
          have HE := Lib.hid (S1.toGone hqo hn5 hown5 hg5 hk5)
          have c5x := HE.out.1.cell
          have f5x := HE.out.1.frozen
          have c6x := HE.out.2.2.1.cell
          have f6x := HE.out.2.2.1.frozen
          clear hrun hown5 hg5 hn5 hk5
          refine wpAny_take (i := 0) (v := ?vva1) rfl (by kernel_rfl) (by kernel_rfl) (by kernel_rfl) (fun _ _ _ h => h) (Or.inl ⟨by rfl, ?hya1⟩) ?resta1
          case hya1 => (intro w; go_simp <;> with_reducible rfl)
          refine wpAny_take (i := 2) (v := ?vva2) rfl (by kernel_rfl) (by kernel_rfl) (by kernel_rfl) (fun _ _ _ h => h) (Or.inl ⟨by rfl, ?hya2⟩) ?resta2
          case hya2 => (intro w; go_simp <;> with_reducible rfl)
          refine wpAny_take (i := 3) (v := ?vva3) rfl (by kernel_rfl) (by kernel_rfl) (by kernel_rfl) (fun _ _ _ h => h) (Or.inl ⟨by rfl, ?hya3⟩) ?resta3
          case hya3 => (intro w; go_simp <;> with_reducible rfl)
          refine wpAny_take (i := 4) (v := ?vva4) rfl (by kernel_rfl) (by kernel_rfl) (by kernel_rfl) (fun _ _ _ h => h) (Or.inl ⟨by rfl, ?hya4⟩) ?resta4
          case hya4 => (intro w; go_simp <;> with_reducible rfl)
          refine wpAny_ready (rs := [1, 5]) (by kernel_rfl) (by simp) ?_
          refine (AllReady.cons (o := oe58d1_0) rfl (fun K hK => ?_) (AllReady.cons (o := oe58d1_1) rfl (fun K hK => ?_) AllReady.nil))
          focus
            go_simp
            refine hK _ _ ?_
            clear hK K
            refine wpAny_ready (rs := [5]) (by kernel_rfl) (by simp) ?_
            refine AllReady.cons (o := oe58d1_1) rfl (fun K hK => ?_) AllReady.nil
            go_simp
            refine hK _ _ ?_
            clear hK K
            refine wpAny_ready (rs := [6]) (by kernel_rfl) (by simp) ?_
            refine AllReady.cons (o := oe58d1_2) rfl (fun K hK => ?_) AllReady.nil
            go_simp
            refine hK _ _ ?_
            clear hK K
            refine wpAny_ready (rs := [7]) (by kernel_rfl) (by simp) ?_
            refine AllReady.cons (o := oe58d1_3) rfl (fun K hK => ?_) AllReady.nil
            refine step_run_appG rfl _ _ _ rfl _ _ _ _ rfl rfl HRUN.out ?_
            refine hK _ _ ?_
            clear hK K
            refine wpAny_take (i := 8) (v := ?vva5) rfl (by kernel_rfl) (by kernel_rfl) (by kernel_rfl) (fun _ _ _ h => h) (Or.inl ⟨by rfl, ?hya5⟩) ?resta5
            case hya5 => (intro w; go_simp <;> with_reducible rfl)
            refine wpAny_ready (rs := [9]) (by kernel_rfl) (by simp) ?_
            refine AllReady.cons (o := oe58d1_4) rfl (fun K hK => ?_) AllReady.nil
            go_simp
            refine hK _ _ ?_
            clear hK K
            refine wpAny_done (by kernel_rfl) ?_ _
          rotate_left 1
          focus
            go_simp
            refine hK _ _ ?_
            clear hK K
            refine wpAny_ready (rs := [1, 6]) (by kernel_rfl) (by simp) ?_
            refine (AllReady.cons (o := oe58d1_0) rfl (fun K hK => ?_) (AllReady.cons (o := oe58d1_2) rfl (fun K hK => ?_) AllReady.nil))
            focus
              go_simp
              refine hK _ _ ?_
              clear hK K
              refine wpAny_ready (rs := [6]) (by kernel_rfl) (by simp) ?_
              refine AllReady.cons (o := oe58d1_2) rfl (fun K hK => ?_) AllReady.nil
              go_simp
              refine hK _ _ ?_
              clear hK K
              refine wpAny_ready (rs := [7]) (by kernel_rfl) (by simp) ?_
              refine AllReady.cons (o := oe58d1_3) rfl (fun K hK => ?_) AllReady.nil
              refine step_run_appG rfl _ _ _ rfl _ _ _ _ rfl rfl HRUN.out ?_
              refine hK _ _ ?_
              clear hK K
              refine wpAny_take (i := 8) (v := ?vva6) rfl (by kernel_rfl) (by kernel_rfl) (by kernel_rfl) (fun _ _ _ h => h) (Or.inl ⟨by rfl, ?hya6⟩) ?resta6
              case hya6 => (intro w; go_simp <;> with_reducible rfl)
              refine wpAny_ready (rs := [9]) (by kernel_rfl) (by simp) ?_
              refine AllReady.cons (o := oe58d1_4) rfl (fun K hK => ?_) AllReady.nil
              go_simp
              refine hK _ _ ?_
              clear hK K
              refine wpAny_done (by kernel_rfl) ?_ _
            rotate_left 1
            focus
              go_simp
              refine hK _ _ ?_
              clear hK K
              refine wpAny_ready (rs := [1]) (by kernel_rfl) (by simp) ?_
              refine AllReady.cons (o := oe58d1_0) rfl (fun K hK => ?_) AllReady.nil
              go_simp
              refine hK _ _ ?_
              clear hK K
              refine wpAny_ready (rs := [7]) (by kernel_rfl) (by simp) ?_
              refine AllReady.cons (o := oe58d1_3) rfl (fun K hK => ?_) AllReady.nil
              refine step_run_appG rfl _ _ _ rfl _ _ _ _ rfl rfl HRUN.out ?_
              refine hK _ _ ?_
              clear hK K
              refine wpAny_take (i := 8) (v := ?vva7) rfl (by kernel_rfl) (by kernel_rfl) (by kernel_rfl) (fun _ _ _ h => h) (Or.inl ⟨by rfl, ?hya7⟩) ?resta7
              case hya7 => (intro w; go_simp <;> with_reducible rfl)
              refine wpAny_ready (rs := [9]) (by kernel_rfl) (by simp) ?_
              refine AllReady.cons (o := oe58d1_4) rfl (fun K hK => ?_) AllReady.nil
              go_simp
              refine hK _ _ ?_
              clear hK K
              refine wpAny_done (by kernel_rfl) ?_ _
            rotate_left 1
          rotate_left 2
          all_goals
            go_wp2_with fail
            go_roundw
            case rel => exact ⟨i + 1, _, _, by omega, by simp, by rw [HK1.out, HG1.out]; exact Lib.hid (codeD HE.out.2.1 hqo HE.out.2.2.1 HE.out.2.2.2 0).1, by rw [HG1.out, codeG_snoc]; exact Lib.hid (codeD HE.out.2.1 hqo HE.out.2.2.1 HE.out.2.2.2 0).2.1, Lib.hid (codeD HE.out.2.1 hqo HE.out.2.2.1 HE.out.2.2.2 0).2.2⟩
            case measure => simp [intOf]; omega
      · rw [if_neg hs] at HK1 HG1
        have S1 := S0.drew
        clear S0
        by_cases h1 : x.vni = v
        · have h2 : ¬ x.mac = m := fun e => hs (hsx.2 ⟨h1, e⟩)
          clear hsx hs
          go_upto_region 8 with fail
          clear h1 h2 p0 p1 p2 p3 p4 p5 p6
          refine wp_region_any (by kernel_rfl) ?_
          try (change wpAny _ _ _ _ _ _ _ (World.drew _))
          generalize wr.drew = Wd at *
          have q0 := S1.c0
          have q1 := S1.c1
          have q2 := S1.c2
          have q3 := S1.c3
          have q4 := S1.c4
          have q5 := S1.c5
          have q6 := S1.c6
          have hbw2 := S1.hb
          have hcO := S1.out.cell
          have hqlt := S1.out.lt
          obtain ⟨a5, c5, n5, w5, hrun, hn5, hown5, hg5, hk5⟩ := run_append_rowB Gu.cl_len Gu.cl_one1 tyG Wd w.heap.size (.slice ya rib.length yc) rib x #[.int .i64 x.vni, .int .i64 x.mac, .int .i64 x.ip, .int .i64 x.door, .int .i64 x.seq, .int .i64 x.seen, .bool x.st] rfl S1.two.ra (by omega) (Nat.le_of_lt S1.ans.lt) 54
          have HRUN := Lib.hid hrun
          have HE := Lib.hid (S1.toRib hqo hn5 hown5 hg5 hk5)
          have c5x := HE.out.1.cell
          have f5x := HE.out.1.frozen
          have c6x := HE.out.2.2.1.cell
          have f6x := HE.out.2.2.1.frozen
          clear hrun hown5 hg5 hn5 hk5
          refine wpAny_take (i := 0) (v := ?vvb1) rfl (by kernel_rfl) (by kernel_rfl) (by kernel_rfl) (fun _ _ _ h => h) (Or.inl ⟨by rfl, ?hyb1⟩) ?restb1
          case hyb1 => (intro w; go_simp <;> with_reducible rfl)
          refine wpAny_take (i := 2) (v := ?vvb2) rfl (by kernel_rfl) (by kernel_rfl) (by kernel_rfl) (fun _ _ _ h => h) (Or.inl ⟨by rfl, ?hyb2⟩) ?restb2
          case hyb2 => (intro w; go_simp <;> with_reducible rfl)
          refine wpAny_take (i := 3) (v := ?vvb3) rfl (by kernel_rfl) (by kernel_rfl) (by kernel_rfl) (fun _ _ _ h => h) (Or.inl ⟨by rfl, ?hyb3⟩) ?restb3
          case hyb3 => (intro w; go_simp <;> with_reducible rfl)
          refine wpAny_take (i := 4) (v := ?vvb4) rfl (by kernel_rfl) (by kernel_rfl) (by kernel_rfl) (fun _ _ _ h => h) (Or.inl ⟨by rfl, ?hyb4⟩) ?restb4
          case hyb4 => (intro w; go_simp <;> with_reducible rfl)
          refine wpAny_ready (rs := [1, 5]) (by kernel_rfl) (by simp) ?_
          refine (AllReady.cons (o := oe58d1_5) rfl (fun K hK => ?_) (AllReady.cons (o := oe58d1_6) rfl (fun K hK => ?_) AllReady.nil))
          focus
            go_simp
            refine hK _ _ ?_
            clear hK K
            refine wpAny_ready (rs := [5]) (by kernel_rfl) (by simp) ?_
            refine AllReady.cons (o := oe58d1_6) rfl (fun K hK => ?_) AllReady.nil
            go_simp
            refine hK _ _ ?_
            clear hK K
            refine wpAny_ready (rs := [6]) (by kernel_rfl) (by simp) ?_
            refine AllReady.cons (o := oe58d1_7) rfl (fun K hK => ?_) AllReady.nil
            go_simp
            refine hK _ _ ?_
            clear hK K
            refine wpAny_ready (rs := [7]) (by kernel_rfl) (by simp) ?_
            refine AllReady.cons (o := oe58d1_8) rfl (fun K hK => ?_) AllReady.nil
            refine step_run_appG rfl _ _ _ rfl _ _ _ _ rfl rfl HRUN.out ?_
            refine hK _ _ ?_
            clear hK K
            refine wpAny_take (i := 8) (v := ?vvb5) rfl (by kernel_rfl) (by kernel_rfl) (by kernel_rfl) (fun _ _ _ h => h) (Or.inl ⟨by rfl, ?hyb5⟩) ?restb5
            case hyb5 => (intro w; go_simp <;> with_reducible rfl)
            refine wpAny_ready (rs := [9]) (by kernel_rfl) (by simp) ?_
            refine AllReady.cons (o := oe58d1_9) rfl (fun K hK => ?_) AllReady.nil
            go_simp
            refine hK _ _ ?_
            clear hK K
            refine wpAny_done (by kernel_rfl) ?_ _
          rotate_left 1
          focus
            go_simp
            refine hK _ _ ?_
            clear hK K
            refine wpAny_ready (rs := [1, 6]) (by kernel_rfl) (by simp) ?_
            refine (AllReady.cons (o := oe58d1_5) rfl (fun K hK => ?_) (AllReady.cons (o := oe58d1_7) rfl (fun K hK => ?_) AllReady.nil))
            focus
              go_simp
              refine hK _ _ ?_
              clear hK K
              refine wpAny_ready (rs := [6]) (by kernel_rfl) (by simp) ?_
              refine AllReady.cons (o := oe58d1_7) rfl (fun K hK => ?_) AllReady.nil
              go_simp
              refine hK _ _ ?_
              clear hK K
              refine wpAny_ready (rs := [7]) (by kernel_rfl) (by simp) ?_
              refine AllReady.cons (o := oe58d1_8) rfl (fun K hK => ?_) AllReady.nil
              refine step_run_appG rfl _ _ _ rfl _ _ _ _ rfl rfl HRUN.out ?_
              refine hK _ _ ?_
              clear hK K
              refine wpAny_take (i := 8) (v := ?vvb6) rfl (by kernel_rfl) (by kernel_rfl) (by kernel_rfl) (fun _ _ _ h => h) (Or.inl ⟨by rfl, ?hyb6⟩) ?restb6
              case hyb6 => (intro w; go_simp <;> with_reducible rfl)
              refine wpAny_ready (rs := [9]) (by kernel_rfl) (by simp) ?_
              refine AllReady.cons (o := oe58d1_9) rfl (fun K hK => ?_) AllReady.nil
              go_simp
              refine hK _ _ ?_
              clear hK K
              refine wpAny_done (by kernel_rfl) ?_ _
            rotate_left 1
            focus
              go_simp
              refine hK _ _ ?_
              clear hK K
              refine wpAny_ready (rs := [1]) (by kernel_rfl) (by simp) ?_
              refine AllReady.cons (o := oe58d1_5) rfl (fun K hK => ?_) AllReady.nil
              go_simp
              refine hK _ _ ?_
              clear hK K
              refine wpAny_ready (rs := [7]) (by kernel_rfl) (by simp) ?_
              refine AllReady.cons (o := oe58d1_8) rfl (fun K hK => ?_) AllReady.nil
              refine step_run_appG rfl _ _ _ rfl _ _ _ _ rfl rfl HRUN.out ?_
              refine hK _ _ ?_
              clear hK K
              refine wpAny_take (i := 8) (v := ?vvb7) rfl (by kernel_rfl) (by kernel_rfl) (by kernel_rfl) (fun _ _ _ h => h) (Or.inl ⟨by rfl, ?hyb7⟩) ?restb7
              case hyb7 => (intro w; go_simp <;> with_reducible rfl)
              refine wpAny_ready (rs := [9]) (by kernel_rfl) (by simp) ?_
              refine AllReady.cons (o := oe58d1_9) rfl (fun K hK => ?_) AllReady.nil
              go_simp
              refine hK _ _ ?_
              clear hK K
              refine wpAny_done (by kernel_rfl) ?_ _
            rotate_left 1
          rotate_left 2
          all_goals
            go_wp2_with fail
            go_roundw
            case rel => exact ⟨i + 1, _, _, by omega, by simp, by rw [HK1.out, HG1.out]; exact Lib.hid HE.out.2.1, by rw [HG1.out, ← HCD.out]; exact Lib.hid HE.out.2.2.1, Lib.hid HE.out.2.2.2⟩
            case measure => simp [intOf]; omega
        · clear hsx hs
          go_upto_region 8 with fail
          clear h1 p0 p1 p2 p3 p4 p5 p6
          refine wp_region_any (by kernel_rfl) ?_
          try (change wpAny _ _ _ _ _ _ _ (World.drew _))
          generalize wr.drew = Wd at *
          have q0 := S1.c0
          have q1 := S1.c1
          have q2 := S1.c2
          have q3 := S1.c3
          have q4 := S1.c4
          have q5 := S1.c5
          have q6 := S1.c6
          have hbw2 := S1.hb
          have hcO := S1.out.cell
          have hqlt := S1.out.lt
          obtain ⟨a5, c5, n5, w5, hrun, hn5, hown5, hg5, hk5⟩ := run_append_rowB Gu.cl_len Gu.cl_one1 tyG Wd w.heap.size (.slice ya rib.length yc) rib x #[.int .i64 x.vni, .int .i64 x.mac, .int .i64 x.ip, .int .i64 x.door, .int .i64 x.seq, .int .i64 x.seen, .bool x.st] rfl S1.two.ra (by omega) (Nat.le_of_lt S1.ans.lt) 54
          have HRUN := Lib.hid hrun
          have HE := Lib.hid (S1.toRib hqo hn5 hown5 hg5 hk5)
          have c5x := HE.out.1.cell
          have f5x := HE.out.1.frozen
          have c6x := HE.out.2.2.1.cell
          have f6x := HE.out.2.2.1.frozen
          clear hrun hown5 hg5 hn5 hk5
          refine wpAny_take (i := 0) (v := ?vvc1) rfl (by kernel_rfl) (by kernel_rfl) (by kernel_rfl) (fun _ _ _ h => h) (Or.inl ⟨by rfl, ?hyc1⟩) ?restc1
          case hyc1 => (intro w; go_simp <;> with_reducible rfl)
          refine wpAny_take (i := 2) (v := ?vvc2) rfl (by kernel_rfl) (by kernel_rfl) (by kernel_rfl) (fun _ _ _ h => h) (Or.inl ⟨by rfl, ?hyc2⟩) ?restc2
          case hyc2 => (intro w; go_simp <;> with_reducible rfl)
          refine wpAny_take (i := 3) (v := ?vvc3) rfl (by kernel_rfl) (by kernel_rfl) (by kernel_rfl) (fun _ _ _ h => h) (Or.inl ⟨by rfl, ?hyc3⟩) ?restc3
          case hyc3 => (intro w; go_simp <;> with_reducible rfl)
          refine wpAny_take (i := 4) (v := ?vvc4) rfl (by kernel_rfl) (by kernel_rfl) (by kernel_rfl) (fun _ _ _ h => h) (Or.inl ⟨by rfl, ?hyc4⟩) ?restc4
          case hyc4 => (intro w; go_simp <;> with_reducible rfl)
          refine wpAny_ready (rs := [1, 5]) (by kernel_rfl) (by simp) ?_
          refine (AllReady.cons (o := oe58d1_5) rfl (fun K hK => ?_) (AllReady.cons (o := oe58d1_6) rfl (fun K hK => ?_) AllReady.nil))
          focus
            go_simp
            refine hK _ _ ?_
            clear hK K
            refine wpAny_ready (rs := [5]) (by kernel_rfl) (by simp) ?_
            refine AllReady.cons (o := oe58d1_6) rfl (fun K hK => ?_) AllReady.nil
            go_simp
            refine hK _ _ ?_
            clear hK K
            refine wpAny_ready (rs := [6]) (by kernel_rfl) (by simp) ?_
            refine AllReady.cons (o := oe58d1_7) rfl (fun K hK => ?_) AllReady.nil
            go_simp
            refine hK _ _ ?_
            clear hK K
            refine wpAny_ready (rs := [7]) (by kernel_rfl) (by simp) ?_
            refine AllReady.cons (o := oe58d1_8) rfl (fun K hK => ?_) AllReady.nil
            refine step_run_appG rfl _ _ _ rfl _ _ _ _ rfl rfl HRUN.out ?_
            refine hK _ _ ?_
            clear hK K
            refine wpAny_take (i := 8) (v := ?vvc5) rfl (by kernel_rfl) (by kernel_rfl) (by kernel_rfl) (fun _ _ _ h => h) (Or.inl ⟨by rfl, ?hyc5⟩) ?restc5
            case hyc5 => (intro w; go_simp <;> with_reducible rfl)
            refine wpAny_ready (rs := [9]) (by kernel_rfl) (by simp) ?_
            refine AllReady.cons (o := oe58d1_9) rfl (fun K hK => ?_) AllReady.nil
            go_simp
            refine hK _ _ ?_
            clear hK K
            refine wpAny_done (by kernel_rfl) ?_ _
          rotate_left 1
          focus
            go_simp
            refine hK _ _ ?_
            clear hK K
            refine wpAny_ready (rs := [1, 6]) (by kernel_rfl) (by simp) ?_
            refine (AllReady.cons (o := oe58d1_5) rfl (fun K hK => ?_) (AllReady.cons (o := oe58d1_7) rfl (fun K hK => ?_) AllReady.nil))
            focus
              go_simp
              refine hK _ _ ?_
              clear hK K
              refine wpAny_ready (rs := [6]) (by kernel_rfl) (by simp) ?_
              refine AllReady.cons (o := oe58d1_7) rfl (fun K hK => ?_) AllReady.nil
              go_simp
              refine hK _ _ ?_
              clear hK K
              refine wpAny_ready (rs := [7]) (by kernel_rfl) (by simp) ?_
              refine AllReady.cons (o := oe58d1_8) rfl (fun K hK => ?_) AllReady.nil
              refine step_run_appG rfl _ _ _ rfl _ _ _ _ rfl rfl HRUN.out ?_
              refine hK _ _ ?_
              clear hK K
              refine wpAny_take (i := 8) (v := ?vvc6) rfl (by kernel_rfl) (by kernel_rfl) (by kernel_rfl) (fun _ _ _ h => h) (Or.inl ⟨by rfl, ?hyc6⟩) ?restc6
              case hyc6 => (intro w; go_simp <;> with_reducible rfl)
              refine wpAny_ready (rs := [9]) (by kernel_rfl) (by simp) ?_
              refine AllReady.cons (o := oe58d1_9) rfl (fun K hK => ?_) AllReady.nil
              go_simp
              refine hK _ _ ?_
              clear hK K
              refine wpAny_done (by kernel_rfl) ?_ _
            rotate_left 1
            focus
              go_simp
              refine hK _ _ ?_
              clear hK K
              refine wpAny_ready (rs := [1]) (by kernel_rfl) (by simp) ?_
              refine AllReady.cons (o := oe58d1_5) rfl (fun K hK => ?_) AllReady.nil
              go_simp
              refine hK _ _ ?_
              clear hK K
              refine wpAny_ready (rs := [7]) (by kernel_rfl) (by simp) ?_
              refine AllReady.cons (o := oe58d1_8) rfl (fun K hK => ?_) AllReady.nil
              refine step_run_appG rfl _ _ _ rfl _ _ _ _ rfl rfl HRUN.out ?_
              refine hK _ _ ?_
              clear hK K
              refine wpAny_take (i := 8) (v := ?vvc7) rfl (by kernel_rfl) (by kernel_rfl) (by kernel_rfl) (fun _ _ _ h => h) (Or.inl ⟨by rfl, ?hyc7⟩) ?restc7
              case hyc7 => (intro w; go_simp <;> with_reducible rfl)
              refine wpAny_ready (rs := [9]) (by kernel_rfl) (by simp) ?_
              refine AllReady.cons (o := oe58d1_9) rfl (fun K hK => ?_) AllReady.nil
              go_simp
              refine hK _ _ ?_
              clear hK K
              refine wpAny_done (by kernel_rfl) ?_ _
            rotate_left 1
          rotate_left 2
          all_goals
            go_wp2_with fail
            go_roundw
            case rel => exact ⟨i + 1, _, _, by omega, by simp, by rw [HK1.out, HG1.out]; exact Lib.hid HE.out.2.1, by rw [HG1.out, ← HCD.out]; exact Lib.hid HE.out.2.2.1, Lib.hid HE.out.2.2.2⟩
            case measure => simp [intOf]; omega
    · have hin : i = n := by omega
      subst hin
      rw [← HZ.out.1, ← HZ.out.2] at HT
      rw [← HZ.out.2] at HY
      clear HZ HKs HGs HKl HGl HH HN HSm
      by_cases hnil : hitG K0 l = []
      · have HTI := Lib.hid (HD6.out hnil)
        rw [hnil] at HT HY
        have HT6 : Two2 w wr y t (leaveG K0 l) [] := HT.out
        have HY6 : Blk wr qo 65 #[y, t, .int .i64 6] := HY.out
        clear hnil HT HY HD6 HD0
        have hcO := HY6.cell
        have XR := HX.out
        have HBR := HT6.bel
        clear HX HT6
        go_wp2_with (go_at_call 95; refine (HQ.out _ _).mono ?_; rintro x w1 ⟨rfl, hb1⟩; have X1 := XR.kept hb1; have HB1 := HBR.trans (hb1.mono HBR.size); have hc := X1.cell; have hf := X1.frozen; clear hb1 hcO)
        have HY := Lib.hid (fillO X1 HB1 (Nat.le_refl _) (.slice none 0 0) (.slice none 0 0) (.int .i64 6))
        generalize (((w1.setCell ⟨w.heap.size, 0, none⟩ (.slice none 0 0)).setCell ⟨w.heap.size, 1, none⟩ (.slice none 0 0)).setCell ⟨w.heap.size, 2, none⟩ (.int .i64 6)) = w2 at *
        have hc2 := HY.out.1.cell
        refine bodyPost_ret (v := goV (.slice none 0 0) (.slice none 0 0) 6) (by simp [results, Try.results101, go_sem, goV, hc2]) rfl ?_
        exact GoPost.ill HTI.out rfl HY.out.2
      · have HTI := Lib.hid (HD0.out hnil)
        rw [codeG_some hnil] at HY
        clear hnil HD6 HD0
        generalize leaveG K0 l = K at *
        generalize hitG K0 l = G at *
        obtain ⟨ya, yc, rfl⟩ := rown_form HT.out.ra
        obtain ⟨ta, tc, rfl⟩ := rown_form HT.out.rb
        have hcO := HY.out.cell
        have hc := HX.out.cell
        have hf := HX.out.frozen
        go_wp2_with fail
        have HY2 := Lib.hid (fillO HX.out HT.out.bel (Nat.le_refl _) (.slice ya K.length yc) (.slice ta G.length tc) (.int .i64 0))
        have HT2 := Lib.hid (HT.out.fillO (Nat.le_refl _) HX.out (.slice ya K.length yc) (.slice ta G.length tc) (.int .i64 0))
        generalize (((wr.setCell ⟨w.heap.size, 0, none⟩ (.slice ya K.length yc)).setCell ⟨w.heap.size, 1, none⟩ (.slice ta G.length tc)).setCell ⟨w.heap.size, 2, none⟩ (.int .i64 0)) = w2 at *
        have hc2 := HY2.out.1.cell
        refine bodyPost_ret (v := goV (.slice ya K.length yc) (.slice ta G.length tc) 0) (by simp [results, Try.results101, go_sem, goV, hc2]) rfl ?_
        rw [HTI.out]
        exact GoPost.two (r := ⟨K, G, 0⟩) rfl HT2.out
end Go.Proofs.Ytmkoppbbenombaa
