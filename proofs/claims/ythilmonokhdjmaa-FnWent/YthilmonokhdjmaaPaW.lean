/- The program's parted over moves, madeBy, listFault, WentDrop. -/
import Derived.Test.YthilmonokhdjmaaWnS
namespace Go.Proofs.Ythilmonokhdjmaa
open Go.RowKit

/- two rows of moves side by side -/
structure TwoM (w wr : World) (y t : Value) (a b : List Mv) : Prop where
  ra : wr.ownsRow w.heap.size 34 3 y a.length (rcells Mv.cl a)
  rb : wr.ownsRow w.heap.size 34 3 t b.length (rcells Mv.cl b)
  ap : y.ownBlock = none ∨ y.ownBlock ≠ t.ownBlock
  bel : Below w.heap.size w wr
section
variable {w wr w5 : World} {y t : Value} {a b : List Mv} {x : Mv} {o : Obj} {a5 : Option Addr} {n5 c5 : Nat}
theorem TwoM.start (w : World) : TwoM w w (.slice none 0 0) (.slice none 0 0) [] [] := ⟨World.ownsRow_nil _ _ _ _, World.ownsRow_nil _ _ _ _, .inl rfl, Below.refl _ _⟩
theorem TwoM.swap (h : TwoM w wr y t a b) : TwoM w wr t y b a := ⟨h.rb, h.ra, rapart_symm h.ap, h.bel⟩
theorem TwoM.kept (h : TwoM w wr y t a b) (hb : Below wr.heap.size wr w5) : TwoM w w5 y t a b := ⟨rown_below h.ra hb, rown_below h.rb hb, h.ap, h.bel.trans (hb.mono h.bel.size)⟩
theorem TwoM.alloc (h : TwoM w wr y t a b) (o : Obj) : TwoM w (wr.alloc o) y t a b := h.kept ((Below.refl _ _).alloc (Nat.le_refl _) o)
theorem TwoM.drew (h : TwoM w wr y t a b) : TwoM w wr.drew y t a b := ⟨h.ra, h.rb, h.ap, h.bel.drew⟩
theorem TwoM.app (h : TwoM w wr y t a b) (hn5 : n5 = (a ++ [x]).length) (ho : w5.ownsRow w.heap.size 34 3 (.slice a5 n5 c5) n5 (rcells Mv.cl (a ++ [x]))) (hg : (wr.alloc o).grownBy w5 y.ownBlock)
    (hk : (Value.slice a5 n5 c5).ownBlock = y.ownBlock ∨ (Value.slice a5 n5 c5).ownBlock = some (wr.alloc o).heap.size) : TwoM w w5 (.slice a5 n5 c5) t (a ++ [x]) b := by
  refine ⟨by rw [← hn5]; exact ho, (h.rb.alloc o).kept hg (rapart_symm h.ap), ?_, app_below h.bel h.bel.size h.ra hg⟩
  rcases hk with hk | hk
  · rw [hk]; exact h.ap
  · rw [hk]
    refine .inr (fun e => ?_)
    have := (h.rb.lt _ e.symm).2
    simp at this
    omega
theorem TwoM.set (h : TwoM w wr y t a b) {q : Nat} {tq : TypeId} {cs : Array Value} (hq : w.heap.size ≤ q) (hX : Blk wr q tq cs) (hne : tq ≠ 34) (k : Nat) (u : Value) : TwoM w (wr.setCell ⟨q, k, none⟩ u) y t a b :=
  ⟨h.ra.kept (row := some q) (grownSet (World.grownBy.refl _ _)) (.inr (fun e => blk_not_ownW hX h.ra hne e.symm)), h.rb.kept (row := some q) (grownSet (World.grownBy.refl _ _)) (.inr (fun e => blk_not_ownW hX h.rb hne e.symm)), h.ap, h.bel.setCell hq _⟩
theorem TwoM.blk (h : TwoM w wr y t a b) (hg : (wr.alloc o).grownBy w5 y.ownBlock) {q : Nat} {tq : TypeId} {cs : Array Value} (hX : Blk wr q tq cs) (hne : tq ≠ 34) : Blk w5 q tq cs :=
  (hX.alloc o).grown hg (blk_not_ownW (hX.alloc o) (h.ra.alloc o) hne)
end
set_option maxHeartbeats 1000000 in
theorem madeBy_any (v m : Int) (w : World) : Calls Try.prog 95 #[.agg #[.int .i64 v, .int .i64 m]] w fun e w' => e = .returned (.func (.func 153) #[] #[.pointer (some ⟨w.heap.size, 0, none⟩)]) ∧ Blk w' w.heap.size 118 #[.int .i64 v, .int .i64 m] ∧ Below w.heap.size w w' := by
  have hmf : ∀ (fn : Fn) (first cap : Array Value) (w : World), (Instr.makeFunc fn first cap).run Try.prog w = .ok (.func fn first cap) w := fun _ _ _ _ => rfl
  have HX := Lib.hid (Blk.new w 118 #[.int .i64 v, .int .i64 m])
  go_enter Try.func95, Try.ntmps95
  go_wp2
  refine bodyPost_ret (v := .func (.func 153) #[] #[.pointer (some ⟨w.heap.size, 0, none⟩)]) (by simp [results, Try.results95, go_sem]) rfl ⟨rfl, HX.out, (Below.refl _ _).alloc (Nat.le_refl _) _⟩
set_option maxHeartbeats 2000000 in
theorem made_any (x : Mv) (v m : Int) (q : Nat) (w : World) (hq : Blk w q 118 #[.int .i64 v, .int .i64 m]) :
    Calls Try.prog 153 #[x.val, .pointer (some ⟨q, 0, none⟩)] w fun e w' => e = .returned (.bool (ofG v m x)) ∧ Below w.heap.size w w' := by
  have hq1 := (hq.alloc (.cells #[.int .i64 x.vni, .int .i64 x.mac, .int .i64 x.tm] 34)).cell
  have HR : Hid (ofG v m x = (decide (x.vni = v) && decide (x.mac = m))) := Lib.hid rfl
  generalize ofG v m x = R at *
  obtain ⟨xv, xm, xt⟩ := x
  unfold Mv.val
  dsimp only at *
  clear hq
  by_cases e1 : xv = v
  · subst e1
    by_cases e2 : xm = m
    · subst e2
      go_enter Try.func153, Try.ntmps153
      go_wp2
      go_ret
      refine ⟨bool_ret (by rw [HR.out]; simp), ?_⟩
      go_grown
    · go_enter Try.func153, Try.ntmps153
      go_wp2
      go_ret
      refine ⟨bool_ret (by rw [HR.out]; simp [e2]), ?_⟩
      go_grown
  · go_enter Try.func153, Try.ntmps153
    go_wp2
    go_ret
    refine ⟨bool_ret (by rw [HR.out]; simp [e1]), ?_⟩
    go_grown
theorem keepN_succ (p : Mv → Bool) (l : List Mv) (i : Nat) (hi : i < l.length) : keepM (fun x => !p x) (l.take (i + 1)) = if p l[i] = true then keepM (fun x => !p x) (l.take i) else keepM (fun x => !p x) (l.take i) ++ [l[i]] := by
  rw [keepM_succ _ l i hi]
  cases p l[i] <;> simp
def PaPostM (p : Mv → Bool) (l : List Mv) (w : World) (e : Ending) (w' : World) : Prop := ∃ y t, e = .returned (.tuple #[y, t]) ∧ TwoM w w' y t (keepM (fun x => !p x) l) (keepM p l)
set_option maxRecDepth 100000 in
set_option maxHeartbeats 4000000 in
theorem partedM_any (l : List Mv) (v0 : Value) (v m : Int) (q : Nat) (w : World) (h : MvsAt w v0 l) (hn : l.length ≤ 30) (hq : Blk w q 118 #[.int .i64 v, .int .i64 m]) :
    Calls Try.prog 94 #[v0, .func (.func 153) #[] #[.pointer (some ⟨q, 0, none⟩)]] w (PaPostM (ofG v m) l w) := by
  have HKs := Lib.hid (fun (i : Nat) (hi : i < l.length) => keepN_succ (ofG v m) l i hi)
  have HGs := Lib.hid (fun (i : Nat) (hi : i < l.length) => keepM_succ (ofG v m) l i hi)
  have HKl := Lib.hid (fun (i : Nat) => keepM_len (fun x => !ofG v m x) l i)
  have HGl := Lib.hid (fun (i : Nat) => keepM_len (ofG v m) l i)
  have HZ : Hid (keepM (fun x => !ofG v m x) l = keepM (fun x => !ofG v m x) (l.take l.length) ∧ keepM (ofG v m) l = keepM (ofG v m) (l.take l.length)) := Lib.hid (by rw [List.take_length]; exact ⟨rfl, rfl⟩)
  have HO0 := Lib.hid (fun (x : Mv) (W : World) (h : Blk W q 118 #[.int .i64 v, .int .i64 m]) => made_any x v m q W h)
  obtain ⟨a, cap, rfl, h⟩ := h
  rw [List.length_map] at *
  have HH := Lib.hid h
  clear h
  unfold PaPostM
  obtain ⟨n, hnn⟩ : ∃ n, n = l.length := ⟨_, rfl⟩
  rw [← hnn] at hn HZ HKl HGl ⊢
  have HN := Lib.hid hnn
  clear hnn
  have HT0 : Hid (TwoM w w (.slice none 0 0) (.slice none 0 0) (keepM (fun x => !ofG v m x) (l.take 0)) (keepM (ofG v m) (l.take 0))) := Lib.hid (TwoM.start w)
  have HQ0 := Lib.hid hq
  clear hq
  go_enter Try.func94, Try.ntmps94
  go_wp2_with fail
  go_loopw [10, 4, 5, 7] (fun u y t _ wr => ∃ i : Nat, i ≤ n ∧ u = .int .i64 (i : Int) ∧ Hid (TwoM w wr y t (keepM (fun x => !ofG v m x) (l.take i)) (keepM (ofG v m) (l.take i))) ∧ Hid (Blk wr q 118 #[.int .i64 v, .int .i64 m])) (fun u _ _ _ _ => n - (intOf u).toNat)
  case atStart => exact ⟨0, Nat.zero_le _, rfl, HT0, HQ0⟩
  case round =>
    clear HT0 HQ0
    obtain ⟨i, hi, rfl, HT, HQ⟩ := hrel
    by_cases hlt : i < n
    · have hir : i < l.length := by rw [← HN.out]; exact hlt
      have hne : l.map Mv.cl ≠ [] := fun e => by
        have := congrArg List.length e
        rw [List.length_map, ← HN.out] at this
        simp at this; omega
      obtain ⟨b, off, ha, hb, HE⟩ := HH.out hne
      subst ha
      have hl1 : (i : Int) < n := by omega
      obtain ⟨p0, p1, p2⟩ := (Elems.below HE HT.out.bel hb).mv i hir
      have HK1 := Lib.hid (HKs.out i hir)
      have HG1 := Lib.hid (HGs.out i hir)
      have hk60 := HKl.out i
      have hg60 := HGl.out i
      have HO := Lib.hid (HO0.out l[i])
      have XA := Blk.new wr 34 (l[i]).ar
      have SA := HT.out.alloc (.cells (l[i]).ar 34)
      have QA := HQ.out.alloc (.cells (l[i]).ar 34)
      unfold Mv.ar at XA SA QA
      unfold Mv.val at HO
      clear HE HT HQ
      generalize l[i] = x at *
      generalize keepM (fun x => !ofG v m x) (l.take i) = pre at *
      generalize keepM (ofG v m) (l.take i) = gre at *
      generalize ofG v m x = old at *
      obtain ⟨ya, yc, rfl⟩ := rown_form SA.ra
      obtain ⟨ta, tc, rfl⟩ := rown_form SA.rb
      go_upto_region 4 with fail
      generalize (wr.alloc (.cells #[.int .i64 x.vni, .int .i64 x.mac, .int .i64 x.tm] 34)) = W6 at *
      generalize wr.heap.size = q6 at *
      clear p0 p1 p2
      have hc := XA.cell
      go_wp2_with fail
      refine (HO.out _ QA).mono ?_
      rintro e w1 ⟨rfl, hb1⟩
      replace XA := XA.kept hb1
      replace SA := SA.kept hb1
      replace QA := QA.kept hb1
      clear hb1 hc HO
      have hc := XA.cell
      have hsz1 := SA.bel.size
      cases old
      · rw [if_neg (by simp)] at HK1 HG1
        go_wp2_with (at_builtin; refine wpList_append_rowB Mv.cl_len Mv.cl_one1 tyM _ rfl _ _ rfl w.heap.size _ pre x rfl (SA.ra.alloc _) ⟨w1.heap.size, 0, none⟩ rfl (lit_cells w1 _ _ x rfl) (by omega) (by simp; omega) ?_; intro a' c' n' w5 HN5 hown5 hg5 hk5; have HS5 := Lib.hid (SA.app HN5.out hown5 hg5 hk5); have HQ5 := Lib.hid (SA.blk hg5 QA (by decide)); clear hown5 hg5 hk5)
        go_roundw
        case rel => exact ⟨i + 1, by omega, by simp, by rw [HK1.out, HG1.out]; exact HS5, HQ5⟩
        case measure => simp [intOf]; omega
      · rw [if_pos rfl] at HK1 HG1
        go_wp2_with (at_builtin; refine wpList_append_rowB Mv.cl_len Mv.cl_one1 tyM _ rfl _ _ rfl w.heap.size _ gre x rfl (SA.rb.alloc _) ⟨w1.heap.size, 0, none⟩ rfl (lit_cells w1 _ _ x rfl) (by omega) (by simp; omega) ?_; intro a' c' n' w5 HN5 hown5 hg5 hk5; have HS5 := Lib.hid (SA.swap.app HN5.out hown5 hg5 hk5).swap; have HQ5 := Lib.hid (SA.swap.blk hg5 QA (by decide)); clear hown5 hg5 hk5)
        go_roundw
        case rel => exact ⟨i + 1, by omega, by simp, by rw [HK1.out, HG1.out]; exact HS5, HQ5⟩
        case measure => simp [intOf]; omega
    · have hin : i = n := by omega
      subst hin
      rw [← HZ.out.1, ← HZ.out.2] at HT
      go_wp2_with fail
      go_ret2
      exact ⟨_, _, rfl, HT.out⟩
set_option maxRecDepth 100000 in
set_option maxHeartbeats 4000000 in
theorem listFaultW_any (l : List Mv) (v : Value) (w : World) (h : MvsAt w v l) (hn : l.length ≤ 1048576) :
    Calls Try.prog 89 #[v, .func (.func 18) #[] #[]] w fun e w' => e = .returned (.int .i64 (wCode l)) ∧ Below w.heap.size w w' := by
  have HRR := Lib.hid (implWentRight_any l v w h hn)
  unfold MrPost at HRR
  unfold wCode
  obtain ⟨a, cap, rfl, _⟩ := h
  rw [List.length_map] at *
  generalize mvsOk l = R at *
  generalize l.length = n at *
  by_cases h1 : 400 < n
  · rw [if_pos h1]
    have hg : (400 : Int) < (n : Int) := by omega
    go_enter Try.func89, Try.ntmps89
    go_wp2_with fail
    go_ret
    exact ⟨rfl, Below.refl _ _⟩
  · rw [if_neg h1]
    have hg : ¬ (400 : Int) < (n : Int) := by omega
    cases R
    all_goals
      go_enter Try.func89, Try.ntmps89
      go_wp2_with fail
      refine HRR.out.mono ?_
      rintro e w1 ⟨rfl, hb1⟩
      have HB := Lib.hid hb1
      clear hb1
      go_wp2_with fail
      go_ret
      exact ⟨rfl, HB.out⟩
set_option maxRecDepth 100000 in
set_option maxHeartbeats 8000000 in
theorem implWentDrop_any (l : List Mv) (v0 : Value) (v m : Int) (w : World) (h : MvsAt w v0 l) (_hc : NcOk v0) (hnb : l.length ≤ 1048576) :
    Calls Try.prog 32 #[v0, .int .i64 v, .int .i64 m] w (WoPost (dropR l v m) w) := by
  have hmf : ∀ (fn : Fn) (first cap : Array Value) (w : World), (Instr.makeFunc fn first cap).run Try.prog w = .ok (.func fn first cap) w := fun _ _ _ _ => rfl
  have X0 := Blk.new w 32 #[.slice none 0 0, .int .i64 0]
  have HB0 : Below w.heap.size w (w.alloc (.cells #[.slice none 0 0, .int .i64 0] 32)) := (Below.refl _ _).alloc (Nat.le_refl _) _
  have HF := Lib.hid (fun (W' : World) (hb : Below w.heap.size w W') => listFaultW_any l v0 W' (SlAt.kept h hb) hnb)
  have HW := wfault_way l true
  have HLg := Lib.hid (fun h1 => dropR_long (l := l) (v := v) (m := m) h1)
  have HWr := Lib.hid (fun h1 h2 => dropR_wrong (l := l) (v := v) (m := m) h1 h2)
  have HOk := Lib.hid (fun h1 h2 => dropR_ok (l := l) (v := v) (m := m) h1 h2)
  have HPa := Lib.hid (fun (h30 : l.length ≤ 30) (q : Nat) (W' : World) (hb : Below w.heap.size w W') (hq : Blk W' q 118 #[.int .i64 v, .int .i64 m]) => partedM_any l v0 v m q W' (SlAt.kept h hb) h30 hq)
  have HMb := Lib.hid (madeBy_any v m)
  unfold PaPostM at HPa
  obtain ⟨a, cap, rfl, h⟩ := h
  rw [List.length_map] at *
  clear h
  generalize dropR l v m = S at *
  rcases HW with ⟨h1⟩ | ⟨h1, h2⟩ | ⟨h1, h2, h3⟩ | ⟨h1, h2, h3, h4⟩
  · have HR := Lib.hid (HLg.out h1)
    rw [wCode_long h1] at HF
    generalize l.length = n at *
    clear HLg HWr HOk HPa
    go_enter Try.func32, Try.ntmps32
    go_upto_region 1 with fail
    generalize w.alloc (.cells #[.slice none 0 0, .int .i64 0] 32) = w0 at *
    go_wp2_with fail
    refine (HF.out _ HB0).mono ?_
    rintro x w1 ⟨rfl, hb1⟩
    have X1 := X0.kept hb1
    have HB1 := HB0.trans (hb1.mono HB0.size)
    have hc := X1.cell
    have hf := X1.frozen
    clear hb1
    go_wp2_with fail
    have HY := Lib.hid (fillW X1 HB1 (Nat.le_refl _) (.slice none 0 0) (.int .i64 2))
    generalize ((w1.setCell ⟨w.heap.size, 0, none⟩ (.slice none 0 0)).setCell ⟨w.heap.size, 1, none⟩ (.int .i64 2)) = w2 at *
    have hc9 := HY.out.1.cell
    refine bodyPost_ret (v := woV (.slice none 0 0) 2) (by simp [results, Try.results32, go_sem, woV, hc9]) rfl ?_
    exact WoPost.ill HR.out rfl HY.out.2
  · have HR := Lib.hid (HWr.out h1 h2)
    rw [wCode_wrong h1 h2] at HF
    generalize l.length = n at *
    clear HLg HWr HOk HPa
    go_enter Try.func32, Try.ntmps32
    go_upto_region 1 with fail
    generalize w.alloc (.cells #[.slice none 0 0, .int .i64 0] 32) = w0 at *
    go_wp2_with fail
    refine (HF.out _ HB0).mono ?_
    rintro x w1 ⟨rfl, hb1⟩
    have X1 := X0.kept hb1
    have HB1 := HB0.trans (hb1.mono HB0.size)
    have hc := X1.cell
    have hf := X1.frozen
    clear hb1
    go_wp2_with fail
    have HY := Lib.hid (fillW X1 HB1 (Nat.le_refl _) (.slice none 0 0) (.int .i64 1))
    generalize ((w1.setCell ⟨w.heap.size, 0, none⟩ (.slice none 0 0)).setCell ⟨w.heap.size, 1, none⟩ (.int .i64 1)) = w2 at *
    have hc9 := HY.out.1.cell
    refine bodyPost_ret (v := woV (.slice none 0 0) 1) (by simp [results, Try.results32, go_sem, woV, hc9]) rfl ?_
    exact WoPost.ill HR.out rfl HY.out.2
  · cases h3
  · have HR := Lib.hid (HOk.out h1 h2)
    have HPx := Lib.hid (HPa.out h4)
    rw [wCode_ok h1 h2] at HF
    generalize l.length = n at *
    generalize keepM (fun x => !ofG v m x) l = K at *
    generalize keepM (ofG v m) l = G at *
    clear HLg HWr HOk HPa h2 h3
    go_enter Try.func32, Try.ntmps32
    go_upto_region 1 with fail
    generalize w.alloc (.cells #[.slice none 0 0, .int .i64 0] 32) = w0 at *
    go_wp2_with fail
    refine (HF.out _ HB0).mono ?_
    rintro x w1 ⟨rfl, hb1⟩
    have X1 := X0.kept hb1
    have HB1 := HB0.trans (hb1.mono HB0.size)
    clear hb1
    go_wp2_with fail
    refine (HMb.out _).mono ?_
    rintro x w2 ⟨rfl, Q2, hb2⟩
    have X2 := X1.kept hb2
    have HB2 := HB1.trans (hb2.mono HB1.size)
    clear hb2
    go_wp2_with fail
    refine (HPx.out _ _ HB2 Q2).mono ?_
    rintro x w3 ⟨y, t, rfl, HT⟩
    have X3 := X2.kept HT.bel
    have HB3 := HB2.trans (HT.bel.mono HB2.size)
    have HO3 := Lib.hid (rown_mono (B' := w.heap.size) HT.ra HB2.size)
    have hc := X3.cell
    have hf := X3.frozen
    obtain ⟨ya, yc, rfl⟩ := rown_form HT.ra
    obtain ⟨ta, tc, rfl⟩ := rown_form HT.rb
    clear HT Q2
    go_wp2_with fail
    have HY2 := Lib.hid (fillW X3 HB3 (Nat.le_refl _) (.slice ya K.length yc) (.int .i64 0))
    have HO4 := Lib.hid (rowW_fill HO3.out X3 (by decide) (.slice ya K.length yc) (.int .i64 0))
    generalize ((w3.setCell ⟨w.heap.size, 0, none⟩ (.slice ya K.length yc)).setCell ⟨w.heap.size, 1, none⟩ (.int .i64 0)) = w9 at *
    have hc9 := HY2.out.1.cell
    refine bodyPost_ret (v := woV (.slice ya K.length yc) 0) (by simp [results, Try.results32, go_sem, woV, hc9]) rfl ?_
    rw [HR.out]
    exact WoPost.own (r := ⟨K, 0⟩) rfl HO4.out HY2.out.2
end Go.Proofs.Ythilmonokhdjmaa
