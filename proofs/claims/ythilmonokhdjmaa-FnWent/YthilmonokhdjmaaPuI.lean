/- WentPut of the program. -/
import Derived.Test.YthilmonokhdjmaaPuW
namespace Go.Proofs.Ythilmonokhdjmaa
open Go.RowKit

theorem putW_30 {l : List Mv} (x : Mv) (h : 30 ≤ l.length) : ∃ y, l ++ [x] = [y] ++ putW l x ∧ putW l x = (l ++ [x]).drop 1 := by
  cases l with
  | nil => simp at h
  | cons y l =>
    refine ⟨y, ?_, ?_⟩
    · rw [putW, if_pos h]; rfl
    · rw [putW, if_pos h]; rfl
theorem putW_lt {l : List Mv} (x : Mv) (h : ¬ 30 ≤ l.length) : putW l x = l ++ [x] := by rw [putW, if_neg h]
theorem slW_of {W : World} {B n c : Nat} {a : Option Addr} {l : List Mv} (h : W.ownsRow B 34 3 (.slice a n c) n (rcells Mv.cl l)) (hn : n = l.length) : MvsAt W (.slice a n c) l := by
  subst hn
  exact rows_of_own Mv.cl_len h
/- the answer, out of a row that is the list, or the list behind one element -/
theorem WoPost.ownN {r : WnO} {w w' : World} {x : Ending} {a : Option Addr} {n c : Nat} (hx : x = .returned (woV (.slice a n c) r.code)) (hn : n = r.mvs.length) (ho : w'.ownsRow w.heap.size 34 3 (.slice a n c) n (rcells Mv.cl r.mvs)) (hb : Below w.heap.size w w') : WoPost r w x w' := by
  subst hn
  exact WoPost.own hx ho hb
theorem WoPost.tail1 {r : WnO} {w w' : World} {x : Ending} {g n cap c : Nat} {L : List Mv} {y : Mv} (hx : x = .returned (woV (.slice (some ⟨g, 3, none⟩) (n - 1) c) r.code)) (hL : L = [y] ++ r.mvs) (hn : n = L.length) (ho : w'.ownsRow w.heap.size 34 3 (.slice (some ⟨g, 0, none⟩) n cap) n (rcells Mv.cl L)) (hb : Below w.heap.size w w') : WoPost r w x w' := by
  subst hL
  have e : n = [y].length + r.mvs.length := by rw [hn]; simp; omega
  refine WoPost.tail (pre := [y]) (g := g) (cap := cap) (c := c) ?_ (by rw [← e]; exact ho) hb
  have e2 : n - 1 = r.mvs.length := by rw [e]; simp
  rw [hx, e2]
  rfl
theorem MemAt.finW {W cur : World} {L : List (Nat × TypeId × Array Value)} {R : List RowQ} {q B1 n1 s1 : Nat} {t t1 : TypeId} {c0 c1 x1 : Value} {l1 : List Value} (h : MemAt W L R cur) (ho : cur.ownsRow B1 t1 s1 x1 n1 l1)
    (N : Blk cur q t #[c0, c1]) (hq : W.heap.size ≤ q) (hL : ∀ x ∈ L, x.1 ≠ q) (hR : ∀ x ∈ R, x.v.ownBlock ≠ some q) (h1 : t ≠ t1) (v0 v1 : Value) :
    MemAt W ((q, t, #[v0, v1]) :: L) (⟨B1, t1, s1, x1, n1, l1⟩ :: R) ((cur.setCell ⟨q, 0, none⟩ v0).setCell ⟨q, 1, none⟩ v1) := by
  refine ⟨(h.bel.setCell hq _).setCell hq _, fun x hx => ?_, fun x hx => ?_⟩
  · rcases List.mem_cons.1 hx with rfl | hx
    · have h2 := (N.set 0 v0).set 1 v1
      simp only [List.setIfInBounds_toArray, List.set_cons_zero, List.set_cons_succ] at h2
      exact h2
    · exact ((h.blk x hx).far (hL x hx)).far (hL x hx)
  · have hs : ∀ {B n sz : Nat} {t : TypeId} {v : Value} {xs : List Value}, cur.ownsRow B t sz v n xs → v.ownBlock ≠ some q → ((cur.setCell ⟨q, 0, none⟩ v0).setCell ⟨q, 1, none⟩ v1).ownsRow B t sz v n xs := fun h hne => h.kept (row := some q) (grownSet (grownSet (World.grownBy.refl _ _))) (.inr hne)
    rcases List.mem_cons.1 hx with rfl | hx
    · exact hs ho (fun e => blk_not_ownW N ho h1 e.symm)
    · exact hs (h.row x hx) (hR x hx)
set_option maxRecDepth 100000 in
set_option maxHeartbeats 16000000 in
theorem implWentPut_any (l : List Mv) (v0 : Value) (x : Mv) (w : World) (h : MvsAt w v0 l) (hc : NcOk v0) (hnb : l.length ≤ 1048576) :
    Calls Try.prog 22 #[v0, x.val] w (WoPost (putR8 l x) w) := by
  have S0 := PuB.start w x
  have HF := Lib.hid (fun (W' : World) (hb : Below w.heap.size w W') => listFaultW_any l v0 W' (SlAt.kept h hb) hnb)
  have HW := wfault_way l (x.right && lastOk l x)
  have HLg := Lib.hid (fun h1 => putR8_long (l := l) (x := x) h1)
  have HNo := Lib.hid (fun h1 h2 => putR8_no (l := l) (x := x) h1 h2)
  have HOk := Lib.hid (fun h1 h2 h3 => putR8_ok (l := l) (x := x) h1 h2 h3)
  have HPo := Lib.hid (fun h => putW_ok (l := l) x h)
  have HP30 := Lib.hid (fun h => putW_30 (l := l) x h)
  have HPlt := Lib.hid (fun h => putW_lt (l := l) x h)
  have HCl := Lib.hid (fun (h30 : l.length ≤ 30) (W' : World) (hb : Below w.heap.size w W') => cloneW_any l v0 W' (SlAt.kept h hb) (fun n c e => (hc _ _ _ e).1 rfl) (by omega))
  have HRt := Lib.hid (fun (P : List Mv) (y : Value) (W' : World) (h : MvsAt W' y P) (hp : P.length ≤ 31) => implWentRight_any P y W' h (by omega))
  unfold RowPost at HCl
  unfold MrPost at HRt
  obtain ⟨a, cap, rfl, _⟩ := h
  rw [List.length_map] at *
  generalize putR8 l x = S at *
  unfold Mv.ar at S0
  unfold Mv.val at *
  clear hc
  rcases HW with ⟨h1⟩ | ⟨h1, h2⟩ | ⟨h1, h2, h3⟩ | ⟨h1, h2, h3, h4⟩
  · have HR := Lib.hid (HLg.out h1)
    rw [wCode_long h1] at HF
    clear HLg HNo HOk HPo HP30 HPlt HCl HRt
    generalize l.length = n at *
    go_enter Try.func22, Try.ntmps22
    go_upto_region 1 with fail
    generalize (w.alloc (.cells #[.int .i64 x.vni, .int .i64 x.mac, .int .i64 x.tm] 34)).alloc (.cells #[.slice none 0 0, .int .i64 0] 32) = W0 at *
    go_wp2_with fail
    refine (HF.out _ S0.bel).mono ?_
    rintro e w1 ⟨rfl, hb1⟩
    have S1 := S0.kept hb1
    have hc := S1.ans.cell
    have hf := S1.ans.frozen
    clear hb1
    go_wp2_with fail
    have HY := Lib.hid (S1.fill (.slice none 0 0) (.int .i64 2))
    generalize ((w1.setCell ⟨w.heap.size + 1, 0, none⟩ (.slice none 0 0)).setCell ⟨w.heap.size + 1, 1, none⟩ (.int .i64 2)) = w2 at *
    have hc2 := HY.out.1.cell
    refine bodyPost_ret (v := woV (.slice none 0 0) 2) (by simp [results, Try.results22, go_sem, woV, hc2]) rfl ?_
    exact WoPost.ill HR.out rfl HY.out.2
  · have HR := Lib.hid (HNo.out h1 (.inl h2))
    rw [wCode_wrong h1 h2] at HF
    clear HLg HNo HOk HPo HP30 HPlt HCl HRt
    generalize l.length = n at *
    go_enter Try.func22, Try.ntmps22
    go_upto_region 1 with fail
    generalize (w.alloc (.cells #[.int .i64 x.vni, .int .i64 x.mac, .int .i64 x.tm] 34)).alloc (.cells #[.slice none 0 0, .int .i64 0] 32) = W0 at *
    go_wp2_with fail
    refine (HF.out _ S0.bel).mono ?_
    rintro e w1 ⟨rfl, hb1⟩
    have S1 := S0.kept hb1
    have hc := S1.ans.cell
    have hf := S1.ans.frozen
    clear hb1
    go_wp2_with fail
    have HY := Lib.hid (S1.fill (.slice none 0 0) (.int .i64 1))
    generalize ((w1.setCell ⟨w.heap.size + 1, 0, none⟩ (.slice none 0 0)).setCell ⟨w.heap.size + 1, 1, none⟩ (.int .i64 1)) = w2 at *
    have hc2 := HY.out.1.cell
    refine bodyPost_ret (v := woV (.slice none 0 0) 1) (by simp [results, Try.results22, go_sem, woV, hc2]) rfl ?_
    exact WoPost.ill HR.out rfl HY.out.2
  · have HR := Lib.hid (HNo.out h1 (.inr h3))
    have HPx := Lib.hid ((HPo.out h2).trans h3)
    have h30 := mvsOk_len h2
    have HClx := Lib.hid (HCl.out h30)
    rw [wCode_ok h1 h2] at HF
    clear HLg HNo HOk HPo HCl h2 h3
    go_enter Try.func22, Try.ntmps22
    go_upto_region 1 with fail
    generalize (w.alloc (.cells #[.int .i64 x.vni, .int .i64 x.mac, .int .i64 x.tm] 34)).alloc (.cells #[.slice none 0 0, .int .i64 0] 32) = W0 at *
    go_upto_region 4 with (go_at_call 89; refine (HF.out _ S0.bel).mono ?_; rintro e w1 ⟨rfl, hb1⟩; replace S0 := (S0.kept hb1).drew; clear hb1)
    refine wp_region_held_drew (S := fun W' => PuB w W' _) (by kernel_rfl) S0 (fun hHeld => ?_)
    clear hHeld
    generalize w1.drew = Wd at *
    refine wpAnyH_take (i := 0) (oi := { dst := some 13, op := Op.move (Operand.tmp 0), type := 25, pos := "l08_moves.go:75", after := #[], guard := none }) (v := ?vva1) rfl (by kernel_rfl) (by kernel_rfl) (by kernel_rfl) (fun _ _ _ h => h) (Or.inl ⟨by rfl, ?hya1⟩) S0 ?resta1
    case hya1 => (intro w hSw; have hcx := hSw.key.cell; unfold Mv.ar at hcx;go_simp <;> with_reducible rfl)
    try simp only [Act.put, List.setIfInBounds_toArray, List.set_cons_zero, List.set_cons_succ]
    refine wpAnyH_take (i := 2) (oi := { dst := some 15, op := Op.load 34 (Operand.tmp 3), type := 34, pos := "l08_moves.go:75", after := #[], guard := none }) (v := ?vva2) rfl (by kernel_rfl) (by kernel_rfl) (by kernel_rfl) (fun _ _ _ h => h) (Or.inl ⟨by rfl, ?hya2⟩) S0 ?resta2
    case hya2 => (intro w hSw; have hcx := hSw.key.cell; unfold Mv.ar at hcx;go_simp <;> with_reducible rfl)
    try simp only [Act.put, List.setIfInBounds_toArray, List.set_cons_zero, List.set_cons_succ]
    refine wpAnyH_ready (rs := [1, 3]) (by kernel_rfl) (by simp) ?_
    refine (AllReadyH.cons (o := { dst := some 14, op := Op.call { callee := Callee.value (Operand.func 90), args := #[Operand.tmp 13], argTypes := #[25] }, type := 25, pos := "l08_moves.go:75", after := #[{ on := 0, ground := Ground.data }], guard := none }) rfl (fun K hK => ?_) (AllReadyH.cons (o := { dst := some 16, op := Op.buildSlice 25 1 #[(0, Operand.tmp 15)], type := 25, pos := "l08_moves.go:75", after := #[{ on := 2, ground := Ground.data }], guard := none }) rfl (fun K hK => ?_) AllReadyH.nil))
    focus
      go_simp
      refine (HClx.out _ S0.bel).mono ?_
      rintro e w3 ⟨y3, rfl, ho3, hb3⟩
      obtain ⟨ya, yc, rfl⟩ := rown_form ho3
      replace ho3 := rown_mono (B' := w.heap.size + 2) ho3 S0.low
      try replace N4 := N4.kept hb3
      replace S0 := S0.kept hb3
      clear hb3
      refine hK.out _ _ S0 (fun hHeld => ?_)
      clear hK K hHeld
      try simp only [Act.put, List.setIfInBounds_toArray, List.set_cons_zero, List.set_cons_succ]
      refine wpAnyH_ready (rs := [3]) (by kernel_rfl) (by simp) ?_
      refine AllReadyH.cons (o := { dst := some 16, op := Op.buildSlice 25 1 #[(0, Operand.tmp 15)], type := 25, pos := "l08_moves.go:75", after := #[{ on := 2, ground := Ground.data }], guard := none }) rfl (fun K hK => ?_) AllReadyH.nil
      go_simp
      obtain ⟨Wn, q4, hWn, hq4, SN, N4, bn, hq1⟩ := S0.pack #[.int .i64 x.vni, .int .i64 x.mac, .int .i64 x.tm] 34
      rw [hWn, hq4]
      try replace ho3 := rown_below ho3 bn
      replace S0 := SN
      clear hWn hq4 SN bn
      refine hK.out _ _ S0 (fun hHeld => ?_)
      clear hK K hHeld
      try simp only [Act.put, List.setIfInBounds_toArray, List.set_cons_zero, List.set_cons_succ]
      refine wpAnyH_ready (rs := [4]) (by kernel_rfl) (by simp) ?_
      refine AllReadyH.cons (o := { dst := some 17, op := Op.call { callee := Callee.builtin Builtin.append, args := #[Operand.tmp 14, Operand.tmp 16], argTypes := #[25, 25] }, type := 25, pos := "l08_moves.go:75", after := #[{ on := 1, ground := Ground.data }, { on := 3, ground := Ground.data }, { on := 1, ground := Ground.chain }], guard := none }) rfl (fun K hK => ?_) AllReadyH.nil
      obtain ⟨a6, c6, n6, w6, hr6, hn6, ho6, hg6⟩ := run_append_one Mv.cl_len Mv.cl_one1 tyM _ (w.heap.size + 2) _ l x _ #[.int .i64 x.vni, .int .i64 x.mac, .int .i64 x.tm] rfl N4 ho3 (by omega) S0.low 25
      refine stepAppW rfl _ _ _ rfl _ _ _ _ rfl rfl hr6 ?_
      have HN6 := Lib.hid hn6
      clear hn6
      have S6 := S0.grown ho3 hg6
      replace S0 := S6
      clear ho3 hg6 hr6 S6 N4
      refine hK.out _ _ S0 (fun hHeld => ?_)
      clear hK K hHeld
      try simp only [Act.put, List.setIfInBounds_toArray, List.set_cons_zero, List.set_cons_succ]
      refine wpAnyH_take (i := 5) (oi := { dst := some 6, op := Op.assign (Operand.tmp 17), type := 25, pos := "l08_moves.go:75", after := #[{ on := 4, ground := Ground.data }, { on := 4, ground := Ground.chain }, { on := 0, ground := Ground.phase }, { on := 1, ground := Ground.phase }, { on := 2, ground := Ground.phase }, { on := 3, ground := Ground.phase }, { on := 4, ground := Ground.phase }], guard := none }) (v := ?vva3) rfl (by kernel_rfl) (by kernel_rfl) (by kernel_rfl) (fun _ _ _ h => h) (Or.inl ⟨by rfl, ?hya3⟩) S0 ?resta3
      case hya3 => (intro w hSw; have hcx := hSw.key.cell; unfold Mv.ar at hcx;go_simp <;> with_reducible rfl)
      try simp only [Act.put, List.setIfInBounds_toArray, List.set_cons_zero, List.set_cons_succ]
      refine wpAnyH_done (by kernel_rfl) ?_ _
    rotate_left 1
    focus
      go_simp
      obtain ⟨Wn, q4, hWn, hq4, SN, N4, bn, hq1⟩ := S0.pack #[.int .i64 x.vni, .int .i64 x.mac, .int .i64 x.tm] 34
      rw [hWn, hq4]
      try replace ho3 := rown_below ho3 bn
      replace S0 := SN
      clear hWn hq4 SN bn
      refine hK.out _ _ S0 (fun hHeld => ?_)
      clear hK K hHeld
      try simp only [Act.put, List.setIfInBounds_toArray, List.set_cons_zero, List.set_cons_succ]
      refine wpAnyH_ready (rs := [1]) (by kernel_rfl) (by simp) ?_
      refine AllReadyH.cons (o := { dst := some 14, op := Op.call { callee := Callee.value (Operand.func 90), args := #[Operand.tmp 13], argTypes := #[25] }, type := 25, pos := "l08_moves.go:75", after := #[{ on := 0, ground := Ground.data }], guard := none }) rfl (fun K hK => ?_) AllReadyH.nil
      go_simp
      refine (HClx.out _ S0.bel).mono ?_
      rintro e w3 ⟨y3, rfl, ho3, hb3⟩
      obtain ⟨ya, yc, rfl⟩ := rown_form ho3
      replace ho3 := rown_mono (B' := w.heap.size + 2) ho3 S0.low
      try replace N4 := N4.kept hb3
      replace S0 := S0.kept hb3
      clear hb3
      refine hK.out _ _ S0 (fun hHeld => ?_)
      clear hK K hHeld
      try simp only [Act.put, List.setIfInBounds_toArray, List.set_cons_zero, List.set_cons_succ]
      refine wpAnyH_ready (rs := [4]) (by kernel_rfl) (by simp) ?_
      refine AllReadyH.cons (o := { dst := some 17, op := Op.call { callee := Callee.builtin Builtin.append, args := #[Operand.tmp 14, Operand.tmp 16], argTypes := #[25, 25] }, type := 25, pos := "l08_moves.go:75", after := #[{ on := 1, ground := Ground.data }, { on := 3, ground := Ground.data }, { on := 1, ground := Ground.chain }], guard := none }) rfl (fun K hK => ?_) AllReadyH.nil
      obtain ⟨a6, c6, n6, w6, hr6, hn6, ho6, hg6⟩ := run_append_one Mv.cl_len Mv.cl_one1 tyM _ (w.heap.size + 2) _ l x _ #[.int .i64 x.vni, .int .i64 x.mac, .int .i64 x.tm] rfl N4 ho3 (by omega) S0.low 25
      refine stepAppW rfl _ _ _ rfl _ _ _ _ rfl rfl hr6 ?_
      have HN6 := Lib.hid hn6
      clear hn6
      have S6 := S0.grown ho3 hg6
      replace S0 := S6
      clear ho3 hg6 hr6 S6 N4
      refine hK.out _ _ S0 (fun hHeld => ?_)
      clear hK K hHeld
      try simp only [Act.put, List.setIfInBounds_toArray, List.set_cons_zero, List.set_cons_succ]
      refine wpAnyH_take (i := 5) (oi := { dst := some 6, op := Op.assign (Operand.tmp 17), type := 25, pos := "l08_moves.go:75", after := #[{ on := 4, ground := Ground.data }, { on := 4, ground := Ground.chain }, { on := 0, ground := Ground.phase }, { on := 1, ground := Ground.phase }, { on := 2, ground := Ground.phase }, { on := 3, ground := Ground.phase }, { on := 4, ground := Ground.phase }], guard := none }) (v := ?vva4) rfl (by kernel_rfl) (by kernel_rfl) (by kernel_rfl) (fun _ _ _ h => h) (Or.inl ⟨by rfl, ?hya4⟩) S0 ?resta4
      case hya4 => (intro w hSw; have hcx := hSw.key.cell; unfold Mv.ar at hcx;go_simp <;> with_reducible rfl)
      try simp only [Act.put, List.setIfInBounds_toArray, List.set_cons_zero, List.set_cons_succ]
      refine wpAnyH_done (by kernel_rfl) ?_ _
    rotate_left 1
    all_goals
      have HO6 := Lib.hid ho6
      have hl6 : n6 = l.length + 1 := by rw [HN6.out]; simp
      clear ho6
      by_cases h29 : 30 ≤ l.length
      · obtain ⟨y, hy1, hy2⟩ := HP30.out h29
        obtain ⟨g, rfl⟩ : ∃ g, a6 = some ⟨g, 0, none⟩ := by
          rcases HO6.out.2 with ⟨e, e2⟩ | ⟨g, cp, cu, e, _⟩
          · omega
          · injection e with e1 _ _; exact ⟨g, e1⟩
        have hcap := (NcOk.of_own HO6.out _ _ _ rfl).2
        have hc1 : ¬ c6 = 1 := by omega
        have hgt : (30 : Int) < (n6 : Int) := by omega
        have h1n : 1 ≤ n6 := by omega
        have HSx : Hid (MvsAt w6 (.slice (some ⟨g, 3, none⟩) (n6 - 1) (c6 - 1)) (putW l x)) := Lib.hid (by
          obtain ⟨a3, e3, sl3, _⟩ := cut_drop (slW_of HO6.out HN6.out) (NcOk.of_own HO6.out) 1 h1n
          have e2 : sliced (some ⟨g, 0, none⟩) 1 n6 c6 3 = .slice (some ⟨g, 3, none⟩) (n6 - 1) (c6 - 1) := by
            unfold sliced
            simp [Addr.add]
            omega
          rw [e2] at e3
          injection e3 with e3
          subst e3
          rw [hy2]
          exact sl3)
        have HRx := Lib.hid (fun (y : Value) (W' : World) (h : MvsAt W' y (putW l x)) => HRt.out (putW l x) y W' h (by have := putW_len l x h30; omega))
        have HY1 := Lib.hid hy1
        rw [HPx.out] at HRx
        clear HP30 HPlt HRt hy1 hy2 hcap hl6
        generalize putW l x = PL at *
        go_wp2_with fail
        refine (HRx.out _ _ HSx.out).mono ?_
        rintro e w7 ⟨rfl, hb7⟩
        have S7 := S0.kept hb7
        have HO7 := Lib.hid (rown_below HO6.out hb7)
        have hc := S7.ans.cell
        have hf := S7.ans.frozen
        clear hb7
        go_wp2_with fail
        have HY := Lib.hid (S7.fill (.slice none 0 0) (.int .i64 1))
        generalize ((w7.setCell ⟨w.heap.size + 1, 0, none⟩ (.slice none 0 0)).setCell ⟨w.heap.size + 1, 1, none⟩ (.int .i64 1)) = w2 at *
        have hc2 := HY.out.1.cell
        refine bodyPost_ret (v := woV (.slice none 0 0) 1) (by simp [results, Try.results22, go_sem, woV, hc2]) rfl ?_
        exact WoPost.ill HR.out rfl HY.out.2
      · have HRx := Lib.hid (fun (y : Value) (W' : World) (h : MvsAt W' y (l ++ [x])) => HRt.out (l ++ [x]) y W' h (by rw [List.length_append]; simp; omega))
        rw [HPlt.out h29] at HPx
        rw [HPx.out] at HRx
        have HPL := Lib.hid (HPlt.out h29)
        have HSx := Lib.hid (slW_of HO6.out HN6.out)
        have hgt : ¬ (30 : Int) < (n6 : Int) := by omega
        clear HP30 HPlt HRt hl6
        generalize l ++ [x] = PL at *
        go_wp2_with fail
        refine (HRx.out _ _ HSx.out).mono ?_
        rintro e w7 ⟨rfl, hb7⟩
        have S7 := S0.kept hb7
        have HO7 := Lib.hid (rown_below HO6.out hb7)
        have hc := S7.ans.cell
        have hf := S7.ans.frozen
        clear hb7
        go_wp2_with fail
        have HY := Lib.hid (S7.fill (.slice none 0 0) (.int .i64 1))
        generalize ((w7.setCell ⟨w.heap.size + 1, 0, none⟩ (.slice none 0 0)).setCell ⟨w.heap.size + 1, 1, none⟩ (.int .i64 1)) = w2 at *
        have hc2 := HY.out.1.cell
        refine bodyPost_ret (v := woV (.slice none 0 0) 1) (by simp [results, Try.results22, go_sem, woV, hc2]) rfl ?_
        exact WoPost.ill HR.out rfl HY.out.2
  · have HR := Lib.hid (HOk.out h1 h2 h3)
    have HPx := Lib.hid ((HPo.out h2).trans h3)
    have h30 := mvsOk_len h2
    have HClx := Lib.hid (HCl.out h30)
    rw [wCode_ok h1 h2] at HF
    clear HLg HNo HOk HPo HCl h2 h3
    go_enter Try.func22, Try.ntmps22
    go_upto_region 1 with fail
    generalize (w.alloc (.cells #[.int .i64 x.vni, .int .i64 x.mac, .int .i64 x.tm] 34)).alloc (.cells #[.slice none 0 0, .int .i64 0] 32) = W0 at *
    go_upto_region 4 with (go_at_call 89; refine (HF.out _ S0.bel).mono ?_; rintro e w1 ⟨rfl, hb1⟩; replace S0 := (S0.kept hb1).drew; clear hb1)
    refine wp_region_held_drew (S := fun W' => PuB w W' _) (by kernel_rfl) S0 (fun hHeld => ?_)
    clear hHeld
    generalize w1.drew = Wd at *
    refine wpAnyH_take (i := 0) (oi := { dst := some 13, op := Op.move (Operand.tmp 0), type := 25, pos := "l08_moves.go:75", after := #[], guard := none }) (v := ?vvb1) rfl (by kernel_rfl) (by kernel_rfl) (by kernel_rfl) (fun _ _ _ h => h) (Or.inl ⟨by rfl, ?hyb1⟩) S0 ?restb1
    case hyb1 => (intro w hSw; have hcx := hSw.key.cell; unfold Mv.ar at hcx;go_simp <;> with_reducible rfl)
    try simp only [Act.put, List.setIfInBounds_toArray, List.set_cons_zero, List.set_cons_succ]
    refine wpAnyH_take (i := 2) (oi := { dst := some 15, op := Op.load 34 (Operand.tmp 3), type := 34, pos := "l08_moves.go:75", after := #[], guard := none }) (v := ?vvb2) rfl (by kernel_rfl) (by kernel_rfl) (by kernel_rfl) (fun _ _ _ h => h) (Or.inl ⟨by rfl, ?hyb2⟩) S0 ?restb2
    case hyb2 => (intro w hSw; have hcx := hSw.key.cell; unfold Mv.ar at hcx;go_simp <;> with_reducible rfl)
    try simp only [Act.put, List.setIfInBounds_toArray, List.set_cons_zero, List.set_cons_succ]
    refine wpAnyH_ready (rs := [1, 3]) (by kernel_rfl) (by simp) ?_
    refine (AllReadyH.cons (o := { dst := some 14, op := Op.call { callee := Callee.value (Operand.func 90), args := #[Operand.tmp 13], argTypes := #[25] }, type := 25, pos := "l08_moves.go:75", after := #[{ on := 0, ground := Ground.data }], guard := none }) rfl (fun K hK => ?_) (AllReadyH.cons (o := { dst := some 16, op := Op.buildSlice 25 1 #[(0, Operand.tmp 15)], type := 25, pos := "l08_moves.go:75", after := #[{ on := 2, ground := Ground.data }], guard := none }) rfl (fun K hK => ?_) AllReadyH.nil))
    focus
      go_simp
      refine (HClx.out _ S0.bel).mono ?_
      rintro e w3 ⟨y3, rfl, ho3, hb3⟩
      obtain ⟨ya, yc, rfl⟩ := rown_form ho3
      replace ho3 := rown_mono (B' := w.heap.size + 2) ho3 S0.low
      try replace N4 := N4.kept hb3
      replace S0 := S0.kept hb3
      clear hb3
      refine hK.out _ _ S0 (fun hHeld => ?_)
      clear hK K hHeld
      try simp only [Act.put, List.setIfInBounds_toArray, List.set_cons_zero, List.set_cons_succ]
      refine wpAnyH_ready (rs := [3]) (by kernel_rfl) (by simp) ?_
      refine AllReadyH.cons (o := { dst := some 16, op := Op.buildSlice 25 1 #[(0, Operand.tmp 15)], type := 25, pos := "l08_moves.go:75", after := #[{ on := 2, ground := Ground.data }], guard := none }) rfl (fun K hK => ?_) AllReadyH.nil
      go_simp
      obtain ⟨Wn, q4, hWn, hq4, SN, N4, bn, hq1⟩ := S0.pack #[.int .i64 x.vni, .int .i64 x.mac, .int .i64 x.tm] 34
      rw [hWn, hq4]
      try replace ho3 := rown_below ho3 bn
      replace S0 := SN
      clear hWn hq4 SN bn
      refine hK.out _ _ S0 (fun hHeld => ?_)
      clear hK K hHeld
      try simp only [Act.put, List.setIfInBounds_toArray, List.set_cons_zero, List.set_cons_succ]
      refine wpAnyH_ready (rs := [4]) (by kernel_rfl) (by simp) ?_
      refine AllReadyH.cons (o := { dst := some 17, op := Op.call { callee := Callee.builtin Builtin.append, args := #[Operand.tmp 14, Operand.tmp 16], argTypes := #[25, 25] }, type := 25, pos := "l08_moves.go:75", after := #[{ on := 1, ground := Ground.data }, { on := 3, ground := Ground.data }, { on := 1, ground := Ground.chain }], guard := none }) rfl (fun K hK => ?_) AllReadyH.nil
      obtain ⟨a6, c6, n6, w6, hr6, hn6, ho6, hg6⟩ := run_append_one Mv.cl_len Mv.cl_one1 tyM _ (w.heap.size + 2) _ l x _ #[.int .i64 x.vni, .int .i64 x.mac, .int .i64 x.tm] rfl N4 ho3 (by omega) S0.low 25
      refine stepAppW rfl _ _ _ rfl _ _ _ _ rfl rfl hr6 ?_
      have HN6 := Lib.hid hn6
      clear hn6
      have S6 := S0.grown ho3 hg6
      replace S0 := S6
      clear ho3 hg6 hr6 S6 N4
      refine hK.out _ _ S0 (fun hHeld => ?_)
      clear hK K hHeld
      try simp only [Act.put, List.setIfInBounds_toArray, List.set_cons_zero, List.set_cons_succ]
      refine wpAnyH_take (i := 5) (oi := { dst := some 6, op := Op.assign (Operand.tmp 17), type := 25, pos := "l08_moves.go:75", after := #[{ on := 4, ground := Ground.data }, { on := 4, ground := Ground.chain }, { on := 0, ground := Ground.phase }, { on := 1, ground := Ground.phase }, { on := 2, ground := Ground.phase }, { on := 3, ground := Ground.phase }, { on := 4, ground := Ground.phase }], guard := none }) (v := ?vvb3) rfl (by kernel_rfl) (by kernel_rfl) (by kernel_rfl) (fun _ _ _ h => h) (Or.inl ⟨by rfl, ?hyb3⟩) S0 ?restb3
      case hyb3 => (intro w hSw; have hcx := hSw.key.cell; unfold Mv.ar at hcx;go_simp <;> with_reducible rfl)
      try simp only [Act.put, List.setIfInBounds_toArray, List.set_cons_zero, List.set_cons_succ]
      refine wpAnyH_done (by kernel_rfl) ?_ _
    rotate_left 1
    focus
      go_simp
      obtain ⟨Wn, q4, hWn, hq4, SN, N4, bn, hq1⟩ := S0.pack #[.int .i64 x.vni, .int .i64 x.mac, .int .i64 x.tm] 34
      rw [hWn, hq4]
      try replace ho3 := rown_below ho3 bn
      replace S0 := SN
      clear hWn hq4 SN bn
      refine hK.out _ _ S0 (fun hHeld => ?_)
      clear hK K hHeld
      try simp only [Act.put, List.setIfInBounds_toArray, List.set_cons_zero, List.set_cons_succ]
      refine wpAnyH_ready (rs := [1]) (by kernel_rfl) (by simp) ?_
      refine AllReadyH.cons (o := { dst := some 14, op := Op.call { callee := Callee.value (Operand.func 90), args := #[Operand.tmp 13], argTypes := #[25] }, type := 25, pos := "l08_moves.go:75", after := #[{ on := 0, ground := Ground.data }], guard := none }) rfl (fun K hK => ?_) AllReadyH.nil
      go_simp
      refine (HClx.out _ S0.bel).mono ?_
      rintro e w3 ⟨y3, rfl, ho3, hb3⟩
      obtain ⟨ya, yc, rfl⟩ := rown_form ho3
      replace ho3 := rown_mono (B' := w.heap.size + 2) ho3 S0.low
      try replace N4 := N4.kept hb3
      replace S0 := S0.kept hb3
      clear hb3
      refine hK.out _ _ S0 (fun hHeld => ?_)
      clear hK K hHeld
      try simp only [Act.put, List.setIfInBounds_toArray, List.set_cons_zero, List.set_cons_succ]
      refine wpAnyH_ready (rs := [4]) (by kernel_rfl) (by simp) ?_
      refine AllReadyH.cons (o := { dst := some 17, op := Op.call { callee := Callee.builtin Builtin.append, args := #[Operand.tmp 14, Operand.tmp 16], argTypes := #[25, 25] }, type := 25, pos := "l08_moves.go:75", after := #[{ on := 1, ground := Ground.data }, { on := 3, ground := Ground.data }, { on := 1, ground := Ground.chain }], guard := none }) rfl (fun K hK => ?_) AllReadyH.nil
      obtain ⟨a6, c6, n6, w6, hr6, hn6, ho6, hg6⟩ := run_append_one Mv.cl_len Mv.cl_one1 tyM _ (w.heap.size + 2) _ l x _ #[.int .i64 x.vni, .int .i64 x.mac, .int .i64 x.tm] rfl N4 ho3 (by omega) S0.low 25
      refine stepAppW rfl _ _ _ rfl _ _ _ _ rfl rfl hr6 ?_
      have HN6 := Lib.hid hn6
      clear hn6
      have S6 := S0.grown ho3 hg6
      replace S0 := S6
      clear ho3 hg6 hr6 S6 N4
      refine hK.out _ _ S0 (fun hHeld => ?_)
      clear hK K hHeld
      try simp only [Act.put, List.setIfInBounds_toArray, List.set_cons_zero, List.set_cons_succ]
      refine wpAnyH_take (i := 5) (oi := { dst := some 6, op := Op.assign (Operand.tmp 17), type := 25, pos := "l08_moves.go:75", after := #[{ on := 4, ground := Ground.data }, { on := 4, ground := Ground.chain }, { on := 0, ground := Ground.phase }, { on := 1, ground := Ground.phase }, { on := 2, ground := Ground.phase }, { on := 3, ground := Ground.phase }, { on := 4, ground := Ground.phase }], guard := none }) (v := ?vvb4) rfl (by kernel_rfl) (by kernel_rfl) (by kernel_rfl) (fun _ _ _ h => h) (Or.inl ⟨by rfl, ?hyb4⟩) S0 ?restb4
      case hyb4 => (intro w hSw; have hcx := hSw.key.cell; unfold Mv.ar at hcx;go_simp <;> with_reducible rfl)
      try simp only [Act.put, List.setIfInBounds_toArray, List.set_cons_zero, List.set_cons_succ]
      refine wpAnyH_done (by kernel_rfl) ?_ _
    rotate_left 1
    all_goals
      have HO6 := Lib.hid ho6
      have hl6 : n6 = l.length + 1 := by rw [HN6.out]; simp
      clear ho6
      by_cases h29 : 30 ≤ l.length
      · obtain ⟨y, hy1, hy2⟩ := HP30.out h29
        obtain ⟨g, rfl⟩ : ∃ g, a6 = some ⟨g, 0, none⟩ := by
          rcases HO6.out.2 with ⟨e, e2⟩ | ⟨g, cp, cu, e, _⟩
          · omega
          · injection e with e1 _ _; exact ⟨g, e1⟩
        have hcap := (NcOk.of_own HO6.out _ _ _ rfl).2
        have hc1 : ¬ c6 = 1 := by omega
        have hgt : (30 : Int) < (n6 : Int) := by omega
        have h1n : 1 ≤ n6 := by omega
        have HSx : Hid (MvsAt w6 (.slice (some ⟨g, 3, none⟩) (n6 - 1) (c6 - 1)) (putW l x)) := Lib.hid (by
          obtain ⟨a3, e3, sl3, _⟩ := cut_drop (slW_of HO6.out HN6.out) (NcOk.of_own HO6.out) 1 h1n
          have e2 : sliced (some ⟨g, 0, none⟩) 1 n6 c6 3 = .slice (some ⟨g, 3, none⟩) (n6 - 1) (c6 - 1) := by
            unfold sliced
            simp [Addr.add]
            omega
          rw [e2] at e3
          injection e3 with e3
          subst e3
          rw [hy2]
          exact sl3)
        have HRx := Lib.hid (fun (y : Value) (W' : World) (h : MvsAt W' y (putW l x)) => HRt.out (putW l x) y W' h (by have := putW_len l x h30; omega))
        have HY1 := Lib.hid hy1
        rw [HPx.out] at HRx
        clear HP30 HPlt HRt hy1 hy2 hcap hl6
        generalize putW l x = PL at *
        go_wp2_with fail
        refine (HRx.out _ _ HSx.out).mono ?_
        rintro e w7 ⟨rfl, hb7⟩
        have S7 := S0.kept hb7
        have HO7 := Lib.hid (rown_below HO6.out hb7)
        have hc := S7.ans.cell
        have hf := S7.ans.frozen
        clear hb7
        go_wp2_with fail
        have HY := Lib.hid (S7.fill (.slice (some ⟨g, 3, none⟩) (n6 - 1) (c6 - 1)) (.int .i64 0))
        have HO9 := Lib.hid (rowW_fill (rown_mono (B := w.heap.size + 2) (B' := w.heap.size) HO7.out (by omega)) S7.ans (by decide) (.slice (some ⟨g, 3, none⟩) (n6 - 1) (c6 - 1)) (.int .i64 0))
        generalize ((w7.setCell ⟨w.heap.size + 1, 0, none⟩ (.slice (some ⟨g, 3, none⟩) (n6 - 1) (c6 - 1))).setCell ⟨w.heap.size + 1, 1, none⟩ (.int .i64 0)) = w9 at *
        have hc2 := HY.out.1.cell
        refine bodyPost_ret (v := woV (.slice (some ⟨g, 3, none⟩) (n6 - 1) (c6 - 1)) 0) (by simp [results, Try.results22, go_sem, woV, hc2]) rfl ?_
        rw [HR.out]
        exact WoPost.tail1 (r := ⟨PL, 0⟩) rfl HY1.out HN6.out HO9.out HY.out.2
      · have HRx := Lib.hid (fun (y : Value) (W' : World) (h : MvsAt W' y (l ++ [x])) => HRt.out (l ++ [x]) y W' h (by rw [List.length_append]; simp; omega))
        rw [HPlt.out h29] at HPx
        rw [HPx.out] at HRx
        have HPL := Lib.hid (HPlt.out h29)
        have HSx := Lib.hid (slW_of HO6.out HN6.out)
        have hgt : ¬ (30 : Int) < (n6 : Int) := by omega
        clear HP30 HPlt HRt hl6
        generalize l ++ [x] = PL at *
        go_wp2_with fail
        refine (HRx.out _ _ HSx.out).mono ?_
        rintro e w7 ⟨rfl, hb7⟩
        have S7 := S0.kept hb7
        have HO7 := Lib.hid (rown_below HO6.out hb7)
        have hc := S7.ans.cell
        have hf := S7.ans.frozen
        clear hb7
        go_wp2_with fail
        have HY := Lib.hid (S7.fill (.slice a6 n6 c6) (.int .i64 0))
        have HO9 := Lib.hid (rowW_fill (rown_mono (B := w.heap.size + 2) (B' := w.heap.size) HO7.out (by omega)) S7.ans (by decide) (.slice a6 n6 c6) (.int .i64 0))
        generalize ((w7.setCell ⟨w.heap.size + 1, 0, none⟩ (.slice a6 n6 c6)).setCell ⟨w.heap.size + 1, 1, none⟩ (.int .i64 0)) = w9 at *
        have hc2 := HY.out.1.cell
        refine bodyPost_ret (v := woV (.slice a6 n6 c6) 0) (by simp [results, Try.results22, go_sem, woV, hc2]) rfl ?_
        rw [HR.out]
        rw [HPL.out]
        exact WoPost.ownN (r := ⟨PL, 0⟩) rfl HN6.out HO9.out HY.out.2
end Go.Proofs.Ythilmonokhdjmaa
