/- Held routes: the model's order. -/
import Derived.Test.YtmkoppbbenombaaHd
namespace Go.Proofs.Ytmkoppbbenombaa
open Go.RowKit
abbrev o3e645_0 : Oper := { dst := some 5, op := Op.alloc 35, type := 0, pos := "l06_rib.go:9", after := #[], guard := none }
abbrev o3e645_1 : Oper := { dst := some 6, op := Op.alloc 35, type := 0, pos := "l06_rib.go:9", after := #[], guard := none }
abbrev o3e645_2 : Oper := { dst := none, op := Op.store 35 (Operand.tmp 5) (Operand.tmp 8), type := 0, pos := "l06_rib.go:9", after := #[{ on := 4, ground := Ground.data }, { on := 1, ground := Ground.data }, { on := 0, ground := Ground.phase }, { on := 1, ground := Ground.phase }, { on := 2, ground := Ground.textOnly Departure.lateStores }, { on := 3, ground := Ground.textOnly Departure.lateStores }, { on := 4, ground := Ground.phase }, { on := 5, ground := Ground.phase }], guard := none }
abbrev o3e645_3 : Oper := { dst := none, op := Op.store 35 (Operand.tmp 6) (Operand.tmp 10), type := 0, pos := "l06_rib.go:9", after := #[{ on := 5, ground := Ground.data }, { on := 3, ground := Ground.data }, { on := 6, ground := Ground.chain }, { on := 0, ground := Ground.phase }, { on := 1, ground := Ground.phase }, { on := 2, ground := Ground.phase }, { on := 3, ground := Ground.phase }, { on := 4, ground := Ground.phase }, { on := 5, ground := Ground.phase }, { on := 6, ground := Ground.phase }], guard := none }

section
variable {cur W : World} {q b B : Nat} {t t' : TypeId} {vs : Array Value} {c0 c1 c2 c3 c4 c5 c6 : Value}
theorem Blk.fill7 (N : Blk cur q t #[c0, c1, c2, c3, c4, c5, c6]) (v0 v1 v2 v3 v4 v5 v6 : Value) :
    Blk (((((((cur.setCell ⟨q, 0, none⟩ v0).setCell ⟨q, 1, none⟩ v1).setCell ⟨q, 2, none⟩ v2).setCell ⟨q, 3, none⟩ v3).setCell ⟨q, 4, none⟩ v4).setCell ⟨q, 5, none⟩ v5).setCell ⟨q, 6, none⟩ v6) q t #[v0, v1, v2, v3, v4, v5, v6] := by
  have h := ((((((N.set 0 v0).set 1 v1).set 2 v2).set 3 v3).set 4 v4).set 5 v5).set 6 v6
  simp only [List.setIfInBounds_toArray, List.set_cons_zero, List.set_cons_succ] at h
  exact h
theorem Blk.far7 (h : Blk cur b t vs) (hne : b ≠ q) (v0 v1 v2 v3 v4 v5 v6 : Value) :
    Blk (((((((cur.setCell ⟨q, 0, none⟩ v0).setCell ⟨q, 1, none⟩ v1).setCell ⟨q, 2, none⟩ v2).setCell ⟨q, 3, none⟩ v3).setCell ⟨q, 4, none⟩ v4).setCell ⟨q, 5, none⟩ v5).setCell ⟨q, 6, none⟩ v6) b t vs :=
  ((((((h.far hne).far hne).far hne).far hne).far hne).far hne).far hne
theorem below7 (h : Below B W cur) (hq : B ≤ q) (v0 v1 v2 v3 v4 v5 v6 : Value) :
    Below B W (((((((cur.setCell ⟨q, 0, none⟩ v0).setCell ⟨q, 1, none⟩ v1).setCell ⟨q, 2, none⟩ v2).setCell ⟨q, 3, none⟩ v3).setCell ⟨q, 4, none⟩ v4).setCell ⟨q, 5, none⟩ v5).setCell ⟨q, 6, none⟩ v6) :=
  ((((((h.setCell hq _).setCell hq _).setCell hq _).setCell hq _).setCell hq _).setCell hq _).setCell hq _
/- a block more, and its name -/
theorem pack1 (cur : World) (cs : Array Value) (t : TypeId) : ∃ Wn q, cur.alloc (.cells cs t) = Wn ∧ cur.heap.size = q ∧ Blk Wn q t cs ∧ Below cur.heap.size cur Wn ∧ (∀ b t' vs, Blk cur b t' vs → Blk Wn b t' vs ∧ b ≠ q) :=
  ⟨_, _, rfl, rfl, Blk.new _ _ _, (Below.refl _ _).alloc (Nat.le_refl _) _, fun _ _ _ h => ⟨h.alloc _, Nat.ne_of_lt h.lt⟩⟩
end
theorem specPeer_any (n : Int) (w : World) : Calls Try.prog 62 #[.int .i64 n] w fun e w' => e = .returned (.bool (inR n 1 9)) ∧ w = w' := by
  go_enter Try.func62, Try.ntmps62
  go_wp2_with (go_at_call 107; refine (specIs_any _ _ _ _).mono ?_; rintro e w' ⟨rfl, rfl⟩)
  go_ret
  exact ⟨rfl, rfl⟩
theorem implPeer_any (n : Int) (w : World) : Calls Try.prog 111 #[.int .i64 n] w fun e w' => e = .returned (.bool (inR n 1 9)) ∧ w = w' := by
  by_cases h1 : 1 ≤ n
  · have HR : Hid (inR n 1 9 = decide (n ≤ 9)) := Lib.hid (by rw [inR, decide_eq_true h1]; rfl)
    go_enter Try.func111, Try.ntmps111
    go_wp2
    go_ret
    exact ⟨bool_ret HR.out.symm, rfl⟩
  · have HR : Hid (inR n 1 9 = false) := Lib.hid (by rw [inR, decide_eq_false h1]; rfl)
    go_enter Try.func111, Try.ntmps111
    go_wp2
    go_ret
    exact ⟨bool_ret HR.out.symm, rfl⟩
/- the ways through the model's order -/
inductive LessWay (p p' k k' v v' m m' o o' : Int) (R : Bool) : Prop
  | peer (h1 : ¬ p = p') (hr : Hid (R = decide (p < p')))
  | kind (h1 : p = p') (h2 : ¬ k = k') (hr : Hid (R = decide (k < k')))
  | vni (h1 : p = p') (h2 : k = k') (h3 : ¬ v = v') (hr : Hid (R = decide (v < v')))
  | mac (h1 : p = p') (h2 : k = k') (h3 : v = v') (h4 : ¬ m = m') (hr : Hid (R = decide (m < m')))
  | org (h1 : p = p') (h2 : k = k') (h3 : v = v') (h4 : m = m') (hr : Hid (R = decide (o < o')))
theorem less_way (a b : Hd) : LessWay a.p b.p a.r.kind b.r.kind a.r.vni b.r.vni a.r.mac b.r.mac a.r.org b.r.org (lessH a b) := by
  by_cases h1 : a.p = b.p
  · by_cases h2 : a.r.kind = b.r.kind
    · by_cases h3 : a.r.vni = b.r.vni
      · by_cases h4 : a.r.mac = b.r.mac
        · exact .org h1 h2 h3 h4 (Lib.hid (by simp [lessH, h1, h2, h3, h4]))
        · exact .mac h1 h2 h3 h4 (Lib.hid (by simp [lessH, h1, h2, h3, h4]))
      · exact .vni h1 h2 h3 (Lib.hid (by simp [lessH, h1, h2, h3]))
    · exact .kind h1 h2 (Lib.hid (by simp [lessH, h1, h2]))
  · exact .peer h1 (Lib.hid (by simp [lessH, h1]))
set_option maxHeartbeats 2000000 in
theorem specLess_any (a b : Hd) (w : World) : Calls Try.prog 64 #[a.val, b.val] w fun e w' => e = .returned (.bool (lessH a b)) ∧ Below w.heap.size w w' := by
  have HW := less_way a b
  obtain ⟨p, s, ⟨k, v, m, i, o, q, t⟩⟩ := a
  obtain ⟨p', s', ⟨k', v', m', i', o', q', t'⟩⟩ := b
  generalize lessH _ _ = R at *
  unfold Hd.val
  dsimp only at *
  have A1 := Blk.new w 77 #[.int .i64 p, .bool s, .int .i64 k, .int .i64 v, .int .i64 m, .int .i64 i, .int .i64 o, .int .i64 q, .bool t]
  have A2 := Blk.new (w.alloc (.cells #[.int .i64 p, .bool s, .int .i64 k, .int .i64 v, .int .i64 m, .int .i64 i, .int .i64 o, .int .i64 q, .bool t] 77)) 77 #[.int .i64 p', .bool s', .int .i64 k', .int .i64 v', .int .i64 m', .int .i64 i', .int .i64 o', .int .i64 q', .bool t']
  have S0 := And.intro (A1.alloc (.cells #[.int .i64 p', .bool s', .int .i64 k', .int .i64 v', .int .i64 m', .int .i64 i', .int .i64 o', .int .i64 q', .bool t'] 77)) (And.intro A2 (((Below.refl w.heap.size w).alloc (Nat.le_refl _) (.cells #[.int .i64 p, .bool s, .int .i64 k, .int .i64 v, .int .i64 m, .int .i64 i, .int .i64 o, .int .i64 q, .bool t] 77)).alloc (by simp) (.cells #[.int .i64 p', .bool s', .int .i64 k', .int .i64 v', .int .i64 m', .int .i64 i', .int .i64 o', .int .i64 q', .bool t'] 77)))
  rw [World.size_alloc] at S0
  clear A1 A2
  go_enter Try.func64, Try.ntmps64
  go_upto_region 1 with fail
  generalize (w.alloc (.cells #[.int .i64 p, .bool s, .int .i64 k, .int .i64 v, .int .i64 m, .int .i64 i, .int .i64 o, .int .i64 q, .bool t] 77)).alloc (.cells #[.int .i64 p', .bool s', .int .i64 k', .int .i64 v', .int .i64 m', .int .i64 i', .int .i64 o', .int .i64 q', .bool t'] 77) = W2 at S0 ⊢
  replace S0 := (show Blk W2.drew _ _ _ ∧ Blk W2.drew _ _ _ ∧ Below w.heap.size w W2.drew from ⟨S0.1, S0.2.1, S0.2.2.drew⟩)
  go_cut [5, 6] from 7 (fun s5 s6 wx => ∃ q5 q6, s5 = .pointer (some ⟨q5, 0, none⟩) ∧ s6 = .pointer (some ⟨q6, 0, none⟩) ∧ Hid (Blk wx w.heap.size 77 #[.int .i64 p, .bool s, .int .i64 k, .int .i64 v, .int .i64 m, .int .i64 i, .int .i64 o, .int .i64 q, .bool t] ∧ Blk wx (w.heap.size + 1) 77 #[.int .i64 p', .bool s', .int .i64 k', .int .i64 v', .int .i64 m', .int .i64 i', .int .i64 o', .int .i64 q', .bool t'] ∧ Below w.heap.size w wx) ∧ Hid (Blk wx q5 35 #[.int .i64 k, .int .i64 v, .int .i64 m, .int .i64 i, .int .i64 o, .int .i64 q, .bool t]) ∧ Hid (Blk wx q6 35 #[.int .i64 k', .int .i64 v', .int .i64 m', .int .i64 i', .int .i64 o', .int .i64 q', .bool t']))
  case first =>
    go_wp2_with fail
    refine wp_region_held_drew (S := fun W' => Blk W' w.heap.size 77 _ ∧ Blk W' (w.heap.size + 1) 77 _ ∧ Below w.heap.size w W') (by kernel_rfl) S0 (fun hHeld => ?_)
    clear hHeld
    generalize W2.drew = Wd at S0 ⊢
    refine wpAnyH_take (i := 0) (oi := { dst := some 7, op := Op.fieldAddr 77 (Operand.tmp 2) 2, type := 0, pos := "l06_rib.go:9", after := #[], guard := none }) (v := ?vva1) rfl (by kernel_rfl) (by kernel_rfl) (by kernel_rfl) (fun _ _ _ h => h) (Or.inl ⟨by rfl, ?hya1⟩) S0 ?resta1
    case hya1 => (intro w hSw; go_simp <;> with_reducible rfl)
    try simp only [Act.put, List.setIfInBounds_toArray, List.set_cons_zero, List.set_cons_succ]
    refine wpAnyH_take (i := 1) (oi := { dst := some 8, op := Op.load 35 (Operand.tmp 7), type := 35, pos := "l06_rib.go:9", after := #[{ on := 0, ground := Ground.data }], guard := none }) (v := ?vva2) rfl (by kernel_rfl) (by kernel_rfl) (by kernel_rfl) (fun _ _ _ h => h) (Or.inl ⟨by rfl, ?hya2⟩) S0 ?resta2
    case hya2 => (intro w hSw; have hc1 := hSw.1.cell; have hc2 := hSw.2.1.cell;go_simp <;> with_reducible rfl)
    try simp only [Act.put, List.setIfInBounds_toArray, List.set_cons_zero, List.set_cons_succ]
    refine wpAnyH_take (i := 2) (oi := { dst := some 9, op := Op.fieldAddr 77 (Operand.tmp 3) 2, type := 0, pos := "l06_rib.go:9", after := #[{ on := 6, ground := Ground.gcOnly Departure.lateStores }], guard := none }) (v := ?vva3) rfl (by kernel_rfl) (by kernel_rfl) (by kernel_rfl) (fun _ _ _ h => h) (Or.inl ⟨by rfl, ?hya3⟩) S0 ?resta3
    case hya3 => (intro w hSw; go_simp <;> with_reducible rfl)
    try simp only [Act.put, List.setIfInBounds_toArray, List.set_cons_zero, List.set_cons_succ]
    refine wpAnyH_take (i := 3) (oi := { dst := some 10, op := Op.load 35 (Operand.tmp 9), type := 35, pos := "l06_rib.go:9", after := #[{ on := 2, ground := Ground.data }, { on := 6, ground := Ground.gcOnly Departure.lateStores }], guard := none }) (v := ?vva4) rfl (by kernel_rfl) (by kernel_rfl) (by kernel_rfl) (fun _ _ _ h => h) (Or.inl ⟨by rfl, ?hya4⟩) S0 ?resta4
    case hya4 => (intro w hSw; have hc1 := hSw.1.cell; have hc2 := hSw.2.1.cell;go_simp <;> with_reducible rfl)
    try simp only [Act.put, List.setIfInBounds_toArray, List.set_cons_zero, List.set_cons_succ]
    refine wpAnyH_ready (rs := [4, 5]) (by kernel_rfl) (by simp) ?_
    refine (AllReadyH.cons (o := o3e645_0) rfl (fun K hK => ?_) (AllReadyH.cons (o := o3e645_1) rfl (fun K hK => ?_) AllReadyH.nil))
    focus
      go_simp
      obtain ⟨Wn, q5, hWn, hq5, N5, bn, kn⟩ := pack1 _ #[.int .i64 0, .int .i64 0, .int .i64 0, .int .i64 0, .int .i64 0, .int .i64 0, .bool false] 35
      rw [hWn, hq5]
      have e5 := (kn _ _ _ S0.1).2
      have e5' := (kn _ _ _ S0.2.1).2
      have l5 : w.heap.size ≤ q5 := hq5 ▸ S0.2.2.size
      try have ex := (kn _ _ _ N6).2
      try replace N6 := (kn _ _ _ N6).1
      try have hcN := N6.cell
      try have hfN := N6.frozen
      replace S0 := And.intro (kn _ _ _ S0.1).1 (And.intro (kn _ _ _ S0.2.1).1 (S0.2.2.trans (bn.mono S0.2.2.size)))
      have hcM := N5.cell
      have hfM := N5.frozen
      clear hWn hq5 bn kn
      refine hK.out _ _ S0 (fun hHeld => ?_)
      clear hK K hHeld
      try simp only [Act.put, List.setIfInBounds_toArray, List.set_cons_zero, List.set_cons_succ]
      refine wpAnyH_ready (rs := [5]) (by kernel_rfl) (by simp) ?_
      refine AllReadyH.cons (o := o3e645_1) rfl (fun K hK => ?_) AllReadyH.nil
      go_simp
      obtain ⟨Wn, q6, hWn, hq6, N6, bn, kn⟩ := pack1 _ #[.int .i64 0, .int .i64 0, .int .i64 0, .int .i64 0, .int .i64 0, .int .i64 0, .bool false] 35
      rw [hWn, hq6]
      have e6 := (kn _ _ _ S0.1).2
      have e6' := (kn _ _ _ S0.2.1).2
      have l6 : w.heap.size ≤ q6 := hq6 ▸ S0.2.2.size
      try have ex := (kn _ _ _ N5).2
      try replace N5 := (kn _ _ _ N5).1
      try have hcM := N5.cell
      try have hfM := N5.frozen
      replace S0 := And.intro (kn _ _ _ S0.1).1 (And.intro (kn _ _ _ S0.2.1).1 (S0.2.2.trans (bn.mono S0.2.2.size)))
      have hcN := N6.cell
      have hfN := N6.frozen
      clear hWn hq6 bn kn
      refine hK.out _ _ S0 (fun hHeld => ?_)
      clear hK K hHeld
      try simp only [Act.put, List.setIfInBounds_toArray, List.set_cons_zero, List.set_cons_succ]
      refine wpAnyH_ready (rs := [6]) (by kernel_rfl) (by simp) ?_
      refine AllReadyH.cons (o := o3e645_2) rfl (fun K hK => ?_) AllReadyH.nil
      go_simp
      have S1 := And.intro (S0.1.far7 e5 (.int .i64 k) (.int .i64 v) (.int .i64 m) (.int .i64 i) (.int .i64 o) (.int .i64 q) (.bool t)) (And.intro (S0.2.1.far7 e5' (.int .i64 k) (.int .i64 v) (.int .i64 m) (.int .i64 i) (.int .i64 o) (.int .i64 q) (.bool t)) (below7 S0.2.2 l5 (.int .i64 k) (.int .i64 v) (.int .i64 m) (.int .i64 i) (.int .i64 o) (.int .i64 q) (.bool t)))
      replace N6 := N6.far7 (q := q5) (by first | exact ex | exact ex.symm) (.int .i64 k) (.int .i64 v) (.int .i64 m) (.int .i64 i) (.int .i64 o) (.int .i64 q) (.bool t)
      replace N5 := N5.fill7 (.int .i64 k) (.int .i64 v) (.int .i64 m) (.int .i64 i) (.int .i64 o) (.int .i64 q) (.bool t)
      replace S0 := S1
      clear S1 hcN hfN hcM hfM
      have hcN := N6.cell
      have hfN := N6.frozen
      have hcM := N5.cell
      have hfM := N5.frozen
      refine hK.out _ _ S0 (fun hHeld => ?_)
      clear hK K hHeld
      try simp only [Act.put, List.setIfInBounds_toArray, List.set_cons_zero, List.set_cons_succ]
      refine wpAnyH_ready (rs := [7]) (by kernel_rfl) (by simp) ?_
      refine AllReadyH.cons (o := o3e645_3) rfl (fun K hK => ?_) AllReadyH.nil
      go_simp
      have S1 := And.intro (S0.1.far7 e6 (.int .i64 k') (.int .i64 v') (.int .i64 m') (.int .i64 i') (.int .i64 o') (.int .i64 q') (.bool t')) (And.intro (S0.2.1.far7 e6' (.int .i64 k') (.int .i64 v') (.int .i64 m') (.int .i64 i') (.int .i64 o') (.int .i64 q') (.bool t')) (below7 S0.2.2 l6 (.int .i64 k') (.int .i64 v') (.int .i64 m') (.int .i64 i') (.int .i64 o') (.int .i64 q') (.bool t')))
      replace N5 := N5.far7 (q := q6) (by first | exact ex | exact ex.symm) (.int .i64 k') (.int .i64 v') (.int .i64 m') (.int .i64 i') (.int .i64 o') (.int .i64 q') (.bool t')
      replace N6 := N6.fill7 (.int .i64 k') (.int .i64 v') (.int .i64 m') (.int .i64 i') (.int .i64 o') (.int .i64 q') (.bool t')
      replace S0 := S1
      clear S1 hcN hfN hcM hfM
      refine hK.out _ _ S0 (fun hHeld => ?_)
      clear hK K hHeld
      try simp only [Act.put, List.setIfInBounds_toArray, List.set_cons_zero, List.set_cons_succ]
      refine wpAnyH_done (by kernel_rfl) ?_ _
    rotate_left 1
    focus
      go_simp
      obtain ⟨Wn, q6, hWn, hq6, N6, bn, kn⟩ := pack1 _ #[.int .i64 0, .int .i64 0, .int .i64 0, .int .i64 0, .int .i64 0, .int .i64 0, .bool false] 35
      rw [hWn, hq6]
      have e6 := (kn _ _ _ S0.1).2
      have e6' := (kn _ _ _ S0.2.1).2
      have l6 : w.heap.size ≤ q6 := hq6 ▸ S0.2.2.size
      try have ex := (kn _ _ _ N5).2
      try replace N5 := (kn _ _ _ N5).1
      try have hcM := N5.cell
      try have hfM := N5.frozen
      replace S0 := And.intro (kn _ _ _ S0.1).1 (And.intro (kn _ _ _ S0.2.1).1 (S0.2.2.trans (bn.mono S0.2.2.size)))
      have hcN := N6.cell
      have hfN := N6.frozen
      clear hWn hq6 bn kn
      refine hK.out _ _ S0 (fun hHeld => ?_)
      clear hK K hHeld
      try simp only [Act.put, List.setIfInBounds_toArray, List.set_cons_zero, List.set_cons_succ]
      refine wpAnyH_ready (rs := [4]) (by kernel_rfl) (by simp) ?_
      refine AllReadyH.cons (o := o3e645_0) rfl (fun K hK => ?_) AllReadyH.nil
      go_simp
      obtain ⟨Wn, q5, hWn, hq5, N5, bn, kn⟩ := pack1 _ #[.int .i64 0, .int .i64 0, .int .i64 0, .int .i64 0, .int .i64 0, .int .i64 0, .bool false] 35
      rw [hWn, hq5]
      have e5 := (kn _ _ _ S0.1).2
      have e5' := (kn _ _ _ S0.2.1).2
      have l5 : w.heap.size ≤ q5 := hq5 ▸ S0.2.2.size
      try have ex := (kn _ _ _ N6).2
      try replace N6 := (kn _ _ _ N6).1
      try have hcN := N6.cell
      try have hfN := N6.frozen
      replace S0 := And.intro (kn _ _ _ S0.1).1 (And.intro (kn _ _ _ S0.2.1).1 (S0.2.2.trans (bn.mono S0.2.2.size)))
      have hcM := N5.cell
      have hfM := N5.frozen
      clear hWn hq5 bn kn
      refine hK.out _ _ S0 (fun hHeld => ?_)
      clear hK K hHeld
      try simp only [Act.put, List.setIfInBounds_toArray, List.set_cons_zero, List.set_cons_succ]
      refine wpAnyH_ready (rs := [6]) (by kernel_rfl) (by simp) ?_
      refine AllReadyH.cons (o := o3e645_2) rfl (fun K hK => ?_) AllReadyH.nil
      go_simp
      have S1 := And.intro (S0.1.far7 e5 (.int .i64 k) (.int .i64 v) (.int .i64 m) (.int .i64 i) (.int .i64 o) (.int .i64 q) (.bool t)) (And.intro (S0.2.1.far7 e5' (.int .i64 k) (.int .i64 v) (.int .i64 m) (.int .i64 i) (.int .i64 o) (.int .i64 q) (.bool t)) (below7 S0.2.2 l5 (.int .i64 k) (.int .i64 v) (.int .i64 m) (.int .i64 i) (.int .i64 o) (.int .i64 q) (.bool t)))
      replace N6 := N6.far7 (q := q5) (by first | exact ex | exact ex.symm) (.int .i64 k) (.int .i64 v) (.int .i64 m) (.int .i64 i) (.int .i64 o) (.int .i64 q) (.bool t)
      replace N5 := N5.fill7 (.int .i64 k) (.int .i64 v) (.int .i64 m) (.int .i64 i) (.int .i64 o) (.int .i64 q) (.bool t)
      replace S0 := S1
      clear S1 hcN hfN hcM hfM
      have hcN := N6.cell
      have hfN := N6.frozen
      have hcM := N5.cell
      have hfM := N5.frozen
      refine hK.out _ _ S0 (fun hHeld => ?_)
      clear hK K hHeld
      try simp only [Act.put, List.setIfInBounds_toArray, List.set_cons_zero, List.set_cons_succ]
      refine wpAnyH_ready (rs := [7]) (by kernel_rfl) (by simp) ?_
      refine AllReadyH.cons (o := o3e645_3) rfl (fun K hK => ?_) AllReadyH.nil
      go_simp
      have S1 := And.intro (S0.1.far7 e6 (.int .i64 k') (.int .i64 v') (.int .i64 m') (.int .i64 i') (.int .i64 o') (.int .i64 q') (.bool t')) (And.intro (S0.2.1.far7 e6' (.int .i64 k') (.int .i64 v') (.int .i64 m') (.int .i64 i') (.int .i64 o') (.int .i64 q') (.bool t')) (below7 S0.2.2 l6 (.int .i64 k') (.int .i64 v') (.int .i64 m') (.int .i64 i') (.int .i64 o') (.int .i64 q') (.bool t')))
      replace N5 := N5.far7 (q := q6) (by first | exact ex | exact ex.symm) (.int .i64 k') (.int .i64 v') (.int .i64 m') (.int .i64 i') (.int .i64 o') (.int .i64 q') (.bool t')
      replace N6 := N6.fill7 (.int .i64 k') (.int .i64 v') (.int .i64 m') (.int .i64 i') (.int .i64 o') (.int .i64 q') (.bool t')
      replace S0 := S1
      clear S1 hcN hfN hcM hfM
      refine hK.out _ _ S0 (fun hHeld => ?_)
      clear hK K hHeld
      try simp only [Act.put, List.setIfInBounds_toArray, List.set_cons_zero, List.set_cons_succ]
      refine wpAnyH_done (by kernel_rfl) ?_ _
    rotate_left 1
    all_goals
      go_wp2_with fail
      go_meet
      exact ⟨_, _, rfl, rfl, Lib.hid S0, Lib.hid N5, Lib.hid N6⟩
  case rest =>
  obtain ⟨q5, q6, rfl, rfl, HS, H5, H6⟩ := hcut
  have c5 := H5.out.cell
  have c6 := H6.out.cell
  have c1 := HS.out.1.cell
  have c2 := HS.out.2.1.cell
  have HB := Lib.hid HS.out.2.2
  clear S0
  rcases HW with ⟨h1, hr⟩ | ⟨h1, h2, hr⟩ | ⟨h1, h2, h3, hr⟩ | ⟨h1, h2, h3, h4, hr⟩ | ⟨h1, h2, h3, h4, hr⟩
  all_goals
    try subst h1
    try subst h2
    try subst h3
    try subst h4
    go_wp2
    go_ret
    exact ⟨bool_ret hr.out.symm, HB.out⟩
end Go.Proofs.Ytmkoppbbenombaa
