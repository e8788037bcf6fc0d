/- RibTake of the model: the walk. -/
import Derived.Test.YtmkoppbbenombaaTkS
namespace Go.Proofs.Ytmkoppbbenombaa
open Go.RowKit
abbrev o094b4_0 : Oper := { dst := some 16, op := Op.move (Operand.tmp 0), type := 25, pos := "l06_rib.go:69", after := #[], guard := none }
abbrev o094b4_1 : Oper := { dst := some 17, op := Op.move (Operand.tmp 8), type := 3, pos := "l06_rib.go:69", after := #[], guard := none }
abbrev o094b4_2 : Oper := { dst := some 18, op := Op.indexAddr 25 (Operand.tmp 16) (Operand.tmp 17), type := 0, pos := "l06_rib.go:69", after := #[{ on := 0, ground := Ground.data }, { on := 1, ground := Ground.data }], guard := none }
abbrev o094b4_3 : Oper := { dst := some 19, op := Op.fieldAddr 77 (Operand.tmp 18) 0, type := 0, pos := "l06_rib.go:69", after := #[{ on := 2, ground := Ground.data }], guard := none }
abbrev o094b4_4 : Oper := { dst := some 20, op := Op.load 2 (Operand.tmp 19), type := 2, pos := "l06_rib.go:69", after := #[{ on := 3, ground := Ground.data }], guard := none }
abbrev o094b4_5 : Oper := { dst := some 21, op := Op.move (Operand.tmp 1), type := 2, pos := "l06_rib.go:69", after := #[], guard := none }
abbrev o094b4_6 : Oper := { dst := some 22, op := Op.binOp BinOp.eql 2 (Operand.tmp 20) (Operand.tmp 21) 2, type := 4, pos := "l06_rib.go:69", after := #[{ on := 4, ground := Ground.data }, { on := 5, ground := Ground.data }], guard := none }
abbrev o094b4_7 : Oper := { dst := some 23, op := Op.move (Operand.tmp 22), type := 4, pos := "l06_rib.go:69", after := #[{ on := 6, ground := Ground.data }], guard := none }
abbrev o094b4_8 : Oper := { dst := some 24, op := Op.move (Operand.tmp 0), type := 25, pos := "l06_rib.go:69", after := #[{ on := 7, ground := Ground.guard }], guard := some (7, true) }
abbrev o094b4_9 : Oper := { dst := some 25, op := Op.move (Operand.tmp 8), type := 3, pos := "l06_rib.go:69", after := #[{ on := 7, ground := Ground.guard }], guard := some (7, true) }
abbrev o094b4_10 : Oper := { dst := some 26, op := Op.indexAddr 25 (Operand.tmp 24) (Operand.tmp 25), type := 0, pos := "l06_rib.go:69", after := #[{ on := 8, ground := Ground.data }, { on := 9, ground := Ground.data }, { on := 7, ground := Ground.guard }], guard := some (7, true) }
abbrev o094b4_11 : Oper := { dst := some 27, op := Op.fieldAddr 77 (Operand.tmp 26) 2, type := 0, pos := "l06_rib.go:69", after := #[{ on := 10, ground := Ground.data }, { on := 7, ground := Ground.guard }], guard := some (7, true) }
abbrev o094b4_12 : Oper := { dst := some 28, op := Op.load 35 (Operand.tmp 27), type := 35, pos := "l06_rib.go:69", after := #[{ on := 11, ground := Ground.data }, { on := 7, ground := Ground.guard }], guard := some (7, true) }
abbrev o094b4_13 : Oper := { dst := some 30, op := Op.load 35 (Operand.tmp 5), type := 35, pos := "l06_rib.go:69", after := #[{ on := 7, ground := Ground.guard }], guard := some (7, true) }
abbrev o094b4_14 : Oper := { dst := some 29, op := Op.call { callee := Callee.value (Operand.func 120), args := #[Operand.tmp 28], argTypes := #[35] }, type := 35, pos := "l06_rib.go:69", after := #[{ on := 12, ground := Ground.data }, { on := 7, ground := Ground.chain }, { on := 7, ground := Ground.guard }], guard := some (7, true) }
abbrev o094b4_15 : Oper := { dst := some 31, op := Op.call { callee := Callee.value (Operand.func 120), args := #[Operand.tmp 30], argTypes := #[35] }, type := 35, pos := "l06_rib.go:69", after := #[{ on := 14, ground := Ground.data }, { on := 13, ground := Ground.chain }, { on := 7, ground := Ground.guard }], guard := some (7, true) }
abbrev o094b4_16 : Oper := { dst := some 32, op := Op.binOp BinOp.eql 35 (Operand.tmp 29) (Operand.tmp 31) 35, type := 4, pos := "l06_rib.go:69", after := #[{ on := 13, ground := Ground.data }, { on := 15, ground := Ground.data }, { on := 7, ground := Ground.guard }], guard := some (7, true) }
abbrev o094b4_17 : Oper := { dst := some 33, op := Op.pick (Operand.tmp 23) (Operand.tmp 32) (Operand.const (Value.bool false)), type := 4, pos := "l06_rib.go:69", after := #[{ on := 7, ground := Ground.data }, { on := 16, ground := Ground.data }], guard := none }
abbrev o094b4_18 : Oper := { dst := some 35, op := Op.load 31 (Operand.tmp 34), type := 31, pos := "l06_rib.go:70", after := #[{ on := 0, ground := Ground.data }], guard := none }
abbrev o094b4_19 : Oper := { dst := some 40, op := Op.load 35 (Operand.tmp 39), type := 35, pos := "l06_rib.go:70", after := #[{ on := 5, ground := Ground.data }], guard := none }
abbrev o094b4_20 : Oper := { dst := some 41, op := Op.buildSlice 31 1 #[(0, Operand.tmp 40)], type := 31, pos := "l06_rib.go:70", after := #[{ on := 6, ground := Ground.data }], guard := none }
abbrev o094b4_21 : Oper := { dst := some 42, op := Op.call { callee := Callee.builtin Builtin.append, args := #[Operand.tmp 35, Operand.tmp 41], argTypes := #[31, 31] }, type := 31, pos := "l06_rib.go:70", after := #[{ on := 1, ground := Ground.data }, { on := 7, ground := Ground.data }], guard := none }
abbrev o094b4_22 : Oper := { dst := none, op := Op.store 31 (Operand.tmp 43) (Operand.tmp 42), type := 0, pos := "l06_rib.go:70", after := #[{ on := 9, ground := Ground.data }, { on := 8, ground := Ground.data }, { on := 8, ground := Ground.chain }, { on := 0, ground := Ground.phase }, { on := 1, ground := Ground.phase }, { on := 2, ground := Ground.phase }, { on := 3, ground := Ground.phase }, { on := 4, ground := Ground.phase }, { on := 5, ground := Ground.phase }, { on := 6, ground := Ground.phase }, { on := 7, ground := Ground.phase }, { on := 8, ground := Ground.phase }], guard := none }
abbrev o094b4_23 : Oper := { dst := some 46, op := Op.load 25 (Operand.tmp 45), type := 25, pos := "l06_rib.go:73", after := #[{ on := 0, ground := Ground.data }], guard := none }
abbrev o094b4_24 : Oper := { dst := some 50, op := Op.load 77 (Operand.tmp 49), type := 77, pos := "l06_rib.go:73", after := #[{ on := 4, ground := Ground.data }], guard := none }
abbrev o094b4_25 : Oper := { dst := some 51, op := Op.buildSlice 25 1 #[(0, Operand.tmp 50)], type := 25, pos := "l06_rib.go:73", after := #[{ on := 5, ground := Ground.data }], guard := none }
abbrev o094b4_26 : Oper := { dst := some 52, op := Op.call { callee := Callee.builtin Builtin.append, args := #[Operand.tmp 46, Operand.tmp 51], argTypes := #[25, 25] }, type := 25, pos := "l06_rib.go:73", after := #[{ on := 1, ground := Ground.data }, { on := 6, ground := Ground.data }], guard := none }
abbrev o094b4_27 : Oper := { dst := none, op := Op.store 25 (Operand.tmp 53) (Operand.tmp 52), type := 0, pos := "l06_rib.go:73", after := #[{ on := 8, ground := Ground.data }, { on := 7, ground := Ground.data }, { on := 7, ground := Ground.chain }, { on := 0, ground := Ground.phase }, { on := 1, ground := Ground.phase }, { on := 2, ground := Ground.phase }, { on := 3, ground := Ground.phase }, { on := 4, ground := Ground.phase }, { on := 5, ground := Ground.phase }, { on := 6, ground := Ground.phase }, { on := 7, ground := Ground.phase }], guard := none }

theorem TkAt.drew {c : Int} {w W : World} {b o : Nat} {x : Hd} {r : Rt} {y t : Value} {rib : List Hd} {gone : List Rt} (h : TkAt c w W b o x r y t rib gone) : TkAt c w W.drew b o x r y t rib gone :=
  ⟨⟨h.two.out.drew, h.two.row, h.two.rot, h.two.bel.drew⟩, h.key.drew, h.ans.drew, h.hb, h.cp, h.cs, h.ck, h.cv, h.cm, h.ci, h.co, h.cq, h.ct⟩
theorem if4 {α : Type} (P Q R S : Prop) [Decidable P] [Decidable Q] [Decidable R] [Decidable S] (A B : α) : (if P then if Q then if R then if S then A else B else B else B else B) = if (P ∧ Q ∧ R ∧ S) then A else B := by
  by_cases P <;> by_cases Q <;> by_cases R <;> by_cases S <;> simp [*]
attribute [local simp] if4
theorem keys_yes {p : Int} {r : Rt} {x : Hd} (h : same ⟨p, false, r⟩ x) : (x.r.kind = r.kind ∧ x.r.vni = r.vni ∧ x.r.mac = r.mac ∧ x.r.org = r.org) = True :=
  eq_true ⟨h.2.1.symm, h.2.2.1.symm, h.2.2.2.1.symm, h.2.2.2.2.symm⟩
theorem keys_no {p : Int} {r : Rt} {x : Hd} (hp : x.p = p) (h : ¬ same ⟨p, false, r⟩ x) : (x.r.kind = r.kind ∧ x.r.vni = r.vni ∧ x.r.mac = r.mac ∧ x.r.org = r.org) = False :=
  eq_false fun k => h ⟨hp.symm, k.1.symm, k.2.1.symm, k.2.2.1.symm, k.2.2.2.symm⟩
set_option maxRecDepth 100000 in
set_option maxHeartbeats 8000000 in
theorem specTakeIn_any (l : List Hd) (v : Value) (p : Int) (r : Rt) (w : World) (h : HdsAt w v l) (hn : l.length ≤ 60) :
    Calls Try.prog 77 #[v, .int .i64 p, r.val] w (RoPost (takeIn ⟨p, false, r⟩ l) w) := by
  have HKs := Lib.hid (fun (i : Nat) (hi : i < l.length) => leave_succ ⟨p, false, r⟩ l i hi)
  have HGs := Lib.hid (fun (i : Nat) (hi : i < l.length) => hit_succ ⟨p, false, r⟩ l i hi)
  have HKl := Lib.hid (fun (i : Nat) => leave_len ⟨p, false, r⟩ l i)
  have HGl := Lib.hid (fun (i : Nat) => hit_len ⟨p, false, r⟩ l i)
  have HZ : Hid (leaveL ⟨p, false, r⟩ l = leaveL ⟨p, false, r⟩ (l.take l.length) ∧ hitL ⟨p, false, r⟩ l = hitL ⟨p, false, r⟩ (l.take l.length)) := Lib.hid (by rw [List.take_length]; exact ⟨rfl, rfl⟩)
  have HIll := Lib.hid (fun (c : Int) => specIll6_any c)
  have HKb := Lib.hid (specKeyOf_any r.kind r.vni r.mac r.ip r.org r.seq r.st)
  unfold rtV at HKb
  unfold roV at HIll
  unfold Rt.val rtV
  obtain ⟨a, cap, rfl, h⟩ := h
  rw [List.length_map] at *
  have HH := Lib.hid h
  clear h
  obtain ⟨n, hnn⟩ : ∃ n, n = l.length := ⟨_, rfl⟩
  rw [← hnn] at hn HZ HKl HGl ⊢
  have HN := Lib.hid hnn
  clear hnn
  obtain ⟨W0, hW0⟩ : ∃ W, W = ((w.alloc (.cells #[.int .i64 r.kind, .int .i64 r.vni, .int .i64 r.mac, .int .i64 r.ip, .int .i64 r.org, .int .i64 r.seq, .bool r.st] 35)).alloc (.cells #[.slice none 0 0, .slice none 0 0, .int .i64 0] 33)).alloc (.cells #[.slice none 0 0, .slice none 0 0, .int .i64 6] 33) := ⟨_, rfl⟩
  have A0 := (((MemAt.start w).new 35 #[.int .i64 r.kind, .int .i64 r.vni, .int .i64 r.mac, .int .i64 r.ip, .int .i64 r.org, .int .i64 r.seq, .bool r.st]).new 33 #[.slice none 0 0, .slice none 0 0, .int .i64 0]).new 33 #[.slice none 0 0, .slice none 0 0, .int .i64 6]
  simp only [World.size_alloc] at A0
  rw [← hW0] at A0
  have HT0 : Hid (Tw3 (codeL ((hitL ⟨p, false, r⟩ (l.take 0)).map Hd.r)) w W0 (w.heap.size + 2) (.slice none 0 0) (.slice none 0 0) (leaveL ⟨p, false, r⟩ (l.take 0)) ((hitL ⟨p, false, r⟩ (l.take 0)).map Hd.r)) := Lib.hid ⟨A0.b0, World.ownsRow_nil _ _ _ _, World.ownsRow_nil _ _ _ _, A0.bel⟩
  have HY0 : Hid (Blk W0 w.heap.size 35 #[.int .i64 r.kind, .int .i64 r.vni, .int .i64 r.mac, .int .i64 r.ip, .int .i64 r.org, .int .i64 r.seq, .bool r.st]) := Lib.hid A0.b2
  have HR0 : Hid (Blk W0 (w.heap.size + 1) 33 #[.slice none 0 0, .slice none 0 0, .int .i64 0]) := Lib.hid A0.b1
  clear A0
  go_enter Try.func77, Try.ntmps77
  go_upto_region 2 with fail
  rw [← hW0]
  clear hW0
  go_wp2_with fail
  go_loopw [8] (fun u wr => ∃ (i : Nat) (y t : Value), i ≤ n ∧ u = .int .i64 (i : Int) ∧ Hid (Tw3 (codeL ((hitL ⟨p, false, r⟩ (l.take i)).map Hd.r)) w wr (w.heap.size + 2) y t (leaveL ⟨p, false, r⟩ (l.take i)) ((hitL ⟨p, false, r⟩ (l.take i)).map Hd.r)) ∧ Hid (Blk wr w.heap.size 35 #[.int .i64 r.kind, .int .i64 r.vni, .int .i64 r.mac, .int .i64 r.ip, .int .i64 r.org, .int .i64 r.seq, .bool r.st]) ∧ Hid (Blk wr (w.heap.size + 1) 33 #[.slice none 0 0, .slice none 0 0, .int .i64 0])) (fun u _ => n - (intOf u).toNat)
  case atStart => exact ⟨0, _, _, Nat.zero_le _, rfl, HT0, HY0, HR0⟩
  case round =>
    clear HT0 HR0 HY0
    obtain ⟨i, y, t, hi, rfl, HT, HY, HR⟩ := hrel
    by_cases hlt : i < n
    · have hne : l.map Hd.cl ≠ [] := fun e => by
        have := congrArg List.length e
        rw [List.length_map, ← HN.out] at this
        simp at this; omega
      obtain ⟨b, off, ha, hb, HE⟩ := HH.out hne
      subst ha
      have hir : i < l.length := by rw [← HN.out]; exact hlt
      have hl1 : (i : Int) < n := by omega
      obtain ⟨p0, p1, p2, p3, p4, p5, p6, p7, p8⟩ := (elemsB HE HT.out.bel hb).hd i hir
      have S0 := TkAt.drew ⟨HT.out, HY.out, HR.out, Nat.lt_of_lt_of_le hb HT.out.bel.size, p0, p1, p2, p3, p4, p5, p6, p7, p8⟩
      have HK1 := Lib.hid (HKs.out i hir)
      have HG1 := Lib.hid (HGs.out i hir)
      have hk60 := HKl.out i
      have hg60 := HGl.out i
      have HKa := Lib.hid (specKeyOf_any (l[i]).r.kind (l[i]).r.vni (l[i]).r.mac (l[i]).r.ip (l[i]).r.org (l[i]).r.seq (l[i]).r.st)
      unfold rtV at HKa
      clear HE HT HY HR p0 p1 p2 p3 p4 p5 p6 p7 p8
      generalize l[i] = x at *
      generalize leaveL ⟨p, false, r⟩ (l.take i) = rib at *
      obtain ⟨hs, hhs⟩ : ∃ hs, hs = hitL ⟨p, false, r⟩ (l.take i) := ⟨_, rfl⟩
      rw [← hhs] at S0 HG1 hg60
      clear hhs
      obtain ⟨gone, hgo⟩ : ∃ gone, gone = hs.map Hd.r := ⟨_, rfl⟩
      have hgl : gone.length ≤ n := by rw [hgo, List.length_map]; exact hg60
      rw [← hgo] at S0
      replace HG1 : Hid ((hitL ⟨p, false, r⟩ (l.take (i + 1))).map Hd.r = if same ⟨p, false, r⟩ x then gone ++ [x.r] else gone) := Lib.hid (by rw [HG1.out, hgo]; split <;> simp)
      clear hgo hg60
      obtain ⟨cd, hcd⟩ : ∃ cd, cd = codeL gone := ⟨_, rfl⟩
      rw [← hcd] at S0
      have HCD := Lib.hid hcd
      clear hcd
      obtain ⟨ya, yc, rfl⟩ := rown_form S0.two.row
      obtain ⟨ta, tc, rfl⟩ := rown_form S0.two.rot
      by_cases hp : x.p = p
      · have hk : (x.p == p) = true := by simp [hp]
        by_cases hsm : same ⟨p, false, r⟩ x
        · rw [if_pos hsm] at HK1 HG1
          have hKy := keys_yes hsm
          go_upto_region 5 with fail
          refine wp_region_held_drew (S := fun W' => TkAt cd w W' b (off + i * 9) x r (.slice ya rib.length yc) (.slice ta gone.length tc) rib gone) (by kernel_rfl) S0 (fun hHeld => ?_)
          clear hHeld
          refine wpAnyH_take (i := 0) (oi := o094b4_0) (v := ?vva1) rfl (by kernel_rfl) (by kernel_rfl) (by kernel_rfl) (fun _ _ _ h => h) (Or.inl ⟨by rfl, ?hya1⟩) S0 ?resta1
          case hya1 => (intro w hSw; go_simp <;> with_reducible rfl)
          try simp only [Act.put, List.setIfInBounds_toArray, List.set_cons_zero, List.set_cons_succ]
          try simp only [hk]
          refine wpAnyH_take (i := 1) (oi := o094b4_1) (v := ?vva2) rfl (by kernel_rfl) (by kernel_rfl) (by kernel_rfl) (fun _ _ _ h => h) (Or.inl ⟨by rfl, ?hya2⟩) S0 ?resta2
          case hya2 => (intro w hSw; go_simp <;> with_reducible rfl)
          try simp only [Act.put, List.setIfInBounds_toArray, List.set_cons_zero, List.set_cons_succ]
          try simp only [hk]
          refine wpAnyH_take (i := 2) (oi := o094b4_2) (v := ?vva3) rfl (by kernel_rfl) (by kernel_rfl) (by kernel_rfl) (fun _ _ _ h => h) (Or.inl ⟨by rfl, ?hya3⟩) S0 ?resta3
          case hya3 => (intro w hSw; go_simp <;> with_reducible rfl)
          try simp only [Act.put, List.setIfInBounds_toArray, List.set_cons_zero, List.set_cons_succ]
          try simp only [hk]
          refine wpAnyH_take (i := 3) (oi := o094b4_3) (v := ?vva4) rfl (by kernel_rfl) (by kernel_rfl) (by kernel_rfl) (fun _ _ _ h => h) (Or.inl ⟨by rfl, ?hya4⟩) S0 ?resta4
          case hya4 => (intro w hSw; go_simp <;> with_reducible rfl)
          try simp only [Act.put, List.setIfInBounds_toArray, List.set_cons_zero, List.set_cons_succ]
          try simp only [hk]
          refine wpAnyH_take (i := 4) (oi := o094b4_4) (v := ?vva5) rfl (by kernel_rfl) (by kernel_rfl) (by kernel_rfl) (fun _ _ _ h => h) (Or.inl ⟨by rfl, ?hya5⟩) S0 ?resta5
          case hya5 => (intro w hSw; have e0 := hSw.cp; have e2 := hSw.ck; have e3 := hSw.cv; have e4 := hSw.cm; have e5 := hSw.ci; have e6 := hSw.co; have e7 := hSw.cq; have e8 := hSw.ct; have hcK := hSw.key.cell;go_simp <;> with_reducible rfl)
          try simp only [Act.put, List.setIfInBounds_toArray, List.set_cons_zero, List.set_cons_succ]
          try simp only [hk]
          refine wpAnyH_take (i := 5) (oi := o094b4_5) (v := ?vva6) rfl (by kernel_rfl) (by kernel_rfl) (by kernel_rfl) (fun _ _ _ h => h) (Or.inl ⟨by rfl, ?hya6⟩) S0 ?resta6
          case hya6 => (intro w hSw; go_simp <;> with_reducible rfl)
          try simp only [Act.put, List.setIfInBounds_toArray, List.set_cons_zero, List.set_cons_succ]
          try simp only [hk]
          refine wpAnyH_take (i := 6) (oi := o094b4_6) (v := ?vva7) rfl (by kernel_rfl) (by kernel_rfl) (by kernel_rfl) (fun _ _ _ h => h) (Or.inl ⟨by rfl, ?hya7⟩) S0 ?resta7
          case hya7 => (intro w hSw; go_simp <;> with_reducible rfl)
          try simp only [Act.put, List.setIfInBounds_toArray, List.set_cons_zero, List.set_cons_succ]
          try simp only [hk]
          refine wpAnyH_take (i := 7) (oi := o094b4_7) (v := ?vva8) rfl (by kernel_rfl) (by kernel_rfl) (by kernel_rfl) (fun _ _ _ h => h) (Or.inl ⟨by rfl, ?hya8⟩) S0 ?resta8
          case hya8 => (intro w hSw; go_simp <;> with_reducible rfl)
          try simp only [Act.put, List.setIfInBounds_toArray, List.set_cons_zero, List.set_cons_succ]
          try simp only [hk]
          refine wpAnyH_take (i := 8) (oi := o094b4_8) (v := ?vva9) rfl (by kernel_rfl) (by kernel_rfl) (by kernel_rfl) (fun _ _ _ h => h) (Or.inl ⟨by rfl, ?hya9⟩) S0 ?resta9
          case hya9 => (intro w hSw; go_simp <;> with_reducible rfl)
          try simp only [Act.put, List.setIfInBounds_toArray, List.set_cons_zero, List.set_cons_succ]
          try simp only [hk]
          refine wpAnyH_take (i := 9) (oi := o094b4_9) (v := ?vva10) rfl (by kernel_rfl) (by kernel_rfl) (by kernel_rfl) (fun _ _ _ h => h) (Or.inl ⟨by rfl, ?hya10⟩) S0 ?resta10
          case hya10 => (intro w hSw; go_simp <;> with_reducible rfl)
          try simp only [Act.put, List.setIfInBounds_toArray, List.set_cons_zero, List.set_cons_succ]
          try simp only [hk]
          refine wpAnyH_take (i := 10) (oi := o094b4_10) (v := ?vva11) rfl (by kernel_rfl) (by kernel_rfl) (by kernel_rfl) (fun _ _ _ h => h) (Or.inl ⟨by rfl, ?hya11⟩) S0 ?resta11
          case hya11 => (intro w hSw; go_simp <;> with_reducible rfl)
          try simp only [Act.put, List.setIfInBounds_toArray, List.set_cons_zero, List.set_cons_succ]
          try simp only [hk]
          refine wpAnyH_take (i := 11) (oi := o094b4_11) (v := ?vva12) rfl (by kernel_rfl) (by kernel_rfl) (by kernel_rfl) (fun _ _ _ h => h) (Or.inl ⟨by rfl, ?hya12⟩) S0 ?resta12
          case hya12 => (intro w hSw; go_simp <;> with_reducible rfl)
          try simp only [Act.put, List.setIfInBounds_toArray, List.set_cons_zero, List.set_cons_succ]
          try simp only [hk]
          refine wpAnyH_take (i := 12) (oi := o094b4_12) (v := ?vva13) rfl (by kernel_rfl) (by kernel_rfl) (by kernel_rfl) (fun _ _ _ h => h) (Or.inl ⟨by rfl, ?hya13⟩) S0 ?resta13
          case hya13 => (intro w hSw; have e0 := hSw.cp; have e2 := hSw.ck; have e3 := hSw.cv; have e4 := hSw.cm; have e5 := hSw.ci; have e6 := hSw.co; have e7 := hSw.cq; have e8 := hSw.ct; have hcK := hSw.key.cell;go_simp <;> with_reducible rfl)
          try simp only [Act.put, List.setIfInBounds_toArray, List.set_cons_zero, List.set_cons_succ]
          try simp only [hk]
          refine wpAnyH_take (i := 14) (oi := o094b4_13) (v := ?vva14) rfl (by kernel_rfl) (by kernel_rfl) (by kernel_rfl) (fun _ _ _ h => h) (Or.inl ⟨by rfl, ?hya14⟩) S0 ?resta14
          case hya14 => (intro w hSw; have e0 := hSw.cp; have e2 := hSw.ck; have e3 := hSw.cv; have e4 := hSw.cm; have e5 := hSw.ci; have e6 := hSw.co; have e7 := hSw.cq; have e8 := hSw.ct; have hcK := hSw.key.cell;go_simp <;> with_reducible rfl)
          try simp only [Act.put, List.setIfInBounds_toArray, List.set_cons_zero, List.set_cons_succ]
          try simp only [hk]
          refine wpAnyH_ready (rs := [13]) (by kernel_rfl) (by simp) ?_
          refine AllReadyH.cons (o := o094b4_14) rfl (fun K hK => ?_) AllReadyH.nil
          go_simp
          refine (HKa.out _).mono ?_
          rintro e w1 ⟨rfl, hb1⟩
          replace S0 := S0.kept hb1
          clear hb1
          refine hK.out _ _ S0 (fun hHeld => ?_)
          clear hK K hHeld
          try simp only [Act.put, List.setIfInBounds_toArray, List.set_cons_zero, List.set_cons_succ]
          try simp only [hk]
          refine wpAnyH_ready (rs := [15]) (by kernel_rfl) (by simp) ?_
          refine AllReadyH.cons (o := o094b4_15) rfl (fun K hK => ?_) AllReadyH.nil
          go_simp
          refine (HKb.out _).mono ?_
          rintro e w2 ⟨rfl, hb2⟩
          replace S0 := S0.kept hb2
          clear hb2
          refine hK.out _ _ S0 (fun hHeld => ?_)
          clear hK K hHeld
          try simp only [Act.put, List.setIfInBounds_toArray, List.set_cons_zero, List.set_cons_succ]
          try simp only [hk]
          refine wpAnyH_take (i := 16) (oi := o094b4_16) (v := ?vva15) rfl (by kernel_rfl) (by kernel_rfl) (by kernel_rfl) (fun _ _ _ h => h) (Or.inl ⟨by rfl, ?hya15⟩) S0 ?resta15
          case hya15 => (intro w hSw; go_simp <;> with_reducible rfl)
          try simp only [Act.put, List.setIfInBounds_toArray, List.set_cons_zero, List.set_cons_succ]
          try simp only [hk]
          refine wpAnyH_take (i := 17) (oi := o094b4_17) (v := ?vva16) rfl (by kernel_rfl) (by kernel_rfl) (by kernel_rfl) (fun _ _ _ h => h) (Or.inl ⟨by rfl, ?hya16⟩) S0 ?resta16
          case hya16 => (intro w hSw; go_simp <;> with_reducible rfl)
          try simp only [Act.put, List.setIfInBounds_toArray, List.set_cons_zero, List.set_cons_succ]
          try simp only [hk]
          refine wpAnyH_done (by kernel_rfl) ?_ _
          have S1 := S0.drew
          clear S0 hKy hsm
          go_upto_region 6 with fail
          refine wp_region_any (by kernel_rfl) ?_
          try (change wpAny _ _ _ _ _ _ _ (World.drew _))
          generalize w2.drew = Wd at *
          have q0 := S1.cp
          have q1 := S1.cs
          have q2 := S1.ck
          have q3 := S1.cv
          have q4 := S1.cm
          have q5 := S1.ci
          have q6 := S1.co
          have q7 := S1.cq
          have q8 := S1.ct
          have hbw2 := S1.hb
          have hcO := S1.two.out.cell
          have hqlt := S1.two.out.lt
          obtain ⟨a5, c5, n5, w5, hrun, hn5, hown5, hg5⟩ := run_append_row Rt.cl_len Rt.cl_one1 tyR Wd (w.heap.size + 1) (.slice ta gone.length tc) gone x.r #[.int .i64 x.r.kind, .int .i64 x.r.vni, .int .i64 x.r.mac, .int .i64 x.r.ip, .int .i64 x.r.org, .int .i64 x.r.seq, .bool x.r.st] rfl S1.two.rot (by omega) S1.key.lt 31
          have HRUN := Lib.hid hrun
          have HE := Lib.hid (S1.two.gone (by omega) hn5 hown5 hg5)
          have c5x := HE.out.1.cell
          have f5x := HE.out.1.frozen
          have c6x := HE.out.2.1.out.cell
          have f6x := HE.out.2.1.out.frozen
          clear hrun hown5 hg5 hn5
          refine wpAny_take (i := 0) (v := ?vvb1) rfl (by kernel_rfl) (by kernel_rfl) (by kernel_rfl) (fun _ _ _ h => h) (Or.inl ⟨by rfl, ?hyb1⟩) ?restb1
          case hyb1 => (intro w; go_simp <;> with_reducible rfl)
          refine wpAny_take (i := 2) (v := ?vvb2) rfl (by kernel_rfl) (by kernel_rfl) (by kernel_rfl) (fun _ _ _ h => h) (Or.inl ⟨by rfl, ?hyb2⟩) ?restb2
          case hyb2 => (intro w; go_simp <;> with_reducible rfl)
          refine wpAny_take (i := 3) (v := ?vvb3) rfl (by kernel_rfl) (by kernel_rfl) (by kernel_rfl) (fun _ _ _ h => h) (Or.inl ⟨by rfl, ?hyb3⟩) ?restb3
          case hyb3 => (intro w; go_simp <;> with_reducible rfl)
          refine wpAny_take (i := 4) (v := ?vvb4) rfl (by kernel_rfl) (by kernel_rfl) (by kernel_rfl) (fun _ _ _ h => h) (Or.inl ⟨by rfl, ?hyb4⟩) ?restb4
          case hyb4 => (intro w; go_simp <;> with_reducible rfl)
          refine wpAny_take (i := 5) (v := ?vvb5) rfl (by kernel_rfl) (by kernel_rfl) (by kernel_rfl) (fun _ _ _ h => h) (Or.inl ⟨by rfl, ?hyb5⟩) ?restb5
          case hyb5 => (intro w; go_simp <;> with_reducible rfl)
          refine wpAny_ready (rs := [1, 6]) (by kernel_rfl) (by simp) ?_
          refine (AllReady.cons (o := o094b4_18) rfl (fun K hK => ?_) (AllReady.cons (o := o094b4_19) rfl (fun K hK => ?_) AllReady.nil))
          focus
            go_simp
            refine hK _ _ ?_
            clear hK K
            refine wpAny_ready (rs := [6]) (by kernel_rfl) (by simp) ?_
            refine AllReady.cons (o := o094b4_19) rfl (fun K hK => ?_) AllReady.nil
            go_simp
            refine hK _ _ ?_
            clear hK K
            refine wpAny_ready (rs := [7]) (by kernel_rfl) (by simp) ?_
            refine AllReady.cons (o := o094b4_20) rfl (fun K hK => ?_) AllReady.nil
            go_simp
            refine hK _ _ ?_
            clear hK K
            refine wpAny_ready (rs := [8]) (by kernel_rfl) (by simp) ?_
            refine AllReady.cons (o := o094b4_21) rfl (fun K hK => ?_) AllReady.nil
            refine step_run_app rfl _ _ _ rfl _ _ _ _ rfl rfl HRUN.out ?_
            refine hK _ _ ?_
            clear hK K
            refine wpAny_take (i := 9) (v := ?vvb6) rfl (by kernel_rfl) (by kernel_rfl) (by kernel_rfl) (fun _ _ _ h => h) (Or.inl ⟨by rfl, ?hyb6⟩) ?restb6
            case hyb6 => (intro w; go_simp <;> with_reducible rfl)
            refine wpAny_ready (rs := [10]) (by kernel_rfl) (by simp) ?_
            refine AllReady.cons (o := o094b4_22) rfl (fun K hK => ?_) AllReady.nil
            go_simp
            refine hK _ _ ?_
            clear hK K
            refine wpAny_done (by kernel_rfl) ?_ _
          rotate_left 1
          focus
            go_simp
            refine hK _ _ ?_
            clear hK K
            refine wpAny_ready (rs := [1, 7]) (by kernel_rfl) (by simp) ?_
            refine (AllReady.cons (o := o094b4_18) rfl (fun K hK => ?_) (AllReady.cons (o := o094b4_20) rfl (fun K hK => ?_) AllReady.nil))
            focus
              go_simp
              refine hK _ _ ?_
              clear hK K
              refine wpAny_ready (rs := [7]) (by kernel_rfl) (by simp) ?_
              refine AllReady.cons (o := o094b4_20) rfl (fun K hK => ?_) AllReady.nil
              go_simp
              refine hK _ _ ?_
              clear hK K
              refine wpAny_ready (rs := [8]) (by kernel_rfl) (by simp) ?_
              refine AllReady.cons (o := o094b4_21) rfl (fun K hK => ?_) AllReady.nil
              refine step_run_app rfl _ _ _ rfl _ _ _ _ rfl rfl HRUN.out ?_
              refine hK _ _ ?_
              clear hK K
              refine wpAny_take (i := 9) (v := ?vvb7) rfl (by kernel_rfl) (by kernel_rfl) (by kernel_rfl) (fun _ _ _ h => h) (Or.inl ⟨by rfl, ?hyb7⟩) ?restb7
              case hyb7 => (intro w; go_simp <;> with_reducible rfl)
              refine wpAny_ready (rs := [10]) (by kernel_rfl) (by simp) ?_
              refine AllReady.cons (o := o094b4_22) rfl (fun K hK => ?_) AllReady.nil
              go_simp
              refine hK _ _ ?_
              clear hK K
              refine wpAny_done (by kernel_rfl) ?_ _
            rotate_left 1
            focus
              go_simp
              refine hK _ _ ?_
              clear hK K
              refine wpAny_ready (rs := [1]) (by kernel_rfl) (by simp) ?_
              refine AllReady.cons (o := o094b4_18) rfl (fun K hK => ?_) AllReady.nil
              go_simp
              refine hK _ _ ?_
              clear hK K
              refine wpAny_ready (rs := [8]) (by kernel_rfl) (by simp) ?_
              refine AllReady.cons (o := o094b4_21) rfl (fun K hK => ?_) AllReady.nil
              refine step_run_app rfl _ _ _ rfl _ _ _ _ rfl rfl HRUN.out ?_
              refine hK _ _ ?_
              clear hK K
              refine wpAny_take (i := 9) (v := ?vvb8) rfl (by kernel_rfl) (by kernel_rfl) (by kernel_rfl) (fun _ _ _ h => h) (Or.inl ⟨by rfl, ?hyb8⟩) ?restb8
              case hyb8 => (intro w; go_simp <;> with_reducible rfl)
              refine wpAny_ready (rs := [10]) (by kernel_rfl) (by simp) ?_
              refine AllReady.cons (o := o094b4_22) rfl (fun K hK => ?_) AllReady.nil
              go_simp
              refine hK _ _ ?_
              clear hK K
              refine wpAny_done (by kernel_rfl) ?_ _
            rotate_left 1
          rotate_left 2
          all_goals
            go_wp2_with fail
            go_roundw
            case rel => exact ⟨i + 1, _, _, by omega, by simp, by rw [HK1.out, HG1.out, codeL_snoc]; exact Lib.hid (HE.out.2.1.code (by omega) 0), Lib.hid ((HE.out.2.2 _ _ _ (.inr (Nat.le_refl _)) (by omega) S1.key).far (by omega)), Lib.hid ((HE.out.2.2 _ _ _ (.inl (by decide)) (by omega) S1.ans).far (by omega))⟩
            case measure => simp [intOf]; omega
        · rw [if_neg hsm] at HK1 HG1
          have hKy := keys_no hp hsm
          go_upto_region 5 with fail
          refine wp_region_held_drew (S := fun W' => TkAt cd w W' b (off + i * 9) x r (.slice ya rib.length yc) (.slice ta gone.length tc) rib gone) (by kernel_rfl) S0 (fun hHeld => ?_)
          clear hHeld
          refine wpAnyH_take (i := 0) (oi := o094b4_0) (v := ?vvc1) rfl (by kernel_rfl) (by kernel_rfl) (by kernel_rfl) (fun _ _ _ h => h) (Or.inl ⟨by rfl, ?hyc1⟩) S0 ?restc1
          case hyc1 => (intro w hSw; go_simp <;> with_reducible rfl)
          try simp only [Act.put, List.setIfInBounds_toArray, List.set_cons_zero, List.set_cons_succ]
          try simp only [hk]
          refine wpAnyH_take (i := 1) (oi := o094b4_1) (v := ?vvc2) rfl (by kernel_rfl) (by kernel_rfl) (by kernel_rfl) (fun _ _ _ h => h) (Or.inl ⟨by rfl, ?hyc2⟩) S0 ?restc2
          case hyc2 => (intro w hSw; go_simp <;> with_reducible rfl)
          try simp only [Act.put, List.setIfInBounds_toArray, List.set_cons_zero, List.set_cons_succ]
          try simp only [hk]
          refine wpAnyH_take (i := 2) (oi := o094b4_2) (v := ?vvc3) rfl (by kernel_rfl) (by kernel_rfl) (by kernel_rfl) (fun _ _ _ h => h) (Or.inl ⟨by rfl, ?hyc3⟩) S0 ?restc3
          case hyc3 => (intro w hSw; go_simp <;> with_reducible rfl)
          try simp only [Act.put, List.setIfInBounds_toArray, List.set_cons_zero, List.set_cons_succ]
          try simp only [hk]
          refine wpAnyH_take (i := 3) (oi := o094b4_3) (v := ?vvc4) rfl (by kernel_rfl) (by kernel_rfl) (by kernel_rfl) (fun _ _ _ h => h) (Or.inl ⟨by rfl, ?hyc4⟩) S0 ?restc4
          case hyc4 => (intro w hSw; go_simp <;> with_reducible rfl)
          try simp only [Act.put, List.setIfInBounds_toArray, List.set_cons_zero, List.set_cons_succ]
          try simp only [hk]
          refine wpAnyH_take (i := 4) (oi := o094b4_4) (v := ?vvc5) rfl (by kernel_rfl) (by kernel_rfl) (by kernel_rfl) (fun _ _ _ h => h) (Or.inl ⟨by rfl, ?hyc5⟩) S0 ?restc5
          case hyc5 => (intro w hSw; have e0 := hSw.cp; have e2 := hSw.ck; have e3 := hSw.cv; have e4 := hSw.cm; have e5 := hSw.ci; have e6 := hSw.co; have e7 := hSw.cq; have e8 := hSw.ct; have hcK := hSw.key.cell;go_simp <;> with_reducible rfl)
          try simp only [Act.put, List.setIfInBounds_toArray, List.set_cons_zero, List.set_cons_succ]
          try simp only [hk]
          refine wpAnyH_take (i := 5) (oi := o094b4_5) (v := ?vvc6) rfl (by kernel_rfl) (by kernel_rfl) (by kernel_rfl) (fun _ _ _ h => h) (Or.inl ⟨by rfl, ?hyc6⟩) S0 ?restc6
          case hyc6 => (intro w hSw; go_simp <;> with_reducible rfl)
          try simp only [Act.put, List.setIfInBounds_toArray, List.set_cons_zero, List.set_cons_succ]
          try simp only [hk]
          refine wpAnyH_take (i := 6) (oi := o094b4_6) (v := ?vvc7) rfl (by kernel_rfl) (by kernel_rfl) (by kernel_rfl) (fun _ _ _ h => h) (Or.inl ⟨by rfl, ?hyc7⟩) S0 ?restc7
          case hyc7 => (intro w hSw; go_simp <;> with_reducible rfl)
          try simp only [Act.put, List.setIfInBounds_toArray, List.set_cons_zero, List.set_cons_succ]
          try simp only [hk]
          refine wpAnyH_take (i := 7) (oi := o094b4_7) (v := ?vvc8) rfl (by kernel_rfl) (by kernel_rfl) (by kernel_rfl) (fun _ _ _ h => h) (Or.inl ⟨by rfl, ?hyc8⟩) S0 ?restc8
          case hyc8 => (intro w hSw; go_simp <;> with_reducible rfl)
          try simp only [Act.put, List.setIfInBounds_toArray, List.set_cons_zero, List.set_cons_succ]
          try simp only [hk]
          refine wpAnyH_take (i := 8) (oi := o094b4_8) (v := ?vvc9) rfl (by kernel_rfl) (by kernel_rfl) (by kernel_rfl) (fun _ _ _ h => h) (Or.inl ⟨by rfl, ?hyc9⟩) S0 ?restc9
          case hyc9 => (intro w hSw; go_simp <;> with_reducible rfl)
          try simp only [Act.put, List.setIfInBounds_toArray, List.set_cons_zero, List.set_cons_succ]
          try simp only [hk]
          refine wpAnyH_take (i := 9) (oi := o094b4_9) (v := ?vvc10) rfl (by kernel_rfl) (by kernel_rfl) (by kernel_rfl) (fun _ _ _ h => h) (Or.inl ⟨by rfl, ?hyc10⟩) S0 ?restc10
          case hyc10 => (intro w hSw; go_simp <;> with_reducible rfl)
          try simp only [Act.put, List.setIfInBounds_toArray, List.set_cons_zero, List.set_cons_succ]
          try simp only [hk]
          refine wpAnyH_take (i := 10) (oi := o094b4_10) (v := ?vvc11) rfl (by kernel_rfl) (by kernel_rfl) (by kernel_rfl) (fun _ _ _ h => h) (Or.inl ⟨by rfl, ?hyc11⟩) S0 ?restc11
          case hyc11 => (intro w hSw; go_simp <;> with_reducible rfl)
          try simp only [Act.put, List.setIfInBounds_toArray, List.set_cons_zero, List.set_cons_succ]
          try simp only [hk]
          refine wpAnyH_take (i := 11) (oi := o094b4_11) (v := ?vvc12) rfl (by kernel_rfl) (by kernel_rfl) (by kernel_rfl) (fun _ _ _ h => h) (Or.inl ⟨by rfl, ?hyc12⟩) S0 ?restc12
          case hyc12 => (intro w hSw; go_simp <;> with_reducible rfl)
          try simp only [Act.put, List.setIfInBounds_toArray, List.set_cons_zero, List.set_cons_succ]
          try simp only [hk]
          refine wpAnyH_take (i := 12) (oi := o094b4_12) (v := ?vvc13) rfl (by kernel_rfl) (by kernel_rfl) (by kernel_rfl) (fun _ _ _ h => h) (Or.inl ⟨by rfl, ?hyc13⟩) S0 ?restc13
          case hyc13 => (intro w hSw; have e0 := hSw.cp; have e2 := hSw.ck; have e3 := hSw.cv; have e4 := hSw.cm; have e5 := hSw.ci; have e6 := hSw.co; have e7 := hSw.cq; have e8 := hSw.ct; have hcK := hSw.key.cell;go_simp <;> with_reducible rfl)
          try simp only [Act.put, List.setIfInBounds_toArray, List.set_cons_zero, List.set_cons_succ]
          try simp only [hk]
          refine wpAnyH_take (i := 14) (oi := o094b4_13) (v := ?vvc14) rfl (by kernel_rfl) (by kernel_rfl) (by kernel_rfl) (fun _ _ _ h => h) (Or.inl ⟨by rfl, ?hyc14⟩) S0 ?restc14
          case hyc14 => (intro w hSw; have e0 := hSw.cp; have e2 := hSw.ck; have e3 := hSw.cv; have e4 := hSw.cm; have e5 := hSw.ci; have e6 := hSw.co; have e7 := hSw.cq; have e8 := hSw.ct; have hcK := hSw.key.cell;go_simp <;> with_reducible rfl)
          try simp only [Act.put, List.setIfInBounds_toArray, List.set_cons_zero, List.set_cons_succ]
          try simp only [hk]
          refine wpAnyH_ready (rs := [13]) (by kernel_rfl) (by simp) ?_
          refine AllReadyH.cons (o := o094b4_14) rfl (fun K hK => ?_) AllReadyH.nil
          go_simp
          refine (HKa.out _).mono ?_
          rintro e w1 ⟨rfl, hb1⟩
          replace S0 := S0.kept hb1
          clear hb1
          refine hK.out _ _ S0 (fun hHeld => ?_)
          clear hK K hHeld
          try simp only [Act.put, List.setIfInBounds_toArray, List.set_cons_zero, List.set_cons_succ]
          try simp only [hk]
          refine wpAnyH_ready (rs := [15]) (by kernel_rfl) (by simp) ?_
          refine AllReadyH.cons (o := o094b4_15) rfl (fun K hK => ?_) AllReadyH.nil
          go_simp
          refine (HKb.out _).mono ?_
          rintro e w2 ⟨rfl, hb2⟩
          replace S0 := S0.kept hb2
          clear hb2
          refine hK.out _ _ S0 (fun hHeld => ?_)
          clear hK K hHeld
          try simp only [Act.put, List.setIfInBounds_toArray, List.set_cons_zero, List.set_cons_succ]
          try simp only [hk]
          refine wpAnyH_take (i := 16) (oi := o094b4_16) (v := ?vvc15) rfl (by kernel_rfl) (by kernel_rfl) (by kernel_rfl) (fun _ _ _ h => h) (Or.inl ⟨by rfl, ?hyc15⟩) S0 ?restc15
          case hyc15 => (intro w hSw; go_simp <;> with_reducible rfl)
          try simp only [Act.put, List.setIfInBounds_toArray, List.set_cons_zero, List.set_cons_succ]
          try simp only [hk]
          refine wpAnyH_take (i := 17) (oi := o094b4_17) (v := ?vvc16) rfl (by kernel_rfl) (by kernel_rfl) (by kernel_rfl) (fun _ _ _ h => h) (Or.inl ⟨by rfl, ?hyc16⟩) S0 ?restc16
          case hyc16 => (intro w hSw; go_simp <;> with_reducible rfl)
          try simp only [Act.put, List.setIfInBounds_toArray, List.set_cons_zero, List.set_cons_succ]
          try simp only [hk]
          refine wpAnyH_done (by kernel_rfl) ?_ _
          clear hKy hsm hp hk
          have S1 := S0.drew
          clear S0
          go_upto_region 8 with fail
          refine wp_region_any (by kernel_rfl) ?_
          try (change wpAny _ _ _ _ _ _ _ (World.drew _))
          generalize w2.drew = Wd at *
          have q0 := S1.cp
          have q1 := S1.cs
          have q2 := S1.ck
          have q3 := S1.cv
          have q4 := S1.cm
          have q5 := S1.ci
          have q6 := S1.co
          have q7 := S1.cq
          have q8 := S1.ct
          have hbw2 := S1.hb
          have hcO := S1.two.out.cell
          have hqlt := S1.two.out.lt
          obtain ⟨a5, c5, n5, w5, hrun, hn5, hown5, hg5⟩ := run_append_row Hd.cl_len Hd.cl_one1 tyH Wd (w.heap.size + 1) (.slice ya rib.length yc) rib x #[.int .i64 x.p, .bool x.s, .int .i64 x.r.kind, .int .i64 x.r.vni, .int .i64 x.r.mac, .int .i64 x.r.ip, .int .i64 x.r.org, .int .i64 x.r.seq, .bool x.r.st] rfl S1.two.row (by omega) S1.key.lt 25
          have HRUN := Lib.hid hrun
          have HE := Lib.hid (S1.two.keep (by omega) hn5 hown5 hg5)
          have c5x := HE.out.1.cell
          have f5x := HE.out.1.frozen
          clear hrun hown5 hg5 hn5
          refine wpAny_take (i := 0) (v := ?vvd1) rfl (by kernel_rfl) (by kernel_rfl) (by kernel_rfl) (fun _ _ _ h => h) (Or.inl ⟨by rfl, ?hyd1⟩) ?restd1
          case hyd1 => (intro w; go_simp <;> with_reducible rfl)
          refine wpAny_take (i := 2) (v := ?vvd2) rfl (by kernel_rfl) (by kernel_rfl) (by kernel_rfl) (fun _ _ _ h => h) (Or.inl ⟨by rfl, ?hyd2⟩) ?restd2
          case hyd2 => (intro w; go_simp <;> with_reducible rfl)
          refine wpAny_take (i := 3) (v := ?vvd3) rfl (by kernel_rfl) (by kernel_rfl) (by kernel_rfl) (fun _ _ _ h => h) (Or.inl ⟨by rfl, ?hyd3⟩) ?restd3
          case hyd3 => (intro w; go_simp <;> with_reducible rfl)
          refine wpAny_take (i := 4) (v := ?vvd4) rfl (by kernel_rfl) (by kernel_rfl) (by kernel_rfl) (fun _ _ _ h => h) (Or.inl ⟨by rfl, ?hyd4⟩) ?restd4
          case hyd4 => (intro w; go_simp <;> with_reducible rfl)
          refine wpAny_ready (rs := [1, 5]) (by kernel_rfl) (by simp) ?_
          refine (AllReady.cons (o := o094b4_23) rfl (fun K hK => ?_) (AllReady.cons (o := o094b4_24) rfl (fun K hK => ?_) AllReady.nil))
          focus
            go_simp
            refine hK _ _ ?_
            clear hK K
            refine wpAny_ready (rs := [5]) (by kernel_rfl) (by simp) ?_
            refine AllReady.cons (o := o094b4_24) rfl (fun K hK => ?_) AllReady.nil
            go_simp
            refine hK _ _ ?_
            clear hK K
            refine wpAny_ready (rs := [6]) (by kernel_rfl) (by simp) ?_
            refine AllReady.cons (o := o094b4_25) rfl (fun K hK => ?_) AllReady.nil
            go_simp
            refine hK _ _ ?_
            clear hK K
            refine wpAny_ready (rs := [7]) (by kernel_rfl) (by simp) ?_
            refine AllReady.cons (o := o094b4_26) rfl (fun K hK => ?_) AllReady.nil
            refine step_run_app rfl _ _ _ rfl _ _ _ _ rfl rfl HRUN.out ?_
            refine hK _ _ ?_
            clear hK K
            refine wpAny_take (i := 8) (v := ?vvd5) rfl (by kernel_rfl) (by kernel_rfl) (by kernel_rfl) (fun _ _ _ h => h) (Or.inl ⟨by rfl, ?hyd5⟩) ?restd5
            case hyd5 => (intro w; go_simp <;> with_reducible rfl)
            refine wpAny_ready (rs := [9]) (by kernel_rfl) (by simp) ?_
            refine AllReady.cons (o := o094b4_27) rfl (fun K hK => ?_) AllReady.nil
            go_simp
            refine hK _ _ ?_
            clear hK K
            refine wpAny_done (by kernel_rfl) ?_ _
          rotate_left 1
          focus
            go_simp
            refine hK _ _ ?_
            clear hK K
            refine wpAny_ready (rs := [1, 6]) (by kernel_rfl) (by simp) ?_
            refine (AllReady.cons (o := o094b4_23) rfl (fun K hK => ?_) (AllReady.cons (o := o094b4_25) rfl (fun K hK => ?_) AllReady.nil))
            focus
              go_simp
              refine hK _ _ ?_
              clear hK K
              refine wpAny_ready (rs := [6]) (by kernel_rfl) (by simp) ?_
              refine AllReady.cons (o := o094b4_25) rfl (fun K hK => ?_) AllReady.nil
              go_simp
              refine hK _ _ ?_
              clear hK K
              refine wpAny_ready (rs := [7]) (by kernel_rfl) (by simp) ?_
              refine AllReady.cons (o := o094b4_26) rfl (fun K hK => ?_) AllReady.nil
              refine step_run_app rfl _ _ _ rfl _ _ _ _ rfl rfl HRUN.out ?_
              refine hK _ _ ?_
              clear hK K
              refine wpAny_take (i := 8) (v := ?vvd6) rfl (by kernel_rfl) (by kernel_rfl) (by kernel_rfl) (fun _ _ _ h => h) (Or.inl ⟨by rfl, ?hyd6⟩) ?restd6
              case hyd6 => (intro w; go_simp <;> with_reducible rfl)
              refine wpAny_ready (rs := [9]) (by kernel_rfl) (by simp) ?_
              refine AllReady.cons (o := o094b4_27) rfl (fun K hK => ?_) AllReady.nil
              go_simp
              refine hK _ _ ?_
              clear hK K
              refine wpAny_done (by kernel_rfl) ?_ _
            rotate_left 1
            focus
              go_simp
              refine hK _ _ ?_
              clear hK K
              refine wpAny_ready (rs := [1]) (by kernel_rfl) (by simp) ?_
              refine AllReady.cons (o := o094b4_23) rfl (fun K hK => ?_) AllReady.nil
              go_simp
              refine hK _ _ ?_
              clear hK K
              refine wpAny_ready (rs := [7]) (by kernel_rfl) (by simp) ?_
              refine AllReady.cons (o := o094b4_26) rfl (fun K hK => ?_) AllReady.nil
              refine step_run_app rfl _ _ _ rfl _ _ _ _ rfl rfl HRUN.out ?_
              refine hK _ _ ?_
              clear hK K
              refine wpAny_take (i := 8) (v := ?vvd7) rfl (by kernel_rfl) (by kernel_rfl) (by kernel_rfl) (fun _ _ _ h => h) (Or.inl ⟨by rfl, ?hyd7⟩) ?restd7
              case hyd7 => (intro w; go_simp <;> with_reducible rfl)
              refine wpAny_ready (rs := [9]) (by kernel_rfl) (by simp) ?_
              refine AllReady.cons (o := o094b4_27) rfl (fun K hK => ?_) AllReady.nil
              go_simp
              refine hK _ _ ?_
              clear hK K
              refine wpAny_done (by kernel_rfl) ?_ _
            rotate_left 1
          rotate_left 2
          all_goals
            go_wp2_with fail
            go_roundw
            case rel => exact ⟨i + 1, _, _, by omega, by simp, by rw [HK1.out, HG1.out, ← HCD.out]; exact Lib.hid HE.out.2.1, Lib.hid (HE.out.2.2 _ _ _ (by decide) (by omega) S1.key), Lib.hid (HE.out.2.2 _ _ _ (by decide) (by omega) S1.ans)⟩
            case measure => simp [intOf]; omega
      · have hk : (x.p == p) = false := by simp [hp]
        have hsm : ¬ same ⟨p, false, r⟩ x := fun e => hp e.1.symm
        rw [if_neg hsm] at HK1 HG1
        have hone : ∃ z : Nat, z = 0 := ⟨_, rfl⟩
        obtain ⟨z, hz⟩ := hone
        clear hz
        · go_upto_region 5 with fail
          refine wp_region_held_drew (S := fun W' => TkAt cd w W' b (off + i * 9) x r (.slice ya rib.length yc) (.slice ta gone.length tc) rib gone) (by kernel_rfl) S0 (fun hHeld => ?_)
          clear hHeld
          refine wpAnyH_take (i := 0) (oi := o094b4_0) (v := ?vve1) rfl (by kernel_rfl) (by kernel_rfl) (by kernel_rfl) (fun _ _ _ h => h) (Or.inl ⟨by rfl, ?hye1⟩) S0 ?reste1
          case hye1 => (intro w hSw; go_simp <;> with_reducible rfl)
          try simp only [Act.put, List.setIfInBounds_toArray, List.set_cons_zero, List.set_cons_succ]
          try simp only [hk]
          refine wpAnyH_take (i := 1) (oi := o094b4_1) (v := ?vve2) rfl (by kernel_rfl) (by kernel_rfl) (by kernel_rfl) (fun _ _ _ h => h) (Or.inl ⟨by rfl, ?hye2⟩) S0 ?reste2
          case hye2 => (intro w hSw; go_simp <;> with_reducible rfl)
          try simp only [Act.put, List.setIfInBounds_toArray, List.set_cons_zero, List.set_cons_succ]
          try simp only [hk]
          refine wpAnyH_take (i := 2) (oi := o094b4_2) (v := ?vve3) rfl (by kernel_rfl) (by kernel_rfl) (by kernel_rfl) (fun _ _ _ h => h) (Or.inl ⟨by rfl, ?hye3⟩) S0 ?reste3
          case hye3 => (intro w hSw; go_simp <;> with_reducible rfl)
          try simp only [Act.put, List.setIfInBounds_toArray, List.set_cons_zero, List.set_cons_succ]
          try simp only [hk]
          refine wpAnyH_take (i := 3) (oi := o094b4_3) (v := ?vve4) rfl (by kernel_rfl) (by kernel_rfl) (by kernel_rfl) (fun _ _ _ h => h) (Or.inl ⟨by rfl, ?hye4⟩) S0 ?reste4
          case hye4 => (intro w hSw; go_simp <;> with_reducible rfl)
          try simp only [Act.put, List.setIfInBounds_toArray, List.set_cons_zero, List.set_cons_succ]
          try simp only [hk]
          refine wpAnyH_take (i := 4) (oi := o094b4_4) (v := ?vve5) rfl (by kernel_rfl) (by kernel_rfl) (by kernel_rfl) (fun _ _ _ h => h) (Or.inl ⟨by rfl, ?hye5⟩) S0 ?reste5
          case hye5 => (intro w hSw; have e0 := hSw.cp;go_simp <;> with_reducible rfl)
          try simp only [Act.put, List.setIfInBounds_toArray, List.set_cons_zero, List.set_cons_succ]
          try simp only [hk]
          refine wpAnyH_take (i := 5) (oi := o094b4_5) (v := ?vve6) rfl (by kernel_rfl) (by kernel_rfl) (by kernel_rfl) (fun _ _ _ h => h) (Or.inl ⟨by rfl, ?hye6⟩) S0 ?reste6
          case hye6 => (intro w hSw; go_simp <;> with_reducible rfl)
          try simp only [Act.put, List.setIfInBounds_toArray, List.set_cons_zero, List.set_cons_succ]
          try simp only [hk]
          refine wpAnyH_take (i := 6) (oi := o094b4_6) (v := ?vve7) rfl (by kernel_rfl) (by kernel_rfl) (by kernel_rfl) (fun _ _ _ h => h) (Or.inl ⟨by rfl, ?hye7⟩) S0 ?reste7
          case hye7 => (intro w hSw; go_simp <;> with_reducible rfl)
          try simp only [Act.put, List.setIfInBounds_toArray, List.set_cons_zero, List.set_cons_succ]
          try simp only [hk]
          refine wpAnyH_take (i := 7) (oi := o094b4_7) (v := ?vve8) rfl (by kernel_rfl) (by kernel_rfl) (by kernel_rfl) (fun _ _ _ h => h) (Or.inl ⟨by rfl, ?hye8⟩) S0 ?reste8
          case hye8 => (intro w hSw; go_simp <;> with_reducible rfl)
          try simp only [Act.put, List.setIfInBounds_toArray, List.set_cons_zero, List.set_cons_succ]
          try simp only [hk]
          refine wpAnyH_take (i := 8) (oi := o094b4_8) (v := undef) rfl (by kernel_rfl) (by kernel_rfl) (by kernel_rfl) (fun _ _ _ h => h) (Or.inr ⟨by rfl, rfl⟩) S0 ?_
          try simp only [Act.put, List.setIfInBounds_toArray, List.set_cons_zero, List.set_cons_succ]
          try simp only [hk]
          refine wpAnyH_take (i := 9) (oi := o094b4_9) (v := undef) rfl (by kernel_rfl) (by kernel_rfl) (by kernel_rfl) (fun _ _ _ h => h) (Or.inr ⟨by rfl, rfl⟩) S0 ?_
          try simp only [Act.put, List.setIfInBounds_toArray, List.set_cons_zero, List.set_cons_succ]
          try simp only [hk]
          refine wpAnyH_take (i := 10) (oi := o094b4_10) (v := undef) rfl (by kernel_rfl) (by kernel_rfl) (by kernel_rfl) (fun _ _ _ h => h) (Or.inr ⟨by rfl, rfl⟩) S0 ?_
          try simp only [Act.put, List.setIfInBounds_toArray, List.set_cons_zero, List.set_cons_succ]
          try simp only [hk]
          refine wpAnyH_take (i := 11) (oi := o094b4_11) (v := undef) rfl (by kernel_rfl) (by kernel_rfl) (by kernel_rfl) (fun _ _ _ h => h) (Or.inr ⟨by rfl, rfl⟩) S0 ?_
          try simp only [Act.put, List.setIfInBounds_toArray, List.set_cons_zero, List.set_cons_succ]
          try simp only [hk]
          refine wpAnyH_take (i := 12) (oi := o094b4_12) (v := undef) rfl (by kernel_rfl) (by kernel_rfl) (by kernel_rfl) (fun _ _ _ h => h) (Or.inr ⟨by rfl, rfl⟩) S0 ?_
          try simp only [Act.put, List.setIfInBounds_toArray, List.set_cons_zero, List.set_cons_succ]
          try simp only [hk]
          refine wpAnyH_take (i := 13) (oi := o094b4_14) (v := undef) rfl (by kernel_rfl) (by kernel_rfl) (by kernel_rfl) (fun _ _ _ h => h) (Or.inr ⟨by rfl, rfl⟩) S0 ?_
          try simp only [Act.put, List.setIfInBounds_toArray, List.set_cons_zero, List.set_cons_succ]
          try simp only [hk]
          refine wpAnyH_take (i := 14) (oi := o094b4_13) (v := undef) rfl (by kernel_rfl) (by kernel_rfl) (by kernel_rfl) (fun _ _ _ h => h) (Or.inr ⟨by rfl, rfl⟩) S0 ?_
          try simp only [Act.put, List.setIfInBounds_toArray, List.set_cons_zero, List.set_cons_succ]
          try simp only [hk]
          refine wpAnyH_take (i := 15) (oi := o094b4_15) (v := undef) rfl (by kernel_rfl) (by kernel_rfl) (by kernel_rfl) (fun _ _ _ h => h) (Or.inr ⟨by rfl, rfl⟩) S0 ?_
          try simp only [Act.put, List.setIfInBounds_toArray, List.set_cons_zero, List.set_cons_succ]
          try simp only [hk]
          refine wpAnyH_take (i := 16) (oi := o094b4_16) (v := undef) rfl (by kernel_rfl) (by kernel_rfl) (by kernel_rfl) (fun _ _ _ h => h) (Or.inr ⟨by rfl, rfl⟩) S0 ?_
          try simp only [Act.put, List.setIfInBounds_toArray, List.set_cons_zero, List.set_cons_succ]
          try simp only [hk]
          refine wpAnyH_take (i := 17) (oi := o094b4_17) (v := ?vve18) rfl (by kernel_rfl) (by kernel_rfl) (by kernel_rfl) (fun _ _ _ h => h) (Or.inl ⟨by rfl, ?hye18⟩) S0 ?reste18
          case hye18 => (intro w hSw; go_simp <;> with_reducible rfl)
          try simp only [Act.put, List.setIfInBounds_toArray, List.set_cons_zero, List.set_cons_succ]
          try simp only [hk]
          refine wpAnyH_done (by kernel_rfl) ?_ _
          clear hsm
          have S1 := S0.drew
          clear S0
          go_upto_region 8 with fail
          refine wp_region_any (by kernel_rfl) ?_
          try (change wpAny _ _ _ _ _ _ _ (World.drew _))
          generalize wr.drew.drew = Wd at *
          have q0 := S1.cp
          have q1 := S1.cs
          have q2 := S1.ck
          have q3 := S1.cv
          have q4 := S1.cm
          have q5 := S1.ci
          have q6 := S1.co
          have q7 := S1.cq
          have q8 := S1.ct
          have hbw2 := S1.hb
          have hcO := S1.two.out.cell
          have hqlt := S1.two.out.lt
          obtain ⟨a5, c5, n5, w5, hrun, hn5, hown5, hg5⟩ := run_append_row Hd.cl_len Hd.cl_one1 tyH Wd (w.heap.size + 1) (.slice ya rib.length yc) rib x #[.int .i64 x.p, .bool x.s, .int .i64 x.r.kind, .int .i64 x.r.vni, .int .i64 x.r.mac, .int .i64 x.r.ip, .int .i64 x.r.org, .int .i64 x.r.seq, .bool x.r.st] rfl S1.two.row (by omega) S1.key.lt 25
          have HRUN := Lib.hid hrun
          have HE := Lib.hid (S1.two.keep (by omega) hn5 hown5 hg5)
          have c5x := HE.out.1.cell
          have f5x := HE.out.1.frozen
          clear hrun hown5 hg5 hn5
          refine wpAny_take (i := 0) (v := ?vvf1) rfl (by kernel_rfl) (by kernel_rfl) (by kernel_rfl) (fun _ _ _ h => h) (Or.inl ⟨by rfl, ?hyf1⟩) ?restf1
          case hyf1 => (intro w; go_simp <;> with_reducible rfl)
          refine wpAny_take (i := 2) (v := ?vvf2) rfl (by kernel_rfl) (by kernel_rfl) (by kernel_rfl) (fun _ _ _ h => h) (Or.inl ⟨by rfl, ?hyf2⟩) ?restf2
          case hyf2 => (intro w; go_simp <;> with_reducible rfl)
          refine wpAny_take (i := 3) (v := ?vvf3) rfl (by kernel_rfl) (by kernel_rfl) (by kernel_rfl) (fun _ _ _ h => h) (Or.inl ⟨by rfl, ?hyf3⟩) ?restf3
          case hyf3 => (intro w; go_simp <;> with_reducible rfl)
          refine wpAny_take (i := 4) (v := ?vvf4) rfl (by kernel_rfl) (by kernel_rfl) (by kernel_rfl) (fun _ _ _ h => h) (Or.inl ⟨by rfl, ?hyf4⟩) ?restf4
          case hyf4 => (intro w; go_simp <;> with_reducible rfl)
          refine wpAny_ready (rs := [1, 5]) (by kernel_rfl) (by simp) ?_
          refine (AllReady.cons (o := o094b4_23) rfl (fun K hK => ?_) (AllReady.cons (o := o094b4_24) rfl (fun K hK => ?_) AllReady.nil))
          focus
            go_simp
            refine hK _ _ ?_
            clear hK K
            refine wpAny_ready (rs := [5]) (by kernel_rfl) (by simp) ?_
            refine AllReady.cons (o := o094b4_24) rfl (fun K hK => ?_) AllReady.nil
            go_simp
            refine hK _ _ ?_
            clear hK K
            refine wpAny_ready (rs := [6]) (by kernel_rfl) (by simp) ?_
            refine AllReady.cons (o := o094b4_25) rfl (fun K hK => ?_) AllReady.nil
            go_simp
            refine hK _ _ ?_
            clear hK K
            refine wpAny_ready (rs := [7]) (by kernel_rfl) (by simp) ?_
            refine AllReady.cons (o := o094b4_26) rfl (fun K hK => ?_) AllReady.nil
            refine step_run_app rfl _ _ _ rfl _ _ _ _ rfl rfl HRUN.out ?_
            refine hK _ _ ?_
            clear hK K
            refine wpAny_take (i := 8) (v := ?vvf5) rfl (by kernel_rfl) (by kernel_rfl) (by kernel_rfl) (fun _ _ _ h => h) (Or.inl ⟨by rfl, ?hyf5⟩) ?restf5
            case hyf5 => (intro w; go_simp <;> with_reducible rfl)
            refine wpAny_ready (rs := [9]) (by kernel_rfl) (by simp) ?_
            refine AllReady.cons (o := o094b4_27) rfl (fun K hK => ?_) AllReady.nil
            go_simp
            refine hK _ _ ?_
            clear hK K
            refine wpAny_done (by kernel_rfl) ?_ _
          rotate_left 1
          focus
            go_simp
            refine hK _ _ ?_
            clear hK K
            refine wpAny_ready (rs := [1, 6]) (by kernel_rfl) (by simp) ?_
            refine (AllReady.cons (o := o094b4_23) rfl (fun K hK => ?_) (AllReady.cons (o := o094b4_25) rfl (fun K hK => ?_) AllReady.nil))
            focus
              go_simp
              refine hK _ _ ?_
              clear hK K
              refine wpAny_ready (rs := [6]) (by kernel_rfl) (by simp) ?_
              refine AllReady.cons (o := o094b4_25) rfl (fun K hK => ?_) AllReady.nil
              go_simp
              refine hK _ _ ?_
              clear hK K
              refine wpAny_ready (rs := [7]) (by kernel_rfl) (by simp) ?_
              refine AllReady.cons (o := o094b4_26) rfl (fun K hK => ?_) AllReady.nil
              refine step_run_app rfl _ _ _ rfl _ _ _ _ rfl rfl HRUN.out ?_
              refine hK _ _ ?_
              clear hK K
              refine wpAny_take (i := 8) (v := ?vvf6) rfl (by kernel_rfl) (by kernel_rfl) (by kernel_rfl) (fun _ _ _ h => h) (Or.inl ⟨by rfl, ?hyf6⟩) ?restf6
              case hyf6 => (intro w; go_simp <;> with_reducible rfl)
              refine wpAny_ready (rs := [9]) (by kernel_rfl) (by simp) ?_
              refine AllReady.cons (o := o094b4_27) rfl (fun K hK => ?_) AllReady.nil
              go_simp
              refine hK _ _ ?_
              clear hK K
              refine wpAny_done (by kernel_rfl) ?_ _
            rotate_left 1
            focus
              go_simp
              refine hK _ _ ?_
              clear hK K
              refine wpAny_ready (rs := [1]) (by kernel_rfl) (by simp) ?_
              refine AllReady.cons (o := o094b4_23) rfl (fun K hK => ?_) AllReady.nil
              go_simp
              refine hK _ _ ?_
              clear hK K
              refine wpAny_ready (rs := [7]) (by kernel_rfl) (by simp) ?_
              refine AllReady.cons (o := o094b4_26) rfl (fun K hK => ?_) AllReady.nil
              refine step_run_app rfl _ _ _ rfl _ _ _ _ rfl rfl HRUN.out ?_
              refine hK _ _ ?_
              clear hK K
              refine wpAny_take (i := 8) (v := ?vvf7) rfl (by kernel_rfl) (by kernel_rfl) (by kernel_rfl) (fun _ _ _ h => h) (Or.inl ⟨by rfl, ?hyf7⟩) ?restf7
              case hyf7 => (intro w; go_simp <;> with_reducible rfl)
              refine wpAny_ready (rs := [9]) (by kernel_rfl) (by simp) ?_
              refine AllReady.cons (o := o094b4_27) rfl (fun K hK => ?_) AllReady.nil
              go_simp
              refine hK _ _ ?_
              clear hK K
              refine wpAny_done (by kernel_rfl) ?_ _
            rotate_left 1
          rotate_left 2
          all_goals
            go_wp2_with fail
            go_roundw
            case rel => exact ⟨i + 1, _, _, by omega, by simp, by rw [HK1.out, HG1.out, ← HCD.out]; exact Lib.hid HE.out.2.1, Lib.hid (HE.out.2.2 _ _ _ (by decide) (by omega) S1.key), Lib.hid (HE.out.2.2 _ _ _ (by decide) (by omega) S1.ans)⟩
            case measure => simp [intOf]; omega
    · have hin : i = n := by omega
      subst hin
      rw [← HZ.out.1, ← HZ.out.2] at HT
      clear HZ HKs HGs HKl HGl HH HN HY
      by_cases hnil : hitL ⟨p, false, r⟩ l = []
      · have HTI : Hid (takeIn ⟨p, false, r⟩ l = roIll 6) := Lib.hid (by rw [takeIn, if_pos hnil])
        rw [hnil] at HT
        have HT6 : Tw3 6 w wr (w.heap.size + 2) y t (leaveL ⟨p, false, r⟩ l) [] := HT.out
        clear hnil HT
        have hcO := HT6.out.cell
        have XR := HR.out
        have HBR := HT6.bel
        clear HR HT6
        go_wp2_with (go_at_call 70; refine (HIll.out _ _).mono ?_; rintro x w1 ⟨rfl, hb1⟩; have X1 := XR.kept hb1; have HB1 := HBR.trans (hb1.mono HBR.size); have hc := X1.cell; have hf := X1.frozen; clear hb1 hcO)
        have HY := Lib.hid (fill3 X1 HB1 (Nat.le_succ _) (.slice none 0 0) (.slice none 0 0) (.int .i64 6))
        generalize (((w1.setCell ⟨w.heap.size + 1, 0, none⟩ (.slice none 0 0)).setCell ⟨w.heap.size + 1, 1, none⟩ (.slice none 0 0)).setCell ⟨w.heap.size + 1, 2, none⟩ (.int .i64 6)) = w2 at *
        have hc2 := HY.out.1.cell
        refine bodyPost_ret (v := roV (.slice none 0 0) (.slice none 0 0) 6) (by simp [results, Try.results77, go_sem, roV, hc2]) rfl ?_
        exact RoPost.ill HTI.out rfl HY.out.2
      · have HTI : Hid (takeIn ⟨p, false, r⟩ l = ⟨leaveL ⟨p, false, r⟩ l, (hitL ⟨p, false, r⟩ l).map Hd.r, 0⟩) := Lib.hid (by rw [takeIn, if_neg hnil])
        have h0 : codeL ((hitL ⟨p, false, r⟩ l).map Hd.r) = 0 := by
          match he : hitL ⟨p, false, r⟩ l with
          | [] => exact absurd he hnil
          | _ :: _ => rfl
        rw [h0] at HT
        clear h0 hnil
        generalize takeIn ⟨p, false, r⟩ l = S at *
        generalize leaveL ⟨p, false, r⟩ l = K at *
        generalize (hitL ⟨p, false, r⟩ l).map Hd.r = G at *
        obtain ⟨ya, yc, rfl⟩ := rown_form HT.out.row
        obtain ⟨ta, tc, rfl⟩ := rown_form HT.out.rot
        have hcO := HT.out.out.cell
        have hc := HR.out.cell
        have hf := HR.out.frozen
        go_wp2_with fail
        have HY := Lib.hid (fill3 HR.out HT.out.bel (Nat.le_succ _) (.slice ya K.length yc) (.slice ta G.length tc) (.int .i64 0))
        have HO2 := Lib.hid (own_far3 HT.out.row (own_ne HR.out HT.out.row (by decide)) (.slice ya K.length yc) (.slice ta G.length tc) (.int .i64 0))
        have HO3 := Lib.hid (own_far3 HT.out.rot (own_ne HR.out HT.out.rot (by decide)) (.slice ya K.length yc) (.slice ta G.length tc) (.int .i64 0))
        generalize (((wr.setCell ⟨w.heap.size + 1, 0, none⟩ (.slice ya K.length yc)).setCell ⟨w.heap.size + 1, 1, none⟩ (.slice ta G.length tc)).setCell ⟨w.heap.size + 1, 2, none⟩ (.int .i64 0)) = w2 at *
        have hc2 := HY.out.1.cell
        refine bodyPost_ret (v := roV (.slice ya K.length yc) (.slice ta G.length tc) 0) (by simp [results, Try.results77, go_sem, roV, hc2]) rfl ?_
        rw [HTI.out]
        exact RoPost.good (r := ⟨K, G, 0⟩) rfl (rown_mono (B' := w.heap.size) HO2.out (by omega)) (rown_mono (B' := w.heap.size) HO3.out (by omega)) (apart_types HO2.out HO3.out) HY.out.2
end Go.Proofs.Ytmkoppbbenombaa
