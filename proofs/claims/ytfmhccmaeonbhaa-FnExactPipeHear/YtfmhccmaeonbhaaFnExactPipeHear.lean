/- For every input, the law FnExactPipeHear of this seat returns true and leaves its arguments as they were. Conditions: none beyond those of the row itself. -/
import Derived.Test.YtfmhccmaeonbhaaRows
import Derived.Test.YtfmhccmaeonbhaaHrW
import Derived.Test.YtfmhccmaeonbhaaLwN
import Derived.ChangeOld
import Derived.Below
import Derived.Carry
import Derived.WalkKit
import Derived.ProofKit
import Derived.OpenShut
import Derived.ShutString
namespace Go.Proofs.Ytfmhccmaeonbhaa.fnExactPipeHear
open Go.ChangeShapes Go.WideShapes Go.ChangeAt Go.RowKit
set_option linter.unusedVariables false

theorem own : ownKnob Try.prog.godebug = none := by kernel_rfl
theorem laidOut : laidOutB Try.prog = true := by kernel_rfl

theorem start2 (w : World) (t1 : TypeId) (c1 : Array Value) (t2 : TypeId) (c2 : Array Value) : LawAt w [(w.heap.size + 1, t2, c2), (w.heap.size, t1, c1)] [] ((w.alloc (.cells c1 t1)).alloc (.cells c2 t2)) := by
  have := ((LawAt.start w).new t1 c1).new t2 c2
  rw [World.size_alloc] at this
  exact this
set_option maxRecDepth 100000 in
set_option maxHeartbeats 4000000 in
set_option maxRecDepth 100000 in
theorem walk {H : Type} {enc : TypeId × Value → H} (v0 v1 : Value) (d0 d1 : DataW H) (p0 p1 : List MemPlace) (base : Nat) (W : World) (o0 : Value.okWide Try.prog W .any base 38 v0) (o1 : Value.okWide Try.prog W .any base 23 v1) (h0 : DataW.Trod enc Try.prog W 0 (fun _ => true) true 38 v0 d0 p0) (h1 : DataW.Trod enc Try.prog W 0 (fun _ => true) true 23 v1 d1 p1) :
    Calls Try.prog 9 #[v0, v1] W fun e w' => e = .returned (.bool true) ∧ Below W.heap.size W w' := by
  obtain ⟨e, p, b, i, u, l, rfl, hu, hul⟩ := pipe_open o0 h0
  have HZ := Lib.hid (fun (W' : World) (hb : Below W.heap.size W W') => szPipe_any e p b i u l 1048576 W' (hu.kept hb) hul (by omega) (by omega))
  have HT0 := Lib.hid (fun (hn : l.length ≤ 1048576) (W' : World) (hb : Below W.heap.size W W') => toPipe_any e p b i u l W' (hu.kept hb) hn)
  obtain ⟨me, mc, mn, ma, mt, rfl, hxt⟩ := packet_open o1 h1
  clear o0 h0 o1 h1
  have hsm := hearR_small e p b i l me mc mn ma mt
  have HZX := Lib.hid (fun (L : Int) (h0 : 0 ≤ L) (h1 : L ≤ 1048576) (W' : World) => szPacket_any me mc mn ma L mt W' hxt h0 h1)
  have HTX := Lib.hid (toPacket_any me mc mn ma mt)
  clear hxt
  have HS := Lib.hid (fun (v : Value) (W' : World) (h : StsAt W' v l) => specPipeHear_any e p b i v l me mc mn ma mt W' h)
  have HI := Lib.hid (fun (v : Value) (W' : World) (h : StsAt W' v l) => implPipeHear_any e p b i v l me mc mn ma mt W' h)
  generalize hearR e p b i l me mc mn ma mt = r at HS HI hsm
  have hbig : r.l.length + r.m.length ≤ 100 := hsm
  clear hsm
  have HQ := Lib.hid (fun (v v' t t' : Value) (W' : World) (h : StsAt W' v r.l) (h' : StsAt W' v' r.l) (k : StsAt W' t r.m) (k' : StsAt W' t' r.m) => eqPipeOut_same r.e r.p r.b r.i v v' t t' r.f r.c r.l r.m W' h h' k k')
  have HM := Lib.hid (fun (B : Nat) (v t : Value) (W' : World) (hB : B ≤ W'.heap.size) (h : W'.ownsRow B 9 1 v r.l.length (strsV r.l)) (h' : W'.ownsRow B 9 1 t r.m.length (strsV r.m)) (ha : v.ownBlock = none ∨ v.ownBlock ≠ t.ownBlock) => markPipeOut_any B r.e r.p r.b r.i v t r.f r.c 1 r.l.length r.m.length _ _ W' hB h h' ha (apart_symm ha) (by omega) (by omega))
  have HD := Lib.hid (fun (v t : Value) (W' : World) (h : StsAt W' v (marks 1 r.l.length)) (h' : StsAt W' t (marks (1 + r.l.length) r.m.length)) => heldPipeOut_any r.e r.p r.b r.i v t r.f r.c 1 r.l.length r.m.length W' h h' (by omega) (by omega))
  obtain ⟨K, hK⟩ : ∃ K : Int, K = ((1 + r.l.length + r.m.length : Nat) : Int) := ⟨_, rfl⟩
  have hK0 : ¬ K < 0 := by omega
  have HK := Lib.hid hK
  clear hK
  have HE := Lib.hid (fun (v v' : Value) (W' : World) (h : StsAt W' v l) (h' : StsAt W' v' l) => eqPipe_same e p b i v v' l W' h h')
  have HX := Lib.hid (fun (hn : l.length ≤ 1048576) (B : Nat) (v : Value) (W' : World) (h : W'.ownsRow B 9 1 v l.length (strsV l)) => markPipe_any B e p b i v 1 l.length _ W' h (by omega) (by omega))
  obtain ⟨ua, uc, rfl⟩ := hu.form
  clear hu hul
  unfold ppV poV pkV at *
  go_enter Try.func9, Try.ntmps9
  go_wp2_with fail
  refine (HZ.out _ (bel2 _ _ _)).mono ?_
  rintro x w0 ⟨y, rfl, hy, hy1, hb0⟩
  have A : LawAt W [(W.heap.size + 1, 23, #[.int .i64 me, .int .i64 mc, .int .i64 mn, .int .i64 ma, .string mt]), (W.heap.size, 38, #[.int .i64 e, .int .i64 p, .int .i64 b, .int .i64 i, .slice ua l.length uc])] [] w0 := (start2 W _ _ _ _).kept hb0
  have HY := Lib.hid hy
  clear hb0 hy HZ
  by_cases hy0 : y < 0
  · have HB := Lib.hid A.bel
    clear A
    go_wp2_with fail
    go_ret
    exact ⟨rfl, HB.out⟩
  have hc := A.b0.cell
  go_wp2_with fail
  refine (HZX.out y (by omega) hy1 _).mono ?_
  rintro x w00 ⟨z, rfl, hz, hb0⟩
  replace A := A.kept hb0
  clear hb0 hz hc HZX
  by_cases hz0 : z < 0
  · have HB := Lib.hid A.bel
    clear A
    go_wp2_with fail
    go_ret
    exact ⟨rfl, HB.out⟩
  have HT := Lib.hid (HT0.out (HY.out (by omega)).1)
  replace HX := Lib.hid (HX.out (HY.out (by omega)).1)
  clear HT0 HY
  go_upto_region 8 with fail
  go_cut [6] from 13 (fun s6 wx => ∃ qw wa wq ta tc, s6 = .pointer (some ⟨qw, 0, none⟩) ∧ Hid (LawAt W [(qw, 33, #[.int .i64 r.e, .int .i64 r.p, .int .i64 r.b, .int .i64 r.i, .slice wa r.l.length wq, .slice ta r.m.length tc, .bool r.f, .int .i64 r.c]), (W.heap.size + 1, 23, #[.int .i64 me, .int .i64 mc, .int .i64 mn, .int .i64 ma, .string mt]), (W.heap.size, 38, #[.int .i64 e, .int .i64 p, .int .i64 b, .int .i64 i, .slice ua l.length uc])] [(W.heap.size, .slice ta r.m.length tc, r.m), (W.heap.size, .slice wa r.l.length wq, r.l)] wx))
  case first =>
    replace A := A.drew
    refine wp_region_held_drew (S := fun W' => LawAt W _ _ W') (by kernel_rfl) A (fun hHeld => ?_)
    clear hHeld
    generalize w00.drew = Wd at A ⊢
    refine wpAnyH_take (i := 0) (oi := { dst := some 23, op := Op.load 38 (Operand.tmp 2), type := 38, pos := "exact.go:3395", after := #[], guard := none }) (v := ?vvs1) rfl (by kernel_rfl) (by kernel_rfl) (by kernel_rfl) (fun _ _ _ h => h) (Or.inl ⟨by rfl, ?hys1⟩) A ?rests1
    case hys1 => (intro w hSw; have hc1 := hSw.b0.cell; have hc2 := hSw.b1.cell;go_simp <;> with_reducible rfl)
    try simp only [Act.put, List.setIfInBounds_toArray, List.set_cons_zero, List.set_cons_succ]
    refine wpAnyH_take (i := 2) (oi := { dst := some 25, op := Op.load 23 (Operand.tmp 3), type := 23, pos := "exact.go:3395", after := #[], guard := none }) (v := ?vvs2) rfl (by kernel_rfl) (by kernel_rfl) (by kernel_rfl) (fun _ _ _ h => h) (Or.inl ⟨by rfl, ?hys2⟩) A ?rests2
    case hys2 => (intro w hSw; have hc1 := hSw.b0.cell; have hc2 := hSw.b1.cell;go_simp <;> with_reducible rfl)
    try simp only [Act.put, List.setIfInBounds_toArray, List.set_cons_zero, List.set_cons_succ]
    refine wpAnyH_ready (rs := [1, 5]) (by kernel_rfl) (by simp) ?_
    refine (AllReadyH.cons (o := { dst := some 24, op := Op.call { callee := Callee.value (Operand.func 25), args := #[Operand.tmp 23], argTypes := #[38] }, type := 31, pos := "exact.go:3395", after := #[{ on := 0, ground := Ground.data }], guard := none }) rfl (fun K hK => ?_) (AllReadyH.cons (o := { dst := some 6, op := Op.alloc 33, type := 0, pos := "exact.go:3395", after := #[], guard := none }) rfl (fun K hK => ?_) AllReadyH.nil))
    focus
      go_simp
      refine (HT.out _ A.bel).mono ?_
      rintro x w10 ⟨v1, rfl, ho1, hbN⟩
      obtain ⟨a1, c1, rfl⟩ := own_form ho1
      replace A := A.kept hbN
      try replace N := N.kept hbN
      try replace hcN := N.cell
      try replace hfN := N.frozen
      clear hbN
      unfold ppV
      refine hK.out _ _ A (fun hHeld => ?_)
      clear hK K hHeld
      try simp only [Act.put, List.setIfInBounds_toArray, List.set_cons_zero, List.set_cons_succ]
      refine wpAnyH_ready (rs := [3, 5]) (by kernel_rfl) (by simp) ?_
      refine (AllReadyH.cons (o := { dst := some 26, op := Op.call { callee := Callee.value (Operand.func 16), args := #[Operand.tmp 25], argTypes := #[23] }, type := 26, pos := "exact.go:3395", after := #[{ on := 2, ground := Ground.data }, { on := 1, ground := Ground.chain }], guard := none }) rfl (fun K hK => ?_) (AllReadyH.cons (o := { dst := some 6, op := Op.alloc 33, type := 0, pos := "exact.go:3395", after := #[], guard := none }) rfl (fun K hK => ?_) AllReadyH.nil))
      focus
        go_simp
        refine (HTX.out _).mono ?_
        rintro x w11 ⟨rfl, hbN⟩
        replace A := A.kept hbN
        replace ho1 := own_below ho1 hbN
        try replace N := N.kept hbN
        try replace hcN := N.cell
        try replace hfN := N.frozen
        clear hbN
        refine hK.out _ _ A (fun hHeld => ?_)
        clear hK K hHeld
        try simp only [Act.put, List.setIfInBounds_toArray, List.set_cons_zero, List.set_cons_succ]
        refine wpAnyH_ready (rs := [4, 5]) (by kernel_rfl) (by simp) ?_
        refine (AllReadyH.cons (o := { dst := some 27, op := Op.call { callee := Callee.value (Operand.func 35), args := #[Operand.tmp 24, Operand.tmp 26], argTypes := #[31, 26] }, type := 33, pos := "exact.go:3395", after := #[{ on := 1, ground := Ground.data }, { on := 3, ground := Ground.data }, { on := 3, ground := Ground.chain }], guard := none }) rfl (fun K hK => ?_) (AllReadyH.cons (o := { dst := some 6, op := Op.alloc 33, type := 0, pos := "exact.go:3395", after := #[], guard := none }) rfl (fun K hK => ?_) AllReadyH.nil))
        focus
          go_simp
          refine (HS.out _ _ (StsAt.of_own ho1)).mono ?_
          rintro x w2 ⟨wv, wt, rfl, ho, ht, apw, hbN⟩
          obtain ⟨wa, wq, rfl⟩ := own_form ho
          obtain ⟨ta, tc, rfl⟩ := own_form ht
          replace ho := own_mono (B' := W.heap.size) ho A.bel.size
          replace ht := own_mono (B' := W.heap.size) ht A.bel.size
          replace A := A.kept hbN
          try replace N := N.kept hbN
          try replace hcN := N.cell
          try replace hfN := N.frozen
          clear hbN
          clear apw ho1
          unfold poV
          refine hK.out _ _ A (fun hHeld => ?_)
          clear hK K hHeld
          try simp only [Act.put, List.setIfInBounds_toArray, List.set_cons_zero, List.set_cons_succ]
          refine wpAnyH_ready (rs := [5]) (by kernel_rfl) (by simp) ?_
          refine AllReadyH.cons (o := { dst := some 6, op := Op.alloc 33, type := 0, pos := "exact.go:3395", after := #[], guard := none }) rfl (fun K hK => ?_) AllReadyH.nil
          go_simp
          obtain ⟨Wn, hWn, An, q6, hq6, N, hq1, hq2⟩ := A.pack #[.int .i64 0, .int .i64 0, .int .i64 0, .int .i64 0, .slice none 0 0, .slice none 0 0, .bool false, .int .i64 0] 33
          rw [hWn, hq6]
          clear A
          have A := An
          clear An
          have hcN := N.cell
          have hfN := N.frozen
          try replace ho1 := ho1.alloc (.cells #[.int .i64 0, .int .i64 0, .int .i64 0, .int .i64 0, .slice none 0 0, .slice none 0 0, .bool false, .int .i64 0] 33)
          try rw [hWn] at ho1
          try replace ho := ho.alloc (.cells #[.int .i64 0, .int .i64 0, .int .i64 0, .int .i64 0, .slice none 0 0, .slice none 0 0, .bool false, .int .i64 0] 33)
          try rw [hWn] at ho
          try replace ht := ht.alloc (.cells #[.int .i64 0, .int .i64 0, .int .i64 0, .int .i64 0, .slice none 0 0, .slice none 0 0, .bool false, .int .i64 0] 33)
          try rw [hWn] at ht
          clear hWn hq6
          refine hK.out _ _ A (fun hHeld => ?_)
          clear hK K hHeld
          try simp only [Act.put, List.setIfInBounds_toArray, List.set_cons_zero, List.set_cons_succ]
          refine wpAnyH_ready (rs := [6]) (by kernel_rfl) (by simp) ?_
          refine AllReadyH.cons (o := { dst := none, op := Op.store 33 (Operand.tmp 6) (Operand.tmp 27), type := 0, pos := "exact.go:3395", after := #[{ on := 5, ground := Ground.data }, { on := 4, ground := Ground.data }, { on := 4, ground := Ground.chain }, { on := 0, ground := Ground.phase }, { on := 1, ground := Ground.phase }, { on := 2, ground := Ground.phase }, { on := 3, ground := Ground.phase }, { on := 4, ground := Ground.phase }, { on := 5, ground := Ground.phase }], guard := none }) rfl (fun K hK => ?_) AllReadyH.nil
          go_simp
          have AF := (((A.own ho).own ht).fin8 N hq1 hq2 (.int .i64 r.e) (.int .i64 r.p) (.int .i64 r.b) (.int .i64 r.i) (.slice wa r.l.length wq) (.slice ta r.m.length tc) (.bool r.f) (.int .i64 r.c))
          replace A := AF.sub (fun q hq => .tail _ hq) (fun q hq => .tail _ (.tail _ hq))
          refine hK.out _ _ A (fun hHeld => ?_)
          clear hK K hHeld
          try simp only [Act.put, List.setIfInBounds_toArray, List.set_cons_zero, List.set_cons_succ]
          refine wpAnyH_done (by kernel_rfl) ?_ _
        rotate_left 1
        focus
          go_simp
          obtain ⟨Wn, hWn, An, q6, hq6, N, hq1, hq2⟩ := A.pack #[.int .i64 0, .int .i64 0, .int .i64 0, .int .i64 0, .slice none 0 0, .slice none 0 0, .bool false, .int .i64 0] 33
          rw [hWn, hq6]
          clear A
          have A := An
          clear An
          have hcN := N.cell
          have hfN := N.frozen
          try replace ho1 := ho1.alloc (.cells #[.int .i64 0, .int .i64 0, .int .i64 0, .int .i64 0, .slice none 0 0, .slice none 0 0, .bool false, .int .i64 0] 33)
          try rw [hWn] at ho1
          try replace ho := ho.alloc (.cells #[.int .i64 0, .int .i64 0, .int .i64 0, .int .i64 0, .slice none 0 0, .slice none 0 0, .bool false, .int .i64 0] 33)
          try rw [hWn] at ho
          try replace ht := ht.alloc (.cells #[.int .i64 0, .int .i64 0, .int .i64 0, .int .i64 0, .slice none 0 0, .slice none 0 0, .bool false, .int .i64 0] 33)
          try rw [hWn] at ht
          clear hWn hq6
          refine hK.out _ _ A (fun hHeld => ?_)
          clear hK K hHeld
          try simp only [Act.put, List.setIfInBounds_toArray, List.set_cons_zero, List.set_cons_succ]
          refine wpAnyH_ready (rs := [4]) (by kernel_rfl) (by simp) ?_
          refine AllReadyH.cons (o := { dst := some 27, op := Op.call { callee := Callee.value (Operand.func 35), args := #[Operand.tmp 24, Operand.tmp 26], argTypes := #[31, 26] }, type := 33, pos := "exact.go:3395", after := #[{ on := 1, ground := Ground.data }, { on := 3, ground := Ground.data }, { on := 3, ground := Ground.chain }], guard := none }) rfl (fun K hK => ?_) AllReadyH.nil
          go_simp
          refine (HS.out _ _ (StsAt.of_own ho1)).mono ?_
          rintro x w2 ⟨wv, wt, rfl, ho, ht, apw, hbN⟩
          obtain ⟨wa, wq, rfl⟩ := own_form ho
          obtain ⟨ta, tc, rfl⟩ := own_form ht
          replace ho := own_mono (B' := W.heap.size) ho A.bel.size
          replace ht := own_mono (B' := W.heap.size) ht A.bel.size
          replace A := A.kept hbN
          try replace N := N.kept hbN
          try replace hcN := N.cell
          try replace hfN := N.frozen
          clear hbN
          clear apw ho1
          unfold poV
          refine hK.out _ _ A (fun hHeld => ?_)
          clear hK K hHeld
          try simp only [Act.put, List.setIfInBounds_toArray, List.set_cons_zero, List.set_cons_succ]
          refine wpAnyH_ready (rs := [6]) (by kernel_rfl) (by simp) ?_
          refine AllReadyH.cons (o := { dst := none, op := Op.store 33 (Operand.tmp 6) (Operand.tmp 27), type := 0, pos := "exact.go:3395", after := #[{ on := 5, ground := Ground.data }, { on := 4, ground := Ground.data }, { on := 4, ground := Ground.chain }, { on := 0, ground := Ground.phase }, { on := 1, ground := Ground.phase }, { on := 2, ground := Ground.phase }, { on := 3, ground := Ground.phase }, { on := 4, ground := Ground.phase }, { on := 5, ground := Ground.phase }], guard := none }) rfl (fun K hK => ?_) AllReadyH.nil
          go_simp
          have AF := (((A.own ho).own ht).fin8 N hq1 hq2 (.int .i64 r.e) (.int .i64 r.p) (.int .i64 r.b) (.int .i64 r.i) (.slice wa r.l.length wq) (.slice ta r.m.length tc) (.bool r.f) (.int .i64 r.c))
          replace A := AF.sub (fun q hq => .tail _ hq) (fun q hq => .tail _ (.tail _ hq))
          refine hK.out _ _ A (fun hHeld => ?_)
          clear hK K hHeld
          try simp only [Act.put, List.setIfInBounds_toArray, List.set_cons_zero, List.set_cons_succ]
          refine wpAnyH_done (by kernel_rfl) ?_ _
        rotate_left 1
      rotate_left 2
      focus
        go_simp
        obtain ⟨Wn, hWn, An, q6, hq6, N, hq1, hq2⟩ := A.pack #[.int .i64 0, .int .i64 0, .int .i64 0, .int .i64 0, .slice none 0 0, .slice none 0 0, .bool false, .int .i64 0] 33
        rw [hWn, hq6]
        clear A
        have A := An
        clear An
        have hcN := N.cell
        have hfN := N.frozen
        try replace ho1 := ho1.alloc (.cells #[.int .i64 0, .int .i64 0, .int .i64 0, .int .i64 0, .slice none 0 0, .slice none 0 0, .bool false, .int .i64 0] 33)
        try rw [hWn] at ho1
        try replace ho := ho.alloc (.cells #[.int .i64 0, .int .i64 0, .int .i64 0, .int .i64 0, .slice none 0 0, .slice none 0 0, .bool false, .int .i64 0] 33)
        try rw [hWn] at ho
        try replace ht := ht.alloc (.cells #[.int .i64 0, .int .i64 0, .int .i64 0, .int .i64 0, .slice none 0 0, .slice none 0 0, .bool false, .int .i64 0] 33)
        try rw [hWn] at ht
        clear hWn hq6
        refine hK.out _ _ A (fun hHeld => ?_)
        clear hK K hHeld
        try simp only [Act.put, List.setIfInBounds_toArray, List.set_cons_zero, List.set_cons_succ]
        refine wpAnyH_ready (rs := [3]) (by kernel_rfl) (by simp) ?_
        refine AllReadyH.cons (o := { dst := some 26, op := Op.call { callee := Callee.value (Operand.func 16), args := #[Operand.tmp 25], argTypes := #[23] }, type := 26, pos := "exact.go:3395", after := #[{ on := 2, ground := Ground.data }, { on := 1, ground := Ground.chain }], guard := none }) rfl (fun K hK => ?_) AllReadyH.nil
        go_simp
        refine (HTX.out _).mono ?_
        rintro x w11 ⟨rfl, hbN⟩
        replace A := A.kept hbN
        replace ho1 := own_below ho1 hbN
        try replace N := N.kept hbN
        try replace hcN := N.cell
        try replace hfN := N.frozen
        clear hbN
        refine hK.out _ _ A (fun hHeld => ?_)
        clear hK K hHeld
        try simp only [Act.put, List.setIfInBounds_toArray, List.set_cons_zero, List.set_cons_succ]
        refine wpAnyH_ready (rs := [4]) (by kernel_rfl) (by simp) ?_
        refine AllReadyH.cons (o := { dst := some 27, op := Op.call { callee := Callee.value (Operand.func 35), args := #[Operand.tmp 24, Operand.tmp 26], argTypes := #[31, 26] }, type := 33, pos := "exact.go:3395", after := #[{ on := 1, ground := Ground.data }, { on := 3, ground := Ground.data }, { on := 3, ground := Ground.chain }], guard := none }) rfl (fun K hK => ?_) AllReadyH.nil
        go_simp
        refine (HS.out _ _ (StsAt.of_own ho1)).mono ?_
        rintro x w2 ⟨wv, wt, rfl, ho, ht, apw, hbN⟩
        obtain ⟨wa, wq, rfl⟩ := own_form ho
        obtain ⟨ta, tc, rfl⟩ := own_form ht
        replace ho := own_mono (B' := W.heap.size) ho A.bel.size
        replace ht := own_mono (B' := W.heap.size) ht A.bel.size
        replace A := A.kept hbN
        try replace N := N.kept hbN
        try replace hcN := N.cell
        try replace hfN := N.frozen
        clear hbN
        clear apw ho1
        unfold poV
        refine hK.out _ _ A (fun hHeld => ?_)
        clear hK K hHeld
        try simp only [Act.put, List.setIfInBounds_toArray, List.set_cons_zero, List.set_cons_succ]
        refine wpAnyH_ready (rs := [6]) (by kernel_rfl) (by simp) ?_
        refine AllReadyH.cons (o := { dst := none, op := Op.store 33 (Operand.tmp 6) (Operand.tmp 27), type := 0, pos := "exact.go:3395", after := #[{ on := 5, ground := Ground.data }, { on := 4, ground := Ground.data }, { on := 4, ground := Ground.chain }, { on := 0, ground := Ground.phase }, { on := 1, ground := Ground.phase }, { on := 2, ground := Ground.phase }, { on := 3, ground := Ground.phase }, { on := 4, ground := Ground.phase }, { on := 5, ground := Ground.phase }], guard := none }) rfl (fun K hK => ?_) AllReadyH.nil
        go_simp
        have AF := (((A.own ho).own ht).fin8 N hq1 hq2 (.int .i64 r.e) (.int .i64 r.p) (.int .i64 r.b) (.int .i64 r.i) (.slice wa r.l.length wq) (.slice ta r.m.length tc) (.bool r.f) (.int .i64 r.c))
        replace A := AF.sub (fun q hq => .tail _ hq) (fun q hq => .tail _ (.tail _ hq))
        refine hK.out _ _ A (fun hHeld => ?_)
        clear hK K hHeld
        try simp only [Act.put, List.setIfInBounds_toArray, List.set_cons_zero, List.set_cons_succ]
        refine wpAnyH_done (by kernel_rfl) ?_ _
      rotate_left 1
    rotate_left 3
    focus
      go_simp
      obtain ⟨Wn, hWn, An, q6, hq6, N, hq1, hq2⟩ := A.pack #[.int .i64 0, .int .i64 0, .int .i64 0, .int .i64 0, .slice none 0 0, .slice none 0 0, .bool false, .int .i64 0] 33
      rw [hWn, hq6]
      clear A
      have A := An
      clear An
      have hcN := N.cell
      have hfN := N.frozen
      try replace ho1 := ho1.alloc (.cells #[.int .i64 0, .int .i64 0, .int .i64 0, .int .i64 0, .slice none 0 0, .slice none 0 0, .bool false, .int .i64 0] 33)
      try rw [hWn] at ho1
      try replace ho := ho.alloc (.cells #[.int .i64 0, .int .i64 0, .int .i64 0, .int .i64 0, .slice none 0 0, .slice none 0 0, .bool false, .int .i64 0] 33)
      try rw [hWn] at ho
      try replace ht := ht.alloc (.cells #[.int .i64 0, .int .i64 0, .int .i64 0, .int .i64 0, .slice none 0 0, .slice none 0 0, .bool false, .int .i64 0] 33)
      try rw [hWn] at ht
      clear hWn hq6
      refine hK.out _ _ A (fun hHeld => ?_)
      clear hK K hHeld
      try simp only [Act.put, List.setIfInBounds_toArray, List.set_cons_zero, List.set_cons_succ]
      refine wpAnyH_ready (rs := [1]) (by kernel_rfl) (by simp) ?_
      refine AllReadyH.cons (o := { dst := some 24, op := Op.call { callee := Callee.value (Operand.func 25), args := #[Operand.tmp 23], argTypes := #[38] }, type := 31, pos := "exact.go:3395", after := #[{ on := 0, ground := Ground.data }], guard := none }) rfl (fun K hK => ?_) AllReadyH.nil
      go_simp
      refine (HT.out _ A.bel).mono ?_
      rintro x w10 ⟨v1, rfl, ho1, hbN⟩
      obtain ⟨a1, c1, rfl⟩ := own_form ho1
      replace A := A.kept hbN
      try replace N := N.kept hbN
      try replace hcN := N.cell
      try replace hfN := N.frozen
      clear hbN
      unfold ppV
      refine hK.out _ _ A (fun hHeld => ?_)
      clear hK K hHeld
      try simp only [Act.put, List.setIfInBounds_toArray, List.set_cons_zero, List.set_cons_succ]
      refine wpAnyH_ready (rs := [3]) (by kernel_rfl) (by simp) ?_
      refine AllReadyH.cons (o := { dst := some 26, op := Op.call { callee := Callee.value (Operand.func 16), args := #[Operand.tmp 25], argTypes := #[23] }, type := 26, pos := "exact.go:3395", after := #[{ on := 2, ground := Ground.data }, { on := 1, ground := Ground.chain }], guard := none }) rfl (fun K hK => ?_) AllReadyH.nil
      go_simp
      refine (HTX.out _).mono ?_
      rintro x w11 ⟨rfl, hbN⟩
      replace A := A.kept hbN
      replace ho1 := own_below ho1 hbN
      try replace N := N.kept hbN
      try replace hcN := N.cell
      try replace hfN := N.frozen
      clear hbN
      refine hK.out _ _ A (fun hHeld => ?_)
      clear hK K hHeld
      try simp only [Act.put, List.setIfInBounds_toArray, List.set_cons_zero, List.set_cons_succ]
      refine wpAnyH_ready (rs := [4]) (by kernel_rfl) (by simp) ?_
      refine AllReadyH.cons (o := { dst := some 27, op := Op.call { callee := Callee.value (Operand.func 35), args := #[Operand.tmp 24, Operand.tmp 26], argTypes := #[31, 26] }, type := 33, pos := "exact.go:3395", after := #[{ on := 1, ground := Ground.data }, { on := 3, ground := Ground.data }, { on := 3, ground := Ground.chain }], guard := none }) rfl (fun K hK => ?_) AllReadyH.nil
      go_simp
      refine (HS.out _ _ (StsAt.of_own ho1)).mono ?_
      rintro x w2 ⟨wv, wt, rfl, ho, ht, apw, hbN⟩
      obtain ⟨wa, wq, rfl⟩ := own_form ho
      obtain ⟨ta, tc, rfl⟩ := own_form ht
      replace ho := own_mono (B' := W.heap.size) ho A.bel.size
      replace ht := own_mono (B' := W.heap.size) ht A.bel.size
      replace A := A.kept hbN
      try replace N := N.kept hbN
      try replace hcN := N.cell
      try replace hfN := N.frozen
      clear hbN
      clear apw ho1
      unfold poV
      refine hK.out _ _ A (fun hHeld => ?_)
      clear hK K hHeld
      try simp only [Act.put, List.setIfInBounds_toArray, List.set_cons_zero, List.set_cons_succ]
      refine wpAnyH_ready (rs := [6]) (by kernel_rfl) (by simp) ?_
      refine AllReadyH.cons (o := { dst := none, op := Op.store 33 (Operand.tmp 6) (Operand.tmp 27), type := 0, pos := "exact.go:3395", after := #[{ on := 5, ground := Ground.data }, { on := 4, ground := Ground.data }, { on := 4, ground := Ground.chain }, { on := 0, ground := Ground.phase }, { on := 1, ground := Ground.phase }, { on := 2, ground := Ground.phase }, { on := 3, ground := Ground.phase }, { on := 4, ground := Ground.phase }, { on := 5, ground := Ground.phase }], guard := none }) rfl (fun K hK => ?_) AllReadyH.nil
      go_simp
      have AF := (((A.own ho).own ht).fin8 N hq1 hq2 (.int .i64 r.e) (.int .i64 r.p) (.int .i64 r.b) (.int .i64 r.i) (.slice wa r.l.length wq) (.slice ta r.m.length tc) (.bool r.f) (.int .i64 r.c))
      replace A := AF.sub (fun q hq => .tail _ hq) (fun q hq => .tail _ (.tail _ hq))
      refine hK.out _ _ A (fun hHeld => ?_)
      clear hK K hHeld
      try simp only [Act.put, List.setIfInBounds_toArray, List.set_cons_zero, List.set_cons_succ]
      refine wpAnyH_done (by kernel_rfl) ?_ _
    rotate_left 1
    all_goals
      go_wp2_with fail
      go_meet
      exact ⟨_, _, _, _, _, rfl, Lib.hid AF⟩
  case rest =>
  obtain ⟨qw, wa, wq, ta, tc, rfl, hA⟩ := hcut
  clear A
  have A := hA.out
  clear hA
  have hsz2 := A.bel.size
  have hc := A.b2.cell
  go_wp2_with fail
  refine (HT.out _ A.bel).mono ?_
  rintro x w3 ⟨v3, rfl, ho3, hb3⟩
  have AP1 := own_apart A.r0 ho3 (Nat.le_refl _)
  have AP2 := own_apart A.r1 ho3 (Nat.le_refl _)
  replace AP1 := Lib.hid AP1
  replace AP2 := Lib.hid AP2
  replace A := (A.kept hb3).own (own_mono (B' := W.heap.size) ho3 A.bel.size)
  clear hb3 hc
  have hlx := Lib.hid (fun k hk => Nat.le_trans hsz2 (ho3.lt k hk).1)
  obtain ⟨xa, xc, rfl⟩ := own_form ho3
  clear ho3
  unfold ppV
  go_upto_region 10 with fail
  replace A := A.new 31 #[.int .i64 e, .int .i64 p, .int .i64 b, .int .i64 i, .slice xa l.length xc]
  obtain ⟨W3, hW3⟩ : ∃ X, X = w3.alloc (.cells #[.int .i64 e, .int .i64 p, .int .i64 b, .int .i64 i, .slice xa l.length xc] 31) := ⟨_, rfl⟩
  obtain ⟨qx, hqx⟩ : ∃ q, q = w3.heap.size := ⟨_, rfl⟩
  rw [← hW3, ← hqx]
  rw [← hW3, ← hqx] at A
  clear hW3 hqx
  go_upto_region 10 with fail
  go_cut [8] from 13 (fun s8 wx => ∃ qg Bg ga gc ha hc', s8 = .pointer (some ⟨qg, 0, none⟩) ∧ Hid (LawAt W [(qg, 33, #[.int .i64 r.e, .int .i64 r.p, .int .i64 r.b, .int .i64 r.i, .slice ga r.l.length gc, .slice ha r.m.length hc', .bool r.f, .int .i64 r.c]), (qx, 31, #[.int .i64 e, .int .i64 p, .int .i64 b, .int .i64 i, .slice xa l.length xc]), (qw, 33, #[.int .i64 r.e, .int .i64 r.p, .int .i64 r.b, .int .i64 r.i, .slice wa r.l.length wq, .slice ta r.m.length tc, .bool r.f, .int .i64 r.c]), (W.heap.size + 1, 23, #[.int .i64 me, .int .i64 mc, .int .i64 mn, .int .i64 ma, .string mt]), (W.heap.size, 38, #[.int .i64 e, .int .i64 p, .int .i64 b, .int .i64 i, .slice ua l.length uc])] [(Bg, .slice ha r.m.length hc', r.m), (Bg, .slice ga r.l.length gc, r.l), (W.heap.size, .slice xa l.length xc, l), (W.heap.size, .slice ta r.m.length tc, r.m), (W.heap.size, .slice wa r.l.length wq, r.l)] wx) ∧ Hid ((Value.slice ga r.l.length gc).ownBlock = none ∨ (Value.slice ga r.l.length gc).ownBlock ≠ (Value.slice ha r.m.length hc').ownBlock) ∧ Hid ((Value.slice ga r.l.length gc).ownBlock = none ∨ (Value.slice ga r.l.length gc).ownBlock ≠ (Value.slice xa l.length xc).ownBlock) ∧ Hid ((Value.slice ha r.m.length hc').ownBlock = none ∨ (Value.slice ha r.m.length hc').ownBlock ≠ (Value.slice xa l.length xc).ownBlock) ∧ Hid (∀ q ∈ ([(W.heap.size, .slice xa l.length xc, l), (W.heap.size, .slice ta r.m.length tc, r.m), (W.heap.size, .slice wa r.l.length wq, r.l)] : List (Nat × Value × List ByteArray)), ∀ k, q.2.1.ownBlock = some k → k < Bg) ∧ W.heap.size ≤ Bg ∧ Bg ≤ wx.heap.size)
  case first =>
    replace A := A.drew
    refine wp_region_held_drew (S := fun W' => LawAt W _ _ W') (by kernel_rfl) A (fun hHeld => ?_)
    clear hHeld
    generalize W3.drew = Wd at A ⊢
    refine wpAnyH_take (i := 0) (oi := { dst := some 30, op := Op.load 31 (Operand.tmp 7), type := 31, pos := "exact.go:3397", after := #[], guard := none }) (v := ?vvt1) rfl (by kernel_rfl) (by kernel_rfl) (by kernel_rfl) (fun _ _ _ h => h) (Or.inl ⟨by rfl, ?hyt1⟩) A ?restt1
    case hyt1 => (intro w hSw; have hc1 := hSw.b0.cell; have hc2 := hSw.b2.cell;go_simp <;> with_reducible rfl)
    try simp only [Act.put, List.setIfInBounds_toArray, List.set_cons_zero, List.set_cons_succ]
    refine wpAnyH_take (i := 1) (oi := { dst := some 31, op := Op.load 23 (Operand.tmp 3), type := 23, pos := "exact.go:3397", after := #[], guard := none }) (v := ?vvt2) rfl (by kernel_rfl) (by kernel_rfl) (by kernel_rfl) (fun _ _ _ h => h) (Or.inl ⟨by rfl, ?hyt2⟩) A ?restt2
    case hyt2 => (intro w hSw; have hc1 := hSw.b0.cell; have hc2 := hSw.b2.cell;go_simp <;> with_reducible rfl)
    try simp only [Act.put, List.setIfInBounds_toArray, List.set_cons_zero, List.set_cons_succ]
    refine wpAnyH_ready (rs := [2, 4]) (by kernel_rfl) (by simp) ?_
    refine (AllReadyH.cons (o := { dst := some 32, op := Op.call { callee := Callee.value (Operand.func 16), args := #[Operand.tmp 31], argTypes := #[23] }, type := 26, pos := "exact.go:3397", after := #[{ on := 1, ground := Ground.data }], guard := none }) rfl (fun K hK => ?_) (AllReadyH.cons (o := { dst := some 8, op := Op.alloc 33, type := 0, pos := "exact.go:3397", after := #[], guard := none }) rfl (fun K hK => ?_) AllReadyH.nil))
    focus
      go_simp
      refine (HTX.out _).mono ?_
      rintro x w30 ⟨rfl, hbN⟩
      replace A := A.kept hbN
      try replace N := N.kept hbN
      try replace hcN := N.cell
      try replace hfN := N.frozen
      clear hbN
      refine hK.out _ _ A (fun hHeld => ?_)
      clear hK K hHeld
      try simp only [Act.put, List.setIfInBounds_toArray, List.set_cons_zero, List.set_cons_succ]
      refine wpAnyH_ready (rs := [3, 4]) (by kernel_rfl) (by simp) ?_
      refine (AllReadyH.cons (o := { dst := some 33, op := Op.call { callee := Callee.value (Operand.func 36), args := #[Operand.tmp 30, Operand.tmp 32], argTypes := #[31, 26] }, type := 33, pos := "exact.go:3397", after := #[{ on := 0, ground := Ground.data }, { on := 2, ground := Ground.data }, { on := 2, ground := Ground.chain }], guard := none }) rfl (fun K hK => ?_) (AllReadyH.cons (o := { dst := some 8, op := Op.alloc 33, type := 0, pos := "exact.go:3397", after := #[], guard := none }) rfl (fun K hK => ?_) AllReadyH.nil))
      focus
        go_simp
        refine (HI.out _ _ (StsAt.of_own A.r0)).mono ?_
        rintro x w4 ⟨gv, gt, rfl, ho, ht, apg, hbN⟩
        obtain ⟨Bg, hbg, hLow, hszg⟩ := A.lowB
        have ap3 := own_apart A.r0 ho (Nat.le_refl _)
        have ap4 := own_apart A.r0 ht (Nat.le_refl _)
        have hszB := hbN.size
        rw [hbg] at ho ht hszB
        obtain ⟨ga, gc, rfl⟩ := own_form ho
        obtain ⟨ha, hc', rfl⟩ := own_form ht
        replace A := A.kept hbN
        try replace N := N.kept hbN
        try replace hcN := N.cell
        try replace hfN := N.frozen
        clear hbN
        clear hbg
        unfold poV
        refine hK.out _ _ A (fun hHeld => ?_)
        clear hK K hHeld
        try simp only [Act.put, List.setIfInBounds_toArray, List.set_cons_zero, List.set_cons_succ]
        refine wpAnyH_ready (rs := [4]) (by kernel_rfl) (by simp) ?_
        refine AllReadyH.cons (o := { dst := some 8, op := Op.alloc 33, type := 0, pos := "exact.go:3397", after := #[], guard := none }) rfl (fun K hK => ?_) AllReadyH.nil
        go_simp
        obtain ⟨Wn, hWn, An, q6, hq6, N, hq1, hq2⟩ := A.pack #[.int .i64 0, .int .i64 0, .int .i64 0, .int .i64 0, .slice none 0 0, .slice none 0 0, .bool false, .int .i64 0] 33
        rw [hWn, hq6]
        clear A
        have A := An
        clear An
        have hcN := N.cell
        have hfN := N.frozen
        try replace ho := ho.alloc (.cells #[.int .i64 0, .int .i64 0, .int .i64 0, .int .i64 0, .slice none 0 0, .slice none 0 0, .bool false, .int .i64 0] 33)
        try rw [hWn] at ho
        try replace ht := ht.alloc (.cells #[.int .i64 0, .int .i64 0, .int .i64 0, .int .i64 0, .slice none 0 0, .slice none 0 0, .bool false, .int .i64 0] 33)
        try rw [hWn] at ht
        try rw [hq6] at hszB
        try replace hszB := Nat.le_trans hszB (Nat.le_of_lt N.lt)
        clear hWn hq6
        refine hK.out _ _ A (fun hHeld => ?_)
        clear hK K hHeld
        try simp only [Act.put, List.setIfInBounds_toArray, List.set_cons_zero, List.set_cons_succ]
        refine wpAnyH_ready (rs := [5]) (by kernel_rfl) (by simp) ?_
        refine AllReadyH.cons (o := { dst := none, op := Op.store 33 (Operand.tmp 8) (Operand.tmp 33), type := 0, pos := "exact.go:3397", after := #[{ on := 4, ground := Ground.data }, { on := 3, ground := Ground.data }, { on := 3, ground := Ground.chain }, { on := 0, ground := Ground.phase }, { on := 1, ground := Ground.phase }, { on := 2, ground := Ground.phase }, { on := 3, ground := Ground.phase }, { on := 4, ground := Ground.phase }], guard := none }) rfl (fun K hK => ?_) AllReadyH.nil
        go_simp
        have AF := (((A.own ho).own ht).fin8 N hq1 hq2 (.int .i64 r.e) (.int .i64 r.p) (.int .i64 r.b) (.int .i64 r.i) (.slice ga r.l.length gc) (.slice ha r.m.length hc') (.bool r.f) (.int .i64 r.c))
        replace A := AF.sub (fun q hq => .tail _ hq) (fun q hq => .tail _ (.tail _ hq))
        refine hK.out _ _ A (fun hHeld => ?_)
        clear hK K hHeld
        try simp only [Act.put, List.setIfInBounds_toArray, List.set_cons_zero, List.set_cons_succ]
        refine wpAnyH_done (by kernel_rfl) ?_ _
      rotate_left 1
      focus
        go_simp
        obtain ⟨Wn, hWn, An, q6, hq6, N, hq1, hq2⟩ := A.pack #[.int .i64 0, .int .i64 0, .int .i64 0, .int .i64 0, .slice none 0 0, .slice none 0 0, .bool false, .int .i64 0] 33
        rw [hWn, hq6]
        clear A
        have A := An
        clear An
        have hcN := N.cell
        have hfN := N.frozen
        try replace ho := ho.alloc (.cells #[.int .i64 0, .int .i64 0, .int .i64 0, .int .i64 0, .slice none 0 0, .slice none 0 0, .bool false, .int .i64 0] 33)
        try rw [hWn] at ho
        try replace ht := ht.alloc (.cells #[.int .i64 0, .int .i64 0, .int .i64 0, .int .i64 0, .slice none 0 0, .slice none 0 0, .bool false, .int .i64 0] 33)
        try rw [hWn] at ht
        try rw [hq6] at hszB
        try replace hszB := Nat.le_trans hszB (Nat.le_of_lt N.lt)
        clear hWn hq6
        refine hK.out _ _ A (fun hHeld => ?_)
        clear hK K hHeld
        try simp only [Act.put, List.setIfInBounds_toArray, List.set_cons_zero, List.set_cons_succ]
        refine wpAnyH_ready (rs := [3]) (by kernel_rfl) (by simp) ?_
        refine AllReadyH.cons (o := { dst := some 33, op := Op.call { callee := Callee.value (Operand.func 36), args := #[Operand.tmp 30, Operand.tmp 32], argTypes := #[31, 26] }, type := 33, pos := "exact.go:3397", after := #[{ on := 0, ground := Ground.data }, { on := 2, ground := Ground.data }, { on := 2, ground := Ground.chain }], guard := none }) rfl (fun K hK => ?_) AllReadyH.nil
        go_simp
        refine (HI.out _ _ (StsAt.of_own A.r0)).mono ?_
        rintro x w4 ⟨gv, gt, rfl, ho, ht, apg, hbN⟩
        obtain ⟨Bg, hbg, hLow, hszg⟩ := A.lowB
        have ap3 := own_apart A.r0 ho (Nat.le_refl _)
        have ap4 := own_apart A.r0 ht (Nat.le_refl _)
        have hszB := hbN.size
        rw [hbg] at ho ht hszB
        obtain ⟨ga, gc, rfl⟩ := own_form ho
        obtain ⟨ha, hc', rfl⟩ := own_form ht
        replace A := A.kept hbN
        try replace N := N.kept hbN
        try replace hcN := N.cell
        try replace hfN := N.frozen
        clear hbN
        clear hbg
        unfold poV
        refine hK.out _ _ A (fun hHeld => ?_)
        clear hK K hHeld
        try simp only [Act.put, List.setIfInBounds_toArray, List.set_cons_zero, List.set_cons_succ]
        refine wpAnyH_ready (rs := [5]) (by kernel_rfl) (by simp) ?_
        refine AllReadyH.cons (o := { dst := none, op := Op.store 33 (Operand.tmp 8) (Operand.tmp 33), type := 0, pos := "exact.go:3397", after := #[{ on := 4, ground := Ground.data }, { on := 3, ground := Ground.data }, { on := 3, ground := Ground.chain }, { on := 0, ground := Ground.phase }, { on := 1, ground := Ground.phase }, { on := 2, ground := Ground.phase }, { on := 3, ground := Ground.phase }, { on := 4, ground := Ground.phase }], guard := none }) rfl (fun K hK => ?_) AllReadyH.nil
        go_simp
        have AF := (((A.own ho).own ht).fin8 N hq1 hq2 (.int .i64 r.e) (.int .i64 r.p) (.int .i64 r.b) (.int .i64 r.i) (.slice ga r.l.length gc) (.slice ha r.m.length hc') (.bool r.f) (.int .i64 r.c))
        replace A := AF.sub (fun q hq => .tail _ hq) (fun q hq => .tail _ (.tail _ hq))
        refine hK.out _ _ A (fun hHeld => ?_)
        clear hK K hHeld
        try simp only [Act.put, List.setIfInBounds_toArray, List.set_cons_zero, List.set_cons_succ]
        refine wpAnyH_done (by kernel_rfl) ?_ _
      rotate_left 1
    rotate_left 2
    focus
      go_simp
      obtain ⟨Wn, hWn, An, q6, hq6, N, hq1, hq2⟩ := A.pack #[.int .i64 0, .int .i64 0, .int .i64 0, .int .i64 0, .slice none 0 0, .slice none 0 0, .bool false, .int .i64 0] 33
      rw [hWn, hq6]
      clear A
      have A := An
      clear An
      have hcN := N.cell
      have hfN := N.frozen
      try replace ho := ho.alloc (.cells #[.int .i64 0, .int .i64 0, .int .i64 0, .int .i64 0, .slice none 0 0, .slice none 0 0, .bool false, .int .i64 0] 33)
      try rw [hWn] at ho
      try replace ht := ht.alloc (.cells #[.int .i64 0, .int .i64 0, .int .i64 0, .int .i64 0, .slice none 0 0, .slice none 0 0, .bool false, .int .i64 0] 33)
      try rw [hWn] at ht
      try rw [hq6] at hszB
      try replace hszB := Nat.le_trans hszB (Nat.le_of_lt N.lt)
      clear hWn hq6
      refine hK.out _ _ A (fun hHeld => ?_)
      clear hK K hHeld
      try simp only [Act.put, List.setIfInBounds_toArray, List.set_cons_zero, List.set_cons_succ]
      refine wpAnyH_ready (rs := [2]) (by kernel_rfl) (by simp) ?_
      refine AllReadyH.cons (o := { dst := some 32, op := Op.call { callee := Callee.value (Operand.func 16), args := #[Operand.tmp 31], argTypes := #[23] }, type := 26, pos := "exact.go:3397", after := #[{ on := 1, ground := Ground.data }], guard := none }) rfl (fun K hK => ?_) AllReadyH.nil
      go_simp
      refine (HTX.out _).mono ?_
      rintro x w30 ⟨rfl, hbN⟩
      replace A := A.kept hbN
      try replace N := N.kept hbN
      try replace hcN := N.cell
      try replace hfN := N.frozen
      clear hbN
      refine hK.out _ _ A (fun hHeld => ?_)
      clear hK K hHeld
      try simp only [Act.put, List.setIfInBounds_toArray, List.set_cons_zero, List.set_cons_succ]
      refine wpAnyH_ready (rs := [3]) (by kernel_rfl) (by simp) ?_
      refine AllReadyH.cons (o := { dst := some 33, op := Op.call { callee := Callee.value (Operand.func 36), args := #[Operand.tmp 30, Operand.tmp 32], argTypes := #[31, 26] }, type := 33, pos := "exact.go:3397", after := #[{ on := 0, ground := Ground.data }, { on := 2, ground := Ground.data }, { on := 2, ground := Ground.chain }], guard := none }) rfl (fun K hK => ?_) AllReadyH.nil
      go_simp
      refine (HI.out _ _ (StsAt.of_own A.r0)).mono ?_
      rintro x w4 ⟨gv, gt, rfl, ho, ht, apg, hbN⟩
      obtain ⟨Bg, hbg, hLow, hszg⟩ := A.lowB
      have ap3 := own_apart A.r0 ho (Nat.le_refl _)
      have ap4 := own_apart A.r0 ht (Nat.le_refl _)
      have hszB := hbN.size
      rw [hbg] at ho ht hszB
      obtain ⟨ga, gc, rfl⟩ := own_form ho
      obtain ⟨ha, hc', rfl⟩ := own_form ht
      replace A := A.kept hbN
      try replace N := N.kept hbN
      try replace hcN := N.cell
      try replace hfN := N.frozen
      clear hbN
      clear hbg
      unfold poV
      refine hK.out _ _ A (fun hHeld => ?_)
      clear hK K hHeld
      try simp only [Act.put, List.setIfInBounds_toArray, List.set_cons_zero, List.set_cons_succ]
      refine wpAnyH_ready (rs := [5]) (by kernel_rfl) (by simp) ?_
      refine AllReadyH.cons (o := { dst := none, op := Op.store 33 (Operand.tmp 8) (Operand.tmp 33), type := 0, pos := "exact.go:3397", after := #[{ on := 4, ground := Ground.data }, { on := 3, ground := Ground.data }, { on := 3, ground := Ground.chain }, { on := 0, ground := Ground.phase }, { on := 1, ground := Ground.phase }, { on := 2, ground := Ground.phase }, { on := 3, ground := Ground.phase }, { on := 4, ground := Ground.phase }], guard := none }) rfl (fun K hK => ?_) AllReadyH.nil
      go_simp
      have AF := (((A.own ho).own ht).fin8 N hq1 hq2 (.int .i64 r.e) (.int .i64 r.p) (.int .i64 r.b) (.int .i64 r.i) (.slice ga r.l.length gc) (.slice ha r.m.length hc') (.bool r.f) (.int .i64 r.c))
      replace A := AF.sub (fun q hq => .tail _ hq) (fun q hq => .tail _ (.tail _ hq))
      refine hK.out _ _ A (fun hHeld => ?_)
      clear hK K hHeld
      try simp only [Act.put, List.setIfInBounds_toArray, List.set_cons_zero, List.set_cons_succ]
      refine wpAnyH_done (by kernel_rfl) ?_ _
    rotate_left 1
    all_goals
      go_wp2_with fail
      go_meet
      exact ⟨_, _, _, _, _, _, rfl, Lib.hid AF, Lib.hid apg, Lib.hid ap3, Lib.hid ap4, Lib.hid hLow, hszg, by simpa using hszB⟩
  case rest =>
  obtain ⟨qg, Bg, ga, gc, ha, hc', rfl, hA, apg, AP3, AP4, HLow, hszg, hszC⟩ := hcut
  clear A
  have A := hA.out
  clear hA
  have hc1 := A.b0.cell
  have hc2 := A.b2.cell
  go_wp2_with fail
  refine (HQ.out _ _ _ _ _ (StsAt.of_own A.r1) (StsAt.of_own A.r4) (StsAt.of_own A.r0) (StsAt.of_own A.r3)).mono ?_
  rintro x w5 ⟨rfl, hb5⟩
  replace hszC : Bg ≤ w5.heap.size := by have := hb5.size; omega
  replace A := A.kept hb5
  clear hb5 hc1 hc2
  replace A := A.drew
  replace hszC : Bg ≤ w5.drew.heap.size := hszC
  go_wp2_with fail
  refine wp_region_held_drew (S := fun W' => LawAt W _ _ W') (by kernel_rfl) A (fun hHeld => ?_)
  clear hHeld
  refine wpAnyH_take (i := 0) (oi := { dst := some 38, op := Op.load 31 (Operand.tmp 7), type := 31, pos := "exact.go:3401", after := #[], guard := none }) (v := ?vva1) rfl (by kernel_rfl) (by kernel_rfl) (by kernel_rfl) (fun _ _ _ h => h) (Or.inl ⟨by rfl, ?hya1⟩) A ?resta1
  case hya1 => (intro w hSw; have hc1 := hSw.b1.cell; have hc2 := hSw.b4.cell;go_simp <;> with_reducible rfl)
  try simp only [Act.put, List.setIfInBounds_toArray, List.set_cons_zero, List.set_cons_succ]
  refine wpAnyH_take (i := 1) (oi := { dst := some 39, op := Op.load 38 (Operand.tmp 2), type := 38, pos := "exact.go:3401", after := #[], guard := none }) (v := ?vva2) rfl (by kernel_rfl) (by kernel_rfl) (by kernel_rfl) (fun _ _ _ h => h) (Or.inl ⟨by rfl, ?hya2⟩) A ?resta2
  case hya2 => (intro w hSw; have hc1 := hSw.b1.cell; have hc2 := hSw.b4.cell;go_simp <;> with_reducible rfl)
  try simp only [Act.put, List.setIfInBounds_toArray, List.set_cons_zero, List.set_cons_succ]
  refine wpAnyH_ready (rs := [2]) (by kernel_rfl) (by simp) ?_
  refine AllReadyH.cons (o := { dst := some 40, op := Op.call { callee := Callee.value (Operand.func 25), args := #[Operand.tmp 39], argTypes := #[38] }, type := 31, pos := "exact.go:3401", after := #[{ on := 1, ground := Ground.data }], guard := none }) rfl (fun K hK => ?_) AllReadyH.nil
  go_simp
  refine (HT.out _ A.bel).mono ?_
  rintro x w6 ⟨v6, rfl, ho6, hb6⟩
  obtain ⟨a6, c6, rfl⟩ := own_form ho6
  replace hszC : Bg ≤ w6.heap.size := Nat.le_trans hszC hb6.size
  replace A := A.kept hb6
  have HO6 := Lib.hid ho6
  clear hb6 ho6
  unfold ppV
  refine hK.out _ _ A (fun hHeld => ?_)
  clear hK K hHeld
  try simp only [Act.put, List.setIfInBounds_toArray, List.set_cons_zero, List.set_cons_succ]
  refine wpAnyH_ready (rs := [3]) (by kernel_rfl) (by simp) ?_
  refine AllReadyH.cons (o := { dst := some 41, op := Op.call { callee := Callee.value (Operand.func 27), args := #[Operand.tmp 38, Operand.tmp 40], argTypes := #[31, 31] }, type := 4, pos := "exact.go:3401", after := #[{ on := 0, ground := Ground.data }, { on := 2, ground := Ground.data }, { on := 2, ground := Ground.chain }], guard := none }) rfl (fun K hK => ?_) AllReadyH.nil
  go_simp
  refine (HE.out _ _ _ (StsAt.of_own A.r2) (StsAt.of_own HO6.out)).mono ?_
  rintro x w7 ⟨rfl, hb7⟩
  replace hszC : Bg ≤ w7.heap.size := Nat.le_trans hszC hb7.size
  replace A := A.kept hb7
  clear hb7 HO6
  refine hK.out _ _ A (fun hHeld => ?_)
  clear hK K hHeld
  try simp only [Act.put, List.setIfInBounds_toArray, List.set_cons_zero, List.set_cons_succ]
  refine wpAnyH_take (i := 4) (oi := { dst := some 42, op := Op.unOp UnOp.not 4 (Operand.tmp 41), type := 4, pos := "exact.go:3401", after := #[{ on := 3, ground := Ground.data }], guard := none }) (v := ?vva3) rfl (by kernel_rfl) (by kernel_rfl) (by kernel_rfl) (fun _ _ _ h => h) (Or.inl ⟨by rfl, ?hya3⟩) A ?resta3
  case hya3 => (intro w hSw; have hc1 := hSw.b1.cell; have hc2 := hSw.b4.cell;go_simp <;> with_reducible rfl)
  try simp only [Act.put, List.setIfInBounds_toArray, List.set_cons_zero, List.set_cons_succ]
  refine wpAnyH_done (by kernel_rfl) ?_ _
  have hc := A.b1.cell
  go_wp2_with fail
  refine (HX.out _ _ _ A.r2).mono ?_
  rintro x w8 ⟨rfl, ho8, hg8⟩
  replace hszC : Bg ≤ w8.heap.size := by have := hg8.size; omega
  replace A := A.markedX hlx.out hg8 ho8 (by simp) AP3.out AP4.out (apart_symm AP1.out) (apart_symm AP2.out)
  clear hc ho8 hg8
  obtain ⟨K1, hK1⟩ : ∃ K : Int, K = ((1 + l.length : Nat) : Int) := ⟨_, rfl⟩
  rw [← hK1]
  have hK2 : ¬ K1 < 0 := by omega
  clear hK1
  have hc1 := A.b0.cell
  have hc2 := A.b2.cell
  go_wp2_with fail
  refine (HQ.out _ _ _ _ _ (StsAt.of_own A.r2) (StsAt.of_own A.r4) (StsAt.of_own A.r1) (StsAt.of_own A.r3)).mono ?_
  rintro x w9 ⟨rfl, hb9⟩
  replace hszC : Bg ≤ w9.heap.size := by have := hb9.size; omega
  replace A := A.kept hb9
  clear hb9 hc1 hc2
  have hc := A.b0.cell
  go_wp2_with fail
  refine (HM.out _ _ _ _ hszC A.r2 A.r1 apg.out).mono ?_
  rintro x w10 ⟨rfl, hov, hot, hbl, hbk⟩
  replace A := ((A.marked2 (R' := [_, _]) hbl hszg hbk (by simp) (List.forall_mem_cons.2 ⟨⟨.tail _ (.tail _ (.tail _ (.head _))), HLow.out _ (.tail _ (.head _))⟩, List.forall_mem_cons.2 ⟨⟨.tail _ (.tail _ (.tail _ (.tail _ (.head _)))), HLow.out _ (.tail _ (.tail _ (.head _)))⟩, (fun q hq => by cases hq)⟩⟩)).own hov).own hot
  clear hov hot hbl hbk hc HM hszC
  rw [← HK.out]
  have hc := A.b0.cell
  go_wp2_with fail
  refine (HD.out _ _ _ (StsAt.of_own A.r1) (StsAt.of_own A.r0)).mono ?_
  rintro x w11 ⟨rfl, hb⟩
  replace A := A.kept hb
  clear hb hc
  rw [← HK.out]
  go_upto_region 27 with fail
  go_cut [12] from 13 (fun s12 wx => ∃ qh ka kc kb kd, s12 = .pointer (some ⟨qh, 0, none⟩) ∧ Hid (LawAt W [(qh, 33, #[.int .i64 r.e, .int .i64 r.p, .int .i64 r.b, .int .i64 r.i, .slice ka r.l.length kc, .slice kb r.m.length kd, .bool r.f, .int .i64 r.c]), (qg, 33, #[.int .i64 r.e, .int .i64 r.p, .int .i64 r.b, .int .i64 r.i, .slice ga r.l.length gc, .slice ha r.m.length hc', .bool r.f, .int .i64 r.c]), (qx, 31, #[.int .i64 e, .int .i64 p, .int .i64 b, .int .i64 i, .slice xa l.length xc]), (qw, 33, #[.int .i64 r.e, .int .i64 r.p, .int .i64 r.b, .int .i64 r.i, .slice wa r.l.length wq, .slice ta r.m.length tc, .bool r.f, .int .i64 r.c]), (W.heap.size + 1, 23, #[.int .i64 me, .int .i64 mc, .int .i64 mn, .int .i64 ma, .string mt]), (W.heap.size, 38, #[.int .i64 e, .int .i64 p, .int .i64 b, .int .i64 i, .slice ua l.length uc])] [(W.heap.size, .slice kb r.m.length kd, r.m), (W.heap.size, .slice ka r.l.length kc, r.l), (Bg, .slice ha r.m.length hc', marks (1 + r.l.length) r.m.length), (Bg, .slice ga r.l.length gc, marks 1 r.l.length), (W.heap.size, .slice ta r.m.length tc, r.m), (W.heap.size, .slice wa r.l.length wq, r.l)] wx))
  case first =>
    replace A := A.drew
    refine wp_region_held_drew (S := fun W' => LawAt W _ _ W') (by kernel_rfl) A (fun hHeld => ?_)
    clear hHeld
    generalize w11.drew = Wd at A ⊢
    refine wpAnyH_take (i := 0) (oi := { dst := some 65, op := Op.load 38 (Operand.tmp 2), type := 38, pos := "exact.go:3419", after := #[], guard := none }) (v := ?vvu1) rfl (by kernel_rfl) (by kernel_rfl) (by kernel_rfl) (fun _ _ _ h => h) (Or.inl ⟨by rfl, ?hyu1⟩) A ?restu1
    case hyu1 => (intro w hSw; have hc1 := hSw.b3.cell; have hc2 := hSw.b4.cell;go_simp <;> with_reducible rfl)
    try simp only [Act.put, List.setIfInBounds_toArray, List.set_cons_zero, List.set_cons_succ]
    refine wpAnyH_take (i := 2) (oi := { dst := some 67, op := Op.load 23 (Operand.tmp 3), type := 23, pos := "exact.go:3419", after := #[], guard := none }) (v := ?vvu2) rfl (by kernel_rfl) (by kernel_rfl) (by kernel_rfl) (fun _ _ _ h => h) (Or.inl ⟨by rfl, ?hyu2⟩) A ?restu2
    case hyu2 => (intro w hSw; have hc1 := hSw.b3.cell; have hc2 := hSw.b4.cell;go_simp <;> with_reducible rfl)
    try simp only [Act.put, List.setIfInBounds_toArray, List.set_cons_zero, List.set_cons_succ]
    refine wpAnyH_ready (rs := [1, 5]) (by kernel_rfl) (by simp) ?_
    refine (AllReadyH.cons (o := { dst := some 66, op := Op.call { callee := Callee.value (Operand.func 25), args := #[Operand.tmp 65], argTypes := #[38] }, type := 31, pos := "exact.go:3419", after := #[{ on := 0, ground := Ground.data }], guard := none }) rfl (fun K hK => ?_) (AllReadyH.cons (o := { dst := some 12, op := Op.alloc 33, type := 0, pos := "exact.go:3419", after := #[], guard := none }) rfl (fun K hK => ?_) AllReadyH.nil))
    focus
      go_simp
      refine (HT.out _ A.bel).mono ?_
      rintro x w12 ⟨v12, rfl, ho12, hbN⟩
      obtain ⟨a12, c12, rfl⟩ := own_form ho12
      replace A := A.kept hbN
      try replace N := N.kept hbN
      try replace hcN := N.cell
      try replace hfN := N.frozen
      clear hbN
      unfold ppV
      refine hK.out _ _ A (fun hHeld => ?_)
      clear hK K hHeld
      try simp only [Act.put, List.setIfInBounds_toArray, List.set_cons_zero, List.set_cons_succ]
      refine wpAnyH_ready (rs := [3, 5]) (by kernel_rfl) (by simp) ?_
      refine (AllReadyH.cons (o := { dst := some 68, op := Op.call { callee := Callee.value (Operand.func 16), args := #[Operand.tmp 67], argTypes := #[23] }, type := 26, pos := "exact.go:3419", after := #[{ on := 2, ground := Ground.data }, { on := 1, ground := Ground.chain }], guard := none }) rfl (fun K hK => ?_) (AllReadyH.cons (o := { dst := some 12, op := Op.alloc 33, type := 0, pos := "exact.go:3419", after := #[], guard := none }) rfl (fun K hK => ?_) AllReadyH.nil))
      focus
        go_simp
        refine (HTX.out _).mono ?_
        rintro x w121 ⟨rfl, hbN⟩
        replace A := A.kept hbN
        replace ho12 := own_below ho12 hbN
        try replace N := N.kept hbN
        try replace hcN := N.cell
        try replace hfN := N.frozen
        clear hbN
        refine hK.out _ _ A (fun hHeld => ?_)
        clear hK K hHeld
        try simp only [Act.put, List.setIfInBounds_toArray, List.set_cons_zero, List.set_cons_succ]
        refine wpAnyH_ready (rs := [4, 5]) (by kernel_rfl) (by simp) ?_
        refine (AllReadyH.cons (o := { dst := some 69, op := Op.call { callee := Callee.value (Operand.func 36), args := #[Operand.tmp 66, Operand.tmp 68], argTypes := #[31, 26] }, type := 33, pos := "exact.go:3419", after := #[{ on := 1, ground := Ground.data }, { on := 3, ground := Ground.data }, { on := 3, ground := Ground.chain }], guard := none }) rfl (fun K hK => ?_) (AllReadyH.cons (o := { dst := some 12, op := Op.alloc 33, type := 0, pos := "exact.go:3419", after := #[], guard := none }) rfl (fun K hK => ?_) AllReadyH.nil))
        focus
          go_simp
          refine (HI.out _ _ (StsAt.of_own ho12)).mono ?_
          rintro x w13 ⟨kv, kt, rfl, ho, ht, apk, hbN⟩
          obtain ⟨ka, kc, rfl⟩ := own_form ho
          obtain ⟨kb, kd, rfl⟩ := own_form ht
          replace ho := own_mono (B' := W.heap.size) ho A.bel.size
          replace ht := own_mono (B' := W.heap.size) ht A.bel.size
          replace A := A.kept hbN
          try replace N := N.kept hbN
          try replace hcN := N.cell
          try replace hfN := N.frozen
          clear hbN
          clear apk ho12
          unfold poV
          refine hK.out _ _ A (fun hHeld => ?_)
          clear hK K hHeld
          try simp only [Act.put, List.setIfInBounds_toArray, List.set_cons_zero, List.set_cons_succ]
          refine wpAnyH_ready (rs := [5]) (by kernel_rfl) (by simp) ?_
          refine AllReadyH.cons (o := { dst := some 12, op := Op.alloc 33, type := 0, pos := "exact.go:3419", after := #[], guard := none }) rfl (fun K hK => ?_) AllReadyH.nil
          go_simp
          obtain ⟨Wn, hWn, An, q6, hq6, N, hq1, hq2⟩ := A.pack #[.int .i64 0, .int .i64 0, .int .i64 0, .int .i64 0, .slice none 0 0, .slice none 0 0, .bool false, .int .i64 0] 33
          rw [hWn, hq6]
          clear A
          have A := An
          clear An
          have hcN := N.cell
          have hfN := N.frozen
          try replace ho12 := ho12.alloc (.cells #[.int .i64 0, .int .i64 0, .int .i64 0, .int .i64 0, .slice none 0 0, .slice none 0 0, .bool false, .int .i64 0] 33)
          try rw [hWn] at ho12
          try replace ho := ho.alloc (.cells #[.int .i64 0, .int .i64 0, .int .i64 0, .int .i64 0, .slice none 0 0, .slice none 0 0, .bool false, .int .i64 0] 33)
          try rw [hWn] at ho
          try replace ht := ht.alloc (.cells #[.int .i64 0, .int .i64 0, .int .i64 0, .int .i64 0, .slice none 0 0, .slice none 0 0, .bool false, .int .i64 0] 33)
          try rw [hWn] at ht
          clear hWn hq6
          refine hK.out _ _ A (fun hHeld => ?_)
          clear hK K hHeld
          try simp only [Act.put, List.setIfInBounds_toArray, List.set_cons_zero, List.set_cons_succ]
          refine wpAnyH_ready (rs := [6]) (by kernel_rfl) (by simp) ?_
          refine AllReadyH.cons (o := { dst := none, op := Op.store 33 (Operand.tmp 12) (Operand.tmp 69), type := 0, pos := "exact.go:3419", after := #[{ on := 5, ground := Ground.data }, { on := 4, ground := Ground.data }, { on := 4, ground := Ground.chain }, { on := 0, ground := Ground.phase }, { on := 1, ground := Ground.phase }, { on := 2, ground := Ground.phase }, { on := 3, ground := Ground.phase }, { on := 4, ground := Ground.phase }, { on := 5, ground := Ground.phase }], guard := none }) rfl (fun K hK => ?_) AllReadyH.nil
          go_simp
          have AF := (((A.own ho).own ht).fin8 N hq1 hq2 (.int .i64 r.e) (.int .i64 r.p) (.int .i64 r.b) (.int .i64 r.i) (.slice ka r.l.length kc) (.slice kb r.m.length kd) (.bool r.f) (.int .i64 r.c))
          replace A := AF.sub (fun q hq => .tail _ hq) (fun q hq => .tail _ (.tail _ hq))
          refine hK.out _ _ A (fun hHeld => ?_)
          clear hK K hHeld
          try simp only [Act.put, List.setIfInBounds_toArray, List.set_cons_zero, List.set_cons_succ]
          refine wpAnyH_done (by kernel_rfl) ?_ _
        rotate_left 1
        focus
          go_simp
          obtain ⟨Wn, hWn, An, q6, hq6, N, hq1, hq2⟩ := A.pack #[.int .i64 0, .int .i64 0, .int .i64 0, .int .i64 0, .slice none 0 0, .slice none 0 0, .bool false, .int .i64 0] 33
          rw [hWn, hq6]
          clear A
          have A := An
          clear An
          have hcN := N.cell
          have hfN := N.frozen
          try replace ho12 := ho12.alloc (.cells #[.int .i64 0, .int .i64 0, .int .i64 0, .int .i64 0, .slice none 0 0, .slice none 0 0, .bool false, .int .i64 0] 33)
          try rw [hWn] at ho12
          try replace ho := ho.alloc (.cells #[.int .i64 0, .int .i64 0, .int .i64 0, .int .i64 0, .slice none 0 0, .slice none 0 0, .bool false, .int .i64 0] 33)
          try rw [hWn] at ho
          try replace ht := ht.alloc (.cells #[.int .i64 0, .int .i64 0, .int .i64 0, .int .i64 0, .slice none 0 0, .slice none 0 0, .bool false, .int .i64 0] 33)
          try rw [hWn] at ht
          clear hWn hq6
          refine hK.out _ _ A (fun hHeld => ?_)
          clear hK K hHeld
          try simp only [Act.put, List.setIfInBounds_toArray, List.set_cons_zero, List.set_cons_succ]
          refine wpAnyH_ready (rs := [4]) (by kernel_rfl) (by simp) ?_
          refine AllReadyH.cons (o := { dst := some 69, op := Op.call { callee := Callee.value (Operand.func 36), args := #[Operand.tmp 66, Operand.tmp 68], argTypes := #[31, 26] }, type := 33, pos := "exact.go:3419", after := #[{ on := 1, ground := Ground.data }, { on := 3, ground := Ground.data }, { on := 3, ground := Ground.chain }], guard := none }) rfl (fun K hK => ?_) AllReadyH.nil
          go_simp
          refine (HI.out _ _ (StsAt.of_own ho12)).mono ?_
          rintro x w13 ⟨kv, kt, rfl, ho, ht, apk, hbN⟩
          obtain ⟨ka, kc, rfl⟩ := own_form ho
          obtain ⟨kb, kd, rfl⟩ := own_form ht
          replace ho := own_mono (B' := W.heap.size) ho A.bel.size
          replace ht := own_mono (B' := W.heap.size) ht A.bel.size
          replace A := A.kept hbN
          try replace N := N.kept hbN
          try replace hcN := N.cell
          try replace hfN := N.frozen
          clear hbN
          clear apk ho12
          unfold poV
          refine hK.out _ _ A (fun hHeld => ?_)
          clear hK K hHeld
          try simp only [Act.put, List.setIfInBounds_toArray, List.set_cons_zero, List.set_cons_succ]
          refine wpAnyH_ready (rs := [6]) (by kernel_rfl) (by simp) ?_
          refine AllReadyH.cons (o := { dst := none, op := Op.store 33 (Operand.tmp 12) (Operand.tmp 69), type := 0, pos := "exact.go:3419", after := #[{ on := 5, ground := Ground.data }, { on := 4, ground := Ground.data }, { on := 4, ground := Ground.chain }, { on := 0, ground := Ground.phase }, { on := 1, ground := Ground.phase }, { on := 2, ground := Ground.phase }, { on := 3, ground := Ground.phase }, { on := 4, ground := Ground.phase }, { on := 5, ground := Ground.phase }], guard := none }) rfl (fun K hK => ?_) AllReadyH.nil
          go_simp
          have AF := (((A.own ho).own ht).fin8 N hq1 hq2 (.int .i64 r.e) (.int .i64 r.p) (.int .i64 r.b) (.int .i64 r.i) (.slice ka r.l.length kc) (.slice kb r.m.length kd) (.bool r.f) (.int .i64 r.c))
          replace A := AF.sub (fun q hq => .tail _ hq) (fun q hq => .tail _ (.tail _ hq))
          refine hK.out _ _ A (fun hHeld => ?_)
          clear hK K hHeld
          try simp only [Act.put, List.setIfInBounds_toArray, List.set_cons_zero, List.set_cons_succ]
          refine wpAnyH_done (by kernel_rfl) ?_ _
        rotate_left 1
      rotate_left 2
      focus
        go_simp
        obtain ⟨Wn, hWn, An, q6, hq6, N, hq1, hq2⟩ := A.pack #[.int .i64 0, .int .i64 0, .int .i64 0, .int .i64 0, .slice none 0 0, .slice none 0 0, .bool false, .int .i64 0] 33
        rw [hWn, hq6]
        clear A
        have A := An
        clear An
        have hcN := N.cell
        have hfN := N.frozen
        try replace ho12 := ho12.alloc (.cells #[.int .i64 0, .int .i64 0, .int .i64 0, .int .i64 0, .slice none 0 0, .slice none 0 0, .bool false, .int .i64 0] 33)
        try rw [hWn] at ho12
        try replace ho := ho.alloc (.cells #[.int .i64 0, .int .i64 0, .int .i64 0, .int .i64 0, .slice none 0 0, .slice none 0 0, .bool false, .int .i64 0] 33)
        try rw [hWn] at ho
        try replace ht := ht.alloc (.cells #[.int .i64 0, .int .i64 0, .int .i64 0, .int .i64 0, .slice none 0 0, .slice none 0 0, .bool false, .int .i64 0] 33)
        try rw [hWn] at ht
        clear hWn hq6
        refine hK.out _ _ A (fun hHeld => ?_)
        clear hK K hHeld
        try simp only [Act.put, List.setIfInBounds_toArray, List.set_cons_zero, List.set_cons_succ]
        refine wpAnyH_ready (rs := [3]) (by kernel_rfl) (by simp) ?_
        refine AllReadyH.cons (o := { dst := some 68, op := Op.call { callee := Callee.value (Operand.func 16), args := #[Operand.tmp 67], argTypes := #[23] }, type := 26, pos := "exact.go:3419", after := #[{ on := 2, ground := Ground.data }, { on := 1, ground := Ground.chain }], guard := none }) rfl (fun K hK => ?_) AllReadyH.nil
        go_simp
        refine (HTX.out _).mono ?_
        rintro x w121 ⟨rfl, hbN⟩
        replace A := A.kept hbN
        replace ho12 := own_below ho12 hbN
        try replace N := N.kept hbN
        try replace hcN := N.cell
        try replace hfN := N.frozen
        clear hbN
        refine hK.out _ _ A (fun hHeld => ?_)
        clear hK K hHeld
        try simp only [Act.put, List.setIfInBounds_toArray, List.set_cons_zero, List.set_cons_succ]
        refine wpAnyH_ready (rs := [4]) (by kernel_rfl) (by simp) ?_
        refine AllReadyH.cons (o := { dst := some 69, op := Op.call { callee := Callee.value (Operand.func 36), args := #[Operand.tmp 66, Operand.tmp 68], argTypes := #[31, 26] }, type := 33, pos := "exact.go:3419", after := #[{ on := 1, ground := Ground.data }, { on := 3, ground := Ground.data }, { on := 3, ground := Ground.chain }], guard := none }) rfl (fun K hK => ?_) AllReadyH.nil
        go_simp
        refine (HI.out _ _ (StsAt.of_own ho12)).mono ?_
        rintro x w13 ⟨kv, kt, rfl, ho, ht, apk, hbN⟩
        obtain ⟨ka, kc, rfl⟩ := own_form ho
        obtain ⟨kb, kd, rfl⟩ := own_form ht
        replace ho := own_mono (B' := W.heap.size) ho A.bel.size
        replace ht := own_mono (B' := W.heap.size) ht A.bel.size
        replace A := A.kept hbN
        try replace N := N.kept hbN
        try replace hcN := N.cell
        try replace hfN := N.frozen
        clear hbN
        clear apk ho12
        unfold poV
        refine hK.out _ _ A (fun hHeld => ?_)
        clear hK K hHeld
        try simp only [Act.put, List.setIfInBounds_toArray, List.set_cons_zero, List.set_cons_succ]
        refine wpAnyH_ready (rs := [6]) (by kernel_rfl) (by simp) ?_
        refine AllReadyH.cons (o := { dst := none, op := Op.store 33 (Operand.tmp 12) (Operand.tmp 69), type := 0, pos := "exact.go:3419", after := #[{ on := 5, ground := Ground.data }, { on := 4, ground := Ground.data }, { on := 4, ground := Ground.chain }, { on := 0, ground := Ground.phase }, { on := 1, ground := Ground.phase }, { on := 2, ground := Ground.phase }, { on := 3, ground := Ground.phase }, { on := 4, ground := Ground.phase }, { on := 5, ground := Ground.phase }], guard := none }) rfl (fun K hK => ?_) AllReadyH.nil
        go_simp
        have AF := (((A.own ho).own ht).fin8 N hq1 hq2 (.int .i64 r.e) (.int .i64 r.p) (.int .i64 r.b) (.int .i64 r.i) (.slice ka r.l.length kc) (.slice kb r.m.length kd) (.bool r.f) (.int .i64 r.c))
        replace A := AF.sub (fun q hq => .tail _ hq) (fun q hq => .tail _ (.tail _ hq))
        refine hK.out _ _ A (fun hHeld => ?_)
        clear hK K hHeld
        try simp only [Act.put, List.setIfInBounds_toArray, List.set_cons_zero, List.set_cons_succ]
        refine wpAnyH_done (by kernel_rfl) ?_ _
      rotate_left 1
    rotate_left 3
    focus
      go_simp
      obtain ⟨Wn, hWn, An, q6, hq6, N, hq1, hq2⟩ := A.pack #[.int .i64 0, .int .i64 0, .int .i64 0, .int .i64 0, .slice none 0 0, .slice none 0 0, .bool false, .int .i64 0] 33
      rw [hWn, hq6]
      clear A
      have A := An
      clear An
      have hcN := N.cell
      have hfN := N.frozen
      try replace ho12 := ho12.alloc (.cells #[.int .i64 0, .int .i64 0, .int .i64 0, .int .i64 0, .slice none 0 0, .slice none 0 0, .bool false, .int .i64 0] 33)
      try rw [hWn] at ho12
      try replace ho := ho.alloc (.cells #[.int .i64 0, .int .i64 0, .int .i64 0, .int .i64 0, .slice none 0 0, .slice none 0 0, .bool false, .int .i64 0] 33)
      try rw [hWn] at ho
      try replace ht := ht.alloc (.cells #[.int .i64 0, .int .i64 0, .int .i64 0, .int .i64 0, .slice none 0 0, .slice none 0 0, .bool false, .int .i64 0] 33)
      try rw [hWn] at ht
      clear hWn hq6
      refine hK.out _ _ A (fun hHeld => ?_)
      clear hK K hHeld
      try simp only [Act.put, List.setIfInBounds_toArray, List.set_cons_zero, List.set_cons_succ]
      refine wpAnyH_ready (rs := [1]) (by kernel_rfl) (by simp) ?_
      refine AllReadyH.cons (o := { dst := some 66, op := Op.call { callee := Callee.value (Operand.func 25), args := #[Operand.tmp 65], argTypes := #[38] }, type := 31, pos := "exact.go:3419", after := #[{ on := 0, ground := Ground.data }], guard := none }) rfl (fun K hK => ?_) AllReadyH.nil
      go_simp
      refine (HT.out _ A.bel).mono ?_
      rintro x w12 ⟨v12, rfl, ho12, hbN⟩
      obtain ⟨a12, c12, rfl⟩ := own_form ho12
      replace A := A.kept hbN
      try replace N := N.kept hbN
      try replace hcN := N.cell
      try replace hfN := N.frozen
      clear hbN
      unfold ppV
      refine hK.out _ _ A (fun hHeld => ?_)
      clear hK K hHeld
      try simp only [Act.put, List.setIfInBounds_toArray, List.set_cons_zero, List.set_cons_succ]
      refine wpAnyH_ready (rs := [3]) (by kernel_rfl) (by simp) ?_
      refine AllReadyH.cons (o := { dst := some 68, op := Op.call { callee := Callee.value (Operand.func 16), args := #[Operand.tmp 67], argTypes := #[23] }, type := 26, pos := "exact.go:3419", after := #[{ on := 2, ground := Ground.data }, { on := 1, ground := Ground.chain }], guard := none }) rfl (fun K hK => ?_) AllReadyH.nil
      go_simp
      refine (HTX.out _).mono ?_
      rintro x w121 ⟨rfl, hbN⟩
      replace A := A.kept hbN
      replace ho12 := own_below ho12 hbN
      try replace N := N.kept hbN
      try replace hcN := N.cell
      try replace hfN := N.frozen
      clear hbN
      refine hK.out _ _ A (fun hHeld => ?_)
      clear hK K hHeld
      try simp only [Act.put, List.setIfInBounds_toArray, List.set_cons_zero, List.set_cons_succ]
      refine wpAnyH_ready (rs := [4]) (by kernel_rfl) (by simp) ?_
      refine AllReadyH.cons (o := { dst := some 69, op := Op.call { callee := Callee.value (Operand.func 36), args := #[Operand.tmp 66, Operand.tmp 68], argTypes := #[31, 26] }, type := 33, pos := "exact.go:3419", after := #[{ on := 1, ground := Ground.data }, { on := 3, ground := Ground.data }, { on := 3, ground := Ground.chain }], guard := none }) rfl (fun K hK => ?_) AllReadyH.nil
      go_simp
      refine (HI.out _ _ (StsAt.of_own ho12)).mono ?_
      rintro x w13 ⟨kv, kt, rfl, ho, ht, apk, hbN⟩
      obtain ⟨ka, kc, rfl⟩ := own_form ho
      obtain ⟨kb, kd, rfl⟩ := own_form ht
      replace ho := own_mono (B' := W.heap.size) ho A.bel.size
      replace ht := own_mono (B' := W.heap.size) ht A.bel.size
      replace A := A.kept hbN
      try replace N := N.kept hbN
      try replace hcN := N.cell
      try replace hfN := N.frozen
      clear hbN
      clear apk ho12
      unfold poV
      refine hK.out _ _ A (fun hHeld => ?_)
      clear hK K hHeld
      try simp only [Act.put, List.setIfInBounds_toArray, List.set_cons_zero, List.set_cons_succ]
      refine wpAnyH_ready (rs := [6]) (by kernel_rfl) (by simp) ?_
      refine AllReadyH.cons (o := { dst := none, op := Op.store 33 (Operand.tmp 12) (Operand.tmp 69), type := 0, pos := "exact.go:3419", after := #[{ on := 5, ground := Ground.data }, { on := 4, ground := Ground.data }, { on := 4, ground := Ground.chain }, { on := 0, ground := Ground.phase }, { on := 1, ground := Ground.phase }, { on := 2, ground := Ground.phase }, { on := 3, ground := Ground.phase }, { on := 4, ground := Ground.phase }, { on := 5, ground := Ground.phase }], guard := none }) rfl (fun K hK => ?_) AllReadyH.nil
      go_simp
      have AF := (((A.own ho).own ht).fin8 N hq1 hq2 (.int .i64 r.e) (.int .i64 r.p) (.int .i64 r.b) (.int .i64 r.i) (.slice ka r.l.length kc) (.slice kb r.m.length kd) (.bool r.f) (.int .i64 r.c))
      replace A := AF.sub (fun q hq => .tail _ hq) (fun q hq => .tail _ (.tail _ hq))
      refine hK.out _ _ A (fun hHeld => ?_)
      clear hK K hHeld
      try simp only [Act.put, List.setIfInBounds_toArray, List.set_cons_zero, List.set_cons_succ]
      refine wpAnyH_done (by kernel_rfl) ?_ _
    rotate_left 1
    all_goals
      go_wp2_with fail
      go_meet
      exact ⟨_, _, _, _, _, rfl, Lib.hid AF⟩
  case rest =>
  obtain ⟨qh, ka, kc, kb, kd, rfl, hA⟩ := hcut
  clear A
  have A := hA.out
  clear hA
  have hc1 := A.b0.cell
  have hc2 := A.b3.cell
  go_wp2_with fail
  refine (HQ.out _ _ _ _ _ (StsAt.of_own A.r1) (StsAt.of_own A.r5) (StsAt.of_own A.r0) (StsAt.of_own A.r4)).mono ?_
  rintro x w14 ⟨rfl, hb14⟩
  replace A := A.kept hb14
  clear hb14 hc1 hc2
  have hc := A.b1.cell
  go_wp2_with fail
  refine (HD.out _ _ _ (StsAt.of_own A.r3) (StsAt.of_own A.r2)).mono ?_
  rintro x w15 ⟨rfl, hb⟩
  replace A := A.kept hb
  clear hb hc
  rw [← HK.out]
  have HB := Lib.hid A.bel
  clear A
  go_wp2_with fail
  go_ret
  exact ⟨rfl, HB.out⟩

set_option maxRecDepth 100000 in
theorem lifted (os : Os) (started : os.Started) (H : Type) (enc : TypeId × Value → H) :
    ReturnsInHanded {} Try.checked os 9 .any (Rows.fnExactPipeHearSpec.pre6 enc Try.prog Try.f9 Rows.fnExactPipeHearRow.domain false) (Rows.fnExactPipeHearSpec.post enc Try.prog Try.f9 false true false false) := by
  refine returnsInHanded_of_change (C := Try.checked) own started (by kernel_rfl) Try.func9
    (ChangeSpec.witness6 (enc := enc) (C := Try.checked) false ⟨#[], #[.agg #[.int .i64 0, .int .i64 0, .int .i64 0, .int .i64 0, .slice none 0 0], .agg #[.int .i64 0, .int .i64 0, .int .i64 0, .int .i64 0, .string ByteArray.empty]], []⟩ 8 (by kernel_rfl) (by kernel_rfl) (by kernel_rfl) (by kernel_rfl)) ?_
  intro W base args ds gs before hval0 hW hcnd _
  have hval : ∀ (j : Nat) t v, Try.f9.params[j]? = some t → args[j]? = some v → Value.okWide Try.prog W .any base t v := hval0
  have hW' := hW
  obtain ⟨p, q, hA0, hV, rfl, hfz, hnd⟩ := hW
  have hA : DataW.TrodAll enc Try.prog W 0 (fun _ => true) true Try.f9.params.toList args.toList ds p := hA0
  rw [Try.params9] at hA hval
  obtain ⟨v0, vs0, d0, ds0, p0, q0, hargs, rfl, rfl, h0, r0⟩ := trodAll_cons hA
  obtain ⟨v1, vs1, d1, ds1, p1, q1, rfl, rfl, rfl, h1, r1⟩ := trodAll_cons r0
  obtain ⟨rfl, rfl, rfl⟩ := trodAll_nil r1
  have lt0 : ∀ x ∈ p0, x.block < W.heap.size := by obtain ⟨m, hm⟩ := h0; exact DataW.trod_lt m _ _ _ hm
  have lt1 : ∀ x ∈ p1, x.block < W.heap.size := by obtain ⟨m, hm⟩ := h1; exact DataW.trod_lt m _ _ _ hm
  obtain rfl : args = #[v0, v1] := by cases args; simp_all
  obtain ⟨rfl, rfl⟩ := trodVars_none hV
  clear hA0 hval0
  refine (walk _ _ _ _ _ _ base W (hval 0 38 v0 rfl rfl) (hval 1 23 v1 rfl rfl) h0 h1).mono fun e W' ⟨he, bel⟩ => ?_
  subst he
  exact ⟨_, rfl, _, _, _, [], _, [], hW', trodAll_mk1 (shut_bool Try.underlying4 _), (trodAll_cons_mk (Below.trod laidOut (by kernel_rfl) (of_decide_eq_true (by kernel_rfl)) h0 bel lt0) (trodAll_cons_mk (Below.trod laidOut (by kernel_rfl) (of_decide_eq_true (by kernel_rfl)) h1 bel lt1) trodAll_mk0)), rfl, bel.frame _, fun h => by cases h⟩

theorem over : Rows.fnExactPipeHearRow.holds Try.pinned (OpenSpec.ofChange Rows.fnExactPipeHearSpec) :=
  OpenClaim.holds_of_wide 9 Try.f9 rfl rfl rfl rfl rfl rfl rfl ⟨rfl, rfl, rfl, rfl, rfl⟩ rfl rfl rfl rfl rfl (by kernel_rfl) Try.func9 (by kernel_rfl)
    (of_decide_eq_true (by kernel_rfl)) (by unfold Func.isWrapper; first | (rw [if_pos (by decide +kernel)]; kernel_rfl) | (rw [if_neg (by decide +kernel)]; exact ⟨rfl, rfl⟩))
    (fun os started H enc _ => lifted os started H enc)

theorem proved : Rows.FnExactPipeHearSaid := over
end Go.Proofs.Ytfmhccmaeonbhaa.fnExactPipeHear
namespace Go.Proofs.Ytfmhccmaeonbhaa
theorem fnExactPipeHear_holds : Rows.FnExactPipeHearSaid := fnExactPipeHear.proved
#print axioms fnExactPipeHear_holds
end Go.Proofs.Ytfmhccmaeonbhaa
