/- For every input, the law FnExactRibPut of this seat returns true and leaves its arguments as they were. Conditions: none beyond those of the row itself. -/
import Derived.Test.YtmkoppbbenombaaRows
import Derived.Test.YtmkoppbbenombaaHdO
import Derived.Test.YtmkoppbbenombaaRbQ
import Derived.Test.YtmkoppbbenombaaPtW
import Derived.Test.YtmkoppbbenombaaBxM
import Derived.ChangeOld
import Derived.Below
import Derived.Carry
import Derived.WalkKit
import Derived.ProofKit
import Derived.OpenShut
import Derived.ShutString
namespace Go.Proofs.Ytmkoppbbenombaa.fnExactRibPut
open Go.ChangeShapes Go.WideShapes Go.ChangeAt Go.RowKit
set_option linter.unusedVariables false

theorem own : ownKnob Try.prog.godebug = none := by kernel_rfl
theorem laidOut : laidOutB Try.prog = true := by kernel_rfl

set_option maxRecDepth 100000 in
set_option maxHeartbeats 8000000 in
set_option maxRecDepth 100000 in
theorem walk {H : Type} {enc : TypeId × Value → H} (v0 v1 v2 : Value) (d0 d1 d2 : DataW H) (p0 p1 p2 : List MemPlace) (base : Nat) (W : World) (o0 : Value.okWide Try.prog W .any base 22 v0) (o1 : Value.okWide Try.prog W .any base 2 v1) (o2 : Value.okWide Try.prog W .any base 30 v2) (h0 : DataW.Trod enc Try.prog W 0 (fun _ => true) true 22 v0 d0 p0) (h1 : DataW.Trod enc Try.prog W 0 (fun _ => true) true 2 v1 d1 p1) (h2 : DataW.Trod enc Try.prog W 0 (fun _ => true) true 30 v2 d2 p2) :
    Calls Try.prog 4 #[v0, v1, v2] W fun e w' => e = .returned (.bool true) ∧ Below W.heap.size W w' := by
  obtain ⟨l, hsl, hml, va, vc, rfl⟩ := hds_open o0 h0
  obtain ⟨a1, rfl⟩ : ∃ a : Int, v1 = .int .i64 a := int_open o1
  obtain ⟨r, rfl⟩ := route_open o2 h2
  clear o0 h0 o1 h1 o2 h2
  have HA0 := Lib.hid ((MemAt.start W).new 30 #[.int .i64 r.kind, .int .i64 r.vni, .int .i64 r.mac, .int .i64 r.ip, .int .i64 r.org, .int .i64 r.seq, .bool r.st])
  obtain ⟨W0, hW0⟩ : ∃ X, X = W.alloc (.cells #[.int .i64 r.kind, .int .i64 r.vni, .int .i64 r.mac, .int .i64 r.ip, .int .i64 r.org, .int .i64 r.seq, .bool r.st] 30) := ⟨_, rfl⟩
  rw [← hW0] at HA0
  have HZ := Lib.hid (fun (W' : World) (hb : Below W.heap.size W W') => Hd.szS_any _ _ W' (SlAt.kept hsl hb) (by simpa using hml))
  simp only [List.length_map] at HZ
  have HTR := Lib.hid (toRouteR r)
  unfold Rt.val rtV at *
  by_cases hbig : 1048576 < l.length
  · simp only [if_pos hbig] at HZ
    go_enter Try.func4, Try.ntmps4
    go_upto_region 1 with fail
    rw [← hW0]
    clear hW0
    go_wp2_with fail
    refine (HZ.out _ HA0.out.bel).mono ?_
    rintro e w1 ⟨rfl, rfl⟩
    go_wp2_with fail
    go_ret
    exact ⟨rfl, HA0.out.bel⟩
  simp only [if_neg hbig] at HZ
  have hle : l.length ≤ 1048576 := by omega
  have hneg : ¬ (1048576 - (l.length : Int) : Int) < 0 := by omega
  have HT := Lib.hid (fun (W' : World) (hb : Below W.heap.size W W') => Hd.toS_any l _ W' (SlAt.kept hsl hb) hle)
  have HS := Lib.hid (fun (x : Value) (W' : World) (B : Nat) (h : W'.ownsRow B 77 9 x l.length (rcells Hd.cl l)) => specRibPut_any l x a1 r W' (rows_of_own Hd.cl_len h) (NcOk.of_own h) hle)
  have HI := Lib.hid (fun (x : Value) (W' : World) (B : Nat) (h : W'.ownsRow B 77 9 x l.length (rcells Hd.cl l)) => implRibPut_any l x a1 r W' (rows_of_own Hd.cl_len h) hle)
  have HE := Lib.hid (fun (x y : Value) (W' : World) (B B' : Nat) (h : W'.ownsRow B 77 9 x l.length (rcells Hd.cl l)) (h' : W'.ownsRow B' 77 9 y l.length (rcells Hd.cl l)) => Hd.eqS_same l x y W' (rows_of_own Hd.cl_len h) (rows_of_own Hd.cl_len h') hle)
  have HX := Lib.hid (fun (B : Nat) (x : Value) (ys : List Value) (W' : World) (h : W'.ownsRow B 77 9 x l.length ys) => Hd.markS_any B x 1 l.length ys W' h (by omega) (by omega))
  have hsm := putR_len l a1 r
  generalize putR l a1 r = D at HS HI hsm
  have HQ := Lib.hid (fun (v v' t t' : Value) (W' : World) (B B' C C' : Nat) (h : W'.ownsRow B 77 9 v D.rib.length (rcells Hd.cl D.rib)) (h' : W'.ownsRow B' 77 9 v' D.rib.length (rcells Hd.cl D.rib)) (k : W'.ownsRow C 35 7 t D.gone.length (rcells Rt.cl D.gone)) (k' : W'.ownsRow C' 35 7 t' D.gone.length (rcells Rt.cl D.gone)) => roEq_same D.rib D.rib D.gone D.gone v v' t t' D.code W' rfl rfl (rows_of_own Hd.cl_len h) (rows_of_own Hd.cl_len h') (rows_of_own Rt.cl_len k) (rows_of_own Rt.cl_len k') (by omega) (by omega))
  have HM := Lib.hid (fun (B : Nat) (v t : Value) (xs ys : List Value) (W' : World) (hB : B ≤ W'.heap.size) (h : W'.ownsRow B 77 9 v D.rib.length xs) (h' : W'.ownsRow B 35 7 t D.gone.length ys) (ha : v.ownBlock = none ∨ v.ownBlock ≠ t.ownBlock) => roMark_any B v t D.code 1 D.rib.length D.gone.length xs ys W' hB h h' ha (by omega) (by omega))
  have HD := Lib.hid (fun (v t : Value) (W' : World) (B C : Nat) (h : W'.ownsRow B 77 9 v (Hd.marks 1 D.rib.length).length (rcells Hd.cl (Hd.marks 1 D.rib.length))) (k : W'.ownsRow C 35 7 t (Rt.marks (1 + 9 * D.rib.length) D.gone.length).length (rcells Rt.cl (Rt.marks (1 + 9 * D.rib.length) D.gone.length))) => roHeld_any v t D.code 1 D.rib.length D.gone.length W' (rows_of_own Hd.cl_len h) (rows_of_own Rt.cl_len k) (by omega) (by omega))
  unfold RoMark at HM
  unfold MarkPost at HX
  unfold RowPost at HT
  unfold RoPost at HS HI
  rw [Hd.marks_len, Rt.marks_len] at HM HD
  rw [Hd.marks_len] at HX
  obtain ⟨K, hK⟩ : ∃ K : Int, K = ((1 + 9 * D.rib.length + 7 * D.gone.length : Nat) : Int) := ⟨_, rfl⟩
  have hK0 : ¬ K < 0 := by omega
  rw [← hK] at HM HD
  obtain ⟨K1, hK1⟩ : ∃ K : Int, K = ((1 + 9 * l.length : Nat) : Int) := ⟨_, rfl⟩
  have hK2 : ¬ K1 < 0 := by omega
  rw [← hK1] at HX
  clear hK hK1 hsm hml hsl hle hbig
  generalize rcells Hd.cl l = C at *
  generalize rcells Hd.cl (Hd.marks 1 l.length) = CM at *
  generalize rcells Hd.cl (Hd.marks 1 D.rib.length) = EM at *
  generalize rcells Rt.cl (Rt.marks (1 + 9 * D.rib.length) D.gone.length) = FM at *
  generalize rcells Hd.cl D.rib = E at *
  generalize rcells Rt.cl D.gone = F at *
  generalize D.rib.length = dn at *
  generalize D.gone.length = dm at *
  generalize D.code = dc at *
  clear D
  unfold roV at *
  have A := HA0.out
  clear HA0
  go_enter Try.func4, Try.ntmps4
  go_upto_region 1 with fail
  rw [← hW0]
  clear hW0
  go_wp2_with fail
  refine (HZ.out _ A.bel).mono ?_
  rintro e w0 ⟨rfl, hw0⟩
  subst hw0
  clear HZ
  go_upto_region 5 with fail
  go_cut [8] from 15 (fun s8 wx => ∃ qw wa wc ya yc, s8 = .pointer (some ⟨qw, 0, none⟩) ∧ Hid (MemAt W [(qw, 33, #[.slice wa dn wc, .slice ya dm yc, .int .i64 dc]), (W.heap.size, 30, #[.int .i64 r.kind, .int .i64 r.vni, .int .i64 r.mac, .int .i64 r.ip, .int .i64 r.org, .int .i64 r.seq, .bool r.st])] [⟨W.heap.size, 35, 7, .slice ya dm yc, dm, F⟩, ⟨W.heap.size, 77, 9, .slice wa dn wc, dn, E⟩] wx))
  case first =>
    replace A := A.drew
    refine wp_region_held_drew (S := fun W' => MemAt W _ _ W') (by kernel_rfl) A (fun hHeld => ?_)
    clear hHeld
    generalize W0.drew = Wd at A ⊢
    refine wpAnyH_take (i := 0) (oi := { dst := some 20, op := Op.move (Operand.tmp 0), type := 22, pos := "exact.go:3506", after := #[], guard := none }) (v := ?vvs1) rfl (by kernel_rfl) (by kernel_rfl) (by kernel_rfl) (fun _ _ _ h => h) (Or.inl ⟨by rfl, ?hys1⟩) A ?rests1
    case hys1 => (intro w hSw; go_simp <;> with_reducible rfl)
    try simp only [Act.put, List.setIfInBounds_toArray, List.set_cons_zero, List.set_cons_succ]
    refine wpAnyH_take (i := 2) (oi := { dst := some 22, op := Op.move (Operand.tmp 1), type := 2, pos := "exact.go:3506", after := #[], guard := none }) (v := ?vvs2) rfl (by kernel_rfl) (by kernel_rfl) (by kernel_rfl) (fun _ _ _ h => h) (Or.inl ⟨by rfl, ?hys2⟩) A ?rests2
    case hys2 => (intro w hSw; go_simp <;> with_reducible rfl)
    try simp only [Act.put, List.setIfInBounds_toArray, List.set_cons_zero, List.set_cons_succ]
    refine wpAnyH_take (i := 3) (oi := { dst := some 23, op := Op.load 30 (Operand.tmp 5), type := 30, pos := "exact.go:3506", after := #[], guard := none }) (v := ?vvs3) rfl (by kernel_rfl) (by kernel_rfl) (by kernel_rfl) (fun _ _ _ h => h) (Or.inl ⟨by rfl, ?hys3⟩) A ?rests3
    case hys3 => (intro w hSw; have hc1 := hSw.b0.cell;go_simp <;> with_reducible rfl)
    try simp only [Act.put, List.setIfInBounds_toArray, List.set_cons_zero, List.set_cons_succ]
    refine wpAnyH_ready (rs := [1, 6]) (by kernel_rfl) (by simp) ?_
    refine (AllReadyH.cons (o := { dst := some 21, op := Op.call { callee := Callee.value (Operand.func 17), args := #[Operand.tmp 20], argTypes := #[22] }, type := 25, pos := "exact.go:3506", after := #[{ on := 0, ground := Ground.data }], guard := none }) rfl (fun K hK => ?_) (AllReadyH.cons (o := { dst := some 8, op := Op.alloc 33, type := 0, pos := "exact.go:3506", after := #[], guard := none }) rfl (fun K hK => ?_) AllReadyH.nil))
    focus
      go_simp
      refine (HT.out _ A.bel).mono ?_
      rintro x w10 ⟨v1, rfl, ho1, hbN⟩
      obtain ⟨b1, d1, rfl⟩ := rown_form ho1
      replace A := A.kept hbN
      try replace N := N.kept hbN
      try replace hcN := N.cell
      try replace hfN := N.frozen
      clear hbN
      refine hK.out _ _ A (fun hHeld => ?_)
      clear hK K hHeld
      try simp only [Act.put, List.setIfInBounds_toArray, List.set_cons_zero, List.set_cons_succ]
      refine wpAnyH_ready (rs := [4, 6]) (by kernel_rfl) (by simp) ?_
      refine (AllReadyH.cons (o := { dst := some 24, op := Op.call { callee := Callee.value (Operand.func 21), args := #[Operand.tmp 23], argTypes := #[30] }, type := 35, pos := "exact.go:3506", after := #[{ on := 3, ground := Ground.data }, { on := 1, ground := Ground.chain }], guard := none }) rfl (fun K hK => ?_) (AllReadyH.cons (o := { dst := some 8, op := Op.alloc 33, type := 0, pos := "exact.go:3506", after := #[], guard := none }) rfl (fun K hK => ?_) AllReadyH.nil))
      focus
        go_simp
        refine (HTR.out _).mono ?_
        rintro x w11 ⟨rfl, hbN⟩
        replace A := A.kept hbN
        replace ho1 := rown_below ho1 hbN
        try replace N := N.kept hbN
        try replace hcN := N.cell
        try replace hfN := N.frozen
        clear hbN
        refine hK.out _ _ A (fun hHeld => ?_)
        clear hK K hHeld
        try simp only [Act.put, List.setIfInBounds_toArray, List.set_cons_zero, List.set_cons_succ]
        refine wpAnyH_ready (rs := [5, 6]) (by kernel_rfl) (by simp) ?_
        refine (AllReadyH.cons (o := { dst := some 25, op := Op.call { callee := Callee.value (Operand.func 20), args := #[Operand.tmp 21, Operand.tmp 22, Operand.tmp 24], argTypes := #[25, 2, 35] }, type := 33, pos := "exact.go:3506", after := #[{ on := 1, ground := Ground.data }, { on := 2, ground := Ground.data }, { on := 4, ground := Ground.data }, { on := 4, ground := Ground.chain }], guard := none }) rfl (fun K hK => ?_) (AllReadyH.cons (o := { dst := some 8, op := Op.alloc 33, type := 0, pos := "exact.go:3506", after := #[], guard := none }) rfl (fun K hK => ?_) AllReadyH.nil))
        focus
          go_simp
          refine (HS.out _ _ _ ho1).mono ?_
          rintro x w12 ⟨wv, wt, rfl, ho, ht, apN, hbN⟩
          obtain ⟨wa, wc, rfl⟩ := rown_form ho
          obtain ⟨ya, yc, rfl⟩ := rown_form ht
          replace ho := rown_mono (B' := W.heap.size) ho A.bel.size
          replace ht := rown_mono (B' := W.heap.size) ht A.bel.size
          replace A := A.kept hbN
          try replace N := N.kept hbN
          try replace hcN := N.cell
          try replace hfN := N.frozen
          clear hbN apN ho1
          refine hK.out _ _ A (fun hHeld => ?_)
          clear hK K hHeld
          try simp only [Act.put, List.setIfInBounds_toArray, List.set_cons_zero, List.set_cons_succ]
          refine wpAnyH_ready (rs := [6]) (by kernel_rfl) (by simp) ?_
          refine AllReadyH.cons (o := { dst := some 8, op := Op.alloc 33, type := 0, pos := "exact.go:3506", after := #[], guard := none }) rfl (fun K hK => ?_) AllReadyH.nil
          go_simp
          obtain ⟨Wn, q6, hWn, hq6, An, bn, hq1, hq2, hq3⟩ := A.pack #[.slice none 0 0, .slice none 0 0, .int .i64 0] 33
          rw [hWn, hq6]
          have N := An.b0
          replace A := An.sub (fun q hq => .tail _ hq) (fun q hq => hq)
          have hcN := N.cell
          have hfN := N.frozen
          try replace ho1 := rown_below ho1 bn
          try replace ho := rown_below ho bn
          try replace ht := rown_below ht bn
          clear hWn hq6 An bn
          refine hK.out _ _ A (fun hHeld => ?_)
          clear hK K hHeld
          try simp only [Act.put, List.setIfInBounds_toArray, List.set_cons_zero, List.set_cons_succ]
          refine wpAnyH_ready (rs := [7]) (by kernel_rfl) (by simp) ?_
          refine AllReadyH.cons (o := { dst := none, op := Op.store 33 (Operand.tmp 8) (Operand.tmp 25), type := 0, pos := "exact.go:3506", after := #[{ on := 6, ground := Ground.data }, { on := 5, ground := Ground.data }, { on := 5, ground := Ground.chain }, { on := 0, ground := Ground.phase }, { on := 1, ground := Ground.phase }, { on := 2, ground := Ground.phase }, { on := 3, ground := Ground.phase }, { on := 4, ground := Ground.phase }, { on := 5, ground := Ground.phase }, { on := 6, ground := Ground.phase }], guard := none }) rfl (fun K hK => ?_) AllReadyH.nil
          go_simp
          have AF := A.fin3 ho ht N hq1 hq2 hq3 (by decide) (by decide) (.slice wa dn wc) (.slice ya dm yc) (.int .i64 dc)
          replace A := AF.sub (fun q hq => .tail _ hq) (fun q hq => .tail _ (.tail _ hq))
          refine hK.out _ _ A (fun hHeld => ?_)
          clear hK K hHeld
          try simp only [Act.put, List.setIfInBounds_toArray, List.set_cons_zero, List.set_cons_succ]
          refine wpAnyH_done (by kernel_rfl) ?_ _
        rotate_left 1
        focus
          go_simp
          obtain ⟨Wn, q6, hWn, hq6, An, bn, hq1, hq2, hq3⟩ := A.pack #[.slice none 0 0, .slice none 0 0, .int .i64 0] 33
          rw [hWn, hq6]
          have N := An.b0
          replace A := An.sub (fun q hq => .tail _ hq) (fun q hq => hq)
          have hcN := N.cell
          have hfN := N.frozen
          try replace ho1 := rown_below ho1 bn
          try replace ho := rown_below ho bn
          try replace ht := rown_below ht bn
          clear hWn hq6 An bn
          refine hK.out _ _ A (fun hHeld => ?_)
          clear hK K hHeld
          try simp only [Act.put, List.setIfInBounds_toArray, List.set_cons_zero, List.set_cons_succ]
          refine wpAnyH_ready (rs := [5]) (by kernel_rfl) (by simp) ?_
          refine AllReadyH.cons (o := { dst := some 25, op := Op.call { callee := Callee.value (Operand.func 20), args := #[Operand.tmp 21, Operand.tmp 22, Operand.tmp 24], argTypes := #[25, 2, 35] }, type := 33, pos := "exact.go:3506", after := #[{ on := 1, ground := Ground.data }, { on := 2, ground := Ground.data }, { on := 4, ground := Ground.data }, { on := 4, ground := Ground.chain }], guard := none }) rfl (fun K hK => ?_) AllReadyH.nil
          go_simp
          refine (HS.out _ _ _ ho1).mono ?_
          rintro x w12 ⟨wv, wt, rfl, ho, ht, apN, hbN⟩
          obtain ⟨wa, wc, rfl⟩ := rown_form ho
          obtain ⟨ya, yc, rfl⟩ := rown_form ht
          replace ho := rown_mono (B' := W.heap.size) ho A.bel.size
          replace ht := rown_mono (B' := W.heap.size) ht A.bel.size
          replace A := A.kept hbN
          try replace N := N.kept hbN
          try replace hcN := N.cell
          try replace hfN := N.frozen
          clear hbN apN ho1
          refine hK.out _ _ A (fun hHeld => ?_)
          clear hK K hHeld
          try simp only [Act.put, List.setIfInBounds_toArray, List.set_cons_zero, List.set_cons_succ]
          refine wpAnyH_ready (rs := [7]) (by kernel_rfl) (by simp) ?_
          refine AllReadyH.cons (o := { dst := none, op := Op.store 33 (Operand.tmp 8) (Operand.tmp 25), type := 0, pos := "exact.go:3506", after := #[{ on := 6, ground := Ground.data }, { on := 5, ground := Ground.data }, { on := 5, ground := Ground.chain }, { on := 0, ground := Ground.phase }, { on := 1, ground := Ground.phase }, { on := 2, ground := Ground.phase }, { on := 3, ground := Ground.phase }, { on := 4, ground := Ground.phase }, { on := 5, ground := Ground.phase }, { on := 6, ground := Ground.phase }], guard := none }) rfl (fun K hK => ?_) AllReadyH.nil
          go_simp
          have AF := A.fin3 ho ht N hq1 hq2 hq3 (by decide) (by decide) (.slice wa dn wc) (.slice ya dm yc) (.int .i64 dc)
          replace A := AF.sub (fun q hq => .tail _ hq) (fun q hq => .tail _ (.tail _ hq))
          refine hK.out _ _ A (fun hHeld => ?_)
          clear hK K hHeld
          try simp only [Act.put, List.setIfInBounds_toArray, List.set_cons_zero, List.set_cons_succ]
          refine wpAnyH_done (by kernel_rfl) ?_ _
        rotate_left 1
      rotate_left 2
      focus
        go_simp
        obtain ⟨Wn, q6, hWn, hq6, An, bn, hq1, hq2, hq3⟩ := A.pack #[.slice none 0 0, .slice none 0 0, .int .i64 0] 33
        rw [hWn, hq6]
        have N := An.b0
        replace A := An.sub (fun q hq => .tail _ hq) (fun q hq => hq)
        have hcN := N.cell
        have hfN := N.frozen
        try replace ho1 := rown_below ho1 bn
        try replace ho := rown_below ho bn
        try replace ht := rown_below ht bn
        clear hWn hq6 An bn
        refine hK.out _ _ A (fun hHeld => ?_)
        clear hK K hHeld
        try simp only [Act.put, List.setIfInBounds_toArray, List.set_cons_zero, List.set_cons_succ]
        refine wpAnyH_ready (rs := [4]) (by kernel_rfl) (by simp) ?_
        refine AllReadyH.cons (o := { dst := some 24, op := Op.call { callee := Callee.value (Operand.func 21), args := #[Operand.tmp 23], argTypes := #[30] }, type := 35, pos := "exact.go:3506", after := #[{ on := 3, ground := Ground.data }, { on := 1, ground := Ground.chain }], guard := none }) rfl (fun K hK => ?_) AllReadyH.nil
        go_simp
        refine (HTR.out _).mono ?_
        rintro x w11 ⟨rfl, hbN⟩
        replace A := A.kept hbN
        replace ho1 := rown_below ho1 hbN
        try replace N := N.kept hbN
        try replace hcN := N.cell
        try replace hfN := N.frozen
        clear hbN
        refine hK.out _ _ A (fun hHeld => ?_)
        clear hK K hHeld
        try simp only [Act.put, List.setIfInBounds_toArray, List.set_cons_zero, List.set_cons_succ]
        refine wpAnyH_ready (rs := [5]) (by kernel_rfl) (by simp) ?_
        refine AllReadyH.cons (o := { dst := some 25, op := Op.call { callee := Callee.value (Operand.func 20), args := #[Operand.tmp 21, Operand.tmp 22, Operand.tmp 24], argTypes := #[25, 2, 35] }, type := 33, pos := "exact.go:3506", after := #[{ on := 1, ground := Ground.data }, { on := 2, ground := Ground.data }, { on := 4, ground := Ground.data }, { on := 4, ground := Ground.chain }], guard := none }) rfl (fun K hK => ?_) AllReadyH.nil
        go_simp
        refine (HS.out _ _ _ ho1).mono ?_
        rintro x w12 ⟨wv, wt, rfl, ho, ht, apN, hbN⟩
        obtain ⟨wa, wc, rfl⟩ := rown_form ho
        obtain ⟨ya, yc, rfl⟩ := rown_form ht
        replace ho := rown_mono (B' := W.heap.size) ho A.bel.size
        replace ht := rown_mono (B' := W.heap.size) ht A.bel.size
        replace A := A.kept hbN
        try replace N := N.kept hbN
        try replace hcN := N.cell
        try replace hfN := N.frozen
        clear hbN apN ho1
        refine hK.out _ _ A (fun hHeld => ?_)
        clear hK K hHeld
        try simp only [Act.put, List.setIfInBounds_toArray, List.set_cons_zero, List.set_cons_succ]
        refine wpAnyH_ready (rs := [7]) (by kernel_rfl) (by simp) ?_
        refine AllReadyH.cons (o := { dst := none, op := Op.store 33 (Operand.tmp 8) (Operand.tmp 25), type := 0, pos := "exact.go:3506", after := #[{ on := 6, ground := Ground.data }, { on := 5, ground := Ground.data }, { on := 5, ground := Ground.chain }, { on := 0, ground := Ground.phase }, { on := 1, ground := Ground.phase }, { on := 2, ground := Ground.phase }, { on := 3, ground := Ground.phase }, { on := 4, ground := Ground.phase }, { on := 5, ground := Ground.phase }, { on := 6, ground := Ground.phase }], guard := none }) rfl (fun K hK => ?_) AllReadyH.nil
        go_simp
        have AF := A.fin3 ho ht N hq1 hq2 hq3 (by decide) (by decide) (.slice wa dn wc) (.slice ya dm yc) (.int .i64 dc)
        replace A := AF.sub (fun q hq => .tail _ hq) (fun q hq => .tail _ (.tail _ hq))
        refine hK.out _ _ A (fun hHeld => ?_)
        clear hK K hHeld
        try simp only [Act.put, List.setIfInBounds_toArray, List.set_cons_zero, List.set_cons_succ]
        refine wpAnyH_done (by kernel_rfl) ?_ _
      rotate_left 1
    rotate_left 3
    focus
      go_simp
      obtain ⟨Wn, q6, hWn, hq6, An, bn, hq1, hq2, hq3⟩ := A.pack #[.slice none 0 0, .slice none 0 0, .int .i64 0] 33
      rw [hWn, hq6]
      have N := An.b0
      replace A := An.sub (fun q hq => .tail _ hq) (fun q hq => hq)
      have hcN := N.cell
      have hfN := N.frozen
      try replace ho1 := rown_below ho1 bn
      try replace ho := rown_below ho bn
      try replace ht := rown_below ht bn
      clear hWn hq6 An bn
      refine hK.out _ _ A (fun hHeld => ?_)
      clear hK K hHeld
      try simp only [Act.put, List.setIfInBounds_toArray, List.set_cons_zero, List.set_cons_succ]
      refine wpAnyH_ready (rs := [1]) (by kernel_rfl) (by simp) ?_
      refine AllReadyH.cons (o := { dst := some 21, op := Op.call { callee := Callee.value (Operand.func 17), args := #[Operand.tmp 20], argTypes := #[22] }, type := 25, pos := "exact.go:3506", after := #[{ on := 0, ground := Ground.data }], guard := none }) rfl (fun K hK => ?_) AllReadyH.nil
      go_simp
      refine (HT.out _ A.bel).mono ?_
      rintro x w10 ⟨v1, rfl, ho1, hbN⟩
      obtain ⟨b1, d1, rfl⟩ := rown_form ho1
      replace A := A.kept hbN
      try replace N := N.kept hbN
      try replace hcN := N.cell
      try replace hfN := N.frozen
      clear hbN
      refine hK.out _ _ A (fun hHeld => ?_)
      clear hK K hHeld
      try simp only [Act.put, List.setIfInBounds_toArray, List.set_cons_zero, List.set_cons_succ]
      refine wpAnyH_ready (rs := [4]) (by kernel_rfl) (by simp) ?_
      refine AllReadyH.cons (o := { dst := some 24, op := Op.call { callee := Callee.value (Operand.func 21), args := #[Operand.tmp 23], argTypes := #[30] }, type := 35, pos := "exact.go:3506", after := #[{ on := 3, ground := Ground.data }, { on := 1, ground := Ground.chain }], guard := none }) rfl (fun K hK => ?_) AllReadyH.nil
      go_simp
      refine (HTR.out _).mono ?_
      rintro x w11 ⟨rfl, hbN⟩
      replace A := A.kept hbN
      replace ho1 := rown_below ho1 hbN
      try replace N := N.kept hbN
      try replace hcN := N.cell
      try replace hfN := N.frozen
      clear hbN
      refine hK.out _ _ A (fun hHeld => ?_)
      clear hK K hHeld
      try simp only [Act.put, List.setIfInBounds_toArray, List.set_cons_zero, List.set_cons_succ]
      refine wpAnyH_ready (rs := [5]) (by kernel_rfl) (by simp) ?_
      refine AllReadyH.cons (o := { dst := some 25, op := Op.call { callee := Callee.value (Operand.func 20), args := #[Operand.tmp 21, Operand.tmp 22, Operand.tmp 24], argTypes := #[25, 2, 35] }, type := 33, pos := "exact.go:3506", after := #[{ on := 1, ground := Ground.data }, { on := 2, ground := Ground.data }, { on := 4, ground := Ground.data }, { on := 4, ground := Ground.chain }], guard := none }) rfl (fun K hK => ?_) AllReadyH.nil
      go_simp
      refine (HS.out _ _ _ ho1).mono ?_
      rintro x w12 ⟨wv, wt, rfl, ho, ht, apN, hbN⟩
      obtain ⟨wa, wc, rfl⟩ := rown_form ho
      obtain ⟨ya, yc, rfl⟩ := rown_form ht
      replace ho := rown_mono (B' := W.heap.size) ho A.bel.size
      replace ht := rown_mono (B' := W.heap.size) ht A.bel.size
      replace A := A.kept hbN
      try replace N := N.kept hbN
      try replace hcN := N.cell
      try replace hfN := N.frozen
      clear hbN apN ho1
      refine hK.out _ _ A (fun hHeld => ?_)
      clear hK K hHeld
      try simp only [Act.put, List.setIfInBounds_toArray, List.set_cons_zero, List.set_cons_succ]
      refine wpAnyH_ready (rs := [7]) (by kernel_rfl) (by simp) ?_
      refine AllReadyH.cons (o := { dst := none, op := Op.store 33 (Operand.tmp 8) (Operand.tmp 25), type := 0, pos := "exact.go:3506", after := #[{ on := 6, ground := Ground.data }, { on := 5, ground := Ground.data }, { on := 5, ground := Ground.chain }, { on := 0, ground := Ground.phase }, { on := 1, ground := Ground.phase }, { on := 2, ground := Ground.phase }, { on := 3, ground := Ground.phase }, { on := 4, ground := Ground.phase }, { on := 5, ground := Ground.phase }, { on := 6, ground := Ground.phase }], guard := none }) rfl (fun K hK => ?_) AllReadyH.nil
      go_simp
      have AF := A.fin3 ho ht N hq1 hq2 hq3 (by decide) (by decide) (.slice wa dn wc) (.slice ya dm yc) (.int .i64 dc)
      replace A := AF.sub (fun q hq => .tail _ hq) (fun q hq => .tail _ (.tail _ hq))
      refine hK.out _ _ A (fun hHeld => ?_)
      clear hK K hHeld
      try simp only [Act.put, List.setIfInBounds_toArray, List.set_cons_zero, List.set_cons_succ]
      refine wpAnyH_done (by kernel_rfl) ?_ _
    rotate_left 1
    all_goals
      go_wp2_with fail
      go_meet
      exact ⟨_, _, _, _, _, rfl, Lib.hid AF⟩
  case rest =>
  obtain ⟨qw, wa, wc, ya, yc, rfl, hA⟩ := hcut
  clear A
  have A := hA.out
  clear hA
  go_wp2_with fail
  refine (HT.out _ A.bel).mono ?_
  rintro x w3 ⟨xv, rfl, ho, hb⟩
  have AP1 := Lib.hid (rown_apart A.r0 ho (Nat.le_refl _))
  have AP2 := Lib.hid (rown_apart A.r1 ho (Nat.le_refl _))
  replace A := A.made0 hb ho
  obtain ⟨xa, xc, rfl⟩ := rown_form ho
  clear ho hb
  have hcB := A.b1.cell
  go_wp2_with fail
  refine (HTR.out _).mono ?_
  rintro x w3b ⟨rfl, hb⟩
  replace A := A.kept hb
  clear hb hcB
  go_wp2_with fail
  refine (HI.out _ _ _ A.r0).mono ?_
  rintro x w4 ⟨gv, gt, rfl, ho, ht, ap, hb⟩
  have HLow := Lib.hid A.low
  have hszW := A.bel.size
  have AP3 := Lib.hid (rown_apart A.r0 ho (Nat.le_refl _))
  have AP4 := Lib.hid (rown_apart A.r0 ht (Nat.le_refl _))
  have hszB := hb.size
  obtain ⟨Bg, hBg⟩ : ∃ B, B = w3b.heap.size := ⟨_, rfl⟩
  rw [← hBg] at ho ht HLow hszW hszB
  replace A := ((A.kept hb).own ho).own ht
  obtain ⟨ga, gc, rfl⟩ := rown_form ho
  obtain ⟨ha, hc, rfl⟩ := rown_form ht
  have APG := Lib.hid ap
  clear ho ht ap hb hBg
  go_upto_region 8 with fail
  replace A := A.new 33 #[.slice ga dn gc, .slice ha dm hc, .int .i64 dc]
  obtain ⟨W4, hW4⟩ : ∃ X, X = w4.alloc (.cells #[.slice ga dn gc, .slice ha dm hc, .int .i64 dc] 33) := ⟨_, rfl⟩
  obtain ⟨qg, hqg⟩ : ∃ q, q = w4.heap.size := ⟨_, rfl⟩
  rw [← hW4, ← hqg]
  rw [← hW4, ← hqg] at A
  replace hszB : Bg ≤ W4.heap.size := by rw [hW4]; simp; omega
  clear hW4 hqg
  have hc1 := A.b0.cell
  have hc2 := A.b1.cell
  go_wp2_with fail
  refine (HQ.out _ _ _ _ _ _ _ _ _ A.r1 A.r4 A.r0 A.r3).mono ?_
  rintro x w5 ⟨rfl, hb⟩
  replace A := A.kept hb
  try replace hszB := Nat.le_trans hszB hb.size
  clear hb hc1 hc2
  go_wp2_with fail
  refine (HT.out _ A.bel).mono ?_
  rintro x w6 ⟨v6, rfl, ho, hb⟩
  replace A := A.kept hb
  replace hszB := Nat.le_trans hszB hb.size
  obtain ⟨a6, c6, rfl⟩ := rown_form ho
  have H6 := Lib.hid ho
  clear ho hb
  go_wp2_with fail
  refine (HE.out _ _ _ _ _ A.r2 H6.out).mono ?_
  rintro x w7 ⟨rfl, hb⟩
  replace A := A.kept hb
  replace hszB := Nat.le_trans hszB hb.size
  clear hb H6
  go_wp2_with fail
  refine (HX.out _ _ _ _ A.r2).mono ?_
  rintro x w8 ⟨rfl, ho, hg⟩
  have A8 := A.grown (L' := [(qg, 33, #[.slice ga dn gc, .slice ha dm hc, .int .i64 dc]), (qw, 33, #[.slice wa dn wc, .slice ya dm yc, .int .i64 dc]), (W.heap.size, 30, #[.int .i64 r.kind, .int .i64 r.vni, .int .i64 r.mac, .int .i64 r.ip, .int .i64 r.org, .int .i64 r.seq, .bool r.st])]) (R' := [⟨Bg, 35, 7, .slice ha dm hc, dm, F⟩, ⟨Bg, 77, 9, .slice ga dn gc, dn, E⟩, ⟨W.heap.size, 35, 7, .slice ya dm yc, dm, F⟩, ⟨W.heap.size, 77, 9, .slice wa dn wc, dn, E⟩]) hg (fun k hk => (A.r2.lt k hk).1) (fun q hq => by
    simp only [List.mem_cons, List.not_mem_nil, or_false] at hq
    rcases hq with rfl | rfl | rfl
    · exact ⟨.head _, blk_not_own1 A.b0 A.r2 (show (33 : Nat) ≠ 77 by decide)⟩
    · exact ⟨.tail _ (.head _), blk_not_own1 A.b1 A.r2 (show (33 : Nat) ≠ 77 by decide)⟩
    · exact ⟨.tail _ (.tail _ (.head _)), blk_not_own1 A.b2 A.r2 (show (30 : Nat) ≠ 77 by decide)⟩) (fun q hq => by
    simp only [List.mem_cons, List.not_mem_nil, or_false] at hq
    rcases hq with rfl | rfl | rfl | rfl
    · exact ⟨.head _, AP4.out⟩
    · exact ⟨.tail _ (.head _), AP3.out⟩
    · exact ⟨.tail _ (.tail _ (.tail _ (.head _))), rapart_symm AP1.out⟩
    · exact ⟨.tail _ (.tail _ (.tail _ (.tail _ (.head _)))), rapart_symm AP2.out⟩)
  replace hszB := Nat.le_trans hszB hg.size
  clear A
  have A := A8
  clear A8 ho hg HX AP1 AP2 AP3 AP4
  have hc1 := A.b0.cell
  have hc2 := A.b1.cell
  go_wp2_with fail
  refine (HQ.out _ _ _ _ _ _ _ _ _ A.r1 A.r3 A.r0 A.r2).mono ?_
  rintro x w5 ⟨rfl, hb⟩
  replace A := A.kept hb
  try replace hszB := Nat.le_trans hszB hb.size
  clear hb hc1 hc2
  have hc1 := A.b0.cell
  go_wp2_with fail
  refine (HM.out _ _ _ _ _ _ hszB A.r1 A.r0 APG.out).mono ?_
  rintro x w10 ⟨rfl, ho, ht, hb, hk⟩
  have A8 := ((A.marked2 (R' := [⟨W.heap.size, 35, 7, .slice ya dm yc, dm, F⟩, ⟨W.heap.size, 77, 9, .slice wa dn wc, dn, E⟩]) hb hszW hk (fun q hq => by
    simp only [List.mem_cons, List.not_mem_nil, or_false] at hq
    rcases hq with rfl | rfl | rfl
    · exact ⟨(show (33 : Nat) ≠ 77 by decide), (show (33 : Nat) ≠ 35 by decide)⟩
    · exact ⟨(show (33 : Nat) ≠ 77 by decide), (show (33 : Nat) ≠ 35 by decide)⟩
    · exact ⟨(show (30 : Nat) ≠ 77 by decide), (show (30 : Nat) ≠ 35 by decide)⟩) (fun q hq => by
    simp only [List.mem_cons, List.not_mem_nil, or_false] at hq
    rcases hq with rfl | rfl
    · exact ⟨.tail _ (.tail _ (.head _)), HLow.out _ (.tail _ (.head _))⟩
    · exact ⟨.tail _ (.tail _ (.tail _ (.head _))), HLow.out _ (.tail _ (.tail _ (.head _)))⟩)).own ho).own ht
  clear A
  have A := A8
  clear A8 ho ht hb hk HM hc1 hszB hszW HLow APG
  have hc1 := A.b0.cell
  go_wp2_with fail
  refine (HD.out _ _ _ _ _ A.r1 A.r0).mono ?_
  rintro x w11 ⟨rfl, hb⟩
  replace A := A.kept hb
  clear hb hc1
  go_upto_region 24 with fail
  go_cut [14] from 15 (fun s14 wx => ∃ qh ka kc ja jc, s14 = .pointer (some ⟨qh, 0, none⟩) ∧ Hid (MemAt W [(qh, 33, #[.slice ka dn kc, .slice ja dm jc, .int .i64 dc]), (qg, 33, #[.slice ga dn gc, .slice ha dm hc, .int .i64 dc]), (qw, 33, #[.slice wa dn wc, .slice ya dm yc, .int .i64 dc]), (W.heap.size, 30, #[.int .i64 r.kind, .int .i64 r.vni, .int .i64 r.mac, .int .i64 r.ip, .int .i64 r.org, .int .i64 r.seq, .bool r.st])] [⟨W.heap.size, 35, 7, .slice ja dm jc, dm, F⟩, ⟨W.heap.size, 77, 9, .slice ka dn kc, dn, E⟩, ⟨Bg, 35, 7, .slice ha dm hc, dm, FM⟩, ⟨Bg, 77, 9, .slice ga dn gc, dn, EM⟩, ⟨W.heap.size, 35, 7, .slice ya dm yc, dm, F⟩, ⟨W.heap.size, 77, 9, .slice wa dn wc, dn, E⟩] wx))
  case first =>
    replace A := A.drew
    refine wp_region_held_drew (S := fun W' => MemAt W _ _ W') (by kernel_rfl) A (fun hHeld => ?_)
    clear hHeld
    generalize w11.drew = Wd at A ⊢
    refine wpAnyH_take (i := 0) (oi := { dst := some 64, op := Op.move (Operand.tmp 0), type := 22, pos := "exact.go:3530", after := #[], guard := none }) (v := ?vvu1) rfl (by kernel_rfl) (by kernel_rfl) (by kernel_rfl) (fun _ _ _ h => h) (Or.inl ⟨by rfl, ?hyu1⟩) A ?restu1
    case hyu1 => (intro w hSw; go_simp <;> with_reducible rfl)
    try simp only [Act.put, List.setIfInBounds_toArray, List.set_cons_zero, List.set_cons_succ]
    refine wpAnyH_take (i := 2) (oi := { dst := some 66, op := Op.move (Operand.tmp 1), type := 2, pos := "exact.go:3530", after := #[], guard := none }) (v := ?vvu2) rfl (by kernel_rfl) (by kernel_rfl) (by kernel_rfl) (fun _ _ _ h => h) (Or.inl ⟨by rfl, ?hyu2⟩) A ?restu2
    case hyu2 => (intro w hSw; go_simp <;> with_reducible rfl)
    try simp only [Act.put, List.setIfInBounds_toArray, List.set_cons_zero, List.set_cons_succ]
    refine wpAnyH_take (i := 3) (oi := { dst := some 67, op := Op.load 30 (Operand.tmp 5), type := 30, pos := "exact.go:3530", after := #[], guard := none }) (v := ?vvu3) rfl (by kernel_rfl) (by kernel_rfl) (by kernel_rfl) (fun _ _ _ h => h) (Or.inl ⟨by rfl, ?hyu3⟩) A ?restu3
    case hyu3 => (intro w hSw; have hc1 := hSw.b2.cell;go_simp <;> with_reducible rfl)
    try simp only [Act.put, List.setIfInBounds_toArray, List.set_cons_zero, List.set_cons_succ]
    refine wpAnyH_ready (rs := [1, 6]) (by kernel_rfl) (by simp) ?_
    refine (AllReadyH.cons (o := { dst := some 65, op := Op.call { callee := Callee.value (Operand.func 17), args := #[Operand.tmp 64], argTypes := #[22] }, type := 25, pos := "exact.go:3530", after := #[{ on := 0, ground := Ground.data }], guard := none }) rfl (fun K hK => ?_) (AllReadyH.cons (o := { dst := some 14, op := Op.alloc 33, type := 0, pos := "exact.go:3530", after := #[], guard := none }) rfl (fun K hK => ?_) AllReadyH.nil))
    focus
      go_simp
      refine (HT.out _ A.bel).mono ?_
      rintro x w10 ⟨v1, rfl, ho1, hbN⟩
      obtain ⟨b1, d1, rfl⟩ := rown_form ho1
      replace A := A.kept hbN
      try replace N := N.kept hbN
      try replace hcN := N.cell
      try replace hfN := N.frozen
      clear hbN
      refine hK.out _ _ A (fun hHeld => ?_)
      clear hK K hHeld
      try simp only [Act.put, List.setIfInBounds_toArray, List.set_cons_zero, List.set_cons_succ]
      refine wpAnyH_ready (rs := [4, 6]) (by kernel_rfl) (by simp) ?_
      refine (AllReadyH.cons (o := { dst := some 68, op := Op.call { callee := Callee.value (Operand.func 21), args := #[Operand.tmp 67], argTypes := #[30] }, type := 35, pos := "exact.go:3530", after := #[{ on := 3, ground := Ground.data }, { on := 1, ground := Ground.chain }], guard := none }) rfl (fun K hK => ?_) (AllReadyH.cons (o := { dst := some 14, op := Op.alloc 33, type := 0, pos := "exact.go:3530", after := #[], guard := none }) rfl (fun K hK => ?_) AllReadyH.nil))
      focus
        go_simp
        refine (HTR.out _).mono ?_
        rintro x w11 ⟨rfl, hbN⟩
        replace A := A.kept hbN
        replace ho1 := rown_below ho1 hbN
        try replace N := N.kept hbN
        try replace hcN := N.cell
        try replace hfN := N.frozen
        clear hbN
        refine hK.out _ _ A (fun hHeld => ?_)
        clear hK K hHeld
        try simp only [Act.put, List.setIfInBounds_toArray, List.set_cons_zero, List.set_cons_succ]
        refine wpAnyH_ready (rs := [5, 6]) (by kernel_rfl) (by simp) ?_
        refine (AllReadyH.cons (o := { dst := some 69, op := Op.call { callee := Callee.value (Operand.func 22), args := #[Operand.tmp 65, Operand.tmp 66, Operand.tmp 68], argTypes := #[25, 2, 35] }, type := 33, pos := "exact.go:3530", after := #[{ on := 1, ground := Ground.data }, { on := 2, ground := Ground.data }, { on := 4, ground := Ground.data }, { on := 4, ground := Ground.chain }], guard := none }) rfl (fun K hK => ?_) (AllReadyH.cons (o := { dst := some 14, op := Op.alloc 33, type := 0, pos := "exact.go:3530", after := #[], guard := none }) rfl (fun K hK => ?_) AllReadyH.nil))
        focus
          go_simp
          refine (HI.out _ _ _ ho1).mono ?_
          rintro x w12 ⟨wv, wt, rfl, ho, ht, apN, hbN⟩
          obtain ⟨ka, kc, rfl⟩ := rown_form ho
          obtain ⟨ja, jc, rfl⟩ := rown_form ht
          replace ho := rown_mono (B' := W.heap.size) ho A.bel.size
          replace ht := rown_mono (B' := W.heap.size) ht A.bel.size
          replace A := A.kept hbN
          try replace N := N.kept hbN
          try replace hcN := N.cell
          try replace hfN := N.frozen
          clear hbN apN ho1
          refine hK.out _ _ A (fun hHeld => ?_)
          clear hK K hHeld
          try simp only [Act.put, List.setIfInBounds_toArray, List.set_cons_zero, List.set_cons_succ]
          refine wpAnyH_ready (rs := [6]) (by kernel_rfl) (by simp) ?_
          refine AllReadyH.cons (o := { dst := some 14, op := Op.alloc 33, type := 0, pos := "exact.go:3530", after := #[], guard := none }) rfl (fun K hK => ?_) AllReadyH.nil
          go_simp
          obtain ⟨Wn, q6, hWn, hq6, An, bn, hq1, hq2, hq3⟩ := A.pack #[.slice none 0 0, .slice none 0 0, .int .i64 0] 33
          rw [hWn, hq6]
          have N := An.b0
          replace A := An.sub (fun q hq => .tail _ hq) (fun q hq => hq)
          have hcN := N.cell
          have hfN := N.frozen
          try replace ho1 := rown_below ho1 bn
          try replace ho := rown_below ho bn
          try replace ht := rown_below ht bn
          clear hWn hq6 An bn
          refine hK.out _ _ A (fun hHeld => ?_)
          clear hK K hHeld
          try simp only [Act.put, List.setIfInBounds_toArray, List.set_cons_zero, List.set_cons_succ]
          refine wpAnyH_ready (rs := [7]) (by kernel_rfl) (by simp) ?_
          refine AllReadyH.cons (o := { dst := none, op := Op.store 33 (Operand.tmp 14) (Operand.tmp 69), type := 0, pos := "exact.go:3530", after := #[{ on := 6, ground := Ground.data }, { on := 5, ground := Ground.data }, { on := 5, ground := Ground.chain }, { on := 0, ground := Ground.phase }, { on := 1, ground := Ground.phase }, { on := 2, ground := Ground.phase }, { on := 3, ground := Ground.phase }, { on := 4, ground := Ground.phase }, { on := 5, ground := Ground.phase }, { on := 6, ground := Ground.phase }], guard := none }) rfl (fun K hK => ?_) AllReadyH.nil
          go_simp
          have AF := A.fin3 ho ht N hq1 hq2 hq3 (by decide) (by decide) (.slice ka dn kc) (.slice ja dm jc) (.int .i64 dc)
          replace A := AF.sub (fun q hq => .tail _ hq) (fun q hq => .tail _ (.tail _ hq))
          refine hK.out _ _ A (fun hHeld => ?_)
          clear hK K hHeld
          try simp only [Act.put, List.setIfInBounds_toArray, List.set_cons_zero, List.set_cons_succ]
          refine wpAnyH_done (by kernel_rfl) ?_ _
        rotate_left 1
        focus
          go_simp
          obtain ⟨Wn, q6, hWn, hq6, An, bn, hq1, hq2, hq3⟩ := A.pack #[.slice none 0 0, .slice none 0 0, .int .i64 0] 33
          rw [hWn, hq6]
          have N := An.b0
          replace A := An.sub (fun q hq => .tail _ hq) (fun q hq => hq)
          have hcN := N.cell
          have hfN := N.frozen
          try replace ho1 := rown_below ho1 bn
          try replace ho := rown_below ho bn
          try replace ht := rown_below ht bn
          clear hWn hq6 An bn
          refine hK.out _ _ A (fun hHeld => ?_)
          clear hK K hHeld
          try simp only [Act.put, List.setIfInBounds_toArray, List.set_cons_zero, List.set_cons_succ]
          refine wpAnyH_ready (rs := [5]) (by kernel_rfl) (by simp) ?_
          refine AllReadyH.cons (o := { dst := some 69, op := Op.call { callee := Callee.value (Operand.func 22), args := #[Operand.tmp 65, Operand.tmp 66, Operand.tmp 68], argTypes := #[25, 2, 35] }, type := 33, pos := "exact.go:3530", after := #[{ on := 1, ground := Ground.data }, { on := 2, ground := Ground.data }, { on := 4, ground := Ground.data }, { on := 4, ground := Ground.chain }], guard := none }) rfl (fun K hK => ?_) AllReadyH.nil
          go_simp
          refine (HI.out _ _ _ ho1).mono ?_
          rintro x w12 ⟨wv, wt, rfl, ho, ht, apN, hbN⟩
          obtain ⟨ka, kc, rfl⟩ := rown_form ho
          obtain ⟨ja, jc, rfl⟩ := rown_form ht
          replace ho := rown_mono (B' := W.heap.size) ho A.bel.size
          replace ht := rown_mono (B' := W.heap.size) ht A.bel.size
          replace A := A.kept hbN
          try replace N := N.kept hbN
          try replace hcN := N.cell
          try replace hfN := N.frozen
          clear hbN apN ho1
          refine hK.out _ _ A (fun hHeld => ?_)
          clear hK K hHeld
          try simp only [Act.put, List.setIfInBounds_toArray, List.set_cons_zero, List.set_cons_succ]
          refine wpAnyH_ready (rs := [7]) (by kernel_rfl) (by simp) ?_
          refine AllReadyH.cons (o := { dst := none, op := Op.store 33 (Operand.tmp 14) (Operand.tmp 69), type := 0, pos := "exact.go:3530", after := #[{ on := 6, ground := Ground.data }, { on := 5, ground := Ground.data }, { on := 5, ground := Ground.chain }, { on := 0, ground := Ground.phase }, { on := 1, ground := Ground.phase }, { on := 2, ground := Ground.phase }, { on := 3, ground := Ground.phase }, { on := 4, ground := Ground.phase }, { on := 5, ground := Ground.phase }, { on := 6, ground := Ground.phase }], guard := none }) rfl (fun K hK => ?_) AllReadyH.nil
          go_simp
          have AF := A.fin3 ho ht N hq1 hq2 hq3 (by decide) (by decide) (.slice ka dn kc) (.slice ja dm jc) (.int .i64 dc)
          replace A := AF.sub (fun q hq => .tail _ hq) (fun q hq => .tail _ (.tail _ hq))
          refine hK.out _ _ A (fun hHeld => ?_)
          clear hK K hHeld
          try simp only [Act.put, List.setIfInBounds_toArray, List.set_cons_zero, List.set_cons_succ]
          refine wpAnyH_done (by kernel_rfl) ?_ _
        rotate_left 1
      rotate_left 2
      focus
        go_simp
        obtain ⟨Wn, q6, hWn, hq6, An, bn, hq1, hq2, hq3⟩ := A.pack #[.slice none 0 0, .slice none 0 0, .int .i64 0] 33
        rw [hWn, hq6]
        have N := An.b0
        replace A := An.sub (fun q hq => .tail _ hq) (fun q hq => hq)
        have hcN := N.cell
        have hfN := N.frozen
        try replace ho1 := rown_below ho1 bn
        try replace ho := rown_below ho bn
        try replace ht := rown_below ht bn
        clear hWn hq6 An bn
        refine hK.out _ _ A (fun hHeld => ?_)
        clear hK K hHeld
        try simp only [Act.put, List.setIfInBounds_toArray, List.set_cons_zero, List.set_cons_succ]
        refine wpAnyH_ready (rs := [4]) (by kernel_rfl) (by simp) ?_
        refine AllReadyH.cons (o := { dst := some 68, op := Op.call { callee := Callee.value (Operand.func 21), args := #[Operand.tmp 67], argTypes := #[30] }, type := 35, pos := "exact.go:3530", after := #[{ on := 3, ground := Ground.data }, { on := 1, ground := Ground.chain }], guard := none }) rfl (fun K hK => ?_) AllReadyH.nil
        go_simp
        refine (HTR.out _).mono ?_
        rintro x w11 ⟨rfl, hbN⟩
        replace A := A.kept hbN
        replace ho1 := rown_below ho1 hbN
        try replace N := N.kept hbN
        try replace hcN := N.cell
        try replace hfN := N.frozen
        clear hbN
        refine hK.out _ _ A (fun hHeld => ?_)
        clear hK K hHeld
        try simp only [Act.put, List.setIfInBounds_toArray, List.set_cons_zero, List.set_cons_succ]
        refine wpAnyH_ready (rs := [5]) (by kernel_rfl) (by simp) ?_
        refine AllReadyH.cons (o := { dst := some 69, op := Op.call { callee := Callee.value (Operand.func 22), args := #[Operand.tmp 65, Operand.tmp 66, Operand.tmp 68], argTypes := #[25, 2, 35] }, type := 33, pos := "exact.go:3530", after := #[{ on := 1, ground := Ground.data }, { on := 2, ground := Ground.data }, { on := 4, ground := Ground.data }, { on := 4, ground := Ground.chain }], guard := none }) rfl (fun K hK => ?_) AllReadyH.nil
        go_simp
        refine (HI.out _ _ _ ho1).mono ?_
        rintro x w12 ⟨wv, wt, rfl, ho, ht, apN, hbN⟩
        obtain ⟨ka, kc, rfl⟩ := rown_form ho
        obtain ⟨ja, jc, rfl⟩ := rown_form ht
        replace ho := rown_mono (B' := W.heap.size) ho A.bel.size
        replace ht := rown_mono (B' := W.heap.size) ht A.bel.size
        replace A := A.kept hbN
        try replace N := N.kept hbN
        try replace hcN := N.cell
        try replace hfN := N.frozen
        clear hbN apN ho1
        refine hK.out _ _ A (fun hHeld => ?_)
        clear hK K hHeld
        try simp only [Act.put, List.setIfInBounds_toArray, List.set_cons_zero, List.set_cons_succ]
        refine wpAnyH_ready (rs := [7]) (by kernel_rfl) (by simp) ?_
        refine AllReadyH.cons (o := { dst := none, op := Op.store 33 (Operand.tmp 14) (Operand.tmp 69), type := 0, pos := "exact.go:3530", after := #[{ on := 6, ground := Ground.data }, { on := 5, ground := Ground.data }, { on := 5, ground := Ground.chain }, { on := 0, ground := Ground.phase }, { on := 1, ground := Ground.phase }, { on := 2, ground := Ground.phase }, { on := 3, ground := Ground.phase }, { on := 4, ground := Ground.phase }, { on := 5, ground := Ground.phase }, { on := 6, ground := Ground.phase }], guard := none }) rfl (fun K hK => ?_) AllReadyH.nil
        go_simp
        have AF := A.fin3 ho ht N hq1 hq2 hq3 (by decide) (by decide) (.slice ka dn kc) (.slice ja dm jc) (.int .i64 dc)
        replace A := AF.sub (fun q hq => .tail _ hq) (fun q hq => .tail _ (.tail _ hq))
        refine hK.out _ _ A (fun hHeld => ?_)
        clear hK K hHeld
        try simp only [Act.put, List.setIfInBounds_toArray, List.set_cons_zero, List.set_cons_succ]
        refine wpAnyH_done (by kernel_rfl) ?_ _
      rotate_left 1
    rotate_left 3
    focus
      go_simp
      obtain ⟨Wn, q6, hWn, hq6, An, bn, hq1, hq2, hq3⟩ := A.pack #[.slice none 0 0, .slice none 0 0, .int .i64 0] 33
      rw [hWn, hq6]
      have N := An.b0
      replace A := An.sub (fun q hq => .tail _ hq) (fun q hq => hq)
      have hcN := N.cell
      have hfN := N.frozen
      try replace ho1 := rown_below ho1 bn
      try replace ho := rown_below ho bn
      try replace ht := rown_below ht bn
      clear hWn hq6 An bn
      refine hK.out _ _ A (fun hHeld => ?_)
      clear hK K hHeld
      try simp only [Act.put, List.setIfInBounds_toArray, List.set_cons_zero, List.set_cons_succ]
      refine wpAnyH_ready (rs := [1]) (by kernel_rfl) (by simp) ?_
      refine AllReadyH.cons (o := { dst := some 65, op := Op.call { callee := Callee.value (Operand.func 17), args := #[Operand.tmp 64], argTypes := #[22] }, type := 25, pos := "exact.go:3530", after := #[{ on := 0, ground := Ground.data }], guard := none }) rfl (fun K hK => ?_) AllReadyH.nil
      go_simp
      refine (HT.out _ A.bel).mono ?_
      rintro x w10 ⟨v1, rfl, ho1, hbN⟩
      obtain ⟨b1, d1, rfl⟩ := rown_form ho1
      replace A := A.kept hbN
      try replace N := N.kept hbN
      try replace hcN := N.cell
      try replace hfN := N.frozen
      clear hbN
      refine hK.out _ _ A (fun hHeld => ?_)
      clear hK K hHeld
      try simp only [Act.put, List.setIfInBounds_toArray, List.set_cons_zero, List.set_cons_succ]
      refine wpAnyH_ready (rs := [4]) (by kernel_rfl) (by simp) ?_
      refine AllReadyH.cons (o := { dst := some 68, op := Op.call { callee := Callee.value (Operand.func 21), args := #[Operand.tmp 67], argTypes := #[30] }, type := 35, pos := "exact.go:3530", after := #[{ on := 3, ground := Ground.data }, { on := 1, ground := Ground.chain }], guard := none }) rfl (fun K hK => ?_) AllReadyH.nil
      go_simp
      refine (HTR.out _).mono ?_
      rintro x w11 ⟨rfl, hbN⟩
      replace A := A.kept hbN
      replace ho1 := rown_below ho1 hbN
      try replace N := N.kept hbN
      try replace hcN := N.cell
      try replace hfN := N.frozen
      clear hbN
      refine hK.out _ _ A (fun hHeld => ?_)
      clear hK K hHeld
      try simp only [Act.put, List.setIfInBounds_toArray, List.set_cons_zero, List.set_cons_succ]
      refine wpAnyH_ready (rs := [5]) (by kernel_rfl) (by simp) ?_
      refine AllReadyH.cons (o := { dst := some 69, op := Op.call { callee := Callee.value (Operand.func 22), args := #[Operand.tmp 65, Operand.tmp 66, Operand.tmp 68], argTypes := #[25, 2, 35] }, type := 33, pos := "exact.go:3530", after := #[{ on := 1, ground := Ground.data }, { on := 2, ground := Ground.data }, { on := 4, ground := Ground.data }, { on := 4, ground := Ground.chain }], guard := none }) rfl (fun K hK => ?_) AllReadyH.nil
      go_simp
      refine (HI.out _ _ _ ho1).mono ?_
      rintro x w12 ⟨wv, wt, rfl, ho, ht, apN, hbN⟩
      obtain ⟨ka, kc, rfl⟩ := rown_form ho
      obtain ⟨ja, jc, rfl⟩ := rown_form ht
      replace ho := rown_mono (B' := W.heap.size) ho A.bel.size
      replace ht := rown_mono (B' := W.heap.size) ht A.bel.size
      replace A := A.kept hbN
      try replace N := N.kept hbN
      try replace hcN := N.cell
      try replace hfN := N.frozen
      clear hbN apN ho1
      refine hK.out _ _ A (fun hHeld => ?_)
      clear hK K hHeld
      try simp only [Act.put, List.setIfInBounds_toArray, List.set_cons_zero, List.set_cons_succ]
      refine wpAnyH_ready (rs := [7]) (by kernel_rfl) (by simp) ?_
      refine AllReadyH.cons (o := { dst := none, op := Op.store 33 (Operand.tmp 14) (Operand.tmp 69), type := 0, pos := "exact.go:3530", after := #[{ on := 6, ground := Ground.data }, { on := 5, ground := Ground.data }, { on := 5, ground := Ground.chain }, { on := 0, ground := Ground.phase }, { on := 1, ground := Ground.phase }, { on := 2, ground := Ground.phase }, { on := 3, ground := Ground.phase }, { on := 4, ground := Ground.phase }, { on := 5, ground := Ground.phase }, { on := 6, ground := Ground.phase }], guard := none }) rfl (fun K hK => ?_) AllReadyH.nil
      go_simp
      have AF := A.fin3 ho ht N hq1 hq2 hq3 (by decide) (by decide) (.slice ka dn kc) (.slice ja dm jc) (.int .i64 dc)
      replace A := AF.sub (fun q hq => .tail _ hq) (fun q hq => .tail _ (.tail _ hq))
      refine hK.out _ _ A (fun hHeld => ?_)
      clear hK K hHeld
      try simp only [Act.put, List.setIfInBounds_toArray, List.set_cons_zero, List.set_cons_succ]
      refine wpAnyH_done (by kernel_rfl) ?_ _
    rotate_left 1
    all_goals
      go_wp2_with fail
      go_meet
      exact ⟨_, _, _, _, _, rfl, Lib.hid AF⟩
  case rest =>
  obtain ⟨qh, ka, kc, ja, jc, rfl, hA⟩ := hcut
  clear A
  have A := hA.out
  clear hA
  have hc1 := A.b0.cell
  have hc2 := A.b2.cell
  go_wp2_with fail
  refine (HQ.out _ _ _ _ _ _ _ _ _ A.r1 A.r5 A.r0 A.r4).mono ?_
  rintro x w5 ⟨rfl, hb⟩
  replace A := A.kept hb
  try replace hszB := Nat.le_trans hszB hb.size
  clear hb hc1 hc2
  have hc1 := A.b1.cell
  go_wp2_with fail
  refine (HD.out _ _ _ _ _ A.r3 A.r2).mono ?_
  rintro x w11 ⟨rfl, hb⟩
  replace A := A.kept hb
  clear hb hc1
  have HB := Lib.hid A.bel
  clear A
  go_wp2_with fail
  go_ret
  exact ⟨rfl, HB.out⟩

set_option maxRecDepth 100000 in
theorem lifted (os : Os) (started : os.Started) (H : Type) (enc : TypeId × Value → H) :
    ReturnsInHanded {} Try.checked os 4 .any (Rows.fnExactRibPutSpec.pre6 enc Try.prog Try.f4 Rows.fnExactRibPutRow.domain false) (Rows.fnExactRibPutSpec.post enc Try.prog Try.f4 false true false false) := by
  refine returnsInHanded_of_change (C := Try.checked) own started (by kernel_rfl) Try.func4
    (ChangeSpec.witness6 (enc := enc) (C := Try.checked) false ⟨#[], #[.slice none 0 0, .int .i64 0, .agg #[.int .i64 0, .int .i64 0, .int .i64 0, .int .i64 0, .int .i64 0, .int .i64 0, .bool false]], []⟩ 8 (by kernel_rfl) (by kernel_rfl) (by kernel_rfl) (by kernel_rfl)) ?_
  intro W base args ds gs before hval0 hW hcnd _
  have hval : ∀ (j : Nat) t v, Try.f4.params[j]? = some t → args[j]? = some v → Value.okWide Try.prog W .any base t v := hval0
  have hW' := hW
  obtain ⟨p, q, hA0, hV, rfl, hfz, hnd⟩ := hW
  have hA : DataW.TrodAll enc Try.prog W 0 (fun _ => true) true Try.f4.params.toList args.toList ds p := hA0
  rw [Try.params4] at hA hval
  obtain ⟨v0, vs0, d0, ds0, p0, q0, hargs, rfl, rfl, h0, r0⟩ := trodAll_cons hA
  obtain ⟨v1, vs1, d1, ds1, p1, q1, rfl, rfl, rfl, h1, r1⟩ := trodAll_cons r0
  obtain ⟨v2, vs2, d2, ds2, p2, q2, rfl, rfl, rfl, h2, r2⟩ := trodAll_cons r1
  obtain ⟨rfl, rfl, rfl⟩ := trodAll_nil r2
  have lt0 : ∀ x ∈ p0, x.block < W.heap.size := by obtain ⟨m, hm⟩ := h0; exact DataW.trod_lt m _ _ _ hm
  have lt1 : ∀ x ∈ p1, x.block < W.heap.size := by obtain ⟨m, hm⟩ := h1; exact DataW.trod_lt m _ _ _ hm
  have lt2 : ∀ x ∈ p2, x.block < W.heap.size := by obtain ⟨m, hm⟩ := h2; exact DataW.trod_lt m _ _ _ hm
  obtain rfl : args = #[v0, v1, v2] := by cases args; simp_all
  obtain ⟨rfl, rfl⟩ := trodVars_none hV
  clear hA0 hval0
  refine (walk _ _ _ _ _ _ _ _ _ base W (hval 0 22 v0 rfl rfl) (hval 1 2 v1 rfl rfl) (hval 2 30 v2 rfl rfl) h0 h1 h2).mono fun e W' ⟨he, bel⟩ => ?_
  subst he
  exact ⟨_, rfl, _, _, _, [], _, [], hW', trodAll_mk1 (shut_bool Try.underlying4 _), (trodAll_cons_mk (Below.trod laidOut (by kernel_rfl) (of_decide_eq_true (by kernel_rfl)) h0 bel lt0) (trodAll_cons_mk (Below.trod laidOut (by kernel_rfl) (of_decide_eq_true (by kernel_rfl)) h1 bel lt1) (trodAll_cons_mk (Below.trod laidOut (by kernel_rfl) (of_decide_eq_true (by kernel_rfl)) h2 bel lt2) trodAll_mk0))), rfl, bel.frame _, fun h => by cases h⟩

theorem over : Rows.fnExactRibPutRow.holds Try.pinned (OpenSpec.ofChange Rows.fnExactRibPutSpec) :=
  OpenClaim.holds_of_wide 4 Try.f4 rfl rfl rfl rfl rfl rfl rfl ⟨rfl, rfl, rfl, rfl, rfl⟩ rfl rfl rfl rfl rfl (by kernel_rfl) Try.func4 (by kernel_rfl)
    (of_decide_eq_true (by kernel_rfl)) (by unfold Func.isWrapper; first | (rw [if_pos (by decide +kernel)]; kernel_rfl) | (rw [if_neg (by decide +kernel)]; exact ⟨rfl, rfl⟩))
    (fun os started H enc _ => lifted os started H enc)

theorem proved : Rows.FnExactRibPutSaid := over
end Go.Proofs.Ytmkoppbbenombaa.fnExactRibPut
namespace Go.Proofs.Ytmkoppbbenombaa
theorem fnExactRibPut_holds : Rows.FnExactRibPutSaid := fnExactRibPut.proved
#print axioms fnExactRibPut_holds
end Go.Proofs.Ytmkoppbbenombaa
