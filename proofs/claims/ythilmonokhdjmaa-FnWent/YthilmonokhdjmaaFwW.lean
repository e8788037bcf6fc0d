/- FnWent: the walk. -/
import Derived.Test.YthilmonokhdjmaaLwW
import Derived.Test.YthilmonokhdjmaaDrawW
namespace Go.Proofs.Ythilmonokhdjmaa
open Go.RowKit

def Sls (W : World) (M : List (Value × List Mv)) : Prop := ∀ q ∈ M, MvsAt W q.1 q.2
theorem Sls.kept {W W' : World} {M : List (Value × List Mv)} (h : Sls W M) (hb : Below W.heap.size W W') : Sls W' M := fun q hq => SlAt.kept (h q hq) hb
theorem Sls.add {W : World} {M : List (Value × List Mv)} (h : Sls W M) {v : Value} {l : List Mv} (hl : MvsAt W v l) : Sls W ((v, l) :: M) := fun q hq => by
  rcases List.mem_cons.1 hq with rfl | hq
  · exact hl
  · exact h q hq
theorem Sls.nil (W : World) : Sls W [] := fun q hq => by cases hq
structure FwM (w W : World) (L : List (Nat × TypeId × Array Value)) (M : List (Value × List Mv)) : Prop where
  mem : MemAt w L [] W
  sls : Sls W M
section
variable {w W W' : World} {L : List (Nat × TypeId × Array Value)} {M : List (Value × List Mv)}
theorem FwM.kept (h : FwM w W L M) (hb : Below W.heap.size W W') : FwM w W' L M := ⟨h.mem.kept hb, h.sls.kept hb⟩
theorem FwM.drew (h : FwM w W L M) : FwM w W.drew L M := ⟨h.mem.drew, h.sls⟩
theorem FwM.add (h : FwM w W L M) {v : Value} {l : List Mv} (hl : MvsAt W v l) : FwM w W L ((v, l) :: M) := ⟨h.mem, h.sls.add hl⟩
theorem FwM.new (h : FwM w W L M) (t : TypeId) (cs : Array Value) : FwM w (W.alloc (.cells cs t)) ((W.heap.size, t, cs) :: L) M := ⟨h.mem.new t cs, h.sls.kept ((Below.refl _ _).alloc (Nat.le_refl _) _)⟩
theorem FwM.bel (h : FwM w W L M) : Below w.heap.size w W := h.mem.bel
theorem FwM.bytes (h : FwM w W L M) {a : Option Addr} {len : Nat} (hb : BytesAt w a len) : BytesAt W a len := bytes_belowW hb h.mem.bel
end
theorem mem0 {α : Type} {x0 x1 x2 x3 x4 x5 x6 : α} {L : List α} : x0 ∈ x0 :: x1 :: x2 :: x3 :: x4 :: x5 :: x6 :: L := by simp
theorem mem1 {α : Type} {x0 x1 x2 x3 x4 x5 x6 : α} {L : List α} : x1 ∈ x0 :: x1 :: x2 :: x3 :: x4 :: x5 :: x6 :: L := by simp
theorem mem2 {α : Type} {x0 x1 x2 x3 x4 x5 x6 : α} {L : List α} : x2 ∈ x0 :: x1 :: x2 :: x3 :: x4 :: x5 :: x6 :: L := by simp
theorem mem3 {α : Type} {x0 x1 x2 x3 x4 x5 x6 : α} {L : List α} : x3 ∈ x0 :: x1 :: x2 :: x3 :: x4 :: x5 :: x6 :: L := by simp
theorem mem4 {α : Type} {x0 x1 x2 x3 x4 x5 x6 : α} {L : List α} : x4 ∈ x0 :: x1 :: x2 :: x3 :: x4 :: x5 :: x6 :: L := by simp
theorem mem5 {α : Type} {x0 x1 x2 x3 x4 x5 x6 : α} {L : List α} : x5 ∈ x0 :: x1 :: x2 :: x3 :: x4 :: x5 :: x6 :: L := by simp
theorem mem6 {α : Type} {x0 x1 x2 x3 x4 x5 x6 : α} {L : List α} : x6 ∈ x0 :: x1 :: x2 :: x3 :: x4 :: x5 :: x6 :: L := by simp
set_option maxRecDepth 100000 in
set_option maxHeartbeats 40000000 in
theorem fnWent_main (a0 a1 : Option Addr) (len0 cap0 len1 cap1 : Nat) (w : World) (hy0 : BytesAt w a0 len0) (hy1 : BytesAt w a1 len1) (hl0 : len0 ≤ 1048576) (hl1 : len1 ≤ 1048576) :
    Calls Try.prog 8 #[.slice a0 len0 cap0, .slice a1 len1 cap1] w fun e w' => e = .returned (.bool true) ∧ Below w.heap.size w w' := by
  have hg0 : ¬ (1048576 : Int) < (len0 : Int) := by omega
  have hg1 : ¬ (1048576 : Int) < (len1 : Int) := by omega
  have HD1 := Lib.hid (fun (W : World) (h : BytesAt W a0 len0) => draw_wentPut (cap := cap0) hl0 h)
  have HD2 := Lib.hid (fun (W : World) (h : BytesAt W a1 len1) => draw_wentCount (cap := cap1) hl1 h)
  have HD3 := Lib.hid (fun (W : World) (h : BytesAt W a1 len1) => draw_wentTrim (cap := cap1) hl1 h)
  have HD4 := Lib.hid (fun (W : World) (h : BytesAt W a0 len0) => draw_wentDrop (cap := cap0) hl0 h)
  have HY0 := Lib.hid hy0
  have HY1 := Lib.hid hy1
  unfold DwPut at HD1
  unfold DwCount at HD2
  unfold DwTrim at HD3
  unfold DwDrop at HD4
  have A : FwM w w [] [] := ⟨MemAt.start w, Sls.nil w⟩
  clear hy0 hy1 hl0 hl1
  go_enter Try.func8, Try.ntmps8
  go_wp2_with fail
  refine (HD1.out _ (A.bytes HY0.out)).mono ?_
  rintro e w1 ⟨lv, l, r, rfl, ho, hl40, hb⟩
  have HNc := Lib.hid (NcOk.of_own ho)
  replace A := (A.kept hb).add (rows_of_own Mv.cl_len ho)
  obtain ⟨la, lc, rfl⟩ := rown_form ho
  clear ho hb HD1
  unfold Mv.val
  go_upto_region 4 with fail
  replace A := A.new 34 #[.int .i64 r.vni, .int .i64 r.mac, .int .i64 r.tm]
  obtain ⟨W1, hW1⟩ : ∃ X, X = w1.alloc (.cells #[.int .i64 r.vni, .int .i64 r.mac, .int .i64 r.tm] 34) := ⟨_, rfl⟩
  obtain ⟨qw, hqw⟩ : ∃ q, q = w1.heap.size := ⟨_, rfl⟩
  rw [← hW1, ← hqw] at A ⊢
  clear hW1 hqw
  have HIp := Lib.hid (fun (W : World) (h : MvsAt W (.slice la l.length lc) l) => implWentPut_any l _ r W h HNc.out (by omega))
  have HSp := Lib.hid (fun (W : World) (h : MvsAt W (.slice la l.length lc) l) => specWentPut_any l _ r W h HNc.out (by omega))
  have HPc := Lib.hid (put_code l r)
  have HPn := Lib.hid (fun h h2 => cnt_put (l := l) (r := r) h h2)
  have hxl := putR8_len l r
  unfold WoPost woV at HIp HSp
  unfold Mv.val at HIp HSp
  generalize putR8 l r = X at *
  have hcB := A.mem.b0.cell
  go_wp2_with fail
  refine (HIp.out _ (A.sls _ (.head _))).mono ?_
  rintro e w2 ⟨xv, xo, xn, XX, rfl, hsub, hsee, ho, hb⟩
  obtain ⟨xa, xc, rfl⟩ := hsub.form ho
  replace A := (A.kept hb).add (hsee _ _ ho)
  clear ho hb hsub hsee hcB HIp XX xn xo
  go_upto_region 5 with fail
  replace A := A.new 32 #[.slice xa X.mvs.length xc, .int .i64 X.code]
  obtain ⟨W2, hW2⟩ : ∃ Y, Y = w2.alloc (.cells #[.slice xa X.mvs.length xc, .int .i64 X.code] 32) := ⟨_, rfl⟩
  obtain ⟨qx, hqx⟩ : ∃ q, q = w2.heap.size := ⟨_, rfl⟩
  rw [← hW2, ← hqx] at A ⊢
  clear hW2 hqx
  go_wp2_with fail
  refine (HD2.out _ (A.bytes HY1.out)).mono ?_
  rintro e w3 ⟨cv, c, vni, mac, now, rfl, ho, hc40, hb⟩
  replace A := (A.kept hb).add (rows_of_own Mv.cl_len ho)
  obtain ⟨ca, cc, rfl⟩ := rown_form ho
  clear ho hb HD2
  have HIc := Lib.hid (fun (L : List Mv) (x : Value) (p q n : Int) (W : World) (h : MvsAt W x L) (hL : L.length ≤ 1000) => implWentCount_any L x p q n W h (by omega))
  have HSc := Lib.hid (fun (L : List Mv) (x : Value) (p q n : Int) (W : World) (h : MvsAt W x L) (hL : L.length ≤ 1000) => specWentCount_any L x p q n W h (by omega))
  go_wp2_with fail
  refine (HIc.out c _ vni mac now _ (A.sls _ (.head _)) (by omega)).mono ?_
  rintro e w4 ⟨rfl, hb⟩
  replace A := A.kept hb
  clear hb
  go_wp2_with fail
  refine (HD3.out _ (A.bytes HY1.out)).mono ?_
  rintro e w5 ⟨tv, t, at', rfl, ho, ht40, hb⟩
  have HNt := Lib.hid (NcOk.of_own ho)
  replace A := (A.kept hb).add (rows_of_own Mv.cl_len ho)
  obtain ⟨ta, tc, rfl⟩ := rown_form ho
  clear ho hb HD3
  have HIt := Lib.hid (fun (W : World) (h : MvsAt W (.slice ta t.length tc) t) => implWentTrim_any t _ at' W h HNt.out (by omega))
  have HSt := Lib.hid (fun (W : World) (h : MvsAt W (.slice ta t.length tc) t) => specWentTrim_any t _ at' W h (by omega))
  have HTc := Lib.hid (trim_code t at')
  have hyl := trimR_len t at'
  unfold WoPost woV at HIt HSt
  generalize trimR t at' = Y at *
  go_wp2_with fail
  refine (HIt.out _ (A.sls _ (.head _))).mono ?_
  rintro e w6 ⟨yv, yo, yn, YX, rfl, hsub, hsee, ho, hb⟩
  obtain ⟨ya, yc, rfl⟩ := hsub.form ho
  replace A := (A.kept hb).add (hsee _ _ ho)
  clear ho hb hsub hsee HIt YX yn yo HNt
  go_upto_region 9 with fail
  replace A := A.new 32 #[.slice ya Y.mvs.length yc, .int .i64 Y.code]
  obtain ⟨W3, hW3⟩ : ∃ Z, Z = w6.alloc (.cells #[.slice ya Y.mvs.length yc, .int .i64 Y.code] 32) := ⟨_, rfl⟩
  obtain ⟨qy, hqy⟩ : ∃ q, q = w6.heap.size := ⟨_, rfl⟩
  rw [← hW3, ← hqy] at A ⊢
  clear hW3 hqy
  go_wp2_with fail
  refine (HD4.out _ (A.bytes HY0.out)).mono ?_
  rintro e w7 ⟨dv, d, dm, rfl, hdm0, hdm1, ho, hd40, hb⟩
  have HNd := Lib.hid (NcOk.of_own ho)
  replace A := (A.kept hb).add (rows_of_own Mv.cl_len ho)
  obtain ⟨da, dc, rfl⟩ := rown_form ho
  clear ho hb HD4 HY0 HY1
  have HId := Lib.hid (fun (W : World) (h : MvsAt W (.slice da d.length dc) d) => implWentDrop_any d _ 5 dm W h HNd.out (by omega))
  have HSd := Lib.hid (fun (W : World) (h : MvsAt W (.slice da d.length dc) d) => specWentDrop_any d _ 5 dm W h (by omega))
  have HDc := Lib.hid (drop_code d 5 dm)
  have hzl := dropR_len d 5 dm
  unfold WoPost woV at HId HSd
  generalize dropR d 5 dm = Z at *
  go_wp2_with fail
  refine (HId.out _ (A.sls _ (.head _))).mono ?_
  rintro e w8 ⟨zv, zo, zn, ZX, rfl, hsub, hsee, ho, hb⟩
  obtain ⟨za, zc, rfl⟩ := hsub.form ho
  replace A := (A.kept hb).add (hsee _ _ ho)
  clear ho hb hsub hsee HId ZX zn zo HNd
  go_upto_region 11 with fail
  replace A := A.new 32 #[.slice za Z.mvs.length zc, .int .i64 Z.code]
  obtain ⟨W4, hW4⟩ : ∃ V, V = w8.alloc (.cells #[.slice za Z.mvs.length zc, .int .i64 Z.code] 32) := ⟨_, rfl⟩
  obtain ⟨qz, hqz⟩ : ∃ q, q = w8.heap.size := ⟨_, rfl⟩
  rw [← hW4, ← hqz] at A ⊢
  clear hW4 hqz
  have hwd : IntKind.i64.wrap (dm + 1) = dm + 1 := by simp only [IntKind.wrap_i64]; omega
  have HLw := Lib.hid (fun (K : List Mv) (k : Int) (v v' : Value) (W : World) (h : MvsAt W v K) (h' : MvsAt W v' K) (hn : K.length ≤ 30) (hk : k = 0 → mvsOk K = true) => lwWent_any K k v v' W h h' (by omega) hk)
  have HTok : Hid (Y.code = 0 → mvsOk Y.mvs = true) := Lib.hid (fun h => by rw [(HTc.out h).1]; exact mvsOk_keep _ (HTc.out h).2)
  have HDok : Hid (Z.code = 0 → mvsOk Z.mvs = true) := Lib.hid (fun h => by rw [(HDc.out h).1]; exact mvsOk_keep _ (HDc.out h).2)
  have HTn : Hid (Y.code = 0 → ∀ m, cntR Y.mvs 5 m at' = cntR t 5 m at') := Lib.hid (fun h m => by rw [(HTc.out h).1]; exact cnt_trim (HTc.out h).2 m)
  have HDn0 : Hid (Z.code = 0 → cntR Z.mvs 5 dm 0 = 0) := Lib.hid (fun h => by rw [(HDc.out h).1]; exact cnt_drop0 (HDc.out h).2 5 dm)
  have HDn1 : Hid (Z.code = 0 → cntR Z.mvs 5 (dm + 1) 20 = cntR d 5 (dm + 1) 20) := Lib.hid (fun h => by rw [(HDc.out h).1]; exact cnt_drop1 (HDc.out h).2 5 dm)
  have HRi := Lib.hid (fun (W : World) (h : MvsAt W (.slice la l.length lc) l) => implWentRight_any l _ W h (by omega))
  have HRs := Lib.hid (fun (W : World) (h : MvsAt W (.slice la l.length lc) l) => specWentRight_any l _ W h (by omega))
  unfold MrPost at HRi HRs
  unfold woV at HLw
  clear HTc HDc
  generalize mvsOk l = RL at HRi HRs
  generalize hN1 : cntR c vni mac now = N1 at *
  have HN1 := Lib.hid hN1
  clear hN1
  obtain ⟨xk, hxk⟩ : ∃ k, k = X.code := ⟨_, rfl⟩
  obtain ⟨yk, hyk⟩ : ∃ k, k = Y.code := ⟨_, rfl⟩
  obtain ⟨zk, hzk⟩ : ∃ k, k = Z.code := ⟨_, rfl⟩
  rw [← hxk] at HPc HPn HSp A ⊢
  rw [← hyk] at HTok HTn HSt A ⊢
  rw [← hzk] at HDok HDn0 HDn1 HSd A ⊢
  clear hxk hyk hzk
  generalize X.mvs = XM at *
  generalize Y.mvs = YM at *
  generalize Z.mvs = ZM at *
  clear X Y Z
  replace A := A.drew
  refine wp_region_held_drew (S := fun W' => FwM w W' _ _) (by kernel_rfl) A (fun hHeld => ?_)
  clear hHeld
  generalize W4.drew = Wd at A ⊢
  refine wpAnyH_take (i := 0) (oi := { dst := some 67, op := Op.load 32 (Operand.tmp 7), type := 32, pos := "laws.go:506", after := #[], guard := none }) (v := ?vva1) rfl (by kernel_rfl) (by kernel_rfl) (by kernel_rfl) (fun _ _ _ h => h) (Or.inl ⟨by rfl, ?hya1⟩) A ?resta1
  case hya1 => (intro w hSw; have c0 := hSw.mem.b0.cell; have c1 := hSw.mem.b1.cell; have c2 := hSw.mem.b2.cell; have c3 := hSw.mem.b3.cell;go_simp <;> with_reducible rfl)
  try simp only [Act.put, List.setIfInBounds_toArray, List.set_cons_zero, List.set_cons_succ]
  refine wpAnyH_take (i := 1) (oi := { dst := some 68, op := Op.move (Operand.tmp 5), type := 25, pos := "laws.go:506", after := #[], guard := none }) (v := ?vva2) rfl (by kernel_rfl) (by kernel_rfl) (by kernel_rfl) (fun _ _ _ h => h) (Or.inl ⟨by rfl, ?hya2⟩) A ?resta2
  case hya2 => (intro w hSw; have c0 := hSw.mem.b0.cell; have c1 := hSw.mem.b1.cell; have c2 := hSw.mem.b2.cell; have c3 := hSw.mem.b3.cell;go_simp <;> with_reducible rfl)
  try simp only [Act.put, List.setIfInBounds_toArray, List.set_cons_zero, List.set_cons_succ]
  refine wpAnyH_take (i := 2) (oi := { dst := some 69, op := Op.load 34 (Operand.tmp 6), type := 34, pos := "laws.go:506", after := #[], guard := none }) (v := ?vva3) rfl (by kernel_rfl) (by kernel_rfl) (by kernel_rfl) (fun _ _ _ h => h) (Or.inl ⟨by rfl, ?hya3⟩) A ?resta3
  case hya3 => (intro w hSw; have c0 := hSw.mem.b0.cell; have c1 := hSw.mem.b1.cell; have c2 := hSw.mem.b2.cell; have c3 := hSw.mem.b3.cell;go_simp <;> with_reducible rfl)
  try simp only [Act.put, List.setIfInBounds_toArray, List.set_cons_zero, List.set_cons_succ]
  refine wpAnyH_ready (rs := [3]) (by kernel_rfl) (by simp) ?_
  refine AllReadyH.cons (o := { dst := some 70, op := Op.call { callee := Callee.value (Operand.func 20), args := #[Operand.tmp 68, Operand.tmp 69], argTypes := #[25, 34] }, type := 32, pos := "laws.go:506", after := #[{ on := 1, ground := Ground.data }, { on := 2, ground := Ground.data }], guard := none }) rfl (fun K hK => ?_) AllReadyH.nil
  go_simp
  refine (HSp.out _ (A.sls _ mem6)).mono ?_
  rintro e v1 ⟨sv, so, sn, SX, rfl, hsub, hsee, ho, hb⟩
  obtain ⟨sa, sc, rfl⟩ := hsub.form ho
  replace A := A.kept hb
  have HS1 := Lib.hid (hsee _ _ ho)
  clear ho hb hsub hsee
  refine hK.out _ _ A (fun hHeld => ?_)
  clear hK K hHeld
  try simp only [Act.put, List.setIfInBounds_toArray, List.set_cons_zero, List.set_cons_succ]
  refine wpAnyH_ready (rs := [4]) (by kernel_rfl) (by simp) ?_
  refine AllReadyH.cons (o := { dst := some 71, op := Op.call { callee := Callee.value (Operand.func 37), args := #[Operand.tmp 67, Operand.tmp 70], argTypes := #[32, 32] }, type := 4, pos := "laws.go:506", after := #[{ on := 0, ground := Ground.data }, { on := 3, ground := Ground.data }, { on := 3, ground := Ground.chain }], guard := none }) rfl (fun K hK => ?_) AllReadyH.nil
  go_simp
  refine (HLw.out _ _ _ _ _ (A.sls _ mem5) HS1.out hxl HPc.out).mono ?_
  rintro e v2 ⟨rfl, hb⟩
  replace A := A.kept hb
  clear hb HS1
  refine hK.out _ _ A (fun hHeld => ?_)
  clear hK K hHeld
  try simp only [Act.put, List.setIfInBounds_toArray, List.set_cons_zero, List.set_cons_succ]
  refine wpAnyH_take (i := 5) (oi := { dst := some 72, op := Op.unOp UnOp.not 4 (Operand.tmp 71), type := 4, pos := "laws.go:506", after := #[{ on := 4, ground := Ground.data }], guard := none }) (v := ?vva4) rfl (by kernel_rfl) (by kernel_rfl) (by kernel_rfl) (fun _ _ _ h => h) (Or.inl ⟨by rfl, ?hya4⟩) A ?resta4
  case hya4 => (intro w hSw; have c0 := hSw.mem.b0.cell; have c1 := hSw.mem.b1.cell; have c2 := hSw.mem.b2.cell; have c3 := hSw.mem.b3.cell;go_simp <;> with_reducible rfl)
  try simp only [Act.put, List.setIfInBounds_toArray, List.set_cons_zero, List.set_cons_succ]
  refine wpAnyH_take (i := 6) (oi := { dst := some 73, op := Op.move (Operand.tmp 72), type := 4, pos := "laws.go:506", after := #[{ on := 5, ground := Ground.data }, { on := 4, ground := Ground.chain }], guard := none }) (v := ?vva5) rfl (by kernel_rfl) (by kernel_rfl) (by kernel_rfl) (fun _ _ _ h => h) (Or.inl ⟨by rfl, ?hya5⟩) A ?resta5
  case hya5 => (intro w hSw; have c0 := hSw.mem.b0.cell; have c1 := hSw.mem.b1.cell; have c2 := hSw.mem.b2.cell; have c3 := hSw.mem.b3.cell;go_simp <;> with_reducible rfl)
  try simp only [Act.put, List.setIfInBounds_toArray, List.set_cons_zero, List.set_cons_succ]
  refine wpAnyH_take (i := 7) (oi := { dst := some 74, op := Op.move (Operand.tmp 12), type := 2, pos := "laws.go:506", after := #[{ on := 6, ground := Ground.guard }], guard := some (6, false) }) (v := ?vva6) rfl (by kernel_rfl) (by kernel_rfl) (by kernel_rfl) (fun _ _ _ h => h) (Or.inl ⟨by rfl, ?hya6⟩) A ?resta6
  case hya6 => (intro w hSw; have c0 := hSw.mem.b0.cell; have c1 := hSw.mem.b1.cell; have c2 := hSw.mem.b2.cell; have c3 := hSw.mem.b3.cell;go_simp <;> with_reducible rfl)
  try simp only [Act.put, List.setIfInBounds_toArray, List.set_cons_zero, List.set_cons_succ]
  refine wpAnyH_take (i := 8) (oi := { dst := some 75, op := Op.move (Operand.tmp 8), type := 25, pos := "laws.go:506", after := #[{ on := 6, ground := Ground.guard }], guard := some (6, false) }) (v := ?vva7) rfl (by kernel_rfl) (by kernel_rfl) (by kernel_rfl) (fun _ _ _ h => h) (Or.inl ⟨by rfl, ?hya7⟩) A ?resta7
  case hya7 => (intro w hSw; have c0 := hSw.mem.b0.cell; have c1 := hSw.mem.b1.cell; have c2 := hSw.mem.b2.cell; have c3 := hSw.mem.b3.cell;go_simp <;> with_reducible rfl)
  try simp only [Act.put, List.setIfInBounds_toArray, List.set_cons_zero, List.set_cons_succ]
  refine wpAnyH_take (i := 9) (oi := { dst := some 76, op := Op.move (Operand.tmp 9), type := 2, pos := "laws.go:506", after := #[{ on := 6, ground := Ground.guard }], guard := some (6, false) }) (v := ?vva8) rfl (by kernel_rfl) (by kernel_rfl) (by kernel_rfl) (fun _ _ _ h => h) (Or.inl ⟨by rfl, ?hya8⟩) A ?resta8
  case hya8 => (intro w hSw; have c0 := hSw.mem.b0.cell; have c1 := hSw.mem.b1.cell; have c2 := hSw.mem.b2.cell; have c3 := hSw.mem.b3.cell;go_simp <;> with_reducible rfl)
  try simp only [Act.put, List.setIfInBounds_toArray, List.set_cons_zero, List.set_cons_succ]
  refine wpAnyH_take (i := 10) (oi := { dst := some 77, op := Op.move (Operand.tmp 10), type := 2, pos := "laws.go:506", after := #[{ on := 6, ground := Ground.guard }], guard := some (6, false) }) (v := ?vva9) rfl (by kernel_rfl) (by kernel_rfl) (by kernel_rfl) (fun _ _ _ h => h) (Or.inl ⟨by rfl, ?hya9⟩) A ?resta9
  case hya9 => (intro w hSw; have c0 := hSw.mem.b0.cell; have c1 := hSw.mem.b1.cell; have c2 := hSw.mem.b2.cell; have c3 := hSw.mem.b3.cell;go_simp <;> with_reducible rfl)
  try simp only [Act.put, List.setIfInBounds_toArray, List.set_cons_zero, List.set_cons_succ]
  refine wpAnyH_take (i := 11) (oi := { dst := some 78, op := Op.move (Operand.tmp 11), type := 2, pos := "laws.go:506", after := #[{ on := 6, ground := Ground.guard }], guard := some (6, false) }) (v := ?vva10) rfl (by kernel_rfl) (by kernel_rfl) (by kernel_rfl) (fun _ _ _ h => h) (Or.inl ⟨by rfl, ?hya10⟩) A ?resta10
  case hya10 => (intro w hSw; have c0 := hSw.mem.b0.cell; have c1 := hSw.mem.b1.cell; have c2 := hSw.mem.b2.cell; have c3 := hSw.mem.b3.cell;go_simp <;> with_reducible rfl)
  try simp only [Act.put, List.setIfInBounds_toArray, List.set_cons_zero, List.set_cons_succ]
  refine wpAnyH_ready (rs := [12]) (by kernel_rfl) (by simp) ?_
  refine AllReadyH.cons (o := { dst := some 79, op := Op.call { callee := Callee.value (Operand.func 27), args := #[Operand.tmp 75, Operand.tmp 76, Operand.tmp 77, Operand.tmp 78], argTypes := #[25, 2, 2, 2] }, type := 2, pos := "laws.go:506", after := #[{ on := 8, ground := Ground.data }, { on := 9, ground := Ground.data }, { on := 10, ground := Ground.data }, { on := 11, ground := Ground.data }, { on := 6, ground := Ground.chain }, { on := 6, ground := Ground.guard }], guard := some (6, false) }) rfl (fun K hK => ?_) AllReadyH.nil
  go_simp
  refine (HSc.out c _ vni mac now _ (A.sls _ mem4) (by omega)).mono ?_
  rintro e v3 ⟨rfl, hb⟩
  rw [HN1.out]
  replace A := A.kept hb
  clear hb
  refine hK.out _ _ A (fun hHeld => ?_)
  clear hK K hHeld
  try simp only [Act.put, List.setIfInBounds_toArray, List.set_cons_zero, List.set_cons_succ]
  refine wpAnyH_take (i := 13) (oi := { dst := some 80, op := Op.binOp BinOp.neq 2 (Operand.tmp 74) (Operand.tmp 79) 2, type := 4, pos := "laws.go:506", after := #[{ on := 7, ground := Ground.data }, { on := 12, ground := Ground.data }, { on := 6, ground := Ground.guard }], guard := some (6, false) }) (v := ?vva11) rfl (by kernel_rfl) (by kernel_rfl) (by kernel_rfl) (fun _ _ _ h => h) (Or.inl ⟨by rfl, ?hya11⟩) A ?resta11
  case hya11 => (intro w hSw; have c0 := hSw.mem.b0.cell; have c1 := hSw.mem.b1.cell; have c2 := hSw.mem.b2.cell; have c3 := hSw.mem.b3.cell;go_simp <;> with_reducible rfl)
  try simp only [Act.put, List.setIfInBounds_toArray, List.set_cons_zero, List.set_cons_succ]
  refine wpAnyH_take (i := 14) (oi := { dst := some 81, op := Op.pick (Operand.tmp 73) (Operand.const (Value.bool true)) (Operand.tmp 80), type := 4, pos := "laws.go:506", after := #[{ on := 6, ground := Ground.data }, { on := 13, ground := Ground.data }], guard := none }) (v := ?vva12) rfl (by kernel_rfl) (by kernel_rfl) (by kernel_rfl) (fun _ _ _ h => h) (Or.inl ⟨by rfl, ?hya12⟩) A ?resta12
  case hya12 => (intro w hSw; have c0 := hSw.mem.b0.cell; have c1 := hSw.mem.b1.cell; have c2 := hSw.mem.b2.cell; have c3 := hSw.mem.b3.cell;go_simp <;> with_reducible rfl)
  try simp only [Act.put, List.setIfInBounds_toArray, List.set_cons_zero, List.set_cons_succ]
  refine wpAnyH_take (i := 15) (oi := { dst := some 82, op := Op.move (Operand.tmp 81), type := 4, pos := "laws.go:506", after := #[{ on := 14, ground := Ground.data }, { on := 12, ground := Ground.chain }], guard := none }) (v := ?vva13) rfl (by kernel_rfl) (by kernel_rfl) (by kernel_rfl) (fun _ _ _ h => h) (Or.inl ⟨by rfl, ?hya13⟩) A ?resta13
  case hya13 => (intro w hSw; have c0 := hSw.mem.b0.cell; have c1 := hSw.mem.b1.cell; have c2 := hSw.mem.b2.cell; have c3 := hSw.mem.b3.cell;go_simp <;> with_reducible rfl)
  try simp only [Act.put, List.setIfInBounds_toArray, List.set_cons_zero, List.set_cons_succ]
  refine wpAnyH_take (i := 16) (oi := { dst := some 83, op := Op.load 32 (Operand.tmp 15), type := 32, pos := "laws.go:506", after := #[{ on := 15, ground := Ground.guard }], guard := some (15, false) }) (v := ?vva14) rfl (by kernel_rfl) (by kernel_rfl) (by kernel_rfl) (fun _ _ _ h => h) (Or.inl ⟨by rfl, ?hya14⟩) A ?resta14
  case hya14 => (intro w hSw; have c0 := hSw.mem.b0.cell; have c1 := hSw.mem.b1.cell; have c2 := hSw.mem.b2.cell; have c3 := hSw.mem.b3.cell;go_simp <;> with_reducible rfl)
  try simp only [Act.put, List.setIfInBounds_toArray, List.set_cons_zero, List.set_cons_succ]
  refine wpAnyH_take (i := 17) (oi := { dst := some 84, op := Op.move (Operand.tmp 13), type := 25, pos := "laws.go:506", after := #[{ on := 15, ground := Ground.guard }], guard := some (15, false) }) (v := ?vva15) rfl (by kernel_rfl) (by kernel_rfl) (by kernel_rfl) (fun _ _ _ h => h) (Or.inl ⟨by rfl, ?hya15⟩) A ?resta15
  case hya15 => (intro w hSw; have c0 := hSw.mem.b0.cell; have c1 := hSw.mem.b1.cell; have c2 := hSw.mem.b2.cell; have c3 := hSw.mem.b3.cell;go_simp <;> with_reducible rfl)
  try simp only [Act.put, List.setIfInBounds_toArray, List.set_cons_zero, List.set_cons_succ]
  refine wpAnyH_take (i := 18) (oi := { dst := some 85, op := Op.move (Operand.tmp 14), type := 2, pos := "laws.go:506", after := #[{ on := 15, ground := Ground.guard }], guard := some (15, false) }) (v := ?vva16) rfl (by kernel_rfl) (by kernel_rfl) (by kernel_rfl) (fun _ _ _ h => h) (Or.inl ⟨by rfl, ?hya16⟩) A ?resta16
  case hya16 => (intro w hSw; have c0 := hSw.mem.b0.cell; have c1 := hSw.mem.b1.cell; have c2 := hSw.mem.b2.cell; have c3 := hSw.mem.b3.cell;go_simp <;> with_reducible rfl)
  try simp only [Act.put, List.setIfInBounds_toArray, List.set_cons_zero, List.set_cons_succ]
  refine wpAnyH_ready (rs := [19]) (by kernel_rfl) (by simp) ?_
  refine AllReadyH.cons (o := { dst := some 86, op := Op.call { callee := Callee.value (Operand.func 29), args := #[Operand.tmp 84, Operand.tmp 85], argTypes := #[25, 2] }, type := 32, pos := "laws.go:506", after := #[{ on := 17, ground := Ground.data }, { on := 18, ground := Ground.data }, { on := 15, ground := Ground.chain }, { on := 15, ground := Ground.guard }], guard := some (15, false) }) rfl (fun K hK => ?_) AllReadyH.nil
  go_simp
  refine (HSt.out _ (A.sls _ mem3)).mono ?_
  rintro e v4 ⟨sv, so, sn, SX, rfl, hsub, hsee, ho, hb⟩
  obtain ⟨sa, sc, rfl⟩ := hsub.form ho
  replace A := A.kept hb
  have HS1 := Lib.hid (hsee _ _ ho)
  clear ho hb hsub hsee
  refine hK.out _ _ A (fun hHeld => ?_)
  clear hK K hHeld
  try simp only [Act.put, List.setIfInBounds_toArray, List.set_cons_zero, List.set_cons_succ]
  refine wpAnyH_ready (rs := [20]) (by kernel_rfl) (by simp) ?_
  refine AllReadyH.cons (o := { dst := some 87, op := Op.call { callee := Callee.value (Operand.func 37), args := #[Operand.tmp 83, Operand.tmp 86], argTypes := #[32, 32] }, type := 4, pos := "laws.go:506", after := #[{ on := 16, ground := Ground.data }, { on := 19, ground := Ground.data }, { on := 19, ground := Ground.chain }, { on := 15, ground := Ground.guard }], guard := some (15, false) }) rfl (fun K hK => ?_) AllReadyH.nil
  go_simp
  refine (HLw.out _ _ _ _ _ (A.sls _ mem2) HS1.out hyl HTok.out).mono ?_
  rintro e v5 ⟨rfl, hb⟩
  replace A := A.kept hb
  clear hb HS1
  refine hK.out _ _ A (fun hHeld => ?_)
  clear hK K hHeld
  try simp only [Act.put, List.setIfInBounds_toArray, List.set_cons_zero, List.set_cons_succ]
  refine wpAnyH_take (i := 21) (oi := { dst := some 88, op := Op.unOp UnOp.not 4 (Operand.tmp 87), type := 4, pos := "laws.go:506", after := #[{ on := 20, ground := Ground.data }, { on := 15, ground := Ground.guard }], guard := some (15, false) }) (v := ?vva17) rfl (by kernel_rfl) (by kernel_rfl) (by kernel_rfl) (fun _ _ _ h => h) (Or.inl ⟨by rfl, ?hya17⟩) A ?resta17
  case hya17 => (intro w hSw; have c0 := hSw.mem.b0.cell; have c1 := hSw.mem.b1.cell; have c2 := hSw.mem.b2.cell; have c3 := hSw.mem.b3.cell;go_simp <;> with_reducible rfl)
  try simp only [Act.put, List.setIfInBounds_toArray, List.set_cons_zero, List.set_cons_succ]
  refine wpAnyH_take (i := 22) (oi := { dst := some 89, op := Op.pick (Operand.tmp 82) (Operand.const (Value.bool true)) (Operand.tmp 88), type := 4, pos := "laws.go:506", after := #[{ on := 15, ground := Ground.data }, { on := 21, ground := Ground.data }], guard := none }) (v := ?vva18) rfl (by kernel_rfl) (by kernel_rfl) (by kernel_rfl) (fun _ _ _ h => h) (Or.inl ⟨by rfl, ?hya18⟩) A ?resta18
  case hya18 => (intro w hSw; have c0 := hSw.mem.b0.cell; have c1 := hSw.mem.b1.cell; have c2 := hSw.mem.b2.cell; have c3 := hSw.mem.b3.cell;go_simp <;> with_reducible rfl)
  try simp only [Act.put, List.setIfInBounds_toArray, List.set_cons_zero, List.set_cons_succ]
  refine wpAnyH_take (i := 23) (oi := { dst := some 90, op := Op.move (Operand.tmp 89), type := 4, pos := "laws.go:506", after := #[{ on := 22, ground := Ground.data }, { on := 20, ground := Ground.chain }], guard := none }) (v := ?vva19) rfl (by kernel_rfl) (by kernel_rfl) (by kernel_rfl) (fun _ _ _ h => h) (Or.inl ⟨by rfl, ?hya19⟩) A ?resta19
  case hya19 => (intro w hSw; have c0 := hSw.mem.b0.cell; have c1 := hSw.mem.b1.cell; have c2 := hSw.mem.b2.cell; have c3 := hSw.mem.b3.cell;go_simp <;> with_reducible rfl)
  try simp only [Act.put, List.setIfInBounds_toArray, List.set_cons_zero, List.set_cons_succ]
  refine wpAnyH_take (i := 24) (oi := { dst := some 91, op := Op.load 32 (Operand.tmp 19), type := 32, pos := "laws.go:506", after := #[{ on := 23, ground := Ground.guard }], guard := some (23, false) }) (v := ?vva20) rfl (by kernel_rfl) (by kernel_rfl) (by kernel_rfl) (fun _ _ _ h => h) (Or.inl ⟨by rfl, ?hya20⟩) A ?resta20
  case hya20 => (intro w hSw; have c0 := hSw.mem.b0.cell; have c1 := hSw.mem.b1.cell; have c2 := hSw.mem.b2.cell; have c3 := hSw.mem.b3.cell;go_simp <;> with_reducible rfl)
  try simp only [Act.put, List.setIfInBounds_toArray, List.set_cons_zero, List.set_cons_succ]
  refine wpAnyH_take (i := 25) (oi := { dst := some 92, op := Op.move (Operand.tmp 16), type := 25, pos := "laws.go:506", after := #[{ on := 23, ground := Ground.guard }], guard := some (23, false) }) (v := ?vva21) rfl (by kernel_rfl) (by kernel_rfl) (by kernel_rfl) (fun _ _ _ h => h) (Or.inl ⟨by rfl, ?hya21⟩) A ?resta21
  case hya21 => (intro w hSw; have c0 := hSw.mem.b0.cell; have c1 := hSw.mem.b1.cell; have c2 := hSw.mem.b2.cell; have c3 := hSw.mem.b3.cell;go_simp <;> with_reducible rfl)
  try simp only [Act.put, List.setIfInBounds_toArray, List.set_cons_zero, List.set_cons_succ]
  refine wpAnyH_take (i := 26) (oi := { dst := some 93, op := Op.move (Operand.tmp 17), type := 2, pos := "laws.go:506", after := #[{ on := 23, ground := Ground.guard }], guard := some (23, false) }) (v := ?vva22) rfl (by kernel_rfl) (by kernel_rfl) (by kernel_rfl) (fun _ _ _ h => h) (Or.inl ⟨by rfl, ?hya22⟩) A ?resta22
  case hya22 => (intro w hSw; have c0 := hSw.mem.b0.cell; have c1 := hSw.mem.b1.cell; have c2 := hSw.mem.b2.cell; have c3 := hSw.mem.b3.cell;go_simp <;> with_reducible rfl)
  try simp only [Act.put, List.setIfInBounds_toArray, List.set_cons_zero, List.set_cons_succ]
  refine wpAnyH_take (i := 27) (oi := { dst := some 94, op := Op.move (Operand.tmp 18), type := 2, pos := "laws.go:506", after := #[{ on := 23, ground := Ground.guard }], guard := some (23, false) }) (v := ?vva23) rfl (by kernel_rfl) (by kernel_rfl) (by kernel_rfl) (fun _ _ _ h => h) (Or.inl ⟨by rfl, ?hya23⟩) A ?resta23
  case hya23 => (intro w hSw; have c0 := hSw.mem.b0.cell; have c1 := hSw.mem.b1.cell; have c2 := hSw.mem.b2.cell; have c3 := hSw.mem.b3.cell;go_simp <;> with_reducible rfl)
  try simp only [Act.put, List.setIfInBounds_toArray, List.set_cons_zero, List.set_cons_succ]
  refine wpAnyH_ready (rs := [28]) (by kernel_rfl) (by simp) ?_
  refine AllReadyH.cons (o := { dst := some 95, op := Op.call { callee := Callee.value (Operand.func 31), args := #[Operand.tmp 92, Operand.tmp 93, Operand.tmp 94], argTypes := #[25, 2, 2] }, type := 32, pos := "laws.go:506", after := #[{ on := 25, ground := Ground.data }, { on := 26, ground := Ground.data }, { on := 27, ground := Ground.data }, { on := 23, ground := Ground.chain }, { on := 23, ground := Ground.guard }], guard := some (23, false) }) rfl (fun K hK => ?_) AllReadyH.nil
  go_simp
  refine (HSd.out _ (A.sls _ mem1)).mono ?_
  rintro e v6 ⟨sv, so, sn, SX, rfl, hsub, hsee, ho, hb⟩
  obtain ⟨sa, sc, rfl⟩ := hsub.form ho
  replace A := A.kept hb
  have HS1 := Lib.hid (hsee _ _ ho)
  clear ho hb hsub hsee
  refine hK.out _ _ A (fun hHeld => ?_)
  clear hK K hHeld
  try simp only [Act.put, List.setIfInBounds_toArray, List.set_cons_zero, List.set_cons_succ]
  refine wpAnyH_ready (rs := [29]) (by kernel_rfl) (by simp) ?_
  refine AllReadyH.cons (o := { dst := some 96, op := Op.call { callee := Callee.value (Operand.func 37), args := #[Operand.tmp 91, Operand.tmp 95], argTypes := #[32, 32] }, type := 4, pos := "laws.go:506", after := #[{ on := 24, ground := Ground.data }, { on := 28, ground := Ground.data }, { on := 28, ground := Ground.chain }, { on := 23, ground := Ground.guard }], guard := some (23, false) }) rfl (fun K hK => ?_) AllReadyH.nil
  go_simp
  refine (HLw.out _ _ _ _ _ (A.sls _ mem0) HS1.out hzl HDok.out).mono ?_
  rintro e v7 ⟨rfl, hb⟩
  replace A := A.kept hb
  clear hb HS1
  refine hK.out _ _ A (fun hHeld => ?_)
  clear hK K hHeld
  try simp only [Act.put, List.setIfInBounds_toArray, List.set_cons_zero, List.set_cons_succ]
  refine wpAnyH_take (i := 30) (oi := { dst := some 97, op := Op.unOp UnOp.not 4 (Operand.tmp 96), type := 4, pos := "laws.go:506", after := #[{ on := 29, ground := Ground.data }, { on := 23, ground := Ground.guard }], guard := some (23, false) }) (v := ?vva24) rfl (by kernel_rfl) (by kernel_rfl) (by kernel_rfl) (fun _ _ _ h => h) (Or.inl ⟨by rfl, ?hya24⟩) A ?resta24
  case hya24 => (intro w hSw; have c0 := hSw.mem.b0.cell; have c1 := hSw.mem.b1.cell; have c2 := hSw.mem.b2.cell; have c3 := hSw.mem.b3.cell;go_simp <;> with_reducible rfl)
  try simp only [Act.put, List.setIfInBounds_toArray, List.set_cons_zero, List.set_cons_succ]
  refine wpAnyH_take (i := 31) (oi := { dst := some 98, op := Op.pick (Operand.tmp 90) (Operand.const (Value.bool true)) (Operand.tmp 97), type := 4, pos := "laws.go:506", after := #[{ on := 23, ground := Ground.data }, { on := 30, ground := Ground.data }], guard := none }) (v := ?vva25) rfl (by kernel_rfl) (by kernel_rfl) (by kernel_rfl) (fun _ _ _ h => h) (Or.inl ⟨by rfl, ?hya25⟩) A ?resta25
  case hya25 => (intro w hSw; have c0 := hSw.mem.b0.cell; have c1 := hSw.mem.b1.cell; have c2 := hSw.mem.b2.cell; have c3 := hSw.mem.b3.cell;go_simp <;> with_reducible rfl)
  try simp only [Act.put, List.setIfInBounds_toArray, List.set_cons_zero, List.set_cons_succ]
  refine wpAnyH_take (i := 32) (oi := { dst := some 99, op := Op.move (Operand.tmp 98), type := 4, pos := "laws.go:506", after := #[{ on := 31, ground := Ground.data }, { on := 29, ground := Ground.chain }], guard := none }) (v := ?vva26) rfl (by kernel_rfl) (by kernel_rfl) (by kernel_rfl) (fun _ _ _ h => h) (Or.inl ⟨by rfl, ?hya26⟩) A ?resta26
  case hya26 => (intro w hSw; have c0 := hSw.mem.b0.cell; have c1 := hSw.mem.b1.cell; have c2 := hSw.mem.b2.cell; have c3 := hSw.mem.b3.cell;go_simp <;> with_reducible rfl)
  try simp only [Act.put, List.setIfInBounds_toArray, List.set_cons_zero, List.set_cons_succ]
  refine wpAnyH_take (i := 33) (oi := { dst := some 100, op := Op.move (Operand.tmp 5), type := 25, pos := "laws.go:506", after := #[{ on := 32, ground := Ground.guard }], guard := some (32, false) }) (v := ?vva27) rfl (by kernel_rfl) (by kernel_rfl) (by kernel_rfl) (fun _ _ _ h => h) (Or.inl ⟨by rfl, ?hya27⟩) A ?resta27
  case hya27 => (intro w hSw; have c0 := hSw.mem.b0.cell; have c1 := hSw.mem.b1.cell; have c2 := hSw.mem.b2.cell; have c3 := hSw.mem.b3.cell;go_simp <;> with_reducible rfl)
  try simp only [Act.put, List.setIfInBounds_toArray, List.set_cons_zero, List.set_cons_succ]
  refine wpAnyH_take (i := 35) (oi := { dst := some 102, op := Op.move (Operand.tmp 5), type := 25, pos := "laws.go:506", after := #[{ on := 32, ground := Ground.guard }], guard := some (32, false) }) (v := ?vva28) rfl (by kernel_rfl) (by kernel_rfl) (by kernel_rfl) (fun _ _ _ h => h) (Or.inl ⟨by rfl, ?hya28⟩) A ?resta28
  case hya28 => (intro w hSw; have c0 := hSw.mem.b0.cell; have c1 := hSw.mem.b1.cell; have c2 := hSw.mem.b2.cell; have c3 := hSw.mem.b3.cell;go_simp <;> with_reducible rfl)
  try simp only [Act.put, List.setIfInBounds_toArray, List.set_cons_zero, List.set_cons_succ]
  refine wpAnyH_ready (rs := [34]) (by kernel_rfl) (by simp) ?_
  refine AllReadyH.cons (o := { dst := some 101, op := Op.call { callee := Callee.value (Operand.func 18), args := #[Operand.tmp 100], argTypes := #[25] }, type := 4, pos := "laws.go:506", after := #[{ on := 33, ground := Ground.data }, { on := 32, ground := Ground.chain }, { on := 32, ground := Ground.guard }], guard := some (32, false) }) rfl (fun K hK => ?_) AllReadyH.nil
  go_simp
  refine (HRi.out _ (A.sls _ mem6)).mono ?_
  rintro e v8 ⟨rfl, hb⟩
  replace A := A.kept hb
  clear hb
  refine hK.out _ _ A (fun hHeld => ?_)
  clear hK K hHeld
  try simp only [Act.put, List.setIfInBounds_toArray, List.set_cons_zero, List.set_cons_succ]
  refine wpAnyH_ready (rs := [36]) (by kernel_rfl) (by simp) ?_
  refine AllReadyH.cons (o := { dst := some 103, op := Op.call { callee := Callee.value (Operand.func 16), args := #[Operand.tmp 102], argTypes := #[25] }, type := 4, pos := "laws.go:506", after := #[{ on := 35, ground := Ground.data }, { on := 34, ground := Ground.chain }, { on := 32, ground := Ground.guard }], guard := some (32, false) }) rfl (fun K hK => ?_) AllReadyH.nil
  go_simp
  refine (HRs.out _ (A.sls _ mem6)).mono ?_
  rintro e v9 ⟨rfl, hb⟩
  replace A := A.kept hb
  clear hb
  refine hK.out _ _ A (fun hHeld => ?_)
  clear hK K hHeld
  try simp only [Act.put, List.setIfInBounds_toArray, List.set_cons_zero, List.set_cons_succ]
  refine wpAnyH_take (i := 37) (oi := { dst := some 104, op := Op.binOp BinOp.neq 4 (Operand.tmp 101) (Operand.tmp 103) 4, type := 4, pos := "laws.go:506", after := #[{ on := 34, ground := Ground.data }, { on := 36, ground := Ground.data }, { on := 32, ground := Ground.guard }], guard := some (32, false) }) (v := ?vva29) rfl (by kernel_rfl) (by kernel_rfl) (by kernel_rfl) (fun _ _ _ h => h) (Or.inl ⟨by rfl, ?hya29⟩) A ?resta29
  case hya29 => (intro w hSw; have c0 := hSw.mem.b0.cell; have c1 := hSw.mem.b1.cell; have c2 := hSw.mem.b2.cell; have c3 := hSw.mem.b3.cell;go_simp <;> with_reducible rfl)
  try simp only [Act.put, List.setIfInBounds_toArray, List.set_cons_zero, List.set_cons_succ]
  refine wpAnyH_take (i := 38) (oi := { dst := some 105, op := Op.pick (Operand.tmp 99) (Operand.const (Value.bool true)) (Operand.tmp 104), type := 4, pos := "laws.go:506", after := #[{ on := 32, ground := Ground.data }, { on := 37, ground := Ground.data }], guard := none }) (v := ?vva30) rfl (by kernel_rfl) (by kernel_rfl) (by kernel_rfl) (fun _ _ _ h => h) (Or.inl ⟨by rfl, ?hya30⟩) A ?resta30
  case hya30 => (intro w hSw; have c0 := hSw.mem.b0.cell; have c1 := hSw.mem.b1.cell; have c2 := hSw.mem.b2.cell; have c3 := hSw.mem.b3.cell;go_simp <;> with_reducible rfl)
  try simp only [Act.put, List.setIfInBounds_toArray, List.set_cons_zero, List.set_cons_succ]
  refine wpAnyH_done (by kernel_rfl) ?_ _
  all_goals
    clear HSp HSt HSd HLw HRi HRs HPc HTok HDok HN1
    have HA := Lib.hid A
    clear A
    have c1 := HA.out.mem.b1.cell
    by_cases hy0 : yk = 0
    · subst hy0
      have HTy := Lib.hid (HTn.out rfl)
      clear HTn
      go_wp2_with fail
      go_loopw [20] (fun u wr => ∃ i : Nat, i ≤ 2 ∧ u = .int .i64 (161 + (i : Int)) ∧ Hid (FwM w wr [(qz, 32, #[.slice za ZM.length zc, .int .i64 zk]), (qy, 32, #[.slice ya YM.length yc, .int .i64 0]), (qx, 32, #[.slice xa XM.length xc, .int .i64 xk]), (qw, 34, #[.int .i64 r.vni, .int .i64 r.mac, .int .i64 r.tm])] [(.slice za ZM.length zc, ZM), (.slice da d.length dc, d), (.slice ya YM.length yc, YM), (.slice ta t.length tc, t), (.slice ca c.length cc, c), (.slice xa XM.length xc, XM), (.slice la l.length lc, l)])) (fun u _ => 163 - (intOf u).toNat)
      case atStart => exact ⟨0, by omega, rfl, HA⟩
      case round =>
        clear HA c1
        obtain ⟨i, hi, rfl, HA⟩ := hrel
        have c1 := HA.out.mem.b1.cell
        by_cases hlt : i < 2
        · have hlI : (161 : Int) + (i : Int) < 163 := by omega
          go_wp2_with fail
          refine (HIc.out YM _ 5 (161 + (i : Int)) at' _ (HA.out.sls _ mem2) (by omega)).mono ?_
          rintro e v10 ⟨rfl, hb⟩
          rw [HTy.out]
          replace HA := Lib.hid (HA.out.kept hb)
          clear hb c1
          go_wp2_with fail
          refine (HSc.out t _ 5 (161 + (i : Int)) at' _ (HA.out.sls _ mem3) (by omega)).mono ?_
          rintro e v11 ⟨rfl, hb⟩
          replace HA := Lib.hid (HA.out.kept hb)
          clear hb
          go_wp2_with fail
          go_roundw
          case rel => exact ⟨i + 1, by omega, by simp; omega, HA⟩
          case measure => simp [intOf]; omega
        · have hlI : ¬ (161 : Int) + (i : Int) < 163 := by omega
          have hi2 : i = 2 := by omega
          subst hi2
          clear c1
          have c0 := HA.out.mem.b0.cell
          by_cases hz0 : zk = 0
          · subst hz0
            have HDz0 := Lib.hid (HDn0.out rfl)
            have HDz1 := Lib.hid (HDn1.out rfl)
            clear HDn0 HDn1
            go_wp2_with fail
            refine (HIc.out ZM _ 5 dm 0 _ (HA.out.sls _ mem0) (by omega)).mono ?_
            rintro e v10 ⟨rfl, hb⟩
            rw [HDz0.out]
            replace HA := Lib.hid (HA.out.kept hb)
            clear hb c0
            have c0 := HA.out.mem.b0.cell
            go_wp2_with fail
            refine (HIc.out ZM _ 5 (dm + 1) 20 _ (HA.out.sls _ mem0) (by omega)).mono ?_
            rintro e v11 ⟨rfl, hb⟩
            rw [HDz1.out]
            replace HA := Lib.hid (HA.out.kept hb)
            clear hb c0
            go_wp2_with fail
            refine (HSc.out d _ 5 (dm + 1) 20 _ (HA.out.sls _ mem1) (by omega)).mono ?_
            rintro e v12 ⟨rfl, hb⟩
            replace HA := Lib.hid (HA.out.kept hb)
            clear hb
            have A := HA.out
            clear HA
            by_cases hx0 : xk = 0
            · subst hx0
              by_cases h30 : 30 ≤ l.length
              · have h30i : (30 : Int) ≤ (l.length : Int) := by omega
                go_upto_region 21 with fail
                replace A := A.drew
                refine wp_region_held_drew (S := fun W' => FwM w W' _ _) (by kernel_rfl) A (fun hHeld => ?_)
                clear hHeld
                refine wpAnyH_take (i := 0) (oi := { dst := some 148, op := Op.fieldAddr 32 (Operand.tmp 7) 1, type := 0, pos := "laws.go:519", after := #[], guard := none }) (v := ?vvt121) rfl (by kernel_rfl) (by kernel_rfl) (by kernel_rfl) (fun _ _ _ h => h) (Or.inl ⟨by rfl, ?hyt121⟩) A ?restt121
                case hyt121 => (intro w hSw; have c2 := hSw.mem.b2.cell; have c3 := hSw.mem.b3.cell;go_simp <;> with_reducible rfl)
                try simp only [Act.put, List.setIfInBounds_toArray, List.set_cons_zero, List.set_cons_succ]
                refine wpAnyH_take (i := 1) (oi := { dst := some 149, op := Op.load 2 (Operand.tmp 148), type := 2, pos := "laws.go:519", after := #[{ on := 0, ground := Ground.data }], guard := none }) (v := ?vvt122) rfl (by kernel_rfl) (by kernel_rfl) (by kernel_rfl) (fun _ _ _ h => h) (Or.inl ⟨by rfl, ?hyt122⟩) A ?restt122
                case hyt122 => (intro w hSw; have c2 := hSw.mem.b2.cell; have c3 := hSw.mem.b3.cell;go_simp <;> with_reducible rfl)
                try simp only [Act.put, List.setIfInBounds_toArray, List.set_cons_zero, List.set_cons_succ]
                refine wpAnyH_take (i := 2) (oi := { dst := some 150, op := Op.binOp BinOp.neq 2 (Operand.tmp 149) (Operand.const (Value.int IntKind.i64 0)) 2, type := 4, pos := "laws.go:519", after := #[{ on := 1, ground := Ground.data }], guard := none }) (v := ?vvt123) rfl (by kernel_rfl) (by kernel_rfl) (by kernel_rfl) (fun _ _ _ h => h) (Or.inl ⟨by rfl, ?hyt123⟩) A ?restt123
                case hyt123 => (intro w hSw; have c2 := hSw.mem.b2.cell; have c3 := hSw.mem.b3.cell;go_simp <;> with_reducible rfl)
                try simp only [Act.put, List.setIfInBounds_toArray, List.set_cons_zero, List.set_cons_succ]
                refine wpAnyH_take (i := 3) (oi := { dst := some 151, op := Op.move (Operand.tmp 150), type := 4, pos := "laws.go:519", after := #[{ on := 2, ground := Ground.data }], guard := none }) (v := ?vvt124) rfl (by kernel_rfl) (by kernel_rfl) (by kernel_rfl) (fun _ _ _ h => h) (Or.inl ⟨by rfl, ?hyt124⟩) A ?restt124
                case hyt124 => (intro w hSw; have c2 := hSw.mem.b2.cell; have c3 := hSw.mem.b3.cell;go_simp <;> with_reducible rfl)
                try simp only [Act.put, List.setIfInBounds_toArray, List.set_cons_zero, List.set_cons_succ]
                refine wpAnyH_take (i := 4) (oi := { dst := some 152, op := Op.move (Operand.tmp 5), type := 25, pos := "laws.go:519", after := #[{ on := 3, ground := Ground.guard }], guard := some (3, false) }) (v := ?vvt125) rfl (by kernel_rfl) (by kernel_rfl) (by kernel_rfl) (fun _ _ _ h => h) (Or.inl ⟨by rfl, ?hyt125⟩) A ?restt125
                case hyt125 => (intro w hSw; have c2 := hSw.mem.b2.cell; have c3 := hSw.mem.b3.cell;go_simp <;> with_reducible rfl)
                try simp only [Act.put, List.setIfInBounds_toArray, List.set_cons_zero, List.set_cons_succ]
                refine wpAnyH_take (i := 5) (oi := { dst := some 153, op := Op.call { callee := Callee.builtin Builtin.len, args := #[Operand.tmp 152], argTypes := #[25] }, type := 3, pos := "laws.go:519", after := #[{ on := 4, ground := Ground.data }, { on := 3, ground := Ground.guard }], guard := some (3, false) }) (v := ?vvt126) rfl (by kernel_rfl) (by kernel_rfl) (by kernel_rfl) (fun _ _ _ h => h) (Or.inl ⟨by rfl, ?hyt126⟩) A ?restt126
                case hyt126 => (intro w hSw; have c2 := hSw.mem.b2.cell; have c3 := hSw.mem.b3.cell;go_simp <;> with_reducible rfl)
                try simp only [Act.put, List.setIfInBounds_toArray, List.set_cons_zero, List.set_cons_succ]
                refine wpAnyH_take (i := 6) (oi := { dst := some 154, op := Op.binOp BinOp.geq 3 (Operand.tmp 153) (Operand.const (Value.int IntKind.i64 30)) 3, type := 4, pos := "laws.go:519", after := #[{ on := 5, ground := Ground.data }, { on := 3, ground := Ground.guard }], guard := some (3, false) }) (v := ?vvt127) rfl (by kernel_rfl) (by kernel_rfl) (by kernel_rfl) (fun _ _ _ h => h) (Or.inl ⟨by rfl, ?hyt127⟩) A ?restt127
                case hyt127 => (intro w hSw; have c2 := hSw.mem.b2.cell; have c3 := hSw.mem.b3.cell;go_simp <;> with_reducible rfl)
                try simp only [Act.put, List.setIfInBounds_toArray, List.set_cons_zero, List.set_cons_succ]
                refine wpAnyH_take (i := 7) (oi := { dst := some 155, op := Op.pick (Operand.tmp 151) (Operand.const (Value.bool true)) (Operand.tmp 154), type := 4, pos := "laws.go:519", after := #[{ on := 3, ground := Ground.data }, { on := 6, ground := Ground.data }], guard := none }) (v := ?vvt128) rfl (by kernel_rfl) (by kernel_rfl) (by kernel_rfl) (fun _ _ _ h => h) (Or.inl ⟨by rfl, ?hyt128⟩) A ?restt128
                case hyt128 => (intro w hSw; have c2 := hSw.mem.b2.cell; have c3 := hSw.mem.b3.cell;go_simp <;> with_reducible rfl)
                try simp only [Act.put, List.setIfInBounds_toArray, List.set_cons_zero, List.set_cons_succ]
                refine wpAnyH_take (i := 8) (oi := { dst := some 156, op := Op.move (Operand.tmp 155), type := 4, pos := "laws.go:519", after := #[{ on := 7, ground := Ground.data }, { on := 3, ground := Ground.chain }], guard := none }) (v := ?vvt129) rfl (by kernel_rfl) (by kernel_rfl) (by kernel_rfl) (fun _ _ _ h => h) (Or.inl ⟨by rfl, ?hyt129⟩) A ?restt129
                case hyt129 => (intro w hSw; have c2 := hSw.mem.b2.cell; have c3 := hSw.mem.b3.cell;go_simp <;> with_reducible rfl)
                try simp only [Act.put, List.setIfInBounds_toArray, List.set_cons_zero, List.set_cons_succ]
                refine wpAnyH_take (i := 9) (oi := { dst := some 157, op := Op.fieldAddr 32 (Operand.tmp 7) 0, type := 0, pos := "laws.go:519", after := #[{ on := 8, ground := Ground.guard }], guard := some (8, false) }) (v := undef) rfl (by kernel_rfl) (by kernel_rfl) (by kernel_rfl) (fun _ _ _ h => h) (Or.inr ⟨by rfl, rfl⟩) A ?_
                try simp only [Act.put, List.setIfInBounds_toArray, List.set_cons_zero, List.set_cons_succ]
                refine wpAnyH_take (i := 10) (oi := { dst := some 158, op := Op.load 25 (Operand.tmp 157), type := 25, pos := "laws.go:519", after := #[{ on := 9, ground := Ground.data }, { on := 8, ground := Ground.guard }], guard := some (8, false) }) (v := undef) rfl (by kernel_rfl) (by kernel_rfl) (by kernel_rfl) (fun _ _ _ h => h) (Or.inr ⟨by rfl, rfl⟩) A ?_
                try simp only [Act.put, List.setIfInBounds_toArray, List.set_cons_zero, List.set_cons_succ]
                refine wpAnyH_take (i := 11) (oi := { dst := some 159, op := Op.fieldAddr 34 (Operand.tmp 6) 0, type := 0, pos := "laws.go:519", after := #[{ on := 8, ground := Ground.guard }], guard := some (8, false) }) (v := undef) rfl (by kernel_rfl) (by kernel_rfl) (by kernel_rfl) (fun _ _ _ h => h) (Or.inr ⟨by rfl, rfl⟩) A ?_
                try simp only [Act.put, List.setIfInBounds_toArray, List.set_cons_zero, List.set_cons_succ]
                refine wpAnyH_take (i := 12) (oi := { dst := some 160, op := Op.load 2 (Operand.tmp 159), type := 2, pos := "laws.go:519", after := #[{ on := 11, ground := Ground.data }, { on := 8, ground := Ground.guard }], guard := some (8, false) }) (v := undef) rfl (by kernel_rfl) (by kernel_rfl) (by kernel_rfl) (fun _ _ _ h => h) (Or.inr ⟨by rfl, rfl⟩) A ?_
                try simp only [Act.put, List.setIfInBounds_toArray, List.set_cons_zero, List.set_cons_succ]
                refine wpAnyH_take (i := 13) (oi := { dst := some 161, op := Op.fieldAddr 34 (Operand.tmp 6) 1, type := 0, pos := "laws.go:519", after := #[{ on := 8, ground := Ground.guard }], guard := some (8, false) }) (v := undef) rfl (by kernel_rfl) (by kernel_rfl) (by kernel_rfl) (fun _ _ _ h => h) (Or.inr ⟨by rfl, rfl⟩) A ?_
                try simp only [Act.put, List.setIfInBounds_toArray, List.set_cons_zero, List.set_cons_succ]
                refine wpAnyH_take (i := 14) (oi := { dst := some 162, op := Op.load 2 (Operand.tmp 161), type := 2, pos := "laws.go:519", after := #[{ on := 13, ground := Ground.data }, { on := 8, ground := Ground.guard }], guard := some (8, false) }) (v := undef) rfl (by kernel_rfl) (by kernel_rfl) (by kernel_rfl) (fun _ _ _ h => h) (Or.inr ⟨by rfl, rfl⟩) A ?_
                try simp only [Act.put, List.setIfInBounds_toArray, List.set_cons_zero, List.set_cons_succ]
                refine wpAnyH_take (i := 15) (oi := { dst := some 163, op := Op.fieldAddr 34 (Operand.tmp 6) 2, type := 0, pos := "laws.go:519", after := #[{ on := 8, ground := Ground.guard }], guard := some (8, false) }) (v := undef) rfl (by kernel_rfl) (by kernel_rfl) (by kernel_rfl) (fun _ _ _ h => h) (Or.inr ⟨by rfl, rfl⟩) A ?_
                try simp only [Act.put, List.setIfInBounds_toArray, List.set_cons_zero, List.set_cons_succ]
                refine wpAnyH_take (i := 16) (oi := { dst := some 164, op := Op.load 2 (Operand.tmp 163), type := 2, pos := "laws.go:519", after := #[{ on := 15, ground := Ground.data }, { on := 8, ground := Ground.guard }], guard := some (8, false) }) (v := undef) rfl (by kernel_rfl) (by kernel_rfl) (by kernel_rfl) (fun _ _ _ h => h) (Or.inr ⟨by rfl, rfl⟩) A ?_
                try simp only [Act.put, List.setIfInBounds_toArray, List.set_cons_zero, List.set_cons_succ]
                refine wpAnyH_take (i := 17) (oi := { dst := some 165, op := Op.call { callee := Callee.value (Operand.func 28), args := #[Operand.tmp 158, Operand.tmp 160, Operand.tmp 162, Operand.tmp 164], argTypes := #[25, 2, 2, 2] }, type := 2, pos := "laws.go:519", after := #[{ on := 10, ground := Ground.data }, { on := 12, ground := Ground.data }, { on := 14, ground := Ground.data }, { on := 16, ground := Ground.data }, { on := 8, ground := Ground.chain }, { on := 8, ground := Ground.guard }], guard := some (8, false) }) (v := undef) rfl (by kernel_rfl) (by kernel_rfl) (by kernel_rfl) (fun _ _ _ h => h) (Or.inr ⟨by rfl, rfl⟩) A ?_
                try simp only [Act.put, List.setIfInBounds_toArray, List.set_cons_zero, List.set_cons_succ]
                refine wpAnyH_take (i := 18) (oi := { dst := some 166, op := Op.move (Operand.tmp 5), type := 25, pos := "laws.go:519", after := #[{ on := 8, ground := Ground.guard }], guard := some (8, false) }) (v := undef) rfl (by kernel_rfl) (by kernel_rfl) (by kernel_rfl) (fun _ _ _ h => h) (Or.inr ⟨by rfl, rfl⟩) A ?_
                try simp only [Act.put, List.setIfInBounds_toArray, List.set_cons_zero, List.set_cons_succ]
                refine wpAnyH_take (i := 19) (oi := { dst := some 167, op := Op.fieldAddr 34 (Operand.tmp 6) 0, type := 0, pos := "laws.go:519", after := #[{ on := 8, ground := Ground.guard }], guard := some (8, false) }) (v := undef) rfl (by kernel_rfl) (by kernel_rfl) (by kernel_rfl) (fun _ _ _ h => h) (Or.inr ⟨by rfl, rfl⟩) A ?_
                try simp only [Act.put, List.setIfInBounds_toArray, List.set_cons_zero, List.set_cons_succ]
                refine wpAnyH_take (i := 20) (oi := { dst := some 168, op := Op.load 2 (Operand.tmp 167), type := 2, pos := "laws.go:519", after := #[{ on := 19, ground := Ground.data }, { on := 8, ground := Ground.guard }], guard := some (8, false) }) (v := undef) rfl (by kernel_rfl) (by kernel_rfl) (by kernel_rfl) (fun _ _ _ h => h) (Or.inr ⟨by rfl, rfl⟩) A ?_
                try simp only [Act.put, List.setIfInBounds_toArray, List.set_cons_zero, List.set_cons_succ]
                refine wpAnyH_take (i := 21) (oi := { dst := some 169, op := Op.fieldAddr 34 (Operand.tmp 6) 1, type := 0, pos := "laws.go:519", after := #[{ on := 8, ground := Ground.guard }], guard := some (8, false) }) (v := undef) rfl (by kernel_rfl) (by kernel_rfl) (by kernel_rfl) (fun _ _ _ h => h) (Or.inr ⟨by rfl, rfl⟩) A ?_
                try simp only [Act.put, List.setIfInBounds_toArray, List.set_cons_zero, List.set_cons_succ]
                refine wpAnyH_take (i := 22) (oi := { dst := some 170, op := Op.load 2 (Operand.tmp 169), type := 2, pos := "laws.go:519", after := #[{ on := 21, ground := Ground.data }, { on := 8, ground := Ground.guard }], guard := some (8, false) }) (v := undef) rfl (by kernel_rfl) (by kernel_rfl) (by kernel_rfl) (fun _ _ _ h => h) (Or.inr ⟨by rfl, rfl⟩) A ?_
                try simp only [Act.put, List.setIfInBounds_toArray, List.set_cons_zero, List.set_cons_succ]
                refine wpAnyH_take (i := 23) (oi := { dst := some 171, op := Op.fieldAddr 34 (Operand.tmp 6) 2, type := 0, pos := "laws.go:519", after := #[{ on := 8, ground := Ground.guard }], guard := some (8, false) }) (v := undef) rfl (by kernel_rfl) (by kernel_rfl) (by kernel_rfl) (fun _ _ _ h => h) (Or.inr ⟨by rfl, rfl⟩) A ?_
                try simp only [Act.put, List.setIfInBounds_toArray, List.set_cons_zero, List.set_cons_succ]
                refine wpAnyH_take (i := 24) (oi := { dst := some 172, op := Op.load 2 (Operand.tmp 171), type := 2, pos := "laws.go:519", after := #[{ on := 23, ground := Ground.data }, { on := 8, ground := Ground.guard }], guard := some (8, false) }) (v := undef) rfl (by kernel_rfl) (by kernel_rfl) (by kernel_rfl) (fun _ _ _ h => h) (Or.inr ⟨by rfl, rfl⟩) A ?_
                try simp only [Act.put, List.setIfInBounds_toArray, List.set_cons_zero, List.set_cons_succ]
                refine wpAnyH_take (i := 25) (oi := { dst := some 173, op := Op.call { callee := Callee.value (Operand.func 27), args := #[Operand.tmp 166, Operand.tmp 168, Operand.tmp 170, Operand.tmp 172], argTypes := #[25, 2, 2, 2] }, type := 2, pos := "laws.go:519", after := #[{ on := 18, ground := Ground.data }, { on := 20, ground := Ground.data }, { on := 22, ground := Ground.data }, { on := 24, ground := Ground.data }, { on := 17, ground := Ground.chain }, { on := 8, ground := Ground.guard }], guard := some (8, false) }) (v := undef) rfl (by kernel_rfl) (by kernel_rfl) (by kernel_rfl) (fun _ _ _ h => h) (Or.inr ⟨by rfl, rfl⟩) A ?_
                try simp only [Act.put, List.setIfInBounds_toArray, List.set_cons_zero, List.set_cons_succ]
                refine wpAnyH_take (i := 26) (oi := { dst := some 174, op := Op.binOp BinOp.add 2 (Operand.tmp 173) (Operand.const (Value.int IntKind.i64 1)) 2, type := 2, pos := "laws.go:519", after := #[{ on := 25, ground := Ground.data }, { on := 8, ground := Ground.guard }], guard := some (8, false) }) (v := undef) rfl (by kernel_rfl) (by kernel_rfl) (by kernel_rfl) (fun _ _ _ h => h) (Or.inr ⟨by rfl, rfl⟩) A ?_
                try simp only [Act.put, List.setIfInBounds_toArray, List.set_cons_zero, List.set_cons_succ]
                refine wpAnyH_take (i := 27) (oi := { dst := some 175, op := Op.binOp BinOp.eql 2 (Operand.tmp 165) (Operand.tmp 174) 2, type := 4, pos := "laws.go:519", after := #[{ on := 17, ground := Ground.data }, { on := 26, ground := Ground.data }, { on := 8, ground := Ground.guard }], guard := some (8, false) }) (v := undef) rfl (by kernel_rfl) (by kernel_rfl) (by kernel_rfl) (fun _ _ _ h => h) (Or.inr ⟨by rfl, rfl⟩) A ?_
                try simp only [Act.put, List.setIfInBounds_toArray, List.set_cons_zero, List.set_cons_succ]
                refine wpAnyH_take (i := 28) (oi := { dst := some 176, op := Op.pick (Operand.tmp 156) (Operand.const (Value.bool true)) (Operand.tmp 175), type := 4, pos := "laws.go:519", after := #[{ on := 8, ground := Ground.data }, { on := 27, ground := Ground.data }], guard := none }) (v := ?vvt1229) rfl (by kernel_rfl) (by kernel_rfl) (by kernel_rfl) (fun _ _ _ h => h) (Or.inl ⟨by rfl, ?hyt1229⟩) A ?restt1229
                case hyt1229 => (intro w hSw; have c2 := hSw.mem.b2.cell; have c3 := hSw.mem.b3.cell;go_simp <;> with_reducible rfl)
                try simp only [Act.put, List.setIfInBounds_toArray, List.set_cons_zero, List.set_cons_succ]
                refine wpAnyH_take (i := 29) (oi := { dst := some 4, op := Op.assign (Operand.tmp 176), type := 4, pos := "laws.go:519", after := #[{ on := 28, ground := Ground.data }, { on := 25, ground := Ground.chain }, { on := 0, ground := Ground.phase }, { on := 1, ground := Ground.phase }, { on := 2, ground := Ground.phase }, { on := 3, ground := Ground.phase }, { on := 4, ground := Ground.phase }, { on := 5, ground := Ground.phase }, { on := 6, ground := Ground.phase }, { on := 7, ground := Ground.phase }, { on := 8, ground := Ground.phase }, { on := 9, ground := Ground.phase }, { on := 10, ground := Ground.phase }, { on := 11, ground := Ground.phase }, { on := 12, ground := Ground.phase }, { on := 13, ground := Ground.phase }, { on := 14, ground := Ground.phase }, { on := 15, ground := Ground.phase }, { on := 16, ground := Ground.phase }, { on := 17, ground := Ground.phase }, { on := 18, ground := Ground.phase }, { on := 19, ground := Ground.phase }, { on := 20, ground := Ground.phase }, { on := 21, ground := Ground.phase }, { on := 22, ground := Ground.phase }, { on := 23, ground := Ground.phase }, { on := 24, ground := Ground.phase }, { on := 25, ground := Ground.phase }, { on := 26, ground := Ground.phase }, { on := 27, ground := Ground.phase }, { on := 28, ground := Ground.phase }], guard := none }) (v := ?vvt1230) rfl (by kernel_rfl) (by kernel_rfl) (by kernel_rfl) (fun _ _ _ h => h) (Or.inl ⟨by rfl, ?hyt1230⟩) A ?restt1230
                case hyt1230 => (intro w hSw; have c2 := hSw.mem.b2.cell; have c3 := hSw.mem.b3.cell;go_simp <;> with_reducible rfl)
                try simp only [Act.put, List.setIfInBounds_toArray, List.set_cons_zero, List.set_cons_succ]
                refine wpAnyH_done (by kernel_rfl) ?_ _
                all_goals
                  have HB := Lib.hid A.bel
                  go_wp2_with fail
                  go_ret
                  exact ⟨rfl, HB.out⟩
              · have h30i : ¬ (30 : Int) ≤ (l.length : Int) := by omega
                have HPx := Lib.hid (HPn.out rfl h30)
                have hkb := cnt_le l r.vni r.mac r.tm
                have hwk : IntKind.i64.wrap (cntR l r.vni r.mac r.tm + 1) = cntR l r.vni r.mac r.tm + 1 := by simp only [IntKind.wrap_i64]; omega
                have HL1 : Hid (decide ((30 : Int) ≤ (l.length : Int)) = false) := Lib.hid (decide_eq_false h30i)
                have HL2 : Hid (decide (30 ≤ l.length) = false) := Lib.hid (decide_eq_false h30)
                clear HPn
                go_upto_region 21 with fail
                replace A := A.drew
                refine wp_region_held_drew (S := fun W' => FwM w W' _ _) (by kernel_rfl) A (fun hHeld => ?_)
                clear hHeld
                refine wpAnyH_take (i := 0) (oi := { dst := some 148, op := Op.fieldAddr 32 (Operand.tmp 7) 1, type := 0, pos := "laws.go:519", after := #[], guard := none }) (v := ?vvt131) rfl (by kernel_rfl) (by kernel_rfl) (by kernel_rfl) (fun _ _ _ h => h) (Or.inl ⟨by rfl, ?hyt131⟩) A ?restt131
                case hyt131 => (intro w hSw; have c2 := hSw.mem.b2.cell; have c3 := hSw.mem.b3.cell;go_simp <;> with_reducible rfl)
                try simp only [Act.put, List.setIfInBounds_toArray, List.set_cons_zero, List.set_cons_succ]
                try simp only [HL1.out]
                try simp only [HL2.out]
                refine wpAnyH_take (i := 1) (oi := { dst := some 149, op := Op.load 2 (Operand.tmp 148), type := 2, pos := "laws.go:519", after := #[{ on := 0, ground := Ground.data }], guard := none }) (v := ?vvt132) rfl (by kernel_rfl) (by kernel_rfl) (by kernel_rfl) (fun _ _ _ h => h) (Or.inl ⟨by rfl, ?hyt132⟩) A ?restt132
                case hyt132 => (intro w hSw; have c2 := hSw.mem.b2.cell; have c3 := hSw.mem.b3.cell;go_simp <;> with_reducible rfl)
                try simp only [Act.put, List.setIfInBounds_toArray, List.set_cons_zero, List.set_cons_succ]
                try simp only [HL1.out]
                try simp only [HL2.out]
                refine wpAnyH_take (i := 2) (oi := { dst := some 150, op := Op.binOp BinOp.neq 2 (Operand.tmp 149) (Operand.const (Value.int IntKind.i64 0)) 2, type := 4, pos := "laws.go:519", after := #[{ on := 1, ground := Ground.data }], guard := none }) (v := ?vvt133) rfl (by kernel_rfl) (by kernel_rfl) (by kernel_rfl) (fun _ _ _ h => h) (Or.inl ⟨by rfl, ?hyt133⟩) A ?restt133
                case hyt133 => (intro w hSw; have c2 := hSw.mem.b2.cell; have c3 := hSw.mem.b3.cell;go_simp <;> with_reducible rfl)
                try simp only [Act.put, List.setIfInBounds_toArray, List.set_cons_zero, List.set_cons_succ]
                try simp only [HL1.out]
                try simp only [HL2.out]
                refine wpAnyH_take (i := 3) (oi := { dst := some 151, op := Op.move (Operand.tmp 150), type := 4, pos := "laws.go:519", after := #[{ on := 2, ground := Ground.data }], guard := none }) (v := ?vvt134) rfl (by kernel_rfl) (by kernel_rfl) (by kernel_rfl) (fun _ _ _ h => h) (Or.inl ⟨by rfl, ?hyt134⟩) A ?restt134
                case hyt134 => (intro w hSw; have c2 := hSw.mem.b2.cell; have c3 := hSw.mem.b3.cell;go_simp <;> with_reducible rfl)
                try simp only [Act.put, List.setIfInBounds_toArray, List.set_cons_zero, List.set_cons_succ]
                try simp only [HL1.out]
                try simp only [HL2.out]
                refine wpAnyH_take (i := 4) (oi := { dst := some 152, op := Op.move (Operand.tmp 5), type := 25, pos := "laws.go:519", after := #[{ on := 3, ground := Ground.guard }], guard := some (3, false) }) (v := ?vvt135) rfl (by kernel_rfl) (by kernel_rfl) (by kernel_rfl) (fun _ _ _ h => h) (Or.inl ⟨by rfl, ?hyt135⟩) A ?restt135
                case hyt135 => (intro w hSw; have c2 := hSw.mem.b2.cell; have c3 := hSw.mem.b3.cell;go_simp <;> with_reducible rfl)
                try simp only [Act.put, List.setIfInBounds_toArray, List.set_cons_zero, List.set_cons_succ]
                try simp only [HL1.out]
                try simp only [HL2.out]
                refine wpAnyH_take (i := 5) (oi := { dst := some 153, op := Op.call { callee := Callee.builtin Builtin.len, args := #[Operand.tmp 152], argTypes := #[25] }, type := 3, pos := "laws.go:519", after := #[{ on := 4, ground := Ground.data }, { on := 3, ground := Ground.guard }], guard := some (3, false) }) (v := ?vvt136) rfl (by kernel_rfl) (by kernel_rfl) (by kernel_rfl) (fun _ _ _ h => h) (Or.inl ⟨by rfl, ?hyt136⟩) A ?restt136
                case hyt136 => (intro w hSw; have c2 := hSw.mem.b2.cell; have c3 := hSw.mem.b3.cell;go_simp <;> with_reducible rfl)
                try simp only [Act.put, List.setIfInBounds_toArray, List.set_cons_zero, List.set_cons_succ]
                try simp only [HL1.out]
                try simp only [HL2.out]
                refine wpAnyH_take (i := 6) (oi := { dst := some 154, op := Op.binOp BinOp.geq 3 (Operand.tmp 153) (Operand.const (Value.int IntKind.i64 30)) 3, type := 4, pos := "laws.go:519", after := #[{ on := 5, ground := Ground.data }, { on := 3, ground := Ground.guard }], guard := some (3, false) }) (v := ?vvt137) rfl (by kernel_rfl) (by kernel_rfl) (by kernel_rfl) (fun _ _ _ h => h) (Or.inl ⟨by rfl, ?hyt137⟩) A ?restt137
                case hyt137 => (intro w hSw; have c2 := hSw.mem.b2.cell; have c3 := hSw.mem.b3.cell;go_simp <;> with_reducible rfl)
                try simp only [Act.put, List.setIfInBounds_toArray, List.set_cons_zero, List.set_cons_succ]
                try simp only [HL1.out]
                try simp only [HL2.out]
                refine wpAnyH_take (i := 7) (oi := { dst := some 155, op := Op.pick (Operand.tmp 151) (Operand.const (Value.bool true)) (Operand.tmp 154), type := 4, pos := "laws.go:519", after := #[{ on := 3, ground := Ground.data }, { on := 6, ground := Ground.data }], guard := none }) (v := ?vvt138) rfl (by kernel_rfl) (by kernel_rfl) (by kernel_rfl) (fun _ _ _ h => h) (Or.inl ⟨by rfl, ?hyt138⟩) A ?restt138
                case hyt138 => (intro w hSw; have c2 := hSw.mem.b2.cell; have c3 := hSw.mem.b3.cell;go_simp <;> with_reducible rfl)
                try simp only [Act.put, List.setIfInBounds_toArray, List.set_cons_zero, List.set_cons_succ]
                try simp only [HL1.out]
                try simp only [HL2.out]
                refine wpAnyH_take (i := 8) (oi := { dst := some 156, op := Op.move (Operand.tmp 155), type := 4, pos := "laws.go:519", after := #[{ on := 7, ground := Ground.data }, { on := 3, ground := Ground.chain }], guard := none }) (v := ?vvt139) rfl (by kernel_rfl) (by kernel_rfl) (by kernel_rfl) (fun _ _ _ h => h) (Or.inl ⟨by rfl, ?hyt139⟩) A ?restt139
                case hyt139 => (intro w hSw; have c2 := hSw.mem.b2.cell; have c3 := hSw.mem.b3.cell;go_simp <;> with_reducible rfl)
                try simp only [Act.put, List.setIfInBounds_toArray, List.set_cons_zero, List.set_cons_succ]
                try simp only [HL1.out]
                try simp only [HL2.out]
                refine wpAnyH_take (i := 9) (oi := { dst := some 157, op := Op.fieldAddr 32 (Operand.tmp 7) 0, type := 0, pos := "laws.go:519", after := #[{ on := 8, ground := Ground.guard }], guard := some (8, false) }) (v := ?vvt1310) rfl (by kernel_rfl) (by kernel_rfl) (by kernel_rfl) (fun _ _ _ h => h) (Or.inl ⟨by rfl, ?hyt1310⟩) A ?restt1310
                case hyt1310 => (intro w hSw; have c2 := hSw.mem.b2.cell; have c3 := hSw.mem.b3.cell;go_simp <;> with_reducible rfl)
                try simp only [Act.put, List.setIfInBounds_toArray, List.set_cons_zero, List.set_cons_succ]
                try simp only [HL1.out]
                try simp only [HL2.out]
                refine wpAnyH_take (i := 10) (oi := { dst := some 158, op := Op.load 25 (Operand.tmp 157), type := 25, pos := "laws.go:519", after := #[{ on := 9, ground := Ground.data }, { on := 8, ground := Ground.guard }], guard := some (8, false) }) (v := ?vvt1311) rfl (by kernel_rfl) (by kernel_rfl) (by kernel_rfl) (fun _ _ _ h => h) (Or.inl ⟨by rfl, ?hyt1311⟩) A ?restt1311
                case hyt1311 => (intro w hSw; have c2 := hSw.mem.b2.cell; have c3 := hSw.mem.b3.cell;go_simp <;> with_reducible rfl)
                try simp only [Act.put, List.setIfInBounds_toArray, List.set_cons_zero, List.set_cons_succ]
                try simp only [HL1.out]
                try simp only [HL2.out]
                refine wpAnyH_take (i := 11) (oi := { dst := some 159, op := Op.fieldAddr 34 (Operand.tmp 6) 0, type := 0, pos := "laws.go:519", after := #[{ on := 8, ground := Ground.guard }], guard := some (8, false) }) (v := ?vvt1312) rfl (by kernel_rfl) (by kernel_rfl) (by kernel_rfl) (fun _ _ _ h => h) (Or.inl ⟨by rfl, ?hyt1312⟩) A ?restt1312
                case hyt1312 => (intro w hSw; have c2 := hSw.mem.b2.cell; have c3 := hSw.mem.b3.cell;go_simp <;> with_reducible rfl)
                try simp only [Act.put, List.setIfInBounds_toArray, List.set_cons_zero, List.set_cons_succ]
                try simp only [HL1.out]
                try simp only [HL2.out]
                refine wpAnyH_take (i := 12) (oi := { dst := some 160, op := Op.load 2 (Operand.tmp 159), type := 2, pos := "laws.go:519", after := #[{ on := 11, ground := Ground.data }, { on := 8, ground := Ground.guard }], guard := some (8, false) }) (v := ?vvt1313) rfl (by kernel_rfl) (by kernel_rfl) (by kernel_rfl) (fun _ _ _ h => h) (Or.inl ⟨by rfl, ?hyt1313⟩) A ?restt1313
                case hyt1313 => (intro w hSw; have c2 := hSw.mem.b2.cell; have c3 := hSw.mem.b3.cell;go_simp <;> with_reducible rfl)
                try simp only [Act.put, List.setIfInBounds_toArray, List.set_cons_zero, List.set_cons_succ]
                try simp only [HL1.out]
                try simp only [HL2.out]
                refine wpAnyH_take (i := 13) (oi := { dst := some 161, op := Op.fieldAddr 34 (Operand.tmp 6) 1, type := 0, pos := "laws.go:519", after := #[{ on := 8, ground := Ground.guard }], guard := some (8, false) }) (v := ?vvt1314) rfl (by kernel_rfl) (by kernel_rfl) (by kernel_rfl) (fun _ _ _ h => h) (Or.inl ⟨by rfl, ?hyt1314⟩) A ?restt1314
                case hyt1314 => (intro w hSw; have c2 := hSw.mem.b2.cell; have c3 := hSw.mem.b3.cell;go_simp <;> with_reducible rfl)
                try simp only [Act.put, List.setIfInBounds_toArray, List.set_cons_zero, List.set_cons_succ]
                try simp only [HL1.out]
                try simp only [HL2.out]
                refine wpAnyH_take (i := 14) (oi := { dst := some 162, op := Op.load 2 (Operand.tmp 161), type := 2, pos := "laws.go:519", after := #[{ on := 13, ground := Ground.data }, { on := 8, ground := Ground.guard }], guard := some (8, false) }) (v := ?vvt1315) rfl (by kernel_rfl) (by kernel_rfl) (by kernel_rfl) (fun _ _ _ h => h) (Or.inl ⟨by rfl, ?hyt1315⟩) A ?restt1315
                case hyt1315 => (intro w hSw; have c2 := hSw.mem.b2.cell; have c3 := hSw.mem.b3.cell;go_simp <;> with_reducible rfl)
                try simp only [Act.put, List.setIfInBounds_toArray, List.set_cons_zero, List.set_cons_succ]
                try simp only [HL1.out]
                try simp only [HL2.out]
                refine wpAnyH_take (i := 15) (oi := { dst := some 163, op := Op.fieldAddr 34 (Operand.tmp 6) 2, type := 0, pos := "laws.go:519", after := #[{ on := 8, ground := Ground.guard }], guard := some (8, false) }) (v := ?vvt1316) rfl (by kernel_rfl) (by kernel_rfl) (by kernel_rfl) (fun _ _ _ h => h) (Or.inl ⟨by rfl, ?hyt1316⟩) A ?restt1316
                case hyt1316 => (intro w hSw; have c2 := hSw.mem.b2.cell; have c3 := hSw.mem.b3.cell;go_simp <;> with_reducible rfl)
                try simp only [Act.put, List.setIfInBounds_toArray, List.set_cons_zero, List.set_cons_succ]
                try simp only [HL1.out]
                try simp only [HL2.out]
                refine wpAnyH_take (i := 16) (oi := { dst := some 164, op := Op.load 2 (Operand.tmp 163), type := 2, pos := "laws.go:519", after := #[{ on := 15, ground := Ground.data }, { on := 8, ground := Ground.guard }], guard := some (8, false) }) (v := ?vvt1317) rfl (by kernel_rfl) (by kernel_rfl) (by kernel_rfl) (fun _ _ _ h => h) (Or.inl ⟨by rfl, ?hyt1317⟩) A ?restt1317
                case hyt1317 => (intro w hSw; have c2 := hSw.mem.b2.cell; have c3 := hSw.mem.b3.cell;go_simp <;> with_reducible rfl)
                try simp only [Act.put, List.setIfInBounds_toArray, List.set_cons_zero, List.set_cons_succ]
                try simp only [HL1.out]
                try simp only [HL2.out]
                refine wpAnyH_take (i := 18) (oi := { dst := some 166, op := Op.move (Operand.tmp 5), type := 25, pos := "laws.go:519", after := #[{ on := 8, ground := Ground.guard }], guard := some (8, false) }) (v := ?vvt1318) rfl (by kernel_rfl) (by kernel_rfl) (by kernel_rfl) (fun _ _ _ h => h) (Or.inl ⟨by rfl, ?hyt1318⟩) A ?restt1318
                case hyt1318 => (intro w hSw; have c2 := hSw.mem.b2.cell; have c3 := hSw.mem.b3.cell;go_simp <;> with_reducible rfl)
                try simp only [Act.put, List.setIfInBounds_toArray, List.set_cons_zero, List.set_cons_succ]
                try simp only [HL1.out]
                try simp only [HL2.out]
                refine wpAnyH_take (i := 19) (oi := { dst := some 167, op := Op.fieldAddr 34 (Operand.tmp 6) 0, type := 0, pos := "laws.go:519", after := #[{ on := 8, ground := Ground.guard }], guard := some (8, false) }) (v := ?vvt1319) rfl (by kernel_rfl) (by kernel_rfl) (by kernel_rfl) (fun _ _ _ h => h) (Or.inl ⟨by rfl, ?hyt1319⟩) A ?restt1319
                case hyt1319 => (intro w hSw; have c2 := hSw.mem.b2.cell; have c3 := hSw.mem.b3.cell;go_simp <;> with_reducible rfl)
                try simp only [Act.put, List.setIfInBounds_toArray, List.set_cons_zero, List.set_cons_succ]
                try simp only [HL1.out]
                try simp only [HL2.out]
                refine wpAnyH_take (i := 20) (oi := { dst := some 168, op := Op.load 2 (Operand.tmp 167), type := 2, pos := "laws.go:519", after := #[{ on := 19, ground := Ground.data }, { on := 8, ground := Ground.guard }], guard := some (8, false) }) (v := ?vvt1320) rfl (by kernel_rfl) (by kernel_rfl) (by kernel_rfl) (fun _ _ _ h => h) (Or.inl ⟨by rfl, ?hyt1320⟩) A ?restt1320
                case hyt1320 => (intro w hSw; have c2 := hSw.mem.b2.cell; have c3 := hSw.mem.b3.cell;go_simp <;> with_reducible rfl)
                try simp only [Act.put, List.setIfInBounds_toArray, List.set_cons_zero, List.set_cons_succ]
                try simp only [HL1.out]
                try simp only [HL2.out]
                refine wpAnyH_take (i := 21) (oi := { dst := some 169, op := Op.fieldAddr 34 (Operand.tmp 6) 1, type := 0, pos := "laws.go:519", after := #[{ on := 8, ground := Ground.guard }], guard := some (8, false) }) (v := ?vvt1321) rfl (by kernel_rfl) (by kernel_rfl) (by kernel_rfl) (fun _ _ _ h => h) (Or.inl ⟨by rfl, ?hyt1321⟩) A ?restt1321
                case hyt1321 => (intro w hSw; have c2 := hSw.mem.b2.cell; have c3 := hSw.mem.b3.cell;go_simp <;> with_reducible rfl)
                try simp only [Act.put, List.setIfInBounds_toArray, List.set_cons_zero, List.set_cons_succ]
                try simp only [HL1.out]
                try simp only [HL2.out]
                refine wpAnyH_take (i := 22) (oi := { dst := some 170, op := Op.load 2 (Operand.tmp 169), type := 2, pos := "laws.go:519", after := #[{ on := 21, ground := Ground.data }, { on := 8, ground := Ground.guard }], guard := some (8, false) }) (v := ?vvt1322) rfl (by kernel_rfl) (by kernel_rfl) (by kernel_rfl) (fun _ _ _ h => h) (Or.inl ⟨by rfl, ?hyt1322⟩) A ?restt1322
                case hyt1322 => (intro w hSw; have c2 := hSw.mem.b2.cell; have c3 := hSw.mem.b3.cell;go_simp <;> with_reducible rfl)
                try simp only [Act.put, List.setIfInBounds_toArray, List.set_cons_zero, List.set_cons_succ]
                try simp only [HL1.out]
                try simp only [HL2.out]
                refine wpAnyH_take (i := 23) (oi := { dst := some 171, op := Op.fieldAddr 34 (Operand.tmp 6) 2, type := 0, pos := "laws.go:519", after := #[{ on := 8, ground := Ground.guard }], guard := some (8, false) }) (v := ?vvt1323) rfl (by kernel_rfl) (by kernel_rfl) (by kernel_rfl) (fun _ _ _ h => h) (Or.inl ⟨by rfl, ?hyt1323⟩) A ?restt1323
                case hyt1323 => (intro w hSw; have c2 := hSw.mem.b2.cell; have c3 := hSw.mem.b3.cell;go_simp <;> with_reducible rfl)
                try simp only [Act.put, List.setIfInBounds_toArray, List.set_cons_zero, List.set_cons_succ]
                try simp only [HL1.out]
                try simp only [HL2.out]
                refine wpAnyH_take (i := 24) (oi := { dst := some 172, op := Op.load 2 (Operand.tmp 171), type := 2, pos := "laws.go:519", after := #[{ on := 23, ground := Ground.data }, { on := 8, ground := Ground.guard }], guard := some (8, false) }) (v := ?vvt1324) rfl (by kernel_rfl) (by kernel_rfl) (by kernel_rfl) (fun _ _ _ h => h) (Or.inl ⟨by rfl, ?hyt1324⟩) A ?restt1324
                case hyt1324 => (intro w hSw; have c2 := hSw.mem.b2.cell; have c3 := hSw.mem.b3.cell;go_simp <;> with_reducible rfl)
                try simp only [Act.put, List.setIfInBounds_toArray, List.set_cons_zero, List.set_cons_succ]
                try simp only [HL1.out]
                try simp only [HL2.out]
                refine wpAnyH_ready (rs := [17]) (by kernel_rfl) (by simp) ?_
                refine AllReadyH.cons (o := { dst := some 165, op := Op.call { callee := Callee.value (Operand.func 28), args := #[Operand.tmp 158, Operand.tmp 160, Operand.tmp 162, Operand.tmp 164], argTypes := #[25, 2, 2, 2] }, type := 2, pos := "laws.go:519", after := #[{ on := 10, ground := Ground.data }, { on := 12, ground := Ground.data }, { on := 14, ground := Ground.data }, { on := 16, ground := Ground.data }, { on := 8, ground := Ground.chain }, { on := 8, ground := Ground.guard }], guard := some (8, false) }) rfl (fun K hK => ?_) AllReadyH.nil
                go_simp
                refine (HIc.out XM _ r.vni r.mac r.tm _ (A.sls _ mem5) (by omega)).mono ?_
                rintro e u1 ⟨rfl, hb⟩
                rw [HPx.out]
                replace A := A.kept hb
                clear hb
                refine hK.out _ _ A (fun hHeld => ?_)
                clear hK K hHeld
                try simp only [Act.put, List.setIfInBounds_toArray, List.set_cons_zero, List.set_cons_succ]
                try simp only [HL1.out]
                try simp only [HL2.out]
                refine wpAnyH_ready (rs := [25]) (by kernel_rfl) (by simp) ?_
                refine AllReadyH.cons (o := { dst := some 173, op := Op.call { callee := Callee.value (Operand.func 27), args := #[Operand.tmp 166, Operand.tmp 168, Operand.tmp 170, Operand.tmp 172], argTypes := #[25, 2, 2, 2] }, type := 2, pos := "laws.go:519", after := #[{ on := 18, ground := Ground.data }, { on := 20, ground := Ground.data }, { on := 22, ground := Ground.data }, { on := 24, ground := Ground.data }, { on := 17, ground := Ground.chain }, { on := 8, ground := Ground.guard }], guard := some (8, false) }) rfl (fun K hK => ?_) AllReadyH.nil
                go_simp
                refine (HSc.out l _ r.vni r.mac r.tm _ (A.sls _ mem6) (by omega)).mono ?_
                rintro e u2 ⟨rfl, hb⟩
                replace A := A.kept hb
                clear hb
                refine hK.out _ _ A (fun hHeld => ?_)
                clear hK K hHeld
                try simp only [Act.put, List.setIfInBounds_toArray, List.set_cons_zero, List.set_cons_succ]
                try simp only [HL1.out]
                try simp only [HL2.out]
                refine wpAnyH_take (i := 26) (oi := { dst := some 174, op := Op.binOp BinOp.add 2 (Operand.tmp 173) (Operand.const (Value.int IntKind.i64 1)) 2, type := 2, pos := "laws.go:519", after := #[{ on := 25, ground := Ground.data }, { on := 8, ground := Ground.guard }], guard := some (8, false) }) (v := ?vvt1325) rfl (by kernel_rfl) (by kernel_rfl) (by kernel_rfl) (fun _ _ _ h => h) (Or.inl ⟨by rfl, ?hyt1325⟩) A ?restt1325
                case hyt1325 => (intro w hSw; have c2 := hSw.mem.b2.cell; have c3 := hSw.mem.b3.cell;go_simp <;> with_reducible rfl)
                try simp only [Act.put, List.setIfInBounds_toArray, List.set_cons_zero, List.set_cons_succ]
                try simp only [HL1.out]
                try simp only [HL2.out]
                refine wpAnyH_take (i := 27) (oi := { dst := some 175, op := Op.binOp BinOp.eql 2 (Operand.tmp 165) (Operand.tmp 174) 2, type := 4, pos := "laws.go:519", after := #[{ on := 17, ground := Ground.data }, { on := 26, ground := Ground.data }, { on := 8, ground := Ground.guard }], guard := some (8, false) }) (v := ?vvt1326) rfl (by kernel_rfl) (by kernel_rfl) (by kernel_rfl) (fun _ _ _ h => h) (Or.inl ⟨by rfl, ?hyt1326⟩) A ?restt1326
                case hyt1326 => (intro w hSw; have c2 := hSw.mem.b2.cell; have c3 := hSw.mem.b3.cell;go_simp <;> with_reducible rfl)
                try simp only [Act.put, List.setIfInBounds_toArray, List.set_cons_zero, List.set_cons_succ]
                try simp only [HL1.out]
                try simp only [HL2.out]
                refine wpAnyH_take (i := 28) (oi := { dst := some 176, op := Op.pick (Operand.tmp 156) (Operand.const (Value.bool true)) (Operand.tmp 175), type := 4, pos := "laws.go:519", after := #[{ on := 8, ground := Ground.data }, { on := 27, ground := Ground.data }], guard := none }) (v := ?vvt1327) rfl (by kernel_rfl) (by kernel_rfl) (by kernel_rfl) (fun _ _ _ h => h) (Or.inl ⟨by rfl, ?hyt1327⟩) A ?restt1327
                case hyt1327 => (intro w hSw; have c2 := hSw.mem.b2.cell; have c3 := hSw.mem.b3.cell;go_simp <;> with_reducible rfl)
                try simp only [Act.put, List.setIfInBounds_toArray, List.set_cons_zero, List.set_cons_succ]
                try simp only [HL1.out]
                try simp only [HL2.out]
                refine wpAnyH_take (i := 29) (oi := { dst := some 4, op := Op.assign (Operand.tmp 176), type := 4, pos := "laws.go:519", after := #[{ on := 28, ground := Ground.data }, { on := 25, ground := Ground.chain }, { on := 0, ground := Ground.phase }, { on := 1, ground := Ground.phase }, { on := 2, ground := Ground.phase }, { on := 3, ground := Ground.phase }, { on := 4, ground := Ground.phase }, { on := 5, ground := Ground.phase }, { on := 6, ground := Ground.phase }, { on := 7, ground := Ground.phase }, { on := 8, ground := Ground.phase }, { on := 9, ground := Ground.phase }, { on := 10, ground := Ground.phase }, { on := 11, ground := Ground.phase }, { on := 12, ground := Ground.phase }, { on := 13, ground := Ground.phase }, { on := 14, ground := Ground.phase }, { on := 15, ground := Ground.phase }, { on := 16, ground := Ground.phase }, { on := 17, ground := Ground.phase }, { on := 18, ground := Ground.phase }, { on := 19, ground := Ground.phase }, { on := 20, ground := Ground.phase }, { on := 21, ground := Ground.phase }, { on := 22, ground := Ground.phase }, { on := 23, ground := Ground.phase }, { on := 24, ground := Ground.phase }, { on := 25, ground := Ground.phase }, { on := 26, ground := Ground.phase }, { on := 27, ground := Ground.phase }, { on := 28, ground := Ground.phase }], guard := none }) (v := ?vvt1328) rfl (by kernel_rfl) (by kernel_rfl) (by kernel_rfl) (fun _ _ _ h => h) (Or.inl ⟨by rfl, ?hyt1328⟩) A ?restt1328
                case hyt1328 => (intro w hSw; have c2 := hSw.mem.b2.cell; have c3 := hSw.mem.b3.cell;go_simp <;> with_reducible rfl)
                try simp only [Act.put, List.setIfInBounds_toArray, List.set_cons_zero, List.set_cons_succ]
                try simp only [HL1.out]
                try simp only [HL2.out]
                refine wpAnyH_done (by kernel_rfl) ?_ _
                all_goals
                  have HB := Lib.hid A.bel
                  go_wp2_with fail
                  go_ret
                  exact ⟨rfl, HB.out⟩
            · clear HPn
              have HX1 : Hid (decide (xk = 0) = false) := Lib.hid (decide_eq_false hx0)
              have HX2 : Hid ((xk == 0) = false) := Lib.hid (by simpa using hx0)
              have HX3 : Hid ((xk != 0) = true) := Lib.hid (by simpa using hx0)
              have HX4 : Hid (Bool.not false = true) := Lib.hid rfl
              go_upto_region 21 with fail
              replace A := A.drew
              refine wp_region_held_drew (S := fun W' => FwM w W' _ _) (by kernel_rfl) A (fun hHeld => ?_)
              clear hHeld
              refine wpAnyH_take (i := 0) (oi := { dst := some 148, op := Op.fieldAddr 32 (Operand.tmp 7) 1, type := 0, pos := "laws.go:519", after := #[], guard := none }) (v := ?vvt111) rfl (by kernel_rfl) (by kernel_rfl) (by kernel_rfl) (fun _ _ _ h => h) (Or.inl ⟨by rfl, ?hyt111⟩) A ?restt111
              case hyt111 => (intro w hSw; have c2 := hSw.mem.b2.cell; have c3 := hSw.mem.b3.cell;go_simp <;> with_reducible rfl)
              try simp only [Act.put, List.setIfInBounds_toArray, List.set_cons_zero, List.set_cons_succ]
              try simp only [HX1.out]
              try simp only [HX2.out]
              try simp only [HX3.out]
              try simp only [HX4.out]
              refine wpAnyH_take (i := 1) (oi := { dst := some 149, op := Op.load 2 (Operand.tmp 148), type := 2, pos := "laws.go:519", after := #[{ on := 0, ground := Ground.data }], guard := none }) (v := ?vvt112) rfl (by kernel_rfl) (by kernel_rfl) (by kernel_rfl) (fun _ _ _ h => h) (Or.inl ⟨by rfl, ?hyt112⟩) A ?restt112
              case hyt112 => (intro w hSw; have c2 := hSw.mem.b2.cell; have c3 := hSw.mem.b3.cell;go_simp <;> with_reducible rfl)
              try simp only [Act.put, List.setIfInBounds_toArray, List.set_cons_zero, List.set_cons_succ]
              try simp only [HX1.out]
              try simp only [HX2.out]
              try simp only [HX3.out]
              try simp only [HX4.out]
              refine wpAnyH_take (i := 2) (oi := { dst := some 150, op := Op.binOp BinOp.neq 2 (Operand.tmp 149) (Operand.const (Value.int IntKind.i64 0)) 2, type := 4, pos := "laws.go:519", after := #[{ on := 1, ground := Ground.data }], guard := none }) (v := ?vvt113) rfl (by kernel_rfl) (by kernel_rfl) (by kernel_rfl) (fun _ _ _ h => h) (Or.inl ⟨by rfl, ?hyt113⟩) A ?restt113
              case hyt113 => (intro w hSw; have c2 := hSw.mem.b2.cell; have c3 := hSw.mem.b3.cell;go_simp <;> with_reducible rfl)
              try simp only [Act.put, List.setIfInBounds_toArray, List.set_cons_zero, List.set_cons_succ]
              try simp only [HX1.out]
              try simp only [HX2.out]
              try simp only [HX3.out]
              try simp only [HX4.out]
              refine wpAnyH_take (i := 3) (oi := { dst := some 151, op := Op.move (Operand.tmp 150), type := 4, pos := "laws.go:519", after := #[{ on := 2, ground := Ground.data }], guard := none }) (v := ?vvt114) rfl (by kernel_rfl) (by kernel_rfl) (by kernel_rfl) (fun _ _ _ h => h) (Or.inl ⟨by rfl, ?hyt114⟩) A ?restt114
              case hyt114 => (intro w hSw; have c2 := hSw.mem.b2.cell; have c3 := hSw.mem.b3.cell;go_simp <;> with_reducible rfl)
              try simp only [Act.put, List.setIfInBounds_toArray, List.set_cons_zero, List.set_cons_succ]
              try simp only [HX1.out]
              try simp only [HX2.out]
              try simp only [HX3.out]
              try simp only [HX4.out]
              refine wpAnyH_take (i := 4) (oi := { dst := some 152, op := Op.move (Operand.tmp 5), type := 25, pos := "laws.go:519", after := #[{ on := 3, ground := Ground.guard }], guard := some (3, false) }) (v := undef) rfl (by kernel_rfl) (by kernel_rfl) (by kernel_rfl) (fun _ _ _ h => h) (Or.inr ⟨by rfl, rfl⟩) A ?_
              try simp only [Act.put, List.setIfInBounds_toArray, List.set_cons_zero, List.set_cons_succ]
              try simp only [HX1.out]
              try simp only [HX2.out]
              try simp only [HX3.out]
              try simp only [HX4.out]
              refine wpAnyH_take (i := 5) (oi := { dst := some 153, op := Op.call { callee := Callee.builtin Builtin.len, args := #[Operand.tmp 152], argTypes := #[25] }, type := 3, pos := "laws.go:519", after := #[{ on := 4, ground := Ground.data }, { on := 3, ground := Ground.guard }], guard := some (3, false) }) (v := undef) rfl (by kernel_rfl) (by kernel_rfl) (by kernel_rfl) (fun _ _ _ h => h) (Or.inr ⟨by rfl, rfl⟩) A ?_
              try simp only [Act.put, List.setIfInBounds_toArray, List.set_cons_zero, List.set_cons_succ]
              try simp only [HX1.out]
              try simp only [HX2.out]
              try simp only [HX3.out]
              try simp only [HX4.out]
              refine wpAnyH_take (i := 6) (oi := { dst := some 154, op := Op.binOp BinOp.geq 3 (Operand.tmp 153) (Operand.const (Value.int IntKind.i64 30)) 3, type := 4, pos := "laws.go:519", after := #[{ on := 5, ground := Ground.data }, { on := 3, ground := Ground.guard }], guard := some (3, false) }) (v := undef) rfl (by kernel_rfl) (by kernel_rfl) (by kernel_rfl) (fun _ _ _ h => h) (Or.inr ⟨by rfl, rfl⟩) A ?_
              try simp only [Act.put, List.setIfInBounds_toArray, List.set_cons_zero, List.set_cons_succ]
              try simp only [HX1.out]
              try simp only [HX2.out]
              try simp only [HX3.out]
              try simp only [HX4.out]
              refine wpAnyH_take (i := 7) (oi := { dst := some 155, op := Op.pick (Operand.tmp 151) (Operand.const (Value.bool true)) (Operand.tmp 154), type := 4, pos := "laws.go:519", after := #[{ on := 3, ground := Ground.data }, { on := 6, ground := Ground.data }], guard := none }) (v := ?vvt118) rfl (by kernel_rfl) (by kernel_rfl) (by kernel_rfl) (fun _ _ _ h => h) (Or.inl ⟨by rfl, ?hyt118⟩) A ?restt118
              case hyt118 => (intro w hSw; have c2 := hSw.mem.b2.cell; have c3 := hSw.mem.b3.cell;go_simp <;> with_reducible rfl)
              try simp only [Act.put, List.setIfInBounds_toArray, List.set_cons_zero, List.set_cons_succ]
              try simp only [HX1.out]
              try simp only [HX2.out]
              try simp only [HX3.out]
              try simp only [HX4.out]
              refine wpAnyH_take (i := 8) (oi := { dst := some 156, op := Op.move (Operand.tmp 155), type := 4, pos := "laws.go:519", after := #[{ on := 7, ground := Ground.data }, { on := 3, ground := Ground.chain }], guard := none }) (v := ?vvt119) rfl (by kernel_rfl) (by kernel_rfl) (by kernel_rfl) (fun _ _ _ h => h) (Or.inl ⟨by rfl, ?hyt119⟩) A ?restt119
              case hyt119 => (intro w hSw; have c2 := hSw.mem.b2.cell; have c3 := hSw.mem.b3.cell;go_simp <;> with_reducible rfl)
              try simp only [Act.put, List.setIfInBounds_toArray, List.set_cons_zero, List.set_cons_succ]
              try simp only [HX1.out]
              try simp only [HX2.out]
              try simp only [HX3.out]
              try simp only [HX4.out]
              refine wpAnyH_take (i := 9) (oi := { dst := some 157, op := Op.fieldAddr 32 (Operand.tmp 7) 0, type := 0, pos := "laws.go:519", after := #[{ on := 8, ground := Ground.guard }], guard := some (8, false) }) (v := undef) rfl (by kernel_rfl) (by kernel_rfl) (by kernel_rfl) (fun _ _ _ h => h) (Or.inr ⟨by rfl, rfl⟩) A ?_
              try simp only [Act.put, List.setIfInBounds_toArray, List.set_cons_zero, List.set_cons_succ]
              try simp only [HX1.out]
              try simp only [HX2.out]
              try simp only [HX3.out]
              try simp only [HX4.out]
              refine wpAnyH_take (i := 10) (oi := { dst := some 158, op := Op.load 25 (Operand.tmp 157), type := 25, pos := "laws.go:519", after := #[{ on := 9, ground := Ground.data }, { on := 8, ground := Ground.guard }], guard := some (8, false) }) (v := undef) rfl (by kernel_rfl) (by kernel_rfl) (by kernel_rfl) (fun _ _ _ h => h) (Or.inr ⟨by rfl, rfl⟩) A ?_
              try simp only [Act.put, List.setIfInBounds_toArray, List.set_cons_zero, List.set_cons_succ]
              try simp only [HX1.out]
              try simp only [HX2.out]
              try simp only [HX3.out]
              try simp only [HX4.out]
              refine wpAnyH_take (i := 11) (oi := { dst := some 159, op := Op.fieldAddr 34 (Operand.tmp 6) 0, type := 0, pos := "laws.go:519", after := #[{ on := 8, ground := Ground.guard }], guard := some (8, false) }) (v := undef) rfl (by kernel_rfl) (by kernel_rfl) (by kernel_rfl) (fun _ _ _ h => h) (Or.inr ⟨by rfl, rfl⟩) A ?_
              try simp only [Act.put, List.setIfInBounds_toArray, List.set_cons_zero, List.set_cons_succ]
              try simp only [HX1.out]
              try simp only [HX2.out]
              try simp only [HX3.out]
              try simp only [HX4.out]
              refine wpAnyH_take (i := 12) (oi := { dst := some 160, op := Op.load 2 (Operand.tmp 159), type := 2, pos := "laws.go:519", after := #[{ on := 11, ground := Ground.data }, { on := 8, ground := Ground.guard }], guard := some (8, false) }) (v := undef) rfl (by kernel_rfl) (by kernel_rfl) (by kernel_rfl) (fun _ _ _ h => h) (Or.inr ⟨by rfl, rfl⟩) A ?_
              try simp only [Act.put, List.setIfInBounds_toArray, List.set_cons_zero, List.set_cons_succ]
              try simp only [HX1.out]
              try simp only [HX2.out]
              try simp only [HX3.out]
              try simp only [HX4.out]
              refine wpAnyH_take (i := 13) (oi := { dst := some 161, op := Op.fieldAddr 34 (Operand.tmp 6) 1, type := 0, pos := "laws.go:519", after := #[{ on := 8, ground := Ground.guard }], guard := some (8, false) }) (v := undef) rfl (by kernel_rfl) (by kernel_rfl) (by kernel_rfl) (fun _ _ _ h => h) (Or.inr ⟨by rfl, rfl⟩) A ?_
              try simp only [Act.put, List.setIfInBounds_toArray, List.set_cons_zero, List.set_cons_succ]
              try simp only [HX1.out]
              try simp only [HX2.out]
              try simp only [HX3.out]
              try simp only [HX4.out]
              refine wpAnyH_take (i := 14) (oi := { dst := some 162, op := Op.load 2 (Operand.tmp 161), type := 2, pos := "laws.go:519", after := #[{ on := 13, ground := Ground.data }, { on := 8, ground := Ground.guard }], guard := some (8, false) }) (v := undef) rfl (by kernel_rfl) (by kernel_rfl) (by kernel_rfl) (fun _ _ _ h => h) (Or.inr ⟨by rfl, rfl⟩) A ?_
              try simp only [Act.put, List.setIfInBounds_toArray, List.set_cons_zero, List.set_cons_succ]
              try simp only [HX1.out]
              try simp only [HX2.out]
              try simp only [HX3.out]
              try simp only [HX4.out]
              refine wpAnyH_take (i := 15) (oi := { dst := some 163, op := Op.fieldAddr 34 (Operand.tmp 6) 2, type := 0, pos := "laws.go:519", after := #[{ on := 8, ground := Ground.guard }], guard := some (8, false) }) (v := undef) rfl (by kernel_rfl) (by kernel_rfl) (by kernel_rfl) (fun _ _ _ h => h) (Or.inr ⟨by rfl, rfl⟩) A ?_
              try simp only [Act.put, List.setIfInBounds_toArray, List.set_cons_zero, List.set_cons_succ]
              try simp only [HX1.out]
              try simp only [HX2.out]
              try simp only [HX3.out]
              try simp only [HX4.out]
              refine wpAnyH_take (i := 16) (oi := { dst := some 164, op := Op.load 2 (Operand.tmp 163), type := 2, pos := "laws.go:519", after := #[{ on := 15, ground := Ground.data }, { on := 8, ground := Ground.guard }], guard := some (8, false) }) (v := undef) rfl (by kernel_rfl) (by kernel_rfl) (by kernel_rfl) (fun _ _ _ h => h) (Or.inr ⟨by rfl, rfl⟩) A ?_
              try simp only [Act.put, List.setIfInBounds_toArray, List.set_cons_zero, List.set_cons_succ]
              try simp only [HX1.out]
              try simp only [HX2.out]
              try simp only [HX3.out]
              try simp only [HX4.out]
              refine wpAnyH_take (i := 17) (oi := { dst := some 165, op := Op.call { callee := Callee.value (Operand.func 28), args := #[Operand.tmp 158, Operand.tmp 160, Operand.tmp 162, Operand.tmp 164], argTypes := #[25, 2, 2, 2] }, type := 2, pos := "laws.go:519", after := #[{ on := 10, ground := Ground.data }, { on := 12, ground := Ground.data }, { on := 14, ground := Ground.data }, { on := 16, ground := Ground.data }, { on := 8, ground := Ground.chain }, { on := 8, ground := Ground.guard }], guard := some (8, false) }) (v := undef) rfl (by kernel_rfl) (by kernel_rfl) (by kernel_rfl) (fun _ _ _ h => h) (Or.inr ⟨by rfl, rfl⟩) A ?_
              try simp only [Act.put, List.setIfInBounds_toArray, List.set_cons_zero, List.set_cons_succ]
              try simp only [HX1.out]
              try simp only [HX2.out]
              try simp only [HX3.out]
              try simp only [HX4.out]
              refine wpAnyH_take (i := 18) (oi := { dst := some 166, op := Op.move (Operand.tmp 5), type := 25, pos := "laws.go:519", after := #[{ on := 8, ground := Ground.guard }], guard := some (8, false) }) (v := undef) rfl (by kernel_rfl) (by kernel_rfl) (by kernel_rfl) (fun _ _ _ h => h) (Or.inr ⟨by rfl, rfl⟩) A ?_
              try simp only [Act.put, List.setIfInBounds_toArray, List.set_cons_zero, List.set_cons_succ]
              try simp only [HX1.out]
              try simp only [HX2.out]
              try simp only [HX3.out]
              try simp only [HX4.out]
              refine wpAnyH_take (i := 19) (oi := { dst := some 167, op := Op.fieldAddr 34 (Operand.tmp 6) 0, type := 0, pos := "laws.go:519", after := #[{ on := 8, ground := Ground.guard }], guard := some (8, false) }) (v := undef) rfl (by kernel_rfl) (by kernel_rfl) (by kernel_rfl) (fun _ _ _ h => h) (Or.inr ⟨by rfl, rfl⟩) A ?_
              try simp only [Act.put, List.setIfInBounds_toArray, List.set_cons_zero, List.set_cons_succ]
              try simp only [HX1.out]
              try simp only [HX2.out]
              try simp only [HX3.out]
              try simp only [HX4.out]
              refine wpAnyH_take (i := 20) (oi := { dst := some 168, op := Op.load 2 (Operand.tmp 167), type := 2, pos := "laws.go:519", after := #[{ on := 19, ground := Ground.data }, { on := 8, ground := Ground.guard }], guard := some (8, false) }) (v := undef) rfl (by kernel_rfl) (by kernel_rfl) (by kernel_rfl) (fun _ _ _ h => h) (Or.inr ⟨by rfl, rfl⟩) A ?_
              try simp only [Act.put, List.setIfInBounds_toArray, List.set_cons_zero, List.set_cons_succ]
              try simp only [HX1.out]
              try simp only [HX2.out]
              try simp only [HX3.out]
              try simp only [HX4.out]
              refine wpAnyH_take (i := 21) (oi := { dst := some 169, op := Op.fieldAddr 34 (Operand.tmp 6) 1, type := 0, pos := "laws.go:519", after := #[{ on := 8, ground := Ground.guard }], guard := some (8, false) }) (v := undef) rfl (by kernel_rfl) (by kernel_rfl) (by kernel_rfl) (fun _ _ _ h => h) (Or.inr ⟨by rfl, rfl⟩) A ?_
              try simp only [Act.put, List.setIfInBounds_toArray, List.set_cons_zero, List.set_cons_succ]
              try simp only [HX1.out]
              try simp only [HX2.out]
              try simp only [HX3.out]
              try simp only [HX4.out]
              refine wpAnyH_take (i := 22) (oi := { dst := some 170, op := Op.load 2 (Operand.tmp 169), type := 2, pos := "laws.go:519", after := #[{ on := 21, ground := Ground.data }, { on := 8, ground := Ground.guard }], guard := some (8, false) }) (v := undef) rfl (by kernel_rfl) (by kernel_rfl) (by kernel_rfl) (fun _ _ _ h => h) (Or.inr ⟨by rfl, rfl⟩) A ?_
              try simp only [Act.put, List.setIfInBounds_toArray, List.set_cons_zero, List.set_cons_succ]
              try simp only [HX1.out]
              try simp only [HX2.out]
              try simp only [HX3.out]
              try simp only [HX4.out]
              refine wpAnyH_take (i := 23) (oi := { dst := some 171, op := Op.fieldAddr 34 (Operand.tmp 6) 2, type := 0, pos := "laws.go:519", after := #[{ on := 8, ground := Ground.guard }], guard := some (8, false) }) (v := undef) rfl (by kernel_rfl) (by kernel_rfl) (by kernel_rfl) (fun _ _ _ h => h) (Or.inr ⟨by rfl, rfl⟩) A ?_
              try simp only [Act.put, List.setIfInBounds_toArray, List.set_cons_zero, List.set_cons_succ]
              try simp only [HX1.out]
              try simp only [HX2.out]
              try simp only [HX3.out]
              try simp only [HX4.out]
              refine wpAnyH_take (i := 24) (oi := { dst := some 172, op := Op.load 2 (Operand.tmp 171), type := 2, pos := "laws.go:519", after := #[{ on := 23, ground := Ground.data }, { on := 8, ground := Ground.guard }], guard := some (8, false) }) (v := undef) rfl (by kernel_rfl) (by kernel_rfl) (by kernel_rfl) (fun _ _ _ h => h) (Or.inr ⟨by rfl, rfl⟩) A ?_
              try simp only [Act.put, List.setIfInBounds_toArray, List.set_cons_zero, List.set_cons_succ]
              try simp only [HX1.out]
              try simp only [HX2.out]
              try simp only [HX3.out]
              try simp only [HX4.out]
              refine wpAnyH_take (i := 25) (oi := { dst := some 173, op := Op.call { callee := Callee.value (Operand.func 27), args := #[Operand.tmp 166, Operand.tmp 168, Operand.tmp 170, Operand.tmp 172], argTypes := #[25, 2, 2, 2] }, type := 2, pos := "laws.go:519", after := #[{ on := 18, ground := Ground.data }, { on := 20, ground := Ground.data }, { on := 22, ground := Ground.data }, { on := 24, ground := Ground.data }, { on := 17, ground := Ground.chain }, { on := 8, ground := Ground.guard }], guard := some (8, false) }) (v := undef) rfl (by kernel_rfl) (by kernel_rfl) (by kernel_rfl) (fun _ _ _ h => h) (Or.inr ⟨by rfl, rfl⟩) A ?_
              try simp only [Act.put, List.setIfInBounds_toArray, List.set_cons_zero, List.set_cons_succ]
              try simp only [HX1.out]
              try simp only [HX2.out]
              try simp only [HX3.out]
              try simp only [HX4.out]
              refine wpAnyH_take (i := 26) (oi := { dst := some 174, op := Op.binOp BinOp.add 2 (Operand.tmp 173) (Operand.const (Value.int IntKind.i64 1)) 2, type := 2, pos := "laws.go:519", after := #[{ on := 25, ground := Ground.data }, { on := 8, ground := Ground.guard }], guard := some (8, false) }) (v := undef) rfl (by kernel_rfl) (by kernel_rfl) (by kernel_rfl) (fun _ _ _ h => h) (Or.inr ⟨by rfl, rfl⟩) A ?_
              try simp only [Act.put, List.setIfInBounds_toArray, List.set_cons_zero, List.set_cons_succ]
              try simp only [HX1.out]
              try simp only [HX2.out]
              try simp only [HX3.out]
              try simp only [HX4.out]
              refine wpAnyH_take (i := 27) (oi := { dst := some 175, op := Op.binOp BinOp.eql 2 (Operand.tmp 165) (Operand.tmp 174) 2, type := 4, pos := "laws.go:519", after := #[{ on := 17, ground := Ground.data }, { on := 26, ground := Ground.data }, { on := 8, ground := Ground.guard }], guard := some (8, false) }) (v := undef) rfl (by kernel_rfl) (by kernel_rfl) (by kernel_rfl) (fun _ _ _ h => h) (Or.inr ⟨by rfl, rfl⟩) A ?_
              try simp only [Act.put, List.setIfInBounds_toArray, List.set_cons_zero, List.set_cons_succ]
              try simp only [HX1.out]
              try simp only [HX2.out]
              try simp only [HX3.out]
              try simp only [HX4.out]
              refine wpAnyH_take (i := 28) (oi := { dst := some 176, op := Op.pick (Operand.tmp 156) (Operand.const (Value.bool true)) (Operand.tmp 175), type := 4, pos := "laws.go:519", after := #[{ on := 8, ground := Ground.data }, { on := 27, ground := Ground.data }], guard := none }) (v := ?vvt1129) rfl (by kernel_rfl) (by kernel_rfl) (by kernel_rfl) (fun _ _ _ h => h) (Or.inl ⟨by rfl, ?hyt1129⟩) A ?restt1129
              case hyt1129 => (intro w hSw; have c2 := hSw.mem.b2.cell; have c3 := hSw.mem.b3.cell;go_simp <;> with_reducible rfl)
              try simp only [Act.put, List.setIfInBounds_toArray, List.set_cons_zero, List.set_cons_succ]
              try simp only [HX1.out]
              try simp only [HX2.out]
              try simp only [HX3.out]
              try simp only [HX4.out]
              refine wpAnyH_take (i := 29) (oi := { dst := some 4, op := Op.assign (Operand.tmp 176), type := 4, pos := "laws.go:519", after := #[{ on := 28, ground := Ground.data }, { on := 25, ground := Ground.chain }, { on := 0, ground := Ground.phase }, { on := 1, ground := Ground.phase }, { on := 2, ground := Ground.phase }, { on := 3, ground := Ground.phase }, { on := 4, ground := Ground.phase }, { on := 5, ground := Ground.phase }, { on := 6, ground := Ground.phase }, { on := 7, ground := Ground.phase }, { on := 8, ground := Ground.phase }, { on := 9, ground := Ground.phase }, { on := 10, ground := Ground.phase }, { on := 11, ground := Ground.phase }, { on := 12, ground := Ground.phase }, { on := 13, ground := Ground.phase }, { on := 14, ground := Ground.phase }, { on := 15, ground := Ground.phase }, { on := 16, ground := Ground.phase }, { on := 17, ground := Ground.phase }, { on := 18, ground := Ground.phase }, { on := 19, ground := Ground.phase }, { on := 20, ground := Ground.phase }, { on := 21, ground := Ground.phase }, { on := 22, ground := Ground.phase }, { on := 23, ground := Ground.phase }, { on := 24, ground := Ground.phase }, { on := 25, ground := Ground.phase }, { on := 26, ground := Ground.phase }, { on := 27, ground := Ground.phase }, { on := 28, ground := Ground.phase }], guard := none }) (v := ?vvt1130) rfl (by kernel_rfl) (by kernel_rfl) (by kernel_rfl) (fun _ _ _ h => h) (Or.inl ⟨by rfl, ?hyt1130⟩) A ?restt1130
              case hyt1130 => (intro w hSw; have c2 := hSw.mem.b2.cell; have c3 := hSw.mem.b3.cell;go_simp <;> with_reducible rfl)
              try simp only [Act.put, List.setIfInBounds_toArray, List.set_cons_zero, List.set_cons_succ]
              try simp only [HX1.out]
              try simp only [HX2.out]
              try simp only [HX3.out]
              try simp only [HX4.out]
              refine wpAnyH_done (by kernel_rfl) ?_ _
              all_goals
                have HB := Lib.hid A.bel
                go_wp2_with fail
                go_ret
                exact ⟨rfl, HB.out⟩
          · clear HDn0 HDn1
            have A := HA.out
            clear HA
            by_cases hx0 : xk = 0
            · subst hx0
              by_cases h30 : 30 ≤ l.length
              · have h30i : (30 : Int) ≤ (l.length : Int) := by omega
                go_upto_region 21 with fail
                replace A := A.drew
                refine wp_region_held_drew (S := fun W' => FwM w W' _ _) (by kernel_rfl) A (fun hHeld => ?_)
                clear hHeld
                refine wpAnyH_take (i := 0) (oi := { dst := some 148, op := Op.fieldAddr 32 (Operand.tmp 7) 1, type := 0, pos := "laws.go:519", after := #[], guard := none }) (v := ?vvt221) rfl (by kernel_rfl) (by kernel_rfl) (by kernel_rfl) (fun _ _ _ h => h) (Or.inl ⟨by rfl, ?hyt221⟩) A ?restt221
                case hyt221 => (intro w hSw; have c2 := hSw.mem.b2.cell; have c3 := hSw.mem.b3.cell;go_simp <;> with_reducible rfl)
                try simp only [Act.put, List.setIfInBounds_toArray, List.set_cons_zero, List.set_cons_succ]
                refine wpAnyH_take (i := 1) (oi := { dst := some 149, op := Op.load 2 (Operand.tmp 148), type := 2, pos := "laws.go:519", after := #[{ on := 0, ground := Ground.data }], guard := none }) (v := ?vvt222) rfl (by kernel_rfl) (by kernel_rfl) (by kernel_rfl) (fun _ _ _ h => h) (Or.inl ⟨by rfl, ?hyt222⟩) A ?restt222
                case hyt222 => (intro w hSw; have c2 := hSw.mem.b2.cell; have c3 := hSw.mem.b3.cell;go_simp <;> with_reducible rfl)
                try simp only [Act.put, List.setIfInBounds_toArray, List.set_cons_zero, List.set_cons_succ]
                refine wpAnyH_take (i := 2) (oi := { dst := some 150, op := Op.binOp BinOp.neq 2 (Operand.tmp 149) (Operand.const (Value.int IntKind.i64 0)) 2, type := 4, pos := "laws.go:519", after := #[{ on := 1, ground := Ground.data }], guard := none }) (v := ?vvt223) rfl (by kernel_rfl) (by kernel_rfl) (by kernel_rfl) (fun _ _ _ h => h) (Or.inl ⟨by rfl, ?hyt223⟩) A ?restt223
                case hyt223 => (intro w hSw; have c2 := hSw.mem.b2.cell; have c3 := hSw.mem.b3.cell;go_simp <;> with_reducible rfl)
                try simp only [Act.put, List.setIfInBounds_toArray, List.set_cons_zero, List.set_cons_succ]
                refine wpAnyH_take (i := 3) (oi := { dst := some 151, op := Op.move (Operand.tmp 150), type := 4, pos := "laws.go:519", after := #[{ on := 2, ground := Ground.data }], guard := none }) (v := ?vvt224) rfl (by kernel_rfl) (by kernel_rfl) (by kernel_rfl) (fun _ _ _ h => h) (Or.inl ⟨by rfl, ?hyt224⟩) A ?restt224
                case hyt224 => (intro w hSw; have c2 := hSw.mem.b2.cell; have c3 := hSw.mem.b3.cell;go_simp <;> with_reducible rfl)
                try simp only [Act.put, List.setIfInBounds_toArray, List.set_cons_zero, List.set_cons_succ]
                refine wpAnyH_take (i := 4) (oi := { dst := some 152, op := Op.move (Operand.tmp 5), type := 25, pos := "laws.go:519", after := #[{ on := 3, ground := Ground.guard }], guard := some (3, false) }) (v := ?vvt225) rfl (by kernel_rfl) (by kernel_rfl) (by kernel_rfl) (fun _ _ _ h => h) (Or.inl ⟨by rfl, ?hyt225⟩) A ?restt225
                case hyt225 => (intro w hSw; have c2 := hSw.mem.b2.cell; have c3 := hSw.mem.b3.cell;go_simp <;> with_reducible rfl)
                try simp only [Act.put, List.setIfInBounds_toArray, List.set_cons_zero, List.set_cons_succ]
                refine wpAnyH_take (i := 5) (oi := { dst := some 153, op := Op.call { callee := Callee.builtin Builtin.len, args := #[Operand.tmp 152], argTypes := #[25] }, type := 3, pos := "laws.go:519", after := #[{ on := 4, ground := Ground.data }, { on := 3, ground := Ground.guard }], guard := some (3, false) }) (v := ?vvt226) rfl (by kernel_rfl) (by kernel_rfl) (by kernel_rfl) (fun _ _ _ h => h) (Or.inl ⟨by rfl, ?hyt226⟩) A ?restt226
                case hyt226 => (intro w hSw; have c2 := hSw.mem.b2.cell; have c3 := hSw.mem.b3.cell;go_simp <;> with_reducible rfl)
                try simp only [Act.put, List.setIfInBounds_toArray, List.set_cons_zero, List.set_cons_succ]
                refine wpAnyH_take (i := 6) (oi := { dst := some 154, op := Op.binOp BinOp.geq 3 (Operand.tmp 153) (Operand.const (Value.int IntKind.i64 30)) 3, type := 4, pos := "laws.go:519", after := #[{ on := 5, ground := Ground.data }, { on := 3, ground := Ground.guard }], guard := some (3, false) }) (v := ?vvt227) rfl (by kernel_rfl) (by kernel_rfl) (by kernel_rfl) (fun _ _ _ h => h) (Or.inl ⟨by rfl, ?hyt227⟩) A ?restt227
                case hyt227 => (intro w hSw; have c2 := hSw.mem.b2.cell; have c3 := hSw.mem.b3.cell;go_simp <;> with_reducible rfl)
                try simp only [Act.put, List.setIfInBounds_toArray, List.set_cons_zero, List.set_cons_succ]
                refine wpAnyH_take (i := 7) (oi := { dst := some 155, op := Op.pick (Operand.tmp 151) (Operand.const (Value.bool true)) (Operand.tmp 154), type := 4, pos := "laws.go:519", after := #[{ on := 3, ground := Ground.data }, { on := 6, ground := Ground.data }], guard := none }) (v := ?vvt228) rfl (by kernel_rfl) (by kernel_rfl) (by kernel_rfl) (fun _ _ _ h => h) (Or.inl ⟨by rfl, ?hyt228⟩) A ?restt228
                case hyt228 => (intro w hSw; have c2 := hSw.mem.b2.cell; have c3 := hSw.mem.b3.cell;go_simp <;> with_reducible rfl)
                try simp only [Act.put, List.setIfInBounds_toArray, List.set_cons_zero, List.set_cons_succ]
                refine wpAnyH_take (i := 8) (oi := { dst := some 156, op := Op.move (Operand.tmp 155), type := 4, pos := "laws.go:519", after := #[{ on := 7, ground := Ground.data }, { on := 3, ground := Ground.chain }], guard := none }) (v := ?vvt229) rfl (by kernel_rfl) (by kernel_rfl) (by kernel_rfl) (fun _ _ _ h => h) (Or.inl ⟨by rfl, ?hyt229⟩) A ?restt229
                case hyt229 => (intro w hSw; have c2 := hSw.mem.b2.cell; have c3 := hSw.mem.b3.cell;go_simp <;> with_reducible rfl)
                try simp only [Act.put, List.setIfInBounds_toArray, List.set_cons_zero, List.set_cons_succ]
                refine wpAnyH_take (i := 9) (oi := { dst := some 157, op := Op.fieldAddr 32 (Operand.tmp 7) 0, type := 0, pos := "laws.go:519", after := #[{ on := 8, ground := Ground.guard }], guard := some (8, false) }) (v := undef) rfl (by kernel_rfl) (by kernel_rfl) (by kernel_rfl) (fun _ _ _ h => h) (Or.inr ⟨by rfl, rfl⟩) A ?_
                try simp only [Act.put, List.setIfInBounds_toArray, List.set_cons_zero, List.set_cons_succ]
                refine wpAnyH_take (i := 10) (oi := { dst := some 158, op := Op.load 25 (Operand.tmp 157), type := 25, pos := "laws.go:519", after := #[{ on := 9, ground := Ground.data }, { on := 8, ground := Ground.guard }], guard := some (8, false) }) (v := undef) rfl (by kernel_rfl) (by kernel_rfl) (by kernel_rfl) (fun _ _ _ h => h) (Or.inr ⟨by rfl, rfl⟩) A ?_
                try simp only [Act.put, List.setIfInBounds_toArray, List.set_cons_zero, List.set_cons_succ]
                refine wpAnyH_take (i := 11) (oi := { dst := some 159, op := Op.fieldAddr 34 (Operand.tmp 6) 0, type := 0, pos := "laws.go:519", after := #[{ on := 8, ground := Ground.guard }], guard := some (8, false) }) (v := undef) rfl (by kernel_rfl) (by kernel_rfl) (by kernel_rfl) (fun _ _ _ h => h) (Or.inr ⟨by rfl, rfl⟩) A ?_
                try simp only [Act.put, List.setIfInBounds_toArray, List.set_cons_zero, List.set_cons_succ]
                refine wpAnyH_take (i := 12) (oi := { dst := some 160, op := Op.load 2 (Operand.tmp 159), type := 2, pos := "laws.go:519", after := #[{ on := 11, ground := Ground.data }, { on := 8, ground := Ground.guard }], guard := some (8, false) }) (v := undef) rfl (by kernel_rfl) (by kernel_rfl) (by kernel_rfl) (fun _ _ _ h => h) (Or.inr ⟨by rfl, rfl⟩) A ?_
                try simp only [Act.put, List.setIfInBounds_toArray, List.set_cons_zero, List.set_cons_succ]
                refine wpAnyH_take (i := 13) (oi := { dst := some 161, op := Op.fieldAddr 34 (Operand.tmp 6) 1, type := 0, pos := "laws.go:519", after := #[{ on := 8, ground := Ground.guard }], guard := some (8, false) }) (v := undef) rfl (by kernel_rfl) (by kernel_rfl) (by kernel_rfl) (fun _ _ _ h => h) (Or.inr ⟨by rfl, rfl⟩) A ?_
                try simp only [Act.put, List.setIfInBounds_toArray, List.set_cons_zero, List.set_cons_succ]
                refine wpAnyH_take (i := 14) (oi := { dst := some 162, op := Op.load 2 (Operand.tmp 161), type := 2, pos := "laws.go:519", after := #[{ on := 13, ground := Ground.data }, { on := 8, ground := Ground.guard }], guard := some (8, false) }) (v := undef) rfl (by kernel_rfl) (by kernel_rfl) (by kernel_rfl) (fun _ _ _ h => h) (Or.inr ⟨by rfl, rfl⟩) A ?_
                try simp only [Act.put, List.setIfInBounds_toArray, List.set_cons_zero, List.set_cons_succ]
                refine wpAnyH_take (i := 15) (oi := { dst := some 163, op := Op.fieldAddr 34 (Operand.tmp 6) 2, type := 0, pos := "laws.go:519", after := #[{ on := 8, ground := Ground.guard }], guard := some (8, false) }) (v := undef) rfl (by kernel_rfl) (by kernel_rfl) (by kernel_rfl) (fun _ _ _ h => h) (Or.inr ⟨by rfl, rfl⟩) A ?_
                try simp only [Act.put, List.setIfInBounds_toArray, List.set_cons_zero, List.set_cons_succ]
                refine wpAnyH_take (i := 16) (oi := { dst := some 164, op := Op.load 2 (Operand.tmp 163), type := 2, pos := "laws.go:519", after := #[{ on := 15, ground := Ground.data }, { on := 8, ground := Ground.guard }], guard := some (8, false) }) (v := undef) rfl (by kernel_rfl) (by kernel_rfl) (by kernel_rfl) (fun _ _ _ h => h) (Or.inr ⟨by rfl, rfl⟩) A ?_
                try simp only [Act.put, List.setIfInBounds_toArray, List.set_cons_zero, List.set_cons_succ]
                refine wpAnyH_take (i := 17) (oi := { dst := some 165, op := Op.call { callee := Callee.value (Operand.func 28), args := #[Operand.tmp 158, Operand.tmp 160, Operand.tmp 162, Operand.tmp 164], argTypes := #[25, 2, 2, 2] }, type := 2, pos := "laws.go:519", after := #[{ on := 10, ground := Ground.data }, { on := 12, ground := Ground.data }, { on := 14, ground := Ground.data }, { on := 16, ground := Ground.data }, { on := 8, ground := Ground.chain }, { on := 8, ground := Ground.guard }], guard := some (8, false) }) (v := undef) rfl (by kernel_rfl) (by kernel_rfl) (by kernel_rfl) (fun _ _ _ h => h) (Or.inr ⟨by rfl, rfl⟩) A ?_
                try simp only [Act.put, List.setIfInBounds_toArray, List.set_cons_zero, List.set_cons_succ]
                refine wpAnyH_take (i := 18) (oi := { dst := some 166, op := Op.move (Operand.tmp 5), type := 25, pos := "laws.go:519", after := #[{ on := 8, ground := Ground.guard }], guard := some (8, false) }) (v := undef) rfl (by kernel_rfl) (by kernel_rfl) (by kernel_rfl) (fun _ _ _ h => h) (Or.inr ⟨by rfl, rfl⟩) A ?_
                try simp only [Act.put, List.setIfInBounds_toArray, List.set_cons_zero, List.set_cons_succ]
                refine wpAnyH_take (i := 19) (oi := { dst := some 167, op := Op.fieldAddr 34 (Operand.tmp 6) 0, type := 0, pos := "laws.go:519", after := #[{ on := 8, ground := Ground.guard }], guard := some (8, false) }) (v := undef) rfl (by kernel_rfl) (by kernel_rfl) (by kernel_rfl) (fun _ _ _ h => h) (Or.inr ⟨by rfl, rfl⟩) A ?_
                try simp only [Act.put, List.setIfInBounds_toArray, List.set_cons_zero, List.set_cons_succ]
                refine wpAnyH_take (i := 20) (oi := { dst := some 168, op := Op.load 2 (Operand.tmp 167), type := 2, pos := "laws.go:519", after := #[{ on := 19, ground := Ground.data }, { on := 8, ground := Ground.guard }], guard := some (8, false) }) (v := undef) rfl (by kernel_rfl) (by kernel_rfl) (by kernel_rfl) (fun _ _ _ h => h) (Or.inr ⟨by rfl, rfl⟩) A ?_
                try simp only [Act.put, List.setIfInBounds_toArray, List.set_cons_zero, List.set_cons_succ]
                refine wpAnyH_take (i := 21) (oi := { dst := some 169, op := Op.fieldAddr 34 (Operand.tmp 6) 1, type := 0, pos := "laws.go:519", after := #[{ on := 8, ground := Ground.guard }], guard := some (8, false) }) (v := undef) rfl (by kernel_rfl) (by kernel_rfl) (by kernel_rfl) (fun _ _ _ h => h) (Or.inr ⟨by rfl, rfl⟩) A ?_
                try simp only [Act.put, List.setIfInBounds_toArray, List.set_cons_zero, List.set_cons_succ]
                refine wpAnyH_take (i := 22) (oi := { dst := some 170, op := Op.load 2 (Operand.tmp 169), type := 2, pos := "laws.go:519", after := #[{ on := 21, ground := Ground.data }, { on := 8, ground := Ground.guard }], guard := some (8, false) }) (v := undef) rfl (by kernel_rfl) (by kernel_rfl) (by kernel_rfl) (fun _ _ _ h => h) (Or.inr ⟨by rfl, rfl⟩) A ?_
                try simp only [Act.put, List.setIfInBounds_toArray, List.set_cons_zero, List.set_cons_succ]
                refine wpAnyH_take (i := 23) (oi := { dst := some 171, op := Op.fieldAddr 34 (Operand.tmp 6) 2, type := 0, pos := "laws.go:519", after := #[{ on := 8, ground := Ground.guard }], guard := some (8, false) }) (v := undef) rfl (by kernel_rfl) (by kernel_rfl) (by kernel_rfl) (fun _ _ _ h => h) (Or.inr ⟨by rfl, rfl⟩) A ?_
                try simp only [Act.put, List.setIfInBounds_toArray, List.set_cons_zero, List.set_cons_succ]
                refine wpAnyH_take (i := 24) (oi := { dst := some 172, op := Op.load 2 (Operand.tmp 171), type := 2, pos := "laws.go:519", after := #[{ on := 23, ground := Ground.data }, { on := 8, ground := Ground.guard }], guard := some (8, false) }) (v := undef) rfl (by kernel_rfl) (by kernel_rfl) (by kernel_rfl) (fun _ _ _ h => h) (Or.inr ⟨by rfl, rfl⟩) A ?_
                try simp only [Act.put, List.setIfInBounds_toArray, List.set_cons_zero, List.set_cons_succ]
                refine wpAnyH_take (i := 25) (oi := { dst := some 173, op := Op.call { callee := Callee.value (Operand.func 27), args := #[Operand.tmp 166, Operand.tmp 168, Operand.tmp 170, Operand.tmp 172], argTypes := #[25, 2, 2, 2] }, type := 2, pos := "laws.go:519", after := #[{ on := 18, ground := Ground.data }, { on := 20, ground := Ground.data }, { on := 22, ground := Ground.data }, { on := 24, ground := Ground.data }, { on := 17, ground := Ground.chain }, { on := 8, ground := Ground.guard }], guard := some (8, false) }) (v := undef) rfl (by kernel_rfl) (by kernel_rfl) (by kernel_rfl) (fun _ _ _ h => h) (Or.inr ⟨by rfl, rfl⟩) A ?_
                try simp only [Act.put, List.setIfInBounds_toArray, List.set_cons_zero, List.set_cons_succ]
                refine wpAnyH_take (i := 26) (oi := { dst := some 174, op := Op.binOp BinOp.add 2 (Operand.tmp 173) (Operand.const (Value.int IntKind.i64 1)) 2, type := 2, pos := "laws.go:519", after := #[{ on := 25, ground := Ground.data }, { on := 8, ground := Ground.guard }], guard := some (8, false) }) (v := undef) rfl (by kernel_rfl) (by kernel_rfl) (by kernel_rfl) (fun _ _ _ h => h) (Or.inr ⟨by rfl, rfl⟩) A ?_
                try simp only [Act.put, List.setIfInBounds_toArray, List.set_cons_zero, List.set_cons_succ]
                refine wpAnyH_take (i := 27) (oi := { dst := some 175, op := Op.binOp BinOp.eql 2 (Operand.tmp 165) (Operand.tmp 174) 2, type := 4, pos := "laws.go:519", after := #[{ on := 17, ground := Ground.data }, { on := 26, ground := Ground.data }, { on := 8, ground := Ground.guard }], guard := some (8, false) }) (v := undef) rfl (by kernel_rfl) (by kernel_rfl) (by kernel_rfl) (fun _ _ _ h => h) (Or.inr ⟨by rfl, rfl⟩) A ?_
                try simp only [Act.put, List.setIfInBounds_toArray, List.set_cons_zero, List.set_cons_succ]
                refine wpAnyH_take (i := 28) (oi := { dst := some 176, op := Op.pick (Operand.tmp 156) (Operand.const (Value.bool true)) (Operand.tmp 175), type := 4, pos := "laws.go:519", after := #[{ on := 8, ground := Ground.data }, { on := 27, ground := Ground.data }], guard := none }) (v := ?vvt2229) rfl (by kernel_rfl) (by kernel_rfl) (by kernel_rfl) (fun _ _ _ h => h) (Or.inl ⟨by rfl, ?hyt2229⟩) A ?restt2229
                case hyt2229 => (intro w hSw; have c2 := hSw.mem.b2.cell; have c3 := hSw.mem.b3.cell;go_simp <;> with_reducible rfl)
                try simp only [Act.put, List.setIfInBounds_toArray, List.set_cons_zero, List.set_cons_succ]
                refine wpAnyH_take (i := 29) (oi := { dst := some 4, op := Op.assign (Operand.tmp 176), type := 4, pos := "laws.go:519", after := #[{ on := 28, ground := Ground.data }, { on := 25, ground := Ground.chain }, { on := 0, ground := Ground.phase }, { on := 1, ground := Ground.phase }, { on := 2, ground := Ground.phase }, { on := 3, ground := Ground.phase }, { on := 4, ground := Ground.phase }, { on := 5, ground := Ground.phase }, { on := 6, ground := Ground.phase }, { on := 7, ground := Ground.phase }, { on := 8, ground := Ground.phase }, { on := 9, ground := Ground.phase }, { on := 10, ground := Ground.phase }, { on := 11, ground := Ground.phase }, { on := 12, ground := Ground.phase }, { on := 13, ground := Ground.phase }, { on := 14, ground := Ground.phase }, { on := 15, ground := Ground.phase }, { on := 16, ground := Ground.phase }, { on := 17, ground := Ground.phase }, { on := 18, ground := Ground.phase }, { on := 19, ground := Ground.phase }, { on := 20, ground := Ground.phase }, { on := 21, ground := Ground.phase }, { on := 22, ground := Ground.phase }, { on := 23, ground := Ground.phase }, { on := 24, ground := Ground.phase }, { on := 25, ground := Ground.phase }, { on := 26, ground := Ground.phase }, { on := 27, ground := Ground.phase }, { on := 28, ground := Ground.phase }], guard := none }) (v := ?vvt2230) rfl (by kernel_rfl) (by kernel_rfl) (by kernel_rfl) (fun _ _ _ h => h) (Or.inl ⟨by rfl, ?hyt2230⟩) A ?restt2230
                case hyt2230 => (intro w hSw; have c2 := hSw.mem.b2.cell; have c3 := hSw.mem.b3.cell;go_simp <;> with_reducible rfl)
                try simp only [Act.put, List.setIfInBounds_toArray, List.set_cons_zero, List.set_cons_succ]
                refine wpAnyH_done (by kernel_rfl) ?_ _
                all_goals
                  have HB := Lib.hid A.bel
                  go_wp2_with fail
                  go_ret
                  exact ⟨rfl, HB.out⟩
              · have h30i : ¬ (30 : Int) ≤ (l.length : Int) := by omega
                have HPx := Lib.hid (HPn.out rfl h30)
                have hkb := cnt_le l r.vni r.mac r.tm
                have hwk : IntKind.i64.wrap (cntR l r.vni r.mac r.tm + 1) = cntR l r.vni r.mac r.tm + 1 := by simp only [IntKind.wrap_i64]; omega
                have HL1 : Hid (decide ((30 : Int) ≤ (l.length : Int)) = false) := Lib.hid (decide_eq_false h30i)
                have HL2 : Hid (decide (30 ≤ l.length) = false) := Lib.hid (decide_eq_false h30)
                clear HPn
                go_upto_region 21 with fail
                replace A := A.drew
                refine wp_region_held_drew (S := fun W' => FwM w W' _ _) (by kernel_rfl) A (fun hHeld => ?_)
                clear hHeld
                refine wpAnyH_take (i := 0) (oi := { dst := some 148, op := Op.fieldAddr 32 (Operand.tmp 7) 1, type := 0, pos := "laws.go:519", after := #[], guard := none }) (v := ?vvt231) rfl (by kernel_rfl) (by kernel_rfl) (by kernel_rfl) (fun _ _ _ h => h) (Or.inl ⟨by rfl, ?hyt231⟩) A ?restt231
                case hyt231 => (intro w hSw; have c2 := hSw.mem.b2.cell; have c3 := hSw.mem.b3.cell;go_simp <;> with_reducible rfl)
                try simp only [Act.put, List.setIfInBounds_toArray, List.set_cons_zero, List.set_cons_succ]
                try simp only [HL1.out]
                try simp only [HL2.out]
                refine wpAnyH_take (i := 1) (oi := { dst := some 149, op := Op.load 2 (Operand.tmp 148), type := 2, pos := "laws.go:519", after := #[{ on := 0, ground := Ground.data }], guard := none }) (v := ?vvt232) rfl (by kernel_rfl) (by kernel_rfl) (by kernel_rfl) (fun _ _ _ h => h) (Or.inl ⟨by rfl, ?hyt232⟩) A ?restt232
                case hyt232 => (intro w hSw; have c2 := hSw.mem.b2.cell; have c3 := hSw.mem.b3.cell;go_simp <;> with_reducible rfl)
                try simp only [Act.put, List.setIfInBounds_toArray, List.set_cons_zero, List.set_cons_succ]
                try simp only [HL1.out]
                try simp only [HL2.out]
                refine wpAnyH_take (i := 2) (oi := { dst := some 150, op := Op.binOp BinOp.neq 2 (Operand.tmp 149) (Operand.const (Value.int IntKind.i64 0)) 2, type := 4, pos := "laws.go:519", after := #[{ on := 1, ground := Ground.data }], guard := none }) (v := ?vvt233) rfl (by kernel_rfl) (by kernel_rfl) (by kernel_rfl) (fun _ _ _ h => h) (Or.inl ⟨by rfl, ?hyt233⟩) A ?restt233
                case hyt233 => (intro w hSw; have c2 := hSw.mem.b2.cell; have c3 := hSw.mem.b3.cell;go_simp <;> with_reducible rfl)
                try simp only [Act.put, List.setIfInBounds_toArray, List.set_cons_zero, List.set_cons_succ]
                try simp only [HL1.out]
                try simp only [HL2.out]
                refine wpAnyH_take (i := 3) (oi := { dst := some 151, op := Op.move (Operand.tmp 150), type := 4, pos := "laws.go:519", after := #[{ on := 2, ground := Ground.data }], guard := none }) (v := ?vvt234) rfl (by kernel_rfl) (by kernel_rfl) (by kernel_rfl) (fun _ _ _ h => h) (Or.inl ⟨by rfl, ?hyt234⟩) A ?restt234
                case hyt234 => (intro w hSw; have c2 := hSw.mem.b2.cell; have c3 := hSw.mem.b3.cell;go_simp <;> with_reducible rfl)
                try simp only [Act.put, List.setIfInBounds_toArray, List.set_cons_zero, List.set_cons_succ]
                try simp only [HL1.out]
                try simp only [HL2.out]
                refine wpAnyH_take (i := 4) (oi := { dst := some 152, op := Op.move (Operand.tmp 5), type := 25, pos := "laws.go:519", after := #[{ on := 3, ground := Ground.guard }], guard := some (3, false) }) (v := ?vvt235) rfl (by kernel_rfl) (by kernel_rfl) (by kernel_rfl) (fun _ _ _ h => h) (Or.inl ⟨by rfl, ?hyt235⟩) A ?restt235
                case hyt235 => (intro w hSw; have c2 := hSw.mem.b2.cell; have c3 := hSw.mem.b3.cell;go_simp <;> with_reducible rfl)
                try simp only [Act.put, List.setIfInBounds_toArray, List.set_cons_zero, List.set_cons_succ]
                try simp only [HL1.out]
                try simp only [HL2.out]
                refine wpAnyH_take (i := 5) (oi := { dst := some 153, op := Op.call { callee := Callee.builtin Builtin.len, args := #[Operand.tmp 152], argTypes := #[25] }, type := 3, pos := "laws.go:519", after := #[{ on := 4, ground := Ground.data }, { on := 3, ground := Ground.guard }], guard := some (3, false) }) (v := ?vvt236) rfl (by kernel_rfl) (by kernel_rfl) (by kernel_rfl) (fun _ _ _ h => h) (Or.inl ⟨by rfl, ?hyt236⟩) A ?restt236
                case hyt236 => (intro w hSw; have c2 := hSw.mem.b2.cell; have c3 := hSw.mem.b3.cell;go_simp <;> with_reducible rfl)
                try simp only [Act.put, List.setIfInBounds_toArray, List.set_cons_zero, List.set_cons_succ]
                try simp only [HL1.out]
                try simp only [HL2.out]
                refine wpAnyH_take (i := 6) (oi := { dst := some 154, op := Op.binOp BinOp.geq 3 (Operand.tmp 153) (Operand.const (Value.int IntKind.i64 30)) 3, type := 4, pos := "laws.go:519", after := #[{ on := 5, ground := Ground.data }, { on := 3, ground := Ground.guard }], guard := some (3, false) }) (v := ?vvt237) rfl (by kernel_rfl) (by kernel_rfl) (by kernel_rfl) (fun _ _ _ h => h) (Or.inl ⟨by rfl, ?hyt237⟩) A ?restt237
                case hyt237 => (intro w hSw; have c2 := hSw.mem.b2.cell; have c3 := hSw.mem.b3.cell;go_simp <;> with_reducible rfl)
                try simp only [Act.put, List.setIfInBounds_toArray, List.set_cons_zero, List.set_cons_succ]
                try simp only [HL1.out]
                try simp only [HL2.out]
                refine wpAnyH_take (i := 7) (oi := { dst := some 155, op := Op.pick (Operand.tmp 151) (Operand.const (Value.bool true)) (Operand.tmp 154), type := 4, pos := "laws.go:519", after := #[{ on := 3, ground := Ground.data }, { on := 6, ground := Ground.data }], guard := none }) (v := ?vvt238) rfl (by kernel_rfl) (by kernel_rfl) (by kernel_rfl) (fun _ _ _ h => h) (Or.inl ⟨by rfl, ?hyt238⟩) A ?restt238
                case hyt238 => (intro w hSw; have c2 := hSw.mem.b2.cell; have c3 := hSw.mem.b3.cell;go_simp <;> with_reducible rfl)
                try simp only [Act.put, List.setIfInBounds_toArray, List.set_cons_zero, List.set_cons_succ]
                try simp only [HL1.out]
                try simp only [HL2.out]
                refine wpAnyH_take (i := 8) (oi := { dst := some 156, op := Op.move (Operand.tmp 155), type := 4, pos := "laws.go:519", after := #[{ on := 7, ground := Ground.data }, { on := 3, ground := Ground.chain }], guard := none }) (v := ?vvt239) rfl (by kernel_rfl) (by kernel_rfl) (by kernel_rfl) (fun _ _ _ h => h) (Or.inl ⟨by rfl, ?hyt239⟩) A ?restt239
                case hyt239 => (intro w hSw; have c2 := hSw.mem.b2.cell; have c3 := hSw.mem.b3.cell;go_simp <;> with_reducible rfl)
                try simp only [Act.put, List.setIfInBounds_toArray, List.set_cons_zero, List.set_cons_succ]
                try simp only [HL1.out]
                try simp only [HL2.out]
                refine wpAnyH_take (i := 9) (oi := { dst := some 157, op := Op.fieldAddr 32 (Operand.tmp 7) 0, type := 0, pos := "laws.go:519", after := #[{ on := 8, ground := Ground.guard }], guard := some (8, false) }) (v := ?vvt2310) rfl (by kernel_rfl) (by kernel_rfl) (by kernel_rfl) (fun _ _ _ h => h) (Or.inl ⟨by rfl, ?hyt2310⟩) A ?restt2310
                case hyt2310 => (intro w hSw; have c2 := hSw.mem.b2.cell; have c3 := hSw.mem.b3.cell;go_simp <;> with_reducible rfl)
                try simp only [Act.put, List.setIfInBounds_toArray, List.set_cons_zero, List.set_cons_succ]
                try simp only [HL1.out]
                try simp only [HL2.out]
                refine wpAnyH_take (i := 10) (oi := { dst := some 158, op := Op.load 25 (Operand.tmp 157), type := 25, pos := "laws.go:519", after := #[{ on := 9, ground := Ground.data }, { on := 8, ground := Ground.guard }], guard := some (8, false) }) (v := ?vvt2311) rfl (by kernel_rfl) (by kernel_rfl) (by kernel_rfl) (fun _ _ _ h => h) (Or.inl ⟨by rfl, ?hyt2311⟩) A ?restt2311
                case hyt2311 => (intro w hSw; have c2 := hSw.mem.b2.cell; have c3 := hSw.mem.b3.cell;go_simp <;> with_reducible rfl)
                try simp only [Act.put, List.setIfInBounds_toArray, List.set_cons_zero, List.set_cons_succ]
                try simp only [HL1.out]
                try simp only [HL2.out]
                refine wpAnyH_take (i := 11) (oi := { dst := some 159, op := Op.fieldAddr 34 (Operand.tmp 6) 0, type := 0, pos := "laws.go:519", after := #[{ on := 8, ground := Ground.guard }], guard := some (8, false) }) (v := ?vvt2312) rfl (by kernel_rfl) (by kernel_rfl) (by kernel_rfl) (fun _ _ _ h => h) (Or.inl ⟨by rfl, ?hyt2312⟩) A ?restt2312
                case hyt2312 => (intro w hSw; have c2 := hSw.mem.b2.cell; have c3 := hSw.mem.b3.cell;go_simp <;> with_reducible rfl)
                try simp only [Act.put, List.setIfInBounds_toArray, List.set_cons_zero, List.set_cons_succ]
                try simp only [HL1.out]
                try simp only [HL2.out]
                refine wpAnyH_take (i := 12) (oi := { dst := some 160, op := Op.load 2 (Operand.tmp 159), type := 2, pos := "laws.go:519", after := #[{ on := 11, ground := Ground.data }, { on := 8, ground := Ground.guard }], guard := some (8, false) }) (v := ?vvt2313) rfl (by kernel_rfl) (by kernel_rfl) (by kernel_rfl) (fun _ _ _ h => h) (Or.inl ⟨by rfl, ?hyt2313⟩) A ?restt2313
                case hyt2313 => (intro w hSw; have c2 := hSw.mem.b2.cell; have c3 := hSw.mem.b3.cell;go_simp <;> with_reducible rfl)
                try simp only [Act.put, List.setIfInBounds_toArray, List.set_cons_zero, List.set_cons_succ]
                try simp only [HL1.out]
                try simp only [HL2.out]
                refine wpAnyH_take (i := 13) (oi := { dst := some 161, op := Op.fieldAddr 34 (Operand.tmp 6) 1, type := 0, pos := "laws.go:519", after := #[{ on := 8, ground := Ground.guard }], guard := some (8, false) }) (v := ?vvt2314) rfl (by kernel_rfl) (by kernel_rfl) (by kernel_rfl) (fun _ _ _ h => h) (Or.inl ⟨by rfl, ?hyt2314⟩) A ?restt2314
                case hyt2314 => (intro w hSw; have c2 := hSw.mem.b2.cell; have c3 := hSw.mem.b3.cell;go_simp <;> with_reducible rfl)
                try simp only [Act.put, List.setIfInBounds_toArray, List.set_cons_zero, List.set_cons_succ]
                try simp only [HL1.out]
                try simp only [HL2.out]
                refine wpAnyH_take (i := 14) (oi := { dst := some 162, op := Op.load 2 (Operand.tmp 161), type := 2, pos := "laws.go:519", after := #[{ on := 13, ground := Ground.data }, { on := 8, ground := Ground.guard }], guard := some (8, false) }) (v := ?vvt2315) rfl (by kernel_rfl) (by kernel_rfl) (by kernel_rfl) (fun _ _ _ h => h) (Or.inl ⟨by rfl, ?hyt2315⟩) A ?restt2315
                case hyt2315 => (intro w hSw; have c2 := hSw.mem.b2.cell; have c3 := hSw.mem.b3.cell;go_simp <;> with_reducible rfl)
                try simp only [Act.put, List.setIfInBounds_toArray, List.set_cons_zero, List.set_cons_succ]
                try simp only [HL1.out]
                try simp only [HL2.out]
                refine wpAnyH_take (i := 15) (oi := { dst := some 163, op := Op.fieldAddr 34 (Operand.tmp 6) 2, type := 0, pos := "laws.go:519", after := #[{ on := 8, ground := Ground.guard }], guard := some (8, false) }) (v := ?vvt2316) rfl (by kernel_rfl) (by kernel_rfl) (by kernel_rfl) (fun _ _ _ h => h) (Or.inl ⟨by rfl, ?hyt2316⟩) A ?restt2316
                case hyt2316 => (intro w hSw; have c2 := hSw.mem.b2.cell; have c3 := hSw.mem.b3.cell;go_simp <;> with_reducible rfl)
                try simp only [Act.put, List.setIfInBounds_toArray, List.set_cons_zero, List.set_cons_succ]
                try simp only [HL1.out]
                try simp only [HL2.out]
                refine wpAnyH_take (i := 16) (oi := { dst := some 164, op := Op.load 2 (Operand.tmp 163), type := 2, pos := "laws.go:519", after := #[{ on := 15, ground := Ground.data }, { on := 8, ground := Ground.guard }], guard := some (8, false) }) (v := ?vvt2317) rfl (by kernel_rfl) (by kernel_rfl) (by kernel_rfl) (fun _ _ _ h => h) (Or.inl ⟨by rfl, ?hyt2317⟩) A ?restt2317
                case hyt2317 => (intro w hSw; have c2 := hSw.mem.b2.cell; have c3 := hSw.mem.b3.cell;go_simp <;> with_reducible rfl)
                try simp only [Act.put, List.setIfInBounds_toArray, List.set_cons_zero, List.set_cons_succ]
                try simp only [HL1.out]
                try simp only [HL2.out]
                refine wpAnyH_take (i := 18) (oi := { dst := some 166, op := Op.move (Operand.tmp 5), type := 25, pos := "laws.go:519", after := #[{ on := 8, ground := Ground.guard }], guard := some (8, false) }) (v := ?vvt2318) rfl (by kernel_rfl) (by kernel_rfl) (by kernel_rfl) (fun _ _ _ h => h) (Or.inl ⟨by rfl, ?hyt2318⟩) A ?restt2318
                case hyt2318 => (intro w hSw; have c2 := hSw.mem.b2.cell; have c3 := hSw.mem.b3.cell;go_simp <;> with_reducible rfl)
                try simp only [Act.put, List.setIfInBounds_toArray, List.set_cons_zero, List.set_cons_succ]
                try simp only [HL1.out]
                try simp only [HL2.out]
                refine wpAnyH_take (i := 19) (oi := { dst := some 167, op := Op.fieldAddr 34 (Operand.tmp 6) 0, type := 0, pos := "laws.go:519", after := #[{ on := 8, ground := Ground.guard }], guard := some (8, false) }) (v := ?vvt2319) rfl (by kernel_rfl) (by kernel_rfl) (by kernel_rfl) (fun _ _ _ h => h) (Or.inl ⟨by rfl, ?hyt2319⟩) A ?restt2319
                case hyt2319 => (intro w hSw; have c2 := hSw.mem.b2.cell; have c3 := hSw.mem.b3.cell;go_simp <;> with_reducible rfl)
                try simp only [Act.put, List.setIfInBounds_toArray, List.set_cons_zero, List.set_cons_succ]
                try simp only [HL1.out]
                try simp only [HL2.out]
                refine wpAnyH_take (i := 20) (oi := { dst := some 168, op := Op.load 2 (Operand.tmp 167), type := 2, pos := "laws.go:519", after := #[{ on := 19, ground := Ground.data }, { on := 8, ground := Ground.guard }], guard := some (8, false) }) (v := ?vvt2320) rfl (by kernel_rfl) (by kernel_rfl) (by kernel_rfl) (fun _ _ _ h => h) (Or.inl ⟨by rfl, ?hyt2320⟩) A ?restt2320
                case hyt2320 => (intro w hSw; have c2 := hSw.mem.b2.cell; have c3 := hSw.mem.b3.cell;go_simp <;> with_reducible rfl)
                try simp only [Act.put, List.setIfInBounds_toArray, List.set_cons_zero, List.set_cons_succ]
                try simp only [HL1.out]
                try simp only [HL2.out]
                refine wpAnyH_take (i := 21) (oi := { dst := some 169, op := Op.fieldAddr 34 (Operand.tmp 6) 1, type := 0, pos := "laws.go:519", after := #[{ on := 8, ground := Ground.guard }], guard := some (8, false) }) (v := ?vvt2321) rfl (by kernel_rfl) (by kernel_rfl) (by kernel_rfl) (fun _ _ _ h => h) (Or.inl ⟨by rfl, ?hyt2321⟩) A ?restt2321
                case hyt2321 => (intro w hSw; have c2 := hSw.mem.b2.cell; have c3 := hSw.mem.b3.cell;go_simp <;> with_reducible rfl)
                try simp only [Act.put, List.setIfInBounds_toArray, List.set_cons_zero, List.set_cons_succ]
                try simp only [HL1.out]
                try simp only [HL2.out]
                refine wpAnyH_take (i := 22) (oi := { dst := some 170, op := Op.load 2 (Operand.tmp 169), type := 2, pos := "laws.go:519", after := #[{ on := 21, ground := Ground.data }, { on := 8, ground := Ground.guard }], guard := some (8, false) }) (v := ?vvt2322) rfl (by kernel_rfl) (by kernel_rfl) (by kernel_rfl) (fun _ _ _ h => h) (Or.inl ⟨by rfl, ?hyt2322⟩) A ?restt2322
                case hyt2322 => (intro w hSw; have c2 := hSw.mem.b2.cell; have c3 := hSw.mem.b3.cell;go_simp <;> with_reducible rfl)
                try simp only [Act.put, List.setIfInBounds_toArray, List.set_cons_zero, List.set_cons_succ]
                try simp only [HL1.out]
                try simp only [HL2.out]
                refine wpAnyH_take (i := 23) (oi := { dst := some 171, op := Op.fieldAddr 34 (Operand.tmp 6) 2, type := 0, pos := "laws.go:519", after := #[{ on := 8, ground := Ground.guard }], guard := some (8, false) }) (v := ?vvt2323) rfl (by kernel_rfl) (by kernel_rfl) (by kernel_rfl) (fun _ _ _ h => h) (Or.inl ⟨by rfl, ?hyt2323⟩) A ?restt2323
                case hyt2323 => (intro w hSw; have c2 := hSw.mem.b2.cell; have c3 := hSw.mem.b3.cell;go_simp <;> with_reducible rfl)
                try simp only [Act.put, List.setIfInBounds_toArray, List.set_cons_zero, List.set_cons_succ]
                try simp only [HL1.out]
                try simp only [HL2.out]
                refine wpAnyH_take (i := 24) (oi := { dst := some 172, op := Op.load 2 (Operand.tmp 171), type := 2, pos := "laws.go:519", after := #[{ on := 23, ground := Ground.data }, { on := 8, ground := Ground.guard }], guard := some (8, false) }) (v := ?vvt2324) rfl (by kernel_rfl) (by kernel_rfl) (by kernel_rfl) (fun _ _ _ h => h) (Or.inl ⟨by rfl, ?hyt2324⟩) A ?restt2324
                case hyt2324 => (intro w hSw; have c2 := hSw.mem.b2.cell; have c3 := hSw.mem.b3.cell;go_simp <;> with_reducible rfl)
                try simp only [Act.put, List.setIfInBounds_toArray, List.set_cons_zero, List.set_cons_succ]
                try simp only [HL1.out]
                try simp only [HL2.out]
                refine wpAnyH_ready (rs := [17]) (by kernel_rfl) (by simp) ?_
                refine AllReadyH.cons (o := { dst := some 165, op := Op.call { callee := Callee.value (Operand.func 28), args := #[Operand.tmp 158, Operand.tmp 160, Operand.tmp 162, Operand.tmp 164], argTypes := #[25, 2, 2, 2] }, type := 2, pos := "laws.go:519", after := #[{ on := 10, ground := Ground.data }, { on := 12, ground := Ground.data }, { on := 14, ground := Ground.data }, { on := 16, ground := Ground.data }, { on := 8, ground := Ground.chain }, { on := 8, ground := Ground.guard }], guard := some (8, false) }) rfl (fun K hK => ?_) AllReadyH.nil
                go_simp
                refine (HIc.out XM _ r.vni r.mac r.tm _ (A.sls _ mem5) (by omega)).mono ?_
                rintro e u1 ⟨rfl, hb⟩
                rw [HPx.out]
                replace A := A.kept hb
                clear hb
                refine hK.out _ _ A (fun hHeld => ?_)
                clear hK K hHeld
                try simp only [Act.put, List.setIfInBounds_toArray, List.set_cons_zero, List.set_cons_succ]
                try simp only [HL1.out]
                try simp only [HL2.out]
                refine wpAnyH_ready (rs := [25]) (by kernel_rfl) (by simp) ?_
                refine AllReadyH.cons (o := { dst := some 173, op := Op.call { callee := Callee.value (Operand.func 27), args := #[Operand.tmp 166, Operand.tmp 168, Operand.tmp 170, Operand.tmp 172], argTypes := #[25, 2, 2, 2] }, type := 2, pos := "laws.go:519", after := #[{ on := 18, ground := Ground.data }, { on := 20, ground := Ground.data }, { on := 22, ground := Ground.data }, { on := 24, ground := Ground.data }, { on := 17, ground := Ground.chain }, { on := 8, ground := Ground.guard }], guard := some (8, false) }) rfl (fun K hK => ?_) AllReadyH.nil
                go_simp
                refine (HSc.out l _ r.vni r.mac r.tm _ (A.sls _ mem6) (by omega)).mono ?_
                rintro e u2 ⟨rfl, hb⟩
                replace A := A.kept hb
                clear hb
                refine hK.out _ _ A (fun hHeld => ?_)
                clear hK K hHeld
                try simp only [Act.put, List.setIfInBounds_toArray, List.set_cons_zero, List.set_cons_succ]
                try simp only [HL1.out]
                try simp only [HL2.out]
                refine wpAnyH_take (i := 26) (oi := { dst := some 174, op := Op.binOp BinOp.add 2 (Operand.tmp 173) (Operand.const (Value.int IntKind.i64 1)) 2, type := 2, pos := "laws.go:519", after := #[{ on := 25, ground := Ground.data }, { on := 8, ground := Ground.guard }], guard := some (8, false) }) (v := ?vvt2325) rfl (by kernel_rfl) (by kernel_rfl) (by kernel_rfl) (fun _ _ _ h => h) (Or.inl ⟨by rfl, ?hyt2325⟩) A ?restt2325
                case hyt2325 => (intro w hSw; have c2 := hSw.mem.b2.cell; have c3 := hSw.mem.b3.cell;go_simp <;> with_reducible rfl)
                try simp only [Act.put, List.setIfInBounds_toArray, List.set_cons_zero, List.set_cons_succ]
                try simp only [HL1.out]
                try simp only [HL2.out]
                refine wpAnyH_take (i := 27) (oi := { dst := some 175, op := Op.binOp BinOp.eql 2 (Operand.tmp 165) (Operand.tmp 174) 2, type := 4, pos := "laws.go:519", after := #[{ on := 17, ground := Ground.data }, { on := 26, ground := Ground.data }, { on := 8, ground := Ground.guard }], guard := some (8, false) }) (v := ?vvt2326) rfl (by kernel_rfl) (by kernel_rfl) (by kernel_rfl) (fun _ _ _ h => h) (Or.inl ⟨by rfl, ?hyt2326⟩) A ?restt2326
                case hyt2326 => (intro w hSw; have c2 := hSw.mem.b2.cell; have c3 := hSw.mem.b3.cell;go_simp <;> with_reducible rfl)
                try simp only [Act.put, List.setIfInBounds_toArray, List.set_cons_zero, List.set_cons_succ]
                try simp only [HL1.out]
                try simp only [HL2.out]
                refine wpAnyH_take (i := 28) (oi := { dst := some 176, op := Op.pick (Operand.tmp 156) (Operand.const (Value.bool true)) (Operand.tmp 175), type := 4, pos := "laws.go:519", after := #[{ on := 8, ground := Ground.data }, { on := 27, ground := Ground.data }], guard := none }) (v := ?vvt2327) rfl (by kernel_rfl) (by kernel_rfl) (by kernel_rfl) (fun _ _ _ h => h) (Or.inl ⟨by rfl, ?hyt2327⟩) A ?restt2327
                case hyt2327 => (intro w hSw; have c2 := hSw.mem.b2.cell; have c3 := hSw.mem.b3.cell;go_simp <;> with_reducible rfl)
                try simp only [Act.put, List.setIfInBounds_toArray, List.set_cons_zero, List.set_cons_succ]
                try simp only [HL1.out]
                try simp only [HL2.out]
                refine wpAnyH_take (i := 29) (oi := { dst := some 4, op := Op.assign (Operand.tmp 176), type := 4, pos := "laws.go:519", after := #[{ on := 28, ground := Ground.data }, { on := 25, ground := Ground.chain }, { on := 0, ground := Ground.phase }, { on := 1, ground := Ground.phase }, { on := 2, ground := Ground.phase }, { on := 3, ground := Ground.phase }, { on := 4, ground := Ground.phase }, { on := 5, ground := Ground.phase }, { on := 6, ground := Ground.phase }, { on := 7, ground := Ground.phase }, { on := 8, ground := Ground.phase }, { on := 9, ground := Ground.phase }, { on := 10, ground := Ground.phase }, { on := 11, ground := Ground.phase }, { on := 12, ground := Ground.phase }, { on := 13, ground := Ground.phase }, { on := 14, ground := Ground.phase }, { on := 15, ground := Ground.phase }, { on := 16, ground := Ground.phase }, { on := 17, ground := Ground.phase }, { on := 18, ground := Ground.phase }, { on := 19, ground := Ground.phase }, { on := 20, ground := Ground.phase }, { on := 21, ground := Ground.phase }, { on := 22, ground := Ground.phase }, { on := 23, ground := Ground.phase }, { on := 24, ground := Ground.phase }, { on := 25, ground := Ground.phase }, { on := 26, ground := Ground.phase }, { on := 27, ground := Ground.phase }, { on := 28, ground := Ground.phase }], guard := none }) (v := ?vvt2328) rfl (by kernel_rfl) (by kernel_rfl) (by kernel_rfl) (fun _ _ _ h => h) (Or.inl ⟨by rfl, ?hyt2328⟩) A ?restt2328
                case hyt2328 => (intro w hSw; have c2 := hSw.mem.b2.cell; have c3 := hSw.mem.b3.cell;go_simp <;> with_reducible rfl)
                try simp only [Act.put, List.setIfInBounds_toArray, List.set_cons_zero, List.set_cons_succ]
                try simp only [HL1.out]
                try simp only [HL2.out]
                refine wpAnyH_done (by kernel_rfl) ?_ _
                all_goals
                  have HB := Lib.hid A.bel
                  go_wp2_with fail
                  go_ret
                  exact ⟨rfl, HB.out⟩
            · clear HPn
              have HX1 : Hid (decide (xk = 0) = false) := Lib.hid (decide_eq_false hx0)
              have HX2 : Hid ((xk == 0) = false) := Lib.hid (by simpa using hx0)
              have HX3 : Hid ((xk != 0) = true) := Lib.hid (by simpa using hx0)
              have HX4 : Hid (Bool.not false = true) := Lib.hid rfl
              go_upto_region 21 with fail
              replace A := A.drew
              refine wp_region_held_drew (S := fun W' => FwM w W' _ _) (by kernel_rfl) A (fun hHeld => ?_)
              clear hHeld
              refine wpAnyH_take (i := 0) (oi := { dst := some 148, op := Op.fieldAddr 32 (Operand.tmp 7) 1, type := 0, pos := "laws.go:519", after := #[], guard := none }) (v := ?vvt211) rfl (by kernel_rfl) (by kernel_rfl) (by kernel_rfl) (fun _ _ _ h => h) (Or.inl ⟨by rfl, ?hyt211⟩) A ?restt211
              case hyt211 => (intro w hSw; have c2 := hSw.mem.b2.cell; have c3 := hSw.mem.b3.cell;go_simp <;> with_reducible rfl)
              try simp only [Act.put, List.setIfInBounds_toArray, List.set_cons_zero, List.set_cons_succ]
              try simp only [HX1.out]
              try simp only [HX2.out]
              try simp only [HX3.out]
              try simp only [HX4.out]
              refine wpAnyH_take (i := 1) (oi := { dst := some 149, op := Op.load 2 (Operand.tmp 148), type := 2, pos := "laws.go:519", after := #[{ on := 0, ground := Ground.data }], guard := none }) (v := ?vvt212) rfl (by kernel_rfl) (by kernel_rfl) (by kernel_rfl) (fun _ _ _ h => h) (Or.inl ⟨by rfl, ?hyt212⟩) A ?restt212
              case hyt212 => (intro w hSw; have c2 := hSw.mem.b2.cell; have c3 := hSw.mem.b3.cell;go_simp <;> with_reducible rfl)
              try simp only [Act.put, List.setIfInBounds_toArray, List.set_cons_zero, List.set_cons_succ]
              try simp only [HX1.out]
              try simp only [HX2.out]
              try simp only [HX3.out]
              try simp only [HX4.out]
              refine wpAnyH_take (i := 2) (oi := { dst := some 150, op := Op.binOp BinOp.neq 2 (Operand.tmp 149) (Operand.const (Value.int IntKind.i64 0)) 2, type := 4, pos := "laws.go:519", after := #[{ on := 1, ground := Ground.data }], guard := none }) (v := ?vvt213) rfl (by kernel_rfl) (by kernel_rfl) (by kernel_rfl) (fun _ _ _ h => h) (Or.inl ⟨by rfl, ?hyt213⟩) A ?restt213
              case hyt213 => (intro w hSw; have c2 := hSw.mem.b2.cell; have c3 := hSw.mem.b3.cell;go_simp <;> with_reducible rfl)
              try simp only [Act.put, List.setIfInBounds_toArray, List.set_cons_zero, List.set_cons_succ]
              try simp only [HX1.out]
              try simp only [HX2.out]
              try simp only [HX3.out]
              try simp only [HX4.out]
              refine wpAnyH_take (i := 3) (oi := { dst := some 151, op := Op.move (Operand.tmp 150), type := 4, pos := "laws.go:519", after := #[{ on := 2, ground := Ground.data }], guard := none }) (v := ?vvt214) rfl (by kernel_rfl) (by kernel_rfl) (by kernel_rfl) (fun _ _ _ h => h) (Or.inl ⟨by rfl, ?hyt214⟩) A ?restt214
              case hyt214 => (intro w hSw; have c2 := hSw.mem.b2.cell; have c3 := hSw.mem.b3.cell;go_simp <;> with_reducible rfl)
              try simp only [Act.put, List.setIfInBounds_toArray, List.set_cons_zero, List.set_cons_succ]
              try simp only [HX1.out]
              try simp only [HX2.out]
              try simp only [HX3.out]
              try simp only [HX4.out]
              refine wpAnyH_take (i := 4) (oi := { dst := some 152, op := Op.move (Operand.tmp 5), type := 25, pos := "laws.go:519", after := #[{ on := 3, ground := Ground.guard }], guard := some (3, false) }) (v := undef) rfl (by kernel_rfl) (by kernel_rfl) (by kernel_rfl) (fun _ _ _ h => h) (Or.inr ⟨by rfl, rfl⟩) A ?_
              try simp only [Act.put, List.setIfInBounds_toArray, List.set_cons_zero, List.set_cons_succ]
              try simp only [HX1.out]
              try simp only [HX2.out]
              try simp only [HX3.out]
              try simp only [HX4.out]
              refine wpAnyH_take (i := 5) (oi := { dst := some 153, op := Op.call { callee := Callee.builtin Builtin.len, args := #[Operand.tmp 152], argTypes := #[25] }, type := 3, pos := "laws.go:519", after := #[{ on := 4, ground := Ground.data }, { on := 3, ground := Ground.guard }], guard := some (3, false) }) (v := undef) rfl (by kernel_rfl) (by kernel_rfl) (by kernel_rfl) (fun _ _ _ h => h) (Or.inr ⟨by rfl, rfl⟩) A ?_
              try simp only [Act.put, List.setIfInBounds_toArray, List.set_cons_zero, List.set_cons_succ]
              try simp only [HX1.out]
              try simp only [HX2.out]
              try simp only [HX3.out]
              try simp only [HX4.out]
              refine wpAnyH_take (i := 6) (oi := { dst := some 154, op := Op.binOp BinOp.geq 3 (Operand.tmp 153) (Operand.const (Value.int IntKind.i64 30)) 3, type := 4, pos := "laws.go:519", after := #[{ on := 5, ground := Ground.data }, { on := 3, ground := Ground.guard }], guard := some (3, false) }) (v := undef) rfl (by kernel_rfl) (by kernel_rfl) (by kernel_rfl) (fun _ _ _ h => h) (Or.inr ⟨by rfl, rfl⟩) A ?_
              try simp only [Act.put, List.setIfInBounds_toArray, List.set_cons_zero, List.set_cons_succ]
              try simp only [HX1.out]
              try simp only [HX2.out]
              try simp only [HX3.out]
              try simp only [HX4.out]
              refine wpAnyH_take (i := 7) (oi := { dst := some 155, op := Op.pick (Operand.tmp 151) (Operand.const (Value.bool true)) (Operand.tmp 154), type := 4, pos := "laws.go:519", after := #[{ on := 3, ground := Ground.data }, { on := 6, ground := Ground.data }], guard := none }) (v := ?vvt218) rfl (by kernel_rfl) (by kernel_rfl) (by kernel_rfl) (fun _ _ _ h => h) (Or.inl ⟨by rfl, ?hyt218⟩) A ?restt218
              case hyt218 => (intro w hSw; have c2 := hSw.mem.b2.cell; have c3 := hSw.mem.b3.cell;go_simp <;> with_reducible rfl)
              try simp only [Act.put, List.setIfInBounds_toArray, List.set_cons_zero, List.set_cons_succ]
              try simp only [HX1.out]
              try simp only [HX2.out]
              try simp only [HX3.out]
              try simp only [HX4.out]
              refine wpAnyH_take (i := 8) (oi := { dst := some 156, op := Op.move (Operand.tmp 155), type := 4, pos := "laws.go:519", after := #[{ on := 7, ground := Ground.data }, { on := 3, ground := Ground.chain }], guard := none }) (v := ?vvt219) rfl (by kernel_rfl) (by kernel_rfl) (by kernel_rfl) (fun _ _ _ h => h) (Or.inl ⟨by rfl, ?hyt219⟩) A ?restt219
              case hyt219 => (intro w hSw; have c2 := hSw.mem.b2.cell; have c3 := hSw.mem.b3.cell;go_simp <;> with_reducible rfl)
              try simp only [Act.put, List.setIfInBounds_toArray, List.set_cons_zero, List.set_cons_succ]
              try simp only [HX1.out]
              try simp only [HX2.out]
              try simp only [HX3.out]
              try simp only [HX4.out]
              refine wpAnyH_take (i := 9) (oi := { dst := some 157, op := Op.fieldAddr 32 (Operand.tmp 7) 0, type := 0, pos := "laws.go:519", after := #[{ on := 8, ground := Ground.guard }], guard := some (8, false) }) (v := undef) rfl (by kernel_rfl) (by kernel_rfl) (by kernel_rfl) (fun _ _ _ h => h) (Or.inr ⟨by rfl, rfl⟩) A ?_
              try simp only [Act.put, List.setIfInBounds_toArray, List.set_cons_zero, List.set_cons_succ]
              try simp only [HX1.out]
              try simp only [HX2.out]
              try simp only [HX3.out]
              try simp only [HX4.out]
              refine wpAnyH_take (i := 10) (oi := { dst := some 158, op := Op.load 25 (Operand.tmp 157), type := 25, pos := "laws.go:519", after := #[{ on := 9, ground := Ground.data }, { on := 8, ground := Ground.guard }], guard := some (8, false) }) (v := undef) rfl (by kernel_rfl) (by kernel_rfl) (by kernel_rfl) (fun _ _ _ h => h) (Or.inr ⟨by rfl, rfl⟩) A ?_
              try simp only [Act.put, List.setIfInBounds_toArray, List.set_cons_zero, List.set_cons_succ]
              try simp only [HX1.out]
              try simp only [HX2.out]
              try simp only [HX3.out]
              try simp only [HX4.out]
              refine wpAnyH_take (i := 11) (oi := { dst := some 159, op := Op.fieldAddr 34 (Operand.tmp 6) 0, type := 0, pos := "laws.go:519", after := #[{ on := 8, ground := Ground.guard }], guard := some (8, false) }) (v := undef) rfl (by kernel_rfl) (by kernel_rfl) (by kernel_rfl) (fun _ _ _ h => h) (Or.inr ⟨by rfl, rfl⟩) A ?_
              try simp only [Act.put, List.setIfInBounds_toArray, List.set_cons_zero, List.set_cons_succ]
              try simp only [HX1.out]
              try simp only [HX2.out]
              try simp only [HX3.out]
              try simp only [HX4.out]
              refine wpAnyH_take (i := 12) (oi := { dst := some 160, op := Op.load 2 (Operand.tmp 159), type := 2, pos := "laws.go:519", after := #[{ on := 11, ground := Ground.data }, { on := 8, ground := Ground.guard }], guard := some (8, false) }) (v := undef) rfl (by kernel_rfl) (by kernel_rfl) (by kernel_rfl) (fun _ _ _ h => h) (Or.inr ⟨by rfl, rfl⟩) A ?_
              try simp only [Act.put, List.setIfInBounds_toArray, List.set_cons_zero, List.set_cons_succ]
              try simp only [HX1.out]
              try simp only [HX2.out]
              try simp only [HX3.out]
              try simp only [HX4.out]
              refine wpAnyH_take (i := 13) (oi := { dst := some 161, op := Op.fieldAddr 34 (Operand.tmp 6) 1, type := 0, pos := "laws.go:519", after := #[{ on := 8, ground := Ground.guard }], guard := some (8, false) }) (v := undef) rfl (by kernel_rfl) (by kernel_rfl) (by kernel_rfl) (fun _ _ _ h => h) (Or.inr ⟨by rfl, rfl⟩) A ?_
              try simp only [Act.put, List.setIfInBounds_toArray, List.set_cons_zero, List.set_cons_succ]
              try simp only [HX1.out]
              try simp only [HX2.out]
              try simp only [HX3.out]
              try simp only [HX4.out]
              refine wpAnyH_take (i := 14) (oi := { dst := some 162, op := Op.load 2 (Operand.tmp 161), type := 2, pos := "laws.go:519", after := #[{ on := 13, ground := Ground.data }, { on := 8, ground := Ground.guard }], guard := some (8, false) }) (v := undef) rfl (by kernel_rfl) (by kernel_rfl) (by kernel_rfl) (fun _ _ _ h => h) (Or.inr ⟨by rfl, rfl⟩) A ?_
              try simp only [Act.put, List.setIfInBounds_toArray, List.set_cons_zero, List.set_cons_succ]
              try simp only [HX1.out]
              try simp only [HX2.out]
              try simp only [HX3.out]
              try simp only [HX4.out]
              refine wpAnyH_take (i := 15) (oi := { dst := some 163, op := Op.fieldAddr 34 (Operand.tmp 6) 2, type := 0, pos := "laws.go:519", after := #[{ on := 8, ground := Ground.guard }], guard := some (8, false) }) (v := undef) rfl (by kernel_rfl) (by kernel_rfl) (by kernel_rfl) (fun _ _ _ h => h) (Or.inr ⟨by rfl, rfl⟩) A ?_
              try simp only [Act.put, List.setIfInBounds_toArray, List.set_cons_zero, List.set_cons_succ]
              try simp only [HX1.out]
              try simp only [HX2.out]
              try simp only [HX3.out]
              try simp only [HX4.out]
              refine wpAnyH_take (i := 16) (oi := { dst := some 164, op := Op.load 2 (Operand.tmp 163), type := 2, pos := "laws.go:519", after := #[{ on := 15, ground := Ground.data }, { on := 8, ground := Ground.guard }], guard := some (8, false) }) (v := undef) rfl (by kernel_rfl) (by kernel_rfl) (by kernel_rfl) (fun _ _ _ h => h) (Or.inr ⟨by rfl, rfl⟩) A ?_
              try simp only [Act.put, List.setIfInBounds_toArray, List.set_cons_zero, List.set_cons_succ]
              try simp only [HX1.out]
              try simp only [HX2.out]
              try simp only [HX3.out]
              try simp only [HX4.out]
              refine wpAnyH_take (i := 17) (oi := { dst := some 165, op := Op.call { callee := Callee.value (Operand.func 28), args := #[Operand.tmp 158, Operand.tmp 160, Operand.tmp 162, Operand.tmp 164], argTypes := #[25, 2, 2, 2] }, type := 2, pos := "laws.go:519", after := #[{ on := 10, ground := Ground.data }, { on := 12, ground := Ground.data }, { on := 14, ground := Ground.data }, { on := 16, ground := Ground.data }, { on := 8, ground := Ground.chain }, { on := 8, ground := Ground.guard }], guard := some (8, false) }) (v := undef) rfl (by kernel_rfl) (by kernel_rfl) (by kernel_rfl) (fun _ _ _ h => h) (Or.inr ⟨by rfl, rfl⟩) A ?_
              try simp only [Act.put, List.setIfInBounds_toArray, List.set_cons_zero, List.set_cons_succ]
              try simp only [HX1.out]
              try simp only [HX2.out]
              try simp only [HX3.out]
              try simp only [HX4.out]
              refine wpAnyH_take (i := 18) (oi := { dst := some 166, op := Op.move (Operand.tmp 5), type := 25, pos := "laws.go:519", after := #[{ on := 8, ground := Ground.guard }], guard := some (8, false) }) (v := undef) rfl (by kernel_rfl) (by kernel_rfl) (by kernel_rfl) (fun _ _ _ h => h) (Or.inr ⟨by rfl, rfl⟩) A ?_
              try simp only [Act.put, List.setIfInBounds_toArray, List.set_cons_zero, List.set_cons_succ]
              try simp only [HX1.out]
              try simp only [HX2.out]
              try simp only [HX3.out]
              try simp only [HX4.out]
              refine wpAnyH_take (i := 19) (oi := { dst := some 167, op := Op.fieldAddr 34 (Operand.tmp 6) 0, type := 0, pos := "laws.go:519", after := #[{ on := 8, ground := Ground.guard }], guard := some (8, false) }) (v := undef) rfl (by kernel_rfl) (by kernel_rfl) (by kernel_rfl) (fun _ _ _ h => h) (Or.inr ⟨by rfl, rfl⟩) A ?_
              try simp only [Act.put, List.setIfInBounds_toArray, List.set_cons_zero, List.set_cons_succ]
              try simp only [HX1.out]
              try simp only [HX2.out]
              try simp only [HX3.out]
              try simp only [HX4.out]
              refine wpAnyH_take (i := 20) (oi := { dst := some 168, op := Op.load 2 (Operand.tmp 167), type := 2, pos := "laws.go:519", after := #[{ on := 19, ground := Ground.data }, { on := 8, ground := Ground.guard }], guard := some (8, false) }) (v := undef) rfl (by kernel_rfl) (by kernel_rfl) (by kernel_rfl) (fun _ _ _ h => h) (Or.inr ⟨by rfl, rfl⟩) A ?_
              try simp only [Act.put, List.setIfInBounds_toArray, List.set_cons_zero, List.set_cons_succ]
              try simp only [HX1.out]
              try simp only [HX2.out]
              try simp only [HX3.out]
              try simp only [HX4.out]
              refine wpAnyH_take (i := 21) (oi := { dst := some 169, op := Op.fieldAddr 34 (Operand.tmp 6) 1, type := 0, pos := "laws.go:519", after := #[{ on := 8, ground := Ground.guard }], guard := some (8, false) }) (v := undef) rfl (by kernel_rfl) (by kernel_rfl) (by kernel_rfl) (fun _ _ _ h => h) (Or.inr ⟨by rfl, rfl⟩) A ?_
              try simp only [Act.put, List.setIfInBounds_toArray, List.set_cons_zero, List.set_cons_succ]
              try simp only [HX1.out]
              try simp only [HX2.out]
              try simp only [HX3.out]
              try simp only [HX4.out]
              refine wpAnyH_take (i := 22) (oi := { dst := some 170, op := Op.load 2 (Operand.tmp 169), type := 2, pos := "laws.go:519", after := #[{ on := 21, ground := Ground.data }, { on := 8, ground := Ground.guard }], guard := some (8, false) }) (v := undef) rfl (by kernel_rfl) (by kernel_rfl) (by kernel_rfl) (fun _ _ _ h => h) (Or.inr ⟨by rfl, rfl⟩) A ?_
              try simp only [Act.put, List.setIfInBounds_toArray, List.set_cons_zero, List.set_cons_succ]
              try simp only [HX1.out]
              try simp only [HX2.out]
              try simp only [HX3.out]
              try simp only [HX4.out]
              refine wpAnyH_take (i := 23) (oi := { dst := some 171, op := Op.fieldAddr 34 (Operand.tmp 6) 2, type := 0, pos := "laws.go:519", after := #[{ on := 8, ground := Ground.guard }], guard := some (8, false) }) (v := undef) rfl (by kernel_rfl) (by kernel_rfl) (by kernel_rfl) (fun _ _ _ h => h) (Or.inr ⟨by rfl, rfl⟩) A ?_
              try simp only [Act.put, List.setIfInBounds_toArray, List.set_cons_zero, List.set_cons_succ]
              try simp only [HX1.out]
              try simp only [HX2.out]
              try simp only [HX3.out]
              try simp only [HX4.out]
              refine wpAnyH_take (i := 24) (oi := { dst := some 172, op := Op.load 2 (Operand.tmp 171), type := 2, pos := "laws.go:519", after := #[{ on := 23, ground := Ground.data }, { on := 8, ground := Ground.guard }], guard := some (8, false) }) (v := undef) rfl (by kernel_rfl) (by kernel_rfl) (by kernel_rfl) (fun _ _ _ h => h) (Or.inr ⟨by rfl, rfl⟩) A ?_
              try simp only [Act.put, List.setIfInBounds_toArray, List.set_cons_zero, List.set_cons_succ]
              try simp only [HX1.out]
              try simp only [HX2.out]
              try simp only [HX3.out]
              try simp only [HX4.out]
              refine wpAnyH_take (i := 25) (oi := { dst := some 173, op := Op.call { callee := Callee.value (Operand.func 27), args := #[Operand.tmp 166, Operand.tmp 168, Operand.tmp 170, Operand.tmp 172], argTypes := #[25, 2, 2, 2] }, type := 2, pos := "laws.go:519", after := #[{ on := 18, ground := Ground.data }, { on := 20, ground := Ground.data }, { on := 22, ground := Ground.data }, { on := 24, ground := Ground.data }, { on := 17, ground := Ground.chain }, { on := 8, ground := Ground.guard }], guard := some (8, false) }) (v := undef) rfl (by kernel_rfl) (by kernel_rfl) (by kernel_rfl) (fun _ _ _ h => h) (Or.inr ⟨by rfl, rfl⟩) A ?_
              try simp only [Act.put, List.setIfInBounds_toArray, List.set_cons_zero, List.set_cons_succ]
              try simp only [HX1.out]
              try simp only [HX2.out]
              try simp only [HX3.out]
              try simp only [HX4.out]
              refine wpAnyH_take (i := 26) (oi := { dst := some 174, op := Op.binOp BinOp.add 2 (Operand.tmp 173) (Operand.const (Value.int IntKind.i64 1)) 2, type := 2, pos := "laws.go:519", after := #[{ on := 25, ground := Ground.data }, { on := 8, ground := Ground.guard }], guard := some (8, false) }) (v := undef) rfl (by kernel_rfl) (by kernel_rfl) (by kernel_rfl) (fun _ _ _ h => h) (Or.inr ⟨by rfl, rfl⟩) A ?_
              try simp only [Act.put, List.setIfInBounds_toArray, List.set_cons_zero, List.set_cons_succ]
              try simp only [HX1.out]
              try simp only [HX2.out]
              try simp only [HX3.out]
              try simp only [HX4.out]
              refine wpAnyH_take (i := 27) (oi := { dst := some 175, op := Op.binOp BinOp.eql 2 (Operand.tmp 165) (Operand.tmp 174) 2, type := 4, pos := "laws.go:519", after := #[{ on := 17, ground := Ground.data }, { on := 26, ground := Ground.data }, { on := 8, ground := Ground.guard }], guard := some (8, false) }) (v := undef) rfl (by kernel_rfl) (by kernel_rfl) (by kernel_rfl) (fun _ _ _ h => h) (Or.inr ⟨by rfl, rfl⟩) A ?_
              try simp only [Act.put, List.setIfInBounds_toArray, List.set_cons_zero, List.set_cons_succ]
              try simp only [HX1.out]
              try simp only [HX2.out]
              try simp only [HX3.out]
              try simp only [HX4.out]
              refine wpAnyH_take (i := 28) (oi := { dst := some 176, op := Op.pick (Operand.tmp 156) (Operand.const (Value.bool true)) (Operand.tmp 175), type := 4, pos := "laws.go:519", after := #[{ on := 8, ground := Ground.data }, { on := 27, ground := Ground.data }], guard := none }) (v := ?vvt2129) rfl (by kernel_rfl) (by kernel_rfl) (by kernel_rfl) (fun _ _ _ h => h) (Or.inl ⟨by rfl, ?hyt2129⟩) A ?restt2129
              case hyt2129 => (intro w hSw; have c2 := hSw.mem.b2.cell; have c3 := hSw.mem.b3.cell;go_simp <;> with_reducible rfl)
              try simp only [Act.put, List.setIfInBounds_toArray, List.set_cons_zero, List.set_cons_succ]
              try simp only [HX1.out]
              try simp only [HX2.out]
              try simp only [HX3.out]
              try simp only [HX4.out]
              refine wpAnyH_take (i := 29) (oi := { dst := some 4, op := Op.assign (Operand.tmp 176), type := 4, pos := "laws.go:519", after := #[{ on := 28, ground := Ground.data }, { on := 25, ground := Ground.chain }, { on := 0, ground := Ground.phase }, { on := 1, ground := Ground.phase }, { on := 2, ground := Ground.phase }, { on := 3, ground := Ground.phase }, { on := 4, ground := Ground.phase }, { on := 5, ground := Ground.phase }, { on := 6, ground := Ground.phase }, { on := 7, ground := Ground.phase }, { on := 8, ground := Ground.phase }, { on := 9, ground := Ground.phase }, { on := 10, ground := Ground.phase }, { on := 11, ground := Ground.phase }, { on := 12, ground := Ground.phase }, { on := 13, ground := Ground.phase }, { on := 14, ground := Ground.phase }, { on := 15, ground := Ground.phase }, { on := 16, ground := Ground.phase }, { on := 17, ground := Ground.phase }, { on := 18, ground := Ground.phase }, { on := 19, ground := Ground.phase }, { on := 20, ground := Ground.phase }, { on := 21, ground := Ground.phase }, { on := 22, ground := Ground.phase }, { on := 23, ground := Ground.phase }, { on := 24, ground := Ground.phase }, { on := 25, ground := Ground.phase }, { on := 26, ground := Ground.phase }, { on := 27, ground := Ground.phase }, { on := 28, ground := Ground.phase }], guard := none }) (v := ?vvt2130) rfl (by kernel_rfl) (by kernel_rfl) (by kernel_rfl) (fun _ _ _ h => h) (Or.inl ⟨by rfl, ?hyt2130⟩) A ?restt2130
              case hyt2130 => (intro w hSw; have c2 := hSw.mem.b2.cell; have c3 := hSw.mem.b3.cell;go_simp <;> with_reducible rfl)
              try simp only [Act.put, List.setIfInBounds_toArray, List.set_cons_zero, List.set_cons_succ]
              try simp only [HX1.out]
              try simp only [HX2.out]
              try simp only [HX3.out]
              try simp only [HX4.out]
              refine wpAnyH_done (by kernel_rfl) ?_ _
              all_goals
                have HB := Lib.hid A.bel
                go_wp2_with fail
                go_ret
                exact ⟨rfl, HB.out⟩
    · clear HTn
      have c0 := HA.out.mem.b0.cell
      by_cases hz0 : zk = 0
      · subst hz0
        have HDz0 := Lib.hid (HDn0.out rfl)
        have HDz1 := Lib.hid (HDn1.out rfl)
        clear HDn0 HDn1
        go_wp2_with fail
        refine (HIc.out ZM _ 5 dm 0 _ (HA.out.sls _ mem0) (by omega)).mono ?_
        rintro e v10 ⟨rfl, hb⟩
        rw [HDz0.out]
        replace HA := Lib.hid (HA.out.kept hb)
        clear hb c0
        have c0 := HA.out.mem.b0.cell
        go_wp2_with fail
        refine (HIc.out ZM _ 5 (dm + 1) 20 _ (HA.out.sls _ mem0) (by omega)).mono ?_
        rintro e v11 ⟨rfl, hb⟩
        rw [HDz1.out]
        replace HA := Lib.hid (HA.out.kept hb)
        clear hb c0
        go_wp2_with fail
        refine (HSc.out d _ 5 (dm + 1) 20 _ (HA.out.sls _ mem1) (by omega)).mono ?_
        rintro e v12 ⟨rfl, hb⟩
        replace HA := Lib.hid (HA.out.kept hb)
        clear hb
        have A := HA.out
        clear HA
        by_cases hx0 : xk = 0
        · subst hx0
          by_cases h30 : 30 ≤ l.length
          · have h30i : (30 : Int) ≤ (l.length : Int) := by omega
            go_upto_region 21 with fail
            replace A := A.drew
            refine wp_region_held_drew (S := fun W' => FwM w W' _ _) (by kernel_rfl) A (fun hHeld => ?_)
            clear hHeld
            refine wpAnyH_take (i := 0) (oi := { dst := some 148, op := Op.fieldAddr 32 (Operand.tmp 7) 1, type := 0, pos := "laws.go:519", after := #[], guard := none }) (v := ?vvt321) rfl (by kernel_rfl) (by kernel_rfl) (by kernel_rfl) (fun _ _ _ h => h) (Or.inl ⟨by rfl, ?hyt321⟩) A ?restt321
            case hyt321 => (intro w hSw; have c2 := hSw.mem.b2.cell; have c3 := hSw.mem.b3.cell;go_simp <;> with_reducible rfl)
            try simp only [Act.put, List.setIfInBounds_toArray, List.set_cons_zero, List.set_cons_succ]
            refine wpAnyH_take (i := 1) (oi := { dst := some 149, op := Op.load 2 (Operand.tmp 148), type := 2, pos := "laws.go:519", after := #[{ on := 0, ground := Ground.data }], guard := none }) (v := ?vvt322) rfl (by kernel_rfl) (by kernel_rfl) (by kernel_rfl) (fun _ _ _ h => h) (Or.inl ⟨by rfl, ?hyt322⟩) A ?restt322
            case hyt322 => (intro w hSw; have c2 := hSw.mem.b2.cell; have c3 := hSw.mem.b3.cell;go_simp <;> with_reducible rfl)
            try simp only [Act.put, List.setIfInBounds_toArray, List.set_cons_zero, List.set_cons_succ]
            refine wpAnyH_take (i := 2) (oi := { dst := some 150, op := Op.binOp BinOp.neq 2 (Operand.tmp 149) (Operand.const (Value.int IntKind.i64 0)) 2, type := 4, pos := "laws.go:519", after := #[{ on := 1, ground := Ground.data }], guard := none }) (v := ?vvt323) rfl (by kernel_rfl) (by kernel_rfl) (by kernel_rfl) (fun _ _ _ h => h) (Or.inl ⟨by rfl, ?hyt323⟩) A ?restt323
            case hyt323 => (intro w hSw; have c2 := hSw.mem.b2.cell; have c3 := hSw.mem.b3.cell;go_simp <;> with_reducible rfl)
            try simp only [Act.put, List.setIfInBounds_toArray, List.set_cons_zero, List.set_cons_succ]
            refine wpAnyH_take (i := 3) (oi := { dst := some 151, op := Op.move (Operand.tmp 150), type := 4, pos := "laws.go:519", after := #[{ on := 2, ground := Ground.data }], guard := none }) (v := ?vvt324) rfl (by kernel_rfl) (by kernel_rfl) (by kernel_rfl) (fun _ _ _ h => h) (Or.inl ⟨by rfl, ?hyt324⟩) A ?restt324
            case hyt324 => (intro w hSw; have c2 := hSw.mem.b2.cell; have c3 := hSw.mem.b3.cell;go_simp <;> with_reducible rfl)
            try simp only [Act.put, List.setIfInBounds_toArray, List.set_cons_zero, List.set_cons_succ]
            refine wpAnyH_take (i := 4) (oi := { dst := some 152, op := Op.move (Operand.tmp 5), type := 25, pos := "laws.go:519", after := #[{ on := 3, ground := Ground.guard }], guard := some (3, false) }) (v := ?vvt325) rfl (by kernel_rfl) (by kernel_rfl) (by kernel_rfl) (fun _ _ _ h => h) (Or.inl ⟨by rfl, ?hyt325⟩) A ?restt325
            case hyt325 => (intro w hSw; have c2 := hSw.mem.b2.cell; have c3 := hSw.mem.b3.cell;go_simp <;> with_reducible rfl)
            try simp only [Act.put, List.setIfInBounds_toArray, List.set_cons_zero, List.set_cons_succ]
            refine wpAnyH_take (i := 5) (oi := { dst := some 153, op := Op.call { callee := Callee.builtin Builtin.len, args := #[Operand.tmp 152], argTypes := #[25] }, type := 3, pos := "laws.go:519", after := #[{ on := 4, ground := Ground.data }, { on := 3, ground := Ground.guard }], guard := some (3, false) }) (v := ?vvt326) rfl (by kernel_rfl) (by kernel_rfl) (by kernel_rfl) (fun _ _ _ h => h) (Or.inl ⟨by rfl, ?hyt326⟩) A ?restt326
            case hyt326 => (intro w hSw; have c2 := hSw.mem.b2.cell; have c3 := hSw.mem.b3.cell;go_simp <;> with_reducible rfl)
            try simp only [Act.put, List.setIfInBounds_toArray, List.set_cons_zero, List.set_cons_succ]
            refine wpAnyH_take (i := 6) (oi := { dst := some 154, op := Op.binOp BinOp.geq 3 (Operand.tmp 153) (Operand.const (Value.int IntKind.i64 30)) 3, type := 4, pos := "laws.go:519", after := #[{ on := 5, ground := Ground.data }, { on := 3, ground := Ground.guard }], guard := some (3, false) }) (v := ?vvt327) rfl (by kernel_rfl) (by kernel_rfl) (by kernel_rfl) (fun _ _ _ h => h) (Or.inl ⟨by rfl, ?hyt327⟩) A ?restt327
            case hyt327 => (intro w hSw; have c2 := hSw.mem.b2.cell; have c3 := hSw.mem.b3.cell;go_simp <;> with_reducible rfl)
            try simp only [Act.put, List.setIfInBounds_toArray, List.set_cons_zero, List.set_cons_succ]
            refine wpAnyH_take (i := 7) (oi := { dst := some 155, op := Op.pick (Operand.tmp 151) (Operand.const (Value.bool true)) (Operand.tmp 154), type := 4, pos := "laws.go:519", after := #[{ on := 3, ground := Ground.data }, { on := 6, ground := Ground.data }], guard := none }) (v := ?vvt328) rfl (by kernel_rfl) (by kernel_rfl) (by kernel_rfl) (fun _ _ _ h => h) (Or.inl ⟨by rfl, ?hyt328⟩) A ?restt328
            case hyt328 => (intro w hSw; have c2 := hSw.mem.b2.cell; have c3 := hSw.mem.b3.cell;go_simp <;> with_reducible rfl)
            try simp only [Act.put, List.setIfInBounds_toArray, List.set_cons_zero, List.set_cons_succ]
            refine wpAnyH_take (i := 8) (oi := { dst := some 156, op := Op.move (Operand.tmp 155), type := 4, pos := "laws.go:519", after := #[{ on := 7, ground := Ground.data }, { on := 3, ground := Ground.chain }], guard := none }) (v := ?vvt329) rfl (by kernel_rfl) (by kernel_rfl) (by kernel_rfl) (fun _ _ _ h => h) (Or.inl ⟨by rfl, ?hyt329⟩) A ?restt329
            case hyt329 => (intro w hSw; have c2 := hSw.mem.b2.cell; have c3 := hSw.mem.b3.cell;go_simp <;> with_reducible rfl)
            try simp only [Act.put, List.setIfInBounds_toArray, List.set_cons_zero, List.set_cons_succ]
            refine wpAnyH_take (i := 9) (oi := { dst := some 157, op := Op.fieldAddr 32 (Operand.tmp 7) 0, type := 0, pos := "laws.go:519", after := #[{ on := 8, ground := Ground.guard }], guard := some (8, false) }) (v := undef) rfl (by kernel_rfl) (by kernel_rfl) (by kernel_rfl) (fun _ _ _ h => h) (Or.inr ⟨by rfl, rfl⟩) A ?_
            try simp only [Act.put, List.setIfInBounds_toArray, List.set_cons_zero, List.set_cons_succ]
            refine wpAnyH_take (i := 10) (oi := { dst := some 158, op := Op.load 25 (Operand.tmp 157), type := 25, pos := "laws.go:519", after := #[{ on := 9, ground := Ground.data }, { on := 8, ground := Ground.guard }], guard := some (8, false) }) (v := undef) rfl (by kernel_rfl) (by kernel_rfl) (by kernel_rfl) (fun _ _ _ h => h) (Or.inr ⟨by rfl, rfl⟩) A ?_
            try simp only [Act.put, List.setIfInBounds_toArray, List.set_cons_zero, List.set_cons_succ]
            refine wpAnyH_take (i := 11) (oi := { dst := some 159, op := Op.fieldAddr 34 (Operand.tmp 6) 0, type := 0, pos := "laws.go:519", after := #[{ on := 8, ground := Ground.guard }], guard := some (8, false) }) (v := undef) rfl (by kernel_rfl) (by kernel_rfl) (by kernel_rfl) (fun _ _ _ h => h) (Or.inr ⟨by rfl, rfl⟩) A ?_
            try simp only [Act.put, List.setIfInBounds_toArray, List.set_cons_zero, List.set_cons_succ]
            refine wpAnyH_take (i := 12) (oi := { dst := some 160, op := Op.load 2 (Operand.tmp 159), type := 2, pos := "laws.go:519", after := #[{ on := 11, ground := Ground.data }, { on := 8, ground := Ground.guard }], guard := some (8, false) }) (v := undef) rfl (by kernel_rfl) (by kernel_rfl) (by kernel_rfl) (fun _ _ _ h => h) (Or.inr ⟨by rfl, rfl⟩) A ?_
            try simp only [Act.put, List.setIfInBounds_toArray, List.set_cons_zero, List.set_cons_succ]
            refine wpAnyH_take (i := 13) (oi := { dst := some 161, op := Op.fieldAddr 34 (Operand.tmp 6) 1, type := 0, pos := "laws.go:519", after := #[{ on := 8, ground := Ground.guard }], guard := some (8, false) }) (v := undef) rfl (by kernel_rfl) (by kernel_rfl) (by kernel_rfl) (fun _ _ _ h => h) (Or.inr ⟨by rfl, rfl⟩) A ?_
            try simp only [Act.put, List.setIfInBounds_toArray, List.set_cons_zero, List.set_cons_succ]
            refine wpAnyH_take (i := 14) (oi := { dst := some 162, op := Op.load 2 (Operand.tmp 161), type := 2, pos := "laws.go:519", after := #[{ on := 13, ground := Ground.data }, { on := 8, ground := Ground.guard }], guard := some (8, false) }) (v := undef) rfl (by kernel_rfl) (by kernel_rfl) (by kernel_rfl) (fun _ _ _ h => h) (Or.inr ⟨by rfl, rfl⟩) A ?_
            try simp only [Act.put, List.setIfInBounds_toArray, List.set_cons_zero, List.set_cons_succ]
            refine wpAnyH_take (i := 15) (oi := { dst := some 163, op := Op.fieldAddr 34 (Operand.tmp 6) 2, type := 0, pos := "laws.go:519", after := #[{ on := 8, ground := Ground.guard }], guard := some (8, false) }) (v := undef) rfl (by kernel_rfl) (by kernel_rfl) (by kernel_rfl) (fun _ _ _ h => h) (Or.inr ⟨by rfl, rfl⟩) A ?_
            try simp only [Act.put, List.setIfInBounds_toArray, List.set_cons_zero, List.set_cons_succ]
            refine wpAnyH_take (i := 16) (oi := { dst := some 164, op := Op.load 2 (Operand.tmp 163), type := 2, pos := "laws.go:519", after := #[{ on := 15, ground := Ground.data }, { on := 8, ground := Ground.guard }], guard := some (8, false) }) (v := undef) rfl (by kernel_rfl) (by kernel_rfl) (by kernel_rfl) (fun _ _ _ h => h) (Or.inr ⟨by rfl, rfl⟩) A ?_
            try simp only [Act.put, List.setIfInBounds_toArray, List.set_cons_zero, List.set_cons_succ]
            refine wpAnyH_take (i := 17) (oi := { dst := some 165, op := Op.call { callee := Callee.value (Operand.func 28), args := #[Operand.tmp 158, Operand.tmp 160, Operand.tmp 162, Operand.tmp 164], argTypes := #[25, 2, 2, 2] }, type := 2, pos := "laws.go:519", after := #[{ on := 10, ground := Ground.data }, { on := 12, ground := Ground.data }, { on := 14, ground := Ground.data }, { on := 16, ground := Ground.data }, { on := 8, ground := Ground.chain }, { on := 8, ground := Ground.guard }], guard := some (8, false) }) (v := undef) rfl (by kernel_rfl) (by kernel_rfl) (by kernel_rfl) (fun _ _ _ h => h) (Or.inr ⟨by rfl, rfl⟩) A ?_
            try simp only [Act.put, List.setIfInBounds_toArray, List.set_cons_zero, List.set_cons_succ]
            refine wpAnyH_take (i := 18) (oi := { dst := some 166, op := Op.move (Operand.tmp 5), type := 25, pos := "laws.go:519", after := #[{ on := 8, ground := Ground.guard }], guard := some (8, false) }) (v := undef) rfl (by kernel_rfl) (by kernel_rfl) (by kernel_rfl) (fun _ _ _ h => h) (Or.inr ⟨by rfl, rfl⟩) A ?_
            try simp only [Act.put, List.setIfInBounds_toArray, List.set_cons_zero, List.set_cons_succ]
            refine wpAnyH_take (i := 19) (oi := { dst := some 167, op := Op.fieldAddr 34 (Operand.tmp 6) 0, type := 0, pos := "laws.go:519", after := #[{ on := 8, ground := Ground.guard }], guard := some (8, false) }) (v := undef) rfl (by kernel_rfl) (by kernel_rfl) (by kernel_rfl) (fun _ _ _ h => h) (Or.inr ⟨by rfl, rfl⟩) A ?_
            try simp only [Act.put, List.setIfInBounds_toArray, List.set_cons_zero, List.set_cons_succ]
            refine wpAnyH_take (i := 20) (oi := { dst := some 168, op := Op.load 2 (Operand.tmp 167), type := 2, pos := "laws.go:519", after := #[{ on := 19, ground := Ground.data }, { on := 8, ground := Ground.guard }], guard := some (8, false) }) (v := undef) rfl (by kernel_rfl) (by kernel_rfl) (by kernel_rfl) (fun _ _ _ h => h) (Or.inr ⟨by rfl, rfl⟩) A ?_
            try simp only [Act.put, List.setIfInBounds_toArray, List.set_cons_zero, List.set_cons_succ]
            refine wpAnyH_take (i := 21) (oi := { dst := some 169, op := Op.fieldAddr 34 (Operand.tmp 6) 1, type := 0, pos := "laws.go:519", after := #[{ on := 8, ground := Ground.guard }], guard := some (8, false) }) (v := undef) rfl (by kernel_rfl) (by kernel_rfl) (by kernel_rfl) (fun _ _ _ h => h) (Or.inr ⟨by rfl, rfl⟩) A ?_
            try simp only [Act.put, List.setIfInBounds_toArray, List.set_cons_zero, List.set_cons_succ]
            refine wpAnyH_take (i := 22) (oi := { dst := some 170, op := Op.load 2 (Operand.tmp 169), type := 2, pos := "laws.go:519", after := #[{ on := 21, ground := Ground.data }, { on := 8, ground := Ground.guard }], guard := some (8, false) }) (v := undef) rfl (by kernel_rfl) (by kernel_rfl) (by kernel_rfl) (fun _ _ _ h => h) (Or.inr ⟨by rfl, rfl⟩) A ?_
            try simp only [Act.put, List.setIfInBounds_toArray, List.set_cons_zero, List.set_cons_succ]
            refine wpAnyH_take (i := 23) (oi := { dst := some 171, op := Op.fieldAddr 34 (Operand.tmp 6) 2, type := 0, pos := "laws.go:519", after := #[{ on := 8, ground := Ground.guard }], guard := some (8, false) }) (v := undef) rfl (by kernel_rfl) (by kernel_rfl) (by kernel_rfl) (fun _ _ _ h => h) (Or.inr ⟨by rfl, rfl⟩) A ?_
            try simp only [Act.put, List.setIfInBounds_toArray, List.set_cons_zero, List.set_cons_succ]
            refine wpAnyH_take (i := 24) (oi := { dst := some 172, op := Op.load 2 (Operand.tmp 171), type := 2, pos := "laws.go:519", after := #[{ on := 23, ground := Ground.data }, { on := 8, ground := Ground.guard }], guard := some (8, false) }) (v := undef) rfl (by kernel_rfl) (by kernel_rfl) (by kernel_rfl) (fun _ _ _ h => h) (Or.inr ⟨by rfl, rfl⟩) A ?_
            try simp only [Act.put, List.setIfInBounds_toArray, List.set_cons_zero, List.set_cons_succ]
            refine wpAnyH_take (i := 25) (oi := { dst := some 173, op := Op.call { callee := Callee.value (Operand.func 27), args := #[Operand.tmp 166, Operand.tmp 168, Operand.tmp 170, Operand.tmp 172], argTypes := #[25, 2, 2, 2] }, type := 2, pos := "laws.go:519", after := #[{ on := 18, ground := Ground.data }, { on := 20, ground := Ground.data }, { on := 22, ground := Ground.data }, { on := 24, ground := Ground.data }, { on := 17, ground := Ground.chain }, { on := 8, ground := Ground.guard }], guard := some (8, false) }) (v := undef) rfl (by kernel_rfl) (by kernel_rfl) (by kernel_rfl) (fun _ _ _ h => h) (Or.inr ⟨by rfl, rfl⟩) A ?_
            try simp only [Act.put, List.setIfInBounds_toArray, List.set_cons_zero, List.set_cons_succ]
            refine wpAnyH_take (i := 26) (oi := { dst := some 174, op := Op.binOp BinOp.add 2 (Operand.tmp 173) (Operand.const (Value.int IntKind.i64 1)) 2, type := 2, pos := "laws.go:519", after := #[{ on := 25, ground := Ground.data }, { on := 8, ground := Ground.guard }], guard := some (8, false) }) (v := undef) rfl (by kernel_rfl) (by kernel_rfl) (by kernel_rfl) (fun _ _ _ h => h) (Or.inr ⟨by rfl, rfl⟩) A ?_
            try simp only [Act.put, List.setIfInBounds_toArray, List.set_cons_zero, List.set_cons_succ]
            refine wpAnyH_take (i := 27) (oi := { dst := some 175, op := Op.binOp BinOp.eql 2 (Operand.tmp 165) (Operand.tmp 174) 2, type := 4, pos := "laws.go:519", after := #[{ on := 17, ground := Ground.data }, { on := 26, ground := Ground.data }, { on := 8, ground := Ground.guard }], guard := some (8, false) }) (v := undef) rfl (by kernel_rfl) (by kernel_rfl) (by kernel_rfl) (fun _ _ _ h => h) (Or.inr ⟨by rfl, rfl⟩) A ?_
            try simp only [Act.put, List.setIfInBounds_toArray, List.set_cons_zero, List.set_cons_succ]
            refine wpAnyH_take (i := 28) (oi := { dst := some 176, op := Op.pick (Operand.tmp 156) (Operand.const (Value.bool true)) (Operand.tmp 175), type := 4, pos := "laws.go:519", after := #[{ on := 8, ground := Ground.data }, { on := 27, ground := Ground.data }], guard := none }) (v := ?vvt3229) rfl (by kernel_rfl) (by kernel_rfl) (by kernel_rfl) (fun _ _ _ h => h) (Or.inl ⟨by rfl, ?hyt3229⟩) A ?restt3229
            case hyt3229 => (intro w hSw; have c2 := hSw.mem.b2.cell; have c3 := hSw.mem.b3.cell;go_simp <;> with_reducible rfl)
            try simp only [Act.put, List.setIfInBounds_toArray, List.set_cons_zero, List.set_cons_succ]
            refine wpAnyH_take (i := 29) (oi := { dst := some 4, op := Op.assign (Operand.tmp 176), type := 4, pos := "laws.go:519", after := #[{ on := 28, ground := Ground.data }, { on := 25, ground := Ground.chain }, { on := 0, ground := Ground.phase }, { on := 1, ground := Ground.phase }, { on := 2, ground := Ground.phase }, { on := 3, ground := Ground.phase }, { on := 4, ground := Ground.phase }, { on := 5, ground := Ground.phase }, { on := 6, ground := Ground.phase }, { on := 7, ground := Ground.phase }, { on := 8, ground := Ground.phase }, { on := 9, ground := Ground.phase }, { on := 10, ground := Ground.phase }, { on := 11, ground := Ground.phase }, { on := 12, ground := Ground.phase }, { on := 13, ground := Ground.phase }, { on := 14, ground := Ground.phase }, { on := 15, ground := Ground.phase }, { on := 16, ground := Ground.phase }, { on := 17, ground := Ground.phase }, { on := 18, ground := Ground.phase }, { on := 19, ground := Ground.phase }, { on := 20, ground := Ground.phase }, { on := 21, ground := Ground.phase }, { on := 22, ground := Ground.phase }, { on := 23, ground := Ground.phase }, { on := 24, ground := Ground.phase }, { on := 25, ground := Ground.phase }, { on := 26, ground := Ground.phase }, { on := 27, ground := Ground.phase }, { on := 28, ground := Ground.phase }], guard := none }) (v := ?vvt3230) rfl (by kernel_rfl) (by kernel_rfl) (by kernel_rfl) (fun _ _ _ h => h) (Or.inl ⟨by rfl, ?hyt3230⟩) A ?restt3230
            case hyt3230 => (intro w hSw; have c2 := hSw.mem.b2.cell; have c3 := hSw.mem.b3.cell;go_simp <;> with_reducible rfl)
            try simp only [Act.put, List.setIfInBounds_toArray, List.set_cons_zero, List.set_cons_succ]
            refine wpAnyH_done (by kernel_rfl) ?_ _
            all_goals
              have HB := Lib.hid A.bel
              go_wp2_with fail
              go_ret
              exact ⟨rfl, HB.out⟩
          · have h30i : ¬ (30 : Int) ≤ (l.length : Int) := by omega
            have HPx := Lib.hid (HPn.out rfl h30)
            have hkb := cnt_le l r.vni r.mac r.tm
            have hwk : IntKind.i64.wrap (cntR l r.vni r.mac r.tm + 1) = cntR l r.vni r.mac r.tm + 1 := by simp only [IntKind.wrap_i64]; omega
            have HL1 : Hid (decide ((30 : Int) ≤ (l.length : Int)) = false) := Lib.hid (decide_eq_false h30i)
            have HL2 : Hid (decide (30 ≤ l.length) = false) := Lib.hid (decide_eq_false h30)
            clear HPn
            go_upto_region 21 with fail
            replace A := A.drew
            refine wp_region_held_drew (S := fun W' => FwM w W' _ _) (by kernel_rfl) A (fun hHeld => ?_)
            clear hHeld
            refine wpAnyH_take (i := 0) (oi := { dst := some 148, op := Op.fieldAddr 32 (Operand.tmp 7) 1, type := 0, pos := "laws.go:519", after := #[], guard := none }) (v := ?vvt331) rfl (by kernel_rfl) (by kernel_rfl) (by kernel_rfl) (fun _ _ _ h => h) (Or.inl ⟨by rfl, ?hyt331⟩) A ?restt331
            case hyt331 => (intro w hSw; have c2 := hSw.mem.b2.cell; have c3 := hSw.mem.b3.cell;go_simp <;> with_reducible rfl)
            try simp only [Act.put, List.setIfInBounds_toArray, List.set_cons_zero, List.set_cons_succ]
            try simp only [HL1.out]
            try simp only [HL2.out]
            refine wpAnyH_take (i := 1) (oi := { dst := some 149, op := Op.load 2 (Operand.tmp 148), type := 2, pos := "laws.go:519", after := #[{ on := 0, ground := Ground.data }], guard := none }) (v := ?vvt332) rfl (by kernel_rfl) (by kernel_rfl) (by kernel_rfl) (fun _ _ _ h => h) (Or.inl ⟨by rfl, ?hyt332⟩) A ?restt332
            case hyt332 => (intro w hSw; have c2 := hSw.mem.b2.cell; have c3 := hSw.mem.b3.cell;go_simp <;> with_reducible rfl)
            try simp only [Act.put, List.setIfInBounds_toArray, List.set_cons_zero, List.set_cons_succ]
            try simp only [HL1.out]
            try simp only [HL2.out]
            refine wpAnyH_take (i := 2) (oi := { dst := some 150, op := Op.binOp BinOp.neq 2 (Operand.tmp 149) (Operand.const (Value.int IntKind.i64 0)) 2, type := 4, pos := "laws.go:519", after := #[{ on := 1, ground := Ground.data }], guard := none }) (v := ?vvt333) rfl (by kernel_rfl) (by kernel_rfl) (by kernel_rfl) (fun _ _ _ h => h) (Or.inl ⟨by rfl, ?hyt333⟩) A ?restt333
            case hyt333 => (intro w hSw; have c2 := hSw.mem.b2.cell; have c3 := hSw.mem.b3.cell;go_simp <;> with_reducible rfl)
            try simp only [Act.put, List.setIfInBounds_toArray, List.set_cons_zero, List.set_cons_succ]
            try simp only [HL1.out]
            try simp only [HL2.out]
            refine wpAnyH_take (i := 3) (oi := { dst := some 151, op := Op.move (Operand.tmp 150), type := 4, pos := "laws.go:519", after := #[{ on := 2, ground := Ground.data }], guard := none }) (v := ?vvt334) rfl (by kernel_rfl) (by kernel_rfl) (by kernel_rfl) (fun _ _ _ h => h) (Or.inl ⟨by rfl, ?hyt334⟩) A ?restt334
            case hyt334 => (intro w hSw; have c2 := hSw.mem.b2.cell; have c3 := hSw.mem.b3.cell;go_simp <;> with_reducible rfl)
            try simp only [Act.put, List.setIfInBounds_toArray, List.set_cons_zero, List.set_cons_succ]
            try simp only [HL1.out]
            try simp only [HL2.out]
            refine wpAnyH_take (i := 4) (oi := { dst := some 152, op := Op.move (Operand.tmp 5), type := 25, pos := "laws.go:519", after := #[{ on := 3, ground := Ground.guard }], guard := some (3, false) }) (v := ?vvt335) rfl (by kernel_rfl) (by kernel_rfl) (by kernel_rfl) (fun _ _ _ h => h) (Or.inl ⟨by rfl, ?hyt335⟩) A ?restt335
            case hyt335 => (intro w hSw; have c2 := hSw.mem.b2.cell; have c3 := hSw.mem.b3.cell;go_simp <;> with_reducible rfl)
            try simp only [Act.put, List.setIfInBounds_toArray, List.set_cons_zero, List.set_cons_succ]
            try simp only [HL1.out]
            try simp only [HL2.out]
            refine wpAnyH_take (i := 5) (oi := { dst := some 153, op := Op.call { callee := Callee.builtin Builtin.len, args := #[Operand.tmp 152], argTypes := #[25] }, type := 3, pos := "laws.go:519", after := #[{ on := 4, ground := Ground.data }, { on := 3, ground := Ground.guard }], guard := some (3, false) }) (v := ?vvt336) rfl (by kernel_rfl) (by kernel_rfl) (by kernel_rfl) (fun _ _ _ h => h) (Or.inl ⟨by rfl, ?hyt336⟩) A ?restt336
            case hyt336 => (intro w hSw; have c2 := hSw.mem.b2.cell; have c3 := hSw.mem.b3.cell;go_simp <;> with_reducible rfl)
            try simp only [Act.put, List.setIfInBounds_toArray, List.set_cons_zero, List.set_cons_succ]
            try simp only [HL1.out]
            try simp only [HL2.out]
            refine wpAnyH_take (i := 6) (oi := { dst := some 154, op := Op.binOp BinOp.geq 3 (Operand.tmp 153) (Operand.const (Value.int IntKind.i64 30)) 3, type := 4, pos := "laws.go:519", after := #[{ on := 5, ground := Ground.data }, { on := 3, ground := Ground.guard }], guard := some (3, false) }) (v := ?vvt337) rfl (by kernel_rfl) (by kernel_rfl) (by kernel_rfl) (fun _ _ _ h => h) (Or.inl ⟨by rfl, ?hyt337⟩) A ?restt337
            case hyt337 => (intro w hSw; have c2 := hSw.mem.b2.cell; have c3 := hSw.mem.b3.cell;go_simp <;> with_reducible rfl)
            try simp only [Act.put, List.setIfInBounds_toArray, List.set_cons_zero, List.set_cons_succ]
            try simp only [HL1.out]
            try simp only [HL2.out]
            refine wpAnyH_take (i := 7) (oi := { dst := some 155, op := Op.pick (Operand.tmp 151) (Operand.const (Value.bool true)) (Operand.tmp 154), type := 4, pos := "laws.go:519", after := #[{ on := 3, ground := Ground.data }, { on := 6, ground := Ground.data }], guard := none }) (v := ?vvt338) rfl (by kernel_rfl) (by kernel_rfl) (by kernel_rfl) (fun _ _ _ h => h) (Or.inl ⟨by rfl, ?hyt338⟩) A ?restt338
            case hyt338 => (intro w hSw; have c2 := hSw.mem.b2.cell; have c3 := hSw.mem.b3.cell;go_simp <;> with_reducible rfl)
            try simp only [Act.put, List.setIfInBounds_toArray, List.set_cons_zero, List.set_cons_succ]
            try simp only [HL1.out]
            try simp only [HL2.out]
            refine wpAnyH_take (i := 8) (oi := { dst := some 156, op := Op.move (Operand.tmp 155), type := 4, pos := "laws.go:519", after := #[{ on := 7, ground := Ground.data }, { on := 3, ground := Ground.chain }], guard := none }) (v := ?vvt339) rfl (by kernel_rfl) (by kernel_rfl) (by kernel_rfl) (fun _ _ _ h => h) (Or.inl ⟨by rfl, ?hyt339⟩) A ?restt339
            case hyt339 => (intro w hSw; have c2 := hSw.mem.b2.cell; have c3 := hSw.mem.b3.cell;go_simp <;> with_reducible rfl)
            try simp only [Act.put, List.setIfInBounds_toArray, List.set_cons_zero, List.set_cons_succ]
            try simp only [HL1.out]
            try simp only [HL2.out]
            refine wpAnyH_take (i := 9) (oi := { dst := some 157, op := Op.fieldAddr 32 (Operand.tmp 7) 0, type := 0, pos := "laws.go:519", after := #[{ on := 8, ground := Ground.guard }], guard := some (8, false) }) (v := ?vvt3310) rfl (by kernel_rfl) (by kernel_rfl) (by kernel_rfl) (fun _ _ _ h => h) (Or.inl ⟨by rfl, ?hyt3310⟩) A ?restt3310
            case hyt3310 => (intro w hSw; have c2 := hSw.mem.b2.cell; have c3 := hSw.mem.b3.cell;go_simp <;> with_reducible rfl)
            try simp only [Act.put, List.setIfInBounds_toArray, List.set_cons_zero, List.set_cons_succ]
            try simp only [HL1.out]
            try simp only [HL2.out]
            refine wpAnyH_take (i := 10) (oi := { dst := some 158, op := Op.load 25 (Operand.tmp 157), type := 25, pos := "laws.go:519", after := #[{ on := 9, ground := Ground.data }, { on := 8, ground := Ground.guard }], guard := some (8, false) }) (v := ?vvt3311) rfl (by kernel_rfl) (by kernel_rfl) (by kernel_rfl) (fun _ _ _ h => h) (Or.inl ⟨by rfl, ?hyt3311⟩) A ?restt3311
            case hyt3311 => (intro w hSw; have c2 := hSw.mem.b2.cell; have c3 := hSw.mem.b3.cell;go_simp <;> with_reducible rfl)
            try simp only [Act.put, List.setIfInBounds_toArray, List.set_cons_zero, List.set_cons_succ]
            try simp only [HL1.out]
            try simp only [HL2.out]
            refine wpAnyH_take (i := 11) (oi := { dst := some 159, op := Op.fieldAddr 34 (Operand.tmp 6) 0, type := 0, pos := "laws.go:519", after := #[{ on := 8, ground := Ground.guard }], guard := some (8, false) }) (v := ?vvt3312) rfl (by kernel_rfl) (by kernel_rfl) (by kernel_rfl) (fun _ _ _ h => h) (Or.inl ⟨by rfl, ?hyt3312⟩) A ?restt3312
            case hyt3312 => (intro w hSw; have c2 := hSw.mem.b2.cell; have c3 := hSw.mem.b3.cell;go_simp <;> with_reducible rfl)
            try simp only [Act.put, List.setIfInBounds_toArray, List.set_cons_zero, List.set_cons_succ]
            try simp only [HL1.out]
            try simp only [HL2.out]
            refine wpAnyH_take (i := 12) (oi := { dst := some 160, op := Op.load 2 (Operand.tmp 159), type := 2, pos := "laws.go:519", after := #[{ on := 11, ground := Ground.data }, { on := 8, ground := Ground.guard }], guard := some (8, false) }) (v := ?vvt3313) rfl (by kernel_rfl) (by kernel_rfl) (by kernel_rfl) (fun _ _ _ h => h) (Or.inl ⟨by rfl, ?hyt3313⟩) A ?restt3313
            case hyt3313 => (intro w hSw; have c2 := hSw.mem.b2.cell; have c3 := hSw.mem.b3.cell;go_simp <;> with_reducible rfl)
            try simp only [Act.put, List.setIfInBounds_toArray, List.set_cons_zero, List.set_cons_succ]
            try simp only [HL1.out]
            try simp only [HL2.out]
            refine wpAnyH_take (i := 13) (oi := { dst := some 161, op := Op.fieldAddr 34 (Operand.tmp 6) 1, type := 0, pos := "laws.go:519", after := #[{ on := 8, ground := Ground.guard }], guard := some (8, false) }) (v := ?vvt3314) rfl (by kernel_rfl) (by kernel_rfl) (by kernel_rfl) (fun _ _ _ h => h) (Or.inl ⟨by rfl, ?hyt3314⟩) A ?restt3314
            case hyt3314 => (intro w hSw; have c2 := hSw.mem.b2.cell; have c3 := hSw.mem.b3.cell;go_simp <;> with_reducible rfl)
            try simp only [Act.put, List.setIfInBounds_toArray, List.set_cons_zero, List.set_cons_succ]
            try simp only [HL1.out]
            try simp only [HL2.out]
            refine wpAnyH_take (i := 14) (oi := { dst := some 162, op := Op.load 2 (Operand.tmp 161), type := 2, pos := "laws.go:519", after := #[{ on := 13, ground := Ground.data }, { on := 8, ground := Ground.guard }], guard := some (8, false) }) (v := ?vvt3315) rfl (by kernel_rfl) (by kernel_rfl) (by kernel_rfl) (fun _ _ _ h => h) (Or.inl ⟨by rfl, ?hyt3315⟩) A ?restt3315
            case hyt3315 => (intro w hSw; have c2 := hSw.mem.b2.cell; have c3 := hSw.mem.b3.cell;go_simp <;> with_reducible rfl)
            try simp only [Act.put, List.setIfInBounds_toArray, List.set_cons_zero, List.set_cons_succ]
            try simp only [HL1.out]
            try simp only [HL2.out]
            refine wpAnyH_take (i := 15) (oi := { dst := some 163, op := Op.fieldAddr 34 (Operand.tmp 6) 2, type := 0, pos := "laws.go:519", after := #[{ on := 8, ground := Ground.guard }], guard := some (8, false) }) (v := ?vvt3316) rfl (by kernel_rfl) (by kernel_rfl) (by kernel_rfl) (fun _ _ _ h => h) (Or.inl ⟨by rfl, ?hyt3316⟩) A ?restt3316
            case hyt3316 => (intro w hSw; have c2 := hSw.mem.b2.cell; have c3 := hSw.mem.b3.cell;go_simp <;> with_reducible rfl)
            try simp only [Act.put, List.setIfInBounds_toArray, List.set_cons_zero, List.set_cons_succ]
            try simp only [HL1.out]
            try simp only [HL2.out]
            refine wpAnyH_take (i := 16) (oi := { dst := some 164, op := Op.load 2 (Operand.tmp 163), type := 2, pos := "laws.go:519", after := #[{ on := 15, ground := Ground.data }, { on := 8, ground := Ground.guard }], guard := some (8, false) }) (v := ?vvt3317) rfl (by kernel_rfl) (by kernel_rfl) (by kernel_rfl) (fun _ _ _ h => h) (Or.inl ⟨by rfl, ?hyt3317⟩) A ?restt3317
            case hyt3317 => (intro w hSw; have c2 := hSw.mem.b2.cell; have c3 := hSw.mem.b3.cell;go_simp <;> with_reducible rfl)
            try simp only [Act.put, List.setIfInBounds_toArray, List.set_cons_zero, List.set_cons_succ]
            try simp only [HL1.out]
            try simp only [HL2.out]
            refine wpAnyH_take (i := 18) (oi := { dst := some 166, op := Op.move (Operand.tmp 5), type := 25, pos := "laws.go:519", after := #[{ on := 8, ground := Ground.guard }], guard := some (8, false) }) (v := ?vvt3318) rfl (by kernel_rfl) (by kernel_rfl) (by kernel_rfl) (fun _ _ _ h => h) (Or.inl ⟨by rfl, ?hyt3318⟩) A ?restt3318
            case hyt3318 => (intro w hSw; have c2 := hSw.mem.b2.cell; have c3 := hSw.mem.b3.cell;go_simp <;> with_reducible rfl)
            try simp only [Act.put, List.setIfInBounds_toArray, List.set_cons_zero, List.set_cons_succ]
            try simp only [HL1.out]
            try simp only [HL2.out]
            refine wpAnyH_take (i := 19) (oi := { dst := some 167, op := Op.fieldAddr 34 (Operand.tmp 6) 0, type := 0, pos := "laws.go:519", after := #[{ on := 8, ground := Ground.guard }], guard := some (8, false) }) (v := ?vvt3319) rfl (by kernel_rfl) (by kernel_rfl) (by kernel_rfl) (fun _ _ _ h => h) (Or.inl ⟨by rfl, ?hyt3319⟩) A ?restt3319
            case hyt3319 => (intro w hSw; have c2 := hSw.mem.b2.cell; have c3 := hSw.mem.b3.cell;go_simp <;> with_reducible rfl)
            try simp only [Act.put, List.setIfInBounds_toArray, List.set_cons_zero, List.set_cons_succ]
            try simp only [HL1.out]
            try simp only [HL2.out]
            refine wpAnyH_take (i := 20) (oi := { dst := some 168, op := Op.load 2 (Operand.tmp 167), type := 2, pos := "laws.go:519", after := #[{ on := 19, ground := Ground.data }, { on := 8, ground := Ground.guard }], guard := some (8, false) }) (v := ?vvt3320) rfl (by kernel_rfl) (by kernel_rfl) (by kernel_rfl) (fun _ _ _ h => h) (Or.inl ⟨by rfl, ?hyt3320⟩) A ?restt3320
            case hyt3320 => (intro w hSw; have c2 := hSw.mem.b2.cell; have c3 := hSw.mem.b3.cell;go_simp <;> with_reducible rfl)
            try simp only [Act.put, List.setIfInBounds_toArray, List.set_cons_zero, List.set_cons_succ]
            try simp only [HL1.out]
            try simp only [HL2.out]
            refine wpAnyH_take (i := 21) (oi := { dst := some 169, op := Op.fieldAddr 34 (Operand.tmp 6) 1, type := 0, pos := "laws.go:519", after := #[{ on := 8, ground := Ground.guard }], guard := some (8, false) }) (v := ?vvt3321) rfl (by kernel_rfl) (by kernel_rfl) (by kernel_rfl) (fun _ _ _ h => h) (Or.inl ⟨by rfl, ?hyt3321⟩) A ?restt3321
            case hyt3321 => (intro w hSw; have c2 := hSw.mem.b2.cell; have c3 := hSw.mem.b3.cell;go_simp <;> with_reducible rfl)
            try simp only [Act.put, List.setIfInBounds_toArray, List.set_cons_zero, List.set_cons_succ]
            try simp only [HL1.out]
            try simp only [HL2.out]
            refine wpAnyH_take (i := 22) (oi := { dst := some 170, op := Op.load 2 (Operand.tmp 169), type := 2, pos := "laws.go:519", after := #[{ on := 21, ground := Ground.data }, { on := 8, ground := Ground.guard }], guard := some (8, false) }) (v := ?vvt3322) rfl (by kernel_rfl) (by kernel_rfl) (by kernel_rfl) (fun _ _ _ h => h) (Or.inl ⟨by rfl, ?hyt3322⟩) A ?restt3322
            case hyt3322 => (intro w hSw; have c2 := hSw.mem.b2.cell; have c3 := hSw.mem.b3.cell;go_simp <;> with_reducible rfl)
            try simp only [Act.put, List.setIfInBounds_toArray, List.set_cons_zero, List.set_cons_succ]
            try simp only [HL1.out]
            try simp only [HL2.out]
            refine wpAnyH_take (i := 23) (oi := { dst := some 171, op := Op.fieldAddr 34 (Operand.tmp 6) 2, type := 0, pos := "laws.go:519", after := #[{ on := 8, ground := Ground.guard }], guard := some (8, false) }) (v := ?vvt3323) rfl (by kernel_rfl) (by kernel_rfl) (by kernel_rfl) (fun _ _ _ h => h) (Or.inl ⟨by rfl, ?hyt3323⟩) A ?restt3323
            case hyt3323 => (intro w hSw; have c2 := hSw.mem.b2.cell; have c3 := hSw.mem.b3.cell;go_simp <;> with_reducible rfl)
            try simp only [Act.put, List.setIfInBounds_toArray, List.set_cons_zero, List.set_cons_succ]
            try simp only [HL1.out]
            try simp only [HL2.out]
            refine wpAnyH_take (i := 24) (oi := { dst := some 172, op := Op.load 2 (Operand.tmp 171), type := 2, pos := "laws.go:519", after := #[{ on := 23, ground := Ground.data }, { on := 8, ground := Ground.guard }], guard := some (8, false) }) (v := ?vvt3324) rfl (by kernel_rfl) (by kernel_rfl) (by kernel_rfl) (fun _ _ _ h => h) (Or.inl ⟨by rfl, ?hyt3324⟩) A ?restt3324
            case hyt3324 => (intro w hSw; have c2 := hSw.mem.b2.cell; have c3 := hSw.mem.b3.cell;go_simp <;> with_reducible rfl)
            try simp only [Act.put, List.setIfInBounds_toArray, List.set_cons_zero, List.set_cons_succ]
            try simp only [HL1.out]
            try simp only [HL2.out]
            refine wpAnyH_ready (rs := [17]) (by kernel_rfl) (by simp) ?_
            refine AllReadyH.cons (o := { dst := some 165, op := Op.call { callee := Callee.value (Operand.func 28), args := #[Operand.tmp 158, Operand.tmp 160, Operand.tmp 162, Operand.tmp 164], argTypes := #[25, 2, 2, 2] }, type := 2, pos := "laws.go:519", after := #[{ on := 10, ground := Ground.data }, { on := 12, ground := Ground.data }, { on := 14, ground := Ground.data }, { on := 16, ground := Ground.data }, { on := 8, ground := Ground.chain }, { on := 8, ground := Ground.guard }], guard := some (8, false) }) rfl (fun K hK => ?_) AllReadyH.nil
            go_simp
            refine (HIc.out XM _ r.vni r.mac r.tm _ (A.sls _ mem5) (by omega)).mono ?_
            rintro e u1 ⟨rfl, hb⟩
            rw [HPx.out]
            replace A := A.kept hb
            clear hb
            refine hK.out _ _ A (fun hHeld => ?_)
            clear hK K hHeld
            try simp only [Act.put, List.setIfInBounds_toArray, List.set_cons_zero, List.set_cons_succ]
            try simp only [HL1.out]
            try simp only [HL2.out]
            refine wpAnyH_ready (rs := [25]) (by kernel_rfl) (by simp) ?_
            refine AllReadyH.cons (o := { dst := some 173, op := Op.call { callee := Callee.value (Operand.func 27), args := #[Operand.tmp 166, Operand.tmp 168, Operand.tmp 170, Operand.tmp 172], argTypes := #[25, 2, 2, 2] }, type := 2, pos := "laws.go:519", after := #[{ on := 18, ground := Ground.data }, { on := 20, ground := Ground.data }, { on := 22, ground := Ground.data }, { on := 24, ground := Ground.data }, { on := 17, ground := Ground.chain }, { on := 8, ground := Ground.guard }], guard := some (8, false) }) rfl (fun K hK => ?_) AllReadyH.nil
            go_simp
            refine (HSc.out l _ r.vni r.mac r.tm _ (A.sls _ mem6) (by omega)).mono ?_
            rintro e u2 ⟨rfl, hb⟩
            replace A := A.kept hb
            clear hb
            refine hK.out _ _ A (fun hHeld => ?_)
            clear hK K hHeld
            try simp only [Act.put, List.setIfInBounds_toArray, List.set_cons_zero, List.set_cons_succ]
            try simp only [HL1.out]
            try simp only [HL2.out]
            refine wpAnyH_take (i := 26) (oi := { dst := some 174, op := Op.binOp BinOp.add 2 (Operand.tmp 173) (Operand.const (Value.int IntKind.i64 1)) 2, type := 2, pos := "laws.go:519", after := #[{ on := 25, ground := Ground.data }, { on := 8, ground := Ground.guard }], guard := some (8, false) }) (v := ?vvt3325) rfl (by kernel_rfl) (by kernel_rfl) (by kernel_rfl) (fun _ _ _ h => h) (Or.inl ⟨by rfl, ?hyt3325⟩) A ?restt3325
            case hyt3325 => (intro w hSw; have c2 := hSw.mem.b2.cell; have c3 := hSw.mem.b3.cell;go_simp <;> with_reducible rfl)
            try simp only [Act.put, List.setIfInBounds_toArray, List.set_cons_zero, List.set_cons_succ]
            try simp only [HL1.out]
            try simp only [HL2.out]
            refine wpAnyH_take (i := 27) (oi := { dst := some 175, op := Op.binOp BinOp.eql 2 (Operand.tmp 165) (Operand.tmp 174) 2, type := 4, pos := "laws.go:519", after := #[{ on := 17, ground := Ground.data }, { on := 26, ground := Ground.data }, { on := 8, ground := Ground.guard }], guard := some (8, false) }) (v := ?vvt3326) rfl (by kernel_rfl) (by kernel_rfl) (by kernel_rfl) (fun _ _ _ h => h) (Or.inl ⟨by rfl, ?hyt3326⟩) A ?restt3326
            case hyt3326 => (intro w hSw; have c2 := hSw.mem.b2.cell; have c3 := hSw.mem.b3.cell;go_simp <;> with_reducible rfl)
            try simp only [Act.put, List.setIfInBounds_toArray, List.set_cons_zero, List.set_cons_succ]
            try simp only [HL1.out]
            try simp only [HL2.out]
            refine wpAnyH_take (i := 28) (oi := { dst := some 176, op := Op.pick (Operand.tmp 156) (Operand.const (Value.bool true)) (Operand.tmp 175), type := 4, pos := "laws.go:519", after := #[{ on := 8, ground := Ground.data }, { on := 27, ground := Ground.data }], guard := none }) (v := ?vvt3327) rfl (by kernel_rfl) (by kernel_rfl) (by kernel_rfl) (fun _ _ _ h => h) (Or.inl ⟨by rfl, ?hyt3327⟩) A ?restt3327
            case hyt3327 => (intro w hSw; have c2 := hSw.mem.b2.cell; have c3 := hSw.mem.b3.cell;go_simp <;> with_reducible rfl)
            try simp only [Act.put, List.setIfInBounds_toArray, List.set_cons_zero, List.set_cons_succ]
            try simp only [HL1.out]
            try simp only [HL2.out]
            refine wpAnyH_take (i := 29) (oi := { dst := some 4, op := Op.assign (Operand.tmp 176), type := 4, pos := "laws.go:519", after := #[{ on := 28, ground := Ground.data }, { on := 25, ground := Ground.chain }, { on := 0, ground := Ground.phase }, { on := 1, ground := Ground.phase }, { on := 2, ground := Ground.phase }, { on := 3, ground := Ground.phase }, { on := 4, ground := Ground.phase }, { on := 5, ground := Ground.phase }, { on := 6, ground := Ground.phase }, { on := 7, ground := Ground.phase }, { on := 8, ground := Ground.phase }, { on := 9, ground := Ground.phase }, { on := 10, ground := Ground.phase }, { on := 11, ground := Ground.phase }, { on := 12, ground := Ground.phase }, { on := 13, ground := Ground.phase }, { on := 14, ground := Ground.phase }, { on := 15, ground := Ground.phase }, { on := 16, ground := Ground.phase }, { on := 17, ground := Ground.phase }, { on := 18, ground := Ground.phase }, { on := 19, ground := Ground.phase }, { on := 20, ground := Ground.phase }, { on := 21, ground := Ground.phase }, { on := 22, ground := Ground.phase }, { on := 23, ground := Ground.phase }, { on := 24, ground := Ground.phase }, { on := 25, ground := Ground.phase }, { on := 26, ground := Ground.phase }, { on := 27, ground := Ground.phase }, { on := 28, ground := Ground.phase }], guard := none }) (v := ?vvt3328) rfl (by kernel_rfl) (by kernel_rfl) (by kernel_rfl) (fun _ _ _ h => h) (Or.inl ⟨by rfl, ?hyt3328⟩) A ?restt3328
            case hyt3328 => (intro w hSw; have c2 := hSw.mem.b2.cell; have c3 := hSw.mem.b3.cell;go_simp <;> with_reducible rfl)
            try simp only [Act.put, List.setIfInBounds_toArray, List.set_cons_zero, List.set_cons_succ]
            try simp only [HL1.out]
            try simp only [HL2.out]
            refine wpAnyH_done (by kernel_rfl) ?_ _
            all_goals
              have HB := Lib.hid A.bel
              go_wp2_with fail
              go_ret
              exact ⟨rfl, HB.out⟩
        · clear HPn
          have HX1 : Hid (decide (xk = 0) = false) := Lib.hid (decide_eq_false hx0)
          have HX2 : Hid ((xk == 0) = false) := Lib.hid (by simpa using hx0)
          have HX3 : Hid ((xk != 0) = true) := Lib.hid (by simpa using hx0)
          have HX4 : Hid (Bool.not false = true) := Lib.hid rfl
          go_upto_region 21 with fail
          replace A := A.drew
          refine wp_region_held_drew (S := fun W' => FwM w W' _ _) (by kernel_rfl) A (fun hHeld => ?_)
          clear hHeld
          refine wpAnyH_take (i := 0) (oi := { dst := some 148, op := Op.fieldAddr 32 (Operand.tmp 7) 1, type := 0, pos := "laws.go:519", after := #[], guard := none }) (v := ?vvt311) rfl (by kernel_rfl) (by kernel_rfl) (by kernel_rfl) (fun _ _ _ h => h) (Or.inl ⟨by rfl, ?hyt311⟩) A ?restt311
          case hyt311 => (intro w hSw; have c2 := hSw.mem.b2.cell; have c3 := hSw.mem.b3.cell;go_simp <;> with_reducible rfl)
          try simp only [Act.put, List.setIfInBounds_toArray, List.set_cons_zero, List.set_cons_succ]
          try simp only [HX1.out]
          try simp only [HX2.out]
          try simp only [HX3.out]
          try simp only [HX4.out]
          refine wpAnyH_take (i := 1) (oi := { dst := some 149, op := Op.load 2 (Operand.tmp 148), type := 2, pos := "laws.go:519", after := #[{ on := 0, ground := Ground.data }], guard := none }) (v := ?vvt312) rfl (by kernel_rfl) (by kernel_rfl) (by kernel_rfl) (fun _ _ _ h => h) (Or.inl ⟨by rfl, ?hyt312⟩) A ?restt312
          case hyt312 => (intro w hSw; have c2 := hSw.mem.b2.cell; have c3 := hSw.mem.b3.cell;go_simp <;> with_reducible rfl)
          try simp only [Act.put, List.setIfInBounds_toArray, List.set_cons_zero, List.set_cons_succ]
          try simp only [HX1.out]
          try simp only [HX2.out]
          try simp only [HX3.out]
          try simp only [HX4.out]
          refine wpAnyH_take (i := 2) (oi := { dst := some 150, op := Op.binOp BinOp.neq 2 (Operand.tmp 149) (Operand.const (Value.int IntKind.i64 0)) 2, type := 4, pos := "laws.go:519", after := #[{ on := 1, ground := Ground.data }], guard := none }) (v := ?vvt313) rfl (by kernel_rfl) (by kernel_rfl) (by kernel_rfl) (fun _ _ _ h => h) (Or.inl ⟨by rfl, ?hyt313⟩) A ?restt313
          case hyt313 => (intro w hSw; have c2 := hSw.mem.b2.cell; have c3 := hSw.mem.b3.cell;go_simp <;> with_reducible rfl)
          try simp only [Act.put, List.setIfInBounds_toArray, List.set_cons_zero, List.set_cons_succ]
          try simp only [HX1.out]
          try simp only [HX2.out]
          try simp only [HX3.out]
          try simp only [HX4.out]
          refine wpAnyH_take (i := 3) (oi := { dst := some 151, op := Op.move (Operand.tmp 150), type := 4, pos := "laws.go:519", after := #[{ on := 2, ground := Ground.data }], guard := none }) (v := ?vvt314) rfl (by kernel_rfl) (by kernel_rfl) (by kernel_rfl) (fun _ _ _ h => h) (Or.inl ⟨by rfl, ?hyt314⟩) A ?restt314
          case hyt314 => (intro w hSw; have c2 := hSw.mem.b2.cell; have c3 := hSw.mem.b3.cell;go_simp <;> with_reducible rfl)
          try simp only [Act.put, List.setIfInBounds_toArray, List.set_cons_zero, List.set_cons_succ]
          try simp only [HX1.out]
          try simp only [HX2.out]
          try simp only [HX3.out]
          try simp only [HX4.out]
          refine wpAnyH_take (i := 4) (oi := { dst := some 152, op := Op.move (Operand.tmp 5), type := 25, pos := "laws.go:519", after := #[{ on := 3, ground := Ground.guard }], guard := some (3, false) }) (v := undef) rfl (by kernel_rfl) (by kernel_rfl) (by kernel_rfl) (fun _ _ _ h => h) (Or.inr ⟨by rfl, rfl⟩) A ?_
          try simp only [Act.put, List.setIfInBounds_toArray, List.set_cons_zero, List.set_cons_succ]
          try simp only [HX1.out]
          try simp only [HX2.out]
          try simp only [HX3.out]
          try simp only [HX4.out]
          refine wpAnyH_take (i := 5) (oi := { dst := some 153, op := Op.call { callee := Callee.builtin Builtin.len, args := #[Operand.tmp 152], argTypes := #[25] }, type := 3, pos := "laws.go:519", after := #[{ on := 4, ground := Ground.data }, { on := 3, ground := Ground.guard }], guard := some (3, false) }) (v := undef) rfl (by kernel_rfl) (by kernel_rfl) (by kernel_rfl) (fun _ _ _ h => h) (Or.inr ⟨by rfl, rfl⟩) A ?_
          try simp only [Act.put, List.setIfInBounds_toArray, List.set_cons_zero, List.set_cons_succ]
          try simp only [HX1.out]
          try simp only [HX2.out]
          try simp only [HX3.out]
          try simp only [HX4.out]
          refine wpAnyH_take (i := 6) (oi := { dst := some 154, op := Op.binOp BinOp.geq 3 (Operand.tmp 153) (Operand.const (Value.int IntKind.i64 30)) 3, type := 4, pos := "laws.go:519", after := #[{ on := 5, ground := Ground.data }, { on := 3, ground := Ground.guard }], guard := some (3, false) }) (v := undef) rfl (by kernel_rfl) (by kernel_rfl) (by kernel_rfl) (fun _ _ _ h => h) (Or.inr ⟨by rfl, rfl⟩) A ?_
          try simp only [Act.put, List.setIfInBounds_toArray, List.set_cons_zero, List.set_cons_succ]
          try simp only [HX1.out]
          try simp only [HX2.out]
          try simp only [HX3.out]
          try simp only [HX4.out]
          refine wpAnyH_take (i := 7) (oi := { dst := some 155, op := Op.pick (Operand.tmp 151) (Operand.const (Value.bool true)) (Operand.tmp 154), type := 4, pos := "laws.go:519", after := #[{ on := 3, ground := Ground.data }, { on := 6, ground := Ground.data }], guard := none }) (v := ?vvt318) rfl (by kernel_rfl) (by kernel_rfl) (by kernel_rfl) (fun _ _ _ h => h) (Or.inl ⟨by rfl, ?hyt318⟩) A ?restt318
          case hyt318 => (intro w hSw; have c2 := hSw.mem.b2.cell; have c3 := hSw.mem.b3.cell;go_simp <;> with_reducible rfl)
          try simp only [Act.put, List.setIfInBounds_toArray, List.set_cons_zero, List.set_cons_succ]
          try simp only [HX1.out]
          try simp only [HX2.out]
          try simp only [HX3.out]
          try simp only [HX4.out]
          refine wpAnyH_take (i := 8) (oi := { dst := some 156, op := Op.move (Operand.tmp 155), type := 4, pos := "laws.go:519", after := #[{ on := 7, ground := Ground.data }, { on := 3, ground := Ground.chain }], guard := none }) (v := ?vvt319) rfl (by kernel_rfl) (by kernel_rfl) (by kernel_rfl) (fun _ _ _ h => h) (Or.inl ⟨by rfl, ?hyt319⟩) A ?restt319
          case hyt319 => (intro w hSw; have c2 := hSw.mem.b2.cell; have c3 := hSw.mem.b3.cell;go_simp <;> with_reducible rfl)
          try simp only [Act.put, List.setIfInBounds_toArray, List.set_cons_zero, List.set_cons_succ]
          try simp only [HX1.out]
          try simp only [HX2.out]
          try simp only [HX3.out]
          try simp only [HX4.out]
          refine wpAnyH_take (i := 9) (oi := { dst := some 157, op := Op.fieldAddr 32 (Operand.tmp 7) 0, type := 0, pos := "laws.go:519", after := #[{ on := 8, ground := Ground.guard }], guard := some (8, false) }) (v := undef) rfl (by kernel_rfl) (by kernel_rfl) (by kernel_rfl) (fun _ _ _ h => h) (Or.inr ⟨by rfl, rfl⟩) A ?_
          try simp only [Act.put, List.setIfInBounds_toArray, List.set_cons_zero, List.set_cons_succ]
          try simp only [HX1.out]
          try simp only [HX2.out]
          try simp only [HX3.out]
          try simp only [HX4.out]
          refine wpAnyH_take (i := 10) (oi := { dst := some 158, op := Op.load 25 (Operand.tmp 157), type := 25, pos := "laws.go:519", after := #[{ on := 9, ground := Ground.data }, { on := 8, ground := Ground.guard }], guard := some (8, false) }) (v := undef) rfl (by kernel_rfl) (by kernel_rfl) (by kernel_rfl) (fun _ _ _ h => h) (Or.inr ⟨by rfl, rfl⟩) A ?_
          try simp only [Act.put, List.setIfInBounds_toArray, List.set_cons_zero, List.set_cons_succ]
          try simp only [HX1.out]
          try simp only [HX2.out]
          try simp only [HX3.out]
          try simp only [HX4.out]
          refine wpAnyH_take (i := 11) (oi := { dst := some 159, op := Op.fieldAddr 34 (Operand.tmp 6) 0, type := 0, pos := "laws.go:519", after := #[{ on := 8, ground := Ground.guard }], guard := some (8, false) }) (v := undef) rfl (by kernel_rfl) (by kernel_rfl) (by kernel_rfl) (fun _ _ _ h => h) (Or.inr ⟨by rfl, rfl⟩) A ?_
          try simp only [Act.put, List.setIfInBounds_toArray, List.set_cons_zero, List.set_cons_succ]
          try simp only [HX1.out]
          try simp only [HX2.out]
          try simp only [HX3.out]
          try simp only [HX4.out]
          refine wpAnyH_take (i := 12) (oi := { dst := some 160, op := Op.load 2 (Operand.tmp 159), type := 2, pos := "laws.go:519", after := #[{ on := 11, ground := Ground.data }, { on := 8, ground := Ground.guard }], guard := some (8, false) }) (v := undef) rfl (by kernel_rfl) (by kernel_rfl) (by kernel_rfl) (fun _ _ _ h => h) (Or.inr ⟨by rfl, rfl⟩) A ?_
          try simp only [Act.put, List.setIfInBounds_toArray, List.set_cons_zero, List.set_cons_succ]
          try simp only [HX1.out]
          try simp only [HX2.out]
          try simp only [HX3.out]
          try simp only [HX4.out]
          refine wpAnyH_take (i := 13) (oi := { dst := some 161, op := Op.fieldAddr 34 (Operand.tmp 6) 1, type := 0, pos := "laws.go:519", after := #[{ on := 8, ground := Ground.guard }], guard := some (8, false) }) (v := undef) rfl (by kernel_rfl) (by kernel_rfl) (by kernel_rfl) (fun _ _ _ h => h) (Or.inr ⟨by rfl, rfl⟩) A ?_
          try simp only [Act.put, List.setIfInBounds_toArray, List.set_cons_zero, List.set_cons_succ]
          try simp only [HX1.out]
          try simp only [HX2.out]
          try simp only [HX3.out]
          try simp only [HX4.out]
          refine wpAnyH_take (i := 14) (oi := { dst := some 162, op := Op.load 2 (Operand.tmp 161), type := 2, pos := "laws.go:519", after := #[{ on := 13, ground := Ground.data }, { on := 8, ground := Ground.guard }], guard := some (8, false) }) (v := undef) rfl (by kernel_rfl) (by kernel_rfl) (by kernel_rfl) (fun _ _ _ h => h) (Or.inr ⟨by rfl, rfl⟩) A ?_
          try simp only [Act.put, List.setIfInBounds_toArray, List.set_cons_zero, List.set_cons_succ]
          try simp only [HX1.out]
          try simp only [HX2.out]
          try simp only [HX3.out]
          try simp only [HX4.out]
          refine wpAnyH_take (i := 15) (oi := { dst := some 163, op := Op.fieldAddr 34 (Operand.tmp 6) 2, type := 0, pos := "laws.go:519", after := #[{ on := 8, ground := Ground.guard }], guard := some (8, false) }) (v := undef) rfl (by kernel_rfl) (by kernel_rfl) (by kernel_rfl) (fun _ _ _ h => h) (Or.inr ⟨by rfl, rfl⟩) A ?_
          try simp only [Act.put, List.setIfInBounds_toArray, List.set_cons_zero, List.set_cons_succ]
          try simp only [HX1.out]
          try simp only [HX2.out]
          try simp only [HX3.out]
          try simp only [HX4.out]
          refine wpAnyH_take (i := 16) (oi := { dst := some 164, op := Op.load 2 (Operand.tmp 163), type := 2, pos := "laws.go:519", after := #[{ on := 15, ground := Ground.data }, { on := 8, ground := Ground.guard }], guard := some (8, false) }) (v := undef) rfl (by kernel_rfl) (by kernel_rfl) (by kernel_rfl) (fun _ _ _ h => h) (Or.inr ⟨by rfl, rfl⟩) A ?_
          try simp only [Act.put, List.setIfInBounds_toArray, List.set_cons_zero, List.set_cons_succ]
          try simp only [HX1.out]
          try simp only [HX2.out]
          try simp only [HX3.out]
          try simp only [HX4.out]
          refine wpAnyH_take (i := 17) (oi := { dst := some 165, op := Op.call { callee := Callee.value (Operand.func 28), args := #[Operand.tmp 158, Operand.tmp 160, Operand.tmp 162, Operand.tmp 164], argTypes := #[25, 2, 2, 2] }, type := 2, pos := "laws.go:519", after := #[{ on := 10, ground := Ground.data }, { on := 12, ground := Ground.data }, { on := 14, ground := Ground.data }, { on := 16, ground := Ground.data }, { on := 8, ground := Ground.chain }, { on := 8, ground := Ground.guard }], guard := some (8, false) }) (v := undef) rfl (by kernel_rfl) (by kernel_rfl) (by kernel_rfl) (fun _ _ _ h => h) (Or.inr ⟨by rfl, rfl⟩) A ?_
          try simp only [Act.put, List.setIfInBounds_toArray, List.set_cons_zero, List.set_cons_succ]
          try simp only [HX1.out]
          try simp only [HX2.out]
          try simp only [HX3.out]
          try simp only [HX4.out]
          refine wpAnyH_take (i := 18) (oi := { dst := some 166, op := Op.move (Operand.tmp 5), type := 25, pos := "laws.go:519", after := #[{ on := 8, ground := Ground.guard }], guard := some (8, false) }) (v := undef) rfl (by kernel_rfl) (by kernel_rfl) (by kernel_rfl) (fun _ _ _ h => h) (Or.inr ⟨by rfl, rfl⟩) A ?_
          try simp only [Act.put, List.setIfInBounds_toArray, List.set_cons_zero, List.set_cons_succ]
          try simp only [HX1.out]
          try simp only [HX2.out]
          try simp only [HX3.out]
          try simp only [HX4.out]
          refine wpAnyH_take (i := 19) (oi := { dst := some 167, op := Op.fieldAddr 34 (Operand.tmp 6) 0, type := 0, pos := "laws.go:519", after := #[{ on := 8, ground := Ground.guard }], guard := some (8, false) }) (v := undef) rfl (by kernel_rfl) (by kernel_rfl) (by kernel_rfl) (fun _ _ _ h => h) (Or.inr ⟨by rfl, rfl⟩) A ?_
          try simp only [Act.put, List.setIfInBounds_toArray, List.set_cons_zero, List.set_cons_succ]
          try simp only [HX1.out]
          try simp only [HX2.out]
          try simp only [HX3.out]
          try simp only [HX4.out]
          refine wpAnyH_take (i := 20) (oi := { dst := some 168, op := Op.load 2 (Operand.tmp 167), type := 2, pos := "laws.go:519", after := #[{ on := 19, ground := Ground.data }, { on := 8, ground := Ground.guard }], guard := some (8, false) }) (v := undef) rfl (by kernel_rfl) (by kernel_rfl) (by kernel_rfl) (fun _ _ _ h => h) (Or.inr ⟨by rfl, rfl⟩) A ?_
          try simp only [Act.put, List.setIfInBounds_toArray, List.set_cons_zero, List.set_cons_succ]
          try simp only [HX1.out]
          try simp only [HX2.out]
          try simp only [HX3.out]
          try simp only [HX4.out]
          refine wpAnyH_take (i := 21) (oi := { dst := some 169, op := Op.fieldAddr 34 (Operand.tmp 6) 1, type := 0, pos := "laws.go:519", after := #[{ on := 8, ground := Ground.guard }], guard := some (8, false) }) (v := undef) rfl (by kernel_rfl) (by kernel_rfl) (by kernel_rfl) (fun _ _ _ h => h) (Or.inr ⟨by rfl, rfl⟩) A ?_
          try simp only [Act.put, List.setIfInBounds_toArray, List.set_cons_zero, List.set_cons_succ]
          try simp only [HX1.out]
          try simp only [HX2.out]
          try simp only [HX3.out]
          try simp only [HX4.out]
          refine wpAnyH_take (i := 22) (oi := { dst := some 170, op := Op.load 2 (Operand.tmp 169), type := 2, pos := "laws.go:519", after := #[{ on := 21, ground := Ground.data }, { on := 8, ground := Ground.guard }], guard := some (8, false) }) (v := undef) rfl (by kernel_rfl) (by kernel_rfl) (by kernel_rfl) (fun _ _ _ h => h) (Or.inr ⟨by rfl, rfl⟩) A ?_
          try simp only [Act.put, List.setIfInBounds_toArray, List.set_cons_zero, List.set_cons_succ]
          try simp only [HX1.out]
          try simp only [HX2.out]
          try simp only [HX3.out]
          try simp only [HX4.out]
          refine wpAnyH_take (i := 23) (oi := { dst := some 171, op := Op.fieldAddr 34 (Operand.tmp 6) 2, type := 0, pos := "laws.go:519", after := #[{ on := 8, ground := Ground.guard }], guard := some (8, false) }) (v := undef) rfl (by kernel_rfl) (by kernel_rfl) (by kernel_rfl) (fun _ _ _ h => h) (Or.inr ⟨by rfl, rfl⟩) A ?_
          try simp only [Act.put, List.setIfInBounds_toArray, List.set_cons_zero, List.set_cons_succ]
          try simp only [HX1.out]
          try simp only [HX2.out]
          try simp only [HX3.out]
          try simp only [HX4.out]
          refine wpAnyH_take (i := 24) (oi := { dst := some 172, op := Op.load 2 (Operand.tmp 171), type := 2, pos := "laws.go:519", after := #[{ on := 23, ground := Ground.data }, { on := 8, ground := Ground.guard }], guard := some (8, false) }) (v := undef) rfl (by kernel_rfl) (by kernel_rfl) (by kernel_rfl) (fun _ _ _ h => h) (Or.inr ⟨by rfl, rfl⟩) A ?_
          try simp only [Act.put, List.setIfInBounds_toArray, List.set_cons_zero, List.set_cons_succ]
          try simp only [HX1.out]
          try simp only [HX2.out]
          try simp only [HX3.out]
          try simp only [HX4.out]
          refine wpAnyH_take (i := 25) (oi := { dst := some 173, op := Op.call { callee := Callee.value (Operand.func 27), args := #[Operand.tmp 166, Operand.tmp 168, Operand.tmp 170, Operand.tmp 172], argTypes := #[25, 2, 2, 2] }, type := 2, pos := "laws.go:519", after := #[{ on := 18, ground := Ground.data }, { on := 20, ground := Ground.data }, { on := 22, ground := Ground.data }, { on := 24, ground := Ground.data }, { on := 17, ground := Ground.chain }, { on := 8, ground := Ground.guard }], guard := some (8, false) }) (v := undef) rfl (by kernel_rfl) (by kernel_rfl) (by kernel_rfl) (fun _ _ _ h => h) (Or.inr ⟨by rfl, rfl⟩) A ?_
          try simp only [Act.put, List.setIfInBounds_toArray, List.set_cons_zero, List.set_cons_succ]
          try simp only [HX1.out]
          try simp only [HX2.out]
          try simp only [HX3.out]
          try simp only [HX4.out]
          refine wpAnyH_take (i := 26) (oi := { dst := some 174, op := Op.binOp BinOp.add 2 (Operand.tmp 173) (Operand.const (Value.int IntKind.i64 1)) 2, type := 2, pos := "laws.go:519", after := #[{ on := 25, ground := Ground.data }, { on := 8, ground := Ground.guard }], guard := some (8, false) }) (v := undef) rfl (by kernel_rfl) (by kernel_rfl) (by kernel_rfl) (fun _ _ _ h => h) (Or.inr ⟨by rfl, rfl⟩) A ?_
          try simp only [Act.put, List.setIfInBounds_toArray, List.set_cons_zero, List.set_cons_succ]
          try simp only [HX1.out]
          try simp only [HX2.out]
          try simp only [HX3.out]
          try simp only [HX4.out]
          refine wpAnyH_take (i := 27) (oi := { dst := some 175, op := Op.binOp BinOp.eql 2 (Operand.tmp 165) (Operand.tmp 174) 2, type := 4, pos := "laws.go:519", after := #[{ on := 17, ground := Ground.data }, { on := 26, ground := Ground.data }, { on := 8, ground := Ground.guard }], guard := some (8, false) }) (v := undef) rfl (by kernel_rfl) (by kernel_rfl) (by kernel_rfl) (fun _ _ _ h => h) (Or.inr ⟨by rfl, rfl⟩) A ?_
          try simp only [Act.put, List.setIfInBounds_toArray, List.set_cons_zero, List.set_cons_succ]
          try simp only [HX1.out]
          try simp only [HX2.out]
          try simp only [HX3.out]
          try simp only [HX4.out]
          refine wpAnyH_take (i := 28) (oi := { dst := some 176, op := Op.pick (Operand.tmp 156) (Operand.const (Value.bool true)) (Operand.tmp 175), type := 4, pos := "laws.go:519", after := #[{ on := 8, ground := Ground.data }, { on := 27, ground := Ground.data }], guard := none }) (v := ?vvt3129) rfl (by kernel_rfl) (by kernel_rfl) (by kernel_rfl) (fun _ _ _ h => h) (Or.inl ⟨by rfl, ?hyt3129⟩) A ?restt3129
          case hyt3129 => (intro w hSw; have c2 := hSw.mem.b2.cell; have c3 := hSw.mem.b3.cell;go_simp <;> with_reducible rfl)
          try simp only [Act.put, List.setIfInBounds_toArray, List.set_cons_zero, List.set_cons_succ]
          try simp only [HX1.out]
          try simp only [HX2.out]
          try simp only [HX3.out]
          try simp only [HX4.out]
          refine wpAnyH_take (i := 29) (oi := { dst := some 4, op := Op.assign (Operand.tmp 176), type := 4, pos := "laws.go:519", after := #[{ on := 28, ground := Ground.data }, { on := 25, ground := Ground.chain }, { on := 0, ground := Ground.phase }, { on := 1, ground := Ground.phase }, { on := 2, ground := Ground.phase }, { on := 3, ground := Ground.phase }, { on := 4, ground := Ground.phase }, { on := 5, ground := Ground.phase }, { on := 6, ground := Ground.phase }, { on := 7, ground := Ground.phase }, { on := 8, ground := Ground.phase }, { on := 9, ground := Ground.phase }, { on := 10, ground := Ground.phase }, { on := 11, ground := Ground.phase }, { on := 12, ground := Ground.phase }, { on := 13, ground := Ground.phase }, { on := 14, ground := Ground.phase }, { on := 15, ground := Ground.phase }, { on := 16, ground := Ground.phase }, { on := 17, ground := Ground.phase }, { on := 18, ground := Ground.phase }, { on := 19, ground := Ground.phase }, { on := 20, ground := Ground.phase }, { on := 21, ground := Ground.phase }, { on := 22, ground := Ground.phase }, { on := 23, ground := Ground.phase }, { on := 24, ground := Ground.phase }, { on := 25, ground := Ground.phase }, { on := 26, ground := Ground.phase }, { on := 27, ground := Ground.phase }, { on := 28, ground := Ground.phase }], guard := none }) (v := ?vvt3130) rfl (by kernel_rfl) (by kernel_rfl) (by kernel_rfl) (fun _ _ _ h => h) (Or.inl ⟨by rfl, ?hyt3130⟩) A ?restt3130
          case hyt3130 => (intro w hSw; have c2 := hSw.mem.b2.cell; have c3 := hSw.mem.b3.cell;go_simp <;> with_reducible rfl)
          try simp only [Act.put, List.setIfInBounds_toArray, List.set_cons_zero, List.set_cons_succ]
          try simp only [HX1.out]
          try simp only [HX2.out]
          try simp only [HX3.out]
          try simp only [HX4.out]
          refine wpAnyH_done (by kernel_rfl) ?_ _
          all_goals
            have HB := Lib.hid A.bel
            go_wp2_with fail
            go_ret
            exact ⟨rfl, HB.out⟩
      · clear HDn0 HDn1
        have A := HA.out
        clear HA
        by_cases hx0 : xk = 0
        · subst hx0
          by_cases h30 : 30 ≤ l.length
          · have h30i : (30 : Int) ≤ (l.length : Int) := by omega
            go_upto_region 21 with fail
            replace A := A.drew
            refine wp_region_held_drew (S := fun W' => FwM w W' _ _) (by kernel_rfl) A (fun hHeld => ?_)
            clear hHeld
            refine wpAnyH_take (i := 0) (oi := { dst := some 148, op := Op.fieldAddr 32 (Operand.tmp 7) 1, type := 0, pos := "laws.go:519", after := #[], guard := none }) (v := ?vvt421) rfl (by kernel_rfl) (by kernel_rfl) (by kernel_rfl) (fun _ _ _ h => h) (Or.inl ⟨by rfl, ?hyt421⟩) A ?restt421
            case hyt421 => (intro w hSw; have c2 := hSw.mem.b2.cell; have c3 := hSw.mem.b3.cell;go_simp <;> with_reducible rfl)
            try simp only [Act.put, List.setIfInBounds_toArray, List.set_cons_zero, List.set_cons_succ]
            refine wpAnyH_take (i := 1) (oi := { dst := some 149, op := Op.load 2 (Operand.tmp 148), type := 2, pos := "laws.go:519", after := #[{ on := 0, ground := Ground.data }], guard := none }) (v := ?vvt422) rfl (by kernel_rfl) (by kernel_rfl) (by kernel_rfl) (fun _ _ _ h => h) (Or.inl ⟨by rfl, ?hyt422⟩) A ?restt422
            case hyt422 => (intro w hSw; have c2 := hSw.mem.b2.cell; have c3 := hSw.mem.b3.cell;go_simp <;> with_reducible rfl)
            try simp only [Act.put, List.setIfInBounds_toArray, List.set_cons_zero, List.set_cons_succ]
            refine wpAnyH_take (i := 2) (oi := { dst := some 150, op := Op.binOp BinOp.neq 2 (Operand.tmp 149) (Operand.const (Value.int IntKind.i64 0)) 2, type := 4, pos := "laws.go:519", after := #[{ on := 1, ground := Ground.data }], guard := none }) (v := ?vvt423) rfl (by kernel_rfl) (by kernel_rfl) (by kernel_rfl) (fun _ _ _ h => h) (Or.inl ⟨by rfl, ?hyt423⟩) A ?restt423
            case hyt423 => (intro w hSw; have c2 := hSw.mem.b2.cell; have c3 := hSw.mem.b3.cell;go_simp <;> with_reducible rfl)
            try simp only [Act.put, List.setIfInBounds_toArray, List.set_cons_zero, List.set_cons_succ]
            refine wpAnyH_take (i := 3) (oi := { dst := some 151, op := Op.move (Operand.tmp 150), type := 4, pos := "laws.go:519", after := #[{ on := 2, ground := Ground.data }], guard := none }) (v := ?vvt424) rfl (by kernel_rfl) (by kernel_rfl) (by kernel_rfl) (fun _ _ _ h => h) (Or.inl ⟨by rfl, ?hyt424⟩) A ?restt424
            case hyt424 => (intro w hSw; have c2 := hSw.mem.b2.cell; have c3 := hSw.mem.b3.cell;go_simp <;> with_reducible rfl)
            try simp only [Act.put, List.setIfInBounds_toArray, List.set_cons_zero, List.set_cons_succ]
            refine wpAnyH_take (i := 4) (oi := { dst := some 152, op := Op.move (Operand.tmp 5), type := 25, pos := "laws.go:519", after := #[{ on := 3, ground := Ground.guard }], guard := some (3, false) }) (v := ?vvt425) rfl (by kernel_rfl) (by kernel_rfl) (by kernel_rfl) (fun _ _ _ h => h) (Or.inl ⟨by rfl, ?hyt425⟩) A ?restt425
            case hyt425 => (intro w hSw; have c2 := hSw.mem.b2.cell; have c3 := hSw.mem.b3.cell;go_simp <;> with_reducible rfl)
            try simp only [Act.put, List.setIfInBounds_toArray, List.set_cons_zero, List.set_cons_succ]
            refine wpAnyH_take (i := 5) (oi := { dst := some 153, op := Op.call { callee := Callee.builtin Builtin.len, args := #[Operand.tmp 152], argTypes := #[25] }, type := 3, pos := "laws.go:519", after := #[{ on := 4, ground := Ground.data }, { on := 3, ground := Ground.guard }], guard := some (3, false) }) (v := ?vvt426) rfl (by kernel_rfl) (by kernel_rfl) (by kernel_rfl) (fun _ _ _ h => h) (Or.inl ⟨by rfl, ?hyt426⟩) A ?restt426
            case hyt426 => (intro w hSw; have c2 := hSw.mem.b2.cell; have c3 := hSw.mem.b3.cell;go_simp <;> with_reducible rfl)
            try simp only [Act.put, List.setIfInBounds_toArray, List.set_cons_zero, List.set_cons_succ]
            refine wpAnyH_take (i := 6) (oi := { dst := some 154, op := Op.binOp BinOp.geq 3 (Operand.tmp 153) (Operand.const (Value.int IntKind.i64 30)) 3, type := 4, pos := "laws.go:519", after := #[{ on := 5, ground := Ground.data }, { on := 3, ground := Ground.guard }], guard := some (3, false) }) (v := ?vvt427) rfl (by kernel_rfl) (by kernel_rfl) (by kernel_rfl) (fun _ _ _ h => h) (Or.inl ⟨by rfl, ?hyt427⟩) A ?restt427
            case hyt427 => (intro w hSw; have c2 := hSw.mem.b2.cell; have c3 := hSw.mem.b3.cell;go_simp <;> with_reducible rfl)
            try simp only [Act.put, List.setIfInBounds_toArray, List.set_cons_zero, List.set_cons_succ]
            refine wpAnyH_take (i := 7) (oi := { dst := some 155, op := Op.pick (Operand.tmp 151) (Operand.const (Value.bool true)) (Operand.tmp 154), type := 4, pos := "laws.go:519", after := #[{ on := 3, ground := Ground.data }, { on := 6, ground := Ground.data }], guard := none }) (v := ?vvt428) rfl (by kernel_rfl) (by kernel_rfl) (by kernel_rfl) (fun _ _ _ h => h) (Or.inl ⟨by rfl, ?hyt428⟩) A ?restt428
            case hyt428 => (intro w hSw; have c2 := hSw.mem.b2.cell; have c3 := hSw.mem.b3.cell;go_simp <;> with_reducible rfl)
            try simp only [Act.put, List.setIfInBounds_toArray, List.set_cons_zero, List.set_cons_succ]
            refine wpAnyH_take (i := 8) (oi := { dst := some 156, op := Op.move (Operand.tmp 155), type := 4, pos := "laws.go:519", after := #[{ on := 7, ground := Ground.data }, { on := 3, ground := Ground.chain }], guard := none }) (v := ?vvt429) rfl (by kernel_rfl) (by kernel_rfl) (by kernel_rfl) (fun _ _ _ h => h) (Or.inl ⟨by rfl, ?hyt429⟩) A ?restt429
            case hyt429 => (intro w hSw; have c2 := hSw.mem.b2.cell; have c3 := hSw.mem.b3.cell;go_simp <;> with_reducible rfl)
            try simp only [Act.put, List.setIfInBounds_toArray, List.set_cons_zero, List.set_cons_succ]
            refine wpAnyH_take (i := 9) (oi := { dst := some 157, op := Op.fieldAddr 32 (Operand.tmp 7) 0, type := 0, pos := "laws.go:519", after := #[{ on := 8, ground := Ground.guard }], guard := some (8, false) }) (v := undef) rfl (by kernel_rfl) (by kernel_rfl) (by kernel_rfl) (fun _ _ _ h => h) (Or.inr ⟨by rfl, rfl⟩) A ?_
            try simp only [Act.put, List.setIfInBounds_toArray, List.set_cons_zero, List.set_cons_succ]
            refine wpAnyH_take (i := 10) (oi := { dst := some 158, op := Op.load 25 (Operand.tmp 157), type := 25, pos := "laws.go:519", after := #[{ on := 9, ground := Ground.data }, { on := 8, ground := Ground.guard }], guard := some (8, false) }) (v := undef) rfl (by kernel_rfl) (by kernel_rfl) (by kernel_rfl) (fun _ _ _ h => h) (Or.inr ⟨by rfl, rfl⟩) A ?_
            try simp only [Act.put, List.setIfInBounds_toArray, List.set_cons_zero, List.set_cons_succ]
            refine wpAnyH_take (i := 11) (oi := { dst := some 159, op := Op.fieldAddr 34 (Operand.tmp 6) 0, type := 0, pos := "laws.go:519", after := #[{ on := 8, ground := Ground.guard }], guard := some (8, false) }) (v := undef) rfl (by kernel_rfl) (by kernel_rfl) (by kernel_rfl) (fun _ _ _ h => h) (Or.inr ⟨by rfl, rfl⟩) A ?_
            try simp only [Act.put, List.setIfInBounds_toArray, List.set_cons_zero, List.set_cons_succ]
            refine wpAnyH_take (i := 12) (oi := { dst := some 160, op := Op.load 2 (Operand.tmp 159), type := 2, pos := "laws.go:519", after := #[{ on := 11, ground := Ground.data }, { on := 8, ground := Ground.guard }], guard := some (8, false) }) (v := undef) rfl (by kernel_rfl) (by kernel_rfl) (by kernel_rfl) (fun _ _ _ h => h) (Or.inr ⟨by rfl, rfl⟩) A ?_
            try simp only [Act.put, List.setIfInBounds_toArray, List.set_cons_zero, List.set_cons_succ]
            refine wpAnyH_take (i := 13) (oi := { dst := some 161, op := Op.fieldAddr 34 (Operand.tmp 6) 1, type := 0, pos := "laws.go:519", after := #[{ on := 8, ground := Ground.guard }], guard := some (8, false) }) (v := undef) rfl (by kernel_rfl) (by kernel_rfl) (by kernel_rfl) (fun _ _ _ h => h) (Or.inr ⟨by rfl, rfl⟩) A ?_
            try simp only [Act.put, List.setIfInBounds_toArray, List.set_cons_zero, List.set_cons_succ]
            refine wpAnyH_take (i := 14) (oi := { dst := some 162, op := Op.load 2 (Operand.tmp 161), type := 2, pos := "laws.go:519", after := #[{ on := 13, ground := Ground.data }, { on := 8, ground := Ground.guard }], guard := some (8, false) }) (v := undef) rfl (by kernel_rfl) (by kernel_rfl) (by kernel_rfl) (fun _ _ _ h => h) (Or.inr ⟨by rfl, rfl⟩) A ?_
            try simp only [Act.put, List.setIfInBounds_toArray, List.set_cons_zero, List.set_cons_succ]
            refine wpAnyH_take (i := 15) (oi := { dst := some 163, op := Op.fieldAddr 34 (Operand.tmp 6) 2, type := 0, pos := "laws.go:519", after := #[{ on := 8, ground := Ground.guard }], guard := some (8, false) }) (v := undef) rfl (by kernel_rfl) (by kernel_rfl) (by kernel_rfl) (fun _ _ _ h => h) (Or.inr ⟨by rfl, rfl⟩) A ?_
            try simp only [Act.put, List.setIfInBounds_toArray, List.set_cons_zero, List.set_cons_succ]
            refine wpAnyH_take (i := 16) (oi := { dst := some 164, op := Op.load 2 (Operand.tmp 163), type := 2, pos := "laws.go:519", after := #[{ on := 15, ground := Ground.data }, { on := 8, ground := Ground.guard }], guard := some (8, false) }) (v := undef) rfl (by kernel_rfl) (by kernel_rfl) (by kernel_rfl) (fun _ _ _ h => h) (Or.inr ⟨by rfl, rfl⟩) A ?_
            try simp only [Act.put, List.setIfInBounds_toArray, List.set_cons_zero, List.set_cons_succ]
            refine wpAnyH_take (i := 17) (oi := { dst := some 165, op := Op.call { callee := Callee.value (Operand.func 28), args := #[Operand.tmp 158, Operand.tmp 160, Operand.tmp 162, Operand.tmp 164], argTypes := #[25, 2, 2, 2] }, type := 2, pos := "laws.go:519", after := #[{ on := 10, ground := Ground.data }, { on := 12, ground := Ground.data }, { on := 14, ground := Ground.data }, { on := 16, ground := Ground.data }, { on := 8, ground := Ground.chain }, { on := 8, ground := Ground.guard }], guard := some (8, false) }) (v := undef) rfl (by kernel_rfl) (by kernel_rfl) (by kernel_rfl) (fun _ _ _ h => h) (Or.inr ⟨by rfl, rfl⟩) A ?_
            try simp only [Act.put, List.setIfInBounds_toArray, List.set_cons_zero, List.set_cons_succ]
            refine wpAnyH_take (i := 18) (oi := { dst := some 166, op := Op.move (Operand.tmp 5), type := 25, pos := "laws.go:519", after := #[{ on := 8, ground := Ground.guard }], guard := some (8, false) }) (v := undef) rfl (by kernel_rfl) (by kernel_rfl) (by kernel_rfl) (fun _ _ _ h => h) (Or.inr ⟨by rfl, rfl⟩) A ?_
            try simp only [Act.put, List.setIfInBounds_toArray, List.set_cons_zero, List.set_cons_succ]
            refine wpAnyH_take (i := 19) (oi := { dst := some 167, op := Op.fieldAddr 34 (Operand.tmp 6) 0, type := 0, pos := "laws.go:519", after := #[{ on := 8, ground := Ground.guard }], guard := some (8, false) }) (v := undef) rfl (by kernel_rfl) (by kernel_rfl) (by kernel_rfl) (fun _ _ _ h => h) (Or.inr ⟨by rfl, rfl⟩) A ?_
            try simp only [Act.put, List.setIfInBounds_toArray, List.set_cons_zero, List.set_cons_succ]
            refine wpAnyH_take (i := 20) (oi := { dst := some 168, op := Op.load 2 (Operand.tmp 167), type := 2, pos := "laws.go:519", after := #[{ on := 19, ground := Ground.data }, { on := 8, ground := Ground.guard }], guard := some (8, false) }) (v := undef) rfl (by kernel_rfl) (by kernel_rfl) (by kernel_rfl) (fun _ _ _ h => h) (Or.inr ⟨by rfl, rfl⟩) A ?_
            try simp only [Act.put, List.setIfInBounds_toArray, List.set_cons_zero, List.set_cons_succ]
            refine wpAnyH_take (i := 21) (oi := { dst := some 169, op := Op.fieldAddr 34 (Operand.tmp 6) 1, type := 0, pos := "laws.go:519", after := #[{ on := 8, ground := Ground.guard }], guard := some (8, false) }) (v := undef) rfl (by kernel_rfl) (by kernel_rfl) (by kernel_rfl) (fun _ _ _ h => h) (Or.inr ⟨by rfl, rfl⟩) A ?_
            try simp only [Act.put, List.setIfInBounds_toArray, List.set_cons_zero, List.set_cons_succ]
            refine wpAnyH_take (i := 22) (oi := { dst := some 170, op := Op.load 2 (Operand.tmp 169), type := 2, pos := "laws.go:519", after := #[{ on := 21, ground := Ground.data }, { on := 8, ground := Ground.guard }], guard := some (8, false) }) (v := undef) rfl (by kernel_rfl) (by kernel_rfl) (by kernel_rfl) (fun _ _ _ h => h) (Or.inr ⟨by rfl, rfl⟩) A ?_
            try simp only [Act.put, List.setIfInBounds_toArray, List.set_cons_zero, List.set_cons_succ]
            refine wpAnyH_take (i := 23) (oi := { dst := some 171, op := Op.fieldAddr 34 (Operand.tmp 6) 2, type := 0, pos := "laws.go:519", after := #[{ on := 8, ground := Ground.guard }], guard := some (8, false) }) (v := undef) rfl (by kernel_rfl) (by kernel_rfl) (by kernel_rfl) (fun _ _ _ h => h) (Or.inr ⟨by rfl, rfl⟩) A ?_
            try simp only [Act.put, List.setIfInBounds_toArray, List.set_cons_zero, List.set_cons_succ]
            refine wpAnyH_take (i := 24) (oi := { dst := some 172, op := Op.load 2 (Operand.tmp 171), type := 2, pos := "laws.go:519", after := #[{ on := 23, ground := Ground.data }, { on := 8, ground := Ground.guard }], guard := some (8, false) }) (v := undef) rfl (by kernel_rfl) (by kernel_rfl) (by kernel_rfl) (fun _ _ _ h => h) (Or.inr ⟨by rfl, rfl⟩) A ?_
            try simp only [Act.put, List.setIfInBounds_toArray, List.set_cons_zero, List.set_cons_succ]
            refine wpAnyH_take (i := 25) (oi := { dst := some 173, op := Op.call { callee := Callee.value (Operand.func 27), args := #[Operand.tmp 166, Operand.tmp 168, Operand.tmp 170, Operand.tmp 172], argTypes := #[25, 2, 2, 2] }, type := 2, pos := "laws.go:519", after := #[{ on := 18, ground := Ground.data }, { on := 20, ground := Ground.data }, { on := 22, ground := Ground.data }, { on := 24, ground := Ground.data }, { on := 17, ground := Ground.chain }, { on := 8, ground := Ground.guard }], guard := some (8, false) }) (v := undef) rfl (by kernel_rfl) (by kernel_rfl) (by kernel_rfl) (fun _ _ _ h => h) (Or.inr ⟨by rfl, rfl⟩) A ?_
            try simp only [Act.put, List.setIfInBounds_toArray, List.set_cons_zero, List.set_cons_succ]
            refine wpAnyH_take (i := 26) (oi := { dst := some 174, op := Op.binOp BinOp.add 2 (Operand.tmp 173) (Operand.const (Value.int IntKind.i64 1)) 2, type := 2, pos := "laws.go:519", after := #[{ on := 25, ground := Ground.data }, { on := 8, ground := Ground.guard }], guard := some (8, false) }) (v := undef) rfl (by kernel_rfl) (by kernel_rfl) (by kernel_rfl) (fun _ _ _ h => h) (Or.inr ⟨by rfl, rfl⟩) A ?_
            try simp only [Act.put, List.setIfInBounds_toArray, List.set_cons_zero, List.set_cons_succ]
            refine wpAnyH_take (i := 27) (oi := { dst := some 175, op := Op.binOp BinOp.eql 2 (Operand.tmp 165) (Operand.tmp 174) 2, type := 4, pos := "laws.go:519", after := #[{ on := 17, ground := Ground.data }, { on := 26, ground := Ground.data }, { on := 8, ground := Ground.guard }], guard := some (8, false) }) (v := undef) rfl (by kernel_rfl) (by kernel_rfl) (by kernel_rfl) (fun _ _ _ h => h) (Or.inr ⟨by rfl, rfl⟩) A ?_
            try simp only [Act.put, List.setIfInBounds_toArray, List.set_cons_zero, List.set_cons_succ]
            refine wpAnyH_take (i := 28) (oi := { dst := some 176, op := Op.pick (Operand.tmp 156) (Operand.const (Value.bool true)) (Operand.tmp 175), type := 4, pos := "laws.go:519", after := #[{ on := 8, ground := Ground.data }, { on := 27, ground := Ground.data }], guard := none }) (v := ?vvt4229) rfl (by kernel_rfl) (by kernel_rfl) (by kernel_rfl) (fun _ _ _ h => h) (Or.inl ⟨by rfl, ?hyt4229⟩) A ?restt4229
            case hyt4229 => (intro w hSw; have c2 := hSw.mem.b2.cell; have c3 := hSw.mem.b3.cell;go_simp <;> with_reducible rfl)
            try simp only [Act.put, List.setIfInBounds_toArray, List.set_cons_zero, List.set_cons_succ]
            refine wpAnyH_take (i := 29) (oi := { dst := some 4, op := Op.assign (Operand.tmp 176), type := 4, pos := "laws.go:519", after := #[{ on := 28, ground := Ground.data }, { on := 25, ground := Ground.chain }, { on := 0, ground := Ground.phase }, { on := 1, ground := Ground.phase }, { on := 2, ground := Ground.phase }, { on := 3, ground := Ground.phase }, { on := 4, ground := Ground.phase }, { on := 5, ground := Ground.phase }, { on := 6, ground := Ground.phase }, { on := 7, ground := Ground.phase }, { on := 8, ground := Ground.phase }, { on := 9, ground := Ground.phase }, { on := 10, ground := Ground.phase }, { on := 11, ground := Ground.phase }, { on := 12, ground := Ground.phase }, { on := 13, ground := Ground.phase }, { on := 14, ground := Ground.phase }, { on := 15, ground := Ground.phase }, { on := 16, ground := Ground.phase }, { on := 17, ground := Ground.phase }, { on := 18, ground := Ground.phase }, { on := 19, ground := Ground.phase }, { on := 20, ground := Ground.phase }, { on := 21, ground := Ground.phase }, { on := 22, ground := Ground.phase }, { on := 23, ground := Ground.phase }, { on := 24, ground := Ground.phase }, { on := 25, ground := Ground.phase }, { on := 26, ground := Ground.phase }, { on := 27, ground := Ground.phase }, { on := 28, ground := Ground.phase }], guard := none }) (v := ?vvt4230) rfl (by kernel_rfl) (by kernel_rfl) (by kernel_rfl) (fun _ _ _ h => h) (Or.inl ⟨by rfl, ?hyt4230⟩) A ?restt4230
            case hyt4230 => (intro w hSw; have c2 := hSw.mem.b2.cell; have c3 := hSw.mem.b3.cell;go_simp <;> with_reducible rfl)
            try simp only [Act.put, List.setIfInBounds_toArray, List.set_cons_zero, List.set_cons_succ]
            refine wpAnyH_done (by kernel_rfl) ?_ _
            all_goals
              have HB := Lib.hid A.bel
              go_wp2_with fail
              go_ret
              exact ⟨rfl, HB.out⟩
          · have h30i : ¬ (30 : Int) ≤ (l.length : Int) := by omega
            have HPx := Lib.hid (HPn.out rfl h30)
            have hkb := cnt_le l r.vni r.mac r.tm
            have hwk : IntKind.i64.wrap (cntR l r.vni r.mac r.tm + 1) = cntR l r.vni r.mac r.tm + 1 := by simp only [IntKind.wrap_i64]; omega
            have HL1 : Hid (decide ((30 : Int) ≤ (l.length : Int)) = false) := Lib.hid (decide_eq_false h30i)
            have HL2 : Hid (decide (30 ≤ l.length) = false) := Lib.hid (decide_eq_false h30)
            clear HPn
            go_upto_region 21 with fail
            replace A := A.drew
            refine wp_region_held_drew (S := fun W' => FwM w W' _ _) (by kernel_rfl) A (fun hHeld => ?_)
            clear hHeld
            refine wpAnyH_take (i := 0) (oi := { dst := some 148, op := Op.fieldAddr 32 (Operand.tmp 7) 1, type := 0, pos := "laws.go:519", after := #[], guard := none }) (v := ?vvt431) rfl (by kernel_rfl) (by kernel_rfl) (by kernel_rfl) (fun _ _ _ h => h) (Or.inl ⟨by rfl, ?hyt431⟩) A ?restt431
            case hyt431 => (intro w hSw; have c2 := hSw.mem.b2.cell; have c3 := hSw.mem.b3.cell;go_simp <;> with_reducible rfl)
            try simp only [Act.put, List.setIfInBounds_toArray, List.set_cons_zero, List.set_cons_succ]
            try simp only [HL1.out]
            try simp only [HL2.out]
            refine wpAnyH_take (i := 1) (oi := { dst := some 149, op := Op.load 2 (Operand.tmp 148), type := 2, pos := "laws.go:519", after := #[{ on := 0, ground := Ground.data }], guard := none }) (v := ?vvt432) rfl (by kernel_rfl) (by kernel_rfl) (by kernel_rfl) (fun _ _ _ h => h) (Or.inl ⟨by rfl, ?hyt432⟩) A ?restt432
            case hyt432 => (intro w hSw; have c2 := hSw.mem.b2.cell; have c3 := hSw.mem.b3.cell;go_simp <;> with_reducible rfl)
            try simp only [Act.put, List.setIfInBounds_toArray, List.set_cons_zero, List.set_cons_succ]
            try simp only [HL1.out]
            try simp only [HL2.out]
            refine wpAnyH_take (i := 2) (oi := { dst := some 150, op := Op.binOp BinOp.neq 2 (Operand.tmp 149) (Operand.const (Value.int IntKind.i64 0)) 2, type := 4, pos := "laws.go:519", after := #[{ on := 1, ground := Ground.data }], guard := none }) (v := ?vvt433) rfl (by kernel_rfl) (by kernel_rfl) (by kernel_rfl) (fun _ _ _ h => h) (Or.inl ⟨by rfl, ?hyt433⟩) A ?restt433
            case hyt433 => (intro w hSw; have c2 := hSw.mem.b2.cell; have c3 := hSw.mem.b3.cell;go_simp <;> with_reducible rfl)
            try simp only [Act.put, List.setIfInBounds_toArray, List.set_cons_zero, List.set_cons_succ]
            try simp only [HL1.out]
            try simp only [HL2.out]
            refine wpAnyH_take (i := 3) (oi := { dst := some 151, op := Op.move (Operand.tmp 150), type := 4, pos := "laws.go:519", after := #[{ on := 2, ground := Ground.data }], guard := none }) (v := ?vvt434) rfl (by kernel_rfl) (by kernel_rfl) (by kernel_rfl) (fun _ _ _ h => h) (Or.inl ⟨by rfl, ?hyt434⟩) A ?restt434
            case hyt434 => (intro w hSw; have c2 := hSw.mem.b2.cell; have c3 := hSw.mem.b3.cell;go_simp <;> with_reducible rfl)
            try simp only [Act.put, List.setIfInBounds_toArray, List.set_cons_zero, List.set_cons_succ]
            try simp only [HL1.out]
            try simp only [HL2.out]
            refine wpAnyH_take (i := 4) (oi := { dst := some 152, op := Op.move (Operand.tmp 5), type := 25, pos := "laws.go:519", after := #[{ on := 3, ground := Ground.guard }], guard := some (3, false) }) (v := ?vvt435) rfl (by kernel_rfl) (by kernel_rfl) (by kernel_rfl) (fun _ _ _ h => h) (Or.inl ⟨by rfl, ?hyt435⟩) A ?restt435
            case hyt435 => (intro w hSw; have c2 := hSw.mem.b2.cell; have c3 := hSw.mem.b3.cell;go_simp <;> with_reducible rfl)
            try simp only [Act.put, List.setIfInBounds_toArray, List.set_cons_zero, List.set_cons_succ]
            try simp only [HL1.out]
            try simp only [HL2.out]
            refine wpAnyH_take (i := 5) (oi := { dst := some 153, op := Op.call { callee := Callee.builtin Builtin.len, args := #[Operand.tmp 152], argTypes := #[25] }, type := 3, pos := "laws.go:519", after := #[{ on := 4, ground := Ground.data }, { on := 3, ground := Ground.guard }], guard := some (3, false) }) (v := ?vvt436) rfl (by kernel_rfl) (by kernel_rfl) (by kernel_rfl) (fun _ _ _ h => h) (Or.inl ⟨by rfl, ?hyt436⟩) A ?restt436
            case hyt436 => (intro w hSw; have c2 := hSw.mem.b2.cell; have c3 := hSw.mem.b3.cell;go_simp <;> with_reducible rfl)
            try simp only [Act.put, List.setIfInBounds_toArray, List.set_cons_zero, List.set_cons_succ]
            try simp only [HL1.out]
            try simp only [HL2.out]
            refine wpAnyH_take (i := 6) (oi := { dst := some 154, op := Op.binOp BinOp.geq 3 (Operand.tmp 153) (Operand.const (Value.int IntKind.i64 30)) 3, type := 4, pos := "laws.go:519", after := #[{ on := 5, ground := Ground.data }, { on := 3, ground := Ground.guard }], guard := some (3, false) }) (v := ?vvt437) rfl (by kernel_rfl) (by kernel_rfl) (by kernel_rfl) (fun _ _ _ h => h) (Or.inl ⟨by rfl, ?hyt437⟩) A ?restt437
            case hyt437 => (intro w hSw; have c2 := hSw.mem.b2.cell; have c3 := hSw.mem.b3.cell;go_simp <;> with_reducible rfl)
            try simp only [Act.put, List.setIfInBounds_toArray, List.set_cons_zero, List.set_cons_succ]
            try simp only [HL1.out]
            try simp only [HL2.out]
            refine wpAnyH_take (i := 7) (oi := { dst := some 155, op := Op.pick (Operand.tmp 151) (Operand.const (Value.bool true)) (Operand.tmp 154), type := 4, pos := "laws.go:519", after := #[{ on := 3, ground := Ground.data }, { on := 6, ground := Ground.data }], guard := none }) (v := ?vvt438) rfl (by kernel_rfl) (by kernel_rfl) (by kernel_rfl) (fun _ _ _ h => h) (Or.inl ⟨by rfl, ?hyt438⟩) A ?restt438
            case hyt438 => (intro w hSw; have c2 := hSw.mem.b2.cell; have c3 := hSw.mem.b3.cell;go_simp <;> with_reducible rfl)
            try simp only [Act.put, List.setIfInBounds_toArray, List.set_cons_zero, List.set_cons_succ]
            try simp only [HL1.out]
            try simp only [HL2.out]
            refine wpAnyH_take (i := 8) (oi := { dst := some 156, op := Op.move (Operand.tmp 155), type := 4, pos := "laws.go:519", after := #[{ on := 7, ground := Ground.data }, { on := 3, ground := Ground.chain }], guard := none }) (v := ?vvt439) rfl (by kernel_rfl) (by kernel_rfl) (by kernel_rfl) (fun _ _ _ h => h) (Or.inl ⟨by rfl, ?hyt439⟩) A ?restt439
            case hyt439 => (intro w hSw; have c2 := hSw.mem.b2.cell; have c3 := hSw.mem.b3.cell;go_simp <;> with_reducible rfl)
            try simp only [Act.put, List.setIfInBounds_toArray, List.set_cons_zero, List.set_cons_succ]
            try simp only [HL1.out]
            try simp only [HL2.out]
            refine wpAnyH_take (i := 9) (oi := { dst := some 157, op := Op.fieldAddr 32 (Operand.tmp 7) 0, type := 0, pos := "laws.go:519", after := #[{ on := 8, ground := Ground.guard }], guard := some (8, false) }) (v := ?vvt4310) rfl (by kernel_rfl) (by kernel_rfl) (by kernel_rfl) (fun _ _ _ h => h) (Or.inl ⟨by rfl, ?hyt4310⟩) A ?restt4310
            case hyt4310 => (intro w hSw; have c2 := hSw.mem.b2.cell; have c3 := hSw.mem.b3.cell;go_simp <;> with_reducible rfl)
            try simp only [Act.put, List.setIfInBounds_toArray, List.set_cons_zero, List.set_cons_succ]
            try simp only [HL1.out]
            try simp only [HL2.out]
            refine wpAnyH_take (i := 10) (oi := { dst := some 158, op := Op.load 25 (Operand.tmp 157), type := 25, pos := "laws.go:519", after := #[{ on := 9, ground := Ground.data }, { on := 8, ground := Ground.guard }], guard := some (8, false) }) (v := ?vvt4311) rfl (by kernel_rfl) (by kernel_rfl) (by kernel_rfl) (fun _ _ _ h => h) (Or.inl ⟨by rfl, ?hyt4311⟩) A ?restt4311
            case hyt4311 => (intro w hSw; have c2 := hSw.mem.b2.cell; have c3 := hSw.mem.b3.cell;go_simp <;> with_reducible rfl)
            try simp only [Act.put, List.setIfInBounds_toArray, List.set_cons_zero, List.set_cons_succ]
            try simp only [HL1.out]
            try simp only [HL2.out]
            refine wpAnyH_take (i := 11) (oi := { dst := some 159, op := Op.fieldAddr 34 (Operand.tmp 6) 0, type := 0, pos := "laws.go:519", after := #[{ on := 8, ground := Ground.guard }], guard := some (8, false) }) (v := ?vvt4312) rfl (by kernel_rfl) (by kernel_rfl) (by kernel_rfl) (fun _ _ _ h => h) (Or.inl ⟨by rfl, ?hyt4312⟩) A ?restt4312
            case hyt4312 => (intro w hSw; have c2 := hSw.mem.b2.cell; have c3 := hSw.mem.b3.cell;go_simp <;> with_reducible rfl)
            try simp only [Act.put, List.setIfInBounds_toArray, List.set_cons_zero, List.set_cons_succ]
            try simp only [HL1.out]
            try simp only [HL2.out]
            refine wpAnyH_take (i := 12) (oi := { dst := some 160, op := Op.load 2 (Operand.tmp 159), type := 2, pos := "laws.go:519", after := #[{ on := 11, ground := Ground.data }, { on := 8, ground := Ground.guard }], guard := some (8, false) }) (v := ?vvt4313) rfl (by kernel_rfl) (by kernel_rfl) (by kernel_rfl) (fun _ _ _ h => h) (Or.inl ⟨by rfl, ?hyt4313⟩) A ?restt4313
            case hyt4313 => (intro w hSw; have c2 := hSw.mem.b2.cell; have c3 := hSw.mem.b3.cell;go_simp <;> with_reducible rfl)
            try simp only [Act.put, List.setIfInBounds_toArray, List.set_cons_zero, List.set_cons_succ]
            try simp only [HL1.out]
            try simp only [HL2.out]
            refine wpAnyH_take (i := 13) (oi := { dst := some 161, op := Op.fieldAddr 34 (Operand.tmp 6) 1, type := 0, pos := "laws.go:519", after := #[{ on := 8, ground := Ground.guard }], guard := some (8, false) }) (v := ?vvt4314) rfl (by kernel_rfl) (by kernel_rfl) (by kernel_rfl) (fun _ _ _ h => h) (Or.inl ⟨by rfl, ?hyt4314⟩) A ?restt4314
            case hyt4314 => (intro w hSw; have c2 := hSw.mem.b2.cell; have c3 := hSw.mem.b3.cell;go_simp <;> with_reducible rfl)
            try simp only [Act.put, List.setIfInBounds_toArray, List.set_cons_zero, List.set_cons_succ]
            try simp only [HL1.out]
            try simp only [HL2.out]
            refine wpAnyH_take (i := 14) (oi := { dst := some 162, op := Op.load 2 (Operand.tmp 161), type := 2, pos := "laws.go:519", after := #[{ on := 13, ground := Ground.data }, { on := 8, ground := Ground.guard }], guard := some (8, false) }) (v := ?vvt4315) rfl (by kernel_rfl) (by kernel_rfl) (by kernel_rfl) (fun _ _ _ h => h) (Or.inl ⟨by rfl, ?hyt4315⟩) A ?restt4315
            case hyt4315 => (intro w hSw; have c2 := hSw.mem.b2.cell; have c3 := hSw.mem.b3.cell;go_simp <;> with_reducible rfl)
            try simp only [Act.put, List.setIfInBounds_toArray, List.set_cons_zero, List.set_cons_succ]
            try simp only [HL1.out]
            try simp only [HL2.out]
            refine wpAnyH_take (i := 15) (oi := { dst := some 163, op := Op.fieldAddr 34 (Operand.tmp 6) 2, type := 0, pos := "laws.go:519", after := #[{ on := 8, ground := Ground.guard }], guard := some (8, false) }) (v := ?vvt4316) rfl (by kernel_rfl) (by kernel_rfl) (by kernel_rfl) (fun _ _ _ h => h) (Or.inl ⟨by rfl, ?hyt4316⟩) A ?restt4316
            case hyt4316 => (intro w hSw; have c2 := hSw.mem.b2.cell; have c3 := hSw.mem.b3.cell;go_simp <;> with_reducible rfl)
            try simp only [Act.put, List.setIfInBounds_toArray, List.set_cons_zero, List.set_cons_succ]
            try simp only [HL1.out]
            try simp only [HL2.out]
            refine wpAnyH_take (i := 16) (oi := { dst := some 164, op := Op.load 2 (Operand.tmp 163), type := 2, pos := "laws.go:519", after := #[{ on := 15, ground := Ground.data }, { on := 8, ground := Ground.guard }], guard := some (8, false) }) (v := ?vvt4317) rfl (by kernel_rfl) (by kernel_rfl) (by kernel_rfl) (fun _ _ _ h => h) (Or.inl ⟨by rfl, ?hyt4317⟩) A ?restt4317
            case hyt4317 => (intro w hSw; have c2 := hSw.mem.b2.cell; have c3 := hSw.mem.b3.cell;go_simp <;> with_reducible rfl)
            try simp only [Act.put, List.setIfInBounds_toArray, List.set_cons_zero, List.set_cons_succ]
            try simp only [HL1.out]
            try simp only [HL2.out]
            refine wpAnyH_take (i := 18) (oi := { dst := some 166, op := Op.move (Operand.tmp 5), type := 25, pos := "laws.go:519", after := #[{ on := 8, ground := Ground.guard }], guard := some (8, false) }) (v := ?vvt4318) rfl (by kernel_rfl) (by kernel_rfl) (by kernel_rfl) (fun _ _ _ h => h) (Or.inl ⟨by rfl, ?hyt4318⟩) A ?restt4318
            case hyt4318 => (intro w hSw; have c2 := hSw.mem.b2.cell; have c3 := hSw.mem.b3.cell;go_simp <;> with_reducible rfl)
            try simp only [Act.put, List.setIfInBounds_toArray, List.set_cons_zero, List.set_cons_succ]
            try simp only [HL1.out]
            try simp only [HL2.out]
            refine wpAnyH_take (i := 19) (oi := { dst := some 167, op := Op.fieldAddr 34 (Operand.tmp 6) 0, type := 0, pos := "laws.go:519", after := #[{ on := 8, ground := Ground.guard }], guard := some (8, false) }) (v := ?vvt4319) rfl (by kernel_rfl) (by kernel_rfl) (by kernel_rfl) (fun _ _ _ h => h) (Or.inl ⟨by rfl, ?hyt4319⟩) A ?restt4319
            case hyt4319 => (intro w hSw; have c2 := hSw.mem.b2.cell; have c3 := hSw.mem.b3.cell;go_simp <;> with_reducible rfl)
            try simp only [Act.put, List.setIfInBounds_toArray, List.set_cons_zero, List.set_cons_succ]
            try simp only [HL1.out]
            try simp only [HL2.out]
            refine wpAnyH_take (i := 20) (oi := { dst := some 168, op := Op.load 2 (Operand.tmp 167), type := 2, pos := "laws.go:519", after := #[{ on := 19, ground := Ground.data }, { on := 8, ground := Ground.guard }], guard := some (8, false) }) (v := ?vvt4320) rfl (by kernel_rfl) (by kernel_rfl) (by kernel_rfl) (fun _ _ _ h => h) (Or.inl ⟨by rfl, ?hyt4320⟩) A ?restt4320
            case hyt4320 => (intro w hSw; have c2 := hSw.mem.b2.cell; have c3 := hSw.mem.b3.cell;go_simp <;> with_reducible rfl)
            try simp only [Act.put, List.setIfInBounds_toArray, List.set_cons_zero, List.set_cons_succ]
            try simp only [HL1.out]
            try simp only [HL2.out]
            refine wpAnyH_take (i := 21) (oi := { dst := some 169, op := Op.fieldAddr 34 (Operand.tmp 6) 1, type := 0, pos := "laws.go:519", after := #[{ on := 8, ground := Ground.guard }], guard := some (8, false) }) (v := ?vvt4321) rfl (by kernel_rfl) (by kernel_rfl) (by kernel_rfl) (fun _ _ _ h => h) (Or.inl ⟨by rfl, ?hyt4321⟩) A ?restt4321
            case hyt4321 => (intro w hSw; have c2 := hSw.mem.b2.cell; have c3 := hSw.mem.b3.cell;go_simp <;> with_reducible rfl)
            try simp only [Act.put, List.setIfInBounds_toArray, List.set_cons_zero, List.set_cons_succ]
            try simp only [HL1.out]
            try simp only [HL2.out]
            refine wpAnyH_take (i := 22) (oi := { dst := some 170, op := Op.load 2 (Operand.tmp 169), type := 2, pos := "laws.go:519", after := #[{ on := 21, ground := Ground.data }, { on := 8, ground := Ground.guard }], guard := some (8, false) }) (v := ?vvt4322) rfl (by kernel_rfl) (by kernel_rfl) (by kernel_rfl) (fun _ _ _ h => h) (Or.inl ⟨by rfl, ?hyt4322⟩) A ?restt4322
            case hyt4322 => (intro w hSw; have c2 := hSw.mem.b2.cell; have c3 := hSw.mem.b3.cell;go_simp <;> with_reducible rfl)
            try simp only [Act.put, List.setIfInBounds_toArray, List.set_cons_zero, List.set_cons_succ]
            try simp only [HL1.out]
            try simp only [HL2.out]
            refine wpAnyH_take (i := 23) (oi := { dst := some 171, op := Op.fieldAddr 34 (Operand.tmp 6) 2, type := 0, pos := "laws.go:519", after := #[{ on := 8, ground := Ground.guard }], guard := some (8, false) }) (v := ?vvt4323) rfl (by kernel_rfl) (by kernel_rfl) (by kernel_rfl) (fun _ _ _ h => h) (Or.inl ⟨by rfl, ?hyt4323⟩) A ?restt4323
            case hyt4323 => (intro w hSw; have c2 := hSw.mem.b2.cell; have c3 := hSw.mem.b3.cell;go_simp <;> with_reducible rfl)
            try simp only [Act.put, List.setIfInBounds_toArray, List.set_cons_zero, List.set_cons_succ]
            try simp only [HL1.out]
            try simp only [HL2.out]
            refine wpAnyH_take (i := 24) (oi := { dst := some 172, op := Op.load 2 (Operand.tmp 171), type := 2, pos := "laws.go:519", after := #[{ on := 23, ground := Ground.data }, { on := 8, ground := Ground.guard }], guard := some (8, false) }) (v := ?vvt4324) rfl (by kernel_rfl) (by kernel_rfl) (by kernel_rfl) (fun _ _ _ h => h) (Or.inl ⟨by rfl, ?hyt4324⟩) A ?restt4324
            case hyt4324 => (intro w hSw; have c2 := hSw.mem.b2.cell; have c3 := hSw.mem.b3.cell;go_simp <;> with_reducible rfl)
            try simp only [Act.put, List.setIfInBounds_toArray, List.set_cons_zero, List.set_cons_succ]
            try simp only [HL1.out]
            try simp only [HL2.out]
            refine wpAnyH_ready (rs := [17]) (by kernel_rfl) (by simp) ?_
            refine AllReadyH.cons (o := { dst := some 165, op := Op.call { callee := Callee.value (Operand.func 28), args := #[Operand.tmp 158, Operand.tmp 160, Operand.tmp 162, Operand.tmp 164], argTypes := #[25, 2, 2, 2] }, type := 2, pos := "laws.go:519", after := #[{ on := 10, ground := Ground.data }, { on := 12, ground := Ground.data }, { on := 14, ground := Ground.data }, { on := 16, ground := Ground.data }, { on := 8, ground := Ground.chain }, { on := 8, ground := Ground.guard }], guard := some (8, false) }) rfl (fun K hK => ?_) AllReadyH.nil
            go_simp
            refine (HIc.out XM _ r.vni r.mac r.tm _ (A.sls _ mem5) (by omega)).mono ?_
            rintro e u1 ⟨rfl, hb⟩
            rw [HPx.out]
            replace A := A.kept hb
            clear hb
            refine hK.out _ _ A (fun hHeld => ?_)
            clear hK K hHeld
            try simp only [Act.put, List.setIfInBounds_toArray, List.set_cons_zero, List.set_cons_succ]
            try simp only [HL1.out]
            try simp only [HL2.out]
            refine wpAnyH_ready (rs := [25]) (by kernel_rfl) (by simp) ?_
            refine AllReadyH.cons (o := { dst := some 173, op := Op.call { callee := Callee.value (Operand.func 27), args := #[Operand.tmp 166, Operand.tmp 168, Operand.tmp 170, Operand.tmp 172], argTypes := #[25, 2, 2, 2] }, type := 2, pos := "laws.go:519", after := #[{ on := 18, ground := Ground.data }, { on := 20, ground := Ground.data }, { on := 22, ground := Ground.data }, { on := 24, ground := Ground.data }, { on := 17, ground := Ground.chain }, { on := 8, ground := Ground.guard }], guard := some (8, false) }) rfl (fun K hK => ?_) AllReadyH.nil
            go_simp
            refine (HSc.out l _ r.vni r.mac r.tm _ (A.sls _ mem6) (by omega)).mono ?_
            rintro e u2 ⟨rfl, hb⟩
            replace A := A.kept hb
            clear hb
            refine hK.out _ _ A (fun hHeld => ?_)
            clear hK K hHeld
            try simp only [Act.put, List.setIfInBounds_toArray, List.set_cons_zero, List.set_cons_succ]
            try simp only [HL1.out]
            try simp only [HL2.out]
            refine wpAnyH_take (i := 26) (oi := { dst := some 174, op := Op.binOp BinOp.add 2 (Operand.tmp 173) (Operand.const (Value.int IntKind.i64 1)) 2, type := 2, pos := "laws.go:519", after := #[{ on := 25, ground := Ground.data }, { on := 8, ground := Ground.guard }], guard := some (8, false) }) (v := ?vvt4325) rfl (by kernel_rfl) (by kernel_rfl) (by kernel_rfl) (fun _ _ _ h => h) (Or.inl ⟨by rfl, ?hyt4325⟩) A ?restt4325
            case hyt4325 => (intro w hSw; have c2 := hSw.mem.b2.cell; have c3 := hSw.mem.b3.cell;go_simp <;> with_reducible rfl)
            try simp only [Act.put, List.setIfInBounds_toArray, List.set_cons_zero, List.set_cons_succ]
            try simp only [HL1.out]
            try simp only [HL2.out]
            refine wpAnyH_take (i := 27) (oi := { dst := some 175, op := Op.binOp BinOp.eql 2 (Operand.tmp 165) (Operand.tmp 174) 2, type := 4, pos := "laws.go:519", after := #[{ on := 17, ground := Ground.data }, { on := 26, ground := Ground.data }, { on := 8, ground := Ground.guard }], guard := some (8, false) }) (v := ?vvt4326) rfl (by kernel_rfl) (by kernel_rfl) (by kernel_rfl) (fun _ _ _ h => h) (Or.inl ⟨by rfl, ?hyt4326⟩) A ?restt4326
            case hyt4326 => (intro w hSw; have c2 := hSw.mem.b2.cell; have c3 := hSw.mem.b3.cell;go_simp <;> with_reducible rfl)
            try simp only [Act.put, List.setIfInBounds_toArray, List.set_cons_zero, List.set_cons_succ]
            try simp only [HL1.out]
            try simp only [HL2.out]
            refine wpAnyH_take (i := 28) (oi := { dst := some 176, op := Op.pick (Operand.tmp 156) (Operand.const (Value.bool true)) (Operand.tmp 175), type := 4, pos := "laws.go:519", after := #[{ on := 8, ground := Ground.data }, { on := 27, ground := Ground.data }], guard := none }) (v := ?vvt4327) rfl (by kernel_rfl) (by kernel_rfl) (by kernel_rfl) (fun _ _ _ h => h) (Or.inl ⟨by rfl, ?hyt4327⟩) A ?restt4327
            case hyt4327 => (intro w hSw; have c2 := hSw.mem.b2.cell; have c3 := hSw.mem.b3.cell;go_simp <;> with_reducible rfl)
            try simp only [Act.put, List.setIfInBounds_toArray, List.set_cons_zero, List.set_cons_succ]
            try simp only [HL1.out]
            try simp only [HL2.out]
            refine wpAnyH_take (i := 29) (oi := { dst := some 4, op := Op.assign (Operand.tmp 176), type := 4, pos := "laws.go:519", after := #[{ on := 28, ground := Ground.data }, { on := 25, ground := Ground.chain }, { on := 0, ground := Ground.phase }, { on := 1, ground := Ground.phase }, { on := 2, ground := Ground.phase }, { on := 3, ground := Ground.phase }, { on := 4, ground := Ground.phase }, { on := 5, ground := Ground.phase }, { on := 6, ground := Ground.phase }, { on := 7, ground := Ground.phase }, { on := 8, ground := Ground.phase }, { on := 9, ground := Ground.phase }, { on := 10, ground := Ground.phase }, { on := 11, ground := Ground.phase }, { on := 12, ground := Ground.phase }, { on := 13, ground := Ground.phase }, { on := 14, ground := Ground.phase }, { on := 15, ground := Ground.phase }, { on := 16, ground := Ground.phase }, { on := 17, ground := Ground.phase }, { on := 18, ground := Ground.phase }, { on := 19, ground := Ground.phase }, { on := 20, ground := Ground.phase }, { on := 21, ground := Ground.phase }, { on := 22, ground := Ground.phase }, { on := 23, ground := Ground.phase }, { on := 24, ground := Ground.phase }, { on := 25, ground := Ground.phase }, { on := 26, ground := Ground.phase }, { on := 27, ground := Ground.phase }, { on := 28, ground := Ground.phase }], guard := none }) (v := ?vvt4328) rfl (by kernel_rfl) (by kernel_rfl) (by kernel_rfl) (fun _ _ _ h => h) (Or.inl ⟨by rfl, ?hyt4328⟩) A ?restt4328
            case hyt4328 => (intro w hSw; have c2 := hSw.mem.b2.cell; have c3 := hSw.mem.b3.cell;go_simp <;> with_reducible rfl)
            try simp only [Act.put, List.setIfInBounds_toArray, List.set_cons_zero, List.set_cons_succ]
            try simp only [HL1.out]
            try simp only [HL2.out]
            refine wpAnyH_done (by kernel_rfl) ?_ _
            all_goals
              have HB := Lib.hid A.bel
              go_wp2_with fail
              go_ret
              exact ⟨rfl, HB.out⟩
        · clear HPn
          have HX1 : Hid (decide (xk = 0) = false) := Lib.hid (decide_eq_false hx0)
          have HX2 : Hid ((xk == 0) = false) := Lib.hid (by simpa using hx0)
          have HX3 : Hid ((xk != 0) = true) := Lib.hid (by simpa using hx0)
          have HX4 : Hid (Bool.not false = true) := Lib.hid rfl
          go_upto_region 21 with fail
          replace A := A.drew
          refine wp_region_held_drew (S := fun W' => FwM w W' _ _) (by kernel_rfl) A (fun hHeld => ?_)
          clear hHeld
          refine wpAnyH_take (i := 0) (oi := { dst := some 148, op := Op.fieldAddr 32 (Operand.tmp 7) 1, type := 0, pos := "laws.go:519", after := #[], guard := none }) (v := ?vvt411) rfl (by kernel_rfl) (by kernel_rfl) (by kernel_rfl) (fun _ _ _ h => h) (Or.inl ⟨by rfl, ?hyt411⟩) A ?restt411
          case hyt411 => (intro w hSw; have c2 := hSw.mem.b2.cell; have c3 := hSw.mem.b3.cell;go_simp <;> with_reducible rfl)
          try simp only [Act.put, List.setIfInBounds_toArray, List.set_cons_zero, List.set_cons_succ]
          try simp only [HX1.out]
          try simp only [HX2.out]
          try simp only [HX3.out]
          try simp only [HX4.out]
          refine wpAnyH_take (i := 1) (oi := { dst := some 149, op := Op.load 2 (Operand.tmp 148), type := 2, pos := "laws.go:519", after := #[{ on := 0, ground := Ground.data }], guard := none }) (v := ?vvt412) rfl (by kernel_rfl) (by kernel_rfl) (by kernel_rfl) (fun _ _ _ h => h) (Or.inl ⟨by rfl, ?hyt412⟩) A ?restt412
          case hyt412 => (intro w hSw; have c2 := hSw.mem.b2.cell; have c3 := hSw.mem.b3.cell;go_simp <;> with_reducible rfl)
          try simp only [Act.put, List.setIfInBounds_toArray, List.set_cons_zero, List.set_cons_succ]
          try simp only [HX1.out]
          try simp only [HX2.out]
          try simp only [HX3.out]
          try simp only [HX4.out]
          refine wpAnyH_take (i := 2) (oi := { dst := some 150, op := Op.binOp BinOp.neq 2 (Operand.tmp 149) (Operand.const (Value.int IntKind.i64 0)) 2, type := 4, pos := "laws.go:519", after := #[{ on := 1, ground := Ground.data }], guard := none }) (v := ?vvt413) rfl (by kernel_rfl) (by kernel_rfl) (by kernel_rfl) (fun _ _ _ h => h) (Or.inl ⟨by rfl, ?hyt413⟩) A ?restt413
          case hyt413 => (intro w hSw; have c2 := hSw.mem.b2.cell; have c3 := hSw.mem.b3.cell;go_simp <;> with_reducible rfl)
          try simp only [Act.put, List.setIfInBounds_toArray, List.set_cons_zero, List.set_cons_succ]
          try simp only [HX1.out]
          try simp only [HX2.out]
          try simp only [HX3.out]
          try simp only [HX4.out]
          refine wpAnyH_take (i := 3) (oi := { dst := some 151, op := Op.move (Operand.tmp 150), type := 4, pos := "laws.go:519", after := #[{ on := 2, ground := Ground.data }], guard := none }) (v := ?vvt414) rfl (by kernel_rfl) (by kernel_rfl) (by kernel_rfl) (fun _ _ _ h => h) (Or.inl ⟨by rfl, ?hyt414⟩) A ?restt414
          case hyt414 => (intro w hSw; have c2 := hSw.mem.b2.cell; have c3 := hSw.mem.b3.cell;go_simp <;> with_reducible rfl)
          try simp only [Act.put, List.setIfInBounds_toArray, List.set_cons_zero, List.set_cons_succ]
          try simp only [HX1.out]
          try simp only [HX2.out]
          try simp only [HX3.out]
          try simp only [HX4.out]
          refine wpAnyH_take (i := 4) (oi := { dst := some 152, op := Op.move (Operand.tmp 5), type := 25, pos := "laws.go:519", after := #[{ on := 3, ground := Ground.guard }], guard := some (3, false) }) (v := undef) rfl (by kernel_rfl) (by kernel_rfl) (by kernel_rfl) (fun _ _ _ h => h) (Or.inr ⟨by rfl, rfl⟩) A ?_
          try simp only [Act.put, List.setIfInBounds_toArray, List.set_cons_zero, List.set_cons_succ]
          try simp only [HX1.out]
          try simp only [HX2.out]
          try simp only [HX3.out]
          try simp only [HX4.out]
          refine wpAnyH_take (i := 5) (oi := { dst := some 153, op := Op.call { callee := Callee.builtin Builtin.len, args := #[Operand.tmp 152], argTypes := #[25] }, type := 3, pos := "laws.go:519", after := #[{ on := 4, ground := Ground.data }, { on := 3, ground := Ground.guard }], guard := some (3, false) }) (v := undef) rfl (by kernel_rfl) (by kernel_rfl) (by kernel_rfl) (fun _ _ _ h => h) (Or.inr ⟨by rfl, rfl⟩) A ?_
          try simp only [Act.put, List.setIfInBounds_toArray, List.set_cons_zero, List.set_cons_succ]
          try simp only [HX1.out]
          try simp only [HX2.out]
          try simp only [HX3.out]
          try simp only [HX4.out]
          refine wpAnyH_take (i := 6) (oi := { dst := some 154, op := Op.binOp BinOp.geq 3 (Operand.tmp 153) (Operand.const (Value.int IntKind.i64 30)) 3, type := 4, pos := "laws.go:519", after := #[{ on := 5, ground := Ground.data }, { on := 3, ground := Ground.guard }], guard := some (3, false) }) (v := undef) rfl (by kernel_rfl) (by kernel_rfl) (by kernel_rfl) (fun _ _ _ h => h) (Or.inr ⟨by rfl, rfl⟩) A ?_
          try simp only [Act.put, List.setIfInBounds_toArray, List.set_cons_zero, List.set_cons_succ]
          try simp only [HX1.out]
          try simp only [HX2.out]
          try simp only [HX3.out]
          try simp only [HX4.out]
          refine wpAnyH_take (i := 7) (oi := { dst := some 155, op := Op.pick (Operand.tmp 151) (Operand.const (Value.bool true)) (Operand.tmp 154), type := 4, pos := "laws.go:519", after := #[{ on := 3, ground := Ground.data }, { on := 6, ground := Ground.data }], guard := none }) (v := ?vvt418) rfl (by kernel_rfl) (by kernel_rfl) (by kernel_rfl) (fun _ _ _ h => h) (Or.inl ⟨by rfl, ?hyt418⟩) A ?restt418
          case hyt418 => (intro w hSw; have c2 := hSw.mem.b2.cell; have c3 := hSw.mem.b3.cell;go_simp <;> with_reducible rfl)
          try simp only [Act.put, List.setIfInBounds_toArray, List.set_cons_zero, List.set_cons_succ]
          try simp only [HX1.out]
          try simp only [HX2.out]
          try simp only [HX3.out]
          try simp only [HX4.out]
          refine wpAnyH_take (i := 8) (oi := { dst := some 156, op := Op.move (Operand.tmp 155), type := 4, pos := "laws.go:519", after := #[{ on := 7, ground := Ground.data }, { on := 3, ground := Ground.chain }], guard := none }) (v := ?vvt419) rfl (by kernel_rfl) (by kernel_rfl) (by kernel_rfl) (fun _ _ _ h => h) (Or.inl ⟨by rfl, ?hyt419⟩) A ?restt419
          case hyt419 => (intro w hSw; have c2 := hSw.mem.b2.cell; have c3 := hSw.mem.b3.cell;go_simp <;> with_reducible rfl)
          try simp only [Act.put, List.setIfInBounds_toArray, List.set_cons_zero, List.set_cons_succ]
          try simp only [HX1.out]
          try simp only [HX2.out]
          try simp only [HX3.out]
          try simp only [HX4.out]
          refine wpAnyH_take (i := 9) (oi := { dst := some 157, op := Op.fieldAddr 32 (Operand.tmp 7) 0, type := 0, pos := "laws.go:519", after := #[{ on := 8, ground := Ground.guard }], guard := some (8, false) }) (v := undef) rfl (by kernel_rfl) (by kernel_rfl) (by kernel_rfl) (fun _ _ _ h => h) (Or.inr ⟨by rfl, rfl⟩) A ?_
          try simp only [Act.put, List.setIfInBounds_toArray, List.set_cons_zero, List.set_cons_succ]
          try simp only [HX1.out]
          try simp only [HX2.out]
          try simp only [HX3.out]
          try simp only [HX4.out]
          refine wpAnyH_take (i := 10) (oi := { dst := some 158, op := Op.load 25 (Operand.tmp 157), type := 25, pos := "laws.go:519", after := #[{ on := 9, ground := Ground.data }, { on := 8, ground := Ground.guard }], guard := some (8, false) }) (v := undef) rfl (by kernel_rfl) (by kernel_rfl) (by kernel_rfl) (fun _ _ _ h => h) (Or.inr ⟨by rfl, rfl⟩) A ?_
          try simp only [Act.put, List.setIfInBounds_toArray, List.set_cons_zero, List.set_cons_succ]
          try simp only [HX1.out]
          try simp only [HX2.out]
          try simp only [HX3.out]
          try simp only [HX4.out]
          refine wpAnyH_take (i := 11) (oi := { dst := some 159, op := Op.fieldAddr 34 (Operand.tmp 6) 0, type := 0, pos := "laws.go:519", after := #[{ on := 8, ground := Ground.guard }], guard := some (8, false) }) (v := undef) rfl (by kernel_rfl) (by kernel_rfl) (by kernel_rfl) (fun _ _ _ h => h) (Or.inr ⟨by rfl, rfl⟩) A ?_
          try simp only [Act.put, List.setIfInBounds_toArray, List.set_cons_zero, List.set_cons_succ]
          try simp only [HX1.out]
          try simp only [HX2.out]
          try simp only [HX3.out]
          try simp only [HX4.out]
          refine wpAnyH_take (i := 12) (oi := { dst := some 160, op := Op.load 2 (Operand.tmp 159), type := 2, pos := "laws.go:519", after := #[{ on := 11, ground := Ground.data }, { on := 8, ground := Ground.guard }], guard := some (8, false) }) (v := undef) rfl (by kernel_rfl) (by kernel_rfl) (by kernel_rfl) (fun _ _ _ h => h) (Or.inr ⟨by rfl, rfl⟩) A ?_
          try simp only [Act.put, List.setIfInBounds_toArray, List.set_cons_zero, List.set_cons_succ]
          try simp only [HX1.out]
          try simp only [HX2.out]
          try simp only [HX3.out]
          try simp only [HX4.out]
          refine wpAnyH_take (i := 13) (oi := { dst := some 161, op := Op.fieldAddr 34 (Operand.tmp 6) 1, type := 0, pos := "laws.go:519", after := #[{ on := 8, ground := Ground.guard }], guard := some (8, false) }) (v := undef) rfl (by kernel_rfl) (by kernel_rfl) (by kernel_rfl) (fun _ _ _ h => h) (Or.inr ⟨by rfl, rfl⟩) A ?_
          try simp only [Act.put, List.setIfInBounds_toArray, List.set_cons_zero, List.set_cons_succ]
          try simp only [HX1.out]
          try simp only [HX2.out]
          try simp only [HX3.out]
          try simp only [HX4.out]
          refine wpAnyH_take (i := 14) (oi := { dst := some 162, op := Op.load 2 (Operand.tmp 161), type := 2, pos := "laws.go:519", after := #[{ on := 13, ground := Ground.data }, { on := 8, ground := Ground.guard }], guard := some (8, false) }) (v := undef) rfl (by kernel_rfl) (by kernel_rfl) (by kernel_rfl) (fun _ _ _ h => h) (Or.inr ⟨by rfl, rfl⟩) A ?_
          try simp only [Act.put, List.setIfInBounds_toArray, List.set_cons_zero, List.set_cons_succ]
          try simp only [HX1.out]
          try simp only [HX2.out]
          try simp only [HX3.out]
          try simp only [HX4.out]
          refine wpAnyH_take (i := 15) (oi := { dst := some 163, op := Op.fieldAddr 34 (Operand.tmp 6) 2, type := 0, pos := "laws.go:519", after := #[{ on := 8, ground := Ground.guard }], guard := some (8, false) }) (v := undef) rfl (by kernel_rfl) (by kernel_rfl) (by kernel_rfl) (fun _ _ _ h => h) (Or.inr ⟨by rfl, rfl⟩) A ?_
          try simp only [Act.put, List.setIfInBounds_toArray, List.set_cons_zero, List.set_cons_succ]
          try simp only [HX1.out]
          try simp only [HX2.out]
          try simp only [HX3.out]
          try simp only [HX4.out]
          refine wpAnyH_take (i := 16) (oi := { dst := some 164, op := Op.load 2 (Operand.tmp 163), type := 2, pos := "laws.go:519", after := #[{ on := 15, ground := Ground.data }, { on := 8, ground := Ground.guard }], guard := some (8, false) }) (v := undef) rfl (by kernel_rfl) (by kernel_rfl) (by kernel_rfl) (fun _ _ _ h => h) (Or.inr ⟨by rfl, rfl⟩) A ?_
          try simp only [Act.put, List.setIfInBounds_toArray, List.set_cons_zero, List.set_cons_succ]
          try simp only [HX1.out]
          try simp only [HX2.out]
          try simp only [HX3.out]
          try simp only [HX4.out]
          refine wpAnyH_take (i := 17) (oi := { dst := some 165, op := Op.call { callee := Callee.value (Operand.func 28), args := #[Operand.tmp 158, Operand.tmp 160, Operand.tmp 162, Operand.tmp 164], argTypes := #[25, 2, 2, 2] }, type := 2, pos := "laws.go:519", after := #[{ on := 10, ground := Ground.data }, { on := 12, ground := Ground.data }, { on := 14, ground := Ground.data }, { on := 16, ground := Ground.data }, { on := 8, ground := Ground.chain }, { on := 8, ground := Ground.guard }], guard := some (8, false) }) (v := undef) rfl (by kernel_rfl) (by kernel_rfl) (by kernel_rfl) (fun _ _ _ h => h) (Or.inr ⟨by rfl, rfl⟩) A ?_
          try simp only [Act.put, List.setIfInBounds_toArray, List.set_cons_zero, List.set_cons_succ]
          try simp only [HX1.out]
          try simp only [HX2.out]
          try simp only [HX3.out]
          try simp only [HX4.out]
          refine wpAnyH_take (i := 18) (oi := { dst := some 166, op := Op.move (Operand.tmp 5), type := 25, pos := "laws.go:519", after := #[{ on := 8, ground := Ground.guard }], guard := some (8, false) }) (v := undef) rfl (by kernel_rfl) (by kernel_rfl) (by kernel_rfl) (fun _ _ _ h => h) (Or.inr ⟨by rfl, rfl⟩) A ?_
          try simp only [Act.put, List.setIfInBounds_toArray, List.set_cons_zero, List.set_cons_succ]
          try simp only [HX1.out]
          try simp only [HX2.out]
          try simp only [HX3.out]
          try simp only [HX4.out]
          refine wpAnyH_take (i := 19) (oi := { dst := some 167, op := Op.fieldAddr 34 (Operand.tmp 6) 0, type := 0, pos := "laws.go:519", after := #[{ on := 8, ground := Ground.guard }], guard := some (8, false) }) (v := undef) rfl (by kernel_rfl) (by kernel_rfl) (by kernel_rfl) (fun _ _ _ h => h) (Or.inr ⟨by rfl, rfl⟩) A ?_
          try simp only [Act.put, List.setIfInBounds_toArray, List.set_cons_zero, List.set_cons_succ]
          try simp only [HX1.out]
          try simp only [HX2.out]
          try simp only [HX3.out]
          try simp only [HX4.out]
          refine wpAnyH_take (i := 20) (oi := { dst := some 168, op := Op.load 2 (Operand.tmp 167), type := 2, pos := "laws.go:519", after := #[{ on := 19, ground := Ground.data }, { on := 8, ground := Ground.guard }], guard := some (8, false) }) (v := undef) rfl (by kernel_rfl) (by kernel_rfl) (by kernel_rfl) (fun _ _ _ h => h) (Or.inr ⟨by rfl, rfl⟩) A ?_
          try simp only [Act.put, List.setIfInBounds_toArray, List.set_cons_zero, List.set_cons_succ]
          try simp only [HX1.out]
          try simp only [HX2.out]
          try simp only [HX3.out]
          try simp only [HX4.out]
          refine wpAnyH_take (i := 21) (oi := { dst := some 169, op := Op.fieldAddr 34 (Operand.tmp 6) 1, type := 0, pos := "laws.go:519", after := #[{ on := 8, ground := Ground.guard }], guard := some (8, false) }) (v := undef) rfl (by kernel_rfl) (by kernel_rfl) (by kernel_rfl) (fun _ _ _ h => h) (Or.inr ⟨by rfl, rfl⟩) A ?_
          try simp only [Act.put, List.setIfInBounds_toArray, List.set_cons_zero, List.set_cons_succ]
          try simp only [HX1.out]
          try simp only [HX2.out]
          try simp only [HX3.out]
          try simp only [HX4.out]
          refine wpAnyH_take (i := 22) (oi := { dst := some 170, op := Op.load 2 (Operand.tmp 169), type := 2, pos := "laws.go:519", after := #[{ on := 21, ground := Ground.data }, { on := 8, ground := Ground.guard }], guard := some (8, false) }) (v := undef) rfl (by kernel_rfl) (by kernel_rfl) (by kernel_rfl) (fun _ _ _ h => h) (Or.inr ⟨by rfl, rfl⟩) A ?_
          try simp only [Act.put, List.setIfInBounds_toArray, List.set_cons_zero, List.set_cons_succ]
          try simp only [HX1.out]
          try simp only [HX2.out]
          try simp only [HX3.out]
          try simp only [HX4.out]
          refine wpAnyH_take (i := 23) (oi := { dst := some 171, op := Op.fieldAddr 34 (Operand.tmp 6) 2, type := 0, pos := "laws.go:519", after := #[{ on := 8, ground := Ground.guard }], guard := some (8, false) }) (v := undef) rfl (by kernel_rfl) (by kernel_rfl) (by kernel_rfl) (fun _ _ _ h => h) (Or.inr ⟨by rfl, rfl⟩) A ?_
          try simp only [Act.put, List.setIfInBounds_toArray, List.set_cons_zero, List.set_cons_succ]
          try simp only [HX1.out]
          try simp only [HX2.out]
          try simp only [HX3.out]
          try simp only [HX4.out]
          refine wpAnyH_take (i := 24) (oi := { dst := some 172, op := Op.load 2 (Operand.tmp 171), type := 2, pos := "laws.go:519", after := #[{ on := 23, ground := Ground.data }, { on := 8, ground := Ground.guard }], guard := some (8, false) }) (v := undef) rfl (by kernel_rfl) (by kernel_rfl) (by kernel_rfl) (fun _ _ _ h => h) (Or.inr ⟨by rfl, rfl⟩) A ?_
          try simp only [Act.put, List.setIfInBounds_toArray, List.set_cons_zero, List.set_cons_succ]
          try simp only [HX1.out]
          try simp only [HX2.out]
          try simp only [HX3.out]
          try simp only [HX4.out]
          refine wpAnyH_take (i := 25) (oi := { dst := some 173, op := Op.call { callee := Callee.value (Operand.func 27), args := #[Operand.tmp 166, Operand.tmp 168, Operand.tmp 170, Operand.tmp 172], argTypes := #[25, 2, 2, 2] }, type := 2, pos := "laws.go:519", after := #[{ on := 18, ground := Ground.data }, { on := 20, ground := Ground.data }, { on := 22, ground := Ground.data }, { on := 24, ground := Ground.data }, { on := 17, ground := Ground.chain }, { on := 8, ground := Ground.guard }], guard := some (8, false) }) (v := undef) rfl (by kernel_rfl) (by kernel_rfl) (by kernel_rfl) (fun _ _ _ h => h) (Or.inr ⟨by rfl, rfl⟩) A ?_
          try simp only [Act.put, List.setIfInBounds_toArray, List.set_cons_zero, List.set_cons_succ]
          try simp only [HX1.out]
          try simp only [HX2.out]
          try simp only [HX3.out]
          try simp only [HX4.out]
          refine wpAnyH_take (i := 26) (oi := { dst := some 174, op := Op.binOp BinOp.add 2 (Operand.tmp 173) (Operand.const (Value.int IntKind.i64 1)) 2, type := 2, pos := "laws.go:519", after := #[{ on := 25, ground := Ground.data }, { on := 8, ground := Ground.guard }], guard := some (8, false) }) (v := undef) rfl (by kernel_rfl) (by kernel_rfl) (by kernel_rfl) (fun _ _ _ h => h) (Or.inr ⟨by rfl, rfl⟩) A ?_
          try simp only [Act.put, List.setIfInBounds_toArray, List.set_cons_zero, List.set_cons_succ]
          try simp only [HX1.out]
          try simp only [HX2.out]
          try simp only [HX3.out]
          try simp only [HX4.out]
          refine wpAnyH_take (i := 27) (oi := { dst := some 175, op := Op.binOp BinOp.eql 2 (Operand.tmp 165) (Operand.tmp 174) 2, type := 4, pos := "laws.go:519", after := #[{ on := 17, ground := Ground.data }, { on := 26, ground := Ground.data }, { on := 8, ground := Ground.guard }], guard := some (8, false) }) (v := undef) rfl (by kernel_rfl) (by kernel_rfl) (by kernel_rfl) (fun _ _ _ h => h) (Or.inr ⟨by rfl, rfl⟩) A ?_
          try simp only [Act.put, List.setIfInBounds_toArray, List.set_cons_zero, List.set_cons_succ]
          try simp only [HX1.out]
          try simp only [HX2.out]
          try simp only [HX3.out]
          try simp only [HX4.out]
          refine wpAnyH_take (i := 28) (oi := { dst := some 176, op := Op.pick (Operand.tmp 156) (Operand.const (Value.bool true)) (Operand.tmp 175), type := 4, pos := "laws.go:519", after := #[{ on := 8, ground := Ground.data }, { on := 27, ground := Ground.data }], guard := none }) (v := ?vvt4129) rfl (by kernel_rfl) (by kernel_rfl) (by kernel_rfl) (fun _ _ _ h => h) (Or.inl ⟨by rfl, ?hyt4129⟩) A ?restt4129
          case hyt4129 => (intro w hSw; have c2 := hSw.mem.b2.cell; have c3 := hSw.mem.b3.cell;go_simp <;> with_reducible rfl)
          try simp only [Act.put, List.setIfInBounds_toArray, List.set_cons_zero, List.set_cons_succ]
          try simp only [HX1.out]
          try simp only [HX2.out]
          try simp only [HX3.out]
          try simp only [HX4.out]
          refine wpAnyH_take (i := 29) (oi := { dst := some 4, op := Op.assign (Operand.tmp 176), type := 4, pos := "laws.go:519", after := #[{ on := 28, ground := Ground.data }, { on := 25, ground := Ground.chain }, { on := 0, ground := Ground.phase }, { on := 1, ground := Ground.phase }, { on := 2, ground := Ground.phase }, { on := 3, ground := Ground.phase }, { on := 4, ground := Ground.phase }, { on := 5, ground := Ground.phase }, { on := 6, ground := Ground.phase }, { on := 7, ground := Ground.phase }, { on := 8, ground := Ground.phase }, { on := 9, ground := Ground.phase }, { on := 10, ground := Ground.phase }, { on := 11, ground := Ground.phase }, { on := 12, ground := Ground.phase }, { on := 13, ground := Ground.phase }, { on := 14, ground := Ground.phase }, { on := 15, ground := Ground.phase }, { on := 16, ground := Ground.phase }, { on := 17, ground := Ground.phase }, { on := 18, ground := Ground.phase }, { on := 19, ground := Ground.phase }, { on := 20, ground := Ground.phase }, { on := 21, ground := Ground.phase }, { on := 22, ground := Ground.phase }, { on := 23, ground := Ground.phase }, { on := 24, ground := Ground.phase }, { on := 25, ground := Ground.phase }, { on := 26, ground := Ground.phase }, { on := 27, ground := Ground.phase }, { on := 28, ground := Ground.phase }], guard := none }) (v := ?vvt4130) rfl (by kernel_rfl) (by kernel_rfl) (by kernel_rfl) (fun _ _ _ h => h) (Or.inl ⟨by rfl, ?hyt4130⟩) A ?restt4130
          case hyt4130 => (intro w hSw; have c2 := hSw.mem.b2.cell; have c3 := hSw.mem.b3.cell;go_simp <;> with_reducible rfl)
          try simp only [Act.put, List.setIfInBounds_toArray, List.set_cons_zero, List.set_cons_succ]
          try simp only [HX1.out]
          try simp only [HX2.out]
          try simp only [HX3.out]
          try simp only [HX4.out]
          refine wpAnyH_done (by kernel_rfl) ?_ _
          all_goals
            have HB := Lib.hid A.bel
            go_wp2_with fail
            go_ret
            exact ⟨rfl, HB.out⟩

end Go.Proofs.Ythilmonokhdjmaa
