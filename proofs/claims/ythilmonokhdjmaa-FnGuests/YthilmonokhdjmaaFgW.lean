/- FnGuests: the walk. -/
import Derived.Test.YthilmonokhdjmaaLgG
import Derived.Test.YthilmonokhdjmaaGdR
import Derived.Test.YthilmonokhdjmaaAgS
import Derived.Test.YthilmonokhdjmaaRoG
import Derived.Test.YthilmonokhdjmaaDrawGy
namespace Go.Proofs.Ythilmonokhdjmaa
open Go.RowKit

def Slg (W : World) (M : List (Value × List Gu)) : Prop := ∀ q ∈ M, GusAt W q.1 q.2
theorem Slg.kept {W W' : World} {M : List (Value × List Gu)} (h : Slg W M) (hb : Below W.heap.size W W') : Slg W' M := fun q hq => SlAt.kept (h q hq) hb
theorem Slg.add {W : World} {M : List (Value × List Gu)} (h : Slg W M) {v : Value} {l : List Gu} (hl : GusAt W v l) : Slg W ((v, l) :: M) := fun q hq => by
  rcases List.mem_cons.1 hq with rfl | hq
  · exact hl
  · exact h q hq
theorem Slg.nil (W : World) : Slg W [] := fun q hq => by cases hq
structure FgM (w W : World) (L : List (Nat × TypeId × Array Value)) (M : List (Value × List Gu)) : Prop where
  mem : MemAt w L [] W
  sls : Slg W M
section
variable {w W W' : World} {L : List (Nat × TypeId × Array Value)} {M : List (Value × List Gu)}
theorem FgM.kept (h : FgM w W L M) (hb : Below W.heap.size W W') : FgM w W' L M := ⟨h.mem.kept hb, h.sls.kept hb⟩
theorem FgM.drew (h : FgM w W L M) : FgM w W.drew L M := ⟨h.mem.drew, h.sls⟩
theorem FgM.add (h : FgM w W L M) {v : Value} {l : List Gu} (hl : GusAt W v l) : FgM w W L ((v, l) :: M) := ⟨h.mem, h.sls.add hl⟩
theorem FgM.new (h : FgM w W L M) (t : TypeId) (cs : Array Value) : FgM w (W.alloc (.cells cs t)) ((W.heap.size, t, cs) :: L) M := ⟨h.mem.new t cs, h.sls.kept ((Below.refl _ _).alloc (Nat.le_refl _) _)⟩
theorem FgM.bel (h : FgM w W L M) : Below w.heap.size w W := h.mem.bel
theorem FgM.bytes (h : FgM w W L M) {a : Option Addr} {len : Nat} (hb : BytesAt w a len) : BytesAt W a len := bytes_below hb h.mem.bel
end
section
variable {α : Type} {x0 x1 x2 x3 x4 x5 x6 x7 x8 : α} {L : List α}
theorem mem0 : x0 ∈ x0 :: x1 :: x2 :: x3 :: x4 :: x5 :: x6 :: x7 :: x8 :: L := by simp
theorem mem1 : x1 ∈ x0 :: x1 :: x2 :: x3 :: x4 :: x5 :: x6 :: x7 :: x8 :: L := by simp
theorem mem2 : x2 ∈ x0 :: x1 :: x2 :: x3 :: x4 :: x5 :: x6 :: x7 :: x8 :: L := by simp
theorem mem3 : x3 ∈ x0 :: x1 :: x2 :: x3 :: x4 :: x5 :: x6 :: x7 :: x8 :: L := by simp
theorem mem4 : x4 ∈ x0 :: x1 :: x2 :: x3 :: x4 :: x5 :: x6 :: x7 :: x8 :: L := by simp
theorem mem5 : x5 ∈ x0 :: x1 :: x2 :: x3 :: x4 :: x5 :: x6 :: x7 :: x8 :: L := by simp
theorem mem6 : x6 ∈ x0 :: x1 :: x2 :: x3 :: x4 :: x5 :: x6 :: x7 :: x8 :: L := by simp
theorem mem7 : x7 ∈ x0 :: x1 :: x2 :: x3 :: x4 :: x5 :: x6 :: x7 :: x8 :: L := by simp
theorem mem8 : x8 ∈ x0 :: x1 :: x2 :: x3 :: x4 :: x5 :: x6 :: x7 :: x8 :: L := by simp
end
set_option maxRecDepth 100000 in
set_option maxHeartbeats 40000000 in
theorem fnGuests_main (a0 a1 : Option Addr) (len0 cap0 len1 cap1 : Nat) (w : World) (hy0 : BytesAt w a0 len0) (hy1 : BytesAt w a1 len1) (hl0 : len0 ≤ 1048576) (hl1 : len1 ≤ 1048576) :
    Calls Try.prog 9 #[.slice a0 len0 cap0, .slice a1 len1 cap1] w fun e w' => e = .returned (.bool true) ∧ Below w.heap.size w w' := by
  have hg0 : ¬ (1048576 : Int) < (len0 : Int) := by omega
  have hg1 : ¬ (1048576 : Int) < (len1 : Int) := by omega
  have HD1 := Lib.hid (fun (W : World) (h : BytesAt W a0 len0) => draw_guestPut (cap := cap0) hl0 h)
  have HD2 := Lib.hid (fun (W : World) (h : BytesAt W a1 len1) => draw_guestDrop (cap := cap1) hl1 h)
  have HD3 := Lib.hid (fun (W : World) (h : BytesAt W a1 len1) => draw_guestsAge (cap := cap1) hl1 h)
  have HD4 := Lib.hid (fun (W : World) (h : BytesAt W a0 len0) => draw_routeOf (cap := cap0) hl0 h)
  have HY0 := Lib.hid hy0
  have HY1 := Lib.hid hy1
  unfold GpDraw at HD1
  unfold GdDraw at HD2
  unfold GaDraw at HD3
  unfold RfDraw at HD4
  have A : FgM w w [] [] := ⟨MemAt.start w, Slg.nil w⟩
  clear hy0 hy1 hl0 hl1
  go_enter Try.func9, Try.ntmps9
  go_wp2_with fail
  refine (HD1.out _ (A.bytes HY0.out)).mono ?_
  rintro e w1 ⟨lv, l, r, rfl, ho, hl10, hb⟩
  have HNc := Lib.hid (NcOk.of_own ho)
  replace A := (A.kept hb).add (rows_of_own Gu.cl_len ho)
  obtain ⟨la, lc, rfl⟩ := rown_form ho
  clear ho hb HD1
  unfold Gu.val
  go_upto_region 4 with fail
  replace A := A.new 58 #[.int .i64 r.vni, .int .i64 r.mac, .int .i64 r.ip, .int .i64 r.door, .int .i64 r.seq, .int .i64 r.seen, .bool r.st]
  obtain ⟨W1, hW1⟩ : ∃ X, X = w1.alloc (.cells #[.int .i64 r.vni, .int .i64 r.mac, .int .i64 r.ip, .int .i64 r.door, .int .i64 r.seq, .int .i64 r.seen, .bool r.st] 58) := ⟨_, rfl⟩
  obtain ⟨qg, hqg⟩ : ∃ q, q = w1.heap.size := ⟨_, rfl⟩
  rw [← hW1, ← hqg] at A ⊢
  clear hW1 hqg
  have HIp := Lib.hid (fun (W : World) (h : GusAt W (.slice la l.length lc) l) => implGuestPut_any l _ r W h (by omega))
  have HSp := Lib.hid (fun (W : World) (h : GusAt W (.slice la l.length lc) l) => specGuestPut_any l _ r W h HNc.out (by omega))
  have HPok : Hid ((gputR l r).code = 0 → gusOk (gputR l r).gus = true) := Lib.hid (fun h => (gput_ok h).1)
  have HPat : Hid ((gputR l r).code = 0 → gaOf (gputR l r).gus r.vni r.mac = r) := Lib.hid (fun h => gput_at h)
  obtain ⟨hxl, hxl2⟩ := gputR_len l r
  unfold GoPost goV Gu.val at HIp HSp
  generalize gputR l r = X at *
  have hcB := A.mem.b0.cell
  go_wp2_with fail
  refine (HIp.out _ (A.sls _ (.head _))).mono ?_
  rintro e w2 ⟨xv, xt, rfl, ho1, ho2, _, hb⟩
  replace A := ((A.kept hb).add (rows_of_own Gu.cl_len ho1)).add (rows_of_own Gu.cl_len ho2)
  obtain ⟨xa, xc, rfl⟩ := rown_form ho1
  obtain ⟨oa, oc, rfl⟩ := rown_form ho2
  clear ho1 ho2 hb hcB HIp HNc
  go_upto_region 5 with fail
  replace A := A.new 62 #[.slice xa X.gus.length xc, .slice oa X.gone.length oc, .int .i64 X.code]
  obtain ⟨W2, hW2⟩ : ∃ Y, Y = w2.alloc (.cells #[.slice xa X.gus.length xc, .slice oa X.gone.length oc, .int .i64 X.code] 62) := ⟨_, rfl⟩
  obtain ⟨qx, hqx⟩ : ∃ q, q = w2.heap.size := ⟨_, rfl⟩
  rw [← hW2, ← hqx] at A ⊢
  clear hW2 hqx
  go_wp2_with fail
  refine (HD2.out _ (A.bytes HY1.out)).mono ?_
  rintro e w3 ⟨dv, d, dx, dy, rfl, ho, hd10, hb⟩
  replace A := (A.kept hb).add (rows_of_own Gu.cl_len ho)
  obtain ⟨da, dc, rfl⟩ := rown_form ho
  clear ho hb HD2
  have HId := Lib.hid (fun (W : World) (h : GusAt W (.slice da d.length dc) d) => implGuestDrop_any d _ dx dy W h (by omega))
  have HSd := Lib.hid (fun (W : World) (h : GusAt W (.slice da d.length dc) d) => specGuestDrop_any d _ dx dy W h (by omega))
  have HDok : Hid ((gdropR d dx dy).code = 0 → gusOk (gdropR d dx dy).gus = true) := Lib.hid (fun h => (gdrop_ok h).ok)
  have HDat : Hid ((gdropR d dx dy).code = 0 → gaOf (gdropR d dx dy).gus dx dy = Gu.zero) := Lib.hid (fun h => (gdrop_ok h).at')
  have HDln : Hid ((gdropR d dx dy).code = 0 → (gdropR d dx dy).gus.length + 1 = d.length) := Lib.hid (fun h => (gdrop_ok h).len)
  have HDone : Hid ((gdropR d dx dy).code = 0 → ∃ x, (gdropR d dx dy).gone = [x] ∧ (gputR (gdropR d dx dy).gus x).gus = d) := Lib.hid (fun h => (gdrop_ok h).one)
  obtain ⟨hyl, hyl2⟩ := gdropR_len d dx dy
  unfold GoPost goV at HId HSd
  generalize gdropR d dx dy = Y at *
  go_wp2_with fail
  refine (HId.out _ (A.sls _ (.head _))).mono ?_
  rintro e w4 ⟨yv, yt, rfl, ho1, ho2, _, hb⟩
  replace A := ((A.kept hb).add (rows_of_own Gu.cl_len ho1)).add (rows_of_own Gu.cl_len ho2)
  obtain ⟨ya, yc, rfl⟩ := rown_form ho1
  obtain ⟨pa, pc, rfl⟩ := rown_form ho2
  clear ho1 ho2 hb HId
  go_upto_region 7 with fail
  replace A := A.new 62 #[.slice ya Y.gus.length yc, .slice pa Y.gone.length pc, .int .i64 Y.code]
  obtain ⟨W3, hW3⟩ : ∃ Z, Z = w4.alloc (.cells #[.slice ya Y.gus.length yc, .slice pa Y.gone.length pc, .int .i64 Y.code] 62) := ⟨_, rfl⟩
  obtain ⟨qy, hqy⟩ : ∃ q, q = w4.heap.size := ⟨_, rfl⟩
  rw [← hW3, ← hqy] at A ⊢
  clear hW3 hqy
  go_wp2_with fail
  refine (HD3.out _ (A.bytes HY1.out)).mono ?_
  rintro e w5 ⟨av, a, now, rfl, ho, ha10, hb⟩
  replace A := (A.kept hb).add (rows_of_own Gu.cl_len ho)
  obtain ⟨aa, ac, rfl⟩ := rown_form ho
  clear ho hb HD3
  have HIa := Lib.hid (fun (W : World) (h : GusAt W (.slice aa a.length ac) a) => implGuestsAge_any a _ now W h (by omega))
  have HSa := Lib.hid (fun (W : World) (h : GusAt W (.slice aa a.length ac) a) => specGuestsAge_any a _ now W h (by omega))
  have HAok : Hid ((ageR a now).code = 0 → gusOk (ageR a now).gus = true) := Lib.hid (fun h => (gage_ok h).1)
  have HAln : Hid ((ageR a now).code = 0 → (ageR a now).gus.length + (ageR a now).gone.length = a.length) := Lib.hid (fun h => (gage_ok h).2)
  have HAgo : Hid (∀ x ∈ (ageR a now).gone, x.st = false ∧ x.seen < now - 200 ∧ 0 ≤ now ∧ now ≤ 1000000) := Lib.hid (fun x hx => gage_gone x hx)
  obtain ⟨hzl, hzl2⟩ := ageR_len a now
  unfold GoPost goV at HIa HSa
  generalize ageR a now = Z at *
  go_wp2_with fail
  refine (HIa.out _ (A.sls _ (.head _))).mono ?_
  rintro e w6 ⟨zv, zt, rfl, ho1, ho2, _, hb⟩
  replace A := ((A.kept hb).add (rows_of_own Gu.cl_len ho1)).add (rows_of_own Gu.cl_len ho2)
  obtain ⟨za, zc, rfl⟩ := rown_form ho1
  obtain ⟨ua, uc, rfl⟩ := rown_form ho2
  clear ho1 ho2 hb HIa
  go_upto_region 9 with fail
  replace A := A.new 62 #[.slice za Z.gus.length zc, .slice ua Z.gone.length uc, .int .i64 Z.code]
  obtain ⟨W4, hW4⟩ : ∃ V, V = w6.alloc (.cells #[.slice za Z.gus.length zc, .slice ua Z.gone.length uc, .int .i64 Z.code] 62) := ⟨_, rfl⟩
  obtain ⟨qz, hqz⟩ : ∃ q, q = w6.heap.size := ⟨_, rfl⟩
  rw [← hW4, ← hqz] at A ⊢
  clear hW4 hqz
  go_wp2_with fail
  refine (HD4.out _ (A.bytes HY0.out)).mono ?_
  rintro e w7 ⟨k, kn, rfl, hb⟩
  replace A := A.kept hb
  clear hb HD4 HY0 HY1
  have HIr := Lib.hid (fun (W : World) => implRouteOf_any k kn W)
  have HSr := Lib.hid (fun (W : World) => specRouteOf_any k kn W)
  unfold Gu.val Rt.val rtV at HIr HSr
  generalize roG k kn = KR at *
  unfold Gu.val
  go_upto_region 10 with fail
  replace A := A.new 58 #[.int .i64 k.vni, .int .i64 k.mac, .int .i64 k.ip, .int .i64 k.door, .int .i64 k.seq, .int .i64 k.seen, .bool k.st]
  obtain ⟨W5, hW5⟩ : ∃ X, X = w7.alloc (.cells #[.int .i64 k.vni, .int .i64 k.mac, .int .i64 k.ip, .int .i64 k.door, .int .i64 k.seq, .int .i64 k.seen, .bool k.st] 58) := ⟨_, rfl⟩
  obtain ⟨qk, hqk⟩ : ∃ q, q = w7.heap.size := ⟨_, rfl⟩
  rw [← hW5, ← hqk] at A ⊢
  clear hW5 hqk
  have HLw := Lib.hid (fun (K K' : List Gu) (c : Int) (v v' t t' : Value) (W : World) (h : GusAt W v K) (h' : GusAt W v' K) (k1 : GusAt W t K') (k2 : GusAt W t' K') (hn : K.length ≤ 30) (hm : K'.length ≤ 30) (hk : c = 0 → gusOk K = true) => lwGuests_any K K' c v v' t t' W h h' k1 k2 (by omega) (by omega) hk)
  have HLr := Lib.hid (fun (v v' : Value) (W : World) (h : GusAt W v d) (h' : GusAt W v' d) => lwGuestRow_any d v v' W h h' (by omega))
  have HIt := Lib.hid (fun (W : World) (h : GusAt W (.slice da d.length dc) d) => implGuestAt_any d _ dx dy W h (by omega))
  have HSt := Lib.hid (fun (W : World) (h : GusAt W (.slice da d.length dc) d) => specGuestAt_any d _ dx dy W h (by omega))
  have HIg := Lib.hid (fun (W : World) (h : GusAt W (.slice la l.length lc) l) => implGuestsRight_any l _ W h (by omega))
  have HSg := Lib.hid (fun (W : World) (h : GusAt W (.slice la l.length lc) l) => specGuestsRight_any l _ W h (by omega))
  have HIy := Lib.hid (fun (hc : Y.code = 0) (W : World) (h : GusAt W (.slice ya Y.gus.length yc) Y.gus) => (show Calls Try.prog 49 #[.slice ya Y.gus.length yc, .int .i64 dx, .int .i64 dy] W fun e w' => e = .returned (.agg #[.int .i64 0, .int .i64 0, .int .i64 0, .int .i64 0, .int .i64 0, .int .i64 0, .bool false]) ∧ Below W.heap.size W w' from by have := implGuestAt_any Y.gus _ dx dy W h (by omega); rw [HDat.out hc] at this; exact this))
  have HIx := Lib.hid (fun (hc : X.code = 0) (W : World) (h : GusAt W (.slice xa X.gus.length xc) X.gus) => (show Calls Try.prog 49 #[.slice xa X.gus.length xc, .int .i64 r.vni, .int .i64 r.mac] W fun e w' => e = .returned (.agg #[.int .i64 r.vni, .int .i64 r.mac, .int .i64 r.ip, .int .i64 r.door, .int .i64 r.seq, .int .i64 r.seen, .bool r.st]) ∧ Below W.heap.size W w' from by have := implGuestAt_any X.gus _ r.vni r.mac W h (by omega); rw [HPat.out hc] at this; exact this))
  have HIq := Lib.hid (fun (x : Gu) (hx : (gputR Y.gus x).gus = d) (W : World) (h : GusAt W (.slice ya Y.gus.length yc) Y.gus) => (show Calls Try.prog 39 #[.slice ya Y.gus.length yc, .agg #[.int .i64 x.vni, .int .i64 x.mac, .int .i64 x.ip, .int .i64 x.door, .int .i64 x.seq, .int .i64 x.seen, .bool x.st]] W fun e w' => ∃ v ta n tc c, e = .returned (.agg #[v, .slice ta n tc, .int .i64 c]) ∧ w'.ownsRow W.heap.size 58 7 v d.length (rcells Gu.cl d) ∧ Below W.heap.size W w' from (implGuestPut_any Y.gus _ x W h (by omega)).mono (fun e w' hp => by obtain ⟨v, t, he, h1, h3, _, h2⟩ := hp; rw [hx] at h1; obtain ⟨ta, tc, rfl⟩ := rown_form h3; exact ⟨v, ta, _, tc, _, he, h1, h2⟩)))
  unfold GrPost at HIg HSg
  unfold goV at HLw
  unfold Gu.val at HIt HSt
  clear HDat HPat
  generalize gusOk l = RL at HIg HSg
  generalize gaOf d dx dy = DG at HIt HSt
  obtain ⟨xk, hxk⟩ : ∃ k, k = X.code := ⟨_, rfl⟩
  obtain ⟨yk, hyk⟩ : ∃ k, k = Y.code := ⟨_, rfl⟩
  obtain ⟨zk, hzk⟩ : ∃ k, k = Z.code := ⟨_, rfl⟩
  rw [← hxk] at HPok HIx HSp A ⊢
  rw [← hyk] at HDok HDln HDone HIy HSd A ⊢
  rw [← hzk] at HAok HAln HSa A ⊢
  clear hxk hyk hzk
  generalize X.gus = XM at *
  generalize X.gone = XO at *
  generalize Y.gus = YM at *
  generalize Y.gone = YO at *
  generalize Z.gus = ZM at *
  generalize Z.gone = ZO at *
  clear X Y Z
  replace A := A.drew
  refine wp_region_held_drew (S := fun W' => FgM w W' _ _) (by kernel_rfl) A (fun hHeld => ?_)
  clear hHeld
  generalize W5.drew = Wd at A ⊢
  refine wpAnyH_take (i := 0) (oi := { dst := some 57, op := Op.load 62 (Operand.tmp 7), type := 62, pos := "laws.go:464", after := #[], guard := none }) (v := ?vva1) rfl (by kernel_rfl) (by kernel_rfl) (by kernel_rfl) (fun _ _ _ h => h) (Or.inl ⟨by rfl, ?hya1⟩) A ?resta1
  case hya1 => (intro w hSw; have c0 := hSw.mem.b0.cell; have c1 := hSw.mem.b1.cell; have c2 := hSw.mem.b2.cell; have c3 := hSw.mem.b3.cell; have c4 := hSw.mem.b4.cell;go_simp <;> with_reducible rfl)
  try simp only [Act.put, List.setIfInBounds_toArray, List.set_cons_zero, List.set_cons_succ]
  refine wpAnyH_take (i := 1) (oi := { dst := some 58, op := Op.move (Operand.tmp 5), type := 56, pos := "laws.go:464", after := #[], guard := none }) (v := ?vva2) rfl (by kernel_rfl) (by kernel_rfl) (by kernel_rfl) (fun _ _ _ h => h) (Or.inl ⟨by rfl, ?hya2⟩) A ?resta2
  case hya2 => (intro w hSw; have c0 := hSw.mem.b0.cell; have c1 := hSw.mem.b1.cell; have c2 := hSw.mem.b2.cell; have c3 := hSw.mem.b3.cell; have c4 := hSw.mem.b4.cell;go_simp <;> with_reducible rfl)
  try simp only [Act.put, List.setIfInBounds_toArray, List.set_cons_zero, List.set_cons_succ]
  refine wpAnyH_take (i := 2) (oi := { dst := some 59, op := Op.load 58 (Operand.tmp 6), type := 58, pos := "laws.go:464", after := #[], guard := none }) (v := ?vva3) rfl (by kernel_rfl) (by kernel_rfl) (by kernel_rfl) (fun _ _ _ h => h) (Or.inl ⟨by rfl, ?hya3⟩) A ?resta3
  case hya3 => (intro w hSw; have c0 := hSw.mem.b0.cell; have c1 := hSw.mem.b1.cell; have c2 := hSw.mem.b2.cell; have c3 := hSw.mem.b3.cell; have c4 := hSw.mem.b4.cell;go_simp <;> with_reducible rfl)
  try simp only [Act.put, List.setIfInBounds_toArray, List.set_cons_zero, List.set_cons_succ]
  refine wpAnyH_ready (rs := [3]) (by kernel_rfl) (by simp) ?_
  refine AllReadyH.cons (o := { dst := some 60, op := Op.call { callee := Callee.value (Operand.func 46), args := #[Operand.tmp 58, Operand.tmp 59], argTypes := #[56, 58] }, type := 62, pos := "laws.go:464", after := #[{ on := 1, ground := Ground.data }, { on := 2, ground := Ground.data }], guard := none }) rfl (fun K hK => ?_) AllReadyH.nil
  go_simp
  refine (HSp.out _ (A.sls _ mem8)).mono ?_
  rintro e v1 ⟨sv, st, rfl, ho1, ho2, _, hb⟩
  replace A := A.kept hb
  have HS1 := Lib.hid (rows_of_own Gu.cl_len ho1)
  have HS2 := Lib.hid (rows_of_own Gu.cl_len ho2)
  obtain ⟨sa, sc, rfl⟩ := rown_form ho1
  obtain ⟨ta, tc, rfl⟩ := rown_form ho2
  clear ho1 ho2 hb
  refine hK.out _ _ A (fun hHeld => ?_)
  clear hK K hHeld
  try simp only [Act.put, List.setIfInBounds_toArray, List.set_cons_zero, List.set_cons_succ]
  refine wpAnyH_ready (rs := [4]) (by kernel_rfl) (by simp) ?_
  refine AllReadyH.cons (o := { dst := some 61, op := Op.call { callee := Callee.value (Operand.func 45), args := #[Operand.tmp 57, Operand.tmp 60], argTypes := #[62, 62] }, type := 4, pos := "laws.go:464", after := #[{ on := 0, ground := Ground.data }, { on := 3, ground := Ground.data }, { on := 3, ground := Ground.chain }], guard := none }) rfl (fun K hK => ?_) AllReadyH.nil
  go_simp
  refine (HLw.out XM XO xk _ _ _ _ _ (A.sls _ mem7) HS1.out (A.sls _ mem6) HS2.out (by omega) (by omega) HPok.out).mono ?_
  rintro e v2 ⟨rfl, hb⟩
  replace A := A.kept hb
  clear hb HS1 HS2
  refine hK.out _ _ A (fun hHeld => ?_)
  clear hK K hHeld
  try simp only [Act.put, List.setIfInBounds_toArray, List.set_cons_zero, List.set_cons_succ]
  refine wpAnyH_take (i := 5) (oi := { dst := some 62, op := Op.unOp UnOp.not 4 (Operand.tmp 61), type := 4, pos := "laws.go:464", after := #[{ on := 4, ground := Ground.data }], guard := none }) (v := ?vva4) rfl (by kernel_rfl) (by kernel_rfl) (by kernel_rfl) (fun _ _ _ h => h) (Or.inl ⟨by rfl, ?hya4⟩) A ?resta4
  case hya4 => (intro w hSw; have c0 := hSw.mem.b0.cell; have c1 := hSw.mem.b1.cell; have c2 := hSw.mem.b2.cell; have c3 := hSw.mem.b3.cell; have c4 := hSw.mem.b4.cell;go_simp <;> with_reducible rfl)
  try simp only [Act.put, List.setIfInBounds_toArray, List.set_cons_zero, List.set_cons_succ]
  refine wpAnyH_take (i := 6) (oi := { dst := some 63, op := Op.move (Operand.tmp 62), type := 4, pos := "laws.go:464", after := #[{ on := 5, ground := Ground.data }, { on := 4, ground := Ground.chain }], guard := none }) (v := ?vva5) rfl (by kernel_rfl) (by kernel_rfl) (by kernel_rfl) (fun _ _ _ h => h) (Or.inl ⟨by rfl, ?hya5⟩) A ?resta5
  case hya5 => (intro w hSw; have c0 := hSw.mem.b0.cell; have c1 := hSw.mem.b1.cell; have c2 := hSw.mem.b2.cell; have c3 := hSw.mem.b3.cell; have c4 := hSw.mem.b4.cell;go_simp <;> with_reducible rfl)
  try simp only [Act.put, List.setIfInBounds_toArray, List.set_cons_zero, List.set_cons_succ]
  refine wpAnyH_take (i := 7) (oi := { dst := some 64, op := Op.load 62 (Operand.tmp 11), type := 62, pos := "laws.go:464", after := #[{ on := 6, ground := Ground.guard }], guard := some (6, false) }) (v := ?vva6) rfl (by kernel_rfl) (by kernel_rfl) (by kernel_rfl) (fun _ _ _ h => h) (Or.inl ⟨by rfl, ?hya6⟩) A ?resta6
  case hya6 => (intro w hSw; have c0 := hSw.mem.b0.cell; have c1 := hSw.mem.b1.cell; have c2 := hSw.mem.b2.cell; have c3 := hSw.mem.b3.cell; have c4 := hSw.mem.b4.cell;go_simp <;> with_reducible rfl)
  try simp only [Act.put, List.setIfInBounds_toArray, List.set_cons_zero, List.set_cons_succ]
  refine wpAnyH_take (i := 8) (oi := { dst := some 65, op := Op.move (Operand.tmp 8), type := 56, pos := "laws.go:464", after := #[{ on := 6, ground := Ground.guard }], guard := some (6, false) }) (v := ?vva7) rfl (by kernel_rfl) (by kernel_rfl) (by kernel_rfl) (fun _ _ _ h => h) (Or.inl ⟨by rfl, ?hya7⟩) A ?resta7
  case hya7 => (intro w hSw; have c0 := hSw.mem.b0.cell; have c1 := hSw.mem.b1.cell; have c2 := hSw.mem.b2.cell; have c3 := hSw.mem.b3.cell; have c4 := hSw.mem.b4.cell;go_simp <;> with_reducible rfl)
  try simp only [Act.put, List.setIfInBounds_toArray, List.set_cons_zero, List.set_cons_succ]
  refine wpAnyH_take (i := 9) (oi := { dst := some 66, op := Op.move (Operand.tmp 9), type := 2, pos := "laws.go:464", after := #[{ on := 6, ground := Ground.guard }], guard := some (6, false) }) (v := ?vva8) rfl (by kernel_rfl) (by kernel_rfl) (by kernel_rfl) (fun _ _ _ h => h) (Or.inl ⟨by rfl, ?hya8⟩) A ?resta8
  case hya8 => (intro w hSw; have c0 := hSw.mem.b0.cell; have c1 := hSw.mem.b1.cell; have c2 := hSw.mem.b2.cell; have c3 := hSw.mem.b3.cell; have c4 := hSw.mem.b4.cell;go_simp <;> with_reducible rfl)
  try simp only [Act.put, List.setIfInBounds_toArray, List.set_cons_zero, List.set_cons_succ]
  refine wpAnyH_take (i := 10) (oi := { dst := some 67, op := Op.move (Operand.tmp 10), type := 2, pos := "laws.go:464", after := #[{ on := 6, ground := Ground.guard }], guard := some (6, false) }) (v := ?vva9) rfl (by kernel_rfl) (by kernel_rfl) (by kernel_rfl) (fun _ _ _ h => h) (Or.inl ⟨by rfl, ?hya9⟩) A ?resta9
  case hya9 => (intro w hSw; have c0 := hSw.mem.b0.cell; have c1 := hSw.mem.b1.cell; have c2 := hSw.mem.b2.cell; have c3 := hSw.mem.b3.cell; have c4 := hSw.mem.b4.cell;go_simp <;> with_reducible rfl)
  try simp only [Act.put, List.setIfInBounds_toArray, List.set_cons_zero, List.set_cons_succ]
  refine wpAnyH_ready (rs := [11]) (by kernel_rfl) (by simp) ?_
  refine AllReadyH.cons (o := { dst := some 68, op := Op.call { callee := Callee.value (Operand.func 47), args := #[Operand.tmp 65, Operand.tmp 66, Operand.tmp 67], argTypes := #[56, 2, 2] }, type := 62, pos := "laws.go:464", after := #[{ on := 8, ground := Ground.data }, { on := 9, ground := Ground.data }, { on := 10, ground := Ground.data }, { on := 6, ground := Ground.chain }, { on := 6, ground := Ground.guard }], guard := some (6, false) }) rfl (fun K hK => ?_) AllReadyH.nil
  go_simp
  refine (HSd.out _ (A.sls _ mem5)).mono ?_
  rintro e v3 ⟨sv, st, rfl, ho1, ho2, _, hb⟩
  replace A := A.kept hb
  have HS1 := Lib.hid (rows_of_own Gu.cl_len ho1)
  have HS2 := Lib.hid (rows_of_own Gu.cl_len ho2)
  obtain ⟨sa, sc, rfl⟩ := rown_form ho1
  obtain ⟨ta, tc, rfl⟩ := rown_form ho2
  clear ho1 ho2 hb
  refine hK.out _ _ A (fun hHeld => ?_)
  clear hK K hHeld
  try simp only [Act.put, List.setIfInBounds_toArray, List.set_cons_zero, List.set_cons_succ]
  refine wpAnyH_ready (rs := [12]) (by kernel_rfl) (by simp) ?_
  refine AllReadyH.cons (o := { dst := some 69, op := Op.call { callee := Callee.value (Operand.func 45), args := #[Operand.tmp 64, Operand.tmp 68], argTypes := #[62, 62] }, type := 4, pos := "laws.go:464", after := #[{ on := 7, ground := Ground.data }, { on := 11, ground := Ground.data }, { on := 11, ground := Ground.chain }, { on := 6, ground := Ground.guard }], guard := some (6, false) }) rfl (fun K hK => ?_) AllReadyH.nil
  go_simp
  refine (HLw.out YM YO yk _ _ _ _ _ (A.sls _ mem4) HS1.out (A.sls _ mem3) HS2.out (by omega) (by omega) HDok.out).mono ?_
  rintro e v4 ⟨rfl, hb⟩
  replace A := A.kept hb
  clear hb HS1 HS2
  refine hK.out _ _ A (fun hHeld => ?_)
  clear hK K hHeld
  try simp only [Act.put, List.setIfInBounds_toArray, List.set_cons_zero, List.set_cons_succ]
  refine wpAnyH_take (i := 13) (oi := { dst := some 70, op := Op.unOp UnOp.not 4 (Operand.tmp 69), type := 4, pos := "laws.go:464", after := #[{ on := 12, ground := Ground.data }, { on := 6, ground := Ground.guard }], guard := some (6, false) }) (v := ?vva10) rfl (by kernel_rfl) (by kernel_rfl) (by kernel_rfl) (fun _ _ _ h => h) (Or.inl ⟨by rfl, ?hya10⟩) A ?resta10
  case hya10 => (intro w hSw; have c0 := hSw.mem.b0.cell; have c1 := hSw.mem.b1.cell; have c2 := hSw.mem.b2.cell; have c3 := hSw.mem.b3.cell; have c4 := hSw.mem.b4.cell;go_simp <;> with_reducible rfl)
  try simp only [Act.put, List.setIfInBounds_toArray, List.set_cons_zero, List.set_cons_succ]
  refine wpAnyH_take (i := 14) (oi := { dst := some 71, op := Op.pick (Operand.tmp 63) (Operand.const (Value.bool true)) (Operand.tmp 70), type := 4, pos := "laws.go:464", after := #[{ on := 6, ground := Ground.data }, { on := 13, ground := Ground.data }], guard := none }) (v := ?vva11) rfl (by kernel_rfl) (by kernel_rfl) (by kernel_rfl) (fun _ _ _ h => h) (Or.inl ⟨by rfl, ?hya11⟩) A ?resta11
  case hya11 => (intro w hSw; have c0 := hSw.mem.b0.cell; have c1 := hSw.mem.b1.cell; have c2 := hSw.mem.b2.cell; have c3 := hSw.mem.b3.cell; have c4 := hSw.mem.b4.cell;go_simp <;> with_reducible rfl)
  try simp only [Act.put, List.setIfInBounds_toArray, List.set_cons_zero, List.set_cons_succ]
  refine wpAnyH_take (i := 15) (oi := { dst := some 72, op := Op.move (Operand.tmp 71), type := 4, pos := "laws.go:464", after := #[{ on := 14, ground := Ground.data }, { on := 12, ground := Ground.chain }], guard := none }) (v := ?vva12) rfl (by kernel_rfl) (by kernel_rfl) (by kernel_rfl) (fun _ _ _ h => h) (Or.inl ⟨by rfl, ?hya12⟩) A ?resta12
  case hya12 => (intro w hSw; have c0 := hSw.mem.b0.cell; have c1 := hSw.mem.b1.cell; have c2 := hSw.mem.b2.cell; have c3 := hSw.mem.b3.cell; have c4 := hSw.mem.b4.cell;go_simp <;> with_reducible rfl)
  try simp only [Act.put, List.setIfInBounds_toArray, List.set_cons_zero, List.set_cons_succ]
  refine wpAnyH_take (i := 16) (oi := { dst := some 73, op := Op.load 62 (Operand.tmp 14), type := 62, pos := "laws.go:464", after := #[{ on := 15, ground := Ground.guard }], guard := some (15, false) }) (v := ?vva13) rfl (by kernel_rfl) (by kernel_rfl) (by kernel_rfl) (fun _ _ _ h => h) (Or.inl ⟨by rfl, ?hya13⟩) A ?resta13
  case hya13 => (intro w hSw; have c0 := hSw.mem.b0.cell; have c1 := hSw.mem.b1.cell; have c2 := hSw.mem.b2.cell; have c3 := hSw.mem.b3.cell; have c4 := hSw.mem.b4.cell;go_simp <;> with_reducible rfl)
  try simp only [Act.put, List.setIfInBounds_toArray, List.set_cons_zero, List.set_cons_succ]
  refine wpAnyH_take (i := 17) (oi := { dst := some 74, op := Op.move (Operand.tmp 12), type := 56, pos := "laws.go:464", after := #[{ on := 15, ground := Ground.guard }], guard := some (15, false) }) (v := ?vva14) rfl (by kernel_rfl) (by kernel_rfl) (by kernel_rfl) (fun _ _ _ h => h) (Or.inl ⟨by rfl, ?hya14⟩) A ?resta14
  case hya14 => (intro w hSw; have c0 := hSw.mem.b0.cell; have c1 := hSw.mem.b1.cell; have c2 := hSw.mem.b2.cell; have c3 := hSw.mem.b3.cell; have c4 := hSw.mem.b4.cell;go_simp <;> with_reducible rfl)
  try simp only [Act.put, List.setIfInBounds_toArray, List.set_cons_zero, List.set_cons_succ]
  refine wpAnyH_take (i := 18) (oi := { dst := some 75, op := Op.move (Operand.tmp 13), type := 2, pos := "laws.go:464", after := #[{ on := 15, ground := Ground.guard }], guard := some (15, false) }) (v := ?vva15) rfl (by kernel_rfl) (by kernel_rfl) (by kernel_rfl) (fun _ _ _ h => h) (Or.inl ⟨by rfl, ?hya15⟩) A ?resta15
  case hya15 => (intro w hSw; have c0 := hSw.mem.b0.cell; have c1 := hSw.mem.b1.cell; have c2 := hSw.mem.b2.cell; have c3 := hSw.mem.b3.cell; have c4 := hSw.mem.b4.cell;go_simp <;> with_reducible rfl)
  try simp only [Act.put, List.setIfInBounds_toArray, List.set_cons_zero, List.set_cons_succ]
  refine wpAnyH_ready (rs := [19]) (by kernel_rfl) (by simp) ?_
  refine AllReadyH.cons (o := { dst := some 76, op := Op.call { callee := Callee.value (Operand.func 48), args := #[Operand.tmp 74, Operand.tmp 75], argTypes := #[56, 2] }, type := 62, pos := "laws.go:464", after := #[{ on := 17, ground := Ground.data }, { on := 18, ground := Ground.data }, { on := 15, ground := Ground.chain }, { on := 15, ground := Ground.guard }], guard := some (15, false) }) rfl (fun K hK => ?_) AllReadyH.nil
  go_simp
  refine (HSa.out _ (A.sls _ mem2)).mono ?_
  rintro e v5 ⟨sv, st, rfl, ho1, ho2, _, hb⟩
  replace A := A.kept hb
  have HS1 := Lib.hid (rows_of_own Gu.cl_len ho1)
  have HS2 := Lib.hid (rows_of_own Gu.cl_len ho2)
  obtain ⟨sa, sc, rfl⟩ := rown_form ho1
  obtain ⟨ta, tc, rfl⟩ := rown_form ho2
  clear ho1 ho2 hb
  refine hK.out _ _ A (fun hHeld => ?_)
  clear hK K hHeld
  try simp only [Act.put, List.setIfInBounds_toArray, List.set_cons_zero, List.set_cons_succ]
  refine wpAnyH_ready (rs := [20]) (by kernel_rfl) (by simp) ?_
  refine AllReadyH.cons (o := { dst := some 77, op := Op.call { callee := Callee.value (Operand.func 45), args := #[Operand.tmp 73, Operand.tmp 76], argTypes := #[62, 62] }, type := 4, pos := "laws.go:464", after := #[{ on := 16, ground := Ground.data }, { on := 19, ground := Ground.data }, { on := 19, ground := Ground.chain }, { on := 15, ground := Ground.guard }], guard := some (15, false) }) rfl (fun K hK => ?_) AllReadyH.nil
  go_simp
  refine (HLw.out ZM ZO zk _ _ _ _ _ (A.sls _ mem1) HS1.out (A.sls _ mem0) HS2.out (by omega) (by omega) HAok.out).mono ?_
  rintro e v6 ⟨rfl, hb⟩
  replace A := A.kept hb
  clear hb HS1 HS2
  refine hK.out _ _ A (fun hHeld => ?_)
  clear hK K hHeld
  try simp only [Act.put, List.setIfInBounds_toArray, List.set_cons_zero, List.set_cons_succ]
  refine wpAnyH_take (i := 21) (oi := { dst := some 78, op := Op.unOp UnOp.not 4 (Operand.tmp 77), type := 4, pos := "laws.go:464", after := #[{ on := 20, ground := Ground.data }, { on := 15, ground := Ground.guard }], guard := some (15, false) }) (v := ?vva16) rfl (by kernel_rfl) (by kernel_rfl) (by kernel_rfl) (fun _ _ _ h => h) (Or.inl ⟨by rfl, ?hya16⟩) A ?resta16
  case hya16 => (intro w hSw; have c0 := hSw.mem.b0.cell; have c1 := hSw.mem.b1.cell; have c2 := hSw.mem.b2.cell; have c3 := hSw.mem.b3.cell; have c4 := hSw.mem.b4.cell;go_simp <;> with_reducible rfl)
  try simp only [Act.put, List.setIfInBounds_toArray, List.set_cons_zero, List.set_cons_succ]
  refine wpAnyH_take (i := 22) (oi := { dst := some 79, op := Op.pick (Operand.tmp 72) (Operand.const (Value.bool true)) (Operand.tmp 78), type := 4, pos := "laws.go:464", after := #[{ on := 15, ground := Ground.data }, { on := 21, ground := Ground.data }], guard := none }) (v := ?vva17) rfl (by kernel_rfl) (by kernel_rfl) (by kernel_rfl) (fun _ _ _ h => h) (Or.inl ⟨by rfl, ?hya17⟩) A ?resta17
  case hya17 => (intro w hSw; have c0 := hSw.mem.b0.cell; have c1 := hSw.mem.b1.cell; have c2 := hSw.mem.b2.cell; have c3 := hSw.mem.b3.cell; have c4 := hSw.mem.b4.cell;go_simp <;> with_reducible rfl)
  try simp only [Act.put, List.setIfInBounds_toArray, List.set_cons_zero, List.set_cons_succ]
  refine wpAnyH_take (i := 23) (oi := { dst := some 80, op := Op.move (Operand.tmp 79), type := 4, pos := "laws.go:464", after := #[{ on := 22, ground := Ground.data }, { on := 20, ground := Ground.chain }], guard := none }) (v := ?vva18) rfl (by kernel_rfl) (by kernel_rfl) (by kernel_rfl) (fun _ _ _ h => h) (Or.inl ⟨by rfl, ?hya18⟩) A ?resta18
  case hya18 => (intro w hSw; have c0 := hSw.mem.b0.cell; have c1 := hSw.mem.b1.cell; have c2 := hSw.mem.b2.cell; have c3 := hSw.mem.b3.cell; have c4 := hSw.mem.b4.cell;go_simp <;> with_reducible rfl)
  try simp only [Act.put, List.setIfInBounds_toArray, List.set_cons_zero, List.set_cons_succ]
  refine wpAnyH_take (i := 24) (oi := { dst := some 81, op := Op.move (Operand.tmp 8), type := 56, pos := "laws.go:464", after := #[{ on := 23, ground := Ground.guard }], guard := some (23, false) }) (v := ?vva19) rfl (by kernel_rfl) (by kernel_rfl) (by kernel_rfl) (fun _ _ _ h => h) (Or.inl ⟨by rfl, ?hya19⟩) A ?resta19
  case hya19 => (intro w hSw; have c0 := hSw.mem.b0.cell; have c1 := hSw.mem.b1.cell; have c2 := hSw.mem.b2.cell; have c3 := hSw.mem.b3.cell; have c4 := hSw.mem.b4.cell;go_simp <;> with_reducible rfl)
  try simp only [Act.put, List.setIfInBounds_toArray, List.set_cons_zero, List.set_cons_succ]
  refine wpAnyH_take (i := 25) (oi := { dst := some 82, op := Op.move (Operand.tmp 9), type := 2, pos := "laws.go:464", after := #[{ on := 23, ground := Ground.guard }], guard := some (23, false) }) (v := ?vva20) rfl (by kernel_rfl) (by kernel_rfl) (by kernel_rfl) (fun _ _ _ h => h) (Or.inl ⟨by rfl, ?hya20⟩) A ?resta20
  case hya20 => (intro w hSw; have c0 := hSw.mem.b0.cell; have c1 := hSw.mem.b1.cell; have c2 := hSw.mem.b2.cell; have c3 := hSw.mem.b3.cell; have c4 := hSw.mem.b4.cell;go_simp <;> with_reducible rfl)
  try simp only [Act.put, List.setIfInBounds_toArray, List.set_cons_zero, List.set_cons_succ]
  refine wpAnyH_take (i := 26) (oi := { dst := some 83, op := Op.move (Operand.tmp 10), type := 2, pos := "laws.go:464", after := #[{ on := 23, ground := Ground.guard }], guard := some (23, false) }) (v := ?vva21) rfl (by kernel_rfl) (by kernel_rfl) (by kernel_rfl) (fun _ _ _ h => h) (Or.inl ⟨by rfl, ?hya21⟩) A ?resta21
  case hya21 => (intro w hSw; have c0 := hSw.mem.b0.cell; have c1 := hSw.mem.b1.cell; have c2 := hSw.mem.b2.cell; have c3 := hSw.mem.b3.cell; have c4 := hSw.mem.b4.cell;go_simp <;> with_reducible rfl)
  try simp only [Act.put, List.setIfInBounds_toArray, List.set_cons_zero, List.set_cons_succ]
  refine wpAnyH_take (i := 28) (oi := { dst := some 85, op := Op.move (Operand.tmp 8), type := 56, pos := "laws.go:464", after := #[{ on := 23, ground := Ground.guard }], guard := some (23, false) }) (v := ?vva22) rfl (by kernel_rfl) (by kernel_rfl) (by kernel_rfl) (fun _ _ _ h => h) (Or.inl ⟨by rfl, ?hya22⟩) A ?resta22
  case hya22 => (intro w hSw; have c0 := hSw.mem.b0.cell; have c1 := hSw.mem.b1.cell; have c2 := hSw.mem.b2.cell; have c3 := hSw.mem.b3.cell; have c4 := hSw.mem.b4.cell;go_simp <;> with_reducible rfl)
  try simp only [Act.put, List.setIfInBounds_toArray, List.set_cons_zero, List.set_cons_succ]
  refine wpAnyH_take (i := 29) (oi := { dst := some 86, op := Op.move (Operand.tmp 9), type := 2, pos := "laws.go:464", after := #[{ on := 23, ground := Ground.guard }], guard := some (23, false) }) (v := ?vva23) rfl (by kernel_rfl) (by kernel_rfl) (by kernel_rfl) (fun _ _ _ h => h) (Or.inl ⟨by rfl, ?hya23⟩) A ?resta23
  case hya23 => (intro w hSw; have c0 := hSw.mem.b0.cell; have c1 := hSw.mem.b1.cell; have c2 := hSw.mem.b2.cell; have c3 := hSw.mem.b3.cell; have c4 := hSw.mem.b4.cell;go_simp <;> with_reducible rfl)
  try simp only [Act.put, List.setIfInBounds_toArray, List.set_cons_zero, List.set_cons_succ]
  refine wpAnyH_take (i := 30) (oi := { dst := some 87, op := Op.move (Operand.tmp 10), type := 2, pos := "laws.go:464", after := #[{ on := 23, ground := Ground.guard }], guard := some (23, false) }) (v := ?vva24) rfl (by kernel_rfl) (by kernel_rfl) (by kernel_rfl) (fun _ _ _ h => h) (Or.inl ⟨by rfl, ?hya24⟩) A ?resta24
  case hya24 => (intro w hSw; have c0 := hSw.mem.b0.cell; have c1 := hSw.mem.b1.cell; have c2 := hSw.mem.b2.cell; have c3 := hSw.mem.b3.cell; have c4 := hSw.mem.b4.cell;go_simp <;> with_reducible rfl)
  try simp only [Act.put, List.setIfInBounds_toArray, List.set_cons_zero, List.set_cons_succ]
  refine wpAnyH_ready (rs := [27]) (by kernel_rfl) (by simp) ?_
  refine AllReadyH.cons (o := { dst := some 84, op := Op.call { callee := Callee.value (Operand.func 49), args := #[Operand.tmp 81, Operand.tmp 82, Operand.tmp 83], argTypes := #[56, 2, 2] }, type := 58, pos := "laws.go:464", after := #[{ on := 24, ground := Ground.data }, { on := 25, ground := Ground.data }, { on := 26, ground := Ground.data }, { on := 23, ground := Ground.chain }, { on := 23, ground := Ground.guard }], guard := some (23, false) }) rfl (fun K hK => ?_) AllReadyH.nil
  go_simp
  refine (HIt.out _ (A.sls _ mem5)).mono ?_
  rintro e v7 ⟨rfl, hb⟩
  replace A := A.kept hb
  clear hb
  refine hK.out _ _ A (fun hHeld => ?_)
  clear hK K hHeld
  try simp only [Act.put, List.setIfInBounds_toArray, List.set_cons_zero, List.set_cons_succ]
  refine wpAnyH_ready (rs := [31]) (by kernel_rfl) (by simp) ?_
  refine AllReadyH.cons (o := { dst := some 88, op := Op.call { callee := Callee.value (Operand.func 50), args := #[Operand.tmp 85, Operand.tmp 86, Operand.tmp 87], argTypes := #[56, 2, 2] }, type := 58, pos := "laws.go:464", after := #[{ on := 28, ground := Ground.data }, { on := 29, ground := Ground.data }, { on := 30, ground := Ground.data }, { on := 27, ground := Ground.chain }, { on := 23, ground := Ground.guard }], guard := some (23, false) }) rfl (fun K hK => ?_) AllReadyH.nil
  go_simp
  refine (HSt.out _ (A.sls _ mem5)).mono ?_
  rintro e v8 ⟨rfl, hb⟩
  replace A := A.kept hb
  clear hb
  refine hK.out _ _ A (fun hHeld => ?_)
  clear hK K hHeld
  try simp only [Act.put, List.setIfInBounds_toArray, List.set_cons_zero, List.set_cons_succ]
  refine wpAnyH_take (i := 32) (oi := { dst := some 89, op := Op.binOp BinOp.neq 58 (Operand.tmp 84) (Operand.tmp 88) 58, type := 4, pos := "laws.go:464", after := #[{ on := 27, ground := Ground.data }, { on := 31, ground := Ground.data }, { on := 23, ground := Ground.guard }], guard := some (23, false) }) (v := ?vva25) rfl (by kernel_rfl) (by kernel_rfl) (by kernel_rfl) (fun _ _ _ h => h) (Or.inl ⟨by rfl, ?hya25⟩) A ?resta25
  case hya25 => (intro w hSw; have c0 := hSw.mem.b0.cell; have c1 := hSw.mem.b1.cell; have c2 := hSw.mem.b2.cell; have c3 := hSw.mem.b3.cell; have c4 := hSw.mem.b4.cell;go_simp <;> with_reducible rfl)
  try simp only [Act.put, List.setIfInBounds_toArray, List.set_cons_zero, List.set_cons_succ]
  refine wpAnyH_take (i := 33) (oi := { dst := some 90, op := Op.pick (Operand.tmp 80) (Operand.const (Value.bool true)) (Operand.tmp 89), type := 4, pos := "laws.go:464", after := #[{ on := 23, ground := Ground.data }, { on := 32, ground := Ground.data }], guard := none }) (v := ?vva26) rfl (by kernel_rfl) (by kernel_rfl) (by kernel_rfl) (fun _ _ _ h => h) (Or.inl ⟨by rfl, ?hya26⟩) A ?resta26
  case hya26 => (intro w hSw; have c0 := hSw.mem.b0.cell; have c1 := hSw.mem.b1.cell; have c2 := hSw.mem.b2.cell; have c3 := hSw.mem.b3.cell; have c4 := hSw.mem.b4.cell;go_simp <;> with_reducible rfl)
  try simp only [Act.put, List.setIfInBounds_toArray, List.set_cons_zero, List.set_cons_succ]
  refine wpAnyH_take (i := 34) (oi := { dst := some 91, op := Op.move (Operand.tmp 90), type := 4, pos := "laws.go:464", after := #[{ on := 33, ground := Ground.data }, { on := 31, ground := Ground.chain }], guard := none }) (v := ?vva27) rfl (by kernel_rfl) (by kernel_rfl) (by kernel_rfl) (fun _ _ _ h => h) (Or.inl ⟨by rfl, ?hya27⟩) A ?resta27
  case hya27 => (intro w hSw; have c0 := hSw.mem.b0.cell; have c1 := hSw.mem.b1.cell; have c2 := hSw.mem.b2.cell; have c3 := hSw.mem.b3.cell; have c4 := hSw.mem.b4.cell;go_simp <;> with_reducible rfl)
  try simp only [Act.put, List.setIfInBounds_toArray, List.set_cons_zero, List.set_cons_succ]
  refine wpAnyH_take (i := 35) (oi := { dst := some 92, op := Op.load 58 (Operand.tmp 15), type := 58, pos := "laws.go:464", after := #[{ on := 34, ground := Ground.guard }], guard := some (34, false) }) (v := ?vva28) rfl (by kernel_rfl) (by kernel_rfl) (by kernel_rfl) (fun _ _ _ h => h) (Or.inl ⟨by rfl, ?hya28⟩) A ?resta28
  case hya28 => (intro w hSw; have c0 := hSw.mem.b0.cell; have c1 := hSw.mem.b1.cell; have c2 := hSw.mem.b2.cell; have c3 := hSw.mem.b3.cell; have c4 := hSw.mem.b4.cell;go_simp <;> with_reducible rfl)
  try simp only [Act.put, List.setIfInBounds_toArray, List.set_cons_zero, List.set_cons_succ]
  refine wpAnyH_take (i := 36) (oi := { dst := some 93, op := Op.move (Operand.tmp 16), type := 2, pos := "laws.go:464", after := #[{ on := 34, ground := Ground.guard }], guard := some (34, false) }) (v := ?vva29) rfl (by kernel_rfl) (by kernel_rfl) (by kernel_rfl) (fun _ _ _ h => h) (Or.inl ⟨by rfl, ?hya29⟩) A ?resta29
  case hya29 => (intro w hSw; have c0 := hSw.mem.b0.cell; have c1 := hSw.mem.b1.cell; have c2 := hSw.mem.b2.cell; have c3 := hSw.mem.b3.cell; have c4 := hSw.mem.b4.cell;go_simp <;> with_reducible rfl)
  try simp only [Act.put, List.setIfInBounds_toArray, List.set_cons_zero, List.set_cons_succ]
  refine wpAnyH_take (i := 38) (oi := { dst := some 95, op := Op.load 58 (Operand.tmp 15), type := 58, pos := "laws.go:464", after := #[{ on := 34, ground := Ground.guard }], guard := some (34, false) }) (v := ?vva30) rfl (by kernel_rfl) (by kernel_rfl) (by kernel_rfl) (fun _ _ _ h => h) (Or.inl ⟨by rfl, ?hya30⟩) A ?resta30
  case hya30 => (intro w hSw; have c0 := hSw.mem.b0.cell; have c1 := hSw.mem.b1.cell; have c2 := hSw.mem.b2.cell; have c3 := hSw.mem.b3.cell; have c4 := hSw.mem.b4.cell;go_simp <;> with_reducible rfl)
  try simp only [Act.put, List.setIfInBounds_toArray, List.set_cons_zero, List.set_cons_succ]
  refine wpAnyH_take (i := 39) (oi := { dst := some 96, op := Op.move (Operand.tmp 16), type := 2, pos := "laws.go:464", after := #[{ on := 34, ground := Ground.guard }], guard := some (34, false) }) (v := ?vva31) rfl (by kernel_rfl) (by kernel_rfl) (by kernel_rfl) (fun _ _ _ h => h) (Or.inl ⟨by rfl, ?hya31⟩) A ?resta31
  case hya31 => (intro w hSw; have c0 := hSw.mem.b0.cell; have c1 := hSw.mem.b1.cell; have c2 := hSw.mem.b2.cell; have c3 := hSw.mem.b3.cell; have c4 := hSw.mem.b4.cell;go_simp <;> with_reducible rfl)
  try simp only [Act.put, List.setIfInBounds_toArray, List.set_cons_zero, List.set_cons_succ]
  refine wpAnyH_ready (rs := [37]) (by kernel_rfl) (by simp) ?_
  refine AllReadyH.cons (o := { dst := some 94, op := Op.call { callee := Callee.value (Operand.func 51), args := #[Operand.tmp 92, Operand.tmp 93], argTypes := #[58, 2] }, type := 75, pos := "laws.go:464", after := #[{ on := 35, ground := Ground.data }, { on := 36, ground := Ground.data }, { on := 34, ground := Ground.chain }, { on := 34, ground := Ground.guard }], guard := some (34, false) }) rfl (fun K hK => ?_) AllReadyH.nil
  go_simp
  refine (HIr.out _).mono ?_
  rintro e v9 ⟨rfl, hb⟩
  replace A := A.kept hb
  clear hb
  refine hK.out _ _ A (fun hHeld => ?_)
  clear hK K hHeld
  try simp only [Act.put, List.setIfInBounds_toArray, List.set_cons_zero, List.set_cons_succ]
  refine wpAnyH_ready (rs := [40]) (by kernel_rfl) (by simp) ?_
  refine AllReadyH.cons (o := { dst := some 97, op := Op.call { callee := Callee.value (Operand.func 52), args := #[Operand.tmp 95, Operand.tmp 96], argTypes := #[58, 2] }, type := 75, pos := "laws.go:464", after := #[{ on := 38, ground := Ground.data }, { on := 39, ground := Ground.data }, { on := 37, ground := Ground.chain }, { on := 34, ground := Ground.guard }], guard := some (34, false) }) rfl (fun K hK => ?_) AllReadyH.nil
  go_simp
  refine (HSr.out _).mono ?_
  rintro e v10 ⟨rfl, hb⟩
  replace A := A.kept hb
  clear hb
  refine hK.out _ _ A (fun hHeld => ?_)
  clear hK K hHeld
  try simp only [Act.put, List.setIfInBounds_toArray, List.set_cons_zero, List.set_cons_succ]
  refine wpAnyH_take (i := 41) (oi := { dst := some 98, op := Op.binOp BinOp.neq 75 (Operand.tmp 94) (Operand.tmp 97) 75, type := 4, pos := "laws.go:464", after := #[{ on := 37, ground := Ground.data }, { on := 40, ground := Ground.data }, { on := 34, ground := Ground.guard }], guard := some (34, false) }) (v := ?vva32) rfl (by kernel_rfl) (by kernel_rfl) (by kernel_rfl) (fun _ _ _ h => h) (Or.inl ⟨by rfl, ?hya32⟩) A ?resta32
  case hya32 => (intro w hSw; have c0 := hSw.mem.b0.cell; have c1 := hSw.mem.b1.cell; have c2 := hSw.mem.b2.cell; have c3 := hSw.mem.b3.cell; have c4 := hSw.mem.b4.cell;go_simp <;> with_reducible rfl)
  try simp only [Act.put, List.setIfInBounds_toArray, List.set_cons_zero, List.set_cons_succ]
  refine wpAnyH_take (i := 42) (oi := { dst := some 99, op := Op.pick (Operand.tmp 91) (Operand.const (Value.bool true)) (Operand.tmp 98), type := 4, pos := "laws.go:464", after := #[{ on := 34, ground := Ground.data }, { on := 41, ground := Ground.data }], guard := none }) (v := ?vva33) rfl (by kernel_rfl) (by kernel_rfl) (by kernel_rfl) (fun _ _ _ h => h) (Or.inl ⟨by rfl, ?hya33⟩) A ?resta33
  case hya33 => (intro w hSw; have c0 := hSw.mem.b0.cell; have c1 := hSw.mem.b1.cell; have c2 := hSw.mem.b2.cell; have c3 := hSw.mem.b3.cell; have c4 := hSw.mem.b4.cell;go_simp <;> with_reducible rfl)
  try simp only [Act.put, List.setIfInBounds_toArray, List.set_cons_zero, List.set_cons_succ]
  refine wpAnyH_take (i := 43) (oi := { dst := some 100, op := Op.move (Operand.tmp 99), type := 4, pos := "laws.go:464", after := #[{ on := 42, ground := Ground.data }, { on := 40, ground := Ground.chain }], guard := none }) (v := ?vva34) rfl (by kernel_rfl) (by kernel_rfl) (by kernel_rfl) (fun _ _ _ h => h) (Or.inl ⟨by rfl, ?hya34⟩) A ?resta34
  case hya34 => (intro w hSw; have c0 := hSw.mem.b0.cell; have c1 := hSw.mem.b1.cell; have c2 := hSw.mem.b2.cell; have c3 := hSw.mem.b3.cell; have c4 := hSw.mem.b4.cell;go_simp <;> with_reducible rfl)
  try simp only [Act.put, List.setIfInBounds_toArray, List.set_cons_zero, List.set_cons_succ]
  refine wpAnyH_take (i := 44) (oi := { dst := some 101, op := Op.move (Operand.tmp 5), type := 56, pos := "laws.go:464", after := #[{ on := 43, ground := Ground.guard }], guard := some (43, false) }) (v := ?vva35) rfl (by kernel_rfl) (by kernel_rfl) (by kernel_rfl) (fun _ _ _ h => h) (Or.inl ⟨by rfl, ?hya35⟩) A ?resta35
  case hya35 => (intro w hSw; have c0 := hSw.mem.b0.cell; have c1 := hSw.mem.b1.cell; have c2 := hSw.mem.b2.cell; have c3 := hSw.mem.b3.cell; have c4 := hSw.mem.b4.cell;go_simp <;> with_reducible rfl)
  try simp only [Act.put, List.setIfInBounds_toArray, List.set_cons_zero, List.set_cons_succ]
  refine wpAnyH_take (i := 46) (oi := { dst := some 103, op := Op.move (Operand.tmp 5), type := 56, pos := "laws.go:464", after := #[{ on := 43, ground := Ground.guard }], guard := some (43, false) }) (v := ?vva36) rfl (by kernel_rfl) (by kernel_rfl) (by kernel_rfl) (fun _ _ _ h => h) (Or.inl ⟨by rfl, ?hya36⟩) A ?resta36
  case hya36 => (intro w hSw; have c0 := hSw.mem.b0.cell; have c1 := hSw.mem.b1.cell; have c2 := hSw.mem.b2.cell; have c3 := hSw.mem.b3.cell; have c4 := hSw.mem.b4.cell;go_simp <;> with_reducible rfl)
  try simp only [Act.put, List.setIfInBounds_toArray, List.set_cons_zero, List.set_cons_succ]
  refine wpAnyH_ready (rs := [45]) (by kernel_rfl) (by simp) ?_
  refine AllReadyH.cons (o := { dst := some 102, op := Op.call { callee := Callee.value (Operand.func 53), args := #[Operand.tmp 101], argTypes := #[56] }, type := 4, pos := "laws.go:464", after := #[{ on := 44, ground := Ground.data }, { on := 43, ground := Ground.chain }, { on := 43, ground := Ground.guard }], guard := some (43, false) }) rfl (fun K hK => ?_) AllReadyH.nil
  go_simp
  refine (HIg.out _ (A.sls _ mem8)).mono ?_
  rintro e v11 ⟨rfl, hb⟩
  replace A := A.kept hb
  clear hb
  refine hK.out _ _ A (fun hHeld => ?_)
  clear hK K hHeld
  try simp only [Act.put, List.setIfInBounds_toArray, List.set_cons_zero, List.set_cons_succ]
  refine wpAnyH_ready (rs := [47]) (by kernel_rfl) (by simp) ?_
  refine AllReadyH.cons (o := { dst := some 104, op := Op.call { callee := Callee.value (Operand.func 54), args := #[Operand.tmp 103], argTypes := #[56] }, type := 4, pos := "laws.go:464", after := #[{ on := 46, ground := Ground.data }, { on := 45, ground := Ground.chain }, { on := 43, ground := Ground.guard }], guard := some (43, false) }) rfl (fun K hK => ?_) AllReadyH.nil
  go_simp
  refine (HSg.out _ (A.sls _ mem8)).mono ?_
  rintro e v12 ⟨rfl, hb⟩
  replace A := A.kept hb
  clear hb
  refine hK.out _ _ A (fun hHeld => ?_)
  clear hK K hHeld
  try simp only [Act.put, List.setIfInBounds_toArray, List.set_cons_zero, List.set_cons_succ]
  refine wpAnyH_take (i := 48) (oi := { dst := some 105, op := Op.binOp BinOp.neq 4 (Operand.tmp 102) (Operand.tmp 104) 4, type := 4, pos := "laws.go:464", after := #[{ on := 45, ground := Ground.data }, { on := 47, ground := Ground.data }, { on := 43, ground := Ground.guard }], guard := some (43, false) }) (v := ?vva37) rfl (by kernel_rfl) (by kernel_rfl) (by kernel_rfl) (fun _ _ _ h => h) (Or.inl ⟨by rfl, ?hya37⟩) A ?resta37
  case hya37 => (intro w hSw; have c0 := hSw.mem.b0.cell; have c1 := hSw.mem.b1.cell; have c2 := hSw.mem.b2.cell; have c3 := hSw.mem.b3.cell; have c4 := hSw.mem.b4.cell;go_simp <;> with_reducible rfl)
  try simp only [Act.put, List.setIfInBounds_toArray, List.set_cons_zero, List.set_cons_succ]
  refine wpAnyH_take (i := 49) (oi := { dst := some 106, op := Op.pick (Operand.tmp 100) (Operand.const (Value.bool true)) (Operand.tmp 105), type := 4, pos := "laws.go:464", after := #[{ on := 43, ground := Ground.data }, { on := 48, ground := Ground.data }], guard := none }) (v := ?vva38) rfl (by kernel_rfl) (by kernel_rfl) (by kernel_rfl) (fun _ _ _ h => h) (Or.inl ⟨by rfl, ?hya38⟩) A ?resta38
  case hya38 => (intro w hSw; have c0 := hSw.mem.b0.cell; have c1 := hSw.mem.b1.cell; have c2 := hSw.mem.b2.cell; have c3 := hSw.mem.b3.cell; have c4 := hSw.mem.b4.cell;go_simp <;> with_reducible rfl)
  try simp only [Act.put, List.setIfInBounds_toArray, List.set_cons_zero, List.set_cons_succ]
  refine wpAnyH_done (by kernel_rfl) ?_ _
  all_goals
    clear HSp HSd HSa HLw HIt HSt HIr HSr HIg HSg HPok HDok HAok
    have HA := Lib.hid A
    clear A
    by_cases hy0 : yk = 0
    · subst hy0
      obtain ⟨x, hx, hpx⟩ := HDone.out rfl
      subst hx
      have hyn := HDln.out rfl
      have hyw : IntKind.i64.wrap ((d.length : Int) - 1) = (YM.length : Int) := by simp only [IntKind.wrap_i64]; omega
      have HJy := Lib.hid (HIy.out rfl)
      have HJq := Lib.hid (HIq.out x hpx)
      have A := HA.out
      clear HIy HIq HDone HDln HA hpx hyn
      go_upto_region 12 with fail
      replace A := A.drew
      obtain ⟨b, off, hpa, hp⟩ : ∃ b off, pa = some ⟨b, off, none⟩ ∧ ∀ W', FgM w W' [(qk, 58, #[.int .i64 k.vni, .int .i64 k.mac, .int .i64 k.ip, .int .i64 k.door, .int .i64 k.seq, .int .i64 k.seen, .bool k.st]), (qz, 62, #[.slice za ZM.length zc, .slice ua ZO.length uc, .int .i64 zk]), (qy, 62, #[.slice ya YM.length yc, .slice pa 1 pc, .int .i64 0]), (qx, 62, #[.slice xa XM.length xc, .slice oa XO.length oc, .int .i64 xk]), (qg, 58, #[.int .i64 r.vni, .int .i64 r.mac, .int .i64 r.ip, .int .i64 r.door, .int .i64 r.seq, .int .i64 r.seen, .bool r.st])] [(.slice ua ZO.length uc, ZO), (.slice za ZM.length zc, ZM), (.slice aa a.length ac, a), (.slice pa 1 pc, [x]), (.slice ya YM.length yc, YM), (.slice da d.length dc, d), (.slice oa XO.length oc, XO), (.slice xa XM.length xc, XM), (.slice la l.length lc, l)] → W'.cell? ⟨b, off, none⟩ = some (.int .i64 x.vni) ∧ W'.cell? ⟨b, off + 1, none⟩ = some (.int .i64 x.mac) ∧ W'.cell? ⟨b, off + 2, none⟩ = some (.int .i64 x.ip) ∧ W'.cell? ⟨b, off + 3, none⟩ = some (.int .i64 x.door) ∧ W'.cell? ⟨b, off + 4, none⟩ = some (.int .i64 x.seq) ∧ W'.cell? ⟨b, off + 5, none⟩ = some (.int .i64 x.seen) ∧ W'.cell? ⟨b, off + 6, none⟩ = some (.bool x.st) := by
        have hne : [x].map Gu.cl ≠ [] := by simp
        obtain ⟨a', c', e', hh⟩ := A.sls _ mem3
        obtain ⟨b, off, ha, hb, HE⟩ := hh hne
        injection e' with e1 e2 e3
        subst e1 ha
        refine ⟨b, off, rfl, fun W' hW' => ?_⟩
        obtain ⟨a2, c2, e2', hh2⟩ := hW'.sls _ mem3
        obtain ⟨b2, off2, ha2, hb2, HE2⟩ := hh2 hne
        injection e2' with e4 e5 e6
        rw [← e4] at ha2
        injection ha2 with ha2
        injection ha2 with ha2 ha3
        subst ha2 ha3
        have := HE2.gu 0 (by simp)
        simpa using this
      subst hpa
      have HP := Lib.hid hp
      clear hp
      have hfl : ∀ (x y z : Value) (w : World), (Instr.field 62 (.agg #[x, y, z]) 0).run Try.prog w = .ok x w := fun _ _ _ _ => by kernel_rfl
      refine wp_region_held_drew (S := fun W' => FgM w W' _ _) (by kernel_rfl) A (fun hHeld => ?_)
      clear hHeld
      refine wpAnyH_take (i := 0) (oi := { dst := some 107, op := Op.fieldAddr 62 (Operand.tmp 11) 2, type := 0, pos := "laws.go:467", after := #[], guard := none }) (v := ?vvb1) rfl (by kernel_rfl) (by kernel_rfl) (by kernel_rfl) (fun _ _ _ h => h) (Or.inl ⟨by rfl, ?hyb1⟩) A ?restb1
      case hyb1 => (intro w hSw; have c2 := hSw.mem.b2.cell; obtain ⟨p0, p1, p2, p3, p4, p5, p6⟩ := HP.out _ hSw;go_simp <;> with_reducible rfl)
      try simp only [Act.put, List.setIfInBounds_toArray, List.set_cons_zero, List.set_cons_succ]
      refine wpAnyH_take (i := 1) (oi := { dst := some 108, op := Op.load 2 (Operand.tmp 107), type := 2, pos := "laws.go:467", after := #[{ on := 0, ground := Ground.data }], guard := none }) (v := ?vvb2) rfl (by kernel_rfl) (by kernel_rfl) (by kernel_rfl) (fun _ _ _ h => h) (Or.inl ⟨by rfl, ?hyb2⟩) A ?restb2
      case hyb2 => (intro w hSw; have c2 := hSw.mem.b2.cell; obtain ⟨p0, p1, p2, p3, p4, p5, p6⟩ := HP.out _ hSw;go_simp <;> with_reducible rfl)
      try simp only [Act.put, List.setIfInBounds_toArray, List.set_cons_zero, List.set_cons_succ]
      refine wpAnyH_take (i := 2) (oi := { dst := some 109, op := Op.binOp BinOp.eql 2 (Operand.tmp 108) (Operand.const (Value.int IntKind.i64 0)) 2, type := 4, pos := "laws.go:467", after := #[{ on := 1, ground := Ground.data }], guard := none }) (v := ?vvb3) rfl (by kernel_rfl) (by kernel_rfl) (by kernel_rfl) (fun _ _ _ h => h) (Or.inl ⟨by rfl, ?hyb3⟩) A ?restb3
      case hyb3 => (intro w hSw; have c2 := hSw.mem.b2.cell; obtain ⟨p0, p1, p2, p3, p4, p5, p6⟩ := HP.out _ hSw;go_simp <;> with_reducible rfl)
      try simp only [Act.put, List.setIfInBounds_toArray, List.set_cons_zero, List.set_cons_succ]
      refine wpAnyH_take (i := 3) (oi := { dst := some 110, op := Op.move (Operand.tmp 109), type := 4, pos := "laws.go:467", after := #[{ on := 2, ground := Ground.data }], guard := none }) (v := ?vvb4) rfl (by kernel_rfl) (by kernel_rfl) (by kernel_rfl) (fun _ _ _ h => h) (Or.inl ⟨by rfl, ?hyb4⟩) A ?restb4
      case hyb4 => (intro w hSw; have c2 := hSw.mem.b2.cell; obtain ⟨p0, p1, p2, p3, p4, p5, p6⟩ := HP.out _ hSw;go_simp <;> with_reducible rfl)
      try simp only [Act.put, List.setIfInBounds_toArray, List.set_cons_zero, List.set_cons_succ]
      refine wpAnyH_take (i := 4) (oi := { dst := some 111, op := Op.fieldAddr 62 (Operand.tmp 11) 0, type := 0, pos := "laws.go:467", after := #[{ on := 3, ground := Ground.guard }], guard := some (3, true) }) (v := ?vvb5) rfl (by kernel_rfl) (by kernel_rfl) (by kernel_rfl) (fun _ _ _ h => h) (Or.inl ⟨by rfl, ?hyb5⟩) A ?restb5
      case hyb5 => (intro w hSw; have c2 := hSw.mem.b2.cell; obtain ⟨p0, p1, p2, p3, p4, p5, p6⟩ := HP.out _ hSw;go_simp <;> with_reducible rfl)
      try simp only [Act.put, List.setIfInBounds_toArray, List.set_cons_zero, List.set_cons_succ]
      refine wpAnyH_take (i := 5) (oi := { dst := some 112, op := Op.load 56 (Operand.tmp 111), type := 56, pos := "laws.go:467", after := #[{ on := 4, ground := Ground.data }, { on := 3, ground := Ground.guard }], guard := some (3, true) }) (v := ?vvb6) rfl (by kernel_rfl) (by kernel_rfl) (by kernel_rfl) (fun _ _ _ h => h) (Or.inl ⟨by rfl, ?hyb6⟩) A ?restb6
      case hyb6 => (intro w hSw; have c2 := hSw.mem.b2.cell; obtain ⟨p0, p1, p2, p3, p4, p5, p6⟩ := HP.out _ hSw;go_simp <;> with_reducible rfl)
      try simp only [Act.put, List.setIfInBounds_toArray, List.set_cons_zero, List.set_cons_succ]
      refine wpAnyH_take (i := 6) (oi := { dst := some 113, op := Op.move (Operand.tmp 9), type := 2, pos := "laws.go:467", after := #[{ on := 3, ground := Ground.guard }], guard := some (3, true) }) (v := ?vvb7) rfl (by kernel_rfl) (by kernel_rfl) (by kernel_rfl) (fun _ _ _ h => h) (Or.inl ⟨by rfl, ?hyb7⟩) A ?restb7
      case hyb7 => (intro w hSw; have c2 := hSw.mem.b2.cell; obtain ⟨p0, p1, p2, p3, p4, p5, p6⟩ := HP.out _ hSw;go_simp <;> with_reducible rfl)
      try simp only [Act.put, List.setIfInBounds_toArray, List.set_cons_zero, List.set_cons_succ]
      refine wpAnyH_take (i := 7) (oi := { dst := some 114, op := Op.move (Operand.tmp 10), type := 2, pos := "laws.go:467", after := #[{ on := 3, ground := Ground.guard }], guard := some (3, true) }) (v := ?vvb8) rfl (by kernel_rfl) (by kernel_rfl) (by kernel_rfl) (fun _ _ _ h => h) (Or.inl ⟨by rfl, ?hyb8⟩) A ?restb8
      case hyb8 => (intro w hSw; have c2 := hSw.mem.b2.cell; obtain ⟨p0, p1, p2, p3, p4, p5, p6⟩ := HP.out _ hSw;go_simp <;> with_reducible rfl)
      try simp only [Act.put, List.setIfInBounds_toArray, List.set_cons_zero, List.set_cons_succ]
      refine wpAnyH_take (i := 9) (oi := { dst := some 116, op := Op.build 58 #[], type := 58, pos := "laws.go:467", after := #[{ on := 3, ground := Ground.guard }], guard := some (3, true) }) (v := ?vvb9) rfl (by kernel_rfl) (by kernel_rfl) (by kernel_rfl) (fun _ _ _ h => h) (Or.inl ⟨by rfl, ?hyb9⟩) A ?restb9
      case hyb9 => (intro w hSw; have c2 := hSw.mem.b2.cell; obtain ⟨p0, p1, p2, p3, p4, p5, p6⟩ := HP.out _ hSw;go_simp <;> with_reducible rfl)
      try simp only [Act.put, List.setIfInBounds_toArray, List.set_cons_zero, List.set_cons_succ]
      refine wpAnyH_ready (rs := [8]) (by kernel_rfl) (by simp) ?_
      refine AllReadyH.cons (o := { dst := some 115, op := Op.call { callee := Callee.value (Operand.func 49), args := #[Operand.tmp 112, Operand.tmp 113, Operand.tmp 114], argTypes := #[56, 2, 2] }, type := 58, pos := "laws.go:467", after := #[{ on := 5, ground := Ground.data }, { on := 6, ground := Ground.data }, { on := 7, ground := Ground.data }, { on := 3, ground := Ground.chain }, { on := 3, ground := Ground.guard }], guard := some (3, true) }) rfl (fun K hK => ?_) AllReadyH.nil
      go_simp
      refine (HJy.out _ (A.sls _ mem4)).mono ?_
      rintro e u1 ⟨rfl, hb⟩
      replace A := A.kept hb
      clear hb
      refine hK.out _ _ A (fun hHeld => ?_)
      clear hK K hHeld
      try simp only [Act.put, List.setIfInBounds_toArray, List.set_cons_zero, List.set_cons_succ]
      refine wpAnyH_take (i := 10) (oi := { dst := some 117, op := Op.binOp BinOp.neq 58 (Operand.tmp 115) (Operand.tmp 116) 58, type := 4, pos := "laws.go:467", after := #[{ on := 8, ground := Ground.data }, { on := 9, ground := Ground.data }, { on := 3, ground := Ground.guard }], guard := some (3, true) }) (v := ?vvb10) rfl (by kernel_rfl) (by kernel_rfl) (by kernel_rfl) (fun _ _ _ h => h) (Or.inl ⟨by rfl, ?hyb10⟩) A ?restb10
      case hyb10 => (intro w hSw; have c2 := hSw.mem.b2.cell; obtain ⟨p0, p1, p2, p3, p4, p5, p6⟩ := HP.out _ hSw;go_simp <;> with_reducible rfl)
      try simp only [Act.put, List.setIfInBounds_toArray, List.set_cons_zero, List.set_cons_succ]
      refine wpAnyH_take (i := 11) (oi := { dst := some 118, op := Op.move (Operand.tmp 117), type := 4, pos := "laws.go:467", after := #[{ on := 10, ground := Ground.data }, { on := 8, ground := Ground.chain }, { on := 3, ground := Ground.guard }], guard := some (3, true) }) (v := ?vvb11) rfl (by kernel_rfl) (by kernel_rfl) (by kernel_rfl) (fun _ _ _ h => h) (Or.inl ⟨by rfl, ?hyb11⟩) A ?restb11
      case hyb11 => (intro w hSw; have c2 := hSw.mem.b2.cell; obtain ⟨p0, p1, p2, p3, p4, p5, p6⟩ := HP.out _ hSw;go_simp <;> with_reducible rfl)
      try simp only [Act.put, List.setIfInBounds_toArray, List.set_cons_zero, List.set_cons_succ]
      refine wpAnyH_take (i := 12) (oi := { dst := some 119, op := Op.fieldAddr 62 (Operand.tmp 11) 0, type := 0, pos := "laws.go:467", after := #[{ on := 11, ground := Ground.guard }], guard := some (11, false) }) (v := ?vvb12) rfl (by kernel_rfl) (by kernel_rfl) (by kernel_rfl) (fun _ _ _ h => h) (Or.inl ⟨by rfl, ?hyb12⟩) A ?restb12
      case hyb12 => (intro w hSw; have c2 := hSw.mem.b2.cell; obtain ⟨p0, p1, p2, p3, p4, p5, p6⟩ := HP.out _ hSw;go_simp <;> with_reducible rfl)
      try simp only [Act.put, List.setIfInBounds_toArray, List.set_cons_zero, List.set_cons_succ]
      refine wpAnyH_take (i := 13) (oi := { dst := some 120, op := Op.load 56 (Operand.tmp 119), type := 56, pos := "laws.go:467", after := #[{ on := 12, ground := Ground.data }, { on := 11, ground := Ground.guard }], guard := some (11, false) }) (v := ?vvb13) rfl (by kernel_rfl) (by kernel_rfl) (by kernel_rfl) (fun _ _ _ h => h) (Or.inl ⟨by rfl, ?hyb13⟩) A ?restb13
      case hyb13 => (intro w hSw; have c2 := hSw.mem.b2.cell; obtain ⟨p0, p1, p2, p3, p4, p5, p6⟩ := HP.out _ hSw;go_simp <;> with_reducible rfl)
      try simp only [Act.put, List.setIfInBounds_toArray, List.set_cons_zero, List.set_cons_succ]
      refine wpAnyH_take (i := 14) (oi := { dst := some 121, op := Op.call { callee := Callee.builtin Builtin.len, args := #[Operand.tmp 120], argTypes := #[56] }, type := 3, pos := "laws.go:467", after := #[{ on := 13, ground := Ground.data }, { on := 11, ground := Ground.guard }], guard := some (11, false) }) (v := ?vvb14) rfl (by kernel_rfl) (by kernel_rfl) (by kernel_rfl) (fun _ _ _ h => h) (Or.inl ⟨by rfl, ?hyb14⟩) A ?restb14
      case hyb14 => (intro w hSw; have c2 := hSw.mem.b2.cell; obtain ⟨p0, p1, p2, p3, p4, p5, p6⟩ := HP.out _ hSw;go_simp <;> with_reducible rfl)
      try simp only [Act.put, List.setIfInBounds_toArray, List.set_cons_zero, List.set_cons_succ]
      refine wpAnyH_take (i := 15) (oi := { dst := some 122, op := Op.move (Operand.tmp 8), type := 56, pos := "laws.go:467", after := #[{ on := 11, ground := Ground.guard }], guard := some (11, false) }) (v := ?vvb15) rfl (by kernel_rfl) (by kernel_rfl) (by kernel_rfl) (fun _ _ _ h => h) (Or.inl ⟨by rfl, ?hyb15⟩) A ?restb15
      case hyb15 => (intro w hSw; have c2 := hSw.mem.b2.cell; obtain ⟨p0, p1, p2, p3, p4, p5, p6⟩ := HP.out _ hSw;go_simp <;> with_reducible rfl)
      try simp only [Act.put, List.setIfInBounds_toArray, List.set_cons_zero, List.set_cons_succ]
      refine wpAnyH_take (i := 16) (oi := { dst := some 123, op := Op.call { callee := Callee.builtin Builtin.len, args := #[Operand.tmp 122], argTypes := #[56] }, type := 3, pos := "laws.go:467", after := #[{ on := 15, ground := Ground.data }, { on := 11, ground := Ground.guard }], guard := some (11, false) }) (v := ?vvb16) rfl (by kernel_rfl) (by kernel_rfl) (by kernel_rfl) (fun _ _ _ h => h) (Or.inl ⟨by rfl, ?hyb16⟩) A ?restb16
      case hyb16 => (intro w hSw; have c2 := hSw.mem.b2.cell; obtain ⟨p0, p1, p2, p3, p4, p5, p6⟩ := HP.out _ hSw;go_simp <;> with_reducible rfl)
      try simp only [Act.put, List.setIfInBounds_toArray, List.set_cons_zero, List.set_cons_succ]
      refine wpAnyH_take (i := 17) (oi := { dst := some 124, op := Op.binOp BinOp.sub 3 (Operand.tmp 123) (Operand.const (Value.int IntKind.i64 1)) 3, type := 3, pos := "laws.go:467", after := #[{ on := 16, ground := Ground.data }, { on := 11, ground := Ground.guard }], guard := some (11, false) }) (v := ?vvb17) rfl (by kernel_rfl) (by kernel_rfl) (by kernel_rfl) (fun _ _ _ h => h) (Or.inl ⟨by rfl, ?hyb17⟩) A ?restb17
      case hyb17 => (intro w hSw; have c2 := hSw.mem.b2.cell; obtain ⟨p0, p1, p2, p3, p4, p5, p6⟩ := HP.out _ hSw;go_simp <;> with_reducible rfl)
      try simp only [Act.put, List.setIfInBounds_toArray, List.set_cons_zero, List.set_cons_succ]
      refine wpAnyH_take (i := 18) (oi := { dst := some 125, op := Op.binOp BinOp.neq 3 (Operand.tmp 121) (Operand.tmp 124) 3, type := 4, pos := "laws.go:467", after := #[{ on := 14, ground := Ground.data }, { on := 17, ground := Ground.data }, { on := 11, ground := Ground.guard }], guard := some (11, false) }) (v := ?vvb18) rfl (by kernel_rfl) (by kernel_rfl) (by kernel_rfl) (fun _ _ _ h => h) (Or.inl ⟨by rfl, ?hyb18⟩) A ?restb18
      case hyb18 => (intro w hSw; have c2 := hSw.mem.b2.cell; obtain ⟨p0, p1, p2, p3, p4, p5, p6⟩ := HP.out _ hSw;go_simp <;> with_reducible rfl)
      try simp only [Act.put, List.setIfInBounds_toArray, List.set_cons_zero, List.set_cons_succ]
      refine wpAnyH_take (i := 19) (oi := { dst := some 126, op := Op.pick (Operand.tmp 118) (Operand.const (Value.bool true)) (Operand.tmp 125), type := 4, pos := "laws.go:467", after := #[{ on := 11, ground := Ground.data }, { on := 18, ground := Ground.data }, { on := 3, ground := Ground.guard }], guard := some (3, true) }) (v := ?vvb19) rfl (by kernel_rfl) (by kernel_rfl) (by kernel_rfl) (fun _ _ _ h => h) (Or.inl ⟨by rfl, ?hyb19⟩) A ?restb19
      case hyb19 => (intro w hSw; have c2 := hSw.mem.b2.cell; obtain ⟨p0, p1, p2, p3, p4, p5, p6⟩ := HP.out _ hSw;go_simp <;> with_reducible rfl)
      try simp only [Act.put, List.setIfInBounds_toArray, List.set_cons_zero, List.set_cons_succ]
      refine wpAnyH_take (i := 20) (oi := { dst := some 127, op := Op.move (Operand.tmp 126), type := 4, pos := "laws.go:467", after := #[{ on := 19, ground := Ground.data }, { on := 11, ground := Ground.chain }, { on := 3, ground := Ground.guard }], guard := some (3, true) }) (v := ?vvb20) rfl (by kernel_rfl) (by kernel_rfl) (by kernel_rfl) (fun _ _ _ h => h) (Or.inl ⟨by rfl, ?hyb20⟩) A ?restb20
      case hyb20 => (intro w hSw; have c2 := hSw.mem.b2.cell; obtain ⟨p0, p1, p2, p3, p4, p5, p6⟩ := HP.out _ hSw;go_simp <;> with_reducible rfl)
      try simp only [Act.put, List.setIfInBounds_toArray, List.set_cons_zero, List.set_cons_succ]
      refine wpAnyH_take (i := 21) (oi := { dst := some 128, op := Op.fieldAddr 62 (Operand.tmp 11) 0, type := 0, pos := "laws.go:467", after := #[{ on := 20, ground := Ground.guard }], guard := some (20, false) }) (v := ?vvb21) rfl (by kernel_rfl) (by kernel_rfl) (by kernel_rfl) (fun _ _ _ h => h) (Or.inl ⟨by rfl, ?hyb21⟩) A ?restb21
      case hyb21 => (intro w hSw; have c2 := hSw.mem.b2.cell; obtain ⟨p0, p1, p2, p3, p4, p5, p6⟩ := HP.out _ hSw;go_simp <;> with_reducible rfl)
      try simp only [Act.put, List.setIfInBounds_toArray, List.set_cons_zero, List.set_cons_succ]
      refine wpAnyH_take (i := 22) (oi := { dst := some 129, op := Op.load 56 (Operand.tmp 128), type := 56, pos := "laws.go:467", after := #[{ on := 21, ground := Ground.data }, { on := 20, ground := Ground.guard }], guard := some (20, false) }) (v := ?vvb22) rfl (by kernel_rfl) (by kernel_rfl) (by kernel_rfl) (fun _ _ _ h => h) (Or.inl ⟨by rfl, ?hyb22⟩) A ?restb22
      case hyb22 => (intro w hSw; have c2 := hSw.mem.b2.cell; obtain ⟨p0, p1, p2, p3, p4, p5, p6⟩ := HP.out _ hSw;go_simp <;> with_reducible rfl)
      try simp only [Act.put, List.setIfInBounds_toArray, List.set_cons_zero, List.set_cons_succ]
      refine wpAnyH_take (i := 23) (oi := { dst := some 130, op := Op.fieldAddr 62 (Operand.tmp 11) 1, type := 0, pos := "laws.go:467", after := #[{ on := 20, ground := Ground.guard }], guard := some (20, false) }) (v := ?vvb23) rfl (by kernel_rfl) (by kernel_rfl) (by kernel_rfl) (fun _ _ _ h => h) (Or.inl ⟨by rfl, ?hyb23⟩) A ?restb23
      case hyb23 => (intro w hSw; have c2 := hSw.mem.b2.cell; obtain ⟨p0, p1, p2, p3, p4, p5, p6⟩ := HP.out _ hSw;go_simp <;> with_reducible rfl)
      try simp only [Act.put, List.setIfInBounds_toArray, List.set_cons_zero, List.set_cons_succ]
      refine wpAnyH_take (i := 24) (oi := { dst := some 131, op := Op.load 56 (Operand.tmp 130), type := 56, pos := "laws.go:467", after := #[{ on := 23, ground := Ground.data }, { on := 20, ground := Ground.guard }], guard := some (20, false) }) (v := ?vvb24) rfl (by kernel_rfl) (by kernel_rfl) (by kernel_rfl) (fun _ _ _ h => h) (Or.inl ⟨by rfl, ?hyb24⟩) A ?restb24
      case hyb24 => (intro w hSw; have c2 := hSw.mem.b2.cell; obtain ⟨p0, p1, p2, p3, p4, p5, p6⟩ := HP.out _ hSw;go_simp <;> with_reducible rfl)
      try simp only [Act.put, List.setIfInBounds_toArray, List.set_cons_zero, List.set_cons_succ]
      refine wpAnyH_take (i := 25) (oi := { dst := some 132, op := Op.indexAddr 56 (Operand.tmp 131) (Operand.const (Value.int IntKind.i64 0)), type := 0, pos := "laws.go:467", after := #[{ on := 24, ground := Ground.data }, { on := 20, ground := Ground.guard }], guard := some (20, false) }) (v := ?vvb25) rfl (by kernel_rfl) (by kernel_rfl) (by kernel_rfl) (fun _ _ _ h => h) (Or.inl ⟨by rfl, ?hyb25⟩) A ?restb25
      case hyb25 => (intro w hSw; have c2 := hSw.mem.b2.cell; obtain ⟨p0, p1, p2, p3, p4, p5, p6⟩ := HP.out _ hSw;go_simp <;> with_reducible rfl)
      try simp only [Act.put, List.setIfInBounds_toArray, List.set_cons_zero, List.set_cons_succ]
      refine wpAnyH_take (i := 26) (oi := { dst := some 133, op := Op.load 58 (Operand.tmp 132), type := 58, pos := "laws.go:467", after := #[{ on := 25, ground := Ground.data }, { on := 20, ground := Ground.guard }], guard := some (20, false) }) (v := ?vvb26) rfl (by kernel_rfl) (by kernel_rfl) (by kernel_rfl) (fun _ _ _ h => h) (Or.inl ⟨by rfl, ?hyb26⟩) A ?restb26
      case hyb26 => (intro w hSw; have c2 := hSw.mem.b2.cell; obtain ⟨p0, p1, p2, p3, p4, p5, p6⟩ := HP.out _ hSw;go_simp <;> with_reducible rfl)
      try simp only [Act.put, List.setIfInBounds_toArray, List.set_cons_zero, List.set_cons_succ]
      refine wpAnyH_take (i := 29) (oi := { dst := some 136, op := Op.move (Operand.tmp 8), type := 56, pos := "laws.go:467", after := #[{ on := 20, ground := Ground.guard }], guard := some (20, false) }) (v := ?vvb27) rfl (by kernel_rfl) (by kernel_rfl) (by kernel_rfl) (fun _ _ _ h => h) (Or.inl ⟨by rfl, ?hyb27⟩) A ?restb27
      case hyb27 => (intro w hSw; have c2 := hSw.mem.b2.cell; obtain ⟨p0, p1, p2, p3, p4, p5, p6⟩ := HP.out _ hSw;go_simp <;> with_reducible rfl)
      try simp only [Act.put, List.setIfInBounds_toArray, List.set_cons_zero, List.set_cons_succ]
      refine wpAnyH_ready (rs := [27]) (by kernel_rfl) (by simp) ?_
      refine AllReadyH.cons (o := { dst := some 134, op := Op.call { callee := Callee.value (Operand.func 39), args := #[Operand.tmp 129, Operand.tmp 133], argTypes := #[56, 58] }, type := 62, pos := "laws.go:467", after := #[{ on := 22, ground := Ground.data }, { on := 26, ground := Ground.data }, { on := 20, ground := Ground.chain }, { on := 20, ground := Ground.guard }], guard := some (20, false) }) rfl (fun K hK => ?_) AllReadyH.nil
      go_simp
      refine (HJq.out _ (A.sls _ mem4)).mono ?_
      rintro e u2 ⟨sv, ta, tn, tc, scode, rfl, ho1, hb⟩
      replace A := A.kept hb
      have HS1 := Lib.hid (rows_of_own Gu.cl_len ho1)
      obtain ⟨sa, sc, rfl⟩ := rown_form ho1
      clear ho1 hb
      refine hK.out _ _ A (fun hHeld => ?_)
      clear hK K hHeld
      try simp only [Act.put, List.setIfInBounds_toArray, List.set_cons_zero, List.set_cons_succ]
      refine wpAnyH_take (i := 28) (oi := { dst := some 135, op := Op.field 62 (Operand.tmp 134) 0, type := 56, pos := "laws.go:467", after := #[{ on := 27, ground := Ground.data }, { on := 20, ground := Ground.guard }], guard := some (20, false) }) (v := ?vvb28) rfl (by kernel_rfl) (by kernel_rfl) (by kernel_rfl) (fun _ _ _ h => h) (Or.inl ⟨by rfl, ?hyb28⟩) A ?restb28
      case hyb28 => (intro w hSw; have c2 := hSw.mem.b2.cell; obtain ⟨p0, p1, p2, p3, p4, p5, p6⟩ := HP.out _ hSw;go_simp <;> with_reducible rfl)
      try simp only [Act.put, List.setIfInBounds_toArray, List.set_cons_zero, List.set_cons_succ]
      refine wpAnyH_ready (rs := [30]) (by kernel_rfl) (by simp) ?_
      refine AllReadyH.cons (o := { dst := some 137, op := Op.call { callee := Callee.value (Operand.func 55), args := #[Operand.tmp 135, Operand.tmp 136], argTypes := #[56, 56] }, type := 4, pos := "laws.go:467", after := #[{ on := 28, ground := Ground.data }, { on := 29, ground := Ground.data }, { on := 27, ground := Ground.chain }, { on := 20, ground := Ground.guard }], guard := some (20, false) }) rfl (fun K hK => ?_) AllReadyH.nil
      go_simp
      refine (HLr.out _ _ _ HS1.out (A.sls _ mem5)).mono ?_
      rintro e u3 ⟨rfl, hb⟩
      replace A := A.kept hb
      clear hb HS1
      refine hK.out _ _ A (fun hHeld => ?_)
      clear hK K hHeld
      try simp only [Act.put, List.setIfInBounds_toArray, List.set_cons_zero, List.set_cons_succ]
      refine wpAnyH_take (i := 31) (oi := { dst := some 138, op := Op.unOp UnOp.not 4 (Operand.tmp 137), type := 4, pos := "laws.go:467", after := #[{ on := 30, ground := Ground.data }, { on := 20, ground := Ground.guard }], guard := some (20, false) }) (v := ?vvb29) rfl (by kernel_rfl) (by kernel_rfl) (by kernel_rfl) (fun _ _ _ h => h) (Or.inl ⟨by rfl, ?hyb29⟩) A ?restb29
      case hyb29 => (intro w hSw; have c2 := hSw.mem.b2.cell; obtain ⟨p0, p1, p2, p3, p4, p5, p6⟩ := HP.out _ hSw;go_simp <;> with_reducible rfl)
      try simp only [Act.put, List.setIfInBounds_toArray, List.set_cons_zero, List.set_cons_succ]
      refine wpAnyH_take (i := 32) (oi := { dst := some 139, op := Op.pick (Operand.tmp 127) (Operand.const (Value.bool true)) (Operand.tmp 138), type := 4, pos := "laws.go:467", after := #[{ on := 20, ground := Ground.data }, { on := 31, ground := Ground.data }, { on := 3, ground := Ground.guard }], guard := some (3, true) }) (v := ?vvb30) rfl (by kernel_rfl) (by kernel_rfl) (by kernel_rfl) (fun _ _ _ h => h) (Or.inl ⟨by rfl, ?hyb30⟩) A ?restb30
      case hyb30 => (intro w hSw; have c2 := hSw.mem.b2.cell; obtain ⟨p0, p1, p2, p3, p4, p5, p6⟩ := HP.out _ hSw;go_simp <;> with_reducible rfl)
      try simp only [Act.put, List.setIfInBounds_toArray, List.set_cons_zero, List.set_cons_succ]
      refine wpAnyH_take (i := 33) (oi := { dst := some 140, op := Op.pick (Operand.tmp 110) (Operand.tmp 139) (Operand.const (Value.bool false)), type := 4, pos := "laws.go:467", after := #[{ on := 3, ground := Ground.data }, { on := 32, ground := Ground.data }], guard := none }) (v := ?vvb31) rfl (by kernel_rfl) (by kernel_rfl) (by kernel_rfl) (fun _ _ _ h => h) (Or.inl ⟨by rfl, ?hyb31⟩) A ?restb31
      case hyb31 => (intro w hSw; have c2 := hSw.mem.b2.cell; obtain ⟨p0, p1, p2, p3, p4, p5, p6⟩ := HP.out _ hSw;go_simp <;> with_reducible rfl)
      try simp only [Act.put, List.setIfInBounds_toArray, List.set_cons_zero, List.set_cons_succ]
      refine wpAnyH_done (by kernel_rfl) ?_ _
      all_goals
        have HA := Lib.hid A
        clear A HJy HJq HLr HP hfl
        go_wp2_with fail
        go_loopw [17] (fun u wr => ∃ i : Nat, i ≤ ZO.length ∧ u = .int .i64 (i : Int) ∧ Hid (FgM w wr [(qk, 58, #[.int .i64 k.vni, .int .i64 k.mac, .int .i64 k.ip, .int .i64 k.door, .int .i64 k.seq, .int .i64 k.seen, .bool k.st]), (qz, 62, #[.slice za ZM.length zc, .slice ua ZO.length uc, .int .i64 zk]), (qy, 62, #[.slice ya YM.length yc, .slice (some ⟨b, off, none⟩) 1 pc, .int .i64 0]), (qx, 62, #[.slice xa XM.length xc, .slice oa XO.length oc, .int .i64 xk]), (qg, 58, #[.int .i64 r.vni, .int .i64 r.mac, .int .i64 r.ip, .int .i64 r.door, .int .i64 r.seq, .int .i64 r.seen, .bool r.st])] [(.slice ua ZO.length uc, ZO), (.slice za ZM.length zc, ZM), (.slice aa a.length ac, a), (.slice (some ⟨b, off, none⟩) 1 pc, [x]), (.slice ya YM.length yc, YM), (.slice da d.length dc, d), (.slice oa XO.length oc, XO), (.slice xa XM.length xc, XM), (.slice la l.length lc, l)])) (fun u _ => ZO.length - (intOf u).toNat)
        case atStart => exact ⟨0, Nat.zero_le _, rfl, HA⟩
        case round =>
          clear HA
          obtain ⟨i, hi, rfl, HA⟩ := hrel
          by_cases hlt : i < ZO.length
          · have hne : ZO.map Gu.cl ≠ [] := fun e => by have := congrArg List.length e; simp at this; rw [this] at hlt; simp at hlt
            have hlI : (i : Int) < (ZO.length : Int) := by omega
            have c1 := HA.out.mem.b1.cell
            obtain ⟨b3, off3, hua, p5, p6⟩ : ∃ b off, ua = some ⟨b, off, none⟩ ∧ wr.cell? ⟨b, off + i * 7 + 5, none⟩ = some (.int .i64 ZO[i].seen) ∧ wr.cell? ⟨b, off + i * 7 + 6, none⟩ = some (.bool ZO[i].st) := by
              obtain ⟨a', c', e', hh⟩ := HA.out.sls _ mem0
              obtain ⟨b, off, ha, hb, HE⟩ := hh hne
              injection e' with e1 e2 e3
              obtain ⟨_, _, _, _, _, p5, p6⟩ := HE.gu i hlt
              exact ⟨b, off, e1.trans ha, p5, p6⟩
            subst hua
            have HZ := HAgo.out _ (List.getElem_mem hlt)
            generalize ZO[i] = y at *
            obtain ⟨y0, y1, y2, y3, y4, y5, y6⟩ := y
            dsimp only at p5 p6 HZ
            obtain ⟨rfl, hz5, hn0, hn1⟩ := HZ
            have hwn : IntKind.i64.wrap (now - 200) = now - 200 := by simp only [IntKind.wrap_i64]; omega
            have hge : ¬ now - 200 ≤ y5 := by omega
            go_wp2_with fail
            go_roundw
            case rel => exact ⟨i + 1, by omega, by simp, HA⟩
            case measure => simp [intOf]; omega
          · have hi2 : i = ZO.length := by omega
            have hlI : ¬ (i : Int) < (ZO.length : Int) := by omega
            subst hi2
            have c1 := HA.out.mem.b1.cell
            by_cases hz0 : zk = 0
            · subst hz0
              have hzn := HAln.out rfl
              have hzw : IntKind.i64.wrap ((ZM.length : Int) + (ZO.length : Int)) = (a.length : Int) := by simp only [IntKind.wrap_i64]; omega
              clear HAln
              go_upto_region 21 with fail
              clear c1 hzn hzw
              have A := HA.out
              clear HA
              by_cases hx0 : xk = 0
              · subst hx0
                have HIz := Lib.hid (HIx.out rfl)
                clear HIx
                replace A := A.drew
                refine wp_region_held_drew (S := fun W' => FgM w W' _ _) (by kernel_rfl) A (fun hHeld => ?_)
                clear hHeld
                refine wpAnyH_take (i := 0) (oi := { dst := some 180, op := Op.fieldAddr 62 (Operand.tmp 7) 2, type := 0, pos := "laws.go:478", after := #[], guard := none }) (v := ?vvt111) rfl (by kernel_rfl) (by kernel_rfl) (by kernel_rfl) (fun _ _ _ h => h) (Or.inl ⟨by rfl, ?hyt111⟩) A ?restt111
                case hyt111 => (intro w hSw; have c3 := hSw.mem.b3.cell; have c4 := hSw.mem.b4.cell;go_simp <;> with_reducible rfl)
                try simp only [Act.put, List.setIfInBounds_toArray, List.set_cons_zero, List.set_cons_succ]
                refine wpAnyH_take (i := 1) (oi := { dst := some 181, op := Op.load 2 (Operand.tmp 180), type := 2, pos := "laws.go:478", after := #[{ on := 0, ground := Ground.data }], guard := none }) (v := ?vvt112) rfl (by kernel_rfl) (by kernel_rfl) (by kernel_rfl) (fun _ _ _ h => h) (Or.inl ⟨by rfl, ?hyt112⟩) A ?restt112
                case hyt112 => (intro w hSw; have c3 := hSw.mem.b3.cell; have c4 := hSw.mem.b4.cell;go_simp <;> with_reducible rfl)
                try simp only [Act.put, List.setIfInBounds_toArray, List.set_cons_zero, List.set_cons_succ]
                refine wpAnyH_take (i := 2) (oi := { dst := some 182, op := Op.binOp BinOp.neq 2 (Operand.tmp 181) (Operand.const (Value.int IntKind.i64 0)) 2, type := 4, pos := "laws.go:478", after := #[{ on := 1, ground := Ground.data }], guard := none }) (v := ?vvt113) rfl (by kernel_rfl) (by kernel_rfl) (by kernel_rfl) (fun _ _ _ h => h) (Or.inl ⟨by rfl, ?hyt113⟩) A ?restt113
                case hyt113 => (intro w hSw; have c3 := hSw.mem.b3.cell; have c4 := hSw.mem.b4.cell;go_simp <;> with_reducible rfl)
                try simp only [Act.put, List.setIfInBounds_toArray, List.set_cons_zero, List.set_cons_succ]
                refine wpAnyH_take (i := 3) (oi := { dst := some 183, op := Op.move (Operand.tmp 182), type := 4, pos := "laws.go:478", after := #[{ on := 2, ground := Ground.data }], guard := none }) (v := ?vvt114) rfl (by kernel_rfl) (by kernel_rfl) (by kernel_rfl) (fun _ _ _ h => h) (Or.inl ⟨by rfl, ?hyt114⟩) A ?restt114
                case hyt114 => (intro w hSw; have c3 := hSw.mem.b3.cell; have c4 := hSw.mem.b4.cell;go_simp <;> with_reducible rfl)
                try simp only [Act.put, List.setIfInBounds_toArray, List.set_cons_zero, List.set_cons_succ]
                refine wpAnyH_take (i := 4) (oi := { dst := some 184, op := Op.fieldAddr 62 (Operand.tmp 7) 0, type := 0, pos := "laws.go:478", after := #[{ on := 3, ground := Ground.guard }], guard := some (3, false) }) (v := ?vvt115) rfl (by kernel_rfl) (by kernel_rfl) (by kernel_rfl) (fun _ _ _ h => h) (Or.inl ⟨by rfl, ?hyt115⟩) A ?restt115
                case hyt115 => (intro w hSw; have c3 := hSw.mem.b3.cell; have c4 := hSw.mem.b4.cell;go_simp <;> with_reducible rfl)
                try simp only [Act.put, List.setIfInBounds_toArray, List.set_cons_zero, List.set_cons_succ]
                refine wpAnyH_take (i := 5) (oi := { dst := some 185, op := Op.load 56 (Operand.tmp 184), type := 56, pos := "laws.go:478", after := #[{ on := 4, ground := Ground.data }, { on := 3, ground := Ground.guard }], guard := some (3, false) }) (v := ?vvt116) rfl (by kernel_rfl) (by kernel_rfl) (by kernel_rfl) (fun _ _ _ h => h) (Or.inl ⟨by rfl, ?hyt116⟩) A ?restt116
                case hyt116 => (intro w hSw; have c3 := hSw.mem.b3.cell; have c4 := hSw.mem.b4.cell;go_simp <;> with_reducible rfl)
                try simp only [Act.put, List.setIfInBounds_toArray, List.set_cons_zero, List.set_cons_succ]
                refine wpAnyH_take (i := 6) (oi := { dst := some 186, op := Op.fieldAddr 58 (Operand.tmp 6) 0, type := 0, pos := "laws.go:478", after := #[{ on := 3, ground := Ground.guard }], guard := some (3, false) }) (v := ?vvt117) rfl (by kernel_rfl) (by kernel_rfl) (by kernel_rfl) (fun _ _ _ h => h) (Or.inl ⟨by rfl, ?hyt117⟩) A ?restt117
                case hyt117 => (intro w hSw; have c3 := hSw.mem.b3.cell; have c4 := hSw.mem.b4.cell;go_simp <;> with_reducible rfl)
                try simp only [Act.put, List.setIfInBounds_toArray, List.set_cons_zero, List.set_cons_succ]
                refine wpAnyH_take (i := 7) (oi := { dst := some 187, op := Op.load 2 (Operand.tmp 186), type := 2, pos := "laws.go:478", after := #[{ on := 6, ground := Ground.data }, { on := 3, ground := Ground.guard }], guard := some (3, false) }) (v := ?vvt118) rfl (by kernel_rfl) (by kernel_rfl) (by kernel_rfl) (fun _ _ _ h => h) (Or.inl ⟨by rfl, ?hyt118⟩) A ?restt118
                case hyt118 => (intro w hSw; have c3 := hSw.mem.b3.cell; have c4 := hSw.mem.b4.cell;go_simp <;> with_reducible rfl)
                try simp only [Act.put, List.setIfInBounds_toArray, List.set_cons_zero, List.set_cons_succ]
                refine wpAnyH_take (i := 8) (oi := { dst := some 188, op := Op.fieldAddr 58 (Operand.tmp 6) 1, type := 0, pos := "laws.go:478", after := #[{ on := 3, ground := Ground.guard }], guard := some (3, false) }) (v := ?vvt119) rfl (by kernel_rfl) (by kernel_rfl) (by kernel_rfl) (fun _ _ _ h => h) (Or.inl ⟨by rfl, ?hyt119⟩) A ?restt119
                case hyt119 => (intro w hSw; have c3 := hSw.mem.b3.cell; have c4 := hSw.mem.b4.cell;go_simp <;> with_reducible rfl)
                try simp only [Act.put, List.setIfInBounds_toArray, List.set_cons_zero, List.set_cons_succ]
                refine wpAnyH_take (i := 9) (oi := { dst := some 189, op := Op.load 2 (Operand.tmp 188), type := 2, pos := "laws.go:478", after := #[{ on := 8, ground := Ground.data }, { on := 3, ground := Ground.guard }], guard := some (3, false) }) (v := ?vvt1110) rfl (by kernel_rfl) (by kernel_rfl) (by kernel_rfl) (fun _ _ _ h => h) (Or.inl ⟨by rfl, ?hyt1110⟩) A ?restt1110
                case hyt1110 => (intro w hSw; have c3 := hSw.mem.b3.cell; have c4 := hSw.mem.b4.cell;go_simp <;> with_reducible rfl)
                try simp only [Act.put, List.setIfInBounds_toArray, List.set_cons_zero, List.set_cons_succ]
                refine wpAnyH_take (i := 11) (oi := { dst := some 191, op := Op.load 58 (Operand.tmp 6), type := 58, pos := "laws.go:478", after := #[{ on := 3, ground := Ground.guard }], guard := some (3, false) }) (v := ?vvt1111) rfl (by kernel_rfl) (by kernel_rfl) (by kernel_rfl) (fun _ _ _ h => h) (Or.inl ⟨by rfl, ?hyt1111⟩) A ?restt1111
                case hyt1111 => (intro w hSw; have c3 := hSw.mem.b3.cell; have c4 := hSw.mem.b4.cell;go_simp <;> with_reducible rfl)
                try simp only [Act.put, List.setIfInBounds_toArray, List.set_cons_zero, List.set_cons_succ]
                refine wpAnyH_ready (rs := [10]) (by kernel_rfl) (by simp) ?_
                refine AllReadyH.cons (o := { dst := some 190, op := Op.call { callee := Callee.value (Operand.func 49), args := #[Operand.tmp 185, Operand.tmp 187, Operand.tmp 189], argTypes := #[56, 2, 2] }, type := 58, pos := "laws.go:478", after := #[{ on := 5, ground := Ground.data }, { on := 7, ground := Ground.data }, { on := 9, ground := Ground.data }, { on := 3, ground := Ground.chain }, { on := 3, ground := Ground.guard }], guard := some (3, false) }) rfl (fun K hK => ?_) AllReadyH.nil
                go_simp
                refine (HIz.out _ (A.sls _ mem7)).mono ?_
                rintro e u1 ⟨rfl, hb⟩
                replace A := A.kept hb
                clear hb
                refine hK.out _ _ A (fun hHeld => ?_)
                clear hK K hHeld
                try simp only [Act.put, List.setIfInBounds_toArray, List.set_cons_zero, List.set_cons_succ]
                refine wpAnyH_take (i := 12) (oi := { dst := some 192, op := Op.binOp BinOp.eql 58 (Operand.tmp 190) (Operand.tmp 191) 58, type := 4, pos := "laws.go:478", after := #[{ on := 10, ground := Ground.data }, { on := 11, ground := Ground.data }, { on := 3, ground := Ground.guard }], guard := some (3, false) }) (v := ?vvt1112) rfl (by kernel_rfl) (by kernel_rfl) (by kernel_rfl) (fun _ _ _ h => h) (Or.inl ⟨by rfl, ?hyt1112⟩) A ?restt1112
                case hyt1112 => (intro w hSw; have c3 := hSw.mem.b3.cell; have c4 := hSw.mem.b4.cell;go_simp <;> with_reducible rfl)
                try simp only [Act.put, List.setIfInBounds_toArray, List.set_cons_zero, List.set_cons_succ]
                refine wpAnyH_take (i := 13) (oi := { dst := some 193, op := Op.pick (Operand.tmp 183) (Operand.const (Value.bool true)) (Operand.tmp 192), type := 4, pos := "laws.go:478", after := #[{ on := 3, ground := Ground.data }, { on := 12, ground := Ground.data }], guard := none }) (v := ?vvt1113) rfl (by kernel_rfl) (by kernel_rfl) (by kernel_rfl) (fun _ _ _ h => h) (Or.inl ⟨by rfl, ?hyt1113⟩) A ?restt1113
                case hyt1113 => (intro w hSw; have c3 := hSw.mem.b3.cell; have c4 := hSw.mem.b4.cell;go_simp <;> with_reducible rfl)
                try simp only [Act.put, List.setIfInBounds_toArray, List.set_cons_zero, List.set_cons_succ]
                refine wpAnyH_take (i := 14) (oi := { dst := some 4, op := Op.assign (Operand.tmp 193), type := 4, pos := "laws.go:478", after := #[{ on := 13, ground := Ground.data }, { on := 10, ground := Ground.chain }, { on := 0, ground := Ground.phase }, { on := 1, ground := Ground.phase }, { on := 2, ground := Ground.phase }, { on := 3, ground := Ground.phase }, { on := 4, ground := Ground.phase }, { on := 5, ground := Ground.phase }, { on := 6, ground := Ground.phase }, { on := 7, ground := Ground.phase }, { on := 8, ground := Ground.phase }, { on := 9, ground := Ground.phase }, { on := 10, ground := Ground.phase }, { on := 11, ground := Ground.phase }, { on := 12, ground := Ground.phase }, { on := 13, ground := Ground.phase }], guard := none }) (v := ?vvt1114) rfl (by kernel_rfl) (by kernel_rfl) (by kernel_rfl) (fun _ _ _ h => h) (Or.inl ⟨by rfl, ?hyt1114⟩) A ?restt1114
                case hyt1114 => (intro w hSw; have c3 := hSw.mem.b3.cell; have c4 := hSw.mem.b4.cell;go_simp <;> with_reducible rfl)
                try simp only [Act.put, List.setIfInBounds_toArray, List.set_cons_zero, List.set_cons_succ]
                refine wpAnyH_done (by kernel_rfl) ?_ _
                all_goals
                  have HB := Lib.hid A.bel
                  go_wp2_with fail
                  go_ret
                  exact ⟨rfl, HB.out⟩
              · clear HIx
                have HX1 : Hid (decide (xk = 0) = false) := Lib.hid (decide_eq_false hx0)
                have HX2 : Hid ((xk == 0) = false) := Lib.hid (by simpa using hx0)
                have HX3 : Hid ((xk != 0) = true) := Lib.hid (by simpa using hx0)
                have HX4 : Hid (Bool.not false = true) := Lib.hid rfl
                replace A := A.drew
                refine wp_region_held_drew (S := fun W' => FgM w W' _ _) (by kernel_rfl) A (fun hHeld => ?_)
                clear hHeld
                refine wpAnyH_take (i := 0) (oi := { dst := some 180, op := Op.fieldAddr 62 (Operand.tmp 7) 2, type := 0, pos := "laws.go:478", after := #[], guard := none }) (v := ?vvt121) rfl (by kernel_rfl) (by kernel_rfl) (by kernel_rfl) (fun _ _ _ h => h) (Or.inl ⟨by rfl, ?hyt121⟩) A ?restt121
                case hyt121 => (intro w hSw; have c3 := hSw.mem.b3.cell; have c4 := hSw.mem.b4.cell;go_simp <;> with_reducible rfl)
                try simp only [Act.put, List.setIfInBounds_toArray, List.set_cons_zero, List.set_cons_succ]
                try simp only [HX1.out]
                try simp only [HX2.out]
                try simp only [HX3.out]
                try simp only [HX4.out]
                refine wpAnyH_take (i := 1) (oi := { dst := some 181, op := Op.load 2 (Operand.tmp 180), type := 2, pos := "laws.go:478", after := #[{ on := 0, ground := Ground.data }], guard := none }) (v := ?vvt122) rfl (by kernel_rfl) (by kernel_rfl) (by kernel_rfl) (fun _ _ _ h => h) (Or.inl ⟨by rfl, ?hyt122⟩) A ?restt122
                case hyt122 => (intro w hSw; have c3 := hSw.mem.b3.cell; have c4 := hSw.mem.b4.cell;go_simp <;> with_reducible rfl)
                try simp only [Act.put, List.setIfInBounds_toArray, List.set_cons_zero, List.set_cons_succ]
                try simp only [HX1.out]
                try simp only [HX2.out]
                try simp only [HX3.out]
                try simp only [HX4.out]
                refine wpAnyH_take (i := 2) (oi := { dst := some 182, op := Op.binOp BinOp.neq 2 (Operand.tmp 181) (Operand.const (Value.int IntKind.i64 0)) 2, type := 4, pos := "laws.go:478", after := #[{ on := 1, ground := Ground.data }], guard := none }) (v := ?vvt123) rfl (by kernel_rfl) (by kernel_rfl) (by kernel_rfl) (fun _ _ _ h => h) (Or.inl ⟨by rfl, ?hyt123⟩) A ?restt123
                case hyt123 => (intro w hSw; have c3 := hSw.mem.b3.cell; have c4 := hSw.mem.b4.cell;go_simp <;> with_reducible rfl)
                try simp only [Act.put, List.setIfInBounds_toArray, List.set_cons_zero, List.set_cons_succ]
                try simp only [HX1.out]
                try simp only [HX2.out]
                try simp only [HX3.out]
                try simp only [HX4.out]
                refine wpAnyH_take (i := 3) (oi := { dst := some 183, op := Op.move (Operand.tmp 182), type := 4, pos := "laws.go:478", after := #[{ on := 2, ground := Ground.data }], guard := none }) (v := ?vvt124) rfl (by kernel_rfl) (by kernel_rfl) (by kernel_rfl) (fun _ _ _ h => h) (Or.inl ⟨by rfl, ?hyt124⟩) A ?restt124
                case hyt124 => (intro w hSw; have c3 := hSw.mem.b3.cell; have c4 := hSw.mem.b4.cell;go_simp <;> with_reducible rfl)
                try simp only [Act.put, List.setIfInBounds_toArray, List.set_cons_zero, List.set_cons_succ]
                try simp only [HX1.out]
                try simp only [HX2.out]
                try simp only [HX3.out]
                try simp only [HX4.out]
                refine wpAnyH_take (i := 4) (oi := { dst := some 184, op := Op.fieldAddr 62 (Operand.tmp 7) 0, type := 0, pos := "laws.go:478", after := #[{ on := 3, ground := Ground.guard }], guard := some (3, false) }) (v := undef) rfl (by kernel_rfl) (by kernel_rfl) (by kernel_rfl) (fun _ _ _ h => h) (Or.inr ⟨by rfl, rfl⟩) A ?_
                try simp only [Act.put, List.setIfInBounds_toArray, List.set_cons_zero, List.set_cons_succ]
                try simp only [HX1.out]
                try simp only [HX2.out]
                try simp only [HX3.out]
                try simp only [HX4.out]
                refine wpAnyH_take (i := 5) (oi := { dst := some 185, op := Op.load 56 (Operand.tmp 184), type := 56, pos := "laws.go:478", after := #[{ on := 4, ground := Ground.data }, { on := 3, ground := Ground.guard }], guard := some (3, false) }) (v := undef) rfl (by kernel_rfl) (by kernel_rfl) (by kernel_rfl) (fun _ _ _ h => h) (Or.inr ⟨by rfl, rfl⟩) A ?_
                try simp only [Act.put, List.setIfInBounds_toArray, List.set_cons_zero, List.set_cons_succ]
                try simp only [HX1.out]
                try simp only [HX2.out]
                try simp only [HX3.out]
                try simp only [HX4.out]
                refine wpAnyH_take (i := 6) (oi := { dst := some 186, op := Op.fieldAddr 58 (Operand.tmp 6) 0, type := 0, pos := "laws.go:478", after := #[{ on := 3, ground := Ground.guard }], guard := some (3, false) }) (v := undef) rfl (by kernel_rfl) (by kernel_rfl) (by kernel_rfl) (fun _ _ _ h => h) (Or.inr ⟨by rfl, rfl⟩) A ?_
                try simp only [Act.put, List.setIfInBounds_toArray, List.set_cons_zero, List.set_cons_succ]
                try simp only [HX1.out]
                try simp only [HX2.out]
                try simp only [HX3.out]
                try simp only [HX4.out]
                refine wpAnyH_take (i := 7) (oi := { dst := some 187, op := Op.load 2 (Operand.tmp 186), type := 2, pos := "laws.go:478", after := #[{ on := 6, ground := Ground.data }, { on := 3, ground := Ground.guard }], guard := some (3, false) }) (v := undef) rfl (by kernel_rfl) (by kernel_rfl) (by kernel_rfl) (fun _ _ _ h => h) (Or.inr ⟨by rfl, rfl⟩) A ?_
                try simp only [Act.put, List.setIfInBounds_toArray, List.set_cons_zero, List.set_cons_succ]
                try simp only [HX1.out]
                try simp only [HX2.out]
                try simp only [HX3.out]
                try simp only [HX4.out]
                refine wpAnyH_take (i := 8) (oi := { dst := some 188, op := Op.fieldAddr 58 (Operand.tmp 6) 1, type := 0, pos := "laws.go:478", after := #[{ on := 3, ground := Ground.guard }], guard := some (3, false) }) (v := undef) rfl (by kernel_rfl) (by kernel_rfl) (by kernel_rfl) (fun _ _ _ h => h) (Or.inr ⟨by rfl, rfl⟩) A ?_
                try simp only [Act.put, List.setIfInBounds_toArray, List.set_cons_zero, List.set_cons_succ]
                try simp only [HX1.out]
                try simp only [HX2.out]
                try simp only [HX3.out]
                try simp only [HX4.out]
                refine wpAnyH_take (i := 9) (oi := { dst := some 189, op := Op.load 2 (Operand.tmp 188), type := 2, pos := "laws.go:478", after := #[{ on := 8, ground := Ground.data }, { on := 3, ground := Ground.guard }], guard := some (3, false) }) (v := undef) rfl (by kernel_rfl) (by kernel_rfl) (by kernel_rfl) (fun _ _ _ h => h) (Or.inr ⟨by rfl, rfl⟩) A ?_
                try simp only [Act.put, List.setIfInBounds_toArray, List.set_cons_zero, List.set_cons_succ]
                try simp only [HX1.out]
                try simp only [HX2.out]
                try simp only [HX3.out]
                try simp only [HX4.out]
                refine wpAnyH_take (i := 10) (oi := { dst := some 190, op := Op.call { callee := Callee.value (Operand.func 49), args := #[Operand.tmp 185, Operand.tmp 187, Operand.tmp 189], argTypes := #[56, 2, 2] }, type := 58, pos := "laws.go:478", after := #[{ on := 5, ground := Ground.data }, { on := 7, ground := Ground.data }, { on := 9, ground := Ground.data }, { on := 3, ground := Ground.chain }, { on := 3, ground := Ground.guard }], guard := some (3, false) }) (v := undef) rfl (by kernel_rfl) (by kernel_rfl) (by kernel_rfl) (fun _ _ _ h => h) (Or.inr ⟨by rfl, rfl⟩) A ?_
                try simp only [Act.put, List.setIfInBounds_toArray, List.set_cons_zero, List.set_cons_succ]
                try simp only [HX1.out]
                try simp only [HX2.out]
                try simp only [HX3.out]
                try simp only [HX4.out]
                refine wpAnyH_take (i := 11) (oi := { dst := some 191, op := Op.load 58 (Operand.tmp 6), type := 58, pos := "laws.go:478", after := #[{ on := 3, ground := Ground.guard }], guard := some (3, false) }) (v := undef) rfl (by kernel_rfl) (by kernel_rfl) (by kernel_rfl) (fun _ _ _ h => h) (Or.inr ⟨by rfl, rfl⟩) A ?_
                try simp only [Act.put, List.setIfInBounds_toArray, List.set_cons_zero, List.set_cons_succ]
                try simp only [HX1.out]
                try simp only [HX2.out]
                try simp only [HX3.out]
                try simp only [HX4.out]
                refine wpAnyH_take (i := 12) (oi := { dst := some 192, op := Op.binOp BinOp.eql 58 (Operand.tmp 190) (Operand.tmp 191) 58, type := 4, pos := "laws.go:478", after := #[{ on := 10, ground := Ground.data }, { on := 11, ground := Ground.data }, { on := 3, ground := Ground.guard }], guard := some (3, false) }) (v := undef) rfl (by kernel_rfl) (by kernel_rfl) (by kernel_rfl) (fun _ _ _ h => h) (Or.inr ⟨by rfl, rfl⟩) A ?_
                try simp only [Act.put, List.setIfInBounds_toArray, List.set_cons_zero, List.set_cons_succ]
                try simp only [HX1.out]
                try simp only [HX2.out]
                try simp only [HX3.out]
                try simp only [HX4.out]
                refine wpAnyH_take (i := 13) (oi := { dst := some 193, op := Op.pick (Operand.tmp 183) (Operand.const (Value.bool true)) (Operand.tmp 192), type := 4, pos := "laws.go:478", after := #[{ on := 3, ground := Ground.data }, { on := 12, ground := Ground.data }], guard := none }) (v := ?vvt1214) rfl (by kernel_rfl) (by kernel_rfl) (by kernel_rfl) (fun _ _ _ h => h) (Or.inl ⟨by rfl, ?hyt1214⟩) A ?restt1214
                case hyt1214 => (intro w hSw; have c3 := hSw.mem.b3.cell; have c4 := hSw.mem.b4.cell;go_simp <;> with_reducible rfl)
                try simp only [Act.put, List.setIfInBounds_toArray, List.set_cons_zero, List.set_cons_succ]
                try simp only [HX1.out]
                try simp only [HX2.out]
                try simp only [HX3.out]
                try simp only [HX4.out]
                refine wpAnyH_take (i := 14) (oi := { dst := some 4, op := Op.assign (Operand.tmp 193), type := 4, pos := "laws.go:478", after := #[{ on := 13, ground := Ground.data }, { on := 10, ground := Ground.chain }, { on := 0, ground := Ground.phase }, { on := 1, ground := Ground.phase }, { on := 2, ground := Ground.phase }, { on := 3, ground := Ground.phase }, { on := 4, ground := Ground.phase }, { on := 5, ground := Ground.phase }, { on := 6, ground := Ground.phase }, { on := 7, ground := Ground.phase }, { on := 8, ground := Ground.phase }, { on := 9, ground := Ground.phase }, { on := 10, ground := Ground.phase }, { on := 11, ground := Ground.phase }, { on := 12, ground := Ground.phase }, { on := 13, ground := Ground.phase }], guard := none }) (v := ?vvt1215) rfl (by kernel_rfl) (by kernel_rfl) (by kernel_rfl) (fun _ _ _ h => h) (Or.inl ⟨by rfl, ?hyt1215⟩) A ?restt1215
                case hyt1215 => (intro w hSw; have c3 := hSw.mem.b3.cell; have c4 := hSw.mem.b4.cell;go_simp <;> with_reducible rfl)
                try simp only [Act.put, List.setIfInBounds_toArray, List.set_cons_zero, List.set_cons_succ]
                try simp only [HX1.out]
                try simp only [HX2.out]
                try simp only [HX3.out]
                try simp only [HX4.out]
                refine wpAnyH_done (by kernel_rfl) ?_ _
                all_goals
                  have HB := Lib.hid A.bel
                  go_wp2_with fail
                  go_ret
                  exact ⟨rfl, HB.out⟩
            · clear HAln
              go_upto_region 21 with fail
              clear c1
              have A := HA.out
              clear HA
              by_cases hx0 : xk = 0
              · subst hx0
                have HIz := Lib.hid (HIx.out rfl)
                clear HIx
                replace A := A.drew
                refine wp_region_held_drew (S := fun W' => FgM w W' _ _) (by kernel_rfl) A (fun hHeld => ?_)
                clear hHeld
                refine wpAnyH_take (i := 0) (oi := { dst := some 180, op := Op.fieldAddr 62 (Operand.tmp 7) 2, type := 0, pos := "laws.go:478", after := #[], guard := none }) (v := ?vvt211) rfl (by kernel_rfl) (by kernel_rfl) (by kernel_rfl) (fun _ _ _ h => h) (Or.inl ⟨by rfl, ?hyt211⟩) A ?restt211
                case hyt211 => (intro w hSw; have c3 := hSw.mem.b3.cell; have c4 := hSw.mem.b4.cell;go_simp <;> with_reducible rfl)
                try simp only [Act.put, List.setIfInBounds_toArray, List.set_cons_zero, List.set_cons_succ]
                refine wpAnyH_take (i := 1) (oi := { dst := some 181, op := Op.load 2 (Operand.tmp 180), type := 2, pos := "laws.go:478", after := #[{ on := 0, ground := Ground.data }], guard := none }) (v := ?vvt212) rfl (by kernel_rfl) (by kernel_rfl) (by kernel_rfl) (fun _ _ _ h => h) (Or.inl ⟨by rfl, ?hyt212⟩) A ?restt212
                case hyt212 => (intro w hSw; have c3 := hSw.mem.b3.cell; have c4 := hSw.mem.b4.cell;go_simp <;> with_reducible rfl)
                try simp only [Act.put, List.setIfInBounds_toArray, List.set_cons_zero, List.set_cons_succ]
                refine wpAnyH_take (i := 2) (oi := { dst := some 182, op := Op.binOp BinOp.neq 2 (Operand.tmp 181) (Operand.const (Value.int IntKind.i64 0)) 2, type := 4, pos := "laws.go:478", after := #[{ on := 1, ground := Ground.data }], guard := none }) (v := ?vvt213) rfl (by kernel_rfl) (by kernel_rfl) (by kernel_rfl) (fun _ _ _ h => h) (Or.inl ⟨by rfl, ?hyt213⟩) A ?restt213
                case hyt213 => (intro w hSw; have c3 := hSw.mem.b3.cell; have c4 := hSw.mem.b4.cell;go_simp <;> with_reducible rfl)
                try simp only [Act.put, List.setIfInBounds_toArray, List.set_cons_zero, List.set_cons_succ]
                refine wpAnyH_take (i := 3) (oi := { dst := some 183, op := Op.move (Operand.tmp 182), type := 4, pos := "laws.go:478", after := #[{ on := 2, ground := Ground.data }], guard := none }) (v := ?vvt214) rfl (by kernel_rfl) (by kernel_rfl) (by kernel_rfl) (fun _ _ _ h => h) (Or.inl ⟨by rfl, ?hyt214⟩) A ?restt214
                case hyt214 => (intro w hSw; have c3 := hSw.mem.b3.cell; have c4 := hSw.mem.b4.cell;go_simp <;> with_reducible rfl)
                try simp only [Act.put, List.setIfInBounds_toArray, List.set_cons_zero, List.set_cons_succ]
                refine wpAnyH_take (i := 4) (oi := { dst := some 184, op := Op.fieldAddr 62 (Operand.tmp 7) 0, type := 0, pos := "laws.go:478", after := #[{ on := 3, ground := Ground.guard }], guard := some (3, false) }) (v := ?vvt215) rfl (by kernel_rfl) (by kernel_rfl) (by kernel_rfl) (fun _ _ _ h => h) (Or.inl ⟨by rfl, ?hyt215⟩) A ?restt215
                case hyt215 => (intro w hSw; have c3 := hSw.mem.b3.cell; have c4 := hSw.mem.b4.cell;go_simp <;> with_reducible rfl)
                try simp only [Act.put, List.setIfInBounds_toArray, List.set_cons_zero, List.set_cons_succ]
                refine wpAnyH_take (i := 5) (oi := { dst := some 185, op := Op.load 56 (Operand.tmp 184), type := 56, pos := "laws.go:478", after := #[{ on := 4, ground := Ground.data }, { on := 3, ground := Ground.guard }], guard := some (3, false) }) (v := ?vvt216) rfl (by kernel_rfl) (by kernel_rfl) (by kernel_rfl) (fun _ _ _ h => h) (Or.inl ⟨by rfl, ?hyt216⟩) A ?restt216
                case hyt216 => (intro w hSw; have c3 := hSw.mem.b3.cell; have c4 := hSw.mem.b4.cell;go_simp <;> with_reducible rfl)
                try simp only [Act.put, List.setIfInBounds_toArray, List.set_cons_zero, List.set_cons_succ]
                refine wpAnyH_take (i := 6) (oi := { dst := some 186, op := Op.fieldAddr 58 (Operand.tmp 6) 0, type := 0, pos := "laws.go:478", after := #[{ on := 3, ground := Ground.guard }], guard := some (3, false) }) (v := ?vvt217) rfl (by kernel_rfl) (by kernel_rfl) (by kernel_rfl) (fun _ _ _ h => h) (Or.inl ⟨by rfl, ?hyt217⟩) A ?restt217
                case hyt217 => (intro w hSw; have c3 := hSw.mem.b3.cell; have c4 := hSw.mem.b4.cell;go_simp <;> with_reducible rfl)
                try simp only [Act.put, List.setIfInBounds_toArray, List.set_cons_zero, List.set_cons_succ]
                refine wpAnyH_take (i := 7) (oi := { dst := some 187, op := Op.load 2 (Operand.tmp 186), type := 2, pos := "laws.go:478", after := #[{ on := 6, ground := Ground.data }, { on := 3, ground := Ground.guard }], guard := some (3, false) }) (v := ?vvt218) rfl (by kernel_rfl) (by kernel_rfl) (by kernel_rfl) (fun _ _ _ h => h) (Or.inl ⟨by rfl, ?hyt218⟩) A ?restt218
                case hyt218 => (intro w hSw; have c3 := hSw.mem.b3.cell; have c4 := hSw.mem.b4.cell;go_simp <;> with_reducible rfl)
                try simp only [Act.put, List.setIfInBounds_toArray, List.set_cons_zero, List.set_cons_succ]
                refine wpAnyH_take (i := 8) (oi := { dst := some 188, op := Op.fieldAddr 58 (Operand.tmp 6) 1, type := 0, pos := "laws.go:478", after := #[{ on := 3, ground := Ground.guard }], guard := some (3, false) }) (v := ?vvt219) rfl (by kernel_rfl) (by kernel_rfl) (by kernel_rfl) (fun _ _ _ h => h) (Or.inl ⟨by rfl, ?hyt219⟩) A ?restt219
                case hyt219 => (intro w hSw; have c3 := hSw.mem.b3.cell; have c4 := hSw.mem.b4.cell;go_simp <;> with_reducible rfl)
                try simp only [Act.put, List.setIfInBounds_toArray, List.set_cons_zero, List.set_cons_succ]
                refine wpAnyH_take (i := 9) (oi := { dst := some 189, op := Op.load 2 (Operand.tmp 188), type := 2, pos := "laws.go:478", after := #[{ on := 8, ground := Ground.data }, { on := 3, ground := Ground.guard }], guard := some (3, false) }) (v := ?vvt2110) rfl (by kernel_rfl) (by kernel_rfl) (by kernel_rfl) (fun _ _ _ h => h) (Or.inl ⟨by rfl, ?hyt2110⟩) A ?restt2110
                case hyt2110 => (intro w hSw; have c3 := hSw.mem.b3.cell; have c4 := hSw.mem.b4.cell;go_simp <;> with_reducible rfl)
                try simp only [Act.put, List.setIfInBounds_toArray, List.set_cons_zero, List.set_cons_succ]
                refine wpAnyH_take (i := 11) (oi := { dst := some 191, op := Op.load 58 (Operand.tmp 6), type := 58, pos := "laws.go:478", after := #[{ on := 3, ground := Ground.guard }], guard := some (3, false) }) (v := ?vvt2111) rfl (by kernel_rfl) (by kernel_rfl) (by kernel_rfl) (fun _ _ _ h => h) (Or.inl ⟨by rfl, ?hyt2111⟩) A ?restt2111
                case hyt2111 => (intro w hSw; have c3 := hSw.mem.b3.cell; have c4 := hSw.mem.b4.cell;go_simp <;> with_reducible rfl)
                try simp only [Act.put, List.setIfInBounds_toArray, List.set_cons_zero, List.set_cons_succ]
                refine wpAnyH_ready (rs := [10]) (by kernel_rfl) (by simp) ?_
                refine AllReadyH.cons (o := { dst := some 190, op := Op.call { callee := Callee.value (Operand.func 49), args := #[Operand.tmp 185, Operand.tmp 187, Operand.tmp 189], argTypes := #[56, 2, 2] }, type := 58, pos := "laws.go:478", after := #[{ on := 5, ground := Ground.data }, { on := 7, ground := Ground.data }, { on := 9, ground := Ground.data }, { on := 3, ground := Ground.chain }, { on := 3, ground := Ground.guard }], guard := some (3, false) }) rfl (fun K hK => ?_) AllReadyH.nil
                go_simp
                refine (HIz.out _ (A.sls _ mem7)).mono ?_
                rintro e u1 ⟨rfl, hb⟩
                replace A := A.kept hb
                clear hb
                refine hK.out _ _ A (fun hHeld => ?_)
                clear hK K hHeld
                try simp only [Act.put, List.setIfInBounds_toArray, List.set_cons_zero, List.set_cons_succ]
                refine wpAnyH_take (i := 12) (oi := { dst := some 192, op := Op.binOp BinOp.eql 58 (Operand.tmp 190) (Operand.tmp 191) 58, type := 4, pos := "laws.go:478", after := #[{ on := 10, ground := Ground.data }, { on := 11, ground := Ground.data }, { on := 3, ground := Ground.guard }], guard := some (3, false) }) (v := ?vvt2112) rfl (by kernel_rfl) (by kernel_rfl) (by kernel_rfl) (fun _ _ _ h => h) (Or.inl ⟨by rfl, ?hyt2112⟩) A ?restt2112
                case hyt2112 => (intro w hSw; have c3 := hSw.mem.b3.cell; have c4 := hSw.mem.b4.cell;go_simp <;> with_reducible rfl)
                try simp only [Act.put, List.setIfInBounds_toArray, List.set_cons_zero, List.set_cons_succ]
                refine wpAnyH_take (i := 13) (oi := { dst := some 193, op := Op.pick (Operand.tmp 183) (Operand.const (Value.bool true)) (Operand.tmp 192), type := 4, pos := "laws.go:478", after := #[{ on := 3, ground := Ground.data }, { on := 12, ground := Ground.data }], guard := none }) (v := ?vvt2113) rfl (by kernel_rfl) (by kernel_rfl) (by kernel_rfl) (fun _ _ _ h => h) (Or.inl ⟨by rfl, ?hyt2113⟩) A ?restt2113
                case hyt2113 => (intro w hSw; have c3 := hSw.mem.b3.cell; have c4 := hSw.mem.b4.cell;go_simp <;> with_reducible rfl)
                try simp only [Act.put, List.setIfInBounds_toArray, List.set_cons_zero, List.set_cons_succ]
                refine wpAnyH_take (i := 14) (oi := { dst := some 4, op := Op.assign (Operand.tmp 193), type := 4, pos := "laws.go:478", after := #[{ on := 13, ground := Ground.data }, { on := 10, ground := Ground.chain }, { on := 0, ground := Ground.phase }, { on := 1, ground := Ground.phase }, { on := 2, ground := Ground.phase }, { on := 3, ground := Ground.phase }, { on := 4, ground := Ground.phase }, { on := 5, ground := Ground.phase }, { on := 6, ground := Ground.phase }, { on := 7, ground := Ground.phase }, { on := 8, ground := Ground.phase }, { on := 9, ground := Ground.phase }, { on := 10, ground := Ground.phase }, { on := 11, ground := Ground.phase }, { on := 12, ground := Ground.phase }, { on := 13, ground := Ground.phase }], guard := none }) (v := ?vvt2114) rfl (by kernel_rfl) (by kernel_rfl) (by kernel_rfl) (fun _ _ _ h => h) (Or.inl ⟨by rfl, ?hyt2114⟩) A ?restt2114
                case hyt2114 => (intro w hSw; have c3 := hSw.mem.b3.cell; have c4 := hSw.mem.b4.cell;go_simp <;> with_reducible rfl)
                try simp only [Act.put, List.setIfInBounds_toArray, List.set_cons_zero, List.set_cons_succ]
                refine wpAnyH_done (by kernel_rfl) ?_ _
                all_goals
                  have HB := Lib.hid A.bel
                  go_wp2_with fail
                  go_ret
                  exact ⟨rfl, HB.out⟩
              · clear HIx
                have HX1 : Hid (decide (xk = 0) = false) := Lib.hid (decide_eq_false hx0)
                have HX2 : Hid ((xk == 0) = false) := Lib.hid (by simpa using hx0)
                have HX3 : Hid ((xk != 0) = true) := Lib.hid (by simpa using hx0)
                have HX4 : Hid (Bool.not false = true) := Lib.hid rfl
                replace A := A.drew
                refine wp_region_held_drew (S := fun W' => FgM w W' _ _) (by kernel_rfl) A (fun hHeld => ?_)
                clear hHeld
                refine wpAnyH_take (i := 0) (oi := { dst := some 180, op := Op.fieldAddr 62 (Operand.tmp 7) 2, type := 0, pos := "laws.go:478", after := #[], guard := none }) (v := ?vvt221) rfl (by kernel_rfl) (by kernel_rfl) (by kernel_rfl) (fun _ _ _ h => h) (Or.inl ⟨by rfl, ?hyt221⟩) A ?restt221
                case hyt221 => (intro w hSw; have c3 := hSw.mem.b3.cell; have c4 := hSw.mem.b4.cell;go_simp <;> with_reducible rfl)
                try simp only [Act.put, List.setIfInBounds_toArray, List.set_cons_zero, List.set_cons_succ]
                try simp only [HX1.out]
                try simp only [HX2.out]
                try simp only [HX3.out]
                try simp only [HX4.out]
                refine wpAnyH_take (i := 1) (oi := { dst := some 181, op := Op.load 2 (Operand.tmp 180), type := 2, pos := "laws.go:478", after := #[{ on := 0, ground := Ground.data }], guard := none }) (v := ?vvt222) rfl (by kernel_rfl) (by kernel_rfl) (by kernel_rfl) (fun _ _ _ h => h) (Or.inl ⟨by rfl, ?hyt222⟩) A ?restt222
                case hyt222 => (intro w hSw; have c3 := hSw.mem.b3.cell; have c4 := hSw.mem.b4.cell;go_simp <;> with_reducible rfl)
                try simp only [Act.put, List.setIfInBounds_toArray, List.set_cons_zero, List.set_cons_succ]
                try simp only [HX1.out]
                try simp only [HX2.out]
                try simp only [HX3.out]
                try simp only [HX4.out]
                refine wpAnyH_take (i := 2) (oi := { dst := some 182, op := Op.binOp BinOp.neq 2 (Operand.tmp 181) (Operand.const (Value.int IntKind.i64 0)) 2, type := 4, pos := "laws.go:478", after := #[{ on := 1, ground := Ground.data }], guard := none }) (v := ?vvt223) rfl (by kernel_rfl) (by kernel_rfl) (by kernel_rfl) (fun _ _ _ h => h) (Or.inl ⟨by rfl, ?hyt223⟩) A ?restt223
                case hyt223 => (intro w hSw; have c3 := hSw.mem.b3.cell; have c4 := hSw.mem.b4.cell;go_simp <;> with_reducible rfl)
                try simp only [Act.put, List.setIfInBounds_toArray, List.set_cons_zero, List.set_cons_succ]
                try simp only [HX1.out]
                try simp only [HX2.out]
                try simp only [HX3.out]
                try simp only [HX4.out]
                refine wpAnyH_take (i := 3) (oi := { dst := some 183, op := Op.move (Operand.tmp 182), type := 4, pos := "laws.go:478", after := #[{ on := 2, ground := Ground.data }], guard := none }) (v := ?vvt224) rfl (by kernel_rfl) (by kernel_rfl) (by kernel_rfl) (fun _ _ _ h => h) (Or.inl ⟨by rfl, ?hyt224⟩) A ?restt224
                case hyt224 => (intro w hSw; have c3 := hSw.mem.b3.cell; have c4 := hSw.mem.b4.cell;go_simp <;> with_reducible rfl)
                try simp only [Act.put, List.setIfInBounds_toArray, List.set_cons_zero, List.set_cons_succ]
                try simp only [HX1.out]
                try simp only [HX2.out]
                try simp only [HX3.out]
                try simp only [HX4.out]
                refine wpAnyH_take (i := 4) (oi := { dst := some 184, op := Op.fieldAddr 62 (Operand.tmp 7) 0, type := 0, pos := "laws.go:478", after := #[{ on := 3, ground := Ground.guard }], guard := some (3, false) }) (v := undef) rfl (by kernel_rfl) (by kernel_rfl) (by kernel_rfl) (fun _ _ _ h => h) (Or.inr ⟨by rfl, rfl⟩) A ?_
                try simp only [Act.put, List.setIfInBounds_toArray, List.set_cons_zero, List.set_cons_succ]
                try simp only [HX1.out]
                try simp only [HX2.out]
                try simp only [HX3.out]
                try simp only [HX4.out]
                refine wpAnyH_take (i := 5) (oi := { dst := some 185, op := Op.load 56 (Operand.tmp 184), type := 56, pos := "laws.go:478", after := #[{ on := 4, ground := Ground.data }, { on := 3, ground := Ground.guard }], guard := some (3, false) }) (v := undef) rfl (by kernel_rfl) (by kernel_rfl) (by kernel_rfl) (fun _ _ _ h => h) (Or.inr ⟨by rfl, rfl⟩) A ?_
                try simp only [Act.put, List.setIfInBounds_toArray, List.set_cons_zero, List.set_cons_succ]
                try simp only [HX1.out]
                try simp only [HX2.out]
                try simp only [HX3.out]
                try simp only [HX4.out]
                refine wpAnyH_take (i := 6) (oi := { dst := some 186, op := Op.fieldAddr 58 (Operand.tmp 6) 0, type := 0, pos := "laws.go:478", after := #[{ on := 3, ground := Ground.guard }], guard := some (3, false) }) (v := undef) rfl (by kernel_rfl) (by kernel_rfl) (by kernel_rfl) (fun _ _ _ h => h) (Or.inr ⟨by rfl, rfl⟩) A ?_
                try simp only [Act.put, List.setIfInBounds_toArray, List.set_cons_zero, List.set_cons_succ]
                try simp only [HX1.out]
                try simp only [HX2.out]
                try simp only [HX3.out]
                try simp only [HX4.out]
                refine wpAnyH_take (i := 7) (oi := { dst := some 187, op := Op.load 2 (Operand.tmp 186), type := 2, pos := "laws.go:478", after := #[{ on := 6, ground := Ground.data }, { on := 3, ground := Ground.guard }], guard := some (3, false) }) (v := undef) rfl (by kernel_rfl) (by kernel_rfl) (by kernel_rfl) (fun _ _ _ h => h) (Or.inr ⟨by rfl, rfl⟩) A ?_
                try simp only [Act.put, List.setIfInBounds_toArray, List.set_cons_zero, List.set_cons_succ]
                try simp only [HX1.out]
                try simp only [HX2.out]
                try simp only [HX3.out]
                try simp only [HX4.out]
                refine wpAnyH_take (i := 8) (oi := { dst := some 188, op := Op.fieldAddr 58 (Operand.tmp 6) 1, type := 0, pos := "laws.go:478", after := #[{ on := 3, ground := Ground.guard }], guard := some (3, false) }) (v := undef) rfl (by kernel_rfl) (by kernel_rfl) (by kernel_rfl) (fun _ _ _ h => h) (Or.inr ⟨by rfl, rfl⟩) A ?_
                try simp only [Act.put, List.setIfInBounds_toArray, List.set_cons_zero, List.set_cons_succ]
                try simp only [HX1.out]
                try simp only [HX2.out]
                try simp only [HX3.out]
                try simp only [HX4.out]
                refine wpAnyH_take (i := 9) (oi := { dst := some 189, op := Op.load 2 (Operand.tmp 188), type := 2, pos := "laws.go:478", after := #[{ on := 8, ground := Ground.data }, { on := 3, ground := Ground.guard }], guard := some (3, false) }) (v := undef) rfl (by kernel_rfl) (by kernel_rfl) (by kernel_rfl) (fun _ _ _ h => h) (Or.inr ⟨by rfl, rfl⟩) A ?_
                try simp only [Act.put, List.setIfInBounds_toArray, List.set_cons_zero, List.set_cons_succ]
                try simp only [HX1.out]
                try simp only [HX2.out]
                try simp only [HX3.out]
                try simp only [HX4.out]
                refine wpAnyH_take (i := 10) (oi := { dst := some 190, op := Op.call { callee := Callee.value (Operand.func 49), args := #[Operand.tmp 185, Operand.tmp 187, Operand.tmp 189], argTypes := #[56, 2, 2] }, type := 58, pos := "laws.go:478", after := #[{ on := 5, ground := Ground.data }, { on := 7, ground := Ground.data }, { on := 9, ground := Ground.data }, { on := 3, ground := Ground.chain }, { on := 3, ground := Ground.guard }], guard := some (3, false) }) (v := undef) rfl (by kernel_rfl) (by kernel_rfl) (by kernel_rfl) (fun _ _ _ h => h) (Or.inr ⟨by rfl, rfl⟩) A ?_
                try simp only [Act.put, List.setIfInBounds_toArray, List.set_cons_zero, List.set_cons_succ]
                try simp only [HX1.out]
                try simp only [HX2.out]
                try simp only [HX3.out]
                try simp only [HX4.out]
                refine wpAnyH_take (i := 11) (oi := { dst := some 191, op := Op.load 58 (Operand.tmp 6), type := 58, pos := "laws.go:478", after := #[{ on := 3, ground := Ground.guard }], guard := some (3, false) }) (v := undef) rfl (by kernel_rfl) (by kernel_rfl) (by kernel_rfl) (fun _ _ _ h => h) (Or.inr ⟨by rfl, rfl⟩) A ?_
                try simp only [Act.put, List.setIfInBounds_toArray, List.set_cons_zero, List.set_cons_succ]
                try simp only [HX1.out]
                try simp only [HX2.out]
                try simp only [HX3.out]
                try simp only [HX4.out]
                refine wpAnyH_take (i := 12) (oi := { dst := some 192, op := Op.binOp BinOp.eql 58 (Operand.tmp 190) (Operand.tmp 191) 58, type := 4, pos := "laws.go:478", after := #[{ on := 10, ground := Ground.data }, { on := 11, ground := Ground.data }, { on := 3, ground := Ground.guard }], guard := some (3, false) }) (v := undef) rfl (by kernel_rfl) (by kernel_rfl) (by kernel_rfl) (fun _ _ _ h => h) (Or.inr ⟨by rfl, rfl⟩) A ?_
                try simp only [Act.put, List.setIfInBounds_toArray, List.set_cons_zero, List.set_cons_succ]
                try simp only [HX1.out]
                try simp only [HX2.out]
                try simp only [HX3.out]
                try simp only [HX4.out]
                refine wpAnyH_take (i := 13) (oi := { dst := some 193, op := Op.pick (Operand.tmp 183) (Operand.const (Value.bool true)) (Operand.tmp 192), type := 4, pos := "laws.go:478", after := #[{ on := 3, ground := Ground.data }, { on := 12, ground := Ground.data }], guard := none }) (v := ?vvt2214) rfl (by kernel_rfl) (by kernel_rfl) (by kernel_rfl) (fun _ _ _ h => h) (Or.inl ⟨by rfl, ?hyt2214⟩) A ?restt2214
                case hyt2214 => (intro w hSw; have c3 := hSw.mem.b3.cell; have c4 := hSw.mem.b4.cell;go_simp <;> with_reducible rfl)
                try simp only [Act.put, List.setIfInBounds_toArray, List.set_cons_zero, List.set_cons_succ]
                try simp only [HX1.out]
                try simp only [HX2.out]
                try simp only [HX3.out]
                try simp only [HX4.out]
                refine wpAnyH_take (i := 14) (oi := { dst := some 4, op := Op.assign (Operand.tmp 193), type := 4, pos := "laws.go:478", after := #[{ on := 13, ground := Ground.data }, { on := 10, ground := Ground.chain }, { on := 0, ground := Ground.phase }, { on := 1, ground := Ground.phase }, { on := 2, ground := Ground.phase }, { on := 3, ground := Ground.phase }, { on := 4, ground := Ground.phase }, { on := 5, ground := Ground.phase }, { on := 6, ground := Ground.phase }, { on := 7, ground := Ground.phase }, { on := 8, ground := Ground.phase }, { on := 9, ground := Ground.phase }, { on := 10, ground := Ground.phase }, { on := 11, ground := Ground.phase }, { on := 12, ground := Ground.phase }, { on := 13, ground := Ground.phase }], guard := none }) (v := ?vvt2215) rfl (by kernel_rfl) (by kernel_rfl) (by kernel_rfl) (fun _ _ _ h => h) (Or.inl ⟨by rfl, ?hyt2215⟩) A ?restt2215
                case hyt2215 => (intro w hSw; have c3 := hSw.mem.b3.cell; have c4 := hSw.mem.b4.cell;go_simp <;> with_reducible rfl)
                try simp only [Act.put, List.setIfInBounds_toArray, List.set_cons_zero, List.set_cons_succ]
                try simp only [HX1.out]
                try simp only [HX2.out]
                try simp only [HX3.out]
                try simp only [HX4.out]
                refine wpAnyH_done (by kernel_rfl) ?_ _
                all_goals
                  have HB := Lib.hid A.bel
                  go_wp2_with fail
                  go_ret
                  exact ⟨rfl, HB.out⟩
    · have HX1 : Hid (decide (yk = 0) = false) := Lib.hid (decide_eq_false hy0)
      have HX2 : Hid ((yk == 0) = false) := Lib.hid (by simpa using hy0)
      have A := HA.out
      clear HIy HIq HDone HDln HA HLr
      go_upto_region 12 with fail
      replace A := A.drew
      refine wp_region_held_drew (S := fun W' => FgM w W' _ _) (by kernel_rfl) A (fun hHeld => ?_)
      clear hHeld
      refine wpAnyH_take (i := 0) (oi := { dst := some 107, op := Op.fieldAddr 62 (Operand.tmp 11) 2, type := 0, pos := "laws.go:467", after := #[], guard := none }) (v := ?vvc1) rfl (by kernel_rfl) (by kernel_rfl) (by kernel_rfl) (fun _ _ _ h => h) (Or.inl ⟨by rfl, ?hyc1⟩) A ?restc1
      case hyc1 => (intro w hSw; have c2 := hSw.mem.b2.cell;go_simp <;> with_reducible rfl)
      try simp only [Act.put, List.setIfInBounds_toArray, List.set_cons_zero, List.set_cons_succ]
      try simp only [HX1.out]
      try simp only [HX2.out]
      refine wpAnyH_take (i := 1) (oi := { dst := some 108, op := Op.load 2 (Operand.tmp 107), type := 2, pos := "laws.go:467", after := #[{ on := 0, ground := Ground.data }], guard := none }) (v := ?vvc2) rfl (by kernel_rfl) (by kernel_rfl) (by kernel_rfl) (fun _ _ _ h => h) (Or.inl ⟨by rfl, ?hyc2⟩) A ?restc2
      case hyc2 => (intro w hSw; have c2 := hSw.mem.b2.cell;go_simp <;> with_reducible rfl)
      try simp only [Act.put, List.setIfInBounds_toArray, List.set_cons_zero, List.set_cons_succ]
      try simp only [HX1.out]
      try simp only [HX2.out]
      refine wpAnyH_take (i := 2) (oi := { dst := some 109, op := Op.binOp BinOp.eql 2 (Operand.tmp 108) (Operand.const (Value.int IntKind.i64 0)) 2, type := 4, pos := "laws.go:467", after := #[{ on := 1, ground := Ground.data }], guard := none }) (v := ?vvc3) rfl (by kernel_rfl) (by kernel_rfl) (by kernel_rfl) (fun _ _ _ h => h) (Or.inl ⟨by rfl, ?hyc3⟩) A ?restc3
      case hyc3 => (intro w hSw; have c2 := hSw.mem.b2.cell;go_simp <;> with_reducible rfl)
      try simp only [Act.put, List.setIfInBounds_toArray, List.set_cons_zero, List.set_cons_succ]
      try simp only [HX1.out]
      try simp only [HX2.out]
      refine wpAnyH_take (i := 3) (oi := { dst := some 110, op := Op.move (Operand.tmp 109), type := 4, pos := "laws.go:467", after := #[{ on := 2, ground := Ground.data }], guard := none }) (v := ?vvc4) rfl (by kernel_rfl) (by kernel_rfl) (by kernel_rfl) (fun _ _ _ h => h) (Or.inl ⟨by rfl, ?hyc4⟩) A ?restc4
      case hyc4 => (intro w hSw; have c2 := hSw.mem.b2.cell;go_simp <;> with_reducible rfl)
      try simp only [Act.put, List.setIfInBounds_toArray, List.set_cons_zero, List.set_cons_succ]
      try simp only [HX1.out]
      try simp only [HX2.out]
      refine wpAnyH_take (i := 4) (oi := { dst := some 111, op := Op.fieldAddr 62 (Operand.tmp 11) 0, type := 0, pos := "laws.go:467", after := #[{ on := 3, ground := Ground.guard }], guard := some (3, true) }) (v := undef) rfl (by kernel_rfl) (by kernel_rfl) (by kernel_rfl) (fun _ _ _ h => h) (Or.inr ⟨by rfl, rfl⟩) A ?_
      try simp only [Act.put, List.setIfInBounds_toArray, List.set_cons_zero, List.set_cons_succ]
      try simp only [HX1.out]
      try simp only [HX2.out]
      refine wpAnyH_take (i := 5) (oi := { dst := some 112, op := Op.load 56 (Operand.tmp 111), type := 56, pos := "laws.go:467", after := #[{ on := 4, ground := Ground.data }, { on := 3, ground := Ground.guard }], guard := some (3, true) }) (v := undef) rfl (by kernel_rfl) (by kernel_rfl) (by kernel_rfl) (fun _ _ _ h => h) (Or.inr ⟨by rfl, rfl⟩) A ?_
      try simp only [Act.put, List.setIfInBounds_toArray, List.set_cons_zero, List.set_cons_succ]
      try simp only [HX1.out]
      try simp only [HX2.out]
      refine wpAnyH_take (i := 6) (oi := { dst := some 113, op := Op.move (Operand.tmp 9), type := 2, pos := "laws.go:467", after := #[{ on := 3, ground := Ground.guard }], guard := some (3, true) }) (v := undef) rfl (by kernel_rfl) (by kernel_rfl) (by kernel_rfl) (fun _ _ _ h => h) (Or.inr ⟨by rfl, rfl⟩) A ?_
      try simp only [Act.put, List.setIfInBounds_toArray, List.set_cons_zero, List.set_cons_succ]
      try simp only [HX1.out]
      try simp only [HX2.out]
      refine wpAnyH_take (i := 7) (oi := { dst := some 114, op := Op.move (Operand.tmp 10), type := 2, pos := "laws.go:467", after := #[{ on := 3, ground := Ground.guard }], guard := some (3, true) }) (v := undef) rfl (by kernel_rfl) (by kernel_rfl) (by kernel_rfl) (fun _ _ _ h => h) (Or.inr ⟨by rfl, rfl⟩) A ?_
      try simp only [Act.put, List.setIfInBounds_toArray, List.set_cons_zero, List.set_cons_succ]
      try simp only [HX1.out]
      try simp only [HX2.out]
      refine wpAnyH_take (i := 8) (oi := { dst := some 115, op := Op.call { callee := Callee.value (Operand.func 49), args := #[Operand.tmp 112, Operand.tmp 113, Operand.tmp 114], argTypes := #[56, 2, 2] }, type := 58, pos := "laws.go:467", after := #[{ on := 5, ground := Ground.data }, { on := 6, ground := Ground.data }, { on := 7, ground := Ground.data }, { on := 3, ground := Ground.chain }, { on := 3, ground := Ground.guard }], guard := some (3, true) }) (v := undef) rfl (by kernel_rfl) (by kernel_rfl) (by kernel_rfl) (fun _ _ _ h => h) (Or.inr ⟨by rfl, rfl⟩) A ?_
      try simp only [Act.put, List.setIfInBounds_toArray, List.set_cons_zero, List.set_cons_succ]
      try simp only [HX1.out]
      try simp only [HX2.out]
      refine wpAnyH_take (i := 9) (oi := { dst := some 116, op := Op.build 58 #[], type := 58, pos := "laws.go:467", after := #[{ on := 3, ground := Ground.guard }], guard := some (3, true) }) (v := undef) rfl (by kernel_rfl) (by kernel_rfl) (by kernel_rfl) (fun _ _ _ h => h) (Or.inr ⟨by rfl, rfl⟩) A ?_
      try simp only [Act.put, List.setIfInBounds_toArray, List.set_cons_zero, List.set_cons_succ]
      try simp only [HX1.out]
      try simp only [HX2.out]
      refine wpAnyH_take (i := 10) (oi := { dst := some 117, op := Op.binOp BinOp.neq 58 (Operand.tmp 115) (Operand.tmp 116) 58, type := 4, pos := "laws.go:467", after := #[{ on := 8, ground := Ground.data }, { on := 9, ground := Ground.data }, { on := 3, ground := Ground.guard }], guard := some (3, true) }) (v := undef) rfl (by kernel_rfl) (by kernel_rfl) (by kernel_rfl) (fun _ _ _ h => h) (Or.inr ⟨by rfl, rfl⟩) A ?_
      try simp only [Act.put, List.setIfInBounds_toArray, List.set_cons_zero, List.set_cons_succ]
      try simp only [HX1.out]
      try simp only [HX2.out]
      refine wpAnyH_take (i := 11) (oi := { dst := some 118, op := Op.move (Operand.tmp 117), type := 4, pos := "laws.go:467", after := #[{ on := 10, ground := Ground.data }, { on := 8, ground := Ground.chain }, { on := 3, ground := Ground.guard }], guard := some (3, true) }) (v := undef) rfl (by kernel_rfl) (by kernel_rfl) (by kernel_rfl) (fun _ _ _ h => h) (Or.inr ⟨by rfl, rfl⟩) A ?_
      try simp only [Act.put, List.setIfInBounds_toArray, List.set_cons_zero, List.set_cons_succ]
      try simp only [HX1.out]
      try simp only [HX2.out]
      refine wpAnyH_take (i := 12) (oi := { dst := some 119, op := Op.fieldAddr 62 (Operand.tmp 11) 0, type := 0, pos := "laws.go:467", after := #[{ on := 11, ground := Ground.guard }], guard := some (11, false) }) (v := undef) rfl (by kernel_rfl) (by kernel_rfl) (by kernel_rfl) (fun _ _ _ h => h) (Or.inr ⟨by rfl, rfl⟩) A ?_
      try simp only [Act.put, List.setIfInBounds_toArray, List.set_cons_zero, List.set_cons_succ]
      try simp only [HX1.out]
      try simp only [HX2.out]
      refine wpAnyH_take (i := 13) (oi := { dst := some 120, op := Op.load 56 (Operand.tmp 119), type := 56, pos := "laws.go:467", after := #[{ on := 12, ground := Ground.data }, { on := 11, ground := Ground.guard }], guard := some (11, false) }) (v := undef) rfl (by kernel_rfl) (by kernel_rfl) (by kernel_rfl) (fun _ _ _ h => h) (Or.inr ⟨by rfl, rfl⟩) A ?_
      try simp only [Act.put, List.setIfInBounds_toArray, List.set_cons_zero, List.set_cons_succ]
      try simp only [HX1.out]
      try simp only [HX2.out]
      refine wpAnyH_take (i := 14) (oi := { dst := some 121, op := Op.call { callee := Callee.builtin Builtin.len, args := #[Operand.tmp 120], argTypes := #[56] }, type := 3, pos := "laws.go:467", after := #[{ on := 13, ground := Ground.data }, { on := 11, ground := Ground.guard }], guard := some (11, false) }) (v := undef) rfl (by kernel_rfl) (by kernel_rfl) (by kernel_rfl) (fun _ _ _ h => h) (Or.inr ⟨by rfl, rfl⟩) A ?_
      try simp only [Act.put, List.setIfInBounds_toArray, List.set_cons_zero, List.set_cons_succ]
      try simp only [HX1.out]
      try simp only [HX2.out]
      refine wpAnyH_take (i := 15) (oi := { dst := some 122, op := Op.move (Operand.tmp 8), type := 56, pos := "laws.go:467", after := #[{ on := 11, ground := Ground.guard }], guard := some (11, false) }) (v := undef) rfl (by kernel_rfl) (by kernel_rfl) (by kernel_rfl) (fun _ _ _ h => h) (Or.inr ⟨by rfl, rfl⟩) A ?_
      try simp only [Act.put, List.setIfInBounds_toArray, List.set_cons_zero, List.set_cons_succ]
      try simp only [HX1.out]
      try simp only [HX2.out]
      refine wpAnyH_take (i := 16) (oi := { dst := some 123, op := Op.call { callee := Callee.builtin Builtin.len, args := #[Operand.tmp 122], argTypes := #[56] }, type := 3, pos := "laws.go:467", after := #[{ on := 15, ground := Ground.data }, { on := 11, ground := Ground.guard }], guard := some (11, false) }) (v := undef) rfl (by kernel_rfl) (by kernel_rfl) (by kernel_rfl) (fun _ _ _ h => h) (Or.inr ⟨by rfl, rfl⟩) A ?_
      try simp only [Act.put, List.setIfInBounds_toArray, List.set_cons_zero, List.set_cons_succ]
      try simp only [HX1.out]
      try simp only [HX2.out]
      refine wpAnyH_take (i := 17) (oi := { dst := some 124, op := Op.binOp BinOp.sub 3 (Operand.tmp 123) (Operand.const (Value.int IntKind.i64 1)) 3, type := 3, pos := "laws.go:467", after := #[{ on := 16, ground := Ground.data }, { on := 11, ground := Ground.guard }], guard := some (11, false) }) (v := undef) rfl (by kernel_rfl) (by kernel_rfl) (by kernel_rfl) (fun _ _ _ h => h) (Or.inr ⟨by rfl, rfl⟩) A ?_
      try simp only [Act.put, List.setIfInBounds_toArray, List.set_cons_zero, List.set_cons_succ]
      try simp only [HX1.out]
      try simp only [HX2.out]
      refine wpAnyH_take (i := 18) (oi := { dst := some 125, op := Op.binOp BinOp.neq 3 (Operand.tmp 121) (Operand.tmp 124) 3, type := 4, pos := "laws.go:467", after := #[{ on := 14, ground := Ground.data }, { on := 17, ground := Ground.data }, { on := 11, ground := Ground.guard }], guard := some (11, false) }) (v := undef) rfl (by kernel_rfl) (by kernel_rfl) (by kernel_rfl) (fun _ _ _ h => h) (Or.inr ⟨by rfl, rfl⟩) A ?_
      try simp only [Act.put, List.setIfInBounds_toArray, List.set_cons_zero, List.set_cons_succ]
      try simp only [HX1.out]
      try simp only [HX2.out]
      refine wpAnyH_take (i := 19) (oi := { dst := some 126, op := Op.pick (Operand.tmp 118) (Operand.const (Value.bool true)) (Operand.tmp 125), type := 4, pos := "laws.go:467", after := #[{ on := 11, ground := Ground.data }, { on := 18, ground := Ground.data }, { on := 3, ground := Ground.guard }], guard := some (3, true) }) (v := undef) rfl (by kernel_rfl) (by kernel_rfl) (by kernel_rfl) (fun _ _ _ h => h) (Or.inr ⟨by rfl, rfl⟩) A ?_
      try simp only [Act.put, List.setIfInBounds_toArray, List.set_cons_zero, List.set_cons_succ]
      try simp only [HX1.out]
      try simp only [HX2.out]
      refine wpAnyH_take (i := 20) (oi := { dst := some 127, op := Op.move (Operand.tmp 126), type := 4, pos := "laws.go:467", after := #[{ on := 19, ground := Ground.data }, { on := 11, ground := Ground.chain }, { on := 3, ground := Ground.guard }], guard := some (3, true) }) (v := undef) rfl (by kernel_rfl) (by kernel_rfl) (by kernel_rfl) (fun _ _ _ h => h) (Or.inr ⟨by rfl, rfl⟩) A ?_
      try simp only [Act.put, List.setIfInBounds_toArray, List.set_cons_zero, List.set_cons_succ]
      try simp only [HX1.out]
      try simp only [HX2.out]
      refine wpAnyH_take (i := 21) (oi := { dst := some 128, op := Op.fieldAddr 62 (Operand.tmp 11) 0, type := 0, pos := "laws.go:467", after := #[{ on := 20, ground := Ground.guard }], guard := some (20, false) }) (v := undef) rfl (by kernel_rfl) (by kernel_rfl) (by kernel_rfl) (fun _ _ _ h => h) (Or.inr ⟨by rfl, rfl⟩) A ?_
      try simp only [Act.put, List.setIfInBounds_toArray, List.set_cons_zero, List.set_cons_succ]
      try simp only [HX1.out]
      try simp only [HX2.out]
      refine wpAnyH_take (i := 22) (oi := { dst := some 129, op := Op.load 56 (Operand.tmp 128), type := 56, pos := "laws.go:467", after := #[{ on := 21, ground := Ground.data }, { on := 20, ground := Ground.guard }], guard := some (20, false) }) (v := undef) rfl (by kernel_rfl) (by kernel_rfl) (by kernel_rfl) (fun _ _ _ h => h) (Or.inr ⟨by rfl, rfl⟩) A ?_
      try simp only [Act.put, List.setIfInBounds_toArray, List.set_cons_zero, List.set_cons_succ]
      try simp only [HX1.out]
      try simp only [HX2.out]
      refine wpAnyH_take (i := 23) (oi := { dst := some 130, op := Op.fieldAddr 62 (Operand.tmp 11) 1, type := 0, pos := "laws.go:467", after := #[{ on := 20, ground := Ground.guard }], guard := some (20, false) }) (v := undef) rfl (by kernel_rfl) (by kernel_rfl) (by kernel_rfl) (fun _ _ _ h => h) (Or.inr ⟨by rfl, rfl⟩) A ?_
      try simp only [Act.put, List.setIfInBounds_toArray, List.set_cons_zero, List.set_cons_succ]
      try simp only [HX1.out]
      try simp only [HX2.out]
      refine wpAnyH_take (i := 24) (oi := { dst := some 131, op := Op.load 56 (Operand.tmp 130), type := 56, pos := "laws.go:467", after := #[{ on := 23, ground := Ground.data }, { on := 20, ground := Ground.guard }], guard := some (20, false) }) (v := undef) rfl (by kernel_rfl) (by kernel_rfl) (by kernel_rfl) (fun _ _ _ h => h) (Or.inr ⟨by rfl, rfl⟩) A ?_
      try simp only [Act.put, List.setIfInBounds_toArray, List.set_cons_zero, List.set_cons_succ]
      try simp only [HX1.out]
      try simp only [HX2.out]
      refine wpAnyH_take (i := 25) (oi := { dst := some 132, op := Op.indexAddr 56 (Operand.tmp 131) (Operand.const (Value.int IntKind.i64 0)), type := 0, pos := "laws.go:467", after := #[{ on := 24, ground := Ground.data }, { on := 20, ground := Ground.guard }], guard := some (20, false) }) (v := undef) rfl (by kernel_rfl) (by kernel_rfl) (by kernel_rfl) (fun _ _ _ h => h) (Or.inr ⟨by rfl, rfl⟩) A ?_
      try simp only [Act.put, List.setIfInBounds_toArray, List.set_cons_zero, List.set_cons_succ]
      try simp only [HX1.out]
      try simp only [HX2.out]
      refine wpAnyH_take (i := 26) (oi := { dst := some 133, op := Op.load 58 (Operand.tmp 132), type := 58, pos := "laws.go:467", after := #[{ on := 25, ground := Ground.data }, { on := 20, ground := Ground.guard }], guard := some (20, false) }) (v := undef) rfl (by kernel_rfl) (by kernel_rfl) (by kernel_rfl) (fun _ _ _ h => h) (Or.inr ⟨by rfl, rfl⟩) A ?_
      try simp only [Act.put, List.setIfInBounds_toArray, List.set_cons_zero, List.set_cons_succ]
      try simp only [HX1.out]
      try simp only [HX2.out]
      refine wpAnyH_take (i := 27) (oi := { dst := some 134, op := Op.call { callee := Callee.value (Operand.func 39), args := #[Operand.tmp 129, Operand.tmp 133], argTypes := #[56, 58] }, type := 62, pos := "laws.go:467", after := #[{ on := 22, ground := Ground.data }, { on := 26, ground := Ground.data }, { on := 20, ground := Ground.chain }, { on := 20, ground := Ground.guard }], guard := some (20, false) }) (v := undef) rfl (by kernel_rfl) (by kernel_rfl) (by kernel_rfl) (fun _ _ _ h => h) (Or.inr ⟨by rfl, rfl⟩) A ?_
      try simp only [Act.put, List.setIfInBounds_toArray, List.set_cons_zero, List.set_cons_succ]
      try simp only [HX1.out]
      try simp only [HX2.out]
      refine wpAnyH_take (i := 28) (oi := { dst := some 135, op := Op.field 62 (Operand.tmp 134) 0, type := 56, pos := "laws.go:467", after := #[{ on := 27, ground := Ground.data }, { on := 20, ground := Ground.guard }], guard := some (20, false) }) (v := undef) rfl (by kernel_rfl) (by kernel_rfl) (by kernel_rfl) (fun _ _ _ h => h) (Or.inr ⟨by rfl, rfl⟩) A ?_
      try simp only [Act.put, List.setIfInBounds_toArray, List.set_cons_zero, List.set_cons_succ]
      try simp only [HX1.out]
      try simp only [HX2.out]
      refine wpAnyH_take (i := 29) (oi := { dst := some 136, op := Op.move (Operand.tmp 8), type := 56, pos := "laws.go:467", after := #[{ on := 20, ground := Ground.guard }], guard := some (20, false) }) (v := undef) rfl (by kernel_rfl) (by kernel_rfl) (by kernel_rfl) (fun _ _ _ h => h) (Or.inr ⟨by rfl, rfl⟩) A ?_
      try simp only [Act.put, List.setIfInBounds_toArray, List.set_cons_zero, List.set_cons_succ]
      try simp only [HX1.out]
      try simp only [HX2.out]
      refine wpAnyH_take (i := 30) (oi := { dst := some 137, op := Op.call { callee := Callee.value (Operand.func 55), args := #[Operand.tmp 135, Operand.tmp 136], argTypes := #[56, 56] }, type := 4, pos := "laws.go:467", after := #[{ on := 28, ground := Ground.data }, { on := 29, ground := Ground.data }, { on := 27, ground := Ground.chain }, { on := 20, ground := Ground.guard }], guard := some (20, false) }) (v := undef) rfl (by kernel_rfl) (by kernel_rfl) (by kernel_rfl) (fun _ _ _ h => h) (Or.inr ⟨by rfl, rfl⟩) A ?_
      try simp only [Act.put, List.setIfInBounds_toArray, List.set_cons_zero, List.set_cons_succ]
      try simp only [HX1.out]
      try simp only [HX2.out]
      refine wpAnyH_take (i := 31) (oi := { dst := some 138, op := Op.unOp UnOp.not 4 (Operand.tmp 137), type := 4, pos := "laws.go:467", after := #[{ on := 30, ground := Ground.data }, { on := 20, ground := Ground.guard }], guard := some (20, false) }) (v := undef) rfl (by kernel_rfl) (by kernel_rfl) (by kernel_rfl) (fun _ _ _ h => h) (Or.inr ⟨by rfl, rfl⟩) A ?_
      try simp only [Act.put, List.setIfInBounds_toArray, List.set_cons_zero, List.set_cons_succ]
      try simp only [HX1.out]
      try simp only [HX2.out]
      refine wpAnyH_take (i := 32) (oi := { dst := some 139, op := Op.pick (Operand.tmp 127) (Operand.const (Value.bool true)) (Operand.tmp 138), type := 4, pos := "laws.go:467", after := #[{ on := 20, ground := Ground.data }, { on := 31, ground := Ground.data }, { on := 3, ground := Ground.guard }], guard := some (3, true) }) (v := undef) rfl (by kernel_rfl) (by kernel_rfl) (by kernel_rfl) (fun _ _ _ h => h) (Or.inr ⟨by rfl, rfl⟩) A ?_
      try simp only [Act.put, List.setIfInBounds_toArray, List.set_cons_zero, List.set_cons_succ]
      try simp only [HX1.out]
      try simp only [HX2.out]
      refine wpAnyH_take (i := 33) (oi := { dst := some 140, op := Op.pick (Operand.tmp 110) (Operand.tmp 139) (Operand.const (Value.bool false)), type := 4, pos := "laws.go:467", after := #[{ on := 3, ground := Ground.data }, { on := 32, ground := Ground.data }], guard := none }) (v := ?vvc34) rfl (by kernel_rfl) (by kernel_rfl) (by kernel_rfl) (fun _ _ _ h => h) (Or.inl ⟨by rfl, ?hyc34⟩) A ?restc34
      case hyc34 => (intro w hSw; have c2 := hSw.mem.b2.cell;go_simp <;> with_reducible rfl)
      try simp only [Act.put, List.setIfInBounds_toArray, List.set_cons_zero, List.set_cons_succ]
      try simp only [HX1.out]
      try simp only [HX2.out]
      refine wpAnyH_done (by kernel_rfl) ?_ _
      all_goals
        have HA := Lib.hid A
        clear A
        go_wp2_with fail
        go_loopw [17] (fun u wr => ∃ i : Nat, i ≤ ZO.length ∧ u = .int .i64 (i : Int) ∧ Hid (FgM w wr [(qk, 58, #[.int .i64 k.vni, .int .i64 k.mac, .int .i64 k.ip, .int .i64 k.door, .int .i64 k.seq, .int .i64 k.seen, .bool k.st]), (qz, 62, #[.slice za ZM.length zc, .slice ua ZO.length uc, .int .i64 zk]), (qy, 62, #[.slice ya YM.length yc, .slice pa YO.length pc, .int .i64 yk]), (qx, 62, #[.slice xa XM.length xc, .slice oa XO.length oc, .int .i64 xk]), (qg, 58, #[.int .i64 r.vni, .int .i64 r.mac, .int .i64 r.ip, .int .i64 r.door, .int .i64 r.seq, .int .i64 r.seen, .bool r.st])] [(.slice ua ZO.length uc, ZO), (.slice za ZM.length zc, ZM), (.slice aa a.length ac, a), (.slice pa YO.length pc, YO), (.slice ya YM.length yc, YM), (.slice da d.length dc, d), (.slice oa XO.length oc, XO), (.slice xa XM.length xc, XM), (.slice la l.length lc, l)])) (fun u _ => ZO.length - (intOf u).toNat)
        case atStart => exact ⟨0, Nat.zero_le _, rfl, HA⟩
        case round =>
          clear HA
          obtain ⟨i, hi, rfl, HA⟩ := hrel
          by_cases hlt : i < ZO.length
          · have hne : ZO.map Gu.cl ≠ [] := fun e => by have := congrArg List.length e; simp at this; rw [this] at hlt; simp at hlt
            have hlI : (i : Int) < (ZO.length : Int) := by omega
            have c1 := HA.out.mem.b1.cell
            obtain ⟨b, off, hua, p5, p6⟩ : ∃ b off, ua = some ⟨b, off, none⟩ ∧ wr.cell? ⟨b, off + i * 7 + 5, none⟩ = some (.int .i64 ZO[i].seen) ∧ wr.cell? ⟨b, off + i * 7 + 6, none⟩ = some (.bool ZO[i].st) := by
              obtain ⟨a', c', e', hh⟩ := HA.out.sls _ mem0
              obtain ⟨b, off, ha, hb, HE⟩ := hh hne
              injection e' with e1 e2 e3
              obtain ⟨_, _, _, _, _, p5, p6⟩ := HE.gu i hlt
              exact ⟨b, off, e1.trans ha, p5, p6⟩
            subst hua
            have HZ := HAgo.out _ (List.getElem_mem hlt)
            generalize ZO[i] = y at *
            obtain ⟨y0, y1, y2, y3, y4, y5, y6⟩ := y
            dsimp only at p5 p6 HZ
            obtain ⟨rfl, hz5, hn0, hn1⟩ := HZ
            have hwn : IntKind.i64.wrap (now - 200) = now - 200 := by simp only [IntKind.wrap_i64]; omega
            have hge : ¬ now - 200 ≤ y5 := by omega
            go_wp2_with fail
            go_roundw
            case rel => exact ⟨i + 1, by omega, by simp, HA⟩
            case measure => simp [intOf]; omega
          · have hi2 : i = ZO.length := by omega
            have hlI : ¬ (i : Int) < (ZO.length : Int) := by omega
            subst hi2
            have c1 := HA.out.mem.b1.cell
            by_cases hz0 : zk = 0
            · subst hz0
              have hzn := HAln.out rfl
              have hzw : IntKind.i64.wrap ((ZM.length : Int) + (ZO.length : Int)) = (a.length : Int) := by simp only [IntKind.wrap_i64]; omega
              clear HAln
              go_upto_region 21 with fail
              clear c1 hzn hzw
              have A := HA.out
              clear HA
              by_cases hx0 : xk = 0
              · subst hx0
                have HIz := Lib.hid (HIx.out rfl)
                clear HIx
                replace A := A.drew
                refine wp_region_held_drew (S := fun W' => FgM w W' _ _) (by kernel_rfl) A (fun hHeld => ?_)
                clear hHeld
                refine wpAnyH_take (i := 0) (oi := { dst := some 180, op := Op.fieldAddr 62 (Operand.tmp 7) 2, type := 0, pos := "laws.go:478", after := #[], guard := none }) (v := ?vvt311) rfl (by kernel_rfl) (by kernel_rfl) (by kernel_rfl) (fun _ _ _ h => h) (Or.inl ⟨by rfl, ?hyt311⟩) A ?restt311
                case hyt311 => (intro w hSw; have c3 := hSw.mem.b3.cell; have c4 := hSw.mem.b4.cell;go_simp <;> with_reducible rfl)
                try simp only [Act.put, List.setIfInBounds_toArray, List.set_cons_zero, List.set_cons_succ]
                refine wpAnyH_take (i := 1) (oi := { dst := some 181, op := Op.load 2 (Operand.tmp 180), type := 2, pos := "laws.go:478", after := #[{ on := 0, ground := Ground.data }], guard := none }) (v := ?vvt312) rfl (by kernel_rfl) (by kernel_rfl) (by kernel_rfl) (fun _ _ _ h => h) (Or.inl ⟨by rfl, ?hyt312⟩) A ?restt312
                case hyt312 => (intro w hSw; have c3 := hSw.mem.b3.cell; have c4 := hSw.mem.b4.cell;go_simp <;> with_reducible rfl)
                try simp only [Act.put, List.setIfInBounds_toArray, List.set_cons_zero, List.set_cons_succ]
                refine wpAnyH_take (i := 2) (oi := { dst := some 182, op := Op.binOp BinOp.neq 2 (Operand.tmp 181) (Operand.const (Value.int IntKind.i64 0)) 2, type := 4, pos := "laws.go:478", after := #[{ on := 1, ground := Ground.data }], guard := none }) (v := ?vvt313) rfl (by kernel_rfl) (by kernel_rfl) (by kernel_rfl) (fun _ _ _ h => h) (Or.inl ⟨by rfl, ?hyt313⟩) A ?restt313
                case hyt313 => (intro w hSw; have c3 := hSw.mem.b3.cell; have c4 := hSw.mem.b4.cell;go_simp <;> with_reducible rfl)
                try simp only [Act.put, List.setIfInBounds_toArray, List.set_cons_zero, List.set_cons_succ]
                refine wpAnyH_take (i := 3) (oi := { dst := some 183, op := Op.move (Operand.tmp 182), type := 4, pos := "laws.go:478", after := #[{ on := 2, ground := Ground.data }], guard := none }) (v := ?vvt314) rfl (by kernel_rfl) (by kernel_rfl) (by kernel_rfl) (fun _ _ _ h => h) (Or.inl ⟨by rfl, ?hyt314⟩) A ?restt314
                case hyt314 => (intro w hSw; have c3 := hSw.mem.b3.cell; have c4 := hSw.mem.b4.cell;go_simp <;> with_reducible rfl)
                try simp only [Act.put, List.setIfInBounds_toArray, List.set_cons_zero, List.set_cons_succ]
                refine wpAnyH_take (i := 4) (oi := { dst := some 184, op := Op.fieldAddr 62 (Operand.tmp 7) 0, type := 0, pos := "laws.go:478", after := #[{ on := 3, ground := Ground.guard }], guard := some (3, false) }) (v := ?vvt315) rfl (by kernel_rfl) (by kernel_rfl) (by kernel_rfl) (fun _ _ _ h => h) (Or.inl ⟨by rfl, ?hyt315⟩) A ?restt315
                case hyt315 => (intro w hSw; have c3 := hSw.mem.b3.cell; have c4 := hSw.mem.b4.cell;go_simp <;> with_reducible rfl)
                try simp only [Act.put, List.setIfInBounds_toArray, List.set_cons_zero, List.set_cons_succ]
                refine wpAnyH_take (i := 5) (oi := { dst := some 185, op := Op.load 56 (Operand.tmp 184), type := 56, pos := "laws.go:478", after := #[{ on := 4, ground := Ground.data }, { on := 3, ground := Ground.guard }], guard := some (3, false) }) (v := ?vvt316) rfl (by kernel_rfl) (by kernel_rfl) (by kernel_rfl) (fun _ _ _ h => h) (Or.inl ⟨by rfl, ?hyt316⟩) A ?restt316
                case hyt316 => (intro w hSw; have c3 := hSw.mem.b3.cell; have c4 := hSw.mem.b4.cell;go_simp <;> with_reducible rfl)
                try simp only [Act.put, List.setIfInBounds_toArray, List.set_cons_zero, List.set_cons_succ]
                refine wpAnyH_take (i := 6) (oi := { dst := some 186, op := Op.fieldAddr 58 (Operand.tmp 6) 0, type := 0, pos := "laws.go:478", after := #[{ on := 3, ground := Ground.guard }], guard := some (3, false) }) (v := ?vvt317) rfl (by kernel_rfl) (by kernel_rfl) (by kernel_rfl) (fun _ _ _ h => h) (Or.inl ⟨by rfl, ?hyt317⟩) A ?restt317
                case hyt317 => (intro w hSw; have c3 := hSw.mem.b3.cell; have c4 := hSw.mem.b4.cell;go_simp <;> with_reducible rfl)
                try simp only [Act.put, List.setIfInBounds_toArray, List.set_cons_zero, List.set_cons_succ]
                refine wpAnyH_take (i := 7) (oi := { dst := some 187, op := Op.load 2 (Operand.tmp 186), type := 2, pos := "laws.go:478", after := #[{ on := 6, ground := Ground.data }, { on := 3, ground := Ground.guard }], guard := some (3, false) }) (v := ?vvt318) rfl (by kernel_rfl) (by kernel_rfl) (by kernel_rfl) (fun _ _ _ h => h) (Or.inl ⟨by rfl, ?hyt318⟩) A ?restt318
                case hyt318 => (intro w hSw; have c3 := hSw.mem.b3.cell; have c4 := hSw.mem.b4.cell;go_simp <;> with_reducible rfl)
                try simp only [Act.put, List.setIfInBounds_toArray, List.set_cons_zero, List.set_cons_succ]
                refine wpAnyH_take (i := 8) (oi := { dst := some 188, op := Op.fieldAddr 58 (Operand.tmp 6) 1, type := 0, pos := "laws.go:478", after := #[{ on := 3, ground := Ground.guard }], guard := some (3, false) }) (v := ?vvt319) rfl (by kernel_rfl) (by kernel_rfl) (by kernel_rfl) (fun _ _ _ h => h) (Or.inl ⟨by rfl, ?hyt319⟩) A ?restt319
                case hyt319 => (intro w hSw; have c3 := hSw.mem.b3.cell; have c4 := hSw.mem.b4.cell;go_simp <;> with_reducible rfl)
                try simp only [Act.put, List.setIfInBounds_toArray, List.set_cons_zero, List.set_cons_succ]
                refine wpAnyH_take (i := 9) (oi := { dst := some 189, op := Op.load 2 (Operand.tmp 188), type := 2, pos := "laws.go:478", after := #[{ on := 8, ground := Ground.data }, { on := 3, ground := Ground.guard }], guard := some (3, false) }) (v := ?vvt3110) rfl (by kernel_rfl) (by kernel_rfl) (by kernel_rfl) (fun _ _ _ h => h) (Or.inl ⟨by rfl, ?hyt3110⟩) A ?restt3110
                case hyt3110 => (intro w hSw; have c3 := hSw.mem.b3.cell; have c4 := hSw.mem.b4.cell;go_simp <;> with_reducible rfl)
                try simp only [Act.put, List.setIfInBounds_toArray, List.set_cons_zero, List.set_cons_succ]
                refine wpAnyH_take (i := 11) (oi := { dst := some 191, op := Op.load 58 (Operand.tmp 6), type := 58, pos := "laws.go:478", after := #[{ on := 3, ground := Ground.guard }], guard := some (3, false) }) (v := ?vvt3111) rfl (by kernel_rfl) (by kernel_rfl) (by kernel_rfl) (fun _ _ _ h => h) (Or.inl ⟨by rfl, ?hyt3111⟩) A ?restt3111
                case hyt3111 => (intro w hSw; have c3 := hSw.mem.b3.cell; have c4 := hSw.mem.b4.cell;go_simp <;> with_reducible rfl)
                try simp only [Act.put, List.setIfInBounds_toArray, List.set_cons_zero, List.set_cons_succ]
                refine wpAnyH_ready (rs := [10]) (by kernel_rfl) (by simp) ?_
                refine AllReadyH.cons (o := { dst := some 190, op := Op.call { callee := Callee.value (Operand.func 49), args := #[Operand.tmp 185, Operand.tmp 187, Operand.tmp 189], argTypes := #[56, 2, 2] }, type := 58, pos := "laws.go:478", after := #[{ on := 5, ground := Ground.data }, { on := 7, ground := Ground.data }, { on := 9, ground := Ground.data }, { on := 3, ground := Ground.chain }, { on := 3, ground := Ground.guard }], guard := some (3, false) }) rfl (fun K hK => ?_) AllReadyH.nil
                go_simp
                refine (HIz.out _ (A.sls _ mem7)).mono ?_
                rintro e u1 ⟨rfl, hb⟩
                replace A := A.kept hb
                clear hb
                refine hK.out _ _ A (fun hHeld => ?_)
                clear hK K hHeld
                try simp only [Act.put, List.setIfInBounds_toArray, List.set_cons_zero, List.set_cons_succ]
                refine wpAnyH_take (i := 12) (oi := { dst := some 192, op := Op.binOp BinOp.eql 58 (Operand.tmp 190) (Operand.tmp 191) 58, type := 4, pos := "laws.go:478", after := #[{ on := 10, ground := Ground.data }, { on := 11, ground := Ground.data }, { on := 3, ground := Ground.guard }], guard := some (3, false) }) (v := ?vvt3112) rfl (by kernel_rfl) (by kernel_rfl) (by kernel_rfl) (fun _ _ _ h => h) (Or.inl ⟨by rfl, ?hyt3112⟩) A ?restt3112
                case hyt3112 => (intro w hSw; have c3 := hSw.mem.b3.cell; have c4 := hSw.mem.b4.cell;go_simp <;> with_reducible rfl)
                try simp only [Act.put, List.setIfInBounds_toArray, List.set_cons_zero, List.set_cons_succ]
                refine wpAnyH_take (i := 13) (oi := { dst := some 193, op := Op.pick (Operand.tmp 183) (Operand.const (Value.bool true)) (Operand.tmp 192), type := 4, pos := "laws.go:478", after := #[{ on := 3, ground := Ground.data }, { on := 12, ground := Ground.data }], guard := none }) (v := ?vvt3113) rfl (by kernel_rfl) (by kernel_rfl) (by kernel_rfl) (fun _ _ _ h => h) (Or.inl ⟨by rfl, ?hyt3113⟩) A ?restt3113
                case hyt3113 => (intro w hSw; have c3 := hSw.mem.b3.cell; have c4 := hSw.mem.b4.cell;go_simp <;> with_reducible rfl)
                try simp only [Act.put, List.setIfInBounds_toArray, List.set_cons_zero, List.set_cons_succ]
                refine wpAnyH_take (i := 14) (oi := { dst := some 4, op := Op.assign (Operand.tmp 193), type := 4, pos := "laws.go:478", after := #[{ on := 13, ground := Ground.data }, { on := 10, ground := Ground.chain }, { on := 0, ground := Ground.phase }, { on := 1, ground := Ground.phase }, { on := 2, ground := Ground.phase }, { on := 3, ground := Ground.phase }, { on := 4, ground := Ground.phase }, { on := 5, ground := Ground.phase }, { on := 6, ground := Ground.phase }, { on := 7, ground := Ground.phase }, { on := 8, ground := Ground.phase }, { on := 9, ground := Ground.phase }, { on := 10, ground := Ground.phase }, { on := 11, ground := Ground.phase }, { on := 12, ground := Ground.phase }, { on := 13, ground := Ground.phase }], guard := none }) (v := ?vvt3114) rfl (by kernel_rfl) (by kernel_rfl) (by kernel_rfl) (fun _ _ _ h => h) (Or.inl ⟨by rfl, ?hyt3114⟩) A ?restt3114
                case hyt3114 => (intro w hSw; have c3 := hSw.mem.b3.cell; have c4 := hSw.mem.b4.cell;go_simp <;> with_reducible rfl)
                try simp only [Act.put, List.setIfInBounds_toArray, List.set_cons_zero, List.set_cons_succ]
                refine wpAnyH_done (by kernel_rfl) ?_ _
                all_goals
                  have HB := Lib.hid A.bel
                  go_wp2_with fail
                  go_ret
                  exact ⟨rfl, HB.out⟩
              · clear HIx
                have HX1 : Hid (decide (xk = 0) = false) := Lib.hid (decide_eq_false hx0)
                have HX2 : Hid ((xk == 0) = false) := Lib.hid (by simpa using hx0)
                have HX3 : Hid ((xk != 0) = true) := Lib.hid (by simpa using hx0)
                have HX4 : Hid (Bool.not false = true) := Lib.hid rfl
                replace A := A.drew
                refine wp_region_held_drew (S := fun W' => FgM w W' _ _) (by kernel_rfl) A (fun hHeld => ?_)
                clear hHeld
                refine wpAnyH_take (i := 0) (oi := { dst := some 180, op := Op.fieldAddr 62 (Operand.tmp 7) 2, type := 0, pos := "laws.go:478", after := #[], guard := none }) (v := ?vvt321) rfl (by kernel_rfl) (by kernel_rfl) (by kernel_rfl) (fun _ _ _ h => h) (Or.inl ⟨by rfl, ?hyt321⟩) A ?restt321
                case hyt321 => (intro w hSw; have c3 := hSw.mem.b3.cell; have c4 := hSw.mem.b4.cell;go_simp <;> with_reducible rfl)
                try simp only [Act.put, List.setIfInBounds_toArray, List.set_cons_zero, List.set_cons_succ]
                try simp only [HX1.out]
                try simp only [HX2.out]
                try simp only [HX3.out]
                try simp only [HX4.out]
                refine wpAnyH_take (i := 1) (oi := { dst := some 181, op := Op.load 2 (Operand.tmp 180), type := 2, pos := "laws.go:478", after := #[{ on := 0, ground := Ground.data }], guard := none }) (v := ?vvt322) rfl (by kernel_rfl) (by kernel_rfl) (by kernel_rfl) (fun _ _ _ h => h) (Or.inl ⟨by rfl, ?hyt322⟩) A ?restt322
                case hyt322 => (intro w hSw; have c3 := hSw.mem.b3.cell; have c4 := hSw.mem.b4.cell;go_simp <;> with_reducible rfl)
                try simp only [Act.put, List.setIfInBounds_toArray, List.set_cons_zero, List.set_cons_succ]
                try simp only [HX1.out]
                try simp only [HX2.out]
                try simp only [HX3.out]
                try simp only [HX4.out]
                refine wpAnyH_take (i := 2) (oi := { dst := some 182, op := Op.binOp BinOp.neq 2 (Operand.tmp 181) (Operand.const (Value.int IntKind.i64 0)) 2, type := 4, pos := "laws.go:478", after := #[{ on := 1, ground := Ground.data }], guard := none }) (v := ?vvt323) rfl (by kernel_rfl) (by kernel_rfl) (by kernel_rfl) (fun _ _ _ h => h) (Or.inl ⟨by rfl, ?hyt323⟩) A ?restt323
                case hyt323 => (intro w hSw; have c3 := hSw.mem.b3.cell; have c4 := hSw.mem.b4.cell;go_simp <;> with_reducible rfl)
                try simp only [Act.put, List.setIfInBounds_toArray, List.set_cons_zero, List.set_cons_succ]
                try simp only [HX1.out]
                try simp only [HX2.out]
                try simp only [HX3.out]
                try simp only [HX4.out]
                refine wpAnyH_take (i := 3) (oi := { dst := some 183, op := Op.move (Operand.tmp 182), type := 4, pos := "laws.go:478", after := #[{ on := 2, ground := Ground.data }], guard := none }) (v := ?vvt324) rfl (by kernel_rfl) (by kernel_rfl) (by kernel_rfl) (fun _ _ _ h => h) (Or.inl ⟨by rfl, ?hyt324⟩) A ?restt324
                case hyt324 => (intro w hSw; have c3 := hSw.mem.b3.cell; have c4 := hSw.mem.b4.cell;go_simp <;> with_reducible rfl)
                try simp only [Act.put, List.setIfInBounds_toArray, List.set_cons_zero, List.set_cons_succ]
                try simp only [HX1.out]
                try simp only [HX2.out]
                try simp only [HX3.out]
                try simp only [HX4.out]
                refine wpAnyH_take (i := 4) (oi := { dst := some 184, op := Op.fieldAddr 62 (Operand.tmp 7) 0, type := 0, pos := "laws.go:478", after := #[{ on := 3, ground := Ground.guard }], guard := some (3, false) }) (v := undef) rfl (by kernel_rfl) (by kernel_rfl) (by kernel_rfl) (fun _ _ _ h => h) (Or.inr ⟨by rfl, rfl⟩) A ?_
                try simp only [Act.put, List.setIfInBounds_toArray, List.set_cons_zero, List.set_cons_succ]
                try simp only [HX1.out]
                try simp only [HX2.out]
                try simp only [HX3.out]
                try simp only [HX4.out]
                refine wpAnyH_take (i := 5) (oi := { dst := some 185, op := Op.load 56 (Operand.tmp 184), type := 56, pos := "laws.go:478", after := #[{ on := 4, ground := Ground.data }, { on := 3, ground := Ground.guard }], guard := some (3, false) }) (v := undef) rfl (by kernel_rfl) (by kernel_rfl) (by kernel_rfl) (fun _ _ _ h => h) (Or.inr ⟨by rfl, rfl⟩) A ?_
                try simp only [Act.put, List.setIfInBounds_toArray, List.set_cons_zero, List.set_cons_succ]
                try simp only [HX1.out]
                try simp only [HX2.out]
                try simp only [HX3.out]
                try simp only [HX4.out]
                refine wpAnyH_take (i := 6) (oi := { dst := some 186, op := Op.fieldAddr 58 (Operand.tmp 6) 0, type := 0, pos := "laws.go:478", after := #[{ on := 3, ground := Ground.guard }], guard := some (3, false) }) (v := undef) rfl (by kernel_rfl) (by kernel_rfl) (by kernel_rfl) (fun _ _ _ h => h) (Or.inr ⟨by rfl, rfl⟩) A ?_
                try simp only [Act.put, List.setIfInBounds_toArray, List.set_cons_zero, List.set_cons_succ]
                try simp only [HX1.out]
                try simp only [HX2.out]
                try simp only [HX3.out]
                try simp only [HX4.out]
                refine wpAnyH_take (i := 7) (oi := { dst := some 187, op := Op.load 2 (Operand.tmp 186), type := 2, pos := "laws.go:478", after := #[{ on := 6, ground := Ground.data }, { on := 3, ground := Ground.guard }], guard := some (3, false) }) (v := undef) rfl (by kernel_rfl) (by kernel_rfl) (by kernel_rfl) (fun _ _ _ h => h) (Or.inr ⟨by rfl, rfl⟩) A ?_
                try simp only [Act.put, List.setIfInBounds_toArray, List.set_cons_zero, List.set_cons_succ]
                try simp only [HX1.out]
                try simp only [HX2.out]
                try simp only [HX3.out]
                try simp only [HX4.out]
                refine wpAnyH_take (i := 8) (oi := { dst := some 188, op := Op.fieldAddr 58 (Operand.tmp 6) 1, type := 0, pos := "laws.go:478", after := #[{ on := 3, ground := Ground.guard }], guard := some (3, false) }) (v := undef) rfl (by kernel_rfl) (by kernel_rfl) (by kernel_rfl) (fun _ _ _ h => h) (Or.inr ⟨by rfl, rfl⟩) A ?_
                try simp only [Act.put, List.setIfInBounds_toArray, List.set_cons_zero, List.set_cons_succ]
                try simp only [HX1.out]
                try simp only [HX2.out]
                try simp only [HX3.out]
                try simp only [HX4.out]
                refine wpAnyH_take (i := 9) (oi := { dst := some 189, op := Op.load 2 (Operand.tmp 188), type := 2, pos := "laws.go:478", after := #[{ on := 8, ground := Ground.data }, { on := 3, ground := Ground.guard }], guard := some (3, false) }) (v := undef) rfl (by kernel_rfl) (by kernel_rfl) (by kernel_rfl) (fun _ _ _ h => h) (Or.inr ⟨by rfl, rfl⟩) A ?_
                try simp only [Act.put, List.setIfInBounds_toArray, List.set_cons_zero, List.set_cons_succ]
                try simp only [HX1.out]
                try simp only [HX2.out]
                try simp only [HX3.out]
                try simp only [HX4.out]
                refine wpAnyH_take (i := 10) (oi := { dst := some 190, op := Op.call { callee := Callee.value (Operand.func 49), args := #[Operand.tmp 185, Operand.tmp 187, Operand.tmp 189], argTypes := #[56, 2, 2] }, type := 58, pos := "laws.go:478", after := #[{ on := 5, ground := Ground.data }, { on := 7, ground := Ground.data }, { on := 9, ground := Ground.data }, { on := 3, ground := Ground.chain }, { on := 3, ground := Ground.guard }], guard := some (3, false) }) (v := undef) rfl (by kernel_rfl) (by kernel_rfl) (by kernel_rfl) (fun _ _ _ h => h) (Or.inr ⟨by rfl, rfl⟩) A ?_
                try simp only [Act.put, List.setIfInBounds_toArray, List.set_cons_zero, List.set_cons_succ]
                try simp only [HX1.out]
                try simp only [HX2.out]
                try simp only [HX3.out]
                try simp only [HX4.out]
                refine wpAnyH_take (i := 11) (oi := { dst := some 191, op := Op.load 58 (Operand.tmp 6), type := 58, pos := "laws.go:478", after := #[{ on := 3, ground := Ground.guard }], guard := some (3, false) }) (v := undef) rfl (by kernel_rfl) (by kernel_rfl) (by kernel_rfl) (fun _ _ _ h => h) (Or.inr ⟨by rfl, rfl⟩) A ?_
                try simp only [Act.put, List.setIfInBounds_toArray, List.set_cons_zero, List.set_cons_succ]
                try simp only [HX1.out]
                try simp only [HX2.out]
                try simp only [HX3.out]
                try simp only [HX4.out]
                refine wpAnyH_take (i := 12) (oi := { dst := some 192, op := Op.binOp BinOp.eql 58 (Operand.tmp 190) (Operand.tmp 191) 58, type := 4, pos := "laws.go:478", after := #[{ on := 10, ground := Ground.data }, { on := 11, ground := Ground.data }, { on := 3, ground := Ground.guard }], guard := some (3, false) }) (v := undef) rfl (by kernel_rfl) (by kernel_rfl) (by kernel_rfl) (fun _ _ _ h => h) (Or.inr ⟨by rfl, rfl⟩) A ?_
                try simp only [Act.put, List.setIfInBounds_toArray, List.set_cons_zero, List.set_cons_succ]
                try simp only [HX1.out]
                try simp only [HX2.out]
                try simp only [HX3.out]
                try simp only [HX4.out]
                refine wpAnyH_take (i := 13) (oi := { dst := some 193, op := Op.pick (Operand.tmp 183) (Operand.const (Value.bool true)) (Operand.tmp 192), type := 4, pos := "laws.go:478", after := #[{ on := 3, ground := Ground.data }, { on := 12, ground := Ground.data }], guard := none }) (v := ?vvt3214) rfl (by kernel_rfl) (by kernel_rfl) (by kernel_rfl) (fun _ _ _ h => h) (Or.inl ⟨by rfl, ?hyt3214⟩) A ?restt3214
                case hyt3214 => (intro w hSw; have c3 := hSw.mem.b3.cell; have c4 := hSw.mem.b4.cell;go_simp <;> with_reducible rfl)
                try simp only [Act.put, List.setIfInBounds_toArray, List.set_cons_zero, List.set_cons_succ]
                try simp only [HX1.out]
                try simp only [HX2.out]
                try simp only [HX3.out]
                try simp only [HX4.out]
                refine wpAnyH_take (i := 14) (oi := { dst := some 4, op := Op.assign (Operand.tmp 193), type := 4, pos := "laws.go:478", after := #[{ on := 13, ground := Ground.data }, { on := 10, ground := Ground.chain }, { on := 0, ground := Ground.phase }, { on := 1, ground := Ground.phase }, { on := 2, ground := Ground.phase }, { on := 3, ground := Ground.phase }, { on := 4, ground := Ground.phase }, { on := 5, ground := Ground.phase }, { on := 6, ground := Ground.phase }, { on := 7, ground := Ground.phase }, { on := 8, ground := Ground.phase }, { on := 9, ground := Ground.phase }, { on := 10, ground := Ground.phase }, { on := 11, ground := Ground.phase }, { on := 12, ground := Ground.phase }, { on := 13, ground := Ground.phase }], guard := none }) (v := ?vvt3215) rfl (by kernel_rfl) (by kernel_rfl) (by kernel_rfl) (fun _ _ _ h => h) (Or.inl ⟨by rfl, ?hyt3215⟩) A ?restt3215
                case hyt3215 => (intro w hSw; have c3 := hSw.mem.b3.cell; have c4 := hSw.mem.b4.cell;go_simp <;> with_reducible rfl)
                try simp only [Act.put, List.setIfInBounds_toArray, List.set_cons_zero, List.set_cons_succ]
                try simp only [HX1.out]
                try simp only [HX2.out]
                try simp only [HX3.out]
                try simp only [HX4.out]
                refine wpAnyH_done (by kernel_rfl) ?_ _
                all_goals
                  have HB := Lib.hid A.bel
                  go_wp2_with fail
                  go_ret
                  exact ⟨rfl, HB.out⟩
            · clear HAln
              go_upto_region 21 with fail
              clear c1
              have A := HA.out
              clear HA
              by_cases hx0 : xk = 0
              · subst hx0
                have HIz := Lib.hid (HIx.out rfl)
                clear HIx
                replace A := A.drew
                refine wp_region_held_drew (S := fun W' => FgM w W' _ _) (by kernel_rfl) A (fun hHeld => ?_)
                clear hHeld
                refine wpAnyH_take (i := 0) (oi := { dst := some 180, op := Op.fieldAddr 62 (Operand.tmp 7) 2, type := 0, pos := "laws.go:478", after := #[], guard := none }) (v := ?vvt411) rfl (by kernel_rfl) (by kernel_rfl) (by kernel_rfl) (fun _ _ _ h => h) (Or.inl ⟨by rfl, ?hyt411⟩) A ?restt411
                case hyt411 => (intro w hSw; have c3 := hSw.mem.b3.cell; have c4 := hSw.mem.b4.cell;go_simp <;> with_reducible rfl)
                try simp only [Act.put, List.setIfInBounds_toArray, List.set_cons_zero, List.set_cons_succ]
                refine wpAnyH_take (i := 1) (oi := { dst := some 181, op := Op.load 2 (Operand.tmp 180), type := 2, pos := "laws.go:478", after := #[{ on := 0, ground := Ground.data }], guard := none }) (v := ?vvt412) rfl (by kernel_rfl) (by kernel_rfl) (by kernel_rfl) (fun _ _ _ h => h) (Or.inl ⟨by rfl, ?hyt412⟩) A ?restt412
                case hyt412 => (intro w hSw; have c3 := hSw.mem.b3.cell; have c4 := hSw.mem.b4.cell;go_simp <;> with_reducible rfl)
                try simp only [Act.put, List.setIfInBounds_toArray, List.set_cons_zero, List.set_cons_succ]
                refine wpAnyH_take (i := 2) (oi := { dst := some 182, op := Op.binOp BinOp.neq 2 (Operand.tmp 181) (Operand.const (Value.int IntKind.i64 0)) 2, type := 4, pos := "laws.go:478", after := #[{ on := 1, ground := Ground.data }], guard := none }) (v := ?vvt413) rfl (by kernel_rfl) (by kernel_rfl) (by kernel_rfl) (fun _ _ _ h => h) (Or.inl ⟨by rfl, ?hyt413⟩) A ?restt413
                case hyt413 => (intro w hSw; have c3 := hSw.mem.b3.cell; have c4 := hSw.mem.b4.cell;go_simp <;> with_reducible rfl)
                try simp only [Act.put, List.setIfInBounds_toArray, List.set_cons_zero, List.set_cons_succ]
                refine wpAnyH_take (i := 3) (oi := { dst := some 183, op := Op.move (Operand.tmp 182), type := 4, pos := "laws.go:478", after := #[{ on := 2, ground := Ground.data }], guard := none }) (v := ?vvt414) rfl (by kernel_rfl) (by kernel_rfl) (by kernel_rfl) (fun _ _ _ h => h) (Or.inl ⟨by rfl, ?hyt414⟩) A ?restt414
                case hyt414 => (intro w hSw; have c3 := hSw.mem.b3.cell; have c4 := hSw.mem.b4.cell;go_simp <;> with_reducible rfl)
                try simp only [Act.put, List.setIfInBounds_toArray, List.set_cons_zero, List.set_cons_succ]
                refine wpAnyH_take (i := 4) (oi := { dst := some 184, op := Op.fieldAddr 62 (Operand.tmp 7) 0, type := 0, pos := "laws.go:478", after := #[{ on := 3, ground := Ground.guard }], guard := some (3, false) }) (v := ?vvt415) rfl (by kernel_rfl) (by kernel_rfl) (by kernel_rfl) (fun _ _ _ h => h) (Or.inl ⟨by rfl, ?hyt415⟩) A ?restt415
                case hyt415 => (intro w hSw; have c3 := hSw.mem.b3.cell; have c4 := hSw.mem.b4.cell;go_simp <;> with_reducible rfl)
                try simp only [Act.put, List.setIfInBounds_toArray, List.set_cons_zero, List.set_cons_succ]
                refine wpAnyH_take (i := 5) (oi := { dst := some 185, op := Op.load 56 (Operand.tmp 184), type := 56, pos := "laws.go:478", after := #[{ on := 4, ground := Ground.data }, { on := 3, ground := Ground.guard }], guard := some (3, false) }) (v := ?vvt416) rfl (by kernel_rfl) (by kernel_rfl) (by kernel_rfl) (fun _ _ _ h => h) (Or.inl ⟨by rfl, ?hyt416⟩) A ?restt416
                case hyt416 => (intro w hSw; have c3 := hSw.mem.b3.cell; have c4 := hSw.mem.b4.cell;go_simp <;> with_reducible rfl)
                try simp only [Act.put, List.setIfInBounds_toArray, List.set_cons_zero, List.set_cons_succ]
                refine wpAnyH_take (i := 6) (oi := { dst := some 186, op := Op.fieldAddr 58 (Operand.tmp 6) 0, type := 0, pos := "laws.go:478", after := #[{ on := 3, ground := Ground.guard }], guard := some (3, false) }) (v := ?vvt417) rfl (by kernel_rfl) (by kernel_rfl) (by kernel_rfl) (fun _ _ _ h => h) (Or.inl ⟨by rfl, ?hyt417⟩) A ?restt417
                case hyt417 => (intro w hSw; have c3 := hSw.mem.b3.cell; have c4 := hSw.mem.b4.cell;go_simp <;> with_reducible rfl)
                try simp only [Act.put, List.setIfInBounds_toArray, List.set_cons_zero, List.set_cons_succ]
                refine wpAnyH_take (i := 7) (oi := { dst := some 187, op := Op.load 2 (Operand.tmp 186), type := 2, pos := "laws.go:478", after := #[{ on := 6, ground := Ground.data }, { on := 3, ground := Ground.guard }], guard := some (3, false) }) (v := ?vvt418) rfl (by kernel_rfl) (by kernel_rfl) (by kernel_rfl) (fun _ _ _ h => h) (Or.inl ⟨by rfl, ?hyt418⟩) A ?restt418
                case hyt418 => (intro w hSw; have c3 := hSw.mem.b3.cell; have c4 := hSw.mem.b4.cell;go_simp <;> with_reducible rfl)
                try simp only [Act.put, List.setIfInBounds_toArray, List.set_cons_zero, List.set_cons_succ]
                refine wpAnyH_take (i := 8) (oi := { dst := some 188, op := Op.fieldAddr 58 (Operand.tmp 6) 1, type := 0, pos := "laws.go:478", after := #[{ on := 3, ground := Ground.guard }], guard := some (3, false) }) (v := ?vvt419) rfl (by kernel_rfl) (by kernel_rfl) (by kernel_rfl) (fun _ _ _ h => h) (Or.inl ⟨by rfl, ?hyt419⟩) A ?restt419
                case hyt419 => (intro w hSw; have c3 := hSw.mem.b3.cell; have c4 := hSw.mem.b4.cell;go_simp <;> with_reducible rfl)
                try simp only [Act.put, List.setIfInBounds_toArray, List.set_cons_zero, List.set_cons_succ]
                refine wpAnyH_take (i := 9) (oi := { dst := some 189, op := Op.load 2 (Operand.tmp 188), type := 2, pos := "laws.go:478", after := #[{ on := 8, ground := Ground.data }, { on := 3, ground := Ground.guard }], guard := some (3, false) }) (v := ?vvt4110) rfl (by kernel_rfl) (by kernel_rfl) (by kernel_rfl) (fun _ _ _ h => h) (Or.inl ⟨by rfl, ?hyt4110⟩) A ?restt4110
                case hyt4110 => (intro w hSw; have c3 := hSw.mem.b3.cell; have c4 := hSw.mem.b4.cell;go_simp <;> with_reducible rfl)
                try simp only [Act.put, List.setIfInBounds_toArray, List.set_cons_zero, List.set_cons_succ]
                refine wpAnyH_take (i := 11) (oi := { dst := some 191, op := Op.load 58 (Operand.tmp 6), type := 58, pos := "laws.go:478", after := #[{ on := 3, ground := Ground.guard }], guard := some (3, false) }) (v := ?vvt4111) rfl (by kernel_rfl) (by kernel_rfl) (by kernel_rfl) (fun _ _ _ h => h) (Or.inl ⟨by rfl, ?hyt4111⟩) A ?restt4111
                case hyt4111 => (intro w hSw; have c3 := hSw.mem.b3.cell; have c4 := hSw.mem.b4.cell;go_simp <;> with_reducible rfl)
                try simp only [Act.put, List.setIfInBounds_toArray, List.set_cons_zero, List.set_cons_succ]
                refine wpAnyH_ready (rs := [10]) (by kernel_rfl) (by simp) ?_
                refine AllReadyH.cons (o := { dst := some 190, op := Op.call { callee := Callee.value (Operand.func 49), args := #[Operand.tmp 185, Operand.tmp 187, Operand.tmp 189], argTypes := #[56, 2, 2] }, type := 58, pos := "laws.go:478", after := #[{ on := 5, ground := Ground.data }, { on := 7, ground := Ground.data }, { on := 9, ground := Ground.data }, { on := 3, ground := Ground.chain }, { on := 3, ground := Ground.guard }], guard := some (3, false) }) rfl (fun K hK => ?_) AllReadyH.nil
                go_simp
                refine (HIz.out _ (A.sls _ mem7)).mono ?_
                rintro e u1 ⟨rfl, hb⟩
                replace A := A.kept hb
                clear hb
                refine hK.out _ _ A (fun hHeld => ?_)
                clear hK K hHeld
                try simp only [Act.put, List.setIfInBounds_toArray, List.set_cons_zero, List.set_cons_succ]
                refine wpAnyH_take (i := 12) (oi := { dst := some 192, op := Op.binOp BinOp.eql 58 (Operand.tmp 190) (Operand.tmp 191) 58, type := 4, pos := "laws.go:478", after := #[{ on := 10, ground := Ground.data }, { on := 11, ground := Ground.data }, { on := 3, ground := Ground.guard }], guard := some (3, false) }) (v := ?vvt4112) rfl (by kernel_rfl) (by kernel_rfl) (by kernel_rfl) (fun _ _ _ h => h) (Or.inl ⟨by rfl, ?hyt4112⟩) A ?restt4112
                case hyt4112 => (intro w hSw; have c3 := hSw.mem.b3.cell; have c4 := hSw.mem.b4.cell;go_simp <;> with_reducible rfl)
                try simp only [Act.put, List.setIfInBounds_toArray, List.set_cons_zero, List.set_cons_succ]
                refine wpAnyH_take (i := 13) (oi := { dst := some 193, op := Op.pick (Operand.tmp 183) (Operand.const (Value.bool true)) (Operand.tmp 192), type := 4, pos := "laws.go:478", after := #[{ on := 3, ground := Ground.data }, { on := 12, ground := Ground.data }], guard := none }) (v := ?vvt4113) rfl (by kernel_rfl) (by kernel_rfl) (by kernel_rfl) (fun _ _ _ h => h) (Or.inl ⟨by rfl, ?hyt4113⟩) A ?restt4113
                case hyt4113 => (intro w hSw; have c3 := hSw.mem.b3.cell; have c4 := hSw.mem.b4.cell;go_simp <;> with_reducible rfl)
                try simp only [Act.put, List.setIfInBounds_toArray, List.set_cons_zero, List.set_cons_succ]
                refine wpAnyH_take (i := 14) (oi := { dst := some 4, op := Op.assign (Operand.tmp 193), type := 4, pos := "laws.go:478", after := #[{ on := 13, ground := Ground.data }, { on := 10, ground := Ground.chain }, { on := 0, ground := Ground.phase }, { on := 1, ground := Ground.phase }, { on := 2, ground := Ground.phase }, { on := 3, ground := Ground.phase }, { on := 4, ground := Ground.phase }, { on := 5, ground := Ground.phase }, { on := 6, ground := Ground.phase }, { on := 7, ground := Ground.phase }, { on := 8, ground := Ground.phase }, { on := 9, ground := Ground.phase }, { on := 10, ground := Ground.phase }, { on := 11, ground := Ground.phase }, { on := 12, ground := Ground.phase }, { on := 13, ground := Ground.phase }], guard := none }) (v := ?vvt4114) rfl (by kernel_rfl) (by kernel_rfl) (by kernel_rfl) (fun _ _ _ h => h) (Or.inl ⟨by rfl, ?hyt4114⟩) A ?restt4114
                case hyt4114 => (intro w hSw; have c3 := hSw.mem.b3.cell; have c4 := hSw.mem.b4.cell;go_simp <;> with_reducible rfl)
                try simp only [Act.put, List.setIfInBounds_toArray, List.set_cons_zero, List.set_cons_succ]
                refine wpAnyH_done (by kernel_rfl) ?_ _
                all_goals
                  have HB := Lib.hid A.bel
                  go_wp2_with fail
                  go_ret
                  exact ⟨rfl, HB.out⟩
              · clear HIx
                have HX1 : Hid (decide (xk = 0) = false) := Lib.hid (decide_eq_false hx0)
                have HX2 : Hid ((xk == 0) = false) := Lib.hid (by simpa using hx0)
                have HX3 : Hid ((xk != 0) = true) := Lib.hid (by simpa using hx0)
                have HX4 : Hid (Bool.not false = true) := Lib.hid rfl
                replace A := A.drew
                refine wp_region_held_drew (S := fun W' => FgM w W' _ _) (by kernel_rfl) A (fun hHeld => ?_)
                clear hHeld
                refine wpAnyH_take (i := 0) (oi := { dst := some 180, op := Op.fieldAddr 62 (Operand.tmp 7) 2, type := 0, pos := "laws.go:478", after := #[], guard := none }) (v := ?vvt421) rfl (by kernel_rfl) (by kernel_rfl) (by kernel_rfl) (fun _ _ _ h => h) (Or.inl ⟨by rfl, ?hyt421⟩) A ?restt421
                case hyt421 => (intro w hSw; have c3 := hSw.mem.b3.cell; have c4 := hSw.mem.b4.cell;go_simp <;> with_reducible rfl)
                try simp only [Act.put, List.setIfInBounds_toArray, List.set_cons_zero, List.set_cons_succ]
                try simp only [HX1.out]
                try simp only [HX2.out]
                try simp only [HX3.out]
                try simp only [HX4.out]
                refine wpAnyH_take (i := 1) (oi := { dst := some 181, op := Op.load 2 (Operand.tmp 180), type := 2, pos := "laws.go:478", after := #[{ on := 0, ground := Ground.data }], guard := none }) (v := ?vvt422) rfl (by kernel_rfl) (by kernel_rfl) (by kernel_rfl) (fun _ _ _ h => h) (Or.inl ⟨by rfl, ?hyt422⟩) A ?restt422
                case hyt422 => (intro w hSw; have c3 := hSw.mem.b3.cell; have c4 := hSw.mem.b4.cell;go_simp <;> with_reducible rfl)
                try simp only [Act.put, List.setIfInBounds_toArray, List.set_cons_zero, List.set_cons_succ]
                try simp only [HX1.out]
                try simp only [HX2.out]
                try simp only [HX3.out]
                try simp only [HX4.out]
                refine wpAnyH_take (i := 2) (oi := { dst := some 182, op := Op.binOp BinOp.neq 2 (Operand.tmp 181) (Operand.const (Value.int IntKind.i64 0)) 2, type := 4, pos := "laws.go:478", after := #[{ on := 1, ground := Ground.data }], guard := none }) (v := ?vvt423) rfl (by kernel_rfl) (by kernel_rfl) (by kernel_rfl) (fun _ _ _ h => h) (Or.inl ⟨by rfl, ?hyt423⟩) A ?restt423
                case hyt423 => (intro w hSw; have c3 := hSw.mem.b3.cell; have c4 := hSw.mem.b4.cell;go_simp <;> with_reducible rfl)
                try simp only [Act.put, List.setIfInBounds_toArray, List.set_cons_zero, List.set_cons_succ]
                try simp only [HX1.out]
                try simp only [HX2.out]
                try simp only [HX3.out]
                try simp only [HX4.out]
                refine wpAnyH_take (i := 3) (oi := { dst := some 183, op := Op.move (Operand.tmp 182), type := 4, pos := "laws.go:478", after := #[{ on := 2, ground := Ground.data }], guard := none }) (v := ?vvt424) rfl (by kernel_rfl) (by kernel_rfl) (by kernel_rfl) (fun _ _ _ h => h) (Or.inl ⟨by rfl, ?hyt424⟩) A ?restt424
                case hyt424 => (intro w hSw; have c3 := hSw.mem.b3.cell; have c4 := hSw.mem.b4.cell;go_simp <;> with_reducible rfl)
                try simp only [Act.put, List.setIfInBounds_toArray, List.set_cons_zero, List.set_cons_succ]
                try simp only [HX1.out]
                try simp only [HX2.out]
                try simp only [HX3.out]
                try simp only [HX4.out]
                refine wpAnyH_take (i := 4) (oi := { dst := some 184, op := Op.fieldAddr 62 (Operand.tmp 7) 0, type := 0, pos := "laws.go:478", after := #[{ on := 3, ground := Ground.guard }], guard := some (3, false) }) (v := undef) rfl (by kernel_rfl) (by kernel_rfl) (by kernel_rfl) (fun _ _ _ h => h) (Or.inr ⟨by rfl, rfl⟩) A ?_
                try simp only [Act.put, List.setIfInBounds_toArray, List.set_cons_zero, List.set_cons_succ]
                try simp only [HX1.out]
                try simp only [HX2.out]
                try simp only [HX3.out]
                try simp only [HX4.out]
                refine wpAnyH_take (i := 5) (oi := { dst := some 185, op := Op.load 56 (Operand.tmp 184), type := 56, pos := "laws.go:478", after := #[{ on := 4, ground := Ground.data }, { on := 3, ground := Ground.guard }], guard := some (3, false) }) (v := undef) rfl (by kernel_rfl) (by kernel_rfl) (by kernel_rfl) (fun _ _ _ h => h) (Or.inr ⟨by rfl, rfl⟩) A ?_
                try simp only [Act.put, List.setIfInBounds_toArray, List.set_cons_zero, List.set_cons_succ]
                try simp only [HX1.out]
                try simp only [HX2.out]
                try simp only [HX3.out]
                try simp only [HX4.out]
                refine wpAnyH_take (i := 6) (oi := { dst := some 186, op := Op.fieldAddr 58 (Operand.tmp 6) 0, type := 0, pos := "laws.go:478", after := #[{ on := 3, ground := Ground.guard }], guard := some (3, false) }) (v := undef) rfl (by kernel_rfl) (by kernel_rfl) (by kernel_rfl) (fun _ _ _ h => h) (Or.inr ⟨by rfl, rfl⟩) A ?_
                try simp only [Act.put, List.setIfInBounds_toArray, List.set_cons_zero, List.set_cons_succ]
                try simp only [HX1.out]
                try simp only [HX2.out]
                try simp only [HX3.out]
                try simp only [HX4.out]
                refine wpAnyH_take (i := 7) (oi := { dst := some 187, op := Op.load 2 (Operand.tmp 186), type := 2, pos := "laws.go:478", after := #[{ on := 6, ground := Ground.data }, { on := 3, ground := Ground.guard }], guard := some (3, false) }) (v := undef) rfl (by kernel_rfl) (by kernel_rfl) (by kernel_rfl) (fun _ _ _ h => h) (Or.inr ⟨by rfl, rfl⟩) A ?_
                try simp only [Act.put, List.setIfInBounds_toArray, List.set_cons_zero, List.set_cons_succ]
                try simp only [HX1.out]
                try simp only [HX2.out]
                try simp only [HX3.out]
                try simp only [HX4.out]
                refine wpAnyH_take (i := 8) (oi := { dst := some 188, op := Op.fieldAddr 58 (Operand.tmp 6) 1, type := 0, pos := "laws.go:478", after := #[{ on := 3, ground := Ground.guard }], guard := some (3, false) }) (v := undef) rfl (by kernel_rfl) (by kernel_rfl) (by kernel_rfl) (fun _ _ _ h => h) (Or.inr ⟨by rfl, rfl⟩) A ?_
                try simp only [Act.put, List.setIfInBounds_toArray, List.set_cons_zero, List.set_cons_succ]
                try simp only [HX1.out]
                try simp only [HX2.out]
                try simp only [HX3.out]
                try simp only [HX4.out]
                refine wpAnyH_take (i := 9) (oi := { dst := some 189, op := Op.load 2 (Operand.tmp 188), type := 2, pos := "laws.go:478", after := #[{ on := 8, ground := Ground.data }, { on := 3, ground := Ground.guard }], guard := some (3, false) }) (v := undef) rfl (by kernel_rfl) (by kernel_rfl) (by kernel_rfl) (fun _ _ _ h => h) (Or.inr ⟨by rfl, rfl⟩) A ?_
                try simp only [Act.put, List.setIfInBounds_toArray, List.set_cons_zero, List.set_cons_succ]
                try simp only [HX1.out]
                try simp only [HX2.out]
                try simp only [HX3.out]
                try simp only [HX4.out]
                refine wpAnyH_take (i := 10) (oi := { dst := some 190, op := Op.call { callee := Callee.value (Operand.func 49), args := #[Operand.tmp 185, Operand.tmp 187, Operand.tmp 189], argTypes := #[56, 2, 2] }, type := 58, pos := "laws.go:478", after := #[{ on := 5, ground := Ground.data }, { on := 7, ground := Ground.data }, { on := 9, ground := Ground.data }, { on := 3, ground := Ground.chain }, { on := 3, ground := Ground.guard }], guard := some (3, false) }) (v := undef) rfl (by kernel_rfl) (by kernel_rfl) (by kernel_rfl) (fun _ _ _ h => h) (Or.inr ⟨by rfl, rfl⟩) A ?_
                try simp only [Act.put, List.setIfInBounds_toArray, List.set_cons_zero, List.set_cons_succ]
                try simp only [HX1.out]
                try simp only [HX2.out]
                try simp only [HX3.out]
                try simp only [HX4.out]
                refine wpAnyH_take (i := 11) (oi := { dst := some 191, op := Op.load 58 (Operand.tmp 6), type := 58, pos := "laws.go:478", after := #[{ on := 3, ground := Ground.guard }], guard := some (3, false) }) (v := undef) rfl (by kernel_rfl) (by kernel_rfl) (by kernel_rfl) (fun _ _ _ h => h) (Or.inr ⟨by rfl, rfl⟩) A ?_
                try simp only [Act.put, List.setIfInBounds_toArray, List.set_cons_zero, List.set_cons_succ]
                try simp only [HX1.out]
                try simp only [HX2.out]
                try simp only [HX3.out]
                try simp only [HX4.out]
                refine wpAnyH_take (i := 12) (oi := { dst := some 192, op := Op.binOp BinOp.eql 58 (Operand.tmp 190) (Operand.tmp 191) 58, type := 4, pos := "laws.go:478", after := #[{ on := 10, ground := Ground.data }, { on := 11, ground := Ground.data }, { on := 3, ground := Ground.guard }], guard := some (3, false) }) (v := undef) rfl (by kernel_rfl) (by kernel_rfl) (by kernel_rfl) (fun _ _ _ h => h) (Or.inr ⟨by rfl, rfl⟩) A ?_
                try simp only [Act.put, List.setIfInBounds_toArray, List.set_cons_zero, List.set_cons_succ]
                try simp only [HX1.out]
                try simp only [HX2.out]
                try simp only [HX3.out]
                try simp only [HX4.out]
                refine wpAnyH_take (i := 13) (oi := { dst := some 193, op := Op.pick (Operand.tmp 183) (Operand.const (Value.bool true)) (Operand.tmp 192), type := 4, pos := "laws.go:478", after := #[{ on := 3, ground := Ground.data }, { on := 12, ground := Ground.data }], guard := none }) (v := ?vvt4214) rfl (by kernel_rfl) (by kernel_rfl) (by kernel_rfl) (fun _ _ _ h => h) (Or.inl ⟨by rfl, ?hyt4214⟩) A ?restt4214
                case hyt4214 => (intro w hSw; have c3 := hSw.mem.b3.cell; have c4 := hSw.mem.b4.cell;go_simp <;> with_reducible rfl)
                try simp only [Act.put, List.setIfInBounds_toArray, List.set_cons_zero, List.set_cons_succ]
                try simp only [HX1.out]
                try simp only [HX2.out]
                try simp only [HX3.out]
                try simp only [HX4.out]
                refine wpAnyH_take (i := 14) (oi := { dst := some 4, op := Op.assign (Operand.tmp 193), type := 4, pos := "laws.go:478", after := #[{ on := 13, ground := Ground.data }, { on := 10, ground := Ground.chain }, { on := 0, ground := Ground.phase }, { on := 1, ground := Ground.phase }, { on := 2, ground := Ground.phase }, { on := 3, ground := Ground.phase }, { on := 4, ground := Ground.phase }, { on := 5, ground := Ground.phase }, { on := 6, ground := Ground.phase }, { on := 7, ground := Ground.phase }, { on := 8, ground := Ground.phase }, { on := 9, ground := Ground.phase }, { on := 10, ground := Ground.phase }, { on := 11, ground := Ground.phase }, { on := 12, ground := Ground.phase }, { on := 13, ground := Ground.phase }], guard := none }) (v := ?vvt4215) rfl (by kernel_rfl) (by kernel_rfl) (by kernel_rfl) (fun _ _ _ h => h) (Or.inl ⟨by rfl, ?hyt4215⟩) A ?restt4215
                case hyt4215 => (intro w hSw; have c3 := hSw.mem.b3.cell; have c4 := hSw.mem.b4.cell;go_simp <;> with_reducible rfl)
                try simp only [Act.put, List.setIfInBounds_toArray, List.set_cons_zero, List.set_cons_succ]
                try simp only [HX1.out]
                try simp only [HX2.out]
                try simp only [HX3.out]
                try simp only [HX4.out]
                refine wpAnyH_done (by kernel_rfl) ?_ _
                all_goals
                  have HB := Lib.hid A.bel
                  go_wp2_with fail
                  go_ret
                  exact ⟨rfl, HB.out⟩

end Go.Proofs.Ythilmonokhdjmaa
