/- RibTake of the program. -/
import Derived.Test.YtmkoppbbenombaaTkM
namespace Go.Proofs.Ytmkoppbbenombaa
open Go.RowKit
abbrev o7c871_0 : Oper := { dst := some 38, op := Op.call { callee := Callee.value (Operand.func 75), args := #[Operand.tmp 37], argTypes := #[88] }, type := 25, pos := "l06_rib.go:165", after := #[{ on := 0, ground := Ground.data }], guard := none }
abbrev o7c871_1 : Oper := { dst := some 40, op := Op.load 35 (Operand.tmp 39), type := 35, pos := "l06_rib.go:165", after := #[{ on := 2, ground := Ground.data }], guard := none }
abbrev o7c871_2 : Oper := { dst := some 41, op := Op.buildSlice 31 1 #[(0, Operand.tmp 40)], type := 31, pos := "l06_rib.go:165", after := #[{ on := 3, ground := Ground.data }], guard := none }
abbrev o7c871_3 : Oper := { dst := none, op := Op.store 33 (Operand.tmp 6) (Operand.tmp 42), type := 0, pos := "l06_rib.go:165", after := #[{ on := 5, ground := Ground.data }, { on := 1, ground := Ground.chain }, { on := 0, ground := Ground.phase }, { on := 1, ground := Ground.phase }, { on := 2, ground := Ground.phase }, { on := 3, ground := Ground.phase }, { on := 4, ground := Ground.phase }, { on := 5, ground := Ground.phase }], guard := none }

section
variable {w wr w5 : World} {M clock : Nat} {y : Value} {gone : List Rt} {E : List (Hd × Nat)}
theorem SwAt.drew (h : SwAt w wr M clock y gone E) : SwAt w wr.drew M clock y gone E :=
  ⟨h.box.drew, h.row, h.map.kept rfl, h.bel.drew, h.low⟩
theorem SwAt.fin (h : SwAt w wr M clock y gone E) {q : Nat} (hq : w.heap.size = q) (v0 v1 v2 : Value) :
    Blk (((wr.setCell ⟨q, 0, none⟩ v0).setCell ⟨q, 1, none⟩ v1).setCell ⟨q, 2, none⟩ v2) q 33 #[v0, v1, v2] ∧ Below q w (((wr.setCell ⟨q, 0, none⟩ v0).setCell ⟨q, 1, none⟩ v1).setCell ⟨q, 2, none⟩ v2) := by
  subst hq
  exact fill3 h.box h.bel (Nat.le_refl _) v0 v1 v2
theorem SwAt.own7 (h : SwAt w wr M clock y gone E) (r : Rt) : (wr.alloc (.cells #[.int .i64 r.kind, .int .i64 r.vni, .int .i64 r.mac, .int .i64 r.ip, .int .i64 r.org, .int .i64 r.seq, .bool r.st] 35)).ownsRow w.heap.size 35 7 (.slice (some ⟨wr.heap.size, 0, none⟩) 1 1) 1 (rcells Rt.cl [r]) :=
  World.ownsRow_lit (base := w.heap.size) (e := 35) (size := 7) wr #[.int .i64 r.kind, .int .i64 r.vni, .int .i64 r.mac, .int .i64 r.ip, .int .i64 r.org, .int .i64 r.seq, .bool r.st] 1 h.bel.size (by unfold maxLen; omega) rfl
end
theorem row_kept {W W' : World} {B n sz : Nat} {t : TypeId} {v : Value} {xs : List Value} (h : W.ownsRow B t sz v n xs) (hb : Below W.heap.size W W') : W'.ownsRow B t sz v n xs := row_sameN h (fun k hk => hb.block k (h.lt k hk).2)
section
variable {wr : World} {M clock : Nat} {y : Value} {gone : List Rt} {E : List (Hd × Nat)}
theorem SwAt.finish {wB w : World} {D : List Hd} {S : Ro} {yr : Rt} {dv tv : Value} (h : SwAt wB wr M clock y gone E) (hsz : wB.heap.size = w.heap.size + 1) (HbB : Below w.heap.size w wB) (HO : wr.ownsRow wB.heap.size 77 9 dv D.length (rcells Hd.cl D)) (XG : wr.ownsRow wB.heap.size 35 7 tv 1 (rcells Rt.cl [yr])) (hR : S = ⟨D, [yr], 0⟩) :
    Blk (((wr.setCell ⟨w.heap.size + 1, 0, none⟩ dv).setCell ⟨w.heap.size + 1, 1, none⟩ tv).setCell ⟨w.heap.size + 1, 2, none⟩ (.int .i64 0)) (w.heap.size + 1) 33 #[dv, tv, .int .i64 0] ∧
    RoPost S w (.returned (roV dv tv 0)) (((wr.setCell ⟨w.heap.size + 1, 0, none⟩ dv).setCell ⟨w.heap.size + 1, 1, none⟩ tv).setCell ⟨w.heap.size + 1, 2, none⟩ (.int .i64 0)) := by
  have HY := h.fin hsz dv tv (.int .i64 0)
  have hb := h.box
  rw [hsz] at HO XG hb
  have HO2 := own_far3 HO (own_ne hb HO (by decide)) dv tv (.int .i64 0)
  have XG2 := own_far3 XG (own_ne hb XG (by decide)) dv tv (.int .i64 0)
  refine ⟨HY.1, ?_⟩
  subst hR
  exact RoPost.good (r := ⟨D, [yr], 0⟩) rfl (rown_mono (B' := w.heap.size) HO2 (by omega)) (rown_mono (B' := w.heap.size) XG2 (by omega)) (apart_types HO2 XG2) (HbB.trans (HY.2.mono (by omega)))
end
set_option maxRecDepth 100000 in
set_option maxHeartbeats 8000000 in
theorem implRibTake_any (l : List Hd) (v : Value) (p : Int) (r : Rt) (w : World) (h : HdsAt w v l) (hnb : l.length ≤ 1048576) :
    Calls Try.prog 28 #[v, .int .i64 p, r.val] w (RoPost (takeR l p r) w) := by
  obtain ⟨wB, hwB⟩ : ∃ wB, wB = w.alloc (.cells #[.int .i64 r.kind, .int .i64 r.vni, .int .i64 r.mac, .int .i64 r.ip, .int .i64 r.org, .int .i64 r.seq, .bool r.st] 35) := ⟨_, rfl⟩
  have hsz : wB.heap.size = w.heap.size + 1 := by rw [hwB]; simp
  have XR0 : Blk wB w.heap.size 35 #[.int .i64 r.kind, .int .i64 r.vni, .int .i64 r.mac, .int .i64 r.ip, .int .i64 r.org, .int .i64 r.seq, .bool r.st] := by rw [hwB]; exact Blk.new _ _ _
  have HbB : Below w.heap.size w wB := by rw [hwB]; exact (Below.refl _ _).alloc (Nat.le_refl _) _
  have XO0 := Blk.new wB 33 #[.slice none 0 0, .slice none 0 0, .int .i64 0]
  have HB0 : Below wB.heap.size wB (wB.alloc (.cells #[.slice none 0 0, .slice none 0 0, .int .i64 0] 33)) := (Below.refl _ _).alloc (Nat.le_refl _) _
  have XR1 := XR0.alloc (.cells #[.slice none 0 0, .slice none 0 0, .int .i64 0] 33)
  have h1 : HdsAt wB v l := SlAt.kept h HbB
  have HF := Lib.hid (fun (W' : World) (hb : Below wB.heap.size wB W') => implRouteFault_any l v p r W' (SlAt.kept h1 hb) hnb)
  have HS1 := Lib.hid (fun (c : Int) (hc : faultR l p r = c) (h : c ≠ 0) => takeR_ill hc h)
  unfold Rt.val rtV at *
  by_cases hc0 : faultR l p r = 0
  · obtain ⟨hf0, _⟩ := faultR_zero hc0
    obtain ⟨hok, h4⟩ := fault_zero hf0
    have hpw := ok_pw hok
    have HBs := Lib.hid (fun (W' : World) (hb : Below wB.heap.size wB W') => bySlots_any l v W' (SlAt.kept h1 hb) h4 hpw)
    have HSl := Lib.hid (slotOf_any ⟨p, false, r⟩)
    rw [hc0] at HF
    unfold BsPost at HBs
    unfold Hd.val slotV at HSl
    clear HS1
    obtain ⟨a, cap, rfl, h⟩ := h1
    rw [List.length_map] at *
    clear h
    go_enter Try.func28, Try.ntmps28
    go_upto_region 1 with fail
    rw [← hwB]
    generalize (wB.alloc (.cells #[.slice none 0 0, .slice none 0 0, .int .i64 0] 33)) = w0 at *
    have hcR := XR1.cell
    go_wp2_with fail
    refine (HF.out _ HB0).mono ?_
    rintro x w1 ⟨rfl, hb1⟩
    have XR2 := XR1.kept hb1
    have XO2 := XO0.kept hb1
    have HB2 := HB0.trans (hb1.mono HB0.size)
    clear hb1 hcR XR1 XO0 HB0 HF
    go_wp2_with fail
    refine (HBs.out _ HB2).mono ?_
    rintro x w2 ⟨M, rfl, hMge, hMS, hb2⟩
    have SA : SwAt wB w2 M l.length (.slice none 0 0) [] l.zipIdx := ⟨XO2.kept hb2, World.ownsRow_nil _ _ _ _, hMS, HB2.trans (hb2.mono HB2.size), Nat.le_trans HB2.size hMge⟩
    have XR3 := XR2.kept hb2
    have hcR := XR3.cell
    have HDs := Lib.hid hMS.dist
    clear hb2 hMS XO2 HB2 XR2 HBs hMge
    go_wp2_with fail
    refine (HSl.out _).mono ?_
    rintro x w3 ⟨rfl, hb3⟩
    have SA3 := (SA.kept hb3).alloc (.cells #[.int .i64 p, .int .i64 r.kind, .int .i64 r.vni, .int .i64 r.mac, .int .i64 0, .int .i64 r.org, .int .i64 0, .bool false] 91)
    have XS3 := Blk.new w3 91 #[.int .i64 p, .int .i64 r.kind, .int .i64 r.vni, .int .i64 r.mac, .int .i64 0, .int .i64 r.org, .int .i64 0, .bool false]
    clear hb3 SA hcR XR3 HSl
    go_upto_region 6 with fail
    generalize (w3.alloc (.cells #[.int .i64 p, .int .i64 r.kind, .int .i64 r.vni, .int .i64 r.mac, .int .i64 0, .int .i64 r.org, .int .i64 0, .bool false] 91)) = w4 at *
    generalize w3.heap.size = qs at *
    have hlk := SA3.map.look ⟨p, false, r⟩
    unfold slotV at hlk
    have hcS := XS3.cell
    cases hs : seekS ⟨p, false, r⟩ l.zipIdx 0 with
    | none =>
      have HR := Lib.hid (takeR_none hc0 (hit_none hs))
      rw [hs] at hlk
      dsimp only at hlk
      have SA5 := SA3.alloc (.cells #[.int .i64 0, .bool false, .int .i64 0, .int .i64 0, .int .i64 0, .int .i64 0, .int .i64 0, .int .i64 0, .bool false] 77)
      go_upto_region 7 with fail
      generalize (w4.alloc (.cells #[.int .i64 0, .bool false, .int .i64 0, .int .i64 0, .int .i64 0, .int .i64 0, .int .i64 0, .int .i64 0, .bool false] 77)) = w5 at *
      have hc := SA5.box.cell
      have hf := SA5.box.frozen
      simp only [hsz] at hc hf
      clear hlk hcS
      go_wp2_with fail
      have HY := Lib.hid (SA5.fin hsz (.slice none 0 0) (.slice none 0 0) (.int .i64 6))
      generalize (((w5.setCell ⟨w.heap.size + 1, 0, none⟩ (.slice none 0 0)).setCell ⟨w.heap.size + 1, 1, none⟩ (.slice none 0 0)).setCell ⟨w.heap.size + 1, 2, none⟩ (.int .i64 6)) = w6 at *
      have hc2 := HY.out.1.cell
      refine bodyPost_ret (v := roV (.slice none 0 0) (.slice none 0 0) 6) (by simp [results, Try.results28, go_sem, roV, hc2]) rfl ?_
      exact RoPost.ill HR.out rfl (HbB.trans (HY.out.2.mono (by omega)))
    | some jv =>
      obtain ⟨j, vj⟩ := jv
      obtain ⟨⟨yp, ys, yr⟩, rfl, hhit, hmem⟩ := take_found hpw HDs.out hs
      have HR := Lib.hid (takeR_some hc0 hhit)
      have HIo := Lib.hid (fun (W' : World) (hM : MapS W' M (l.zipIdx.eraseIdx j) l.length) => inOrder_any M l.length (l.zipIdx.eraseIdx j) (leaveL ⟨p, false, r⟩ l) W' hM (by have := List.length_eraseIdx_le l.zipIdx j; rw [List.length_zipIdx] at this; omega) (leave_pw hpw) hmem)
      have HSK := Lib.hid hs
      unfold RowPost at HIo
      rw [hs] at hlk
      unfold Hd.val at hlk
      dsimp only at hlk HR
      generalize leaveL ⟨p, false, r⟩ l = D at *
      have SA5 := SA3.alloc (.cells #[.int .i64 yp, .bool ys, .int .i64 yr.kind, .int .i64 yr.vni, .int .i64 yr.mac, .int .i64 yr.ip, .int .i64 yr.org, .int .i64 yr.seq, .bool yr.st] 77)
      have XH5 := Blk.new w4 77 #[.int .i64 yp, .bool ys, .int .i64 yr.kind, .int .i64 yr.vni, .int .i64 yr.mac, .int .i64 yr.ip, .int .i64 yr.org, .int .i64 yr.seq, .bool yr.st]
      have XS5 := XS3.alloc (.cells #[.int .i64 yp, .bool ys, .int .i64 yr.kind, .int .i64 yr.vni, .int .i64 yr.mac, .int .i64 yr.ip, .int .i64 yr.org, .int .i64 yr.seq, .bool yr.st] 77)
      have hqM : w4.heap.size ≠ M := (Nat.ne_of_lt SA3.map.lt).symm
      go_upto_region 7 with fail
      generalize (w4.alloc (.cells #[.int .i64 yp, .bool ys, .int .i64 yr.kind, .int .i64 yr.vni, .int .i64 yr.mac, .int .i64 yr.ip, .int .i64 yr.org, .int .i64 yr.seq, .bool yr.st] 77)) = w5 at *
      generalize w4.heap.size = qh at *
      clear hlk hcS hs hhit hmem SA3 XS3
      have hcS := XS5.cell
      go_wp2_with (at_delete; refine wpList_delete_S _ rfl _ _ rfl M l.length l.zipIdx ⟨p, false, r⟩ j (Hd.val ⟨yp, ys, yr⟩) rfl rfl SA5.map HSK.out ?_; intro hMd; have SA6 := (SA5.drop hMd).drew; have XH6 := (XH5.setB hqM (.map (mkE (l.zipIdx.eraseIdx j)).toArray l.length)).drew; clear hMd hcS; generalize (setM w5 M (.map (mkE (l.zipIdx.eraseIdx j)).toArray l.length)) = w6 at *)
      have hcH := XH6.cell
      have hcO := SA6.box.cell
      have hfO := SA6.box.frozen
      simp only [hsz] at hcO hfO
      clear XS5 SA5 XH5
      refine wp_region_any (by kernel_rfl) ?_
      try (change wpAny _ _ _ _ _ _ _ (World.drew _))
      generalize w6.drew = Wd at *
      refine wpAny_take (i := 0) (v := ?vva1) rfl (by kernel_rfl) (by kernel_rfl) (by kernel_rfl) (fun _ _ _ h => h) (Or.inl ⟨by rfl, ?hya1⟩) ?resta1
      case hya1 => (intro w; go_simp <;> with_reducible rfl)
      refine wpAny_take (i := 2) (v := ?vva2) rfl (by kernel_rfl) (by kernel_rfl) (by kernel_rfl) (fun _ _ _ h => h) (Or.inl ⟨by rfl, ?hya2⟩) ?resta2
      case hya2 => (intro w; go_simp <;> with_reducible rfl)
      refine wpAny_ready (rs := [1, 3]) (by kernel_rfl) (by simp) ?_
      refine (AllReady.cons (o := o7c871_0) rfl (fun K hK => ?_) (AllReady.cons (o := o7c871_1) rfl (fun K hK => ?_) AllReady.nil))
      focus
        go_simp
        refine (HIo.out _ SA6.map).mono ?_
        rintro e w7 ⟨dv, rfl, ho, hb7⟩
        have HO := rown_mono (B' := wB.heap.size) ho SA6.bel.size
        replace SA6 := SA6.kept hb7
        replace XH6 := XH6.kept hb7
        try (replace XG := row_kept XG hb7)
        clear hcH hcO hfO ho hb7
        obtain ⟨da, dc, rfl⟩ := rown_form HO
        have hcH := XH6.cell
        have hcO := SA6.box.cell
        have hfO := SA6.box.frozen
        simp only [hsz] at hcO hfO
        refine hK _ _ ?_
        clear hK K
        refine wpAny_ready (rs := [3]) (by kernel_rfl) (by simp) ?_
        refine AllReady.cons (o := o7c871_1) rfl (fun K hK => ?_) AllReady.nil
        go_simp
        refine hK _ _ ?_
        clear hK K
        refine wpAny_ready (rs := [4]) (by kernel_rfl) (by simp) ?_
        refine AllReady.cons (o := o7c871_2) rfl (fun K hK => ?_) AllReady.nil
        go_simp
        have XG := SA6.own7 yr
        replace SA6 := SA6.alloc (.cells #[.int .i64 yr.kind, .int .i64 yr.vni, .int .i64 yr.mac, .int .i64 yr.ip, .int .i64 yr.org, .int .i64 yr.seq, .bool yr.st] 35)
        replace XH6 := XH6.alloc (.cells #[.int .i64 yr.kind, .int .i64 yr.vni, .int .i64 yr.mac, .int .i64 yr.ip, .int .i64 yr.org, .int .i64 yr.seq, .bool yr.st] 35)
        try (replace HO := HO.alloc (.cells #[.int .i64 yr.kind, .int .i64 yr.vni, .int .i64 yr.mac, .int .i64 yr.ip, .int .i64 yr.org, .int .i64 yr.seq, .bool yr.st] 35))
        clear hcH hcO hfO
        have hcH := XH6.cell
        have hcO := SA6.box.cell
        have hfO := SA6.box.frozen
        simp only [hsz] at hcO hfO
        refine hK _ _ ?_
        clear hK K
        refine wpAny_take (i := 5) (v := ?vva3) rfl (by kernel_rfl) (by kernel_rfl) (by kernel_rfl) (fun _ _ _ h => h) (Or.inl ⟨by rfl, ?hya3⟩) ?resta3
        case hya3 => (intro w; go_simp <;> with_reducible rfl)
        refine wpAny_ready (rs := [6]) (by kernel_rfl) (by simp) ?_
        refine AllReady.cons (o := o7c871_3) rfl (fun K hK => ?_) AllReady.nil
        go_simp
        refine hK _ _ ?_
        clear hK K
        refine wpAny_done (by kernel_rfl) ?_ _
      rotate_left 1
      focus
        go_simp
        refine hK _ _ ?_
        clear hK K
        refine wpAny_ready (rs := [1, 4]) (by kernel_rfl) (by simp) ?_
        refine (AllReady.cons (o := o7c871_0) rfl (fun K hK => ?_) (AllReady.cons (o := o7c871_2) rfl (fun K hK => ?_) AllReady.nil))
        focus
          go_simp
          refine (HIo.out _ SA6.map).mono ?_
          rintro e w7 ⟨dv, rfl, ho, hb7⟩
          have HO := rown_mono (B' := wB.heap.size) ho SA6.bel.size
          replace SA6 := SA6.kept hb7
          replace XH6 := XH6.kept hb7
          try (replace XG := row_kept XG hb7)
          clear hcH hcO hfO ho hb7
          obtain ⟨da, dc, rfl⟩ := rown_form HO
          have hcH := XH6.cell
          have hcO := SA6.box.cell
          have hfO := SA6.box.frozen
          simp only [hsz] at hcO hfO
          refine hK _ _ ?_
          clear hK K
          refine wpAny_ready (rs := [4]) (by kernel_rfl) (by simp) ?_
          refine AllReady.cons (o := o7c871_2) rfl (fun K hK => ?_) AllReady.nil
          go_simp
          have XG := SA6.own7 yr
          replace SA6 := SA6.alloc (.cells #[.int .i64 yr.kind, .int .i64 yr.vni, .int .i64 yr.mac, .int .i64 yr.ip, .int .i64 yr.org, .int .i64 yr.seq, .bool yr.st] 35)
          replace XH6 := XH6.alloc (.cells #[.int .i64 yr.kind, .int .i64 yr.vni, .int .i64 yr.mac, .int .i64 yr.ip, .int .i64 yr.org, .int .i64 yr.seq, .bool yr.st] 35)
          try (replace HO := HO.alloc (.cells #[.int .i64 yr.kind, .int .i64 yr.vni, .int .i64 yr.mac, .int .i64 yr.ip, .int .i64 yr.org, .int .i64 yr.seq, .bool yr.st] 35))
          clear hcH hcO hfO
          have hcH := XH6.cell
          have hcO := SA6.box.cell
          have hfO := SA6.box.frozen
          simp only [hsz] at hcO hfO
          refine hK _ _ ?_
          clear hK K
          refine wpAny_take (i := 5) (v := ?vva4) rfl (by kernel_rfl) (by kernel_rfl) (by kernel_rfl) (fun _ _ _ h => h) (Or.inl ⟨by rfl, ?hya4⟩) ?resta4
          case hya4 => (intro w; go_simp <;> with_reducible rfl)
          refine wpAny_ready (rs := [6]) (by kernel_rfl) (by simp) ?_
          refine AllReady.cons (o := o7c871_3) rfl (fun K hK => ?_) AllReady.nil
          go_simp
          refine hK _ _ ?_
          clear hK K
          refine wpAny_done (by kernel_rfl) ?_ _
        rotate_left 1
        focus
          go_simp
          have XG := SA6.own7 yr
          replace SA6 := SA6.alloc (.cells #[.int .i64 yr.kind, .int .i64 yr.vni, .int .i64 yr.mac, .int .i64 yr.ip, .int .i64 yr.org, .int .i64 yr.seq, .bool yr.st] 35)
          replace XH6 := XH6.alloc (.cells #[.int .i64 yr.kind, .int .i64 yr.vni, .int .i64 yr.mac, .int .i64 yr.ip, .int .i64 yr.org, .int .i64 yr.seq, .bool yr.st] 35)
          try (replace HO := HO.alloc (.cells #[.int .i64 yr.kind, .int .i64 yr.vni, .int .i64 yr.mac, .int .i64 yr.ip, .int .i64 yr.org, .int .i64 yr.seq, .bool yr.st] 35))
          clear hcH hcO hfO
          have hcH := XH6.cell
          have hcO := SA6.box.cell
          have hfO := SA6.box.frozen
          simp only [hsz] at hcO hfO
          refine hK _ _ ?_
          clear hK K
          refine wpAny_ready (rs := [1]) (by kernel_rfl) (by simp) ?_
          refine AllReady.cons (o := o7c871_0) rfl (fun K hK => ?_) AllReady.nil
          go_simp
          refine (HIo.out _ SA6.map).mono ?_
          rintro e w7 ⟨dv, rfl, ho, hb7⟩
          have HO := rown_mono (B' := wB.heap.size) ho SA6.bel.size
          replace SA6 := SA6.kept hb7
          replace XH6 := XH6.kept hb7
          try (replace XG := row_kept XG hb7)
          clear hcH hcO hfO ho hb7
          obtain ⟨da, dc, rfl⟩ := rown_form HO
          have hcH := XH6.cell
          have hcO := SA6.box.cell
          have hfO := SA6.box.frozen
          simp only [hsz] at hcO hfO
          refine hK _ _ ?_
          clear hK K
          refine wpAny_take (i := 5) (v := ?vva5) rfl (by kernel_rfl) (by kernel_rfl) (by kernel_rfl) (fun _ _ _ h => h) (Or.inl ⟨by rfl, ?hya5⟩) ?resta5
          case hya5 => (intro w; go_simp <;> with_reducible rfl)
          refine wpAny_ready (rs := [6]) (by kernel_rfl) (by simp) ?_
          refine AllReady.cons (o := o7c871_3) rfl (fun K hK => ?_) AllReady.nil
          go_simp
          refine hK _ _ ?_
          clear hK K
          refine wpAny_done (by kernel_rfl) ?_ _
        rotate_left 1
      rotate_left 2
      all_goals
        go_wp2_with fail
        have HY := Lib.hid (SA6.finish hsz HbB HO XG HR.out)
        have hc2 := HY.out.1.cell
        refine bodyPost_ret ?_ rfl HY.out.2
        simp [results, Try.results28, go_sem, roV, hc2]
  · have HR := Lib.hid (HS1.out _ rfl hc0)
    generalize takeR l p r = S at *
    generalize faultR l p r = c at *
    clear HS1 h h1
    go_enter Try.func28, Try.ntmps28
    go_upto_region 1 with fail
    rw [← hwB]
    generalize (wB.alloc (.cells #[.slice none 0 0, .slice none 0 0, .int .i64 0] 33)) = w0 at *
    have hcR := XR1.cell
    go_wp2_with fail
    refine (HF.out _ HB0).mono ?_
    rintro x w1 ⟨rfl, hb1⟩
    have X1 := XO0.kept hb1
    have HB1 := HB0.trans (hb1.mono HB0.size)
    have hc := X1.cell
    have hf := X1.frozen
    simp only [hsz] at hc hf
    clear hb1 hcR
    go_wp2_with fail
    have HY := Lib.hid (fill3 X1 HB1 (Nat.le_refl _) (.slice none 0 0) (.slice none 0 0) (.int .i64 c))
    rw [hsz] at HY
    generalize (((w1.setCell ⟨w.heap.size + 1, 0, none⟩ (.slice none 0 0)).setCell ⟨w.heap.size + 1, 1, none⟩ (.slice none 0 0)).setCell ⟨w.heap.size + 1, 2, none⟩ (.int .i64 c)) = w2 at *
    have hc2 := HY.out.1.cell
    refine bodyPost_ret (v := roV (.slice none 0 0) (.slice none 0 0) c) (by simp [results, Try.results28, go_sem, roV, hc2]) rfl ?_
    exact RoPost.ill HR.out rfl (HbB.trans (HY.out.2.mono (by omega)))
end Go.Proofs.Ytmkoppbbenombaa
