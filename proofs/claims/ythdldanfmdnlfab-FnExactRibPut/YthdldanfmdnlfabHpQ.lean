/- A heap of held routes: Pop, the method. -/
import Derived.Test.YthdldanfmdnlfabHpP
namespace Go.Proofs.Ythdldanfmdnlfab
open Go.RowKit

theorem elem_hp : Try.prog.elem 116 = 74 := by kernel_rfl
theorem under_hp : Try.prog.underlying 116 = some (.slice (Try.prog.elem 116)) := by rw [elem_hp]; exact Try.underlying116
theorem size_hp (W : World) : (sizeOf (Try.prog.elem 116)).run Try.prog W = .ok 9 W := by
  obtain ⟨i0, z, hi0, hz0, hz1, hz2, hz3⟩ := tyH.info
  rw [elem_hp]
  simp [sizeOf, typeInfo, hi0, hz1]
theorem cut_hp (g n c k : Nat) (hk : k ≤ n) (hc : n ≤ c) (W : World) :
    (Instr.slice 116 (.slice (some ⟨g, 0, none⟩) n c) none (some (.int .i64 (k : Int))) none).run Try.prog W = .ok (.slice (some ⟨g, 0, none⟩) k c) W := by
  rw [run_slice_h (P := Try.prog) W 116 (some ⟨g, 0, none⟩) n c under_hp .i64 k (by omega) (by omega), size_hp]
  simp [Result.andThen, sliced, Addr.add]
theorem own_take {W : World} {B g n c k : Nat} {es : List Hd} (h : W.ownsRow B 74 9 (.slice (some ⟨g, 0, none⟩) n c) n (rcells Hd.cl es)) (hk : k ≤ n) (hn : n = es.length) : W.ownsRow B 74 9 (.slice (some ⟨g, 0, none⟩) k c) k (rcells Hd.cl (es.take k)) := by
  subst hn
  refine ⟨by rw [rcells_len Hd.cl_len, List.length_take]; omega, ?_⟩
  rcases h.2 with ⟨e, _⟩ | ⟨g', cap, cur, e, hb, hh, hn, hm, hz, ht⟩
  · cases e
  · injection e with e1 e2 e3
    injection e1 with e1
    injection e1 with e1
    subst e1 e3
    refine .inr ⟨g, c, cur, rfl, hb, hh, by omega, hm, hz, ?_⟩
    have hle : k * 9 ≤ es.length * 9 := by omega
    have h1 : cur.toList.take (k * 9) = (rcells Hd.cl es).take (k * 9) := by rw [← ht, List.take_take, Nat.min_eq_left hle]
    rw [h1]
    have h2 : rcells Hd.cl es = rcells Hd.cl (es.take k) ++ rcells Hd.cl (es.drop k) := by rw [← rcells_app, List.take_append_drop]
    rw [h2, List.take_append_of_le_length (by rw [rcells_len Hd.cl_len, List.length_take]; omega), List.take_of_length_le (by rw [rcells_len Hd.cl_len, List.length_take]; omega)]
def PopPost (B hb : Nat) (es es' : List Hd) (x : Hd) (a : Option Addr) (c : Nat) (w : World) (e : Ending) (w' : World) : Prop :=
  e = .returned (.iface 74 x.val) ∧ ∃ a' c', HpAt w' B hb es' a' c' ∧ Hp2 w w' hb (.slice a es.length c) (.slice a' es'.length c')
set_option maxRecDepth 100000 in
set_option maxHeartbeats 4000000 in
theorem hpPopM_any (B hb : Nat) (es : List Hd) (c : Nat) (a : Option Addr) (w : World) (H : HpAt w B hb es a c) (hn : es.length ≤ 1000000) (h0 : 0 < es.length) :
    Calls Try.prog 187 #[.pointer (some ⟨hb, 0, none⟩)] w (PopPost B hb es (es.take (es.length - 1)) (gH es (es.length - 1)) a c w) := by
  unfold PopPost
  obtain ⟨g, hg⟩ : ∃ g, a = some ⟨g, 0, none⟩ := by
    rcases H.row.2 with ⟨e, _⟩ | ⟨g, cp, cu, e, _⟩
    · injection e with _ e2 _; omega
    · injection e with e1 _ _; exact ⟨g, e1⟩
  subst hg
  have hcap : es.length ≤ c := by
    rcases H.row.2 with ⟨e, _⟩ | ⟨g', cp, cu, e, _, _, hle, _⟩
    · cases e
    · injection e with _ _ e3; omega
  obtain ⟨a', c', e, hE⟩ := H.sl
  injection e with e1 e2 e3
  obtain ⟨b, off, e4, hbl, hE⟩ := hE (fun e => by have := congrArg List.length e; simp at this; rw [this] at h0; simp at h0)
  rw [← e1] at e4
  injection e4 with e4
  injection e4 with e4 e5
  subst e4 e5
  have hk : es.length - 1 < es.length := by omega
  obtain ⟨p0, p1, p2, p3, p4, p5, p6, p7, p8⟩ := hE.hd (es.length - 1) hk
  rw [gH_eq hk]
  have HT := Lib.hid (own_take H.row (show es.length - 1 ≤ es.length by omega) rfl)
  have HTl : Hid ((es.take (es.length - 1)).length = es.length - 1) := Lib.hid (by rw [List.length_take]; omega)
  have hcut := cut_hp g es.length c (es.length - 1) (by omega) hcap
  have hbx := H.box
  have hlow : ∀ q : Nat, (Value.slice (some ⟨g, 0, none⟩) es.length c).ownBlock = some q → q < w.heap.size := fun q hq => (H.row.lt q hq).2
  have hgb : g ≠ hb := by
    intro e
    rcases H.row.2 with ⟨e9, _⟩ | ⟨g', cp, cu, e9, _, hh, _⟩
    · cases e9
    · injection e9 with e9 _ _
      injection e9 with e9
      injection e9 with e9
      subst e9 e
      unfold Blk at hbx
      rw [hbx] at hh
      simp at hh
  have XA := Blk.new w 74 (es[es.length - 1]).ar
  have OT := Lib.hid (HT.out.alloc (.cells (es[es.length - 1]).ar 74))
  have HBX := hbx.alloc (.cells (es[es.length - 1]).ar 74)
  have hqb : hb ≠ w.heap.size := Nat.ne_of_lt hbx.lt
  have hsz0 := hbx.lt
  clear HT hE e1 e2 e3 hbl H
  generalize hC : rcells Hd.cl (es.take (es.length - 1)) = C at *
  unfold Hd.ar at XA OT HBX
  unfold Hd.val
  generalize es[es.length - 1] = x at *
  obtain ⟨n, hnn⟩ : ∃ n, n = es.length := ⟨_, rfl⟩
  rw [← hnn] at h0 hn hcut hbx HBX hlow OT p0 p1 p2 p3 p4 p5 p6 p7 p8
  have HN := Lib.hid hnn
  obtain ⟨m, hm⟩ : ∃ m, n = m + 1 := ⟨n - 1, by omega⟩
  subst hm
  rw [Nat.add_sub_cancel] at *
  simp only [Nat.zero_add] at p0 p1 p2 p3 p4 p5 p6 p7 p8
  have hcB := hbx.cell
  clear hnn
  have hm1 : IntKind.i64.wrap (m : Int) = (m : Int) := by simp only [IntKind.wrap_i64]; omega
  go_enter Try.func187, Try.ntmps187
  go_upto_region 3 with fail
  have BA : Below w.heap.size w (w.alloc (.cells #[.int .i64 x.p, .bool x.s, .int .i64 x.r.kind, .int .i64 x.r.vni, .int .i64 x.r.mac, .int .i64 x.r.ip, .int .i64 x.r.org, .int .i64 x.r.seq, .bool x.r.st] 74)) := (Below.refl _ _).alloc (Nat.le_refl _) _
  generalize (w.alloc (.cells #[.int .i64 x.p, .bool x.s, .int .i64 x.r.kind, .int .i64 x.r.vni, .int .i64 x.r.mac, .int .i64 x.r.ip, .int .i64 x.r.org, .int .i64 x.r.seq, .bool x.r.st] 74)) = W6 at *
  clear p0 p1 p2 p3 p4 p5 p6 p7 p8 hcB
  have hc1 := HBX.cell
  have hf1 := HBX.frozen
  go_upto_region 4 with fail
  have HBY := HBX.set 0 (.slice (some ⟨g, 0, none⟩) m c)
  simp only [List.setIfInBounds_toArray, List.set_cons_zero] at HBY
  have XB := XA.far (b' := hb) (i := 0) (v := .slice (some ⟨g, 0, none⟩) m c) (Ne.symm hqb)
  have OB := Lib.hid (OT.out.kept (row := some hb) (grownSet (u := .slice (some ⟨g, 0, none⟩) m c) (j := 0) (World.grownBy.refl _ _)) (.inr (by simp [Value.ownBlock]; exact hgb)))
  have HP2 : Hid (Hp2 w (W6.setCell ⟨hb, 0, none⟩ (.slice (some ⟨g, 0, none⟩) m c)) hb (.slice (some ⟨g, 0, none⟩) (m + 1) c) (.slice (some ⟨g, 0, none⟩) m c)) := Lib.hid ⟨BA.os, BA.tape, BA.output, by have := BA.size; simp; exact this, fun k hk1 h1 _ => (Below.heap_setCell _ _ _ k h1).trans (BA.block k hk1), fun k hk1 => .inl hk1⟩
  generalize W6.setCell ⟨hb, 0, none⟩ (.slice (some ⟨g, 0, none⟩) m c) = W7 at *
  clear hc1 hf1
  have hc := XB.cell
  go_wp2_with fail
  go_ret
  refine ⟨rfl, some ⟨g, 0, none⟩, c, ⟨?_, ?_⟩, ?_⟩
  · rw [HTl.out, ← HN.out, Nat.add_sub_cancel]; exact HBY
  · rw [HTl.out, hC, ← HN.out, Nat.add_sub_cancel]; exact OB.out
  · rw [← HN.out, Nat.add_sub_cancel]; exact HP2.out
end Go.Proofs.Ythdldanfmdnlfab
