/- firstHeap of Int: Push, Pop, which function a method is. -/
import Derived.Test.YthilmonokhdjmaaFmI
import Derived.Test.YthilmonokhdjmaaApB
import Derived.Deep.RegionLaw
namespace Go.Proofs.Ythilmonokhdjmaa
open Go.RowKit

def FhPostI (B hb : Nat) (es es' : List Int) (a : Option Addr) (c : Nat) (w : World) (e : Ending) (w' : World) : Prop :=
  (∃ v, e = .returned v) ∧ ∃ a' c', FhI w' B hb es' a' c' ∧ Fk2 w w' hb (.slice a es.length c) (.slice a' es'.length c')
theorem fhEndI {w Wd w5 : World} {B hb c n5 c5 : Nat} {a a5 : Option Addr} {es es' : List Int} {o : Obj} (H : FhI w B hb es a c) (hbl : Below w.heap.size w Wd) (hOwn : Wd.ownsRow B 2 1 (.slice a es.length c) es.length (rcells clI es))
    (hn5 : n5 = es'.length) (ho : w5.ownsRow B 2 1 (.slice a5 n5 c5) n5 (rcells clI es')) (hg : (Wd.alloc o).grownBy w5 (Value.slice a es.length c).ownBlock) (hloc : (Value.slice a5 n5 c5).ownBlock = (Value.slice a es.length c).ownBlock ∨ (Value.slice a5 n5 c5).ownBlock = some (Wd.alloc o).heap.size) :
    Blk w5 hb 169 #[.slice a es.length c, .func (.func 154) #[] #[]] ∧ FhI (w5.setCell ⟨hb, 0, none⟩ (.slice a5 n5 c5)) B hb es' a5 c5 ∧ Fk2 w (w5.setCell ⟨hb, 0, none⟩ (.slice a5 n5 c5)) hb (.slice a es.length c) (.slice a5 es'.length c5) := by
  subst hn5
  have hb5 : Blk w5 hb 169 #[.slice a es.length c, .func (.func 154) #[] #[]] := ((H.box.kept hbl).alloc o).grown hg (fh_ne ((H.box.kept hbl).alloc o) (hOwn.alloc o) (by decide))
  refine ⟨hb5, ⟨?_, ?_⟩, ?_⟩
  · have := hb5.set 0 (.slice a5 es'.length c5)
    simp only [List.setIfInBounds_toArray, List.set_cons_zero] at this
    exact this
  · exact ho.kept (row := some hb) (grownSet (World.grownBy.refl _ _)) (.inr (fun e => fh_ne hb5 ho (by decide) e.symm))
  · refine ⟨hg.os.trans hbl.os, hg.tape.trans hbl.tape, hg.output.trans hbl.output, ?_, fun k hk1 h1 h2 => ?_, fun k hk1 => ?_⟩
    · have := hg.size
      have := hbl.size
      simp at *
      omega
    · have := hbl.size
      rw [Below.heap_setCell _ _ _ k h1, hg.block k (by simp; omega) h2, Below.heap_alloc Wd o k (by omega), hbl.block k hk1]
    · rcases hloc with e | e
      · exact .inl (by rw [← e]; exact hk1)
      · right
        rw [hk1] at e
        injection e with e
        have := hbl.size
        simp at e
        omega
theorem taI (v : Value) (w : World) : (Instr.typeAssert (.iface 2 v) 20 2 true).run Try.prog w = .ok (.tuple #[v, .bool true]) w := by kernel_rfl
set_option maxRecDepth 100000 in
set_option maxHeartbeats 4000000 in
theorem fhPushMI_any (B hb : Nat) (es : List Int) (c : Nat) (a : Option Addr) (x : Int) (w : World) (H : FhI w B hb es a c) (hn : es.length ≤ 1000000) (hB : B ≤ w.heap.size) :
    Calls Try.prog 241 #[.pointer (some ⟨hb, 0, none⟩), .iface 2 (.int .i64 x)] w (FhPostI B hb es (es ++ [x]) a c w) := by
  unfold FhPostI
  have hcB := H.box.cell
  have hta := taI (.int .i64 x)
  have HE := Lib.hid (fun (a5 : Option Addr) (n5 c5 : Nat) (w5 : World) (o : Obj) h1 h2 h3 h4 => fhEndI (Wd := w) (w5 := w5) (n5 := n5) (a5 := a5) (c5 := c5) (o := o) (es' := es ++ [x]) H (Below.refl _ _) H.row h1 h2 h3 h4)
  have HRow := H.row
  clear H
  go_enter Try.func241, Try.ntmps241
  go_wp2_with (at_builtin; refine wpList_append_rowB clI_len clI_one tyI _ rfl _ _ rfl B _ es x rfl (HRow.alloc _) ⟨w.heap.size, 0, none⟩ rfl (lit_cells w #[.int .i64 x] 2 x rfl) (by omega) (by simp; omega) ?_; intro a' c' n' w5 HN5 hown5 hg5 hk5; have HE5 := Lib.hid (HE.out _ _ _ _ _ HN5.out hown5 hg5 hk5); have c5x := HE5.out.1.cell; have f5x := HE5.out.1.frozen; clear hown5 hg5 hk5 hcB HRow)
  go_end0
  exact ⟨⟨_, rfl⟩, _, _, HE5.out.2.1, HE5.out.2.2⟩
theorem elemFhI : Try.prog.elem 81 = 2 := by kernel_rfl
theorem underFhI : Try.prog.underlying 81 = some (.slice (Try.prog.elem 81)) := by rw [elemFhI]; exact tyI.under
theorem sizeFhI (W : World) : (sizeOf (Try.prog.elem 81)).run Try.prog W = .ok 1 W := by
  obtain ⟨i0, z, hi0, hz0, hz1, hz2, hz3⟩ := tyI.info
  rw [elemFhI]
  simp [sizeOf, typeInfo, hi0, hz1]
theorem cutFhI (g n c k : Nat) (hk : k ≤ n) (hc : n ≤ c) (W : World) :
    (Instr.slice 81 (.slice (some ⟨g, 0, none⟩) n c) none (some (.int .i64 (k : Int))) none).run Try.prog W = .ok (.slice (some ⟨g, 0, none⟩) k c) W := by
  rw [run_slice_h (P := Try.prog) W 81 (some ⟨g, 0, none⟩) n c underFhI .i64 k (by omega) (by omega), sizeFhI]
  simp [Result.andThen, sliced, Addr.add]
theorem takeFhI {W : World} {B g n c k : Nat} {es : List Int} (h : W.ownsRow B 2 1 (.slice (some ⟨g, 0, none⟩) n c) n (rcells clI es)) (hk : k ≤ n) (hn : n = es.length) : W.ownsRow B 2 1 (.slice (some ⟨g, 0, none⟩) k c) k (rcells clI (es.take k)) := by
  subst hn
  refine ⟨by rw [rcells_len clI_len, List.length_take]; omega, ?_⟩
  rcases h.2 with ⟨e, _⟩ | ⟨g', cap, cur, e, hb, hh, hn, hm, hz, ht⟩
  · cases e
  · injection e with e1 e2 e3
    injection e1 with e1
    injection e1 with e1
    subst e1 e3
    refine .inr ⟨g, c, cur, rfl, hb, hh, by omega, hm, hz, ?_⟩
    have hle : k * 1 ≤ es.length * 1 := by omega
    have h1 : cur.toList.take (k * 1) = (rcells clI es).take (k * 1) := by rw [← ht, List.take_take, Nat.min_eq_left hle]
    rw [h1]
    have h2 : rcells clI es = rcells clI (es.take k) ++ rcells clI (es.drop k) := by rw [← rcells_app, List.take_append_drop]
    rw [h2, List.take_append_of_le_length (by rw [rcells_len clI_len, List.length_take]; omega), List.take_of_length_le (by rw [rcells_len clI_len, List.length_take]; omega)]
def FhPopI (B hb : Nat) (es es' : List Int) (x : Int) (a : Option Addr) (c : Nat) (w : World) (e : Ending) (w' : World) : Prop :=
  e = .returned (.iface 2 (.int .i64 x)) ∧ ∃ a' c', FhI w' B hb es' a' c' ∧ Fk2 w w' hb (.slice a es.length c) (.slice a' es'.length c')
set_option maxRecDepth 100000 in
set_option maxHeartbeats 4000000 in
theorem fhPopMI_any (B hb : Nat) (es : List Int) (c : Nat) (a : Option Addr) (w : World) (H : FhI w B hb es a c) (hn : es.length ≤ 1000000) (h0 : 0 < es.length) :
    Calls Try.prog 240 #[.pointer (some ⟨hb, 0, none⟩)] w (FhPopI B hb es (es.take (es.length - 1)) (hG ordI es (es.length - 1)) a c w) := by
  unfold FhPopI
  obtain ⟨g, hg⟩ : ∃ g, a = some ⟨g, 0, none⟩ := by
    rcases H.row.2 with ⟨e, _⟩ | ⟨g, cp, cu, e, _⟩
    · injection e with _ e2 _; omega
    · injection e with e1 _ _; exact ⟨g, e1⟩
  subst hg
  have hcap : es.length ≤ c := by
    rcases H.row.2 with ⟨e, _⟩ | ⟨g', cp, cu, e, _, _, hle, _⟩
    · cases e
    · injection e with _ _ e3; omega
  obtain ⟨a', c', e, hE⟩ := H.sl
  injection e with e1 e2 e3
  obtain ⟨b, off, e4, hbl, hE⟩ := hE (fun e => by have := congrArg List.length e; simp at this; rw [this] at h0; simp at h0)
  rw [← e1] at e4
  injection e4 with e4
  injection e4 with e4 e5
  subst e4 e5
  have hk : es.length - 1 < es.length := by omega
  have HEl := hE.eI (es.length - 1) hk
  rw [hG_eq hk]
  have HT := Lib.hid (takeFhI H.row (show es.length - 1 ≤ es.length by omega) rfl)
  have HTl : Hid ((es.take (es.length - 1)).length = es.length - 1) := Lib.hid (by rw [List.length_take]; omega)
  have hcut := cutFhI g es.length c (es.length - 1) (by omega) hcap
  have hbx := H.box
  have hgb : g ≠ hb := fun e => fh_ne H.box H.row (by decide) (by rw [← e]; rfl)
  have OT := HT
  have HBX := hbx
  clear HT hE e1 e2 e3 hbl H
  generalize hC : rcells clI (es.take (es.length - 1)) = C at *
  generalize es[es.length - 1] = x at *
  obtain ⟨n, hnn⟩ : ∃ n, n = es.length := ⟨_, rfl⟩
  rw [← hnn] at h0 hn hcut hbx HBX OT HEl
  have HN := Lib.hid hnn
  obtain ⟨m, hm⟩ : ∃ m, n = m + 1 := ⟨n - 1, by omega⟩
  subst hm
  rw [Nat.add_sub_cancel] at *
  simp only [Nat.zero_add] at HEl
  have hcB := hbx.cell
  have hfB := hbx.frozen
  clear hnn
  have hm1 : IntKind.i64.wrap (m : Int) = (m : Int) := by simp only [IntKind.wrap_i64]; omega
  have HBY := HBX.set 0 (.slice (some ⟨g, 0, none⟩) m c)
  simp only [List.setIfInBounds_toArray, List.set_cons_zero] at HBY
  have OB := Lib.hid (OT.out.kept (row := some hb) (grownSet (u := .slice (some ⟨g, 0, none⟩) m c) (j := 0) (World.grownBy.refl _ _)) (.inr (by simp [Value.ownBlock]; exact hgb)))
  have HP2 : Hid (Fk2 w (w.setCell ⟨hb, 0, none⟩ (.slice (some ⟨g, 0, none⟩) m c)) hb (.slice (some ⟨g, 0, none⟩) (m + 1) c) (.slice (some ⟨g, 0, none⟩) m c)) := Lib.hid ⟨rfl, rfl, rfl, by simp, fun k hk1 h1 _ => Below.heap_setCell _ _ _ k h1, fun k hk1 => .inl hk1⟩
  have HBYH := Lib.hid HBY
  clear HBY HBX hbx OT
  go_enter Try.func240, Try.ntmps240
  go_wp2_with fail
  go_ret
  refine ⟨rfl, some ⟨g, 0, none⟩, c, ⟨?_, ?_⟩, ?_⟩
  · rw [HTl.out, ← HN.out, Nat.add_sub_cancel]; exact HBYH.out
  · rw [HTl.out, hC, ← HN.out, Nat.add_sub_cancel]; exact OB.out
  · rw [← HN.out, Nat.add_sub_cancel]; exact HP2.out
theorem methodFhI {P : Program} {t elem : TypeId} {A : Addr} {W : World} {f : FuncId} {i : TypeInfo} {m : _} {name : String} (fuel : Nat) (hi : P.info? t = some i) (hm : i.methods.find? (·.name == name) = some m) (hp : m.path = #[]) (hf : m.func = some (f, true))
    (hu : P.underlying t = some (.pointer elem)) : (method (fuel + 1) t (.pointer (some A)) name).run P W = .ok (f, .pointer (some A)) W := by
  have hu' := run_underlying hu
  simp [method, typeInfo, hi, hm, hp, hf, follow, receiverAt, hu', Place.get, Sem.run_bind, Result.andThen]
theorem underPfI : Try.prog.underlying 171 = some (.pointer 169) := by kernel_rfl
theorem infoLessI : (Try.prog.info? 171).map (fun i => (i.methods.find? (·.name == "Less")).map fun m => (m.path, m.func)) = some (some (#[], some (239, true))) := by kernel_rfl
theorem infoSwapI : (Try.prog.info? 171).map (fun i => (i.methods.find? (·.name == "Swap")).map fun m => (m.path, m.func)) = some (some (#[], some (242, true))) := by kernel_rfl
theorem infoLenI : (Try.prog.info? 171).map (fun i => (i.methods.find? (·.name == "Len")).map fun m => (m.path, m.func)) = some (some (#[], some (156, true))) := by kernel_rfl
theorem infoPushI : (Try.prog.info? 171).map (fun i => (i.methods.find? (·.name == "Push")).map fun m => (m.path, m.func)) = some (some (#[], some (241, true))) := by kernel_rfl
theorem infoPopI : (Try.prog.info? 171).map (fun i => (i.methods.find? (·.name == "Pop")).map fun m => (m.path, m.func)) = some (some (#[], some (240, true))) := by kernel_rfl
set_option maxRecDepth 100000 in
theorem methodOfI {f : FuncId} {A : Addr} {W : World} {name : String} (fuel : Nat) (hi : (Try.prog.info? 171).map (fun i => (i.methods.find? (·.name == name)).map fun m => (m.path, m.func)) = some (some (#[], some (f, true)))) :
    (method (fuel + 1) 171 (.pointer (some A)) name).run Try.prog W = .ok (f, .pointer (some A)) W := by
  obtain ⟨i, hi, hj⟩ := Option.map_eq_some_iff.1 hi
  obtain ⟨m, hm, hpf⟩ := Option.map_eq_some_iff.1 hj
  injection hpf with hp hf
  exact methodFhI fuel hi hm hp hf underPfI
theorem mLessI (A : Addr) (W : World) : (method 358 171 (.pointer (some A)) "Less").run Try.prog W = .ok (239, .pointer (some A)) W := methodOfI _ infoLessI
theorem mSwapI (A : Addr) (W : World) : (method 358 171 (.pointer (some A)) "Swap").run Try.prog W = .ok (242, .pointer (some A)) W := methodOfI _ infoSwapI
theorem mLenI (A : Addr) (W : World) : (method 358 171 (.pointer (some A)) "Len").run Try.prog W = .ok (156, .pointer (some A)) W := methodOfI _ infoLenI
theorem mPushI (A : Addr) (W : World) : (method 358 171 (.pointer (some A)) "Push").run Try.prog W = .ok (241, .pointer (some A)) W := methodOfI _ infoPushI
theorem mPopI (A : Addr) (W : World) : (method 358 171 (.pointer (some A)) "Pop").run Try.prog W = .ok (240, .pointer (some A)) W := methodOfI _ infoPopI
end Go.Proofs.Ythilmonokhdjmaa
