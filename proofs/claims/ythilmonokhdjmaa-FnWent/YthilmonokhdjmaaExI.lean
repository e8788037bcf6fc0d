/- expired: how many moves are no longer within the window; the program's WentCount and WentTrim. -/
import Derived.Test.YthilmonokhdjmaaFeI
import Derived.Test.YthilmonokhdjmaaPaW
import Derived.WalkMore
namespace Go.Proofs.Ythilmonokhdjmaa
open Go.RowKit

def tms (l : List Mv) : List Int := l.map Mv.tm
def goesI (now : Int) (y : Int) : Bool := !decide (now - 30 < y)
def exN (l : List Mv) (now : Int) : Nat := (l.filter fun x => !lateG now x).length
theorem exN_tms (l : List Mv) (now : Int) : ((tms l).filter (goesI now)).length = exN l now := by
  unfold tms exN
  rw [List.filter_map, List.length_map]
  rfl
theorem exN_len (l : List Mv) (now : Int) : exN l now ≤ l.length := List.length_filter_le _ _
/- the first loop: the first i times are in the heap -/
structure Ex1 (w wr : World) (l : List Mv) (i : Nat) (es : List Int) (a : Option Addr) (c : Nat) : Prop where
  hp : FhI wr w.heap.size w.heap.size es a c
  heap : HeapG ordI es es.length
  perm : (tms (l.take i)).Perm es
  bel : Below w.heap.size w wr
theorem fh_bel {w wr w' : World} {es es' : List Int} {a a' : Option Addr} {c c' : Nat} (h : FhI wr w.heap.size w.heap.size es a c) (hb : Below w.heap.size w wr) (k : Fk2 wr w' w.heap.size (.slice a es.length c) (.slice a' es'.length c')) : Below w.heap.size w w' :=
  k.below hb (Nat.le_refl _) (fun q hq => (h.row.lt q hq).1) hb.size
theorem Ex1.alloc {w wr : World} {l : List Mv} {i : Nat} {es : List Int} {a : Option Addr} {c : Nat} (h : Ex1 w wr l i es a c) (o : Obj) : Ex1 w (wr.alloc o) l i es a c :=
  ⟨h.hp.kept ((Below.refl _ _).alloc (Nat.le_refl _) _), h.heap, h.perm, h.bel.alloc h.bel.size _⟩
theorem Ex1.next {w wr w' : World} {l : List Mv} {i : Nat} {es es' : List Int} {a a' : Option Addr} {c c' : Nat} (h : Ex1 w wr l i es a c) (hi : i < l.length) (h1 : FhI w' w.heap.size w.heap.size es' a' c') (h2 : HeapG ordI es' es'.length) (h3 : (es ++ [(l[i]).tm]).Perm es') (k : Fk2 wr w' w.heap.size (.slice a es.length c) (.slice a' es'.length c')) : Ex1 w w' l (i + 1) es' a' c' := by
  refine ⟨h1, h2, ?_, fh_bel h.hp h.bel k⟩
  have e : tms (l.take (i + 1)) = tms (l.take i) ++ [(l[i]).tm] := by
    unfold tms
    rw [List.take_succ_eq_append_getElem hi, List.map_append]; rfl
  rw [e]
  exact (h.perm.append_right _).trans h3
/- the second loop: k were popped, all of them too old -/
structure Ex2 (w wr : World) (l : List Mv) (now : Int) (k : Nat) (es : List Int) (a : Option Addr) (c : Nat) : Prop where
  hp : FhI wr w.heap.size w.heap.size es a c
  heap : HeapG ordI es es.length
  cnt : k + (es.filter (goesI now)).length = exN l now
  len : es.length ≤ 30
  small : k ≤ 30
  bel : Below w.heap.size w wr
theorem Ex1.turn {w wr : World} {l : List Mv} {es : List Int} {a : Option Addr} {c : Nat} (h : Ex1 w wr l l.length es a c) (hn : l.length ≤ 30) (now : Int) : Ex2 w wr l now 0 es a c := by
  have hp := h.perm
  rw [List.take_length] at hp
  have hl := hp.length_eq
  unfold tms at hl
  rw [List.length_map] at hl
  refine ⟨h.hp, h.heap, ?_, by omega, by omega, h.bel⟩
  rw [Nat.zero_add, ← (hp.filter _).length_eq, exN_tms]
theorem Ex2.next {w wr w' : World} {l : List Mv} {now : Int} {k : Nat} {es es' : List Int} {a a' : Option Addr} {c c' : Nat} (h : Ex2 w wr l now k es a c) (h0 : 0 < es.length) (hx : goesI now (hG ordI es 0) = true) (hn : l.length ≤ 30) (h1 : FhI w' w.heap.size w.heap.size es' a' c') (hl : es'.length = es.length - 1) (h2 : HeapG ordI es' es'.length) (h3 : (es' ++ [hG ordI es 0]).Perm es) (q : Fk2 wr w' w.heap.size (.slice a es.length c) (.slice a' es'.length c')) : Ex2 w w' l now (k + 1) es' a' c' := by
  have hc := popG_count (goesI now) h3
  rw [if_pos hx] at hc
  have h4 := h.cnt
  have h5 := h.len
  have h6 := exN_len l now
  exact ⟨h1, h2, by omega, by omega, by omega, fh_bel h.hp h.bel q⟩
theorem Ex2.stop {w wr : World} {l : List Mv} {now : Int} {k : Nat} {es : List Int} {a : Option Addr} {c : Nat} (h : Ex2 w wr l now k es a c) (hx : goesI now (hG ordI es 0) = false) : k = exN l now := by
  have hz : es.filter (goesI now) = [] := by
    rw [List.filter_eq_nil_iff]
    intro y hy
    obtain ⟨j, hj, rfl⟩ := (mem_hG (O := ordI)).1 hy
    have hr := heapG_root h.heap _ j (Nat.le_refl _) hj
    unfold ordI at hr
    unfold goesI at *
    simp only [Bool.not_eq_false', decide_eq_true_eq] at hx
    simp only [Bool.not_eq_true', decide_eq_false_iff_not, Decidable.not_not]
    unfold ordI at *
    omega
  have := h.cnt
  rw [hz] at this
  simpa using this
theorem Ex2.none {w wr : World} {l : List Mv} {now : Int} {k : Nat} {a : Option Addr} {c : Nat} (h : Ex2 w wr l now k [] a c) : k = exN l now := by
  have := h.cnt
  simpa using this
def leftI (W : World) (hb : Nat) : Nat := match W.heap[hb]? with
  | some (.cells cs _ _) => (match (cs[0]? : Option Value) with | some (Value.slice _ n _) => n | _ => 0)
  | _ => 0
theorem leftI_eq {W : World} {B hb c : Nat} {es : List Int} {a : Option Addr} (h : FhI W B hb es a c) : leftI W hb = es.length := by
  have := h.box
  unfold Blk at this
  unfold leftI
  rw [this]
  rfl
set_option maxRecDepth 100000 in
set_option maxHeartbeats 8000000 in
theorem expired_any (l : List Mv) (v0 : Value) (now : Int) (w : World) (h : MvsAt w v0 l) (hn : l.length ≤ 30) (ht0 : 0 ≤ now) (ht1 : now ≤ 1000000) :
    Calls Try.prog 96 #[v0, .int .i64 now] w fun e w' => e = .returned (.int .i64 (exN l now : Nat)) ∧ Below w.heap.size w w' := by
  have hw30 : IntKind.i64.wrap (now - 30) = now - 30 := by simp only [IntKind.wrap_i64]; omega
  have hsf : ∀ (A : Addr) (W : World), (store A (.func (.func 154) #[] #[])).run Try.prog W = stored Try.prog W A (.func (.func 154) #[] #[]) .plain := fun A W => run_store _ _ _ _ _ rfl
  have HT1 := Lib.hid (fun (wr : World) (es : List Int) (a : Option Addr) (c : Nat) (h : Ex1 w wr l l.length es a c) => h.turn hn now)
  obtain ⟨a, cap, rfl, h⟩ := h
  rw [List.length_map] at *
  have HH := Lib.hid h
  clear h
  have HX0 : Hid (Ex1 w (w.alloc (.cells #[.slice none 0 0, .func (.func 154) #[] #[]] 169)) l 0 [] none 0) := Lib.hid ⟨⟨Blk.new _ _ _, World.ownsRow_nil _ _ _ _⟩, fun k h0 hk => by simp at hk, List.Perm.refl _, (Below.refl _ _).alloc (Nat.le_refl _) _⟩
  obtain ⟨n, hnn⟩ : ∃ n, n = l.length := ⟨_, rfl⟩
  rw [← hnn] at hn HT1 ⊢
  have HN := Lib.hid hnn
  clear hnn
  go_enter Try.func96, Try.ntmps96
  go_wp2_with fail
  go_step3
  go_upto_region 2 with fail
  generalize (w.alloc (.cells #[.slice none 0 0, .func (.func 154) #[] #[]] 169)) = W0 at *
  go_wp2_with fail
  go_loopw [14, 7] (fun u _ wr => ∃ (i : Nat) (es : List Int) (a' : Option Addr) (c' : Nat), i ≤ n ∧ u = .int .i64 (i : Int) ∧ Hid (Ex1 w wr l i es a' c')) (fun u _ _ => n - (intOf u).toNat)
  case atStart => exact ⟨0, [], none, 0, Nat.zero_le _, rfl, HX0⟩
  case round =>
    clear HX0
    obtain ⟨i, es, a', c', hi, rfl, HX⟩ := hrel
    by_cases hlt : i < n
    · have hir : i < l.length := by rw [← HN.out]; exact hlt
      have hne : l.map Mv.cl ≠ [] := fun e => by
        have := congrArg List.length e
        rw [List.length_map, ← HN.out] at this
        simp at this; omega
      obtain ⟨b, off, ha, hb, HE⟩ := HH.out hne
      subst ha
      have hl1 : (i : Int) < n := by omega
      obtain ⟨p0, p1, p2⟩ := (Elems.below HE HX.out.bel hb).mv i hir
      have HNx := Lib.hid (fun (wr1 w' : World) (es' : List Int) (a2 : Option Addr) (c2 : Nat) (h : Ex1 w wr1 l i es a' c') => h.next (w' := w') (es' := es') (a' := a2) (c' := c2) hir)
      have hlen : es.length ≤ 30 := by
        have := HX.out.perm.length_eq
        unfold tms at this
        rw [List.length_map, List.length_take] at this
        omega
      have XA := Blk.new wr 34 (l[i]).ar
      have XX := HX.out.alloc (.cells (l[i]).ar 34)
      unfold Mv.ar at XA XX
      clear HE HX
      generalize l[i] = x at *
      go_upto_region 5 with fail
      generalize (wr.alloc (.cells #[.int .i64 x.vni, .int .i64 x.mac, .int .i64 x.tm] 34)) = W6 at *
      clear p0 p1 p2
      have hc := XA.cell
      have HPu := Lib.hid (fhPushI_any w.heap.size w.heap.size es c' a' x.tm W6 XX.hp (by omega) XX.bel.size XX.heap)
      unfold FhPushI at HPu
      have HXX := Lib.hid XX
      clear XX XA
      go_wp2_with fail
      refine HPu.out.mono ?_
      rintro e w7 ⟨⟨v7, rfl⟩, es', a2, c2, h1, h2, h3, h4, h5⟩
      have HX7 := Lib.hid (HNx.out _ _ _ _ _ HXX.out h1 h3 h4 h5)
      clear h1 h2 h3 h4 h5 hc HPu
      go_wp2_with fail
      go_roundw
      case rel => exact ⟨i + 1, es', a2, c2, by omega, by simp, HX7⟩
      case measure => simp [intOf]; omega
    · have hin : i = n := by omega
      subst hin
      have HX2 := Lib.hid (HT1.out _ _ _ _ HX.out)
      clear HX HH HT1 hlt hi
      go_wp2_with fail
      try go_step3
      try go_wp2_with fail
      go_loopw [8, 9, 10] (fun u _ _ wr => ∃ (k : Nat) (es : List Int) (a' : Option Addr) (c' : Nat), u = .int .i64 (k : Int) ∧ Hid (Ex2 w wr l now k es a' c')) (fun _ _ _ wr => leftI wr w.heap.size)
      case atStart => exact ⟨0, es, a', c', rfl, HX2⟩
      case round =>
        clear HX2
        obtain ⟨k, es, a', c', rfl, HX⟩ := hrel
        have hk30 := HX.out.small
        by_cases h0 : es = []
        · subst h0
          have HR := Lib.hid HX.out.none
          go_wp2_with (go_at_call 156; refine (fhLenI_any _ _ _ _ _ _ HX.out.hp.box).mono ?_; rintro e w2 ⟨rfl, rfl⟩)
          try rw [Exit.noGoto_ret]
          go_ret
          exact ⟨i64_ret (by rw [HR.out]), HX.out.bel⟩
        · have hpos : 0 < es.length := by
            rcases Nat.eq_zero_or_pos es.length with e | e
            · exact absurd (List.eq_nil_of_length_eq_zero e) h0
            · exact e
          have hposI : (0 : Int) < (es.length : Int) := by omega
          have HPop := Lib.hid (fhPopI_any w.heap.size w.heap.size es c' a' wr HX.out.hp (by have := HX.out.len; omega) hpos HX.out.heap)
          unfold FhPopsI at HPop
          have hta := taI (.int .i64 (hG ordI es 0))
          have HSt := Lib.hid (fun h => HX.out.stop h)
          have HNx := Lib.hid (fun (w' : World) (es' : List Int) (a2 : Option Addr) (c2 : Nat) h => HX.out.next (w' := w') (es' := es') (a' := a2) (c' := c2) hpos h (by rw [← HN.out]; exact hn))
          have HBl := Lib.hid (fun (w' : World) (es' : List Int) (a2 : Option Addr) (c2 : Nat) (q : Fk2 wr w' w.heap.size (.slice a' es.length c') (.slice a2 es'.length c2)) => fh_bel HX.out.hp HX.out.bel q)
          have HLn := Lib.hid (leftI_eq HX.out.hp)
          generalize hG ordI es 0 = x at *
          by_cases hx : now - 30 < x
          · have HR := Lib.hid (HSt.out (by unfold goesI; simp [hx]))
            go_wp2_with (go_at_call 156; refine (fhLenI_any _ _ _ _ _ _ HX.out.hp.box).mono ?_; rintro e w2 ⟨rfl, rfl⟩)
            refine HPop.out.mono ?_
            rintro e wp ⟨rfl, es', a2, c2, h1, h2, h3, h4, h5⟩
            have HB := Lib.hid (HBl.out _ _ _ _ h5)
            clear h1 h2 h3 h4 h5
            go_wp2_with fail
            try rw [Exit.noGoto_ret]
            go_ret
            exact ⟨i64_ret (by rw [HR.out]), HB.out⟩
          · have hgo : goesI now x = true := by unfold goesI; simp; omega
            go_wp2_with (go_at_call 156; refine (fhLenI_any _ _ _ _ _ _ HX.out.hp.box).mono ?_; rintro e w2 ⟨rfl, rfl⟩)
            refine HPop.out.mono ?_
            rintro e wp ⟨rfl, es', a2, c2, h1, h2, h3, h4, h5⟩
            have HX7 := Lib.hid (HNx.out _ _ _ _ hgo h1 h2 h3 h4 h5)
            have H2 := Lib.hid h2
            clear h1 h2 h3 h4 h5 hgo
            go_wp2_with fail
            go_roundw
            case rel => exact ⟨k + 1, es', a2, c2, by simp, HX7⟩
            case measure =>
              rw [leftI_eq HX7.out.hp, HLn.out]
              have := H2.out
              omega
end Go.Proofs.Ythilmonokhdjmaa
