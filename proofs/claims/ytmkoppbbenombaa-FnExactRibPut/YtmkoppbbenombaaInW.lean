/- inOrder: the walk. -/
import Derived.Test.YtmkoppbbenombaaInO
namespace Go.Proofs.Ytmkoppbbenombaa
open Go.RowKit Go.ChangeMaps

structure Out1 (w wr : World) (l : List Hd) (es : List Hd) (a : Option Addr) (c : Nat) (out : List Hd) (y : Value) : Prop where
  hp : HpAt wr w.heap.size w.heap.size es a c
  heap : HeapOk es es.length
  dist : Dist es
  pop : Popped l out es
  row : wr.ownsRow w.heap.size 77 9 y out.length (rcells Hd.cl out)
  apart : ∀ k, y.ownBlock = some k → k ≠ w.heap.size ∧ (Value.slice a es.length c).ownBlock ≠ some k
  bel : Below w.heap.size w wr
  len : es.length + out.length ≤ 1000
def leftO (W : World) (hb : Nat) : Nat := match W.heap[hb]? with
  | some (.cells cs _ _) => (match (cs[0]? : Option Value) with | some (Value.slice _ n _) => n | _ => 0)
  | _ => 0
theorem leftO_eq {W : World} {B hb c : Nat} {es : List Hd} {a : Option Addr} (h : HpAt W B hb es a c) : leftO W hb = es.length := by
  have := h.box
  unfold Blk at this
  unfold leftO
  rw [this]
  rfl
theorem next_world {w wr w1 : World} {M clock : Nat} {E : List (Hd × Nat)} {es : List Hd} {a : Option Addr} {c : Nat} {seen : Array Nat} (h : Fill1 w wr M clock E es a c seen) (h1 : w1.heap = wr.heap ∧ w1.os = wr.os ∧ w1.tape = wr.tape ∧ w1.output = wr.output) (hM : M < w.heap.size) (seen' : Array Nat) :
    (setBlock w1 (w.heap.size + 1) (.mapIter (some M) clock seen' clock)).heap[w.heap.size + 1]? = some (.mapIter (some M) clock seen' clock) ∧ MapS (setBlock w1 (w.heap.size + 1) (.mapIter (some M) clock seen' clock)) M E clock ∧ Below w.heap.size w (setBlock w1 (w.heap.size + 1) (.mapIter (some M) clock seen' clock)) ∧ HpAt (setBlock w1 (w.heap.size + 1) (.mapIter (some M) clock seen' clock)) w.heap.size w.heap.size es a c := by
  obtain ⟨e1, e2, e3, e4⟩ := h1
  have hitlt : w.heap.size + 1 < wr.heap.size := by
    rcases Nat.lt_or_ge (w.heap.size + 1) wr.heap.size with hl | hl
    · exact hl
    · have := h.it; rw [Array.getElem?_eq_none hl] at this; cases this
  have far : ∀ k, k ≠ w.heap.size + 1 → (setBlock w1 (w.heap.size + 1) (.mapIter (some M) clock seen' clock)).heap[k]? = wr.heap[k]? := fun k hk => by rw [setBlock_far hk, e1]
  refine ⟨setBlock_at (by rw [e1]; exact hitlt), h.map.kept (far M (by omega)), ⟨e2.trans h.bel.os, e3.trans h.bel.tape, e4.trans h.bel.output, ?_, fun k hk => (far k (by omega)).trans (h.bel.block k hk)⟩, hp_same h.hp (far _ (by omega)) (fun k hk => far k (fun e => ?_))⟩
  · have := h.bel.size
    simp only [setBlock, Array.size_setIfInBounds, e1]
    exact this
  · subst e
    obtain ⟨_, _, _, cs, hcs⟩ := hp_rowBlock h.hp _ hk
    rw [h.it] at hcs
    cases hcs
theorem fill_alloc {w wn : World} {M clock r : Nat} {E : List (Hd × Nat)} {es : List Hd} {a : Option Addr} {c : Nat} {o' : Obj} (h : wn.heap[r]? = some o' ∧ MapS wn M E clock ∧ Below w.heap.size w wn ∧ HpAt wn w.heap.size w.heap.size es a c) (cs : Array Value) :
    (wn.alloc (.cells cs 77)).heap[r]? = some o' ∧ MapS (wn.alloc (.cells cs 77)) M E clock ∧ Below w.heap.size w (wn.alloc (.cells cs 77)) ∧ HpAt (wn.alloc (.cells cs 77)) w.heap.size w.heap.size es a c := by
  obtain ⟨h1, h2, h3, h4⟩ := h
  have hlt : r < wn.heap.size := by
    rcases Nat.lt_or_ge r wn.heap.size with hl | hl
    · exact hl
    · rw [Array.getElem?_eq_none hl] at h1; cases h1
  exact ⟨(Below.heap_alloc _ _ _ hlt).trans h1, h2.kept (Below.heap_alloc _ _ _ h2.lt), h3.alloc h3.size _, h4.kept ((Below.refl _ _).alloc (Nat.le_refl _) _)⟩
/- an element was popped and appended -/
theorem Out1.step {w wr wp wa w5 : World} {l es es' out : List Hd} {a a' : Option Addr} {c c' : Nat} {y : Value} {a5 : Option Addr} {n5 c5 : Nat} {o : Obj} (h : Out1 w wr l es a c out y) (h0 : 0 < es.length)
    (H : HpAt wp w.heap.size w.heap.size es' a' c') (hl : es'.length = es.length - 1) (hO : HeapOk es' es'.length) (hm : ∀ z, z ∈ es' ↔ z ∈ es ∧ ¬ same z (gH es 0)) (hD : Dist es') (K : Hp2 wr wp w.heap.size (.slice a es.length c) (.slice a' es'.length c'))
    (hwa : ∀ k, k < wp.heap.size → wa.heap[k]? = wp.heap[k]?) (hwas : wp.heap.size < wa.heap.size) (hwb : wa.os = wp.os ∧ wa.tape = wp.tape ∧ wa.output = wp.output)
    (hown : w5.ownsRow w.heap.size 77 9 (.slice a5 n5 c5) n5 (rcells Hd.cl (out ++ [gH es 0]))) (hn5 : n5 = (out ++ [gH es 0]).length) (hg : (wa.alloc o).grownBy w5 y.ownBlock) (hloc : (Value.slice a5 n5 c5).ownBlock = y.ownBlock ∨ (Value.slice a5 n5 c5).ownBlock = some (wa.heap.size + 1)) :
    Out1 w w5 l es' a' c' (out ++ [gH es 0]) (.slice a5 n5 c5) := by
  have hrow := hp_rowBlock h.hp
  have hrow' := hp_rowBlock H
  have hyk : ∀ k, y.ownBlock = some k → (Value.slice a' es'.length c').ownBlock ≠ some k := fun k hk e => by
    rcases K.own k e with e2 | e2
    · exact (h.apart k hk).2 e2
    · have := (h.row.lt k hk).2; omega
  have hblk : ∀ k, k < wp.heap.size → some k ≠ y.ownBlock → w5.heap[k]? = wp.heap[k]? := fun k hk hne => by
    rw [hg.block k (by simp; omega) hne, Below.heap_alloc wa o k (by omega), hwa k hk]
  have hbx := H.box.lt
  refine ⟨hp_same H (hblk _ hbx (fun e => (h.apart _ e.symm).1 rfl)) (fun k hk => hblk k (hrow' k hk).2.1 (fun e => hyk k e.symm hk)), hO, hD, h.pop.step h0 rfl (fun k hk => heap_root h.heap k k (Nat.le_refl _) hk) hm h.dist, by rw [← hn5]; exact hown, fun k hk => ?_, ?_, ?_⟩
  · rcases hloc with e | e
    · rw [e] at hk
      exact ⟨(h.apart k hk).1, hyk k hk⟩
    · rw [e] at hk
      injection hk with hk
      refine ⟨by omega, fun e2 => ?_⟩
      have := (hrow' k e2).2.1
      omega
  · have b1 := K.below h.bel (Nat.le_refl _) (fun k hk => (hrow k hk).1) h.bel.size
    refine ⟨hg.os.trans (hwb.1.trans b1.os), hg.tape.trans (hwb.2.1.trans b1.tape), hg.output.trans (hwb.2.2.trans b1.output), ?_, fun k hk => ?_⟩
    · have := hg.size; have := b1.size; simp at *; omega
    · rw [hblk k (by have := b1.size; omega) (fun e => by have := (h.row.lt k e.symm).1; omega)]
      exact b1.block k hk
  · have := h.len; simp; omega
set_option maxRecDepth 100000 in
set_option maxHeartbeats 8000000 in
theorem inOrder_any (M clock : Nat) (E : List (Hd × Nat)) (l : List Hd) (w : World) (hM : MapS w M E clock) (hlen : E.length ≤ 1000) (hl : l.Pairwise LtH) (hmem : ∀ y, y ∈ l ↔ ∃ b, (y, b) ∈ E) :
    Calls Try.prog 75 #[.map (some M)] w (RowPost Hd.cl 77 9 l w) := by
  unfold RowPost
  have hMlt := hM.lt
  have hsf : ∀ (A : Addr) (W : World), (store A (.func (.func 116) #[] #[])).run Try.prog W = stored Try.prog W A (.func (.func 116) #[] #[]) .plain := fun A W => run_store _ _ _ _ _ rfl
  have hM1 : MapS (w.alloc (.cells #[.slice none 0 0, .func (.func 116) #[] #[]] 120)) M E clock := hM.kept (Below.heap_alloc _ _ _ hMlt)
  have hrng := run_rangeS hM1
  rw [World.size_alloc] at hrng
  have F0 : Fill1 w ((w.alloc (.cells #[.slice none 0 0, .func (.func 116) #[] #[]] 120)).alloc (.mapIter (some M) clock #[] clock)) M clock E [] none 0 #[] := by
    refine ⟨⟨(Blk.new w _ _).alloc _, World.ownsRow_nil _ _ _ _⟩, fun k h0 hk => by simp at hk, fun i j hi => by simp at hi, fun y => by simp, ?_, hM1.kept (Below.heap_alloc _ _ _ hM1.lt), ((Below.refl _ _).alloc (Nat.le_refl _) _).alloc (by simp) _, by simp, ?_⟩
    · have := heap_alloc_new (w.alloc (.cells #[.slice none 0 0, .func (.func 116) #[] #[]] 120)) (.mapIter (some M) clock #[] clock)
      rw [World.size_alloc] at this
      exact this
    · simp only [Array.size_empty, Nat.zero_add]
      exact List.length_filter_le _ _
  have HF0 := Lib.hid F0
  have HL := Lib.hid hl
  have HMe := Lib.hid hmem
  clear hM hM1 F0 hl hmem
  go_enter Try.func75, Try.ntmps75
  go_wp2_with fail
  go_loopw [5] (fun _ wr => ∃ (es : List Hd) (a : Option Addr) (c : Nat) (seen : Array Nat), Hid (Fill1 w wr M clock E es a c seen)) (fun _ wr => leftS E wr (w.heap.size + 1))
  case atStart => exact ⟨[], none, 0, #[], HF0⟩
  case round =>
    obtain ⟨es, a, c, seen, HF⟩ := hrel
    go_wp2_with (first | (at_next; refine wpList_next_S _ rfl _ rfl (w.heap.size + 1) M clock seen E rfl HF.out.it HF.out.map ?_ ?_) | fail)
    · intro hall
      have hp1 := HF.out.hp
      have HO0 : Hid (Out1 w wr l es a c [] (.slice none 0 0)) := Lib.hid ⟨hp1, HF.out.heap, HF.out.dist, ⟨List.Pairwise.nil, (fun a ha => by cases ha), fun y => by
        rw [HMe.out y, HF.out.vis y]
        constructor
        · rintro ⟨b, hb⟩; exact .inr ⟨b, hb, by simpa using hall.out y b hb⟩
        · rintro (h | ⟨b, hb, _⟩)
          · cases h
          · exact ⟨b, hb⟩⟩, World.ownsRow_nil _ _ _ _, (fun k hk => by cases hk), HF.out.bel, by have := HF.out.len; have := HF.out.small; simp; omega⟩
      clear hall hp1 HF HF0 HMe hrng
      go_wp2_with fail
      go_loopw [6, 7, 8] (fun y _ _ wr => ∃ (es : List Hd) (a : Option Addr) (c : Nat) (out : List Hd), Hid (Out1 w wr l es a c out y)) (fun _ _ _ wr => leftO wr w.heap.size)
      case atStart => exact ⟨es, a, c, [], HO0⟩
      case round =>
        clear HO0
        obtain ⟨es, a, c, out, HO⟩ := hrel
        have hbx := HO.out.hp.box
        have hcB := hbx.cell
        by_cases h0 : es = []
        · subst h0
          have HE := Lib.hid (HO.out.pop.done HL.out)
          obtain ⟨ya, yc, hy⟩ := rown_form HO.out.row
          subst hy
          simp only [List.length_nil] at hcB
          go_wp2_with (go_at_call 118; refine (hpLen_any _ _ _ _ _ _ HO.out.hp.box).mono ?_; rintro e w2 ⟨rfl, rfl⟩)
          go_ret
          exact ⟨_, rfl, by rw [← HE.out]; exact HO.out.row, HO.out.bel⟩
        · have hpos : 0 < es.length := by
            rcases Nat.eq_zero_or_pos es.length with e | e
            · exact absurd (List.eq_nil_of_length_eq_zero e) h0
            · exact e
          have hposI : (0 : Int) < (es.length : Int) := by omega
          have HPop := Lib.hid (hpPop_any w.heap.size w.heap.size es c a wr HO.out.hp (by have := HO.out.len; omega) hpos HO.out.heap HO.out.dist)
          unfold PopsPost at HPop
          have hta := ta_held (gH es 0).val
          have HST := Lib.hid (fun (wp wa w5 : World) (es' : List Hd) (a' : Option Addr) (c' : Nat) (a5 : Option Addr) (n5 c5 : Nat) (o : Obj) => HO.out.step (wp := wp) (wa := wa) (w5 := w5) (es' := es') (a' := a') (c' := c') (a5 := a5) (n5 := n5) (c5 := c5) (o := o) hpos)
          have hlo : out.length ≤ 1000 := by have := HO.out.len; omega
          generalize gH es 0 = x at *
          unfold Hd.val at HPop hta
          go_wp2_with (go_at_call 118; refine (hpLen_any _ _ _ _ _ _ HO.out.hp.box).mono ?_; rintro e w2 ⟨rfl, rfl⟩)
          refine HPop.out.mono ?_
          rintro e wp ⟨rfl, es', a', c', Hp, h1, h2, h3, h4, Kp⟩
          obtain ⟨ya, yc, hy⟩ := rown_form HO.out.row
          have hOwn : wp.ownsRow w.heap.size 77 9 u6 out.length (rcells Hd.cl out) := row_same HO.out.row (fun k hk => Kp.block k (HO.out.row.lt k hk).2 (HO.out.apart k hk).1 (fun e => (HO.out.apart k hk).2 e.symm))
          subst hy
          have HXA := Blk.new wp 77 x.ar
          have HOA := hOwn.alloc (.cells x.ar 77)
          have HWA := Lib.hid (show (∀ k, k < wp.heap.size → (wp.alloc (.cells x.ar 77)).heap[k]? = wp.heap[k]?) ∧ wp.heap.size < (wp.alloc (.cells x.ar 77)).heap.size ∧ ((wp.alloc (.cells x.ar 77)).os = wp.os ∧ (wp.alloc (.cells x.ar 77)).tape = wp.tape ∧ (wp.alloc (.cells x.ar 77)).output = wp.output) ∧ w.heap.size ≤ (wp.alloc (.cells x.ar 77)).heap.size from ⟨fun k hk => Below.heap_alloc _ _ _ hk, by simp, ⟨rfl, rfl, rfl⟩, by have := HO.out.bel.size; have := Kp.size; simp; omega⟩)
          have HPP := Lib.hid (fun (wa w5 : World) (a5 : Option Addr) (n5 c5 : Nat) (o : Obj) => HST.out wp wa w5 es' a' c' a5 n5 c5 o Hp h1 h2 h3 h4 Kp)
          have H1l := Lib.hid h1
          unfold Hd.ar at HXA HOA HWA
          clear Hp h1 h2 h3 h4 Kp hOwn HPop HST hcB hbx
          go_upto_region 9 with fail
          generalize wp.alloc (.cells #[.int .i64 x.p, .bool x.s, .int .i64 x.r.kind, .int .i64 x.r.vni, .int .i64 x.r.mac, .int .i64 x.r.ip, .int .i64 x.r.org, .int .i64 x.r.seq, .bool x.r.st] 77) = wa at *
          have hc := HXA.cell
          obtain ⟨i0, z, hi0, hz0, hz1, hz2, hz3⟩ := tyH.info
          go_wp2_with (at_builtin; refine wpList_append_own_at _ rfl _ _ 25 rfl w.heap.size 77 i0 z 9 72 Try.underlying25 hi0 hz0 hz1 hz2 hz3 (by decide) _ out.length (rcells Hd.cl out) rfl (HOA.alloc _) ⟨wa.heap.size, 0, none⟩ 1 1 x.cl rfl rfl (lit_cells wa _ _ x rfl) (Hd.cl_one1 x) (by unfold maxLen; omega) (by omega) (by have := HWA.out.2.2.2; simp; omega) ?_; intro v5 w5 hown5 hg5 _ hloc5; have hl5 : out.length + 1 = (out ++ [x]).length := (by simp); rw [hl5, ← rcells_snoc] at hown5; obtain ⟨a5, c5, rfl⟩ := rown_form hown5; have HF5 := Lib.hid (HPP.out wa w5 a5 _ c5 _ HWA.out.1 HWA.out.2.1 HWA.out.2.2.1 hown5 rfl hg5 (by rw [World.size_alloc] at hloc5; exact hloc5)); clear hown5 hg5 hloc5 hl5)
          go_roundw
          case rel => exact ⟨es', a', c', out ++ [x], by rw [show (out ++ [x]).length = out.length + 1 from by simp] at HF5; exact HF5⟩
          case measure =>
            rw [leftO_eq HF5.out.hp, leftO_eq HO.out.hp]
            have := H1l.out
            omega
    · intro x b w1 hq hs0 hw1
      have hs : Hid (seen.contains b = false) := Lib.hid (by simpa using hs0.out)
      clear hs0
      have HW1 : Hid (w1.heap = wr.heap ∧ w1.os = wr.os ∧ w1.tape = wr.tape ∧ w1.output = wr.output) := Lib.hid (by
        rcases hw1.out with rfl | rfl
        · exact ⟨rfl, rfl, rfl, rfl⟩
        · exact ⟨rfl, rfl, rfl, rfl⟩)
      have HN := Lib.hid (next_world HF.out HW1.out hMlt (seen.push b))
      obtain ⟨Wn, hWn⟩ : ∃ W, W = setBlock w1 (w.heap.size + 1) (.mapIter (some M) clock (seen.push b) clock) := ⟨_, rfl⟩
      rw [← hWn] at HN ⊢
      clear hWn hw1 HW1
      have hen := run_entryS (q := (x, b)) HN.out.1 HN.out.2.1 hq.out
      have HFr := Lib.hid (HF.out.fresh hq.out hs.out)
      have HA := Lib.hid (fill_alloc HN.out x.ar)
      have HPu := Lib.hid (fun (W' : World) (h : HpAt W' w.heap.size w.heap.size es a c) (hb : w.heap.size ≤ W'.heap.size) => hpPush_any w.heap.size w.heap.size es c a x W' h (by have := HF.out.len; have := HF.out.small; omega) hb HF.out.heap HFr.out)
      have hXA := Blk.new Wn 77 x.ar
      unfold PushPost at HPu
      unfold Hd.val at HPu hen ⊢
      unfold Hd.ar at HA hXA
      dsimp only at hen
      go_upto_region 5 with fail
      generalize Wn.alloc (.cells #[.int .i64 x.p, .bool x.s, .int .i64 x.r.kind, .int .i64 x.r.vni, .int .i64 x.r.mac, .int .i64 x.r.ip, .int .i64 x.r.org, .int .i64 x.r.seq, .bool x.r.st] 77) = W6 at *
      have hc := hXA.cell
      go_wp2_with fail
      refine (HPu.out W6 HA.out.2.2.2 HA.out.2.2.1.size).mono ?_
      rintro e w7 ⟨⟨v7, rfl⟩, es', a', c', H7, h1, h2, h3, h4, K7⟩
      have HF7 := Lib.hid (HF.out.step hMlt hq.out hs.out HA.out.1 HA.out.2.2.1 HA.out.2.1 HA.out.2.2.2 H7 h1 h2 h3 h4 K7)
      clear H7 h1 h2 h3 h4 K7
      go_wp2_with fail
      go_roundw
      case rel => exact ⟨es', a', c', seen.push b, HF7⟩
      case measure =>
        unfold leftS
        rw [HF7.out.it, HF.out.it]
        exact left_push hq.out hs.out
end Go.Proofs.Ytmkoppbbenombaa
