/- inOrder: a map's entries brought into a table's order by a heap. -/
import Derived.Test.YtmkoppbbenombaaMpR
import Derived.Maps.RangeWalk
namespace Go.Proofs.Ytmkoppbbenombaa
open Go.RowKit Go.ChangeMaps

theorem hp_rowBlock {W : World} {B hb c : Nat} {es : List Hd} {a : Option Addr} (h : HpAt W B hb es a c) : ∀ k, (Value.slice a es.length c).ownBlock = some k → B ≤ k ∧ k < W.heap.size ∧ k ≠ hb ∧ ∃ cs, W.heap[k]? = some (.cells cs 77 (0, 0)) := by
  intro k hk
  rcases h.row.2 with ⟨e, _⟩ | ⟨g, cap, cu, e, h1, h2, _⟩
  · rw [e] at hk; cases hk
  · rw [e] at hk
    simp [Value.ownBlock] at hk
    subst hk
    refine ⟨h1, (h.row.lt g (by rw [e]; rfl)).2, fun e2 => ?_, cu, h2⟩
    subst e2
    have := h.box
    unfold Blk at this
    rw [this] at h2
    simp at h2
/- the heap's two blocks are as they were -/
theorem hp_same {W W' : World} {B hb c : Nat} {es : List Hd} {a : Option Addr} (h : HpAt W B hb es a c) (h1 : W'.heap[hb]? = W.heap[hb]?) (h2 : ∀ k, (Value.slice a es.length c).ownBlock = some k → W'.heap[k]? = W.heap[k]?) : HpAt W' B hb es a c := by
  refine ⟨?_, h.row.1, ?_⟩
  · have := h.box; unfold Blk at this ⊢; rw [h1]; exact this
  · rcases h.row.2 with e | ⟨g, cap, cu, e, h3, h4, h5⟩
    · exact .inl e
    · exact .inr ⟨g, cap, cu, e, h3, by rw [h2 g (by rw [e]; rfl)]; exact h4, h5⟩
theorem row_same {W W' : World} {B n : Nat} {t : TypeId} {v : Value} {xs : List Value} (h : W.ownsRow B t 9 v n xs) (h2 : ∀ k, v.ownBlock = some k → W'.heap[k]? = W.heap[k]?) : W'.ownsRow B t 9 v n xs := by
  refine ⟨h.1, ?_⟩
  rcases h.2 with e | ⟨g, cap, cu, e, h3, h4, h5⟩
  · exact .inl e
  · exact .inr ⟨g, cap, cu, e, h3, by rw [h2 g (by rw [e]; rfl)]; exact h4, h5⟩
theorem Hp2.below {B hb : Nat} {w wr w' : World} {v v' : Value} (h : Hp2 wr w' hb v v') (hb0 : Below B w wr) (hB : B ≤ hb) (hv : ∀ k, v.ownBlock = some k → B ≤ k) (hs : B ≤ wr.heap.size) : Below B w w' :=
  ⟨h.os.trans hb0.os, h.tape.trans hb0.tape, h.output.trans hb0.output, Nat.le_trans hb0.size h.size, fun k hk => (h.block k (by omega) (by omega) (fun e => by have := hv k e.symm; omega)).trans (hb0.block k hk)⟩
theorem setBlock_far {W : World} {r k : Nat} {o : Obj} (h : k ≠ r) : (setBlock W r o).heap[k]? = W.heap[k]? := by
  simp only [setBlock, Array.getElem?_setIfInBounds]
  rw [if_neg (fun e => h e.symm)]
theorem setBlock_at {W : World} {r : Nat} {o : Obj} (h : r < W.heap.size) : (setBlock W r o).heap[r]? = some o := by simp [setBlock, h]
/- the sorted list of what is popped -/
structure Popped (l out es : List Hd) : Prop where
  sorted : out.Pairwise LtH
  low : ∀ a ∈ out, ∀ b ∈ es, LtH a b
  mem : ∀ y, y ∈ l ↔ y ∈ out ∨ y ∈ es
theorem Popped.step {l out es es' : List Hd} {x : Hd} (h : Popped l out es) (h0 : 0 < es.length) (hx : x = gH es 0) (hroot : ∀ k, k < es.length → ¬ LtH (gH es k) (gH es 0)) (hmem : ∀ y, y ∈ es' ↔ y ∈ es ∧ ¬ same y (gH es 0)) (hd : Dist es) : Popped l (out ++ [x]) es' := by
  subst hx
  have hin : gH es 0 ∈ es := mem_gH.2 ⟨0, h0, rfl⟩
  refine ⟨?_, fun a ha b hb => ?_, fun y => ?_⟩
  · rw [List.pairwise_append]
    refine ⟨h.sorted, by simp, fun a ha b hb => ?_⟩
    simp at hb
    subst hb
    exact h.low a ha _ hin
  · obtain ⟨hb1, hb2⟩ := (hmem b).1 hb
    rcases List.mem_append.1 ha with ha | ha
    · exact h.low a ha b hb1
    · simp at ha
      subst ha
      obtain ⟨k, hk, rfl⟩ := mem_gH.1 hb1
      exact lt_total (hroot k hk) hb2
  · rw [h.mem y, List.mem_append, hmem y]
    constructor
    · rintro (h1 | h1)
      · exact .inl (.inl h1)
      · by_cases e : same y (gH es 0)
        · obtain ⟨k, hk, rfl⟩ := mem_gH.1 h1
          by_cases e2 : k = 0
          · subst e2; exact .inl (.inr (by simp))
          · exact absurd e (hd k 0 hk h0 e2)
        · exact .inr ⟨h1, e⟩
    · rintro ((h1 | h1) | ⟨h1, _⟩)
      · exact .inl h1
      · simp at h1; subst h1; exact .inr hin
      · exact .inr h1
/- two sorted lists with the same members are one -/
theorem sorted_eq : ∀ {a b : List Hd}, a.Pairwise LtH → b.Pairwise LtH → (∀ y, y ∈ a ↔ y ∈ b) → a = b := by
  intro a
  induction a with
  | nil =>
    intro b _ _ h
    cases b with
    | nil => rfl
    | cons y b => have := (h y).2 (by simp); cases this
  | cons x a ih =>
    intro b ha hb h
    cases b with
    | nil => have := (h x).1 (by simp); cases this
    | cons y b =>
      rw [List.pairwise_cons] at ha hb
      have exy : x = y := by
        rcases List.mem_cons.1 ((h x).1 (by simp)) with e | e
        · exact e
        · rcases List.mem_cons.1 ((h y).2 (by simp)) with e2 | e2
          · exact e2.symm
          · exact absurd (ha.1 y e2) (lt_asymm (hb.1 x e))
      subst exy
      rw [ih ha.2 hb.2 (fun z => ?_)]
      constructor
      · intro hz
        rcases List.mem_cons.1 ((h z).1 (by simp [hz])) with e | e
        · subst e; exact absurd (ha.1 z hz) (lt_irrefl z)
        · exact e
      · intro hz
        rcases List.mem_cons.1 ((h z).2 (by simp [hz])) with e | e
        · subst e; exact absurd (hb.1 z hz) (lt_irrefl z)
        · exact e
theorem Popped.done {l out : List Hd} (h : Popped l out []) (hl : l.Pairwise LtH) : out = l := sorted_eq h.sorted hl (fun y => by rw [h.mem y]; simp)
/- what the first loop keeps -/
structure Fill1 (w wr : World) (M clock : Nat) (E : List (Hd × Nat)) (es : List Hd) (a : Option Addr) (c : Nat) (seen : Array Nat) : Prop where
  hp : HpAt wr w.heap.size w.heap.size es a c
  heap : HeapOk es es.length
  dist : Dist es
  vis : ∀ y, y ∈ es ↔ ∃ b, (y, b) ∈ E ∧ seen.contains b = true
  it : wr.heap[w.heap.size + 1]? = some (.mapIter (some M) clock seen clock)
  map : MapS wr M E clock
  bel : Below w.heap.size w wr
  len : es.length ≤ seen.size
  small : seen.size + (E.filter fun q => !seen.contains q.2).length ≤ E.length
def leftS (E : List (Hd × Nat)) (W : World) (r : Nat) : Nat := match W.heap[r]? with
  | some (.mapIter _ _ seen _) => (E.filter fun q => !seen.contains q.2).length
  | _ => 0
theorem filter_le {α : Type} {p p' : α → Bool} (h : ∀ z, p' z = true → p z = true) (l : List α) : (l.filter p').length ≤ (l.filter p).length := by
  induction l with
  | nil => simp
  | cons z l ih =>
    rw [List.filter_cons, List.filter_cons]
    cases h1 : p' z
    · cases h2 : p z
      · simpa using ih
      · simp; omega
    · rw [h z h1]; simpa using ih
theorem filter_lt {α : Type} {p p' : α → Bool} (h : ∀ z, p' z = true → p z = true) {l : List α} {q : α} (hq : q ∈ l) (h1 : p q = true) (h2 : p' q = false) : (l.filter p').length < (l.filter p).length := by
  induction l with
  | nil => cases hq
  | cons z l ih =>
    rcases List.mem_cons.1 hq with rfl | hq
    · rw [List.filter_cons, List.filter_cons, h1, h2]
      have := filter_le h l
      simp; omega
    · have := ih hq
      rw [List.filter_cons, List.filter_cons]
      cases h3 : p' z
      · cases h4 : p z
        · simpa using this
        · simp; omega
      · rw [h z h3]; simpa using this
theorem left_push {E : List (Hd × Nat)} {seen : Array Nat} {q : Hd × Nat} (hq : q ∈ E) (hs : seen.contains q.2 = false) : (E.filter fun z => !(seen.push q.2).contains z.2).length < (E.filter fun z => !seen.contains z.2).length := by
  refine filter_lt (fun z hz => ?_) hq (by rw [hs]; rfl) (by simp)
  rw [Array.contains_push] at hz
  simp only [Bool.not_or, Bool.and_eq_true] at hz
  first | exact hz.1 | exact hz.2
/- an entry has come: what then holds -/
theorem Fill1.step {w wr wn w' : World} {M clock : Nat} {E : List (Hd × Nat)} {es es' : List Hd} {a a' : Option Addr} {c c' : Nat} {seen : Array Nat} {q : Hd × Nat} (h : Fill1 w wr M clock E es a c seen) (hM : M < w.heap.size) (hq : q ∈ E) (hs : seen.contains q.2 = false)
    (hit : wn.heap[w.heap.size + 1]? = some (.mapIter (some M) clock (seen.push q.2) clock)) (hbn : Below w.heap.size w wn) (hmap : MapS wn M E clock) (hpn : HpAt wn w.heap.size w.heap.size es a c)
    (H : HpAt w' w.heap.size w.heap.size es' a' c') (hl : es'.length = es.length + 1) (hO : HeapOk es' es'.length) (hm : ∀ y, y ∈ es' ↔ y ∈ es ∨ y = q.1) (hD : Dist es') (K : Hp2 wn w' w.heap.size (.slice a es.length c) (.slice a' es'.length c')) :
    Fill1 w w' M clock E es' a' c' (seen.push q.2) := by
  have hrow := hp_rowBlock hpn
  have hitlt : w.heap.size + 1 < wn.heap.size := by
    rcases Nat.lt_or_ge (w.heap.size + 1) wn.heap.size with h | h
    · exact h
    · rw [Array.getElem?_eq_none h] at hit; cases hit
  refine ⟨H, hO, hD, fun y => ?_, ?_, ?_, ?_, ?_, ?_⟩
  · rw [hm y, h.vis y]
    constructor
    · rintro (⟨b, hb1, hb2⟩ | rfl)
      · exact ⟨b, hb1, by rw [Array.contains_push]; simp only [hb2, Bool.true_or]⟩
      · exact ⟨q.2, hq, by simp⟩
    · rintro ⟨b, hb1, hb2⟩
      by_cases e : b = q.2
      · right
        have := born_mem hmap.nodup hb1 hq e
        rw [← this]
      · left
        refine ⟨b, hb1, ?_⟩
        rw [Array.contains_push] at hb2
        have e2 : (b == q.2) = false := by simpa using e
        have e3 : (q.2 == b) = false := by simpa using fun k => e k.symm
        simpa [e2, e3] using hb2
  · rw [K.block _ hitlt (by omega) (fun e => by obtain ⟨_, _, _, cs, hcs⟩ := hrow _ e.symm; rw [hcs] at hit; cases hit)]; exact hit
  · exact hmap.kept (K.block M hmap.lt (by omega) (fun e => by have := (hrow _ e.symm).1; omega))
  · exact K.below hbn (Nat.le_refl _) (fun k hk => (hrow k hk).1) hbn.size
  · have := h.len; rw [hl, Array.size_push]; omega
  · have h1 := h.small
    have h2 := left_push hq hs
    rw [Array.size_push]; omega
theorem Fill1.fresh {w wr : World} {M clock : Nat} {E : List (Hd × Nat)} {es : List Hd} {a : Option Addr} {c : Nat} {seen : Array Nat} {q : Hd × Nat} (h : Fill1 w wr M clock E es a c seen) (hq : q ∈ E) (hs : seen.contains q.2 = false) : Dist (es ++ [q.1]) := by
  refine dist_snoc h.dist (fun y hy => ?_)
  obtain ⟨b, hb1, hb2⟩ := (h.vis y).1 hy
  exact pw_mem h.map.dist hb1 hq (fun e => by simp only at e; rw [e, hs] at hb2; cases hb2)
end Go.Proofs.Ytmkoppbbenombaa
