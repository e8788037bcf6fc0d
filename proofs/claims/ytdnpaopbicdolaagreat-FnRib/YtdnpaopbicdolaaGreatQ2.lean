import Derived.Test.YtdnpaopbicdolaaGreatFhC
import Derived.Test.YtdnpaopbicdolaaGreatApR
import Derived.Test.YtdnpaopbicdolaaGreatMg
import Derived.Test.YtdnpaopbicdolaaGreatGu
import Derived.Deep.RegionHeld3
import Derived.Test.YtdnpaopbicdolaaGreatRbO
import Derived.Test.YtdnpaopbicdolaaGreatApB
import Derived.Lib.SlicesCompact
import Derived.Shelf.SlGeneric
import Derived.Shelf.SlLaysM
import Derived.Shelf.SlLaysE
import Derived.Shelf.SlicesE.Compact
import Derived.Shelf.SortM.Plain
import Derived.Shelf.SortM.SortNone
import Derived.Sort.OwnSortedInts
import Derived.Ground.SlgmProg
import Derived.Ground.SlgnProg
import Derived.Test.YtdnpaopbicdolaaGreatRbI
/- firstHeap of Int: its order, Len, Less, Swap. -/
namespace Go.Proofs.YtdnpaopbicdolaaGreat
open Go.RowKit

def clI (x : Int) : List Value := [.int .i64 x]
theorem clI_len (x : Int) : (clI x).length = 1 := rfl
theorem clI_one (x : Int) : ∀ u ∈ clI x, u.oneCell' = true := by
  intro u hu
  simp only [clI, List.mem_cons, List.not_mem_nil, or_false] at hu
  subst hu; rfl
theorem infoI : (Tryz.prog.info? 2).map (fun i => (i.zero, i.size, i.bytes)) = some (some (.int .i64 0), 1, 8) := by kernel_rfl
theorem tyI : RowTy Tryz.prog 39 2 1 8 := by
  refine ⟨Tryz.underlying39, ?_, by decide, by decide⟩
  obtain ⟨i0, hi0, hz0, hz1, hz2⟩ := info_parts infoI
  exact ⟨i0, _, hi0, hz0, hz1, hz2, rfl⟩
def ordI : Hord Int := ⟨0, fun a b => a < b, fun a => by omega, fun h h' => by omega, fun h h' => by omega⟩
def lessI (a b : Int) : Bool := decide (a < b)
theorem lessI_iff (a b : Int) : lessI a b = true ↔ ordI.lt a b := by unfold lessI ordI; simp
theorem lessI_no (a b : Int) : lessI a b = false ↔ ¬ ordI.lt a b := by rw [← lessI_iff]; simp
theorem Elems.eI {W : World} {b off : Nat} {l : List Int} (h : Elems W b off 1 (l.map clI)) (i : Nat) (hi : i < l.length) : W.cell? ⟨b, off + i, none⟩ = some (.int .i64 l[i]) := by
  have k := h i (clI l[i]) (by rw [List.getElem?_map, List.getElem?_eq_getElem hi]; rfl) 0 _ rfl
  rw [Nat.mul_one] at k
  exact k
/- two elements exchanged in the row -/
theorem rcellsGI_swap {es : List Int} {i j : Nat} {zs : List Value} (hi : i < es.length) (hj : j < es.length) (hl : zs.length = es.length * 1) (h : ∀ k, k < es.length → ∀ o, o < 1 → zs[k * 1 + o]? = (clI (if k = j then hG ordI es i else if k = i then hG ordI es j else hG ordI es k))[o]?) : zs = rcells clI (swapG ordI es i j) := by
  apply List.ext_getElem?
  intro o
  by_cases ho : o < es.length * 1
  · have e : o = o / 1 * 1 + o % 1 := by omega
    have hs : o / 1 < (swapG ordI es i j).length := by rw [swapG_len]; omega
    have hr := rcells_at clI_len (swapG ordI es i j) (o / 1) hs (o % 1) (by omega)
    rw [← hG_eq (O := ordI) hs, hG_swap hi hj] at hr
    rw [← e] at hr
    have hz := h (o / 1) (by omega) (o % 1) (by omega)
    rw [← e] at hz
    rw [hz, hr]
  · rw [List.getElem?_eq_none (by omega), List.getElem?_eq_none (by rw [rcells_len clI_len, swapG_len]; omega)]
/- a row's cells, told by element and place -/
def RowFI (W : World) (B g cap n : Nat) (F : Nat → Nat → Option Value) : Prop := ∃ zs, W.ownsRow B 2 1 (.slice (some ⟨g, 0, none⟩) n cap) n zs ∧ ∀ k, k < n → ∀ o, o < 1 → zs[k * 1 + o]? = F k o
section
variable {W : World} {B g cap n : Nat} {F : Nat → Nat → Option Value}
theorem RowFI.set (h : RowFI W B g cap n F) {i o0 : Nat} (hi : i < n) (ho : o0 < 1) (u : Value) : RowFI (W.setCell ⟨g, i * 1 + o0, none⟩ u) B g cap n (fun k o => if k = i ∧ o = o0 then some u else F k o) := by
  obtain ⟨zs, h1, h2⟩ := h
  refine ⟨_, (h1.stored _ u).1, fun k hk o ho' => ?_⟩
  dsimp only
  by_cases e : k = i ∧ o = o0
  · obtain ⟨rfl, rfl⟩ := e
    rw [List.getElem?_set_self (by rw [h1.1]; omega), if_pos ⟨rfl, rfl⟩]
  · rw [if_neg e, List.getElem?_set_ne (by omega)]
    exact h2 k hk o ho'
theorem RowFI.as {F' : Nat → Nat → Option Value} (h : RowFI W B g cap n F) (he : ∀ k, k < n → ∀ o, o < 1 → F k o = F' k o) : RowFI W B g cap n F' := by
  obtain ⟨zs, h1, h2⟩ := h
  exact ⟨zs, h1, fun k hk o ho => (h2 k hk o ho).trans (he k hk o ho)⟩
theorem RowFI.cell (h : RowFI W B g cap n F) {i : Nat} (hi : i < n) (o : Nat) (ho : o < 1) : ∃ z, W.cell? ⟨g, i * 1 + o, none⟩ = some z := by
  obtain ⟨zs, h1, _⟩ := h
  exact ⟨zs[i * 1 + o]'(by rw [h1.1]; omega), by rw [h1.cellAt _ (by omega), List.getElem?_eq_getElem (by rw [h1.1]; omega)]⟩
theorem RowFI.frozen (h : RowFI W B g cap n F) (o : Nat) : W.frozen? ⟨g, o, none⟩ = false := by
  obtain ⟨zs, h1, _⟩ := h
  exact h1.frozenAt o
theorem RowFI.put (h : RowFI W B g cap n F) {i : Nat} (hi : i < n) (x : Int) :
    RowFI (W.setCell ⟨g, i, none⟩ (.int .i64 x)) B g cap n (fun k o => if k = i then (clI x)[o]? else F k o) := by
  refine RowFI.as (by have := h.set (o0 := 0) hi (by omega) (.int .i64 x); rw [Nat.mul_one, Nat.add_zero] at this; exact this) (fun k hk o ho => ?_)
  by_cases e : k = i
  · subst e
    have hc : o = 0 := by omega
    rcases hc with rfl <;> simp [clI]
  · simp [e]
end
theorem fhGrownI {W : World} {g : Nat} (i : Nat) (x : Int) : W.grownBy (W.setCell ⟨g, i, none⟩ (.int .i64 x)) (some g) := (grownSet (World.grownBy.refl _ _))
theorem fhFarI {W : World} {g hb : Nat} {t : TypeId} {cs : Array Value} (hne : hb ≠ g) (h : Blk W hb t cs) (i : Nat) (x : Int) : Blk (W.setCell ⟨g, i, none⟩ (.int .i64 x)) hb t cs := (h.far hne)
end Go.Proofs.YtdnpaopbicdolaaGreat

/- Slices of int64: found equal, marked, held. -/
namespace Go.Proofs.YtdnpaopbicdolaaGreat
open Go.RowKit Go.WideShapes Go.ChangeShapes

def Iv.marks (k n : Nat) : List Int := (List.range n).map fun i : Nat => (k : Int) + (i : Int)
theorem elemsI {W W' : World} {b off B : Nat} {vs : List (List Value)} (h : Elems W b off 1 vs) (hb : Below B W W') (hl : b < B) : Elems W' b off 1 vs :=
  fun i cs hi j u hj => (hb.cell (p := ⟨b, off + i * 1 + j, none⟩) hl).trans (h i cs hi j u hj)
theorem Iv.marks_len (k n : Nat) : (Iv.marks k n).length = n := by simp [Iv.marks]
theorem Iv.marks_at (k n i : Nat) (h : i < (Iv.marks k n).length) : (Iv.marks k n)[i] = (k : Int) + (i : Int) := by simp [Iv.marks]
end Go.Proofs.YtdnpaopbicdolaaGreat

/- RoomsOf: its mathematics. -/
namespace Go.Proofs.YtdnpaopbicdolaaGreat
open Go.RowKit

def isRm (x : Hd) (v : Int) : Bool := decide (x.r.kind = 3) && decide (x.r.vni = v)
def hasRoom (l : List Hd) (v h : Int) : Bool := l.any fun x => isRm x v && decide (x.r.org = h)
def roomsP (l : List Hd) (v b : Int) (i : Nat) : List Int := (([1, 2, 3, 4] : List Int).take i).filter fun h => hasRoom l v h && !decide (h = b)
def outL (l : List Hd) (v b : Int) : List Int := (l.filter fun x => isRm x v && !decide (x.r.org = b)).map fun x => x.r.org
def roomsOf (l : List Hd) (v b : Int) : List Int := if ribOk l = true ∧ isVni v = true then roomsP l v b 4 else []
theorem roomsOf_ok {l : List Hd} {v b : Int} (h : ribOk l = true) (h2 : isVni v = true) : roomsOf l v b = roomsP l v b 4 := by rw [roomsOf, if_pos ⟨h, h2⟩]
theorem roomsOf_rib {l : List Hd} {v b : Int} (h : ribOk l = false) : roomsOf l v b = [] := by rw [roomsOf, if_neg (by simp [h])]
theorem roomsOf_vni {l : List Hd} {v b : Int} (h : isVni v = false) : roomsOf l v b = [] := by rw [roomsOf, if_neg (by simp [h])]
theorem roomsP_len (l : List Hd) (v b : Int) (i : Nat) : (roomsP l v b i).length ≤ 4 := by
  unfold roomsP
  refine Nat.le_trans (List.length_filter_le _ _) ?_
  rw [List.length_take]
  exact Nat.min_le_right _ _
theorem roomsOf_len (l : List Hd) (v b : Int) : (roomsOf l v b).length ≤ 4 := by
  unfold roomsOf
  split
  · exact roomsP_len l v b 4
  · simp
theorem four_succ {i : Nat} (h : i < 4) : ([1, 2, 3, 4] : List Int).take (i + 1) = ([1, 2, 3, 4] : List Int).take i ++ [(i : Int) + 1] := by
  match i, h with
  | 0, _ => rfl
  | 1, _ => rfl
  | 2, _ => rfl
  | 3, _ => rfl
theorem roomsP_hit {l : List Hd} {v b : Int} {i : Nat} (hi : i < 4) (h1 : hasRoom l v ((i : Int) + 1) = true) (h2 : ¬ (i : Int) + 1 = b) : roomsP l v b (i + 1) = roomsP l v b i ++ [(i : Int) + 1] := by
  unfold roomsP
  rw [four_succ hi, List.filter_append]
  simp [h1, h2]
theorem roomsP_no {l : List Hd} {v b : Int} {i : Nat} (hi : i < 4) (h1 : hasRoom l v ((i : Int) + 1) = false) : roomsP l v b (i + 1) = roomsP l v b i := by
  unfold roomsP
  rw [four_succ hi, List.filter_append]
  simp [h1]
theorem roomsP_but {l : List Hd} {v b : Int} {i : Nat} (hi : i < 4) (h1 : (i : Int) + 1 = b) : roomsP l v b (i + 1) = roomsP l v b i := by
  unfold roomsP
  rw [four_succ hi, List.filter_append]
  simp [h1]
theorem hasRoom_succ (l : List Hd) (v h : Int) (i : Nat) (hi : i < l.length) : hasRoom (l.take (i + 1)) v h = (hasRoom (l.take i) v h || (decide (l[i].r.kind = 3) && decide (l[i].r.vni = v) && decide (l[i].r.org = h))) := by
  unfold hasRoom
  rw [List.take_succ_eq_append_getElem hi, List.any_append]
  simp [isRm]
theorem outL_succ (l : List Hd) (v b : Int) (i : Nat) (hi : i < l.length) : outL (l.take (i + 1)) v b = outL (l.take i) v b ++ (if (decide (l[i].r.kind = 3) && decide (l[i].r.vni = v) && !decide (l[i].r.org = b)) = true then [l[i].r.org] else []) := by
  unfold outL
  rw [List.take_succ_eq_append_getElem hi, List.filter_append, List.map_append]
  congr 1
  rw [List.filter_cons]
  unfold isRm
  split <;> simp
theorem outL_len (l : List Hd) (v b : Int) (i : Nat) : (outL (l.take i) v b).length ≤ l.length := by
  unfold outL
  rw [List.length_map]
  refine Nat.le_trans (List.length_filter_le _ _) ?_
  rw [List.length_take]
  exact Nat.min_le_right _ _
/- what Compact leaves of a sorted row -/
theorem compact_inv (d : Array Int) (hs : ∀ i j, i < j → j < d.size → d[i]! ≤ d[j]!) : ∀ m, m ≤ d.size → (Lib.compactUpTo d m).Pairwise (· < ·) ∧ ∀ x, x ∈ Lib.compactUpTo d m ↔ ∃ j, j < m ∧ d[j]! = x := by
  intro m
  induction m with
  | zero => intro _; exact ⟨by simp [Lib.compactUpTo], fun x => by simp [Lib.compactUpTo]⟩
  | succ m ih =>
    intro hm
    obtain ⟨ip, im⟩ := ih (by omega)
    rw [Lib.compactUpTo_succ]
    have hle : ∀ j, j < m → d[j]! ≤ d[m - 1]! := fun j hj => by
      by_cases e : j = m - 1
      · rw [e]; exact Int.le_refl _
      · exact hs j (m - 1) (by omega) (by omega)
    cases hk : Lib.keeps d m
    · simp only [Bool.false_eq_true, if_false, List.append_nil]
      refine ⟨ip, fun x => ?_⟩
      have h0 : m ≠ 0 ∧ d[m]! = d[m - 1]! := by
        unfold Lib.keeps at hk
        have := of_decide_eq_false hk
        exact ⟨fun e => this (.inl e), Decidable.byContradiction fun e => this (.inr e)⟩
      rw [im x]
      constructor
      · rintro ⟨j, hj, e⟩; exact ⟨j, by omega, e⟩
      · rintro ⟨j, hj, e⟩
        by_cases hjm : j = m
        · subst hjm; exact ⟨j - 1, by omega, by rw [← h0.2]; exact e⟩
        · exact ⟨j, by omega, e⟩
    · simp only [if_true]
      refine ⟨List.pairwise_append.2 ⟨ip, by simp, fun a ha b hb => ?_⟩, fun x => ?_⟩
      · obtain ⟨j, hj, rfl⟩ := (im a).1 ha
        have hbm : b = d[m]! := by simpa using hb
        subst hbm
        have hne : d[m]! ≠ d[m - 1]! := by
          unfold Lib.keeps at hk
          rcases of_decide_eq_true hk with e | e
          · omega
          · exact e
        have h1 := hle j hj
        have h2 := hs (m - 1) m (by omega) (by omega)
        omega
      · rw [List.mem_append, im x]
        constructor
        · rintro (⟨j, hj, e⟩ | h)
          · exact ⟨j, by omega, e⟩
          · exact ⟨m, by omega, (List.mem_singleton.1 h).symm⟩
        · rintro ⟨j, hj, e⟩
          by_cases hjm : j = m
          · subst hjm; right; simp [e]
          · exact .inl ⟨j, by omega, e⟩
theorem sortedI_eq : ∀ {a b : List Int}, a.Pairwise (· < ·) → b.Pairwise (· < ·) → (∀ y, y ∈ a ↔ y ∈ b) → a = b := by
  intro a
  induction a with
  | nil =>
    intro b _ _ h
    cases b with
    | nil => rfl
    | cons y b => have := (h y).2 (by simp); cases this
  | cons x a ih =>
    intro b ha hb h
    cases b with
    | nil => have := (h x).1 (by simp); cases this
    | cons y b =>
      rw [List.pairwise_cons] at ha hb
      have exy : x = y := by
        rcases List.mem_cons.1 ((h x).1 (by simp)) with e | e
        · exact e
        · rcases List.mem_cons.1 ((h y).2 (by simp)) with e2 | e2
          · exact e2.symm
          · have h1 := ha.1 y e2
            have h2 := hb.1 x e
            omega
      subst exy
      rw [ih ha.2 hb.2 (fun z => ?_)]
      constructor
      · intro hz
        rcases List.mem_cons.1 ((h z).1 (by simp [hz])) with e | e
        · subst e; exact absurd (ha.1 z hz) (by omega)
        · exact e
      · intro hz
        rcases List.mem_cons.1 ((h z).2 (by simp [hz])) with e | e
        · subst e; exact absurd (hb.1 z hz) (by omega)
        · exact e
def sortL (l : List Int) : List Int := l.mergeSort fun x y => decide (x ≤ y)
theorem sortL_len (l : List Int) : (sortL l).length = l.length := List.length_mergeSort l
theorem sortL_mem (l : List Int) (x : Int) : x ∈ sortL l ↔ x ∈ l := (List.mergeSort_perm l _).mem_iff
theorem sortL_pw (l : List Int) : (sortL l).Pairwise (· ≤ ·) := by
  have := List.pairwise_mergeSort (le := fun x y : Int => decide (x ≤ y)) (fun a b c h1 h2 => by simp at *; omega) (fun a b => by simp; omega) l
  exact this.imp (fun h => by simpa using h)
theorem compact_sort (l : List Int) : (Lib.compact (sortL l)).Pairwise (· < ·) ∧ ∀ x, x ∈ Lib.compact (sortL l) ↔ x ∈ l := by
  have hp := List.pairwise_iff_getElem.1 (sortL_pw l)
  have hg : ∀ j, j < (sortL l).length → (sortL l).toArray[j]! = (sortL l)[j]! := fun j hj => by simp
  have h := compact_inv (sortL l).toArray (fun i j hij hj => by
    have hj' : j < (sortL l).length := by simpa using hj
    rw [getElem!_pos _ i (by simpa using (show i < (sortL l).length by omega)), getElem!_pos _ j hj]
    exact hp i j (by omega) hj' hij) (sortL l).length (by simp)
  unfold Lib.compact
  refine ⟨h.1, fun x => ?_⟩
  rw [h.2 x, ← sortL_mem l x]
  constructor
  · rintro ⟨j, hj, rfl⟩
    rw [getElem!_pos _ j (by simpa using hj)]
    exact List.getElem_mem hj
  · intro hx
    obtain ⟨j, hj, e⟩ := List.getElem_of_mem hx
    refine ⟨j, hj, ?_⟩
    rw [getElem!_pos _ j (by simpa using hj)]
    exact e
theorem rib_org {l : List Hd} (h : ribOk l = true) {x : Hd} (hx : x ∈ l) : 1 ≤ x.r.org ∧ x.r.org ≤ 4 := by
  obtain ⟨i, hi, rfl⟩ := List.getElem_of_mem hx
  have hok : okAt l i = true := by
    unfold ribOk at h
    rw [Bool.and_eq_true] at h
    exact List.all_eq_true.1 h.2 i (List.mem_range.2 hi)
  have hhd : hdOk l[i] = true := by
    cases e : hdOk l[i]
    · rw [okAt_hd hi e] at hok; cases hok
    · rfl
  have hr : (l[i]).r.right = true := by
    unfold hdOk at hhd
    rw [Bool.and_eq_true] at hhd
    exact hhd.2
  have hh : isHouse (l[i]).r.org = true := by
    unfold Rt.right rtRight at hr
    simp only [Bool.and_eq_true] at hr
    exact hr.1.2
  exact inR_t hh
theorem rooms_eq {l : List Hd} (h : ribOk l = true) (v b : Int) : Lib.compact (sortL (outL l v b)) = roomsP l v b 4 := by
  have hc := compact_sort (outL l v b)
  refine sortedI_eq hc.1 ?_ (fun y => ?_)
  · unfold roomsP
    refine List.Pairwise.filter _ ?_
    decide
  · rw [hc.2 y]
    unfold outL roomsP hasRoom
    simp only [List.mem_map, List.mem_filter, Bool.and_eq_true, List.any_eq_true, decide_eq_true_eq, Bool.not_eq_true', decide_eq_false_iff_not]
    constructor
    · rintro ⟨x, ⟨hx, h1, h2⟩, rfl⟩
      have ho := rib_org h hx
      refine ⟨?_, ⟨x, hx, h1, rfl⟩, h2⟩
      have : x.r.org = 1 ∨ x.r.org = 2 ∨ x.r.org = 3 ∨ x.r.org = 4 := by omega
      simp only [List.take_succ_cons, List.take_zero, List.mem_cons, List.not_mem_nil, or_false]
      exact this
    · rintro ⟨_, ⟨x, hx, h1, rfl⟩, h2⟩
      exact ⟨x, ⟨hx, h1, h2⟩, rfl⟩
end Go.Proofs.YtdnpaopbicdolaaGreat

/- slices.Sort and slices.Compact of a row of int64 of the call's own. -/
namespace Go.Proofs
open Go.Shelf
shelf_lay_g SlLaysM.n5 Slgm 5 at Tryz 48 as YtdnpaopbicdolaaGreat.sortLay
shelf_lay_g SlLaysE.n43 Slgn 43 at Tryz 49 as YtdnpaopbicdolaaGreat.compactLay
end Go.Proofs
namespace Go.Proofs.YtdnpaopbicdolaaGreat
open Go.RowKit Go.Sort

theorem rcells_I (l : List Int) : rcells clI l = l.map (Value.int .i64) := by
  unfold rcells clI
  induction l with
  | nil => rfl
  | cons x l ih => rw [List.flatMap_cons, ih]; rfl
set_option maxRecDepth 100000 in
set_option maxHeartbeats 1000000 in
theorem sortI_any (B : Nat) (v : Value) (l : List Int) (w : World) (h : w.ownsRow B 2 1 v l.length (rcells clI l)) (hn : l.length ≤ 1000) :
    Calls Tryz.prog 48 #[v] w fun e w' => e = .returned (.tuple #[]) ∧ w'.ownsRow B 2 1 v (sortL l).length (rcells clI (sortL l)) ∧ w.grownBy w' v.ownBlock := by
  rw [rcells_I] at h
  rw [rcells_I, sortL_len]
  obtain ⟨hl, ⟨rfl, h0⟩ | ⟨g, cap, cur, rfl, hb, hh, hle, hm, hz, ht⟩⟩ := h
  · have e : l = [] := List.eq_nil_of_length_eq_zero h0
    subst e
    have hc := AnyM.slices_Sort_int_none sortLay none 0 w
    refine Calls.mono (show Calls Tryz.prog 48 #[.slice none 0 0] w _ from hc) ?_
    rintro e w' ⟨rfl, rfl⟩
    exact ⟨rfl, by simpa [sortL] using World.ownsRow_nil _ _ _ _, World.grownBy.refl _ _⟩
  · have hg : g < w.heap.size := (Array.getElem?_eq_some_iff.1 hh).1
    rw [Nat.mul_one] at ht
    have hc := AnyM.slices_Sort_int sortLay g 0 cap l w (holds_of_blockI hh ht) hg (by omega)
    refine Calls.mono (show Calls Tryz.prog 48 #[.slice (some ⟨g, 0, none⟩) l.length cap] w _ from hc) ?_
    rintro e w' ⟨rfl, n, os, rfl⟩
    refine ⟨rfl, ownsRow_sortedI (ss := l) (ts := sortL l) (sortL_len l) hb hh hle hm hz, ?_⟩
    exact grownBy_sortedI _
set_option maxRecDepth 100000 in
set_option maxHeartbeats 1000000 in
theorem compactI_any (B : Nat) (v : Value) (l : List Int) (w : World) (h : w.ownsRow B 2 1 v l.length (rcells clI l)) (hn : l.length ≤ 1000) :
    Calls Tryz.prog 49 #[v] w fun e w' => ∃ u, e = .returned u ∧ w'.ownsRow B 2 1 u (Lib.compact l).length (rcells clI (Lib.compact l)) ∧ w.grownBy w' v.ownBlock := by
  rw [rcells_I] at h
  rw [rcells_I]
  obtain ⟨hl, ⟨rfl, h0⟩ | ⟨g, cap, cur, rfl, hb, hh, hle, hm, hz, ht⟩⟩ := h
  · have e : l = [] := List.eq_nil_of_length_eq_zero h0
    subst e
    go_enter Tryz.func49, Tryz.ntmps49
    go_wp2_with fail
    go_ret
    exact ⟨_, rfl, by simpa [Lib.compact, Lib.compactUpTo] using World.ownsRow_nil _ _ _ _, World.grownBy.refl _ _⟩
  · have hg : g < w.heap.size := (Array.getElem?_eq_some_iff.1 hh).1
    rw [Nat.mul_one] at ht
    have hc := AnyE.slices_Compact compactLay (Value.int .i64) (fun _ => rfl) (EqlAt.intD _ _ .i64) (NeqAt.intD _ _ .i64) 0 Tryz.zeroValue2 g 0 cap l.toArray w (holds_of_blockI hh ht) (by simp; omega) (by simpa using hle)
    refine Calls.mono (show Calls Tryz.prog 49 #[.slice (some ⟨g, 0, none⟩) l.length cap] w _ from hc) ?_
    rintro e w' ⟨rfl, q, rfl⟩
    have hcl : (Lib.compactUpTo l.toArray l.toArray.size).length ≤ l.length := by
      unfold Lib.compactUpTo
      rw [List.length_map]
      refine Nat.le_trans (List.length_filter_le _ _) ?_
      simp
    have hsz : l.toArray.size = l.length := by simp
    rw [hsz] at hcl ⊢
    unfold Lib.compact
    generalize Lib.compactUpTo l.toArray l.length = C at *
    obtain ⟨F, hF⟩ : ∃ F, F = C ++ List.replicate (l.length - C.length) (0 : Int) := ⟨_, rfl⟩
    have hFl : F.length = l.length := by rw [hF]; simp; omega
    have hFt : F.take C.length = C := by rw [hF]; simp
    rw [← hF]
    refine ⟨_, rfl, ?_, ?_⟩
    · refine ⟨by simp, .inr ⟨g, cap, putCells (Value.int .i64) 0 F.toArray cur, rfl, hb, ?_, by omega, hm, ?_, ?_⟩⟩
      · have := heap_sortedI (n := q) (os := #[]) F.toArray hh
        rw [grow_empty] at this
        exact this
      · simp [putCells, hz]
      · have h2 := take_putCellsI cur F (by omega)
        have h3 := congrArg (List.take C.length) h2
        rw [List.take_take, Nat.min_eq_left (by omega), ← List.map_take, hFt] at h3
        rw [Nat.mul_one]
        exact h3
    · have := grownBy_sortedI (w := w) (g := g) (n := q) (os := #[]) F.toArray
      rw [grow_empty] at this
      exact this
end Go.Proofs.YtdnpaopbicdolaaGreat

/- RoomsOf of the model. -/
namespace Go.Proofs.YtdnpaopbicdolaaGreat
open Go.RowKit

set_option maxRecDepth 100000 in
set_option maxHeartbeats 4000000 in
theorem specRoomsIn_any (l : List Hd) (v : Value) (vni but : Int) (w : World) (h : HdsAt w v l) (hn : l.length ≤ 60) :
    Calls Tryz.prog 51 #[v, .int .i64 vni, .int .i64 but] w (RowPost clI 2 1 (roomsP l vni but 4) w) := by
  unfold RowPost
  obtain ⟨a, cap, rfl, h⟩ := h
  rw [List.length_map] at *
  have HH := Lib.hid h
  clear h
  have HZ : Hid (∀ h : Int, hasRoom l vni h = hasRoom (l.take l.length) vni h) := Lib.hid (fun h => by rw [List.take_length])
  have HSc := Lib.hid (fun (h : Int) i hi => hasRoom_succ l vni h i hi)
  have HR0 : Hid (∀ h : Int, hasRoom (l.take 0) vni h = false) := Lib.hid (fun h => rfl)
  have HHit := Lib.hid (fun (i : Nat) (hi : i < 4) (h1 : hasRoom l vni ((i : Int) + 1) = true) (h2 : ¬ (i : Int) + 1 = but) => roomsP_hit (l := l) (v := vni) (b := but) hi h1 h2)
  have HNo := Lib.hid (fun (i : Nat) (hi : i < 4) (h1 : hasRoom l vni ((i : Int) + 1) = false) => roomsP_no (b := but) hi h1)
  have HBut := Lib.hid (fun (i : Nat) (hi : i < 4) (h1 : (i : Int) + 1 = but) => roomsP_but (l := l) (v := vni) hi h1)
  have HLn := Lib.hid (fun i => roomsP_len l vni but i)
  have HP0 : Hid (roomsP l vni but 0 = []) := Lib.hid rfl
  generalize roomsP l vni but = RP at *
  obtain ⟨n, hnn⟩ : ∃ n, n = l.length := ⟨_, rfl⟩
  rw [← hnn] at hn HZ ⊢
  have HN := Lib.hid hnn
  clear hnn
  have HO0 : Hid ((w.alloc (.cells #[] 2)).ownsRow w.heap.size 2 1 (.slice (some ⟨w.heap.size, 0, none⟩) 0 0) (RP 0).length (rcells clI (RP 0))) := Lib.hid (by rw [HP0.out]; exact World.ownsRow_lit (base := w.heap.size) (e := 2) (size := 1) w #[] 0 (by simp) (Nat.zero_le _) rfl)
  go_enter Tryz.func51, Tryz.ntmps51
  go_wp2_with fail
  go_loopw [8, 7, 9, 10, 11] (fun u y _ _ _ wr => ∃ i : Nat, i ≤ 4 ∧ u = .int .i64 ((i : Int) + 1) ∧ Hid (wr.ownsRow w.heap.size 2 1 y (RP i).length (rcells clI (RP i))) ∧ Hid (Below w.heap.size w wr)) (fun u _ _ _ _ _ => 5 - (intOf u).toNat)
  case atStart => exact ⟨0, Nat.zero_le _, rfl, HO0, Lib.hid ((Below.refl _ _).alloc (Nat.le_refl _) _)⟩
  case round =>
    clear HO0
    obtain ⟨i, hi, rfl, HO, HB⟩ := hrel
    by_cases hlt : i < 4
    · have hl1 : (i : Int) + 1 ≤ 4 := by omega
      obtain ⟨q, hq⟩ : ∃ q : Int, q = (i : Int) + 1 := ⟨_, rfl⟩
      have HHi := Lib.hid (HHit.out i hlt)
      have HNi := Lib.hid (HNo.out i hlt)
      have HBi := Lib.hid (HBut.out i hlt)
      rw [← hq] at hl1 HHi HNi HBi ⊢
      have HQ := Lib.hid hq
      have hq0 : 1 ≤ q := by omega
      have hwq : IntKind.i64.wrap (q + 1) = q + 1 := by simp only [IntKind.wrap_i64]; omega
      clear hq
      obtain ⟨ya, yc, rfl⟩ := rown_form HO.out
      rename World => W0
      go_wp2_with fail
      go_loopw [10, 9, 11] (fun u x _ wr => ∃ j : Nat, j ≤ n ∧ u = .int .i64 (j : Int) ∧ x = .bool (hasRoom (l.take j) vni q) ∧ Hid (Below W0.heap.size W0 wr)) (fun u _ _ _ => n - (intOf u).toNat)
      case atStart => exact ⟨0, Nat.zero_le _, rfl, by rw [HR0.out], Lib.hid (Below.refl _ _)⟩
      case round =>
        obtain ⟨j, hj, rfl, rfl, HB2⟩ := hrel
        by_cases hjn : j < n
        · have hjr : j < l.length := by rw [← HN.out]; exact hjn
          have hne : l.map Hd.cl ≠ [] := fun e => by
            have := congrArg List.length e
            rw [List.length_map, ← HN.out] at this
            simp at this; omega
          obtain ⟨b, off, ha, hb, HE⟩ := HH.out hne
          subst ha
          have hl2 : (j : Int) < n := by omega
          have HB3 : Below w.heap.size w wr := HB.out.trans (HB2.out.mono HB.out.size)
          obtain ⟨_, _, p2, p3, p4, p5, p6, p7, p8⟩ := (elemsB HE HB3 hb).hd j hjr
          have HS := Lib.hid (HSc.out q j hjr)
          have HBn : Hid (Below W0.heap.size W0 (wr.alloc (.cells #[.int .i64 (l[j]).r.kind, .int .i64 (l[j]).r.vni, .int .i64 (l[j]).r.mac, .int .i64 (l[j]).r.ip, .int .i64 (l[j]).r.org, .int .i64 (l[j]).r.seq, .bool (l[j]).r.st] 25))) := Lib.hid (HB2.out.alloc HB2.out.size _)
          have S0 : Blk (wr.alloc (.cells #[.int .i64 (l[j]).r.kind, .int .i64 (l[j]).r.vni, .int .i64 (l[j]).r.mac, .int .i64 (l[j]).r.ip, .int .i64 (l[j]).r.org, .int .i64 (l[j]).r.seq, .bool (l[j]).r.st] 25)) wr.heap.size 25 #[.int .i64 (l[j]).r.kind, .int .i64 (l[j]).r.vni, .int .i64 (l[j]).r.mac, .int .i64 (l[j]).r.ip, .int .i64 (l[j]).r.org, .int .i64 (l[j]).r.seq, .bool (l[j]).r.st] := Blk.new _ _ _
          clear HE HB3
          generalize l[j] = x at *
          obtain ⟨R', hR'⟩ : ∃ R', R' = hasRoom (l.take (j + 1)) vni q := ⟨_, rfl⟩
          rw [← hR'] at HS
          have HRE := Lib.hid hR'
          clear hR'
          generalize hasRoom (l.take j) vni q = R at *
          obtain ⟨_, _, x0, x1, x2, x3, x4, x5, x6⟩ := x
          dsimp only at *
          go_upto_region 10 with fail
          generalize wr.alloc (.cells #[.int .i64 x0, .int .i64 x1, .int .i64 x2, .int .i64 x3, .int .i64 x4, .int .i64 x5, .bool x6] 25) = W6 at *
          clear p2 p3 p4 p5 p6 p7 p8
          have c0 := S0.cell
          cases R
          · by_cases h1 : x0 = 3
            · by_cases h2 : x1 = vni
              · have HS1 : Hid (R' = decide (x4 = q)) := Lib.hid (by have := HS.out; simpa [h1, h2] using this)
                subst h1 h2
                clear HS
                go_wp2_with fail
                go_roundw
                case rel => exact ⟨j + 1, by omega, by simp, by rw [← HRE.out, HS1.out]; rfl, HBn⟩
                case measure => simp [intOf]; omega
              · have HS1 : Hid (R' = false) := Lib.hid (by have := HS.out; simpa [h2] using this)
                subst h1
                clear HS
                go_wp2_with fail
                go_roundw
                case rel => exact ⟨j + 1, by omega, by simp, by rw [← HRE.out, HS1.out], HBn⟩
                case measure => simp [intOf]; omega
            · have HS1 : Hid (R' = false) := Lib.hid (by have := HS.out; simpa [h1] using this)
              clear HS
              go_wp2_with fail
              go_roundw
              case rel => exact ⟨j + 1, by omega, by simp, by rw [← HRE.out, HS1.out], HBn⟩
              case measure => simp [intOf]; omega
          · have HS1 : Hid (R' = true) := Lib.hid (by have := HS.out; simpa using this)
            clear HS
            go_wp2_with fail
            go_roundw
            case rel => exact ⟨j + 1, by omega, by simp, by rw [← HRE.out, HS1.out], HBn⟩
            case measure => simp [intOf]; omega
        · have hjn2 : j = n := by omega
          subst hjn2
          have HB3 : Hid (Below w.heap.size w wr) := Lib.hid (HB.out.trans (HB2.out.mono HB.out.size))
          have hown : wr.ownsRow w.heap.size 2 1 (.slice ya (RP i).length yc) (RP i).length (rcells clI (RP i)) := rown_below HO.out HB2.out
          have HZq := Lib.hid (HZ.out q)
          have hL := HLn.out i
          generalize hasRoom (l.take j) vni q = R at *
          cases R
          · have HS := Lib.hid (HNi.out HZq.out)
            have HO2 := Lib.hid hown
            clear hown
            go_wp2_with fail
            go_roundw
            case rel => exact ⟨i + 1, by omega, by have := HQ.out; simp; omega, by rw [HS.out]; exact HO2.out, HB3⟩
            case measure => have := HQ.out; simp [intOf]; omega
          · by_cases hb : q = but
            · have HS := Lib.hid (HBi.out hb)
              have HO2 := Lib.hid hown
              clear hown
              go_wp2_with fail
              go_roundw
              case rel => exact ⟨i + 1, by omega, by have := HQ.out; simp; omega, by rw [HS.out]; exact HO2.out, HB3⟩
              case measure => have := HQ.out; simp [intOf]; omega
            · have HS := Lib.hid (HHi.out HZq.out hb)
              have hsz1 := HB3.out.size
              generalize RP i = pre at *
              clear HO
              go_wp2_with (at_builtin; refine wpList_append_row clI_len clI_one tyI _ rfl _ _ rfl w.heap.size _ pre q rfl (hown.alloc _) ⟨wr.heap.size, 0, none⟩ rfl (lit_cells wr #[.int .i64 q] 2 q rfl) (by omega) (by simp; omega) ?_; intro a' c' n' w5 HN5 hown5 hg5; have HO5 := Lib.hid hown5; have HB5 : Hid (Below w.heap.size w w5) := Lib.hid (app_below HB3.out hsz1 hown hg5); clear hown5 hg5)
              go_roundw
              case rel => exact ⟨i + 1, by omega, by have := HQ.out; simp; omega, by rw [HS.out, ← HN5.out]; exact HO5, HB5⟩
              case measure => have := HQ.out; simp [intOf]; omega
    · have hi4 : i = 4 := by omega
      subst hi4
      obtain ⟨ya, yc, rfl⟩ := rown_form HO.out
      go_wp2_with fail
      go_ret
      exact ⟨_, rfl, HO.out, HB.out⟩
set_option maxHeartbeats 2000000 in
theorem specRoomsOf_any (l : List Hd) (v : Value) (vni but : Int) (w : World) (h : HdsAt w v l) (hn : l.length ≤ 1048576) :
    Calls Tryz.prog 20 #[v, .int .i64 vni, .int .i64 but] w (RowPost clI 2 1 (roomsOf l vni but) w) := by
  have HRR := Lib.hid (specRibRight_any l v w h hn)
  have HVn := Lib.hid (fun W => specVni_any vni W)
  have HIn := Lib.hid (fun (h60 : l.length ≤ 60) (W' : World) (hb : Below w.heap.size w W') => specRoomsIn_any l v vni but W' (SlAt.kept h hb) h60)
  have HZ1 : Hid (ribOk l = true → isVni vni = true → roomsOf l vni but = roomsP l vni but 4) := Lib.hid (fun h h2 => roomsOf_ok h h2)
  have HZ2 : Hid (ribOk l = false → roomsOf l vni but = []) := Lib.hid (fun h => roomsOf_rib h)
  have HZ3 : Hid (isVni vni = false → roomsOf l vni but = []) := Lib.hid (fun h => roomsOf_vni h)
  have HL := Lib.hid (fun (h : ribOk l = true) => ribOk_len h)
  unfold RowPost at *
  unfold RrPost at HRR
  obtain ⟨a, cap, rfl, _⟩ := h
  rw [List.length_map] at *
  generalize ribOk l = R at *
  generalize isVni vni = V at *
  generalize roomsOf l vni but = RS at *
  have HE : ∀ w1 : World, w.heap.size ≤ w1.heap.size → Hid ((w1.alloc (.cells #[] 2)).ownsRow w.heap.size 2 1 (.slice (some ⟨w1.heap.size, 0, none⟩) 0 0) ([] : List Int).length (rcells clI [])) := fun w1 h1 => Lib.hid (rown_mono (World.ownsRow_lit (base := w1.heap.size) (e := 2) (size := 1) w1 #[] 0 (by simp) (Nat.zero_le _) rfl) h1)
  have HEE := Lib.hid HE
  clear HE
  cases R
  · have HR := Lib.hid (HZ2.out rfl)
    go_enter Tryz.func20, Tryz.ntmps20
    go_wp2_with fail
    refine HRR.out.mono ?_
    rintro e w1 ⟨rfl, hb1⟩
    have HB := Lib.hid hb1
    clear hb1
    go_wp2_with fail
    go_ret
    exact ⟨_, rfl, by rw [HR.out]; exact (HEE.out _ HB.out.size).out, HB.out.alloc HB.out.size _⟩
  · cases V
    · have HR := Lib.hid (HZ3.out rfl)
      go_enter Tryz.func20, Tryz.ntmps20
      go_wp2_with fail
      refine HRR.out.mono ?_
      rintro e w1 ⟨rfl, hb1⟩
      have HB := Lib.hid hb1
      clear hb1
      go_wp2_with fail
      refine (HVn.out _).mono ?_
      rintro e w2 ⟨rfl, rfl⟩
      go_wp2_with fail
      go_ret
      exact ⟨_, rfl, by rw [HR.out]; exact (HEE.out _ HB.out.size).out, HB.out.alloc HB.out.size _⟩
    · have HR := Lib.hid (HZ1.out rfl rfl)
      have h60 := HL.out rfl
      go_enter Tryz.func20, Tryz.ntmps20
      go_wp2_with fail
      refine HRR.out.mono ?_
      rintro e w1 ⟨rfl, hb1⟩
      have HB := Lib.hid hb1
      have HC := Lib.hid (HIn.out h60 w1 hb1)
      clear hb1
      go_wp2_with fail
      refine (HVn.out _).mono ?_
      rintro e w2 ⟨rfl, rfl⟩
      go_wp2_with fail
      refine HC.out.mono ?_
      rintro e w3 ⟨v2, rfl, ho2, hb2⟩
      have HO2 := Lib.hid (rown_mono (B' := w.heap.size) ho2 HB.out.size)
      have HB2 : Hid (Below w.heap.size w w3) := Lib.hid (HB.out.trans (hb2.mono HB.out.size))
      clear ho2 hb2
      go_wp2_with fail
      go_ret
      exact ⟨_, rfl, by rw [HR.out]; exact HO2.out, HB2.out⟩
end Go.Proofs.YtdnpaopbicdolaaGreat

/- RoomsOf of the program. -/
namespace Go.Proofs.YtdnpaopbicdolaaGreat
open Go.RowKit

set_option maxRecDepth 100000 in
set_option maxHeartbeats 4000000 in
theorem implRoomsOf_any (l : List Hd) (v : Value) (vni but : Int) (w : World) (h : HdsAt w v l) (hnb : l.length ≤ 1048576) :
    Calls Tryz.prog 19 #[v, .int .i64 vni, .int .i64 but] w (RowPost clI 2 1 (roomsOf l vni but) w) := by
  have HRR := Lib.hid (implRibRight_any l v w h hnb)
  have HVn := Lib.hid (fun W => implVni_any vni W)
  have HZ1 : Hid (ribOk l = true → isVni vni = true → roomsOf l vni but = Lib.compact (sortL (outL (l.take l.length) vni but))) := Lib.hid (fun h h2 => by rw [roomsOf_ok h h2, List.take_length, rooms_eq h])
  have HZ2 : Hid (ribOk l = false → roomsOf l vni but = []) := Lib.hid (fun h => roomsOf_rib h)
  have HZ3 : Hid (isVni vni = false → roomsOf l vni but = []) := Lib.hid (fun h => roomsOf_vni h)
  have HL := Lib.hid (fun (h : ribOk l = true) => ribOk_len h)
  unfold RowPost at *
  unfold RrPost at HRR
  obtain ⟨a, cap, rfl, h⟩ := h
  rw [List.length_map] at *
  have HH := Lib.hid h
  clear h
  have HLn := Lib.hid (fun i => outL_len l vni but i)
  have HSc := Lib.hid (fun i hi => outL_succ l vni but i hi)
  have HO0 : Hid (outL (l.take 0) vni but = []) := Lib.hid rfl
  have HSL := Lib.hid sortL_len
  generalize ribOk l = R at *
  generalize isVni vni = V at *
  generalize roomsOf l vni but = RS at *
  obtain ⟨n, hnn⟩ : ∃ n, n = l.length := ⟨_, rfl⟩
  rw [← hnn] at hnb HZ1 HL HRR HLn ⊢
  have HN := Lib.hid hnn
  clear hnn
  cases R
  · have HR := Lib.hid (HZ2.out rfl)
    go_enter Tryz.func19, Tryz.ntmps19
    go_wp2_with fail
    refine HRR.out.mono ?_
    rintro e w1 ⟨rfl, hb1⟩
    have HB := Lib.hid hb1
    clear hb1
    go_wp2_with fail
    go_ret
    exact ⟨_, rfl, by rw [HR.out]; exact World.ownsRow_nil _ _ _ _, HB.out⟩
  cases V
  · have HR := Lib.hid (HZ3.out rfl)
    go_enter Tryz.func19, Tryz.ntmps19
    go_wp2_with fail
    refine HRR.out.mono ?_
    rintro e w1 ⟨rfl, hb1⟩
    have HB := Lib.hid hb1
    clear hb1
    go_wp2_with fail
    refine (HVn.out _).mono ?_
    rintro e w2 ⟨rfl, rfl⟩
    go_wp2_with fail
    go_ret
    exact ⟨_, rfl, by rw [HR.out]; exact World.ownsRow_nil _ _ _ _, HB.out⟩
  have HR := Lib.hid (HZ1.out rfl rfl)
  have hn := HL.out rfl
  go_enter Tryz.func19, Tryz.ntmps19
  go_wp2_with fail
  refine HRR.out.mono ?_
  rintro e w1 ⟨rfl, hb1⟩
  have HB1 := Lib.hid hb1
  clear hb1
  go_wp2_with fail
  refine (HVn.out _).mono ?_
  rintro e w2 ⟨rfl, rfl⟩
  go_wp2_with fail
  go_loopw [21, 7, 9, 10] (fun u y _ _ wr => ∃ i : Nat, i ≤ n ∧ u = .int .i64 (i : Int) ∧ Hid (wr.ownsRow w.heap.size 2 1 y (outL (l.take i) vni but).length (rcells clI (outL (l.take i) vni but))) ∧ Hid (Below w.heap.size w wr)) (fun u _ _ _ _ => n - (intOf u).toNat)
  case atStart => exact ⟨0, Nat.zero_le _, rfl, Lib.hid (by rw [HO0.out]; exact World.ownsRow_nil _ _ _ _), HB1⟩
  case round =>
    obtain ⟨i, hi, rfl, HO, HB⟩ := hrel
    by_cases hlt : i < n
    · have hir : i < l.length := by rw [← HN.out]; exact hlt
      have hne : l.map Hd.cl ≠ [] := fun e => by
        have := congrArg List.length e
        rw [List.length_map, ← HN.out] at this
        simp at this; omega
      obtain ⟨b, off, ha, hb, HE⟩ := HH.out hne
      subst ha
      have hl1 : (i : Int) < n := by omega
      obtain ⟨p0, p1, p2, p3, p4, p5, p6, p7, p8⟩ := (elemsB HE HB.out hb).hd i hir
      have HS := Lib.hid (HSc.out i hir)
      have hl60 : (outL (l.take i) vni but).length ≤ 60 := by have := HLn.out i; omega
      have S0 : Blk (wr.alloc (.cells (l[i]).ar 47)) wr.heap.size 47 (l[i]).ar ∧ Below w.heap.size w (wr.alloc (.cells (l[i]).ar 47)) := ⟨Blk.new _ _ _, HB.out.alloc HB.out.size _⟩
      have hown := HO.out.alloc (.cells (l[i]).ar 47)
      unfold Hd.ar at S0 hown
      clear HE
      generalize l[i] = x at *
      obtain ⟨pre', hpre'⟩ : ∃ p, p = outL (l.take (i + 1)) vni but := ⟨_, rfl⟩
      rw [← hpre'] at HS
      have HPE := Lib.hid hpre'
      clear hpre'
      generalize outL (l.take i) vni but = pre at *
      obtain ⟨y0, y1, x0, x1, x2, x3, x4, x5, x6⟩ := x
      dsimp only at *
      obtain ⟨ya, yc, rfl⟩ := rown_form hown
      clear HO
      go_upto_region 7 with fail
      generalize (wr.alloc (.cells #[.int .i64 y0, .bool y1, .int .i64 x0, .int .i64 x1, .int .i64 x2, .int .i64 x3, .int .i64 x4, .int .i64 x5, .bool x6] 47)) = W6 at S0 hown ⊢
      clear p0 p1 p2 p3 p4 p5 p6 p7 p8
      have hc := S0.1.cell
      have S1 : Blk (W6.alloc (.cells #[.int .i64 x0, .int .i64 x1, .int .i64 x2, .int .i64 x3, .int .i64 x4, .int .i64 x5, .bool x6] 25)) W6.heap.size 25 #[.int .i64 x0, .int .i64 x1, .int .i64 x2, .int .i64 x3, .int .i64 x4, .int .i64 x5, .bool x6] ∧ Below w.heap.size w (W6.alloc (.cells #[.int .i64 x0, .int .i64 x1, .int .i64 x2, .int .i64 x3, .int .i64 x4, .int .i64 x5, .bool x6] 25)) := ⟨Blk.new _ _ _, S0.2.alloc S0.2.size _⟩
      replace hown := hown.alloc (.cells #[.int .i64 x0, .int .i64 x1, .int .i64 x2, .int .i64 x3, .int .i64 x4, .int .i64 x5, .bool x6] 25)
      go_upto_region 8 with fail
      generalize W6.alloc (.cells #[.int .i64 x0, .int .i64 x1, .int .i64 x2, .int .i64 x3, .int .i64 x4, .int .i64 x5, .bool x6] 25) = W7 at S1 hown ⊢
      clear hc S0
      have hc := S1.1.cell
      have hsz1 := S1.2.size
      have HB7 := Lib.hid S1.2
      have HOW := Lib.hid hown
      by_cases h1 : x0 = 3
      · by_cases h2 : x1 = vni
        · by_cases h3 : x4 = but
          · have HS1 : Hid (pre' = pre) := Lib.hid (by have := HS.out; simpa [h3] using this)
            subst h1 h2 h3
            clear HS hown
            go_wp2_with fail
            go_roundw
            case rel => exact ⟨i + 1, by omega, by simp, by rw [← HPE.out, HS1.out]; exact HOW, HB7⟩
            case measure => simp [intOf]; omega
          · have HS1 : Hid (pre' = pre ++ [x4]) := Lib.hid (by have := HS.out; simpa [h1, h2, h3] using this)
            subst h1 h2
            clear HS HOW
            go_wp2_with (at_builtin; refine wpList_append_row clI_len clI_one tyI _ rfl _ _ rfl w.heap.size _ pre x4 rfl (hown.alloc _) ⟨W7.heap.size, 0, none⟩ rfl (lit_cells W7 #[.int .i64 x4] 2 x4 rfl) (by omega) (by simp; omega) ?_; intro a' c' n' w5 HN5 hown5 hg5; have HO5 := Lib.hid hown5; have HB5 : Hid (Below w.heap.size w w5) := Lib.hid (app_below S1.2 hsz1 hown hg5); clear hown5 hg5)
            go_roundw
            case rel => exact ⟨i + 1, by omega, by simp, by rw [← HPE.out, HS1.out, ← HN5.out]; exact HO5, HB5⟩
            case measure => simp [intOf]; omega
        · have HS1 : Hid (pre' = pre) := Lib.hid (by have := HS.out; simpa [h2] using this)
          subst h1
          clear HS hown
          go_wp2_with fail
          go_roundw
          case rel => exact ⟨i + 1, by omega, by simp, by rw [← HPE.out, HS1.out]; exact HOW, HB7⟩
          case measure => simp [intOf]; omega
      · have HS1 : Hid (pre' = pre) := Lib.hid (by have := HS.out; simpa [h1] using this)
        clear HS hown
        go_wp2_with fail
        go_roundw
        case rel => exact ⟨i + 1, by omega, by simp, by rw [← HPE.out, HS1.out]; exact HOW, HB7⟩
        case measure => simp [intOf]; omega
    · have hin : i = n := by omega
      subst hin
      have hl60 : (outL (l.take i) vni but).length ≤ 60 := by have := HLn.out i; omega
      generalize outL (l.take i) vni but = D at *
      have hls := HSL.out D
      obtain ⟨ya, yc, rfl⟩ := rown_form HO.out
      go_wp2_with fail
      refine (sortI_any _ _ D _ HO.out (by omega)).mono ?_
      rintro e w3 ⟨rfl, ho3, hg3⟩
      have HB3 : Hid (Below w.heap.size w w3) := Lib.hid (HB.out.grown hg3 HB.out.size (fun k hk => (HO.out.lt k hk).1))
      rw [hls] at ho3
      have HO3 : Hid (w3.ownsRow w.heap.size 2 1 (.slice ya D.length yc) (sortL D).length (rcells clI (sortL D))) := Lib.hid (by rw [hls]; exact ho3)
      clear ho3 hg3 HO
      go_wp2_with fail
      refine (compactI_any _ _ (sortL D) _ HO3.out (by omega)).mono ?_
      rintro e w4 ⟨u, rfl, ho4, hg4⟩
      have HB4 : Hid (Below w.heap.size w w4) := Lib.hid (HB3.out.grown hg4 HB3.out.size (fun k hk => (HO3.out.lt k hk).1))
      have HO4 := Lib.hid ho4
      obtain ⟨ua, uc, rfl⟩ := rown_form ho4
      clear ho4 hg4 HO3
      go_wp2_with fail
      go_ret
      exact ⟨_, rfl, by rw [HR.out]; exact HO4.out, HB4.out⟩
end Go.Proofs.YtdnpaopbicdolaaGreat
