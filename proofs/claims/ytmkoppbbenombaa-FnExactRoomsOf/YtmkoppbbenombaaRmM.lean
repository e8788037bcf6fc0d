/- RoomsOf: its mathematics. -/
import Derived.Test.YtmkoppbbenombaaRbO
import Derived.Test.YtmkoppbbenombaaRIv
import Derived.Test.YtmkoppbbenombaaApB
import Derived.Lib.SlicesCompact
namespace Go.Proofs.Ytmkoppbbenombaa
open Go.RowKit

def isRm (x : Hd) (v : Int) : Bool := decide (x.r.kind = 3) && decide (x.r.vni = v)
def hasRoom (l : List Hd) (v h : Int) : Bool := l.any fun x => isRm x v && decide (x.r.org = h)
def roomsP (l : List Hd) (v b : Int) (i : Nat) : List Int := (([1, 2, 3, 4] : List Int).take i).filter fun h => hasRoom l v h && !decide (h = b)
def outL (l : List Hd) (v b : Int) : List Int := (l.filter fun x => isRm x v && !decide (x.r.org = b)).map fun x => x.r.org
def roomsOf (l : List Hd) (v b : Int) : List Int := if ribOk l = true ∧ isVni v = true then roomsP l v b 4 else []
theorem roomsOf_ok {l : List Hd} {v b : Int} (h : ribOk l = true) (h2 : isVni v = true) : roomsOf l v b = roomsP l v b 4 := by rw [roomsOf, if_pos ⟨h, h2⟩]
theorem roomsOf_rib {l : List Hd} {v b : Int} (h : ribOk l = false) : roomsOf l v b = [] := by rw [roomsOf, if_neg (by simp [h])]
theorem roomsOf_vni {l : List Hd} {v b : Int} (h : isVni v = false) : roomsOf l v b = [] := by rw [roomsOf, if_neg (by simp [h])]
theorem roomsP_len (l : List Hd) (v b : Int) (i : Nat) : (roomsP l v b i).length ≤ 4 := by
  unfold roomsP
  refine Nat.le_trans (List.length_filter_le _ _) ?_
  rw [List.length_take]
  exact Nat.min_le_right _ _
theorem roomsOf_len (l : List Hd) (v b : Int) : (roomsOf l v b).length ≤ 4 := by
  unfold roomsOf
  split
  · exact roomsP_len l v b 4
  · simp
theorem four_succ {i : Nat} (h : i < 4) : ([1, 2, 3, 4] : List Int).take (i + 1) = ([1, 2, 3, 4] : List Int).take i ++ [(i : Int) + 1] := by
  match i, h with
  | 0, _ => rfl
  | 1, _ => rfl
  | 2, _ => rfl
  | 3, _ => rfl
theorem roomsP_hit {l : List Hd} {v b : Int} {i : Nat} (hi : i < 4) (h1 : hasRoom l v ((i : Int) + 1) = true) (h2 : ¬ (i : Int) + 1 = b) : roomsP l v b (i + 1) = roomsP l v b i ++ [(i : Int) + 1] := by
  unfold roomsP
  rw [four_succ hi, List.filter_append]
  simp [h1, h2]
theorem roomsP_no {l : List Hd} {v b : Int} {i : Nat} (hi : i < 4) (h1 : hasRoom l v ((i : Int) + 1) = false) : roomsP l v b (i + 1) = roomsP l v b i := by
  unfold roomsP
  rw [four_succ hi, List.filter_append]
  simp [h1]
theorem roomsP_but {l : List Hd} {v b : Int} {i : Nat} (hi : i < 4) (h1 : (i : Int) + 1 = b) : roomsP l v b (i + 1) = roomsP l v b i := by
  unfold roomsP
  rw [four_succ hi, List.filter_append]
  simp [h1]
theorem hasRoom_succ (l : List Hd) (v h : Int) (i : Nat) (hi : i < l.length) : hasRoom (l.take (i + 1)) v h = (hasRoom (l.take i) v h || (decide (l[i].r.kind = 3) && decide (l[i].r.vni = v) && decide (l[i].r.org = h))) := by
  unfold hasRoom
  rw [List.take_succ_eq_append_getElem hi, List.any_append]
  simp [isRm]
theorem outL_succ (l : List Hd) (v b : Int) (i : Nat) (hi : i < l.length) : outL (l.take (i + 1)) v b = outL (l.take i) v b ++ (if (decide (l[i].r.kind = 3) && decide (l[i].r.vni = v) && !decide (l[i].r.org = b)) = true then [l[i].r.org] else []) := by
  unfold outL
  rw [List.take_succ_eq_append_getElem hi, List.filter_append, List.map_append]
  congr 1
  rw [List.filter_cons]
  unfold isRm
  split <;> simp
theorem outL_len (l : List Hd) (v b : Int) (i : Nat) : (outL (l.take i) v b).length ≤ l.length := by
  unfold outL
  rw [List.length_map]
  refine Nat.le_trans (List.length_filter_le _ _) ?_
  rw [List.length_take]
  exact Nat.min_le_right _ _
/- what Compact leaves of a sorted row -/
theorem compact_inv (d : Array Int) (hs : ∀ i j, i < j → j < d.size → d[i]! ≤ d[j]!) : ∀ m, m ≤ d.size → (Lib.compactUpTo d m).Pairwise (· < ·) ∧ ∀ x, x ∈ Lib.compactUpTo d m ↔ ∃ j, j < m ∧ d[j]! = x := by
  intro m
  induction m with
  | zero => intro _; exact ⟨by simp [Lib.compactUpTo], fun x => by simp [Lib.compactUpTo]⟩
  | succ m ih =>
    intro hm
    obtain ⟨ip, im⟩ := ih (by omega)
    rw [Lib.compactUpTo_succ]
    have hle : ∀ j, j < m → d[j]! ≤ d[m - 1]! := fun j hj => by
      by_cases e : j = m - 1
      · rw [e]; exact Int.le_refl _
      · exact hs j (m - 1) (by omega) (by omega)
    cases hk : Lib.keeps d m
    · simp only [Bool.false_eq_true, if_false, List.append_nil]
      refine ⟨ip, fun x => ?_⟩
      have h0 : m ≠ 0 ∧ d[m]! = d[m - 1]! := by
        unfold Lib.keeps at hk
        have := of_decide_eq_false hk
        exact ⟨fun e => this (.inl e), Decidable.byContradiction fun e => this (.inr e)⟩
      rw [im x]
      constructor
      · rintro ⟨j, hj, e⟩; exact ⟨j, by omega, e⟩
      · rintro ⟨j, hj, e⟩
        by_cases hjm : j = m
        · subst hjm; exact ⟨j - 1, by omega, by rw [← h0.2]; exact e⟩
        · exact ⟨j, by omega, e⟩
    · simp only [if_true]
      refine ⟨List.pairwise_append.2 ⟨ip, by simp, fun a ha b hb => ?_⟩, fun x => ?_⟩
      · obtain ⟨j, hj, rfl⟩ := (im a).1 ha
        have hbm : b = d[m]! := by simpa using hb
        subst hbm
        have hne : d[m]! ≠ d[m - 1]! := by
          unfold Lib.keeps at hk
          rcases of_decide_eq_true hk with e | e
          · omega
          · exact e
        have h1 := hle j hj
        have h2 := hs (m - 1) m (by omega) (by omega)
        omega
      · rw [List.mem_append, im x]
        constructor
        · rintro (⟨j, hj, e⟩ | h)
          · exact ⟨j, by omega, e⟩
          · exact ⟨m, by omega, (List.mem_singleton.1 h).symm⟩
        · rintro ⟨j, hj, e⟩
          by_cases hjm : j = m
          · subst hjm; right; simp [e]
          · exact .inl ⟨j, by omega, e⟩
theorem sortedI_eq : ∀ {a b : List Int}, a.Pairwise (· < ·) → b.Pairwise (· < ·) → (∀ y, y ∈ a ↔ y ∈ b) → a = b := by
  intro a
  induction a with
  | nil =>
    intro b _ _ h
    cases b with
    | nil => rfl
    | cons y b => have := (h y).2 (by simp); cases this
  | cons x a ih =>
    intro b ha hb h
    cases b with
    | nil => have := (h x).1 (by simp); cases this
    | cons y b =>
      rw [List.pairwise_cons] at ha hb
      have exy : x = y := by
        rcases List.mem_cons.1 ((h x).1 (by simp)) with e | e
        · exact e
        · rcases List.mem_cons.1 ((h y).2 (by simp)) with e2 | e2
          · exact e2.symm
          · have h1 := ha.1 y e2
            have h2 := hb.1 x e
            omega
      subst exy
      rw [ih ha.2 hb.2 (fun z => ?_)]
      constructor
      · intro hz
        rcases List.mem_cons.1 ((h z).1 (by simp [hz])) with e | e
        · subst e; exact absurd (ha.1 z hz) (by omega)
        · exact e
      · intro hz
        rcases List.mem_cons.1 ((h z).2 (by simp [hz])) with e | e
        · subst e; exact absurd (hb.1 z hz) (by omega)
        · exact e
def sortL (l : List Int) : List Int := l.mergeSort fun x y => decide (x ≤ y)
theorem sortL_len (l : List Int) : (sortL l).length = l.length := List.length_mergeSort l
theorem sortL_mem (l : List Int) (x : Int) : x ∈ sortL l ↔ x ∈ l := (List.mergeSort_perm l _).mem_iff
theorem sortL_pw (l : List Int) : (sortL l).Pairwise (· ≤ ·) := by
  have := List.pairwise_mergeSort (le := fun x y : Int => decide (x ≤ y)) (fun a b c h1 h2 => by simp at *; omega) (fun a b => by simp; omega) l
  exact this.imp (fun h => by simpa using h)
theorem compact_sort (l : List Int) : (Lib.compact (sortL l)).Pairwise (· < ·) ∧ ∀ x, x ∈ Lib.compact (sortL l) ↔ x ∈ l := by
  have hp := List.pairwise_iff_getElem.1 (sortL_pw l)
  have hg : ∀ j, j < (sortL l).length → (sortL l).toArray[j]! = (sortL l)[j]! := fun j hj => by simp
  have h := compact_inv (sortL l).toArray (fun i j hij hj => by
    have hj' : j < (sortL l).length := by simpa using hj
    rw [getElem!_pos _ i (by simpa using (show i < (sortL l).length by omega)), getElem!_pos _ j hj]
    exact hp i j (by omega) hj' hij) (sortL l).length (by simp)
  unfold Lib.compact
  refine ⟨h.1, fun x => ?_⟩
  rw [h.2 x, ← sortL_mem l x]
  constructor
  · rintro ⟨j, hj, rfl⟩
    rw [getElem!_pos _ j (by simpa using hj)]
    exact List.getElem_mem hj
  · intro hx
    obtain ⟨j, hj, e⟩ := List.getElem_of_mem hx
    refine ⟨j, hj, ?_⟩
    rw [getElem!_pos _ j (by simpa using hj)]
    exact e
theorem rib_org {l : List Hd} (h : ribOk l = true) {x : Hd} (hx : x ∈ l) : 1 ≤ x.r.org ∧ x.r.org ≤ 4 := by
  obtain ⟨i, hi, rfl⟩ := List.getElem_of_mem hx
  have hok : okAt l i = true := by
    unfold ribOk at h
    rw [Bool.and_eq_true] at h
    exact List.all_eq_true.1 h.2 i (List.mem_range.2 hi)
  have hhd : hdOk l[i] = true := by
    cases e : hdOk l[i]
    · rw [okAt_hd hi e] at hok; cases hok
    · rfl
  have hr : (l[i]).r.right = true := by
    unfold hdOk at hhd
    rw [Bool.and_eq_true] at hhd
    exact hhd.2
  have hh : isHouse (l[i]).r.org = true := by
    unfold Rt.right rtRight at hr
    simp only [Bool.and_eq_true] at hr
    exact hr.1.2
  exact inR_t hh
theorem rooms_eq {l : List Hd} (h : ribOk l = true) (v b : Int) : Lib.compact (sortL (outL l v b)) = roomsP l v b 4 := by
  have hc := compact_sort (outL l v b)
  refine sortedI_eq hc.1 ?_ (fun y => ?_)
  · unfold roomsP
    refine List.Pairwise.filter _ ?_
    decide
  · rw [hc.2 y]
    unfold outL roomsP hasRoom
    simp only [List.mem_map, List.mem_filter, Bool.and_eq_true, List.any_eq_true, decide_eq_true_eq, Bool.not_eq_true', decide_eq_false_iff_not]
    constructor
    · rintro ⟨x, ⟨hx, h1, h2⟩, rfl⟩
      have ho := rib_org h hx
      refine ⟨?_, ⟨x, hx, h1, rfl⟩, h2⟩
      have : x.r.org = 1 ∨ x.r.org = 2 ∨ x.r.org = 3 ∨ x.r.org = 4 := by omega
      simp only [List.take_succ_cons, List.take_zero, List.mem_cons, List.not_mem_nil, or_false]
      exact this
    · rintro ⟨_, ⟨x, hx, h1, rfl⟩, h2⟩
      exact ⟨x, ⟨hx, h1, h2⟩, rfl⟩
end Go.Proofs.Ytmkoppbbenombaa
