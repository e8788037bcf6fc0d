/- The map of byKeys, at work: each group's row, apart from the others'. -/
import Derived.Test.YthhodnkcaefnnaaRtK
import Derived.Test.YthhodnkcaefnnaaRtS
import Derived.Test.YthhodnkcaefnnaaBlk
namespace Go.Proofs.Ythhodnkcaefnnaa
open Go.RowKit

def Rt.key (r : Rt) : Rt := ⟨r.kind, r.vni, r.mac, 0, r.org, 0, false⟩
def grp (l : List Rt) (k : Rt) : List Rt := l.filter fun r => r.right && decide (r.key = k)
def cellsL (l : List Rt) : List Value := l.flatMap Rt.cl
theorem grp_snoc (l : List Rt) (r : Rt) (k : Rt) : grp (l ++ [r]) k = if (r.right && decide (r.key = k)) = true then grp l k ++ [r] else grp l k := by
  unfold grp; rw [List.filter_append, List.filter_cons, List.filter_nil]; split <;> simp
theorem grp_len (l : List Rt) (k : Rt) : (grp l k).length ≤ l.length := List.length_filter_le _ _
structure MapRt (W : World) (M B : Nat) (X : List (Rt × Value)) (L : List Rt) : Prop where
  obj : W.heap[M]? = some (.map (mkEs 0 X).toArray X.length)
  low : M < B
  rows : ∀ (i : Nat) (k : Rt) (v : Value), X[i]? = some (k, v) → W.ownsRow B 25 7 v (grp L k).length (cellsL (grp L k))
  keys : ∀ (i j : Nat) (k : Rt) (v u : Value), X[i]? = some (k, v) → X[j]? = some (k, u) → i = j
  all : ∀ r ∈ L, r.right = true → ∃ (i : Nat) (v : Value), X[i]? = some (r.key, v)
  apart : ∀ (i j : Nat) (k : Rt) (v : Value) (k' : Rt) (u : Value) (b : Nat), i ≠ j → X[i]? = some (k, v) → X[j]? = some (k', u) → v.ownBlock = some b → u.ownBlock ≠ some b
theorem MapRt.lt {W : World} {M B : Nat} {X : List (Rt × Value)} {L : List Rt} (h : MapRt W M B X L) : M < W.heap.size := by
  rcases Nat.lt_or_ge M W.heap.size with hl | hl
  · exact hl
  · have := h.obj; rw [Array.getElem?_eq_none hl] at this; cases this
theorem MapRt.kept {W W' : World} {M B : Nat} {X : List (Rt × Value)} {L : List Rt} (h : MapRt W M B X L) (hb : Below W.heap.size W W') : MapRt W' M B X L :=
  ⟨(hb.block M h.lt).trans h.obj, h.low, fun i k v hi => (h.rows i k v hi).kept (row := none) (below_grown' hb) (by cases v.ownBlock <;> simp), h.keys, h.all, h.apart⟩
theorem MapRt.alloc {W : World} {M B : Nat} {X : List (Rt × Value)} {L : List Rt} (h : MapRt W M B X L) (o : Obj) : MapRt (W.alloc o) M B X L := h.kept ((Below.refl _ _).alloc (Nat.le_refl _) o)
theorem setB_grown (W : World) (M : Nat) (o : Obj) : W.grownBy (setB W M o) (some M) :=
  ⟨rfl, rfl, rfl, by simp, fun k _ hne => by simp only [Array.getElem?_setIfInBounds]; rw [if_neg (fun e => hne (by rw [e]))]⟩
theorem setB_at {W : World} {M : Nat} (o : Obj) (h : M < W.heap.size) : (setB W M o).heap[M]? = some o := by
  simp [h]
theorem grp_none {L : List Rt} {X : List (Rt × Value)} {k : Rt} (hall : ∀ r ∈ L, r.right = true → ∃ (i : Nat) (v : Value), X[i]? = some (r.key, v)) (hn : ∀ v, (k, v) ∉ X) : grp L k = [] := by
  rw [grp, List.filter_eq_nil_iff]
  intro r hr hc
  rw [Bool.and_eq_true, decide_eq_true_eq] at hc
  obtain ⟨i, v, hi⟩ := hall r hr hc.1
  rw [hc.2] at hi
  exact hn v (List.mem_of_getElem? hi)
/- the entry is looked for, and laid where there is none -/
theorem MapRt.entry {W : World} {M B : Nat} {X : List (Rt × Value)} {L : List Rt} (h : MapRt W M B X L) (k : Rt) :
    ∃ (X1 : List (Rt × Value)) (i : Nat) (v0 : Value) (W1 : World), (Instr.mapEntry 48 (.map (some M)) k.val).run Try.prog W = .ok (.tuple #[v0, .int .i64 (i : Int)]) W1 ∧ MapRt W1 M B X1 L ∧ X1[i]? = some (k, v0) ∧ W.grownBy W1 (some M) ∧ W1.heap.size = W.heap.size := by
  cases hs : seek k X 0 with
  | some p =>
    obtain ⟨i, v⟩ := p
    obtain ⟨m, e1, e2⟩ := seek_some hs
    rw [Nat.zero_add] at e1
    subst e1
    have hg := setB_grown W M (.map (mkEs 0 X).toArray X.length)
    refine ⟨X, i, v, _, entry_old h.obj hs, ⟨setB_at _ h.lt, h.low, fun j k' v' hj => (h.rows j k' v' hj).kept hg ?_, h.keys, h.all, h.apart⟩, e2, hg, by simp⟩
    cases hv : v'.ownBlock with
    | none => exact .inl rfl
    | some b => right; intro e; injection e with e; have := ((h.rows j k' v' hj).lt b hv).1; have := h.low; omega
  | none =>
    have hn := seek_none hs
    have hg := setB_grown W M (.map (mkEs 0 (X ++ [(k, Value.slice none 0 0)])).toArray (X ++ [(k, Value.slice none 0 0)]).length)
    have hlast : ∀ (j : Nat) (k' : Rt) (v' : Value), (X ++ [(k, Value.slice none 0 0)])[j]? = some (k', v') → X[j]? = some (k', v') ∨ (j = X.length ∧ k' = k ∧ v' = .slice none 0 0) := fun j k' v' hj => by
      rw [List.getElem?_append] at hj
      split at hj
      · exact .inl hj
      · right
        have hj0 : j - X.length = 0 := by
          rcases Nat.eq_zero_or_pos (j - X.length) with e | e
          · exact e
          · rw [List.getElem?_eq_none (by simp; omega)] at hj; cases hj
        rw [hj0] at hj
        simp at hj
        exact ⟨by omega, hj.1.symm, hj.2.symm⟩
    have hnx : ∀ (j : Nat) (v : Value), X[j]? ≠ some (k, v) := fun j v hj => hn v (List.mem_of_getElem? hj)
    refine ⟨X ++ [(k, Value.slice none 0 0)], X.length, .slice none 0 0, _, entry_new h.obj hs, ⟨setB_at _ h.lt, h.low, fun j k' v' hj => ?_, fun i j k' v u hi hj => ?_, fun r hr hv => ?_, fun i j k1 v1 k2 v2 b hij hi hj hb => ?_⟩, by simp, hg, by simp⟩
    · rcases hlast j k' v' hj with hj | ⟨_, rfl, rfl⟩
      · refine (h.rows j k' v' hj).kept hg ?_
        cases hv : v'.ownBlock with
        | none => exact .inl rfl
        | some b => right; intro e; injection e with e; have := ((h.rows j k' v' hj).lt b hv).1; have := h.low; omega
      · rw [grp_none h.all hn]; exact World.ownsRow_nil _ _ _ _
    · rcases hlast i k' v hi with hi2 | ⟨e1, rfl, _⟩
      · rcases hlast j k' u hj with hj2 | ⟨_, rfl, _⟩
        · exact h.keys i j k' v u hi2 hj2
        · exact absurd hi2 (hnx i v)
      · rcases hlast j _ u hj with hj | ⟨e2, _, _⟩
        · exact absurd hj (hnx j u)
        · omega
    · obtain ⟨i, v, hi⟩ := h.all r hr hv
      exact ⟨i, v, by rw [List.getElem?_append_left (List.getElem?_eq_some_iff.1 hi).1]; exact hi⟩
    · rcases hlast i k1 v1 hi with hi | ⟨_, _, rfl⟩
      · rcases hlast j k2 v2 hj with hj | ⟨_, _, rfl⟩
        · exact h.apart i j k1 v1 k2 v2 b hij hi hj hb
        · simp [Value.ownBlock]
      · simp [Value.ownBlock] at hb
/- what was appended to the entry's slice is stored at it -/
theorem MapRt.store {W W2 : World} {M B : Nat} {X : List (Rt × Value)} {L : List Rt} {r : Rt} {i : Nat} {v0 v1 : Value} (h : MapRt W M B X L) (hi : X[i]? = some (r.key, v0)) (hr : r.right = true)
    (hown : W2.ownsRow B 25 7 v1 ((grp L r.key).length + 1) (cellsL (grp L r.key) ++ r.cl)) (hg : W.grownBy W2 v0.ownBlock) (hloc : v1.ownBlock = v0.ownBlock ∨ v1.ownBlock = some W.heap.size) :
    ∃ (X' : List (Rt × Value)) (W3 : World), (Instr.entryStore 48 (.map (some M)) (.int .i64 (i : Int)) v1).run Try.prog W2 = .ok () W3 ∧ MapRt W3 M B X' (L ++ [r]) ∧ W2.grownBy W3 (some M) := by
  have hMv : some M ≠ v0.ownBlock := fun e => by have := ((h.rows i _ _ hi).lt M e.symm).1; have := h.low; omega
  have hobj2 : W2.heap[M]? = some (.map (mkEs 0 X).toArray X.length) := (hg.block M h.lt hMv).trans h.obj
  have hlt2 : M < W2.heap.size := Nat.lt_of_lt_of_le h.lt hg.size
  have hlt := (List.getElem?_eq_some_iff.1 hi).1
  have hg3 := setB_grown W2 M (.map (mkEs 0 (X.set i (r.key, v1))).toArray (X.set i (r.key, v1)).length)
  have hset : ∀ (j : Nat) (k' : Rt) (v' : Value), (X.set i (r.key, v1))[j]? = some (k', v') → (j = i ∧ k' = r.key ∧ v' = v1) ∨ (j ≠ i ∧ X[j]? = some (k', v')) := fun j k' v' hj => by
    rw [List.getElem?_set] at hj
    by_cases e : i = j
    · rw [if_pos e, if_pos hlt] at hj
      simp at hj
      exact .inl ⟨e.symm, hj.1.symm, hj.2.symm⟩
    · rw [if_neg e] at hj
      exact .inr ⟨fun e' => e e'.symm, hj⟩
  have hkeep : ∀ (j : Nat) (k' : Rt) (v' : Value), j ≠ i → X[j]? = some (k', v') → W2.ownsRow B 25 7 v' (grp L k').length (cellsL (grp L k')) := fun j k' v' hne hj => by
    refine (h.rows j k' v' hj).kept hg ?_
    cases hv : v'.ownBlock with
    | none => exact .inl rfl
    | some b => exact .inr fun e => h.apart j i k' v' _ _ b hne hj hi hv e.symm
  refine ⟨X.set i (r.key, v1), _, entry_store hobj2 hi v1, ⟨setB_at _ hlt2, h.low, fun j k' v' hj => ?_, fun a b k' v u ha hb => ?_, fun s hs hv => ?_, fun a b k1 u1 k2 u2 c hab ha hb hc => ?_⟩, hg3⟩
  · have hbig : ∀ {n xs}, W2.ownsRow B 25 7 v' n xs → (setB W2 M (.map (mkEs 0 (X.set i (r.key, v1))).toArray (X.set i (r.key, v1)).length)).ownsRow B 25 7 v' n xs := fun ho => ho.kept hg3 (by
      cases hv : v'.ownBlock with
      | none => exact .inl rfl
      | some b => right; intro e; injection e with e; have := (ho.lt b hv).1; have := h.low; omega)
    rcases hset j k' v' hj with ⟨_, rfl, rfl⟩ | ⟨hne, hj⟩
    · rw [grp_snoc, hr, decide_eq_true rfl, Bool.true_and, if_pos rfl, List.length_append, cellsL, List.flatMap_append]
      have e : List.flatMap Rt.cl [r] = r.cl := by simp
      rw [e]
      exact hbig hown
    · have hk : ¬ r.key = k' := fun e => hne (h.keys j i k' v' v0 hj (by rw [hi, e]))
      rw [grp_snoc, hr, decide_eq_false hk, Bool.and_false, if_neg (by simp)]
      exact hbig (hkeep j k' v' hne hj)
  · rcases hset a k' v ha with ⟨rfl, rfl, _⟩ | ⟨hna, ha2⟩
    · rcases hset b _ u hb with ⟨rfl, _, _⟩ | ⟨_, hb⟩
      · rfl
      · exact h.keys _ _ _ _ _ hi hb
    · rcases hset b k' u hb with ⟨rfl, rfl, _⟩ | ⟨_, hb2⟩
      · exact h.keys _ _ _ _ _ ha2 hi
      · exact h.keys _ _ _ _ _ ha2 hb2
  · rcases List.mem_append.1 hs with hs | hs
    · obtain ⟨j, u, hj⟩ := h.all s hs hv
      by_cases e : i = j
      · subst e
        rw [hj] at hi
        injection hi with hi
        injection hi with h1 _
        exact ⟨i, v1, by rw [List.getElem?_set, if_pos rfl, if_pos hlt, h1]⟩
      · exact ⟨j, u, by rw [List.getElem?_set, if_neg e]; exact hj⟩
    · rw [List.mem_singleton.1 hs]
      exact ⟨i, v1, by rw [List.getElem?_set, if_pos rfl, if_pos hlt]⟩
  · have hnew : ∀ (b : Nat) (k : Rt) (u : Value), b ≠ i → X[b]? = some (k, u) → ∀ c, v1.ownBlock = some c → u.ownBlock ≠ some c := fun b k u hne hb c hc hu => by
      rcases hloc with e | e
      · exact h.apart i b _ _ _ _ c (fun e' => hne e'.symm) hi hb (e ▸ hc) hu
      · rw [e] at hc
        injection hc with hc
        have := ((h.rows b k u hb).lt c hu).2
        omega
    rcases hset a k1 u1 ha with ⟨rfl, _, rfl⟩ | ⟨hna, ha2⟩
    · rcases hset b k2 u2 hb with ⟨rfl, _, _⟩ | ⟨hnb, hb⟩
      · exact absurd rfl hab
      · exact hnew b k2 u2 hnb hb c hc
    · rcases hset b k2 u2 hb with ⟨rfl, _, rfl⟩ | ⟨hnb, hb2⟩
      · exact fun hu => hnew a k1 u1 hna ha2 c hu hc
      · exact h.apart a b k1 u1 k2 u2 c hab ha2 hb2 hc
end Go.Proofs.Ythhodnkcaefnnaa
