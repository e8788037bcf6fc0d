/- Slices of strings: read, kept, opened out of a law's argument; what a call owns. -/
import Derived.Test.YtglealihdkecpaaGreatB4
import Derived.Deep.Strs
import Derived.OwnWalk
import Derived.Laws.OwnMore
namespace Go.Proofs.YtglealihdkecpaaGreat
open Go.RowKit Go.WideShapes Go.ChangeShapes

def strsV (l : List ByteArray) : List Value := l.map Value.string
def StsAt (W : World) (v : Value) (l : List ByteArray) : Prop :=
  ∃ a cap, v = .slice a l.length cap ∧ l.length ≤ cap ∧ cap ≤ maxLen ∧ (a = none → cap = 0) ∧
    (l ≠ [] → ∃ b off, a = some ⟨b, off, none⟩ ∧ b < W.heap.size ∧ ∀ i (h : i < l.length), W.cell? ⟨b, off + i, none⟩ = some (.string l[i]))
section
variable {W W' : World} {v : Value} {l : List ByteArray}
theorem StsAt.nil (W : World) : StsAt W (.slice none 0 0) [] := ⟨none, 0, rfl, Nat.le_refl _, Nat.zero_le _, fun _ => rfl, fun h => absurd rfl h⟩
theorem StsAt.blk (h : StsAt W v l) (f : ∀ b off, v = .slice (some ⟨b, off, none⟩) l.length (match v with | .slice _ _ c => c | _ => 0) → b < W.heap.size → (∀ i (h : i < l.length), W.cell? ⟨b, off + i, none⟩ = some (.string l[i])) → ∀ i (h : i < l.length), W'.cell? ⟨b, off + i, none⟩ = some (.string l[i])) (hs : W.heap.size ≤ W'.heap.size) : StsAt W' v l := by
  obtain ⟨a, cap, rfl, h1, h2, h3, h4⟩ := h
  refine ⟨a, cap, rfl, h1, h2, h3, fun hne => ?_⟩
  obtain ⟨b, off, rfl, hb, hc⟩ := h4 hne
  exact ⟨b, off, rfl, Nat.lt_of_lt_of_le hb hs, f b off rfl hb hc⟩
theorem StsAt.kept (h : StsAt W v l) (hb : Below W.heap.size W W') : StsAt W' v l :=
  h.blk (fun b off _ hl hc i hi => (hb.cell (p := ⟨b, off + i, none⟩) hl).trans (hc i hi)) hb.size
theorem StsAt.alloc (h : StsAt W v l) (o : Obj) : StsAt (W.alloc o) v l := h.kept ((Below.refl _ _).alloc (Nat.le_refl _) o)
theorem StsAt.drew (h : StsAt W v l) : StsAt W.drew v l := h
theorem StsAt.grown {row : Option Nat} (h : StsAt W v l) (hg : W.grownBy W' row) (hne : v.ownBlock = none ∨ v.ownBlock ≠ row) : StsAt W' v l := by
  refine h.blk (fun b off hv hl hc i hi => ?_) hg.size
  refine World.grownBy.cell hg (hc i hi) ?_
  rcases hne with hne | hne
  · rw [hv] at hne; cases hne
  · rw [hv] at hne; exact hne
/- a row that is owned, read as a slice of strings -/
theorem StsAt.of_own {B : Nat} {t : TypeId} (h : W.ownsRow B t 1 v l.length (strsV l)) : StsAt W v l := by
  have hO := h
  obtain ⟨hl, ⟨rfl, h0⟩ | ⟨g, cap, cur, rfl, hb, hh, hn, hm, hz, ht⟩⟩ := h
  · have e : l = [] := List.eq_nil_of_length_eq_zero h0
    subst e
    exact StsAt.nil _
  · refine ⟨some ⟨g, 0, none⟩, cap, rfl, hn, hm, (fun h => by cases h), fun _ => ⟨g, 0, rfl, (hO.lt g rfl).2, fun i hi => ?_⟩⟩
    rw [Nat.zero_add, hO.cellAt i (by omega)]
    simp [strsV, hi]
theorem StsAt.len_le (h : StsAt W v l) : l.length ≤ 9223372036854775807 := by
  obtain ⟨a, cap, _, h1, h2, _⟩ := h
  unfold maxLen at h2
  omega
end
theorem own_below {W W' : World} {B n : Nat} {t : TypeId} {sz : Nat} {v : Value} {xs : List Value} (h : W.ownsRow B t sz v n xs) (hb : Below W.heap.size W W') : W'.ownsRow B t sz v n xs :=
  h.kept (below_grown' (row := none) hb) (by cases hv : v.ownBlock <;> simp)
theorem own_mono {W : World} {B B' n : Nat} {t : TypeId} {sz : Nat} {v : Value} {xs : List Value} (h : W.ownsRow B t sz v n xs) (hb : B' ≤ B) : W.ownsRow B' t sz v n xs := by
  refine ⟨h.1, ?_⟩
  rcases h.2 with h | ⟨g, cap, cur, h1, h2, h3⟩
  · exact .inl h
  · exact .inr ⟨g, cap, cur, h1, Nat.le_trans hb h2, h3⟩
/- two rows, the second made behind the first -/
theorem own_apart {W W' : World} {B B' n n' : Nat} {t t' : TypeId} {sz sz' : Nat} {v v' : Value} {xs xs' : List Value} (h : W.ownsRow B t sz v n xs) (h' : W'.ownsRow B' t' sz' v' n' xs') (hB : W.heap.size ≤ B') : v'.ownBlock = none ∨ v'.ownBlock ≠ v.ownBlock := by
  cases e : v'.ownBlock with
  | none => exact .inl rfl
  | some k =>
    refine .inr fun e2 => ?_
    have h1 := (h'.lt k e).1
    have h2 := (h.lt k e2.symm).2
    omega
section
variable {H : Type} {enc : TypeId × Value → H} {P : Program} {w : World} {base : Nat} {sp : Nat → Bool} {held : Bool}
/- a field that is a slice of strings -/
theorem strs_at {t e : TypeId} {cs : List Value} {off : Nat} (ht : P.underlying t = some (.slice e)) (he : P.underlying e = some .string) (hce : P.cellsOf e = 1) (hc : P.cellsOf t = 1) (h : Reads enc P w base sp held t ((cs.drop off).take (P.cellsOf t))) :
    ∃ v l, cs[off]? = some v ∧ StsAt w v l ∧ ∀ s ∈ l, s.size ≤ maxLen := by
  obtain ⟨n, y, h⟩ := h
  rw [hc] at h
  rcases Deep.open_strs ht he hce h with ⟨h0, _⟩ | ⟨a, len, cap, m, Sx, h0, hb, hl, hm, hmm, _, hx⟩
  · exact ⟨_, [], take_one h0, StsAt.nil _, fun s h => by cases h⟩
  · have hlm : len ≤ m := by rw [hmm]; split <;> omega
    refine ⟨_, (List.range len).map Sx, take_one h0, ⟨some a, cap, by simp, by simpa using hl, hm, (fun h => by cases h), fun hne => ?_⟩, fun s hs => ?_⟩
    · have hpos : 0 < len := by
        rcases Nat.eq_zero_or_pos len with h | h
        · subst h; exact absurd rfl hne
        · exact h
      have h00 := (hx 0 (by omega)).1
      have hsp := World.cell?_spot h00
      have hlt := World.block_lt_of_cell? w _ h00
      obtain ⟨b, off, spot⟩ := a
      have hsp' : spot = none := by simpa [Addr.add] using hsp
      subst hsp'
      refine ⟨b, off, rfl, by simpa [Addr.add] using hlt, fun i hi => ?_⟩
      have hi' : i < len := by simpa using hi
      have := (hx i (by omega)).1
      rw [List.getElem_map, List.getElem_range]
      rw [← this]
      by_cases h2 : i = 0
      · simp [Addr.add, h2]
      · simp [Addr.add, h2]
    · obtain ⟨i, hi, rfl⟩ := List.mem_map.1 hs
      exact (hx i (by have := List.mem_range.1 hi; omega)).2
end
end Go.Proofs.YtglealihdkecpaaGreat
