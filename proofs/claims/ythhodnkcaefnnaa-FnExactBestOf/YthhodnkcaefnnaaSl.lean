/- Slices whose elements are structs of several cells: read, kept. -/
import Derived.Test.YthhodnkcaefnnaaBlk
import Derived.Test.YthhodnkcaefnnaaAgg
import Derived.Deep.Slices
namespace Go.Proofs.Ythhodnkcaefnnaa
open Go.RowKit Go.WideShapes Go.ChangeShapes

/- the elements lie one behind the other, sz cells each -/
def Elems (W : World) (b off sz : Nat) (vs : List (List Value)) : Prop := ∀ i cs, vs[i]? = some cs → ∀ j u, cs[j]? = some u → W.cell? ⟨b, off + i * sz + j, none⟩ = some u
def SlAt (W : World) (sz : Nat) (v : Value) (vs : List (List Value)) : Prop := ∃ a cap, v = .slice a vs.length cap ∧ (vs ≠ [] → ∃ b off, a = some ⟨b, off, none⟩ ∧ b < W.heap.size ∧ Elems W b off sz vs)
theorem Elems.kept {W W' : World} {b off sz : Nat} {vs : List (List Value)} (h : Elems W b off sz vs) (hb : Below W.heap.size W W') (hl : b < W.heap.size) : Elems W' b off sz vs :=
  fun i cs hi j u hj => (hb.cell (p := ⟨b, off + i * sz + j, none⟩) hl).trans (h i cs hi j u hj)
theorem SlAt.kept {W W' : World} {sz : Nat} {v : Value} {vs : List (List Value)} (h : SlAt W sz v vs) (hb : Below W.heap.size W W') : SlAt W' sz v vs := by
  obtain ⟨a, cap, rfl, h⟩ := h
  refine ⟨a, cap, rfl, fun hne => ?_⟩
  obtain ⟨b, off, e, hl, he⟩ := h hne
  exact ⟨b, off, e, Nat.lt_of_lt_of_le hl hb.size, he.kept hb hl⟩
theorem SlAt.alloc {W : World} {sz : Nat} {v : Value} {vs : List (List Value)} (h : SlAt W sz v vs) (o : Obj) : SlAt (W.alloc o) sz v vs := h.kept ((Below.refl _ _).alloc (Nat.le_refl _) o)

section
variable {H : Type} {enc : TypeId × Value → H} {P : Program} {w : World} {base : Nat} {sp : Nat → Bool} {held : Bool}
/- an argument that is a slice of structs: its elements, each with a reading of its cells -/
theorem slice_open {r : Reach} {b0 : Nat} {t e : TypeId} {v : Value} {d : DataW H} {p : List MemPlace} (sz : Nat) (hs0 : 0 < sz) (ht : P.underlying t = some (.slice e)) (hsz : P.cellsOf e = sz) (o : Value.okWide P w r b0 t v) (h : DataW.Trod enc P w base sp held t v d p) :
    ∃ vs : List (List Value), SlAt w sz v vs ∧ vs.length ≤ maxLen ∧ ∀ cs ∈ vs, cs.length = sz ∧ Reads enc P w base sp held e cs := by
  obtain ⟨a0, len, cap, rfl⟩ := okWide_slice ht o
  obtain ⟨fuel, hf⟩ := h
  rcases Deep.open_slice ht hf with ⟨h0, _⟩ | ⟨a, len', cap', m, n, D, Pl, hcs, hb, hl, hm, hmm, _, hx⟩
  · injection h0 with h0
    injection h0 with _ h1 _
    subst h1
    exact ⟨[], ⟨a0, cap, rfl, fun h => absurd rfl h⟩, Nat.zero_le _, fun cs h => by cases h⟩
  · injection hcs with hcs
    injection hcs with h1 h2 h3
    subst h1 h2 h3
    have hlm : len ≤ m := by rw [hmm]; split <;> omega
    rw [hsz] at hx
    obtain ⟨V, hV⟩ := Deep.choose_lt (α := List Value) (p := fun i cs => w.cells? base (a.add (i * sz)) sz = some cs ∧ DataW.trod enc P w base sp held n e cs = some (D i, Pl i)) (fun i (hi : i < len) => hx i (by omega))
    refine ⟨(List.range len).map V, ⟨some a, cap, by simp, fun hne => ?_⟩, by simp; omega, fun cs hc => ?_⟩
    · have hpos : 0 < len := by
        rcases Nat.eq_zero_or_pos len with h | h
        · subst h; exact absurd rfl hne
        · exact h
      have hcell : ∀ i, i < len → ∀ j, j < sz → w.cell? ((a.add (i * sz)).add j) = (V i)[j]? := fun i hi => (World.cells?_some (hV i hi).1).2.2
      have hlen : ∀ i, i < len → (V i).length = sz := fun i hi => (World.cells?_some (hV i hi).1).2.1
      have h00 : w.cell? a = some ((V 0)[0]'(by rw [hlen 0 hpos]; exact hs0)) := by
        have := hcell 0 hpos 0 hs0
        rw [List.getElem?_eq_getElem (by rw [hlen 0 hpos]; exact hs0)] at this
        simpa [Addr.add] using this
      have hsp := World.cell?_spot h00
      obtain ⟨b, off, spot⟩ := a
      dsimp only at hsp
      subst hsp
      refine ⟨b, off, rfl, World.block_lt_of_cell? w _ h00, fun i cs hi j u hj => ?_⟩
      have hi' : i < len := by
        have := (List.getElem?_eq_some_iff.1 hi).1
        simpa using this
      have hcs : cs = V i := by
        rw [List.getElem?_map, List.getElem?_range hi'] at hi
        simpa using hi.symm
      subst hcs
      have hj' : j < sz := by have := (List.getElem?_eq_some_iff.1 hj).1; rw [hlen i hi'] at this; exact this
      rw [← hj, ← hcell i hi' j hj']
      simp only [Addr.add]
      by_cases h1 : i * sz = 0
      · by_cases h2 : j = 0
        · simp [h1, h2]
        · simp [h1, h2]
      · by_cases h2 : j = 0
        · simp [h1, h2]
        · simp [h1, h2]
    · obtain ⟨i, hi, rfl⟩ := List.mem_map.1 hc
      obtain ⟨h1, h2⟩ := hV i (by simpa using hi)
      obtain ⟨_, hlen, _⟩ := World.cells?_some h1
      exact ⟨hlen, n, _, h2⟩
end
end Go.Proofs.Ythhodnkcaefnnaa
