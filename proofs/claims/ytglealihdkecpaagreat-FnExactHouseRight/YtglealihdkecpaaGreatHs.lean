/- A field of a law's struct that is a slice of structs; slices of pipes. -/
import Derived.Test.YtglealihdkecpaaGreatPpL
import Derived.Test.YtglealihdkecpaaGreatFz
namespace Go.Proofs.YtglealihdkecpaaGreat
open Go.RowKit Go.WideShapes Go.ChangeShapes

section
variable {H : Type} {enc : TypeId × Value → H} {P : Program} {w : World} {base : Nat} {sp : Nat → Bool} {held : Bool}
theorem slice_at {t e : TypeId} {fs : List Value} {off : Nat} (sz : Nat) (hs0 : 0 < sz) (ht : P.underlying t = some (.slice e)) (hsz : P.cellsOf e = sz) (hc : P.cellsOf t = 1) (h : Reads enc P w base sp held t ((fs.drop off).take (P.cellsOf t))) :
    ∃ (v : Value) (vs : List (List Value)), fs[off]? = some v ∧ SlAt w sz v vs ∧ vs.length ≤ maxLen ∧ ∀ cs ∈ vs, cs.length = sz ∧ Reads enc P w base sp held e cs := by
  obtain ⟨fuel, y, hf⟩ := h
  rw [hc] at hf
  rcases Deep.open_slice ht hf with ⟨h0, _⟩ | ⟨a, len, cap, m, n, D, Pl, hcs, hb, hl, hm, hmm, _, hx⟩
  · exact ⟨_, [], take_one h0, ⟨none, 0, rfl, fun h => absurd rfl h⟩, Nat.zero_le _, fun cs h => by cases h⟩
  · have hlm : len ≤ m := by rw [hmm]; split <;> omega
    rw [hsz] at hx
    obtain ⟨V, hV⟩ := Deep.choose_lt (α := List Value) (p := fun i cs => w.cells? base (a.add (i * sz)) sz = some cs ∧ DataW.trod enc P w base sp held n e cs = some (D i, Pl i)) (fun i (hi : i < len) => hx i (by omega))
    refine ⟨_, (List.range len).map V, take_one hcs, ⟨some a, cap, by simp, fun hne => ?_⟩, by simp; omega, fun cs hc => ?_⟩
    · have hpos : 0 < len := by
        rcases Nat.eq_zero_or_pos len with h | h
        · subst h; exact absurd rfl hne
        · exact h
      have hcell : ∀ i, i < len → ∀ j, j < sz → w.cell? ((a.add (i * sz)).add j) = (V i)[j]? := fun i hi => (World.cells?_some (hV i hi).1).2.2
      have hlen : ∀ i, i < len → (V i).length = sz := fun i hi => (World.cells?_some (hV i hi).1).2.1
      have h00 : w.cell? a = some ((V 0)[0]'(by rw [hlen 0 hpos]; exact hs0)) := by
        have := hcell 0 hpos 0 hs0
        rw [List.getElem?_eq_getElem (by rw [hlen 0 hpos]; exact hs0)] at this
        simpa [Addr.add] using this
      have hsp := World.cell?_spot h00
      obtain ⟨b, off, spot⟩ := a
      dsimp only at hsp
      subst hsp
      refine ⟨b, off, rfl, World.block_lt_of_cell? w _ h00, fun i cs hi j u hj => ?_⟩
      have hi' : i < len := by
        have := (List.getElem?_eq_some_iff.1 hi).1
        simpa using this
      have hcs : cs = V i := by
        rw [List.getElem?_map, List.getElem?_range hi'] at hi
        simpa using hi.symm
      subst hcs
      have hj' : j < sz := by have := (List.getElem?_eq_some_iff.1 hj).1; rw [hlen i hi'] at this; exact this
      rw [← hj, ← hcell i hi' j hj']
      simp only [Addr.add]
      by_cases h1 : i * sz = 0
      · by_cases h2 : j = 0
        · simp [h1, h2]
        · simp [h1, h2]
      · by_cases h2 : j = 0
        · simp [h1, h2]
        · simp [h1, h2]
    · obtain ⟨i, hi, rfl⟩ := List.mem_map.1 hc
      obtain ⟨h1, h2⟩ := hV i (by simpa using hi)
      obtain ⟨_, hlen, _⟩ := World.cells?_some h1
      exact ⟨hlen, n, _, h2⟩
end
/- a pipe: its numbers, where its texts lie, its texts -/
structure Pi where
  e : Int
  p : Int
  b : Int
  i : Int
  v : Value
  l : List ByteArray
def Pi.cl (x : Pi) : List Value := [.int .i64 x.e, .int .i64 x.p, .int .i64 x.b, .int .i64 x.i, x.v]
def Pi.val (x : Pi) : Value := ppV x.e x.p x.b x.i x.v
def Pi.right (x : Pi) : Bool := ppRight x.e x.p x.b x.i x.l
/- what two pipes have in common that hold the same -/
def Pi.same (x y : Pi) : Prop := x.e = y.e ∧ x.p = y.p ∧ x.b = y.b ∧ x.i = y.i ∧ x.l = y.l
structure PisAt (W : World) (v : Value) (l : List Pi) : Prop where
  sl : SlAt W 5 v (l.map Pi.cl)
  out : ∀ x ∈ l, StsAt W x.v x.l
theorem PisAt.kept {W W' : World} {v : Value} {l : List Pi} (h : PisAt W v l) (hb : Below W.heap.size W W') : PisAt W' v l := ⟨h.sl.kept hb, fun x hx => (h.out x hx).kept hb⟩
theorem Elems.pi {W : World} {b off : Nat} {l : List Pi} (h : Elems W b off 5 (l.map Pi.cl)) (i : Nat) (hi : i < l.length) :
    W.cell? ⟨b, off + i * 5, none⟩ = some (.int .i64 (l[i]).e) ∧ W.cell? ⟨b, off + i * 5 + 1, none⟩ = some (.int .i64 (l[i]).p) ∧ W.cell? ⟨b, off + i * 5 + 2, none⟩ = some (.int .i64 (l[i]).b) ∧ W.cell? ⟨b, off + i * 5 + 3, none⟩ = some (.int .i64 (l[i]).i) ∧ W.cell? ⟨b, off + i * 5 + 4, none⟩ = some (l[i]).v := by
  have k := h i (l[i]).cl (by rw [List.getElem?_map, List.getElem?_eq_getElem hi]; rfl)
  exact ⟨k 0 _ rfl, k 1 _ rfl, k 2 _ rfl, k 3 _ rfl, k 4 _ rfl⟩
theorem lst5 {cs : List Value} {a0 a1 a2 a3 a4 : Value} (h : cs.length = 5) (e0 : cs[0]? = some a0) (e1 : cs[1]? = some a1) (e2 : cs[2]? = some a2) (e3 : cs[3]? = some a3) (e4 : cs[4]? = some a4) : cs = [a0, a1, a2, a3, a4] := by
  match cs, h with
  | [c0, c1, c2, c3, c4], _ => simp at e0 e1 e2 e3 e4; subst e0 e1 e2 e3 e4; rfl
set_option maxRecDepth 100000 in
theorem pipes_of {H : Type} {enc : TypeId × Value → H} {w : World} {base : Nat} {sp : Nat → Bool} {held : Bool} (vs : List (List Value)) (h : ∀ cs ∈ vs, cs.length = 5 ∧ Reads enc Tryz.prog w base sp held 123 cs) : ∃ l : List Pi, vs = l.map Pi.cl ∧ (∀ x ∈ l, StsAt w x.v x.l) ∧ ∀ x ∈ l, ∀ s ∈ x.l, s.size ≤ maxLen := by
  induction vs with
  | nil => exact ⟨[], rfl, (fun x hx => by cases hx), fun x hx => by cases hx⟩
  | cons cs vs ih =>
    obtain ⟨l, hrs, ho, hm⟩ := ih (fun c hc => h c (by simp [hc]))
    obtain ⟨hl, hr⟩ := h cs (by simp)
    have hf := struct_reads Tryz.underlying123 hr
    obtain ⟨a0, e0, _⟩ := int_at Tryz.underlying2 cells_int (hf 0 _ rfl)
    obtain ⟨a1, e1, _⟩ := int_at Tryz.underlying2 cells_int (hf 1 _ rfl)
    obtain ⟨a2, e2, _⟩ := int_at Tryz.underlying2 cells_int (hf 2 _ rfl)
    obtain ⟨a3, e3, _⟩ := int_at Tryz.underlying2 cells_int (hf 3 _ rfl)
    obtain ⟨u, s, e4, hs, hsl⟩ := strs_at Tryz.underlying79 Tryz.underlying9 cells_str cells_strs (hf 4 _ rfl)
    have hcs := lst5 hl e0 e1 e2 e3 e4
    refine ⟨⟨a0, a1, a2, a3, u, s⟩ :: l, by rw [hcs, hrs]; rfl, fun x hx => ?_, fun x hx => ?_⟩
    · rcases List.mem_cons.1 hx with rfl | hx
      · exact hs
      · exact ho x hx
    · rcases List.mem_cons.1 hx with rfl | hx
      · exact hsl
      · exact hm x hx
end Go.Proofs.YtglealihdkecpaaGreat
