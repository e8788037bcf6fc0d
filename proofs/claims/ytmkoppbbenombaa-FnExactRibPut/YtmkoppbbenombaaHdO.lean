/- A law's own slice of held routes, a law's own route: opened. -/
import Derived.Test.YtmkoppbbenombaaRHd
import Derived.Test.YtmkoppbbenombaaRRt
import Derived.Test.YtmkoppbbenombaaMg
namespace Go.Proofs.Ytmkoppbbenombaa
open Go.RowKit Go.WideShapes Go.ChangeShapes

theorem in_sub {cs : List Value} {o n j : Nat} {x : Value} (h : ((cs.drop o).take n)[j]? = some x) : cs[o + j]? = some x := by
  rw [List.getElem?_take] at h
  split at h
  · rwa [List.getElem?_drop] at h
  · cases h
theorem lst9 {cs : List Value} {a0 a1 a2 a3 a4 a5 a6 a7 a8 : Value} (h : cs.length = 9) (e0 : cs[0]? = some a0) (e1 : cs[1]? = some a1) (e2 : cs[2 + 0]? = some a2) (e3 : cs[2 + 1]? = some a3) (e4 : cs[2 + 2]? = some a4) (e5 : cs[2 + 3]? = some a5) (e6 : cs[2 + 4]? = some a6) (e7 : cs[2 + 5]? = some a7) (e8 : cs[2 + 6]? = some a8) : cs = [a0, a1, a2, a3, a4, a5, a6, a7, a8] := by
  match cs, h with
  | [c0, c1, c2, c3, c4, c5, c6, c7, c8], _ => simp at e0 e1 e2 e3 e4 e5 e6 e7 e8; subst e0 e1 e2 e3 e4 e5 e6 e7 e8; rfl
set_option maxRecDepth 100000 in
theorem int_open {w : World} {r : Reach} {b0 : Nat} {v : Value} (o : Value.okWide Try.prog w r b0 2 v) : ∃ a : Int, v = .int .i64 a := okWide_int Try.underlying2 o
theorem cells_held : Try.prog.cellsOf 82 = 9 := by kernel_rfl
theorem cells_lroute : Try.prog.cellsOf 30 = 7 := by kernel_rfl
set_option maxRecDepth 100000 in
theorem hds_of {H : Type} {enc : TypeId × Value → H} {w : World} {base : Nat} {sp : Nat → Bool} {held : Bool} (vs : List (List Value)) (h : ∀ cs ∈ vs, cs.length = 9 ∧ Reads enc Try.prog w base sp held 82 cs) : ∃ l : List Hd, vs = l.map Hd.cl := by
  induction vs with
  | nil => exact ⟨[], rfl⟩
  | cons cs vs ih =>
    obtain ⟨l, hrs⟩ := ih (fun c hc => h c (by simp [hc]))
    obtain ⟨hl, hr⟩ := h cs (by simp)
    have hf := struct_reads Try.underlying82 hr
    obtain ⟨a0, e0, _⟩ := int_at Try.underlying2 cells_int (hf 0 _ rfl)
    obtain ⟨a1, e1⟩ := bool_at Try.underlying4 cells_bool (hf 1 _ rfl)
    have hg := struct_reads Try.underlying30 (hf 2 _ rfl)
    obtain ⟨a2, e2, _⟩ := int_at Try.underlying2 cells_int (hg 0 _ rfl)
    obtain ⟨a3, e3, _⟩ := int_at Try.underlying2 cells_int (hg 1 _ rfl)
    obtain ⟨a4, e4, _⟩ := int_at Try.underlying2 cells_int (hg 2 _ rfl)
    obtain ⟨a5, e5, _⟩ := int_at Try.underlying2 cells_int (hg 3 _ rfl)
    obtain ⟨a6, e6, _⟩ := int_at Try.underlying2 cells_int (hg 4 _ rfl)
    obtain ⟨a7, e7, _⟩ := int_at Try.underlying2 cells_int (hg 5 _ rfl)
    obtain ⟨a8, e8⟩ := bool_at Try.underlying4 cells_bool (hg 6 _ rfl)
    have hcs := lst9 hl e0 e1 (in_sub e2) (in_sub e3) (in_sub e4) (in_sub e5) (in_sub e6) (in_sub e7) (in_sub e8)
    exact ⟨⟨a0, a1, ⟨a2, a3, a4, a5, a6, a7, a8⟩⟩ :: l, by rw [hcs, hrs]; rfl⟩
set_option maxRecDepth 100000 in
theorem hds_open {H : Type} {enc : TypeId × Value → H} {w : World} {base : Nat} {sp : Nat → Bool} {held : Bool} {r : Reach} {b0 : Nat} {v : Value} {d : DataW H} {p : List MemPlace} (o : Value.okWide Try.prog w r b0 22 v) (h : DataW.Trod enc Try.prog w base sp held 22 v d p) :
    ∃ l : List Hd, SlAt w 9 v (l.map Hd.cl) ∧ l.length ≤ maxLen ∧ ∃ a c, v = .slice a l.length c := by
  obtain ⟨vs, hsl, hml, hrd⟩ := slice_open 9 (by omega) Try.underlying22 cells_held o h
  obtain ⟨l, rfl⟩ := hds_of vs hrd
  rw [List.length_map] at hml
  refine ⟨l, hsl, hml, ?_⟩
  obtain ⟨a, c, e, _⟩ := hsl
  exact ⟨a, c, by rw [e, List.length_map]⟩
set_option maxRecDepth 100000 in
theorem route_open {H : Type} {enc : TypeId × Value → H} {w : World} {base : Nat} {sp : Nat → Bool} {held : Bool} {r : Reach} {b0 : Nat} {v : Value} {d : DataW H} {p : List MemPlace} (o : Value.okWide Try.prog w r b0 30 v) (h : DataW.Trod enc Try.prog w base sp held 30 v d p) : ∃ x : Rt, v = x.val := by
  obtain ⟨cs, rfl, hsz, hf⟩ := struct_open Try.underlying30 o h
  obtain ⟨a0, e0, _⟩ := int_at Try.underlying2 cells_int (hf 0 _ rfl)
  obtain ⟨a1, e1, _⟩ := int_at Try.underlying2 cells_int (hf 1 _ rfl)
  obtain ⟨a2, e2, _⟩ := int_at Try.underlying2 cells_int (hf 2 _ rfl)
  obtain ⟨a3, e3, _⟩ := int_at Try.underlying2 cells_int (hf 3 _ rfl)
  obtain ⟨a4, e4, _⟩ := int_at Try.underlying2 cells_int (hf 4 _ rfl)
  obtain ⟨a5, e5, _⟩ := int_at Try.underlying2 cells_int (hf 5 _ rfl)
  obtain ⟨a6, e6⟩ := bool_at Try.underlying4 cells_bool (hf 6 _ rfl)
  obtain rfl := arr7 (hsz.trans cells_lroute) e0 e1 e2 e3 e4 e5 e6
  exact ⟨⟨a0, a1, a2, a3, a4, a5, a6⟩, rfl⟩
end Go.Proofs.Ytmkoppbbenombaa
