/- firstHeap of Int: its order, Len, Less, Swap. -/
import Derived.Test.YtmkoppbbenombaaFhC
import Derived.Test.YtmkoppbbenombaaApR
import Derived.Test.YtmkoppbbenombaaMg
import Derived.Test.YtmkoppbbenombaaGu
namespace Go.Proofs.Ytmkoppbbenombaa
open Go.RowKit

def clI (x : Int) : List Value := [.int .i64 x]
theorem clI_len (x : Int) : (clI x).length = 1 := rfl
theorem clI_one (x : Int) : ∀ u ∈ clI x, u.oneCell' = true := by
  intro u hu
  simp only [clI, List.mem_cons, List.not_mem_nil, or_false] at hu
  subst hu; rfl
theorem infoI : (Try.prog.info? 2).map (fun i => (i.zero, i.size, i.bytes)) = some (some (.int .i64 0), 1, 8) := by kernel_rfl
theorem tyI : RowTy Try.prog 46 2 1 8 := by
  refine ⟨Try.underlying46, ?_, by decide, by decide⟩
  obtain ⟨i0, hi0, hz0, hz1, hz2⟩ := info_parts infoI
  exact ⟨i0, _, hi0, hz0, hz1, hz2, rfl⟩
def ordI : Hord Int := ⟨0, fun a b => a < b, fun a => by omega, fun h h' => by omega, fun h h' => by omega⟩
def lessI (a b : Int) : Bool := decide (a < b)
theorem lessI_iff (a b : Int) : lessI a b = true ↔ ordI.lt a b := by unfold lessI ordI; simp
theorem lessI_no (a b : Int) : lessI a b = false ↔ ¬ ordI.lt a b := by rw [← lessI_iff]; simp
theorem Elems.eI {W : World} {b off : Nat} {l : List Int} (h : Elems W b off 1 (l.map clI)) (i : Nat) (hi : i < l.length) : W.cell? ⟨b, off + i, none⟩ = some (.int .i64 l[i]) := by
  have k := h i (clI l[i]) (by rw [List.getElem?_map, List.getElem?_eq_getElem hi]; rfl) 0 _ rfl
  rw [Nat.mul_one] at k
  exact k
/- two elements exchanged in the row -/
theorem rcellsGI_swap {es : List Int} {i j : Nat} {zs : List Value} (hi : i < es.length) (hj : j < es.length) (hl : zs.length = es.length * 1) (h : ∀ k, k < es.length → ∀ o, o < 1 → zs[k * 1 + o]? = (clI (if k = j then hG ordI es i else if k = i then hG ordI es j else hG ordI es k))[o]?) : zs = rcells clI (swapG ordI es i j) := by
  apply List.ext_getElem?
  intro o
  by_cases ho : o < es.length * 1
  · have e : o = o / 1 * 1 + o % 1 := by omega
    have hs : o / 1 < (swapG ordI es i j).length := by rw [swapG_len]; omega
    have hr := rcells_at clI_len (swapG ordI es i j) (o / 1) hs (o % 1) (by omega)
    rw [← hG_eq (O := ordI) hs, hG_swap hi hj] at hr
    rw [← e] at hr
    have hz := h (o / 1) (by omega) (o % 1) (by omega)
    rw [← e] at hz
    rw [hz, hr]
  · rw [List.getElem?_eq_none (by omega), List.getElem?_eq_none (by rw [rcells_len clI_len, swapG_len]; omega)]
/- a row's cells, told by element and place -/
def RowFI (W : World) (B g cap n : Nat) (F : Nat → Nat → Option Value) : Prop := ∃ zs, W.ownsRow B 2 1 (.slice (some ⟨g, 0, none⟩) n cap) n zs ∧ ∀ k, k < n → ∀ o, o < 1 → zs[k * 1 + o]? = F k o
section
variable {W : World} {B g cap n : Nat} {F : Nat → Nat → Option Value}
theorem RowFI.set (h : RowFI W B g cap n F) {i o0 : Nat} (hi : i < n) (ho : o0 < 1) (u : Value) : RowFI (W.setCell ⟨g, i * 1 + o0, none⟩ u) B g cap n (fun k o => if k = i ∧ o = o0 then some u else F k o) := by
  obtain ⟨zs, h1, h2⟩ := h
  refine ⟨_, (h1.stored _ u).1, fun k hk o ho' => ?_⟩
  dsimp only
  by_cases e : k = i ∧ o = o0
  · obtain ⟨rfl, rfl⟩ := e
    rw [List.getElem?_set_self (by rw [h1.1]; omega), if_pos ⟨rfl, rfl⟩]
  · rw [if_neg e, List.getElem?_set_ne (by omega)]
    exact h2 k hk o ho'
theorem RowFI.as {F' : Nat → Nat → Option Value} (h : RowFI W B g cap n F) (he : ∀ k, k < n → ∀ o, o < 1 → F k o = F' k o) : RowFI W B g cap n F' := by
  obtain ⟨zs, h1, h2⟩ := h
  exact ⟨zs, h1, fun k hk o ho => (h2 k hk o ho).trans (he k hk o ho)⟩
theorem RowFI.cell (h : RowFI W B g cap n F) {i : Nat} (hi : i < n) (o : Nat) (ho : o < 1) : ∃ z, W.cell? ⟨g, i * 1 + o, none⟩ = some z := by
  obtain ⟨zs, h1, _⟩ := h
  exact ⟨zs[i * 1 + o]'(by rw [h1.1]; omega), by rw [h1.cellAt _ (by omega), List.getElem?_eq_getElem (by rw [h1.1]; omega)]⟩
theorem RowFI.frozen (h : RowFI W B g cap n F) (o : Nat) : W.frozen? ⟨g, o, none⟩ = false := by
  obtain ⟨zs, h1, _⟩ := h
  exact h1.frozenAt o
theorem RowFI.put (h : RowFI W B g cap n F) {i : Nat} (hi : i < n) (x : Int) :
    RowFI (W.setCell ⟨g, i, none⟩ (.int .i64 x)) B g cap n (fun k o => if k = i then (clI x)[o]? else F k o) := by
  refine RowFI.as (by have := h.set (o0 := 0) hi (by omega) (.int .i64 x); rw [Nat.mul_one, Nat.add_zero] at this; exact this) (fun k hk o ho => ?_)
  by_cases e : k = i
  · subst e
    have hc : o = 0 := by omega
    rcases hc with rfl <;> simp [clI]
  · simp [e]
end
theorem fhGrownI {W : World} {g : Nat} (i : Nat) (x : Int) : W.grownBy (W.setCell ⟨g, i, none⟩ (.int .i64 x)) (some g) := (grownSet (World.grownBy.refl _ _))
theorem fhFarI {W : World} {g hb : Nat} {t : TypeId} {cs : Array Value} (hne : hb ≠ g) (h : Blk W hb t cs) (i : Nat) (x : Int) : Blk (W.setCell ⟨g, i, none⟩ (.int .i64 x)) hb t cs := (h.far hne)
end Go.Proofs.Ytmkoppbbenombaa
