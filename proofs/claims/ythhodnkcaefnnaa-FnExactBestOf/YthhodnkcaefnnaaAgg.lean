/- A struct that came in by value: its cells. -/
import Derived.Test.YthhodnkcaefnnaaBase
import Derived.WideShapes
import Derived.ChangeArms
import Derived.OpenShut
namespace Go.Proofs.Ythhodnkcaefnnaa
open Go.RowKit Go.WideShapes Go.ChangeShapes

section
variable {H : Type} {enc : TypeId × Value → H} {P : Program} {w : World} {base : Nat} {sp : Nat → Bool} {held : Bool}
/- some reading of the cells of a field -/
def Reads (enc : TypeId × Value → H) (P : Program) (w : World) (base : Nat) (sp : Nat → Bool) (held : Bool) (t : TypeId) (cs : List Value) : Prop := ∃ n y, DataW.trod enc P w base sp held n t cs = some y
theorem struct_reads {t : TypeId} {fs : Array Field} {cs : List Value} (ht : P.underlying t = some (.struct fs)) (h : Reads enc P w base sp held t cs) :
    ∀ (i : Nat) (f : Field), fs[i]? = some f → Reads enc P w base sp held f.type ((cs.drop f.offset).take (P.cellsOf f.type)) := by
  obtain ⟨n, y, h⟩ := h
  obtain ⟨xs, m, _, _, _, hl, hf⟩ := DataW.trod_struct ht h
  intro i f hi
  have hlt : i < fs.size := (Array.getElem?_eq_some_iff.1 hi).1
  exact ⟨m, _, (hf i f hi).trans (List.getElem?_eq_getElem (by omega))⟩
theorem struct_open {r : Reach} {b0 : Nat} {t : TypeId} {fs : Array Field} {v : Value} {d : DataW H} {p : List MemPlace} (ht : P.underlying t = some (.struct fs)) (o : Value.okWide P w r b0 t v) (h : DataW.Trod enc P w base sp held t v d p) :
    ∃ cs : Array Value, v = .agg cs ∧ cs.size = P.cellsOf t ∧ ∀ (i : Nat) (f : Field), fs[i]? = some f → Reads enc P w base sp held f.type ((cs.toList.drop f.offset).take (P.cellsOf f.type)) := by
  obtain ⟨cs, rfl, hsz⟩ := okWide_struct ht o
  obtain ⟨n, hn⟩ := h
  exact ⟨cs, rfl, hsz, struct_reads ht ⟨n, _, hn⟩⟩
theorem take_one {cs : List Value} {off : Nat} {x : Value} (h : (cs.drop off).take 1 = [x]) : cs[off]? = some x := by
  have := congrArg (fun l : List Value => l[0]?) h
  simpa [List.getElem?_take, List.getElem?_drop] using this
theorem int_at {t : TypeId} {k : IntKind} {cs : List Value} {off : Nat} (ht : P.underlying t = some (.int k)) (hc : P.cellsOf t = 1) (h : Reads enc P w base sp held t ((cs.drop off).take (P.cellsOf t))) : ∃ a : Int, cs[off]? = some (.int k a) ∧ (Lit.int k a).wf = true := by
  obtain ⟨n, y, h⟩ := h
  rw [hc] at h
  obtain ⟨a, e, _, hw⟩ := DataW.trod_int ht h
  exact ⟨a, take_one e, hw⟩
theorem bool_at {t : TypeId} {cs : List Value} {off : Nat} (ht : P.underlying t = some .bool) (hc : P.cellsOf t = 1) (h : Reads enc P w base sp held t ((cs.drop off).take (P.cellsOf t))) : ∃ a : Bool, cs[off]? = some (.bool a) := by
  obtain ⟨n, y, h⟩ := h
  rw [hc] at h
  obtain ⟨a, e, _⟩ := DataW.trod_bool ht h
  exact ⟨a, take_one e⟩
theorem string_at {t : TypeId} {cs : List Value} {off : Nat} (ht : P.underlying t = some .string) (hc : P.cellsOf t = 1) (h : Reads enc P w base sp held t ((cs.drop off).take (P.cellsOf t))) : ∃ a : ByteArray, cs[off]? = some (.string a) ∧ a.size ≤ maxLen := by
  obtain ⟨n, y, h⟩ := h
  rw [hc] at h
  obtain ⟨a, e, _, hw⟩ := DataW.trod_string ht h
  exact ⟨a, take_one e, hw⟩
end
theorem arr4 {cs : Array Value} {a0 a1 a2 a3 : Value} (h : cs.size = 4) (e0 : cs.toList[0]? = some a0) (e1 : cs.toList[1]? = some a1) (e2 : cs.toList[2]? = some a2) (e3 : cs.toList[3]? = some a3) : cs = #[a0, a1, a2, a3] := by
  obtain ⟨l⟩ := cs
  match l, h with
  | [c0, c1, c2, c3], _ => simp at e0 e1 e2 e3; subst e0 e1 e2 e3; rfl
theorem arr5 {cs : Array Value} {a0 a1 a2 a3 a4 : Value} (h : cs.size = 5) (e0 : cs.toList[0]? = some a0) (e1 : cs.toList[1]? = some a1) (e2 : cs.toList[2]? = some a2) (e3 : cs.toList[3]? = some a3) (e4 : cs.toList[4]? = some a4) : cs = #[a0, a1, a2, a3, a4] := by
  obtain ⟨l⟩ := cs
  match l, h with
  | [c0, c1, c2, c3, c4], _ => simp at e0 e1 e2 e3 e4; subst e0 e1 e2 e3 e4; rfl
theorem arr7 {cs : Array Value} {a0 a1 a2 a3 a4 a5 a6 : Value} (h : cs.size = 7) (e0 : cs.toList[0]? = some a0) (e1 : cs.toList[1]? = some a1) (e2 : cs.toList[2]? = some a2) (e3 : cs.toList[3]? = some a3) (e4 : cs.toList[4]? = some a4) (e5 : cs.toList[5]? = some a5) (e6 : cs.toList[6]? = some a6) : cs = #[a0, a1, a2, a3, a4, a5, a6] := by
  obtain ⟨l⟩ := cs
  match l, h with
  | [c0, c1, c2, c3, c4, c5, c6], _ => simp at e0 e1 e2 e3 e4 e5 e6; subst e0 e1 e2 e3 e4 e5 e6; rfl
theorem cells_int : Try.prog.cellsOf 2 = 1 := by kernel_rfl
theorem cells_str : Try.prog.cellsOf 9 = 1 := by kernel_rfl
theorem cells_bool : Try.prog.cellsOf 4 = 1 := by kernel_rfl
end Go.Proofs.Ythhodnkcaefnnaa
