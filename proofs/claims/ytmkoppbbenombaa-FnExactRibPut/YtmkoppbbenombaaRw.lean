/- Rows of structs of whatever kind: their cells, a row being filled cell by cell. -/
import Derived.Test.YtmkoppbbenombaaB4
import Derived.OwnWalk
import Derived.Laws.OwnMore
namespace Go.Proofs.Ytmkoppbbenombaa
open Go.RowKit

section
variable {α : Type} (cl : α → List Value)
def rcells (l : List α) : List Value := l.flatMap cl
theorem rcells_app (a b : List α) : rcells cl (a ++ b) = rcells cl a ++ rcells cl b := by simp [rcells]
theorem rcells_snoc (a : List α) (x : α) : rcells cl (a ++ [x]) = rcells cl a ++ cl x := by simp [rcells]
theorem rcells_one (h : ∀ a, ∀ u ∈ cl a, u.oneCell' = true) (l : List α) : ∀ u ∈ rcells cl l, u.oneCell' = true := by
  intro u hu
  obtain ⟨r, _, hr⟩ := List.mem_flatMap.1 hu
  exact h r u hr
variable {cl} {sz : Nat} (hl : ∀ a, (cl a).length = sz)
include hl
theorem rcells_len (l : List α) : (rcells cl l).length = l.length * sz := by
  induction l with
  | nil => simp [rcells]
  | cons r l ih => rw [rcells, List.flatMap_cons, List.length_append]; rw [rcells] at ih; rw [ih, hl, List.length_cons, Nat.succ_mul]; omega
theorem rcells_at (l : List α) : ∀ (i : Nat) (hi : i < l.length) (j : Nat), j < sz → (rcells cl l)[i * sz + j]? = (cl l[i])[j]? := by
  induction l with
  | nil => intro i hi; simp at hi
  | cons p l ih =>
    intro i hi j hj
    cases i with
    | zero => rw [rcells, List.flatMap_cons, List.getElem?_append_left (by rw [hl]; omega)]; simp
    | succ i =>
      rw [rcells, List.flatMap_cons, List.getElem?_append_right (by rw [hl, Nat.succ_mul]; omega)]
      have e : (i + 1) * sz + j - (cl p).length = i * sz + j := by rw [hl, Nat.succ_mul]; omega
      rw [e]
      exact ih i (by simpa using hi) j hj
theorem rows_of_own {W : World} {B : Nat} {t : TypeId} {v : Value} {l : List α} (h : W.ownsRow B t sz v l.length (rcells cl l)) : SlAt W sz v (l.map cl) := by
  have hO := h
  obtain ⟨_, ⟨rfl, h0⟩ | ⟨g, cap, cur, rfl, hb, hh, hn, hm, hz, ht⟩⟩ := h
  · have e : l = [] := List.eq_nil_of_length_eq_zero h0
    subst e
    exact ⟨none, 0, rfl, fun h => absurd rfl h⟩
  · refine ⟨some ⟨g, 0, none⟩, cap, by simp, fun _ => ⟨g, 0, rfl, (hO.lt g rfl).2, fun i cs hi j u hj => ?_⟩⟩
    have hir : i < l.length := by have := (List.getElem?_eq_some_iff.1 hi).1; simpa using this
    have hcs : cs = cl l[i] := by rw [List.getElem?_map, List.getElem?_eq_getElem hir] at hi; simpa using hi.symm
    subst hcs
    have hj5 : j < sz := by have := (List.getElem?_eq_some_iff.1 hj).1; rw [hl] at this; exact this
    have hlt : i * sz + j < l.length * sz := by
      have := Nat.mul_le_mul_right sz (show i + 1 ≤ l.length from hir)
      rw [Nat.succ_mul] at this
      omega
    rw [Nat.zero_add, hO.cellAt (i * sz + j) hlt, ← hj]
    exact rcells_at hl l i hir j hj5
end
/- a row that is being filled: the first i elements are there, of the next one the first j0 cells -/
def RPart (W : World) (B : Nat) (t : TypeId) (sz g cap n : Nat) (f : Nat → List Value) (i j0 : Nat) : Prop :=
  ∃ zs, W.ownsRow B t sz (.slice (some ⟨g, 0, none⟩) n cap) n zs ∧ (∀ m, m < i → ∀ j, j < sz → zs[m * sz + j]? = (f m)[j]?) ∧ ∀ j, j < j0 → zs[i * sz + j]? = (f i)[j]?
section
variable {W W' : World} {B sz g cap n i j0 : Nat} {t : TypeId} {f : Nat → List Value}
theorem RPart.at_lt (hi : i < n) {j : Nat} (hj : j < sz) : i * sz + j < n * sz := by
  have := Nat.mul_le_mul_right sz (show i + 1 ≤ n from hi)
  rw [Nat.succ_mul] at this
  omega
theorem RPart.start {zs : List Value} (h : W.ownsRow B t sz (.slice (some ⟨g, 0, none⟩) n cap) n zs) : RPart W B t sz g cap n f 0 0 := ⟨zs, h, fun m hm => by omega, fun j hj => by omega⟩
theorem RPart.set (h : RPart W B t sz g cap n f i j0) (hi : i < n) (hj : j0 < sz) {u : Value} (hu : (f i)[j0]? = some u) : RPart (W.setCell ⟨g, i * sz + j0, none⟩ u) B t sz g cap n f i (j0 + 1) := by
  obtain ⟨zs, h1, h2, h3⟩ := h
  refine ⟨_, (h1.stored _ u).1, fun m hm j hj' => ?_, fun j hj' => ?_⟩
  · have hne : i * sz + j0 ≠ m * sz + j := by
      have := Nat.mul_le_mul_right sz (show m + 1 ≤ i from hm)
      rw [Nat.succ_mul] at this
      omega
    rw [List.getElem?_set_ne hne]
    exact h2 m hm j hj'
  · by_cases e : j = j0
    · subst e
      rw [List.getElem?_set_self (by rw [h1.1]; exact RPart.at_lt hi hj), hu]
    · rw [List.getElem?_set_ne (by omega)]
      exact h3 j (by omega)
theorem RPart.next (h : RPart W B t sz g cap n f i sz) : RPart W B t sz g cap n f (i + 1) 0 := by
  obtain ⟨zs, h1, h2, h3⟩ := h
  refine ⟨zs, h1, fun m hm j hj => ?_, fun j hj => by omega⟩
  by_cases e : m = i
  · subst e; exact h3 j hj
  · exact h2 m (by omega) j hj
theorem RPart.cell (h : RPart W B t sz g cap n f i j0) (j : Nat) (hi : i < n) (hj : j < sz) : ∃ z, W.cell? ⟨g, i * sz + j, none⟩ = some z := by
  obtain ⟨zs, h1, _⟩ := h
  have hlt := RPart.at_lt hi hj
  exact ⟨zs[i * sz + j]'(by rw [h1.1]; exact hlt), by rw [h1.cellAt _ hlt, List.getElem?_eq_getElem (by rw [h1.1]; exact hlt)]⟩
theorem RPart.frozen (h : RPart W B t sz g cap n f i j0) (o : Nat) : W.frozen? ⟨g, o, none⟩ = false := by
  obtain ⟨zs, h1, _⟩ := h
  exact h1.frozenAt o
theorem RPart.kept (h : RPart W B t sz g cap n f i j0) (hb : Below W.heap.size W W') : RPart W' B t sz g cap n f i j0 := by
  obtain ⟨zs, h1, h2, h3⟩ := h
  exact ⟨zs, h1.kept (below_grown' (row := none) hb) (.inr (by simp [Value.ownBlock])), h2, h3⟩
theorem RPart.done {α : Type} {cl : α → List Value} (hl : ∀ a, (cl a).length = sz) (h0 : 0 < sz) (h : RPart W B t sz g cap n f n 0) {l : List α} (hn : l.length = n) (hf : ∀ m (h : m < l.length), f m = cl l[m]) :
    W.ownsRow B t sz (.slice (some ⟨g, 0, none⟩) n cap) n (rcells cl l) := by
  obtain ⟨zs, h1, h2, _⟩ := h
  have : zs = rcells cl l := by
    apply List.ext_getElem?
    intro o
    by_cases ho : o < n * sz
    · have e : o = o / sz * sz + o % sz := by rw [Nat.mul_comm]; exact (Nat.div_add_mod o sz).symm
      have hd : o / sz < n := by rw [Nat.div_lt_iff_lt_mul h0]; exact ho
      have hr := Nat.mod_lt o h0
      rw [e, h2 (o / sz) hd (o % sz) hr, hf _ (by omega), rcells_at hl l (o / sz) (by omega) (o % sz) hr]
    · rw [List.getElem?_eq_none (by rw [h1.1]; omega), List.getElem?_eq_none (by rw [rcells_len hl, hn]; omega)]
  rw [← this]
  exact h1
theorem grownSet {a b : World} {g j : Nat} {u : Value} (h : a.grownBy b (some g)) : a.grownBy (b.setCell ⟨g, j, none⟩ u) (some g) :=
  ⟨h.os, h.tape, h.output, by simpa using h.size, fun k hk hr => (Below.heap_setCell b _ _ k (fun e => hr (by rw [e]))).trans (h.block k hk hr)⟩
theorem grownTrans {a b c : World} {row : Option Nat} (h : a.grownBy b row) (h' : b.grownBy c row) : a.grownBy c row :=
  ⟨h'.os.trans h.os, h'.tape.trans h.tape, h'.output.trans h.output, Nat.le_trans h.size h'.size, fun k hk hr => (h'.block k (Nat.lt_of_lt_of_le hk h.size) hr).trans (h.block k hk hr)⟩
end
/- what a function hands back that makes a row of its own -/
def RowPost {α : Type} (cl : α → List Value) (t : TypeId) (sz : Nat) (l : List α) (w : World) (e : Ending) (w' : World) : Prop :=
  ∃ v, e = .returned v ∧ w'.ownsRow w.heap.size t sz v l.length (rcells cl l) ∧ Below w.heap.size w w'
/- what a function that marks a row does -/
def MarkPost {α : Type} (cl : α → List Value) (t : TypeId) (sz B : Nat) (v : Value) (k : Nat) (l : List α) (w : World) (e : Ending) (w' : World) : Prop :=
  e = .returned (.int .i64 ((k + sz * l.length : Nat) : Int)) ∧ w'.ownsRow B t sz v l.length (rcells cl l) ∧ w.grownBy w' v.ownBlock
theorem rown_below {W W' : World} {B n : Nat} {t : TypeId} {sz : Nat} {v : Value} {xs : List Value} (h : W.ownsRow B t sz v n xs) (hb : Below W.heap.size W W') : W'.ownsRow B t sz v n xs :=
  h.kept (below_grown' (row := none) hb) (by cases hv : v.ownBlock <;> simp)
theorem rown_mono {W : World} {B B' n : Nat} {t : TypeId} {sz : Nat} {v : Value} {xs : List Value} (h : W.ownsRow B t sz v n xs) (hb : B' ≤ B) : W.ownsRow B' t sz v n xs := by
  refine ⟨h.1, ?_⟩
  rcases h.2 with h | ⟨g, cap, cur, h1, h2, h3⟩
  · exact .inl h
  · exact .inr ⟨g, cap, cur, h1, Nat.le_trans hb h2, h3⟩
theorem rown_form {W : World} {B n sz : Nat} {t : TypeId} {v : Value} {xs : List Value} (h : W.ownsRow B t sz v n xs) : ∃ a c, v = .slice a n c := by
  rcases h.2 with ⟨rfl, rfl⟩ | ⟨g, cap, cur, rfl, _⟩
  · exact ⟨_, _, rfl⟩
  · exact ⟨_, _, rfl⟩
/- a made row -/
theorem made_at {w w' : World} {n B : Nat} {t : TypeId} {sz : Nat} {z : List Value} {f : Nat → List Value} (h : w'.ownsRow B t sz (.slice (some ⟨w.heap.size, 0, none⟩) n n) n z) : RPart w' B t sz w.heap.size n n f 0 0 := RPart.start h
end Go.Proofs.Ytmkoppbbenombaa
