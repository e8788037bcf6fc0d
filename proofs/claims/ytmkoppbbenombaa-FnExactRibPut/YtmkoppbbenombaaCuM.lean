/- Slices of structs cut: s[:k], s[k:]. -/
import Derived.Test.YtmkoppbbenombaaApR
import Derived.Test.YtmkoppbbenombaaInM
namespace Go.Proofs.Ytmkoppbbenombaa
open Go.RowKit

def NcOk (v : Value) : Prop := ∀ a n c, v = .slice a n c → (a = none → n = 0 ∧ c = 0) ∧ n ≤ c
theorem NcOk.of_own {W : World} {B n sz : Nat} {t : TypeId} {v : Value} {xs : List Value} (h : W.ownsRow B t sz v n xs) : NcOk v := by
  intro a m c e
  rcases h.2 with ⟨rfl, h0⟩ | ⟨g, cap, cur, rfl, _, _, hn, _⟩
  · injection e with e1 e2 e3
    subst e1 e2 e3
    exact ⟨fun _ => ⟨rfl, rfl⟩, Nat.le_refl _⟩
  · injection e with e1 e2 e3
    subst e1 e2 e3
    exact ⟨fun h => (by cases h), hn⟩
section
variable {α : Type} {cl : α → List Value} {sz : Nat} {W : World} {a : Option Addr} {n cap : Nat} {l : List α}
theorem cut_take (h : SlAt W sz (.slice a n cap) (l.map cl)) (hc : NcOk (.slice a n cap)) (k : Nat) (hk : k ≤ n) :
    ∃ a', sliced a 0 k cap sz = .slice a' k cap ∧ SlAt W sz (.slice a' k cap) ((l.take k).map cl) ∧ NilOk (.slice a' k cap) := by
  obtain ⟨h1, h2⟩ := hc _ _ _ rfl
  obtain ⟨a0, c0, e, hE⟩ := h
  injection e with e1 e2 e3
  subst e1 e3
  rw [List.length_map] at e2
  unfold sliced
  refine ⟨_, rfl, ⟨_, _, by rw [List.length_map, List.length_take]; congr 1; omega, fun hne => ?_⟩, fun m c e => ?_⟩
  · have hl : l.map cl ≠ [] := fun e => hne (by rw [List.map_take, e, List.take_nil])
    obtain ⟨b, off, rfl, hb, hEl⟩ := hE hl
    refine ⟨b, off, by split <;> simp [Addr.add_lit], hb, fun i cs hi j u hj => ?_⟩
    rw [List.map_take] at hi
    have hi2 : (l.map cl)[i]? = some cs := by
      rw [List.getElem?_take] at hi
      split at hi
      · exact hi
      · cases hi
    exact hEl i cs hi2 j u hj
  · injection e with e4 e5 e6
    subst e5 e6
    have hn : a = none := by
      revert e4
      split
      · exact id
      · cases a <;> simp
    have := h1 hn
    omega
theorem cut_drop (h : SlAt W sz (.slice a n cap) (l.map cl)) (hc : NcOk (.slice a n cap)) (k : Nat) (hk : k ≤ n) :
    ∃ a', sliced a k n cap sz = .slice a' (n - k) (cap - k) ∧ SlAt W sz (.slice a' (n - k) (cap - k)) ((l.drop k).map cl) ∧ NilOk (.slice a' (n - k) (cap - k)) := by
  obtain ⟨h1, h2⟩ := hc _ _ _ rfl
  obtain ⟨a0, c0, e, hE⟩ := h
  injection e with e1 e2 e3
  subst e1 e3
  rw [List.length_map] at e2
  unfold sliced
  refine ⟨_, rfl, ⟨_, _, by rw [List.length_map, List.length_drop]; congr 1; omega, fun hne => ?_⟩, fun m c e => ?_⟩
  · have hkl : k < l.length := by
      rcases Nat.lt_or_ge k l.length with h | h
      · exact h
      · exact absurd (by rw [List.drop_of_length_le h]; rfl) hne
    have hl : l.map cl ≠ [] := fun e => by
      have := congrArg List.length e
      rw [List.length_map] at this
      simp at this
      rw [this] at hkl
      simp at hkl
    obtain ⟨b, off, rfl, hb, hEl⟩ := hE hl
    have hne2 : ¬ cap = k := by omega
    refine ⟨b, off + k * sz, by rw [if_neg hne2]; simp [Addr.add_lit], hb, fun i cs hi j u hj => ?_⟩
    rw [List.map_drop, List.getElem?_drop] at hi
    have := hEl (k + i) cs hi j u hj
    rw [← this, Nat.add_mul, Nat.add_assoc off]
  · injection e with e4 e5 e6
    subst e5 e6
    have hn : a = none := by
      revert e4
      split
      · exact id
      · cases a <;> simp
    have := h1 hn
    omega
end
end Go.Proofs.Ytmkoppbbenombaa
