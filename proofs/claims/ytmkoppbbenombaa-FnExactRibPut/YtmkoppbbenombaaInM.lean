/- An element put into a sorted list: mathematics over whatever order. -/
import Derived.Test.YtmkoppbbenombaaB1
namespace Go.Proofs.Ytmkoppbbenombaa

structure OrdOk {α : Type} (lt same : α → α → Prop) : Prop where
  trans : ∀ {a b c}, lt a b → lt b c → lt a c
  nsame : ∀ {a b}, lt a b → ¬ same a b
  tri : ∀ {a b}, ¬ lt a b → ¬ lt b a → same a b
  symm : ∀ {a b}, same a b → same b a
  left : ∀ {a b c}, same a b → lt b c → lt a c
  right : ∀ {a b c}, same a b → lt c b → lt c a
section
variable {α : Type} {lt same : α → α → Prop} [DecidableRel lt] (O : OrdOk lt same)
def insL (lt : α → α → Prop) [DecidableRel lt] (x : α) : List α → List α
  | [] => [x]
  | y :: l => if lt y x then y :: insL lt x l else if lt x y then x :: y :: l else x :: l
theorem insL_len (x : α) (l : List α) : (insL lt x l).length ≤ l.length + 1 := by
  induction l with
  | nil => simp [insL]
  | cons y l ih =>
    unfold insL
    split
    · simpa using ih
    · split <;> simp
include O
theorem insL_mem (x : α) : ∀ (l : List α), l.Pairwise lt → ∀ z, z ∈ insL lt x l ↔ z = x ∨ (z ∈ l ∧ ¬ same x z) := by
  intro l
  induction l with
  | nil => intro _ z; simp [insL]
  | cons y l ih =>
    intro hp z
    obtain ⟨hy, hl⟩ := List.pairwise_cons.1 hp
    unfold insL
    by_cases h1 : lt y x
    · rw [if_pos h1, List.mem_cons, ih hl z, List.mem_cons]
      have hn : ¬ same x y := fun e => O.nsame h1 (O.symm e)
      constructor
      · rintro (rfl | rfl | ⟨h, h'⟩)
        · exact .inr ⟨.inl rfl, hn⟩
        · exact .inl rfl
        · exact .inr ⟨.inr h, h'⟩
      · rintro (rfl | ⟨rfl | h, h'⟩)
        · exact .inr (.inl rfl)
        · exact .inl rfl
        · exact .inr (.inr ⟨h, h'⟩)
    · rw [if_neg h1]
      by_cases h2 : lt x y
      · rw [if_pos h2, List.mem_cons]
        constructor
        · rintro (rfl | h)
          · exact .inl rfl
          · refine .inr ⟨h, ?_⟩
            rcases List.mem_cons.1 h with rfl | h
            · exact O.nsame h2
            · exact O.nsame (O.trans h2 (hy z h))
        · rintro (rfl | ⟨h, _⟩)
          · exact .inl rfl
          · exact .inr h
      · rw [if_neg h2, List.mem_cons, List.mem_cons]
        have hs : same x y := O.tri h2 h1
        constructor
        · rintro (rfl | h)
          · exact .inl rfl
          · exact .inr ⟨.inr h, O.nsame (O.left hs (hy z h))⟩
        · rintro (rfl | ⟨rfl | h, h'⟩)
          · exact .inl rfl
          · exact absurd hs h'
          · exact .inr h
theorem insL_pw (x : α) : ∀ (l : List α), l.Pairwise lt → (insL lt x l).Pairwise lt := by
  intro l
  induction l with
  | nil => intro _; simp [insL]
  | cons y l ih =>
    intro hp
    obtain ⟨hy, hl⟩ := List.pairwise_cons.1 hp
    unfold insL
    by_cases h1 : lt y x
    · rw [if_pos h1, List.pairwise_cons]
      refine ⟨fun z hz => ?_, ih hl⟩
      rcases (insL_mem O x l hl z).1 hz with rfl | ⟨h, _⟩
      · exact h1
      · exact hy z h
    · rw [if_neg h1]
      by_cases h2 : lt x y
      · rw [if_pos h2, List.pairwise_cons]
        refine ⟨fun z hz => ?_, hp⟩
        rcases List.mem_cons.1 hz with rfl | h
        · exact h2
        · exact O.trans h2 (hy z h)
      · rw [if_neg h2, List.pairwise_cons]
        exact ⟨fun z hz => O.left (O.tri h2 h1) (hy z hz), hl⟩
omit O in
/- where the model cuts -/
theorem insL_end (x : α) : ∀ (l : List α), (∀ j (h : j < l.length), lt l[j] x) → insL lt x l = l ++ [x] := by
  intro l
  induction l with
  | nil => intro _; rfl
  | cons y l ih =>
    intro h
    have h0 : lt y x := h 0 (by simp)
    unfold insL
    rw [if_pos h0, ih (fun j hj => h (j + 1) (by simpa using hj))]
    rfl
omit O in
theorem insL_new (x : α) : ∀ (l : List α) (k : Nat) (hk : k < l.length), (∀ j (h : j < l.length), j < k → lt l[j] x) → ¬ lt l[k] x → lt x l[k] → insL lt x l = l.take k ++ [x] ++ l.drop k := by
  intro l
  induction l with
  | nil => intro k hk; simp at hk
  | cons y l ih =>
    intro k hk h h1 h2
    cases k with
    | zero =>
      unfold insL
      rw [if_neg (by simpa using h1), if_pos (by simpa using h2)]
      rfl
    | succ k =>
      have h0 : lt y x := h 0 (by simp) (by omega)
      unfold insL
      rw [if_pos h0, ih k (by simpa using hk) (fun j hj hjk => h (j + 1) (by simpa using hj) (by omega)) (by simpa using h1) (by simpa using h2)]
      rfl
omit O in
theorem insL_hit (x : α) : ∀ (l : List α) (k : Nat) (hk : k < l.length), (∀ j (h : j < l.length), j < k → lt l[j] x) → ¬ lt l[k] x → ¬ lt x l[k] → insL lt x l = l.take k ++ [x] ++ l.drop (k + 1) := by
  intro l
  induction l with
  | nil => intro k hk; simp at hk
  | cons y l ih =>
    intro k hk h h1 h2
    cases k with
    | zero =>
      unfold insL
      rw [if_neg (by simpa using h1), if_neg (by simpa using h2)]
      rfl
    | succ k =>
      have h0 : lt y x := h 0 (by simp) (by omega)
      unfold insL
      rw [if_pos h0, ih k (by simpa using hk) (fun j hj hjk => h (j + 1) (by simpa using hj) (by omega)) (by simpa using h1) (by simpa using h2)]
      rfl
/- whether one like it is there -/
omit [DecidableRel lt] in
theorem hit_at {x : α} {l : List α} {k : Nat} (hk : k < l.length) (h1 : ¬ lt l[k] x) (h2 : ¬ lt x l[k]) : ∃ y ∈ l, same x y := ⟨l[k], List.getElem_mem hk, O.tri h2 h1⟩
omit [DecidableRel lt] in
theorem hit_not {x : α} {l : List α} {k : Nat} (hl : l.Pairwise lt) (hb : ∀ j (h : j < l.length), j < k → lt l[j] x) (ha : ∀ h : k < l.length, lt x l[k]) : ¬ ∃ y ∈ l, same x y := by
  rintro ⟨y, hy, hs⟩
  obtain ⟨j, hj, rfl⟩ := List.getElem_of_mem hy
  have hp := List.pairwise_iff_getElem.1 hl
  rcases Nat.lt_trichotomy j k with h | h | h
  · exact O.nsame (hb j hj h) (O.symm hs)
  · subst h; exact O.nsame (ha hj) hs
  · have hk : k < l.length := by omega
    exact O.nsame (O.trans (ha hk) (hp k j hk hj h)) hs
end
end Go.Proofs.Ytmkoppbbenombaa
