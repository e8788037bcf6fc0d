/- The first best route, as plain mathematics: whether it is looked for in one list or in the houses' lists, one behind the other. -/
import Derived.Test.YthhodnkcaefnnaaRtU
import Derived.Test.YthhodnkcaefnnaaRtC
namespace Go.Proofs.Ythhodnkcaefnnaa
open Go.RowKit

theorem ite_or {c p q : Prop} [Decidable c] : (if c then p else q) ↔ (c ∧ p) ∨ (¬ c ∧ q) := by split <;> simp [*]
theorem rank_trans {a b c : Rt} (h1 : rank a b = true) (h2 : rank b c = true) : rank a c = true := by
  unfold rank at *
  obtain ⟨k, v, m, i, o, s, t⟩ := a
  obtain ⟨k', v', m', i', o', s', t'⟩ := b
  obtain ⟨k'', v'', m'', i'', o'', s'', t''⟩ := c
  dsimp only at *
  cases t <;> cases t' <;> cases t'' <;> simp at h1 h2 ⊢
  all_goals (simp only [ite_or] at *; omega)
theorem rank_neg {a b c : Rt} (h1 : rank a b = true) (h2 : rank c b = false) : rank a c = true := by
  unfold rank at *
  obtain ⟨k, v, m, i, o, s, t⟩ := a
  obtain ⟨k', v', m', i', o', s', t'⟩ := b
  obtain ⟨k'', v'', m'', i'', o'', s'', t''⟩ := c
  dsimp only at *
  cases t <;> cases t' <;> cases t'' <;> simp at h1 h2 ⊢
  all_goals (simp only [ite_or] at *; omega)
theorem rank_self (a : Rt) : rank a a = false := by unfold rank; simp
theorem rank_org_eq {a b : Rt} (h1 : rank a b = false) (h2 : rank b a = false) : a.org = b.org := by
  unfold rank at *
  obtain ⟨k, v, m, i, o, s, t⟩ := a
  obtain ⟨k', v', m', i', o', s', t'⟩ := b
  dsimp only at *
  cases t <;> cases t' <;> simp at h1 h2 ⊢
  all_goals (simp only [ite_or] at *; omega)

def mxStep (b : Option Rt) (x : Rt) : Option Rt := match b with
  | none => some x
  | some y => if rank x y = true then some x else some y
def mx (l : List Rt) : Option Rt := l.foldl mxStep none
def topOf (l : List Rt) (b : Rt) : Bool := l.all fun x => !rank x b
theorem mx_snoc (l : List Rt) (x : Rt) : mx (l ++ [x]) = mxStep (mx l) x := by unfold mx; rw [List.foldl_append]; rfl
theorem find_none_of {p : Rt → Bool} : ∀ {l : List Rt}, (∀ x ∈ l, p x = false) → l.find? p = none
  | [], _ => rfl
  | x :: l, h => by rw [List.find?_cons, h x (by simp)]; exact find_none_of (fun y hy => h y (by simp [hy]))
theorem mx_find (l : List Rt) : mx l = l.find? (topOf l) := by
  have key : ∀ n (l : List Rt), l.length = n → mx l = l.find? (topOf l) := by
    intro n
    induction n with
    | zero => intro l hl; rw [List.eq_nil_of_length_eq_zero hl]; rfl
    | succ n ih =>
      intro l hl
      obtain ⟨l', x, rfl⟩ : ∃ l' x, l = l' ++ [x] := by
        rcases List.eq_nil_or_concat l with rfl | ⟨l', x, rfl⟩
        · simp at hl
        · exact ⟨l', x, List.concat_eq_append⟩
      have ihl := ih l' (by simpa using hl)
      rw [mx_snoc, ihl, List.find?_append]
      have htop : ∀ y, topOf (l' ++ [x]) y = (topOf l' y && !rank x y) := fun y => by simp [topOf]
      cases hf : l'.find? (topOf l') with
      | none =>
        have hl0 : l' = [] := by
          rcases List.eq_nil_or_concat l' with h | ⟨m, y, rfl⟩
          · exact h
          · exfalso
            rw [← ihl, List.concat_eq_append, mx_snoc] at hf
            unfold mxStep at hf
            split at hf
            · cases hf
            · split at hf <;> cases hf
        subst hl0
        simp [mxStep, topOf, rank_self]
      | some b =>
        have hb := List.find?_some hf
        have hmem := List.mem_of_find?_eq_some hf
        have hall : ∀ y ∈ l', rank y b = false := fun y hy => by
          have := (List.all_eq_true.1 hb) y hy
          simpa using this
        by_cases hr : rank x b = true
        · have h0 : l'.find? (topOf (l' ++ [x])) = none := find_none_of fun y hy => by
            rw [htop, rank_neg hr (hall y hy)]; simp
          have h1 : topOf (l' ++ [x]) x = true := by
            rw [htop, rank_self, topOf, Bool.not_false, Bool.and_true, List.all_eq_true]
            intro y hy
            cases hyx : rank y x
            · rfl
            · have := rank_trans hyx hr; rw [hall y hy] at this; cases this
          rw [h0]
          simp [mxStep, hr, h1]
        · have hr' : rank x b = false := by simpa using hr
          have h0 : l'.find? (topOf (l' ++ [x])) = some b := by
            rw [List.find?_eq_some_iff_append] at hf ⊢
            obtain ⟨_, us, vs, e, hbefore⟩ := hf
            refine ⟨by rw [htop, hb, hr']; rfl, us, vs, e, fun y hy => ?_⟩
            have := hbefore y hy
            simp only [Bool.not_eq_true'] at this
            rw [htop, this]; rfl
          rw [h0]
          simp [mxStep, hr']
  exact key _ l rfl

/- the houses' lists -/
def ofHouse (q : List Rt) (h : Int) : List Rt := q.filter fun r => decide (r.org = h)
def byHouse (q : List Rt) : List Rt := ofHouse q 1 ++ (ofHouse q 2 ++ (ofHouse q 3 ++ ofHouse q 4))
theorem mem_byHouse {q : List Rt} (hq : ∀ r ∈ q, 1 ≤ r.org ∧ r.org ≤ 4) (r : Rt) : r ∈ byHouse q ↔ r ∈ q := by
  simp only [byHouse, ofHouse, List.mem_append, List.mem_filter, decide_eq_true_eq]
  constructor
  · rintro (⟨h, _⟩ | ⟨h, _⟩ | ⟨h, _⟩ | ⟨h, _⟩) <;> exact h
  · intro h
    have := hq r h
    have hc : r.org = 1 ∨ r.org = 2 ∨ r.org = 3 ∨ r.org = 4 := by omega
    rcases hc with e | e | e | e
    · exact .inl ⟨h, e⟩
    · exact .inr (.inl ⟨h, e⟩)
    · exact .inr (.inr (.inl ⟨h, e⟩))
    · exact .inr (.inr (.inr ⟨h, e⟩))
theorem filter_filter_ne (q : List Rt) (a b : Int) (h : a ≠ b) : (ofHouse q a).filter (fun r => decide (r.org = b)) = [] := by
  rw [List.filter_eq_nil_iff]
  intro r hr
  have := (List.mem_filter.1 hr).2
  simp only [decide_eq_true_eq] at this ⊢
  omega
theorem filter_filter_same (q : List Rt) (a : Int) : (ofHouse q a).filter (fun r => decide (r.org = a)) = ofHouse q a := by
  rw [ofHouse, List.filter_filter]; simp
theorem house_byHouse (q : List Rt) (a : Int) (ha : 1 ≤ a ∧ a ≤ 4) : (byHouse q).filter (fun r => decide (r.org = a)) = ofHouse q a := by
  have hc : a = 1 ∨ a = 2 ∨ a = 3 ∨ a = 4 := by omega
  rw [byHouse, List.filter_append, List.filter_append, List.filter_append]
  rcases hc with rfl | rfl | rfl | rfl
  · rw [filter_filter_same, filter_filter_ne q 2 1 (by omega), filter_filter_ne q 3 1 (by omega), filter_filter_ne q 4 1 (by omega)]; simp
  · rw [filter_filter_ne q 1 2 (by omega), filter_filter_same, filter_filter_ne q 3 2 (by omega), filter_filter_ne q 4 2 (by omega)]; simp
  · rw [filter_filter_ne q 1 3 (by omega), filter_filter_ne q 2 3 (by omega), filter_filter_same, filter_filter_ne q 4 3 (by omega)]; simp
  · rw [filter_filter_ne q 1 4 (by omega), filter_filter_ne q 2 4 (by omega), filter_filter_ne q 3 4 (by omega), filter_filter_same]; simp
theorem find_filter (p c : Rt → Bool) (l : List Rt) (h : ∀ x ∈ l, p x = true → c x = true) : l.find? p = (l.filter c).find? p := by
  induction l with
  | nil => rfl
  | cons x l ih =>
    have ih' := ih (fun y hy => h y (by simp [hy]))
    cases hp : p x
    · cases hcx : c x
      · rw [List.find?_cons, hp, List.filter_cons, hcx]; exact ih'
      · rw [List.find?_cons, hp, List.filter_cons, hcx, if_pos rfl, List.find?_cons, hp]; exact ih'
    · rw [List.find?_cons, hp, List.filter_cons, h x (by simp) hp, if_pos rfl, List.find?_cons, hp]
theorem topOf_congr {l l' : List Rt} (h : ∀ r, r ∈ l' ↔ r ∈ l) (b : Rt) : topOf l' b = topOf l b := by
  unfold topOf
  rw [Bool.eq_iff_iff, List.all_eq_true, List.all_eq_true]
  exact ⟨fun k x hx => k x ((h x).2 hx), fun k x hx => k x ((h x).1 hx)⟩
theorem mx_byHouse (q : List Rt) (hq : ∀ r ∈ q, 1 ≤ r.org ∧ r.org ≤ 4) : mx (byHouse q) = mx q := by
  rw [mx_find, mx_find]
  have hm := mem_byHouse hq
  have ht : topOf (byHouse q) = topOf q := funext fun b => topOf_congr hm b
  rw [ht]
  by_cases hex : ∃ b ∈ q, topOf q b = true
  · obtain ⟨b, hb, hbt⟩ := hex
    have hc : ∀ x ∈ q, topOf q x = true → decide (x.org = b.org) = true := fun x hx hxt => by
      have h1 := (List.all_eq_true.1 hxt) b hb
      have h2 := (List.all_eq_true.1 hbt) x hx
      simp only [Bool.not_eq_true'] at h1 h2
      simpa using rank_org_eq h2 h1
    rw [find_filter _ _ q hc, find_filter _ _ (byHouse q) (fun x hx => hc x ((hm x).1 hx)), house_byHouse q b.org (hq b hb)]
    rfl
  · have hn : ∀ x ∈ q, topOf q x = false := fun x hx => by
      cases h : topOf q x
      · rfl
      · exact absurd ⟨x, hx, h⟩ hex
    rw [find_none_of hn, find_none_of (fun x hx => hn x ((hm x).1 hx))]

/- the model's fold -/
def guestQ (v m : Int) (l : List Rt) : List Rt := l.filter fun r => hasR v m r
theorem bestL_mx (v m : Int) (l : List Rt) : bestL v m l = (mx (guestQ v m l)).getD Rt.zero ∧ ((mx (guestQ v m l)).isSome = true → ¬ (bestL v m l).kind = 0) ∧ (mx (guestQ v m l) = none → (bestL v m l).kind = 0) := by
  have key : ∀ n (l : List Rt), l.length = n → bestL v m l = (mx (guestQ v m l)).getD Rt.zero ∧ ((mx (guestQ v m l)).isSome = true → ¬ (bestL v m l).kind = 0) ∧ (mx (guestQ v m l) = none → (bestL v m l).kind = 0) := by
    intro n
    induction n with
    | zero => intro l hl; rw [List.eq_nil_of_length_eq_zero hl]; exact ⟨rfl, fun h => absurd h Bool.false_ne_true, fun _ => rfl⟩
    | succ n ih =>
      intro l hl
      obtain ⟨l', x, rfl⟩ : ∃ l' x, l = l' ++ [x] := by
        rcases List.eq_nil_or_concat l with rfl | ⟨l', x, rfl⟩
        · simp at hl
        · exact ⟨l', x, List.concat_eq_append⟩
      obtain ⟨h1, h2, h3⟩ := ih l' (by simpa using hl)
      have hb : bestL v m (l' ++ [x]) = pickB v m (bestL v m l') x := by unfold bestL; rw [List.foldl_append]; rfl
      have hg : guestQ v m (l' ++ [x]) = if hasR v m x = true then guestQ v m l' ++ [x] else guestQ v m l' := by
        unfold guestQ; rw [List.filter_append, List.filter_cons, List.filter_nil]; split <;> simp
      have ht : takes v m (bestL v m l') x = (hasR v m x && (decide ((bestL v m l').kind = 0) || rank x (bestL v m l'))) := by
        unfold takes hasR
        by_cases e1 : x.kind = 2 <;> by_cases e2 : x.vni = v <;> by_cases e3 : x.mac = m <;> simp [e1, e2, e3]
      rw [hb, hg, pickB, ht]
      cases hx : hasR v m x
      · simp only [Bool.false_and, Bool.false_eq_true, if_false]
        exact ⟨h1, h2, h3⟩
      · have hk : ¬ x.kind = 0 := by
          unfold hasR at hx
          intro e
          rw [e] at hx
          simp at hx
        simp only [Bool.true_and, if_true, mx_snoc]
        cases hm : mx (guestQ v m l') with
        | none =>
          rw [decide_eq_true (h3 hm)]
          simp only [Bool.true_or, if_true, mxStep, Option.getD_some]
          exact ⟨trivial, fun _ => hk, fun h => by cases h⟩
        | some y =>
          have hy : bestL v m l' = y := by rw [h1, hm]; rfl
          have hyk : ¬ y.kind = 0 := by rw [← hy]; exact h2 (by rw [hm]; rfl)
          rw [hy, decide_eq_false hyk, Bool.false_or, mxStep]
          split
          · exact ⟨rfl, fun _ => hk, fun h => by cases h⟩
          · exact ⟨rfl, fun _ => hyk, fun h => by cases h⟩
  exact key _ l rfl
theorem guest_org {v m : Int} {l : List Rt} : ∀ r ∈ guestQ v m l, 1 ≤ r.org ∧ r.org ≤ 4 := by
  intro r hr
  have h := (List.mem_filter.1 hr).2
  unfold hasR at h
  rw [Bool.and_eq_true, Bool.and_eq_true] at h
  have h2 := h.2.2
  unfold Rt.right rtRight at h2
  rw [Bool.and_eq_true, Bool.and_eq_true] at h2
  exact inR_t (show inR r.org 1 4 = true from h2.1.2)
theorem bestL_houses (v m : Int) (l : List Rt) : bestL v m l = (mx (byHouse (guestQ v m l))).getD Rt.zero := by
  rw [mx_byHouse _ guest_org]; exact (bestL_mx v m l).1
end Go.Proofs.Ythhodnkcaefnnaa
