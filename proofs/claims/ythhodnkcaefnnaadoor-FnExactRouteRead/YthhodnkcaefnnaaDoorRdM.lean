/- Numbers read one behind the other, as plain mathematics: what is read is what was written. -/
import Derived.Test.YthhodnkcaefnnaaDoorNumM
import Derived.Test.YthhodnkcaefnnaaDoorRtG
namespace Go.Proofs.YthhodnkcaefnnaaDoor
open Go.RowKit

theorem zz_uz (u : Nat) : zz (uz u) = u := by
  unfold uz zz
  by_cases h : u % 2 = 1
  · rw [if_pos h, if_pos (by omega)]; omega
  · rw [if_neg h, if_neg (by omega)]; omega
theorem ofNat_self (c : UInt8) : UInt8.ofNat c.toNat = c := by simp
theorem rd_sound (l : List UInt8) : ∀ i acc u n, i ≤ 9 → rd i acc l = ⟨0, u, n⟩ → ∃ v, u = acc + v * 128 ^ i ∧ (i = 0 ∨ 0 < v) ∧ n = i + (vi v).length ∧ l = vi v ++ l.drop (vi v).length := by
  induction l with
  | nil => intro i acc u n _ h; rw [rd_none] at h; injection h with h1; omega
  | cons c l ih =>
    intro i acc u n hi h
    by_cases h9 : i = 9 ∧ 1 < c.toNat
    · rw [rd_over i acc c l h9.1 h9.2] at h; injection h with h1; omega
    by_cases hc : c.toNat < 128
    · rw [rd_last i acc c l h9 hc] at h
      by_cases h0 : c.toNat = 0 ∧ 0 < i
      · rw [if_pos h0] at h; injection h with h1; omega
      · rw [if_neg h0] at h
        injection h with _ h2 h3
        refine ⟨c.toNat, ?_, ?_, ?_, ?_⟩
        · rw [← h2, Nat.mod_eq_of_lt hc]
        · omega
        · rw [vi_small _ hc, ← h3]; rfl
        · rw [vi_small _ hc, ofNat_self]; rfl
    · have hi9 : i ≠ 9 := fun e => h9 ⟨e, by omega⟩
      rw [rd_more i acc c l hi9 hc] at h
      obtain ⟨v, e1, e2, e3, e4⟩ := ih (i + 1) _ u n (by omega) h
      have hv : 0 < v := by omega
      have hlt := c.toNat_lt
      have hb : 128 ≤ v * 128 + c.toNat % 128 := by omega
      have hvi : vi (v * 128 + c.toNat % 128) = c :: vi v := by
        rw [vi_big _ hb, show (v * 128 + c.toNat % 128) / 128 = v by omega, show (v * 128 + c.toNat % 128) % 128 + 128 = c.toNat by omega, ofNat_self]
      refine ⟨v * 128 + c.toNat % 128, ?_, by omega, ?_, ?_⟩
      · rw [e1, Nat.pow_succ, Nat.add_mul, Nat.add_assoc, Nat.add_comm (c.toNat % 128 * 128 ^ i)]
        congr 2
        rw [Nat.mul_comm (128 ^ i) 128, Nat.mul_assoc]
      · rw [e3, hvi, List.length_cons]; omega
      · rw [hvi, List.length_cons, List.drop_succ_cons, List.cons_append, ← e4]
/- what GetNum accepts is the encoding of what it answers -/
theorem getNum_sound (s : ByteArray) (k : Nat) (n x : Int) (h : getNum s (k : Int) = ⟨n, x, 0⟩) : x = ((k + (putNum n).length : Nat) : Int) ∧ s.data.toList.drop k = putNum n ++ s.data.toList.drop (k + (putNum n).length) := by
  have h8 : ¬ 8000 < s.size := fun h8 => by rw [getNum_2 s _ h8] at h; injection h with _ _ h3; omega
  rw [getNum_r s k h8, numOf] at h
  by_cases hc : (rdAt s k).code = 0
  · rw [if_pos hc] at h
    injection h with h1 h2
    have hr : rd 0 0 (s.data.toList.drop k) = ⟨0, (rdAt s k).u, (rdAt s k).n⟩ := by rw [← hc]; rfl
    obtain ⟨v, e1, _, e3, e4⟩ := rd_sound _ 0 0 _ _ (by omega) hr
    have hv : v = (rdAt s k).u := by rw [e1]; simp
    have hp : putNum n = vi v := by rw [putNum, ← h1, zz_uz, hv]
    rw [hp]
    refine ⟨?_, ?_⟩
    · rw [← h2, e3]; simp
    · rw [List.drop_drop] at e4; exact e4
  · rw [if_neg hc] at h
    injection h with _ _ h3
    exact absurd h3 hc

/- the reader: what has been read, where it stands, whether something was wrong -/
structure RdS where
  l : List Int
  at_ : Nat
  bad : Bool
def stepS (s : ByteArray) (x : RdS) : RdS := if x.bad = true ∨ (getNum s x.at_).code ≠ 0 then ⟨x.l ++ [0], x.at_, true⟩ else ⟨x.l ++ [(getNum s x.at_).n], (getNum s x.at_).at_.toNat, false⟩
def runS (s : ByteArray) : Nat → RdS
  | 0 => ⟨[], 0, false⟩
  | j + 1 => stepS s (runS s j)
theorem stepS_bad (s : ByteArray) (x : RdS) (h : x.bad = true ∨ (getNum s x.at_).code ≠ 0) : stepS s x = ⟨x.l ++ [0], x.at_, true⟩ := if_pos h
theorem stepS_good (s : ByteArray) (l : List Int) (k : Nat) (n y : Int) (h : getNum s (k : Int) = ⟨n, y, 0⟩) : stepS s ⟨l, k, false⟩ = ⟨l ++ [n], y.toNat, false⟩ := by
  rw [stepS, if_neg (by rw [h]; simp), h]
/- what holds of a reader all along -/
structure RdInv (s : ByteArray) (x : RdS) : Prop where
  le : x.at_ ≤ s.size
  good : x.bad = false → s.data.toList = flat x.l ++ s.data.toList.drop x.at_ ∧ ∀ n ∈ x.l, I64 n
theorem RdInv.start (s : ByteArray) : RdInv s ⟨[], 0, false⟩ := ⟨Nat.zero_le _, fun _ => ⟨by simp [flat], fun n h => by cases h⟩⟩
theorem RdInv.step {s : ByteArray} {x : RdS} (h : RdInv s x) (hs : s.size ≤ 8000) : RdInv s (stepS s x) := by
  by_cases hb : x.bad = true ∨ (getNum s x.at_).code ≠ 0
  · rw [stepS_bad s x hb]
    exact ⟨h.le, fun h => by cases h⟩
  · obtain ⟨l, k, b⟩ := x
    have hb1 : b = false := by
      cases b
      · rfl
      · exact absurd (.inl rfl) hb
    subst hb1
    obtain ⟨n, y, hg⟩ : ∃ n y, getNum s (k : Int) = ⟨n, y, 0⟩ := by
      have hc : (getNum s (k : Int)).code = 0 := Classical.byContradiction fun hc => hb (.inr hc)
      exact ⟨_, _, by rw [← hc]⟩
    rw [stepS_good s l k n y hg]
    have hbd := getNum_bounds s k n y (by have := h.le; dsimp only at this; omega) hg
    obtain ⟨e1, e2⟩ := getNum_sound s k n y hg
    obtain ⟨g1, g2⟩ := h.good rfl
    dsimp only at g1 g2
    refine ⟨by dsimp only; omega, fun _ => ⟨?_, ?_⟩⟩
    · have e3 : y.toNat = k + (putNum n).length := by rw [e1, Int.toNat_natCast]
      dsimp only
      rw [e3]
      conv => lhs; rw [g1, e2]
      simp [flat]
    · intro m hm
      rcases List.mem_append.1 hm with hm | hm
      · exact g2 m hm
      · rw [List.mem_singleton.1 hm]; exact ⟨hbd.2.2.2.1, hbd.2.2.2.2⟩
theorem runS_inv (s : ByteArray) (hs : s.size ≤ 8000) (j : Nat) : RdInv s (runS s j) := by
  induction j with
  | zero => exact RdInv.start s
  | succ j ih => exact ih.step hs
theorem runS_len (s : ByteArray) (j : Nat) : (runS s j).l.length = j := by
  induction j with
  | zero => rfl
  | succ j ih =>
    show (stepS s (runS s j)).l.length = j + 1
    unfold stepS; split <;> simp [ih]
theorem runS_bad (s : ByteArray) (j : Nat) (h : (runS s j).bad = true) : (runS s (j + 1)).bad = true := by
  show (stepS s (runS s j)).bad = true
  rw [stepS_bad s _ (.inl h)]
/- encodings, one behind the other, are one of another only if they are alike -/
theorem putNum_split (n m : Int) (a b : List UInt8) (hn : I64 n) (hm : I64 m) (h : putNum n ++ a = putNum m ++ b) : n = m ∧ a = b := by
  have h1 := rd_put n a hn.1 hn.2
  have h2 := rd_put m b hm.1 hm.2
  rw [h, h2] at h1
  injection h1 with _ e1 e2
  have e : n = m := by rw [← uz_zz n, ← uz_zz m, e1]
  subst e
  exact ⟨rfl, List.append_cancel_left h⟩
theorem flat_cons (n : Int) (l : List Int) : flat (n :: l) = putNum n ++ flat l := by simp [flat]
theorem flat_split (l : List Int) : ∀ (m : List Int) (b : List UInt8), l.length = m.length → (∀ n ∈ l, I64 n) → (∀ n ∈ m, I64 n) → flat l = flat m ++ b → l = m ∧ b = [] := by
  induction l with
  | nil =>
    intro m b hl _ _ h
    have : m = [] := List.eq_nil_of_length_eq_zero hl.symm
    subst this
    exact ⟨rfl, by simpa [flat] using h.symm⟩
  | cons n l ih =>
    intro m b hl h1 h2 h
    match m, hl with
    | k :: m, hl =>
      rw [flat_cons, flat_cons, List.append_assoc] at h
      obtain ⟨rfl, h'⟩ := putNum_split n k _ _ (h1 n (by simp)) (h2 k (by simp)) h
      obtain ⟨rfl, hb⟩ := ih m b (by simpa using hl) (fun x hx => h1 x (by simp [hx])) (fun x hx => h2 x (by simp [hx])) h'
      exact ⟨rfl, hb⟩

/- RouteRead -/
def rtOf (l : List Int) : Rt := ⟨l.getD 0 0, l.getD 1 0, l.getD 2 0, l.getD 3 0, l.getD 4 0, l.getD 5 0, l.getD 6 0 == 1⟩
def rrOk (s : ByteArray) : Bool := !(runS s 7).bad && (decide ((runS s 7).at_ = s.size) && (decide ((rtOf (runS s 7).l).nums = (runS s 7).l) && (rtOf (runS s 7).l).right))
theorem rr_model (s : ByteArray) (hs : s.size ≤ 8000) : (!(runS s 7).bad && decide ((rtOf (runS s 7).l).bytes = s)) = rrOk s := by
  have inv := runS_inv s hs 7
  have hl := runS_len s 7
  unfold rrOk
  generalize runS s 7 = x at *
  obtain ⟨l, k, b⟩ := x
  dsimp only at hl ⊢
  cases b
  case true => rfl
  obtain ⟨g1, g2⟩ := inv.good rfl
  have hle := inv.le
  dsimp only at g1 g2 hle
  clear inv
  simp only [Bool.not_false, Bool.true_and]
  cases hr : (rtOf l).right
  case false =>
    have : ¬ (rtOf l).bytes = s := by
      intro e
      rw [Rt.bytes, hr] at e
      have e2 : s.data.toList = [] := by rw [← e]; rfl
      rw [e2] at g1
      match l, hl with
      | n :: l, _ =>
        rw [flat_cons] at g1
        have := vi_pos (zz n)
        have h0 := congrArg List.length g1
        simp only [List.length_nil, List.length_append, putNum] at h0
        omega
    simp [this]
  have hb : (rtOf l).bytes = strOf (flat (rtOf l).nums) := by rw [Rt.bytes, hr]; rfl
  rw [hb, Bool.and_true]
  by_cases he : strOf (flat (rtOf l).nums) = s
  · rw [decide_eq_true he]
    have e1 : flat (rtOf l).nums = flat l ++ s.data.toList.drop k := by rw [← g1, ← he, strOf_list]
    obtain ⟨e2, e3⟩ := flat_split _ _ _ (by rw [hl]; rfl) (nums_b hr) g2 e1
    have e4 : k = s.size := by
      have := congrArg List.length e3
      rw [List.length_drop, ← size_list] at this
      simp at this
      omega
    rw [decide_eq_true e2, decide_eq_true e4]; rfl
  · rw [decide_eq_false he]
    by_cases e2 : (rtOf l).nums = l
    · by_cases e4 : k = s.size
      · exfalso
        apply he
        rw [e2, ← strOf_self s, g1, e4, size_list, List.drop_length, List.append_nil]
      · rw [decide_eq_false e4]; rfl
    · rw [decide_eq_false e2]; simp
end Go.Proofs.YthhodnkcaefnnaaDoor
