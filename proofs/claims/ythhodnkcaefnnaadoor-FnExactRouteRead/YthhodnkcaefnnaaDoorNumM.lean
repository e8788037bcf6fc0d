/- Integers and strings are read back from their encodings, as plain mathematics. -/
import Derived.Test.YthhodnkcaefnnaaDoorGetT
namespace Go.Proofs.YthhodnkcaefnnaaDoor
open Go.RowKit

theorem uz_zz (n : Int) : uz (zz n) = n := by
  unfold uz zz
  by_cases h : n < 0
  · rw [if_pos h, if_pos (by omega)]; omega
  · rw [if_neg h, if_neg (by omega)]; omega
theorem byte_nat (k : Nat) (h : k < 256) : (UInt8.ofNat k).toNat = k := UInt8.toNat_ofNat_of_lt' (by simpa using h)
theorem pow_pos (i : Nat) : 0 < 128 ^ i := Nat.pow_pos (by omega)
theorem mul_pow (u i : Nat) : u / 128 * 128 ^ (i + 1) + u % 128 * 128 ^ i = u * 128 ^ i := by
  rw [Nat.pow_succ, Nat.mul_comm (128 ^ i) 128, ← Nat.mul_assoc, ← Nat.add_mul, show u / 128 * 128 + u % 128 = u by omega]
theorem nine_small (u acc : Nat) (h : acc + u * 128 ^ 9 ≤ 18446744073709551615) : u ≤ 1 := by
  have : (128 : Nat) ^ 9 = 9223372036854775808 := by decide
  rw [this] at h; omega
theorem le_nine (u i acc : Nat) (hu : 0 < u) (h : acc + u * 128 ^ i ≤ 18446744073709551615) : i ≤ 9 := by
  rcases Nat.lt_or_ge i 10 with h1 | h1
  · omega
  · have h2 : 128 ^ 10 ≤ 128 ^ i := Nat.pow_le_pow_right (by omega) h1
    have h3 : 128 ^ i ≤ u * 128 ^ i := Nat.le_mul_of_pos_left _ hu
    have h4 : (128 : Nat) ^ 10 = 1180591620717411303424 := by decide
    omega
theorem rd_vi (u : Nat) : ∀ (i acc : Nat) (rest : List UInt8), i ≤ 9 → (i = 0 ∨ 0 < u) → acc + u * 128 ^ i ≤ 18446744073709551615 → rd i acc (vi u ++ rest) = ⟨0, acc + u * 128 ^ i, i + (vi u).length⟩ := by
  induction u using Nat.strongRecOn with
  | _ u ih =>
    intro i acc rest hi hz hle
    have h9 : i = 9 → u ≤ 1 := fun e => by subst e; exact nine_small u acc hle
    by_cases h : u < 128
    · rw [vi_small u h, List.singleton_append]
      have hb := byte_nat u (by omega)
      rw [rd_last i acc _ rest (by rw [hb]; omega) (by rw [hb]; exact h), hb, if_neg (by omega), Nat.mod_eq_of_lt h]
      rfl
    · rw [vi_big u (by omega), List.cons_append]
      have hb := byte_nat (u % 128 + 128) (by omega)
      have hi9 : i ≠ 9 := fun e => by have := h9 e; omega
      rw [rd_more i acc _ _ hi9 (by rw [hb]; omega), hb]
      have e1 : (u % 128 + 128) % 128 = u % 128 := by omega
      rw [e1]
      have hm := mul_pow u i
      have hrec := ih (u / 128) (by omega) (i + 1) (acc + u % 128 * 128 ^ i) rest (by omega) (.inr (by omega)) (by omega)
      rw [hrec]
      simp only [NumR.mk.injEq, List.length_cons, true_and]
      omega
theorem rd_open (l : List UInt8) : ∀ i acc, i + l.length ≤ 9 → (∀ c ∈ l, 128 ≤ c.toNat) → rd i acc l = ⟨4, 0, 0⟩ := by
  induction l with
  | nil => intro i acc _ _; rfl
  | cons c l ih =>
    intro i acc hi hc
    rw [List.length_cons] at hi
    rw [rd_more i acc c l (by omega) (by have := hc c (by simp); omega)]
    exact ih _ _ (by omega) (fun d hd => hc d (by simp [hd]))
theorem vi_init (u : Nat) : ∀ c ∈ (vi u).dropLast, 128 ≤ c.toNat := by
  induction u using Nat.strongRecOn with
  | _ u ih =>
    by_cases h : u < 128
    · rw [vi_small u h]; simp
    · rw [vi_big u (by omega)]
      have hne : vi (u / 128) ≠ [] := fun e => by have := vi_pos (u / 128); rw [e] at this; simp at this
      rw [List.dropLast_cons_of_ne_nil hne]
      intro c hc
      rcases List.mem_cons.1 hc with rfl | hc
      · rw [byte_nat _ (by omega)]; omega
      · exact ih (u / 128) (by omega) c hc
theorem rd_put (n : Int) (rest : List UInt8) (h1 : -9223372036854775808 ≤ n) (h2 : n ≤ 9223372036854775807) : rd 0 0 (putNum n ++ rest) = ⟨0, zz n, (putNum n).length⟩ := by
  have := rd_vi (zz n) 0 0 rest (by omega) (.inl rfl) (by have := zz_le n h1 h2; simpa using this)
  simpa [putNum] using this
theorem rd_cut (n : Int) (h1 : -9223372036854775808 ≤ n) (h2 : n ≤ 9223372036854775807) : rd 0 0 (putNum n).dropLast = ⟨4, 0, 0⟩ := by
  have hl := putNum_len n h1 h2
  exact rd_open _ 0 0 (by rw [List.length_dropLast]; omega) (vi_init _)
/- what GetNum answers at a place where an encoding begins *-/
theorem getNum_put (pre rest : List UInt8) (n : Int) (h1 : -9223372036854775808 ≤ n) (h2 : n ≤ 9223372036854775807) (hs : (pre ++ (putNum n ++ rest)).length ≤ 8000) :
    getNum (strOf (pre ++ (putNum n ++ rest))) (pre.length : Int) = ⟨n, (pre.length : Int) + (putNum n).length, 0⟩ := by
  rw [getNum_r _ _ (by rw [strOf_size]; omega), rdAt, strOf_list, List.drop_left, rd_put n rest h1 h2, numOf, if_pos rfl, uz_zz]
theorem getNum_cut (n : Int) (h1 : -9223372036854775808 ≤ n) (h2 : n ≤ 9223372036854775807) : getNum (strOf (putNum n).dropLast) 0 = ⟨0, 0, 4⟩ := by
  have hl := putNum_len n h1 h2
  have := getNum_r (strOf (putNum n).dropLast) 0 (by rw [strOf_size, List.length_dropLast]; omega)
  rw [show ((0 : Nat) : Int) = 0 from rfl] at this
  rw [this, rdAt, strOf_list, List.drop_zero, rd_cut n h1 h2]; rfl
theorem ext_mid (pre u : List UInt8) : (strOf (pre ++ u)).extract pre.length (pre.length + u.length) = strOf u := by
  rw [Lib.extract_eq, strOf_list, List.drop_left, Nat.add_sub_cancel_left, List.take_length]; rfl
theorem getText_put (pre u : List UInt8) (hs : (pre ++ (putNum u.length ++ u)).length ≤ 8000) :
    getText (strOf (pre ++ (putNum u.length ++ u))) (pre.length : Int) = ⟨strOf u, (pre.length : Int) + (putNum u.length ++ u).length, 0⟩ := by
  have hl : u.length ≤ 8000 := by rw [List.length_append, List.length_append] at hs; omega
  have hsz : (strOf (pre ++ (putNum u.length ++ u))).size = pre.length + ((putNum u.length).length + u.length) := by rw [strOf_size, List.length_append, List.length_append]
  rw [getText, getNum_put pre u u.length (by omega) (by omega) hs, textOf_0 _ _ _ (by omega) (by rw [hsz]; omega)]
  have e1 : ((pre.length : Int) + (putNum u.length).length).toNat = (pre ++ putNum u.length).length := by rw [List.length_append]; omega
  have e2 : ((pre.length : Int) + (putNum u.length).length + u.length).toNat = (pre ++ putNum u.length).length + u.length := by rw [List.length_append]; omega
  have e3 : (pre.length : Int) + (putNum u.length).length + u.length = (pre.length : Int) + ((putNum u.length ++ u).length : Nat) := by rw [List.length_append]; omega
  rw [e1, e2, e3, ← List.append_assoc, ext_mid]
theorem getText_cut (u : List UInt8) (hs : (putNum u.length ++ u).length ≤ 8000) : (getText (strOf (putNum u.length ++ u).dropLast) 0).code = 4 := by
  cases u with
  | nil =>
    have e : (putNum ((([] : List UInt8).length : Nat) : Int) ++ []).dropLast = (putNum 0).dropLast := by simp
    rw [e, getText, getNum_cut 0 (by omega) (by omega), textOf_c _ _ (by simp)]
  | cons a r =>
    have hne : (a :: r) ≠ [] := by simp
    rw [List.dropLast_append_of_ne_nil hne]
    rw [List.length_append] at hs
    have hl : (a :: r).length ≤ 8000 := by omega
    have hd : ((a :: r).dropLast).length = (a :: r).length - 1 := List.length_dropLast
    have hg := getNum_put [] (a :: r).dropLast (a :: r).length (by omega) (by omega) (by rw [List.nil_append, List.length_append, hd]; omega)
    rw [List.nil_append] at hg
    rw [getText, show (0 : Int) = (([] : List UInt8).length : Int) from rfl, hg, textOf_4 _ _ _ (by omega) ?_]
    rw [strOf_size, List.length_append, hd]
    have : 0 < (a :: r).length := by simp
    simp only [List.length_nil]
    omega
end Go.Proofs.YthhodnkcaefnnaaDoor
