/- Contracts of the CRC functions. -/
import Derived.Test.YtfmhccmaeonbhaaB1
import Derived.Test.YtfmhccmaeonbhaaB1
namespace Go.Proofs.Ytfmhccmaeonbhaa
open Go.RowKit

def crcStep (r : Nat) : Nat := if r % 2 = 1 then (r / 2) ^^^ 3988292384 else r / 2
def crcSteps : Nat → Nat → Nat
  | 0, r => r
  | n + 1, r => crcStep (crcSteps n r)
def crcFold (r : Nat) (l : List UInt8) : Nat := l.foldl (fun q c => crcSteps 8 (q ^^^ c.toNat)) r
def crcOf (r : Nat) (s : ByteArray) : Nat := 4294967295 ^^^ crcFold (4294967295 ^^^ r) s.data.toList

theorem crcStep_lt (r : Nat) (h : r < 4294967296) : crcStep r < 4294967296 := by
  unfold crcStep; split
  · exact Nat.xor_lt_two_pow (n := 32) (by omega) (by omega)
  · omega
theorem crcSteps_lt (n r : Nat) (h : r < 4294967296) : crcSteps n r < 4294967296 := by
  induction n with
  | zero => exact h
  | succ n ih => exact crcStep_lt _ ih
theorem xor_byte_lt (r : Nat) (c : UInt8) (h : r < 4294967296) : r ^^^ c.toNat < 4294967296 :=
  Nat.xor_lt_two_pow (n := 32) h (by have := c.toNat_lt; omega)
theorem crcFold_lt (l : List UInt8) : ∀ r, r < 4294967296 → crcFold r l < 4294967296 := by
  unfold crcFold
  induction l with
  | nil => intro r h; exact h
  | cons c l ih => intro r h; exact ih _ (crcSteps_lt 8 _ (xor_byte_lt r c h))
theorem not_lt (r : Nat) (h : r < 4294967296) : 4294967295 ^^^ r < 4294967296 := Nat.xor_lt_two_pow (n := 32) (by omega) h
theorem crcOf_lt (r : Nat) (s : ByteArray) (h : r < 4294967296) : crcOf r s < 4294967296 := not_lt _ (crcFold_lt _ _ (not_lt _ h))

theorem u32_xor_byte (r : Nat) (c : UInt8) (h : r < 4294967296) : bits .xor .u32 (r : Int) ((c.toNat : Int) % 4294967296) = ((r ^^^ c.toNat : Nat) : Int) := by
  have hc := c.toNat_lt
  have e : (c.toNat : Int) % 4294967296 = ((c.toNat : Nat) : Int) := by omega
  rw [e, u32_xor_nat r c.toNat h (by omega)]
theorem u32_and_one (q : Nat) (h : q < 4294967296) : bits .and .u32 (q : Int) 1 = ((q % 2 : Nat) : Int) := by
  have := u32_and_nat q 1 h (by omega)
  rw [Nat.and_one_is_mod] at this; exact this
theorem u32_poly (q : Nat) (h : q < 4294967296) : bits .xor .u32 ((q : Int) / 2) 3988292384 = ((q / 2 ^^^ 3988292384 : Nat) : Int) := by
  have := u32_xor_nat (q / 2) 3988292384 (by omega) (by omega)
  rw [← this]; congr 1
theorem u32_half (q : Nat) : ((q : Int) / 2) = ((q / 2 : Nat) : Int) := by omega
theorem low_one (q : Nat) (h : q < 4294967296) (t : (bits .and .u32 (q : Int) 1 == 1) = true) : q % 2 = 1 := by
  rw [u32_and_one q h] at t; simp at t; omega
theorem low_zero (q : Nat) (h : q < 4294967296) (t : (bits .and .u32 (q : Int) 1 == 1) = false) : ¬ q % 2 = 1 := by
  rw [u32_and_one q h] at t; simp at t; omega
theorem step_one (q : Nat) (h : q < 4294967296) (t : (bits .and .u32 (q : Int) 1 == 1) = true) : Value.int .u32 (bits .xor .u32 ((q : Int) / 2) 3988292384) = .int .u32 (crcStep q : Nat) := by
  rw [u32_poly q h, crcStep, if_pos (low_one q h t)]
theorem step_zero (q : Nat) (h : q < 4294967296) (t : (bits .and .u32 (q : Int) 1 == 1) = false) : Value.int .u32 ((q : Int) / 2) = .int .u32 (crcStep q : Nat) := by
  rw [u32_half q, crcStep, if_neg (low_zero q h t)]
theorem u32_ret {a : Int} {b : Nat} (h : a = (b : Int)) : Ending.returned (.int .u32 a) = .returned (.int .u32 (b : Int)) := by rw [h]

set_option maxHeartbeats 400000 in
theorem crcByte_any (r : Nat) (c : UInt8) (w : World) (hr : r < 4294967296) :
    Calls Try.prog 121 #[.int .u32 (r : Int), .int .u8 (c.toNat : Int)] w fun e w' => e = .returned (.int .u32 (crcSteps 8 (r ^^^ c.toNat) : Nat)) ∧ w = w' := by
  have hx := xor_byte_lt r c hr
  go_enter Try.func121, Try.ntmps121
  go_wp2
  rw [u32_xor_byte r c hr]
  go_loop [0, 10] (fun v i => ∃ k : Nat, k ≤ 8 ∧ i = .int .i64 k ∧ v = .int .u32 (crcSteps k (r ^^^ c.toNat) : Nat)) (fun _ i => 8 - (intOf i).toNat)
  case atStart => exact ⟨0, by omega, rfl, rfl⟩
  case round =>
    obtain ⟨k, hk, rfl, rfl⟩ := hrel
    have hq := crcSteps_lt k _ hx
    by_cases hlt : k < 8
    · obtain ⟨q, hqe⟩ : ∃ q, q = crcSteps k (r ^^^ c.toNat) := ⟨_, rfl⟩
      have HQ := Lib.hid hqe
      rw [← hqe] at hq ⊢
      clear hqe
      have hs1 := step_one q hq
      have hs0 := step_zero q hq
      have H1 := Lib.hid hs1
      have H0 := Lib.hid hs0
      clear hs1 hs0
      go_wp2
      · go_round
        case rel => exact ⟨k + 1, by omega, by go_num, by rw [crcSteps, ← HQ.out]; exact H1.out (by assumption)⟩
        case measure => simp [intOf]; omega
      · go_round
        case rel => exact ⟨k + 1, by omega, by go_num, by rw [crcSteps, ← HQ.out]; exact H0.out (by assumption)⟩
        case measure => simp [intOf]; omega
    · obtain rfl : k = 8 := by omega
      go_wp2
      go_ret
      exact ⟨rfl, rfl⟩

theorem crcFold_snoc (r : Nat) (l : List UInt8) (c : UInt8) : crcFold r (l ++ [c]) = crcSteps 8 (crcFold r l ^^^ c.toNat) := by
  simp [crcFold]
theorem u32_not (n : Nat) (h : n < 4294967296) : bits .xor .u32 IntKind.u32.max (n : Int) = ((4294967295 ^^^ n : Nat) : Int) :=
  u32_xor_nat 4294967295 n (by omega) h
theorem u32_not' (n : Nat) (h : n < 4294967296) : bits .xor .u32 (n : Int) 4294967295 = ((4294967295 ^^^ n : Nat) : Int) := by
  have := u32_xor_nat n 4294967295 h (by omega)
  rw [Nat.xor_comm] at this; exact this
theorem crc_end (n : Nat) (s : ByteArray) (k : Nat) (h : s.size ≤ k) (hn : n < 4294967296) :
    wrap64 (bits .xor .u32 IntKind.u32.max ((crcFold (4294967295 ^^^ n) (s.data.toList.take k) : Nat) : Int)) = (crcOf n s : Nat) := by
  rw [take_all s k h, u32_not _ (crcFold_lt _ _ (not_lt n hn))]
  have := crcOf_lt n s hn; exact IntWalk.wrap64_in _ (by unfold crcOf at this; omega)
theorem crc_end' (n : Nat) (s : ByteArray) (k : Nat) (h : s.size ≤ k) (hn : n < 4294967296) :
    wrap64 (bits .xor .u32 ((crcFold (4294967295 ^^^ n) (s.data.toList.take k) : Nat) : Int) 4294967295) = (crcOf n s : Nat) := by
  rw [take_all s k h, u32_not' _ (crcFold_lt _ _ (not_lt n hn))]
  have := crcOf_lt n s hn; exact IntWalk.wrap64_in _ (by unfold crcOf at this; omega)
def crcMoreI (crc : Int) (s : ByteArray) : Int := if 8000 < s.size ∨ crc < 0 ∨ 4294967295 < crc then 0 else (crcOf crc.toNat s : Nat)

set_option maxHeartbeats 1000000 in
theorem implCrcMore_any (crc : Int) (s : ByteArray) (w : World) (hs : s.size ≤ maxLen) :
    Calls Try.prog 118 #[.int .i64 crc, .string s] w fun e w' => e = .returned (.int .i64 (crcMoreI crc s)) ∧ w = w' := by
  have HS := Lib.hid hs
  unfold maxLen at hs
  by_cases h1 : 8000 < s.size
  · have hb : decide (8000 < (s.size : Int)) = true := by simp; omega
    have hr : crcMoreI crc s = 0 := by simp [crcMoreI, h1]
    have HR := Lib.hid hr; clear hr
    go_enter Try.func118, Try.ntmps118
    go_wp2_with (go_at_call 76; refine (tooLong_any _ _ HS.out).mono ?_; rintro e w' ⟨rfl, rfl⟩)
    go_ret
    exact ⟨i64_ret HR.out.symm, rfl⟩
  have hb : decide (8000 < (s.size : Int)) = false := by simp; omega
  by_cases h2 : crc < 0
  · have hr : crcMoreI crc s = 0 := by simp [crcMoreI, h2]
    have HR := Lib.hid hr; clear hr
    go_enter Try.func118, Try.ntmps118
    go_wp2_with (go_at_call 76; refine (tooLong_any _ _ HS.out).mono ?_; rintro e w' ⟨rfl, rfl⟩)
    go_ret
    exact ⟨i64_ret HR.out.symm, rfl⟩
  by_cases h3 : 4294967295 < crc
  · have hr : crcMoreI crc s = 0 := by simp [crcMoreI, h3]
    have HR := Lib.hid hr; clear hr
    go_enter Try.func118, Try.ntmps118
    go_wp2_with (go_at_call 76; refine (tooLong_any _ _ HS.out).mono ?_; rintro e w' ⟨rfl, rfl⟩)
    go_ret
    exact ⟨i64_ret HR.out.symm, rfl⟩
  obtain ⟨n, rfl⟩ : ∃ n : Nat, crc = (n : Int) := ⟨crc.toNat, by omega⟩
  have hr : crcMoreI n s = (crcOf n s : Nat) := by simp only [crcMoreI, h1, h2, h3, or_self, if_false]; rfl
  have HR := Lib.hid hr; clear hr
  have b2 : decide ((n : Int) < 0) = false := by simp
  have b3 : decide (4294967295 < (n : Int)) = false := by simp; omega
  go_enter Try.func118, Try.ntmps118
  go_wp2_with (go_at_call 76; refine (tooLong_any _ _ HS.out).mono ?_; rintro e w' ⟨rfl, rfl⟩)
  rw [u32_not n (by omega)]
  have hn : n < 4294967296 := by omega
  go_loop [5, 6] (fun v i => ∃ k : Nat, k ≤ s.size ∧ i = .int .i64 k ∧ v = .int .u32 (crcFold (4294967295 ^^^ n) (s.data.toList.take k) : Nat)) (fun _ i => s.size - (intOf i).toNat)
  case atStart => exact ⟨0, by omega, rfl, rfl⟩
  case round =>
    obtain ⟨k, hk, rfl, rfl⟩ := hrel
    have hq := crcFold_lt (s.data.toList.take k) _ (not_lt n hn)
    by_cases hlt : k < s.size
    · have hst := crcFold_snoc (4294967295 ^^^ n) (s.data.toList.take k) s[k]
      rw [← take_snoc s k hlt] at hst
      have HST := Lib.hid hst; clear hst
      go_wp2_with (go_at_call 121; refine (crcByte_any _ _ _ hq).mono ?_; rintro e w' ⟨rfl, rfl⟩)
      go_round
      case rel => exact ⟨k + 1, by omega, by go_num, by rw [HST.out]⟩
      case measure => simp [intOf]; omega
    · have he := crc_end n s k (by omega) hn
      have HE := Lib.hid he; clear he
      go_wp2
      go_ret
      exact ⟨i64_ret (by rw [HE.out, HR.out]), rfl⟩

set_option maxHeartbeats 1000000 in
theorem specL01Crc_any (n : Nat) (s : ByteArray) (w : World) (hs : s.size ≤ maxLen) (hn : n < 4294967296) :
    Calls Try.prog 97 #[.int .i64 n, .string s] w fun e w' => e = .returned (.int .i64 (crcOf n s : Nat)) ∧ w = w' := by
  unfold maxLen at hs
  go_enter Try.func97, Try.ntmps97
  go_wp2
  rw [u32_not' n hn]
  go_loop [5, 6] (fun v i => ∃ k : Nat, k ≤ s.size ∧ i = .int .i64 k ∧ v = .int .u32 (crcFold (4294967295 ^^^ n) (s.data.toList.take k) : Nat)) (fun _ i => s.size - (intOf i).toNat)
  case atStart => exact ⟨0, by omega, rfl, rfl⟩
  case round =>
    obtain ⟨k, hk, rfl, rfl⟩ := hrel
    have hq := crcFold_lt (s.data.toList.take k) _ (not_lt n hn)
    by_cases hlt : k < s.size
    · have hst := crcFold_snoc (4294967295 ^^^ n) (s.data.toList.take k) s[k]
      rw [← take_snoc s k hlt] at hst
      obtain ⟨r, hre⟩ : ∃ r, r = crcFold (4294967295 ^^^ n) (s.data.toList.take k) := ⟨_, rfl⟩
      rw [← hre] at hst hq ⊢
      clear hre
      have HST := Lib.hid hst; clear hst
      have hx := xor_byte_lt r s[k] hq
      go_wp2
      rw [u32_xor_byte r s[k] hq]
      go_loop [5, 7] (fun v i => ∃ j : Nat, j ≤ 8 ∧ i = .int .i64 j ∧ v = .int .u32 (crcSteps j (r ^^^ s[k].toNat) : Nat)) (fun _ i => 8 - (intOf i).toNat)
      case atStart => exact ⟨0, by omega, rfl, rfl⟩
      case round =>
        obtain ⟨j, hj, rfl, rfl⟩ := hrel
        have hq2 := crcSteps_lt j _ hx
        by_cases hlt2 : j < 8
        · obtain ⟨q, hqe⟩ : ∃ q, q = crcSteps j (r ^^^ s[k].toNat) := ⟨_, rfl⟩
          have HQ := Lib.hid hqe
          rw [← hqe] at hq2 ⊢
          clear hqe
          have hs1 := step_one q hq2
          have hs0 := step_zero q hq2
          have H1 := Lib.hid hs1
          have H0 := Lib.hid hs0
          clear hs1 hs0
          go_wp2
          · go_round
            case rel => exact ⟨j + 1, by omega, by go_num, by rw [crcSteps, ← HQ.out]; exact H1.out (by assumption)⟩
            case measure => simp [intOf]; omega
          · go_round
            case rel => exact ⟨j + 1, by omega, by go_num, by rw [crcSteps, ← HQ.out]; exact H0.out (by assumption)⟩
            case measure => simp [intOf]; omega
        · obtain rfl : j = 8 := by omega
          go_wp2
          go_round
          case rel => exact ⟨k + 1, by omega, by go_num, by rw [HST.out]⟩
          case measure => simp [intOf]; omega
    · have he := crc_end' n s k (by omega) hn
      have HE := Lib.hid he; clear he
      go_wp2
      go_ret
      exact ⟨i64_ret HE.out, rfl⟩

def crcI (s : ByteArray) : Int := if 8000 < s.size then 0 else (crcOf 0 s : Nat)
theorem crcI_more (s : ByteArray) : crcMoreI 0 s = crcI s := by simp [crcMoreI, crcI]
theorem implCrc_any (s : ByteArray) (w : World) (hs : s.size ≤ maxLen) :
    Calls Try.prog 114 #[.string s] w fun e w' => e = .returned (.int .i64 (crcI s)) ∧ w = w' := by
  have HS := Lib.hid hs
  unfold maxLen at hs
  go_enter Try.func114, Try.ntmps114
  go_wp2_with (go_at_call 118; refine (implCrcMore_any _ _ _ HS.out).mono ?_; rintro e w' ⟨rfl, rfl⟩)
  go_ret
  exact ⟨i64_ret (crcI_more s), rfl⟩
end Go.Proofs.Ytfmhccmaeonbhaa
