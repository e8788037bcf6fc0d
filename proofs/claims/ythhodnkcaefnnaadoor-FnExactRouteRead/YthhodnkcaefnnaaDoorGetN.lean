/- Contracts of GetNum, impl's and spec's. -/
import Derived.Test.YthhodnkcaefnnaaDoorGet
import Derived.Test.YthhodnkcaefnnaaDoorLong
import Derived.Laws.DeepNot64
import Derived.Handy
namespace Go.Proofs.YthhodnkcaefnnaaDoor
open Go.RowKit

def uz (u : Nat) : Int := if u % 2 = 1 then -((u / 2 : Nat) : Int) - 1 else ((u / 2 : Nat) : Int)
theorem i64_xor_comm (a b : Int) : bits .xor .i64 a b = bits .xor .i64 b a := by
  show IntKind.i64.wrap ((BitVec.ofInt 64 a ^^^ BitVec.ofInt 64 b).toNat : Int) = IntKind.i64.wrap ((BitVec.ofInt 64 b ^^^ BitVec.ofInt 64 a).toNat : Int)
  rw [BitVec.xor_comm]
theorem i64_xor_zero (a : Nat) (ha : a < 9223372036854775808) : bits .xor .i64 (a : Int) 0 = (a : Int) := by
  show IntKind.i64.wrap ((BitVec.ofInt 64 (a : Int) ^^^ BitVec.ofInt 64 0).toNat : Int) = _
  have h0 : BitVec.ofInt 64 0 = 0#64 := by decide
  rw [h0, BitVec.xor_zero, ofInt_u64 a (by omega)]
  exact IntWalk.i64_in _ (by omega)
theorem uz_eq (u : Nat) (hu : u ≤ 18446744073709551615) :
    bits BinOp.xor IntKind.i64 (wrap64 ((u : Int) / 2)) (wrap64 (-wrap64 (bits BinOp.and IntKind.u64 (u : Int) 1))) = uz u := by
  have e1 : bits BinOp.and IntKind.u64 (u : Int) 1 = ((u % 2 : Nat) : Int) := by
    have := u64_and_nat u 1 (by omega) (by omega)
    rw [Nat.and_one_is_mod] at this; exact this
  have e2 : wrap64 ((u : Int) / 2) = ((u / 2 : Nat) : Int) := by rw [IntWalk.wrap64_in _ (by omega)]; omega
  rw [e1, e2]
  by_cases h : u % 2 = 1
  · have e3 : wrap64 (-wrap64 ((u % 2 : Nat) : Int)) = -1 := by rw [h, IntWalk.wrap64_in ((1 : Nat) : Int) (by omega), IntWalk.wrap64_in _ (by omega)]; rfl
    rw [e3, i64_xor_comm, i64_not _ (by omega), uz, if_pos h]; omega
  · have h0 : u % 2 = 0 := by omega
    have e3 : wrap64 (-wrap64 ((u % 2 : Nat) : Int)) = 0 := by rw [h0, IntWalk.wrap64_in ((0 : Nat) : Int) (by omega), IntWalk.wrap64_in _ (by omega)]; rfl
    rw [e3, i64_xor_zero _ (by omega), uz, if_neg h]
set_option maxHeartbeats 1000000 in
theorem unzigzag_any (u : Nat) (w : World) (hu : u ≤ 18446744073709551615) :
    Calls Tryd.prog 64 #[.int .u64 (u : Int)] w fun e w' => e = .returned (.int .i64 (uz u)) ∧ w = w' := by
  have HU := Lib.hid (uz_eq u hu); clear hu
  go_enter Tryd.func64, Tryd.ntmps64
  go_wp2
  go_ret
  exact ⟨i64_ret HU.out, rfl⟩

theorem rd_lt (l : List UInt8) : ∀ i u, i ≤ 9 → u < 128 ^ i → (rd i u l).u ≤ 18446744073709551615 ∧ (rd i u l).n ≤ i + l.length := by
  induction l with
  | nil => intro i u _ _; exact ⟨by simp [rd], by simp [rd]⟩
  | cons c l ih =>
    intro i u hi hu
    have hc := c.toNat_lt
    by_cases h9 : i = 9 ∧ 1 < c.toNat
    · rw [rd_over i u c l h9.1 h9.2]; exact ⟨by simp, by simp⟩
    · have hp := pow_small i c.toNat hi (by omega) (by omega)
      by_cases h1 : c.toNat < 128
      · rw [rd_last i u c l h9 h1]
        split
        · exact ⟨by simp, by simp⟩
        · refine ⟨?_, by simp⟩
          simp only
          rcases (by omega : i = 9 ∨ i ≤ 8) with rfl | h8
          · have : c.toNat ≤ 1 := by omega
            have : c.toNat % 128 ≤ 1 := by omega
            omega
          · have : 128 ^ (i + 1) ≤ 128 ^ 9 := Nat.pow_le_pow_right (by omega) (by omega)
            omega
      · have h9' : i ≠ 9 := by omega
        rw [rd_more i u c l h9' h1]
        have := ih (i + 1) (u + c.toNat % 128 * 128 ^ i) (by omega) (by omega)
        exact ⟨this.1, by simp; omega⟩
theorem rd_code (l : List UInt8) : ∀ i u, (rd i u l).code = 0 ∨ ((rd i u l).code ≠ 0 ∧ rd i u l = ⟨(rd i u l).code, 0, 0⟩) := by
  induction l with
  | nil => intro i u; exact .inr ⟨by simp [rd], by simp [rd]⟩
  | cons c l ih =>
    intro i u
    rw [rd]
    split
    · exact .inr ⟨by simp, rfl⟩
    · split
      · split
        · exact .inr ⟨by simp, rfl⟩
        · exact .inl rfl
      · exact ih _ _

def numOutV (n at_ code : Int) : Value := .agg #[.int .i64 n, .int .i64 at_, .int .i64 code]
def rdAt (s : ByteArray) (k : Nat) : NumR := rd 0 0 (s.data.toList.drop k)
structure NumO where
  n : Int
  at_ : Int
  code : Int
def numOf (k : Nat) (r : NumR) : NumO := if r.code = 0 then ⟨uz r.u, (k : Int) + r.n, 0⟩ else ⟨0, 0, r.code⟩
def getNum (s : ByteArray) (at_ : Int) : NumO := if 8000 < s.size then ⟨0, 0, 2⟩ else if at_ < 0 then ⟨0, 0, 1⟩ else numOf at_.toNat (rdAt s at_.toNat)
def NumO.v (o : NumO) : Value := numOutV o.n o.at_ o.code
theorem getNum_2 (s : ByteArray) (a : Int) (h : 8000 < s.size) : getNum s a = ⟨0, 0, 2⟩ := by rw [getNum, if_pos h]
theorem getNum_1 (s : ByteArray) (a : Int) (h : ¬ 8000 < s.size) (ha : a < 0) : getNum s a = ⟨0, 0, 1⟩ := by rw [getNum, if_neg h, if_pos ha]
theorem getNum_r (s : ByteArray) (k : Nat) (h : ¬ 8000 < s.size) : getNum s (k : Int) = numOf k (rdAt s k) := by rw [getNum, if_neg h, if_neg (by omega)]; rfl

def handle : Value := .iface 106 (.agg #[.pointer (some ⟨1, 78, none⟩)])

set_option maxHeartbeats 2000000 in
theorem implGetNum_any (s : ByteArray) (at_ : Int) (w : World) (hs : s.size ≤ maxLen) (hat : at_ ≤ 9223372036854775807) (hg : w.cell? ⟨0, 0, none⟩ = some handle) :
    Calls Tryd.prog 56 #[.string s, .int .i64 at_] w fun e w' => e = .returned (getNum s at_).v ∧ Below w.heap.size w w' := by
  have HS := Lib.hid hs
  have HG := Lib.hid hg; clear hg
  have HAT := Lib.hid hat; clear hat
  unfold maxLen at hs
  by_cases h8 : 8000 < s.size
  · have HR := Lib.hid (getNum_2 s at_ h8)
    have hb : decide (8000 < (s.size : Int)) = true := by simp; omega
    go_enter Tryd.func56, Tryd.ntmps56
    go_wp2_with (go_at_call 29; refine (tooLong_any _ _ HS.out).mono ?_; rintro e w' ⟨rfl, rfl⟩)
    refine bodyPost_ret (v := numOutV 0 0 2) (by simp [results, Tryd.results56, go_sem, numOutV]) rfl ⟨by rw [HR.out]; rfl, ?_⟩
    go_grown
  have hb : decide (8000 < (s.size : Int)) = false := by simp; omega
  by_cases h0 : at_ < 0
  · have HR := Lib.hid (getNum_1 s at_ h8 h0)
    go_enter Tryd.func56, Tryd.ntmps56
    go_wp2_with (go_at_call 29; refine (tooLong_any _ _ HS.out).mono ?_; rintro e w' ⟨rfl, rfl⟩)
    refine bodyPost_ret (v := numOutV 0 0 1) (by simp [results, Tryd.results56, go_sem, numOutV]) rfl ⟨by rw [HR.out]; rfl, ?_⟩
    go_grown
  obtain ⟨k, rfl⟩ : ∃ k : Nat, at_ = (k : Int) := ⟨at_.toNat, by omega⟩
  have h8' : s.size ≤ 8000 := by omega
  have HR := Lib.hid (getNum_r s k h8)
  have hrn := readNum_any s k
  rw [show rd 0 0 (s.data.toList.drop k) = rdAt s k from rfl] at hrn
  have HN := Lib.hid hrn; clear hrn
  have hlt := (rd_lt (s.data.toList.drop k) 0 0 (by omega) (by omega)).1
  rw [show rd 0 0 (s.data.toList.drop k) = rdAt s k from rfl] at hlt
  have HL := Lib.hid hlt; clear hlt
  have hcc := rd_code (s.data.toList.drop k) 0 0
  rw [show rd 0 0 (s.data.toList.drop k) = rdAt s k from rfl] at hcc
  rcases hcc with hc | ⟨hc, he⟩
  · obtain ⟨u, n, hr⟩ : ∃ u n, rdAt s k = ⟨0, u, n⟩ := ⟨(rdAt s k).u, (rdAt s k).n, by rw [← hc]⟩
    rw [hr] at HR HN HL
    clear hc
    have hv := readV_good k (rdAt s k) u n hr
    rw [hr] at hv
    have HV := Lib.hid hv; clear hv
    clear hr
    go_enter Tryd.func56, Tryd.ntmps56
    go_wp2_with (first | (go_at_call 29; refine (tooLong_any _ _ HS.out).mono ?_; rintro e w' ⟨rfl, rfl⟩) | (go_at_call 62; refine (HN.out _ h8' HAT.out).mono ?_; rw [HV.out]; rintro e w' ⟨rfl, rfl⟩) | (go_at_call 63; refine (as_nil _ _).mono ?_; rintro e w' ⟨rfl, rfl⟩) | (go_at_call 64; refine (unzigzag_any _ _ HL.out).mono ?_; rintro e w' ⟨rfl, rfl⟩))
    refine bodyPost_ret (v := numOutV (uz u) ((k : Int) + n) 0) (by simp [results, Tryd.results56, go_sem, numOutV]) rfl ⟨by rw [HR.out]; rfl, ?_⟩
    go_grown
  · obtain ⟨c, hr⟩ : ∃ c, rdAt s k = ⟨c, 0, 0⟩ := ⟨_, he⟩
    rw [hr] at HR HN HL hc
    have hv := readV_bad k (rdAt s k) c hr hc
    rw [hr] at hv
    have HV := Lib.hid hv; clear hv
    have hnum : numOf k ⟨c, 0, 0⟩ = ⟨0, 0, c⟩ := by rw [numOf, if_neg hc]
    have HNUM := Lib.hid hnum
    clear hr he hc hnum
    have hlt : 0 < w.heap.size := by
      have hg := HG.out
      rcases Nat.eq_zero_or_pos w.heap.size with h0 | h
      · simp [World.cell?, h0] at hg
      · exact h
    have hgA : ((w.alloc (.cells #[.int .i64 0, .int .i64 0, .int .i64 0] 75)).alloc (.cells #[.int .i64 0] 82)).cell? ⟨0, 0, none⟩ = some handle := by
      rw [World.cell?_alloc_lt _ _ ⟨0, 0, none⟩ (by simp), World.cell?_alloc_lt _ _ ⟨0, 0, none⟩ hlt]; exact HG.out
    have htA : ((w.alloc (.cells #[.int .i64 0, .int .i64 0, .int .i64 0] 75)).alloc (.cells #[.int .i64 0] 82)).cell? ⟨w.heap.size + 1, 0, none⟩ = some (.int .i64 0) := by simp
    have hfA : ((w.alloc (.cells #[.int .i64 0, .int .i64 0, .int .i64 0] 75)).alloc (.cells #[.int .i64 0] 82)).frozen? ⟨w.heap.size + 1, 0, none⟩ = false := by simp
    have has := as_hit c ⟨w.heap.size + 1, 0, none⟩ (.int .i64 0) _ hgA htA hfA
    have HA := Lib.hid has
    clear has hgA htA hfA hlt
    go_enter Tryd.func56, Tryd.ntmps56
    go_wp2_with (first | (go_at_call 29; refine (tooLong_any _ _ HS.out).mono ?_; rintro e w' ⟨rfl, rfl⟩) | (go_at_call 62; refine (HN.out _ h8' HAT.out).mono ?_; rw [HV.out]; rintro e w' ⟨rfl, rfl⟩) | (go_at_call 63; refine HA.out.mono ?_; rintro e w' ⟨rfl, rfl⟩))
    refine bodyPost_ret (v := numOutV 0 0 c) (by simp [results, Tryd.results56, go_sem, numOutV]) rfl ⟨by rw [HR.out, HNUM.out]; rfl, ?_⟩
    go_grown

theorem spec_step (u j : Nat) (c : UInt8) (hj : j ≤ 9) (hu : u < 128 ^ j) (h9 : j = 9 → c.toNat ≤ 1) :
    ∃ V : Int, 0 ≤ V ∧ V ≤ 18446744073709551615 ∧ V = ((u + c.toNat % 128 * 128 ^ j : Nat) : Int) ∧ IntKind.u64.wrap ((u : Int) + IntKind.u64.wrap ((c.toNat : Int) % 128 * 2 ^ (7 * j))) = V := by
  have hc := c.toNat_lt
  have hp := pow_small j c.toNat hj (by omega) h9
  have hb : u + c.toNat % 128 * 128 ^ j ≤ 18446744073709551615 := by
    rcases (by omega : j = 9 ∨ j ≤ 8) with rfl | h8
    · have := h9 rfl
      have : c.toNat % 128 ≤ 1 := by omega
      omega
    · have : 128 ^ (j + 1) ≤ 128 ^ 9 := Nat.pow_le_pow_right (by omega) (by omega)
      omega
  have e3 : (c.toNat : Int) % 128 * 2 ^ (7 * j) = ((c.toNat % 128 * 128 ^ j : Nat) : Int) := by
    rw [← pow_27 j, Int.natCast_mul, Int.natCast_pow]; rfl
  refine ⟨_, by omega, by omega, rfl, ?_⟩
  rw [e3, IntWalk.u64_in ((c.toNat % 128 * 128 ^ j : Nat) : Int) (by omega), IntWalk.u64_in _ (by omega)]; rfl
theorem numOf_good (k j : Nat) (V : Int) (u c : Nat) (hV : V = ((u + c % 128 * 128 ^ j : Nat) : Int)) (_h0 : 0 ≤ V) :
    (numOf k ⟨0, u + c % 128 * 128 ^ j, j + 1⟩).v = if V % 2 = 1 then numOutV (-(V / 2) - 1) ((k : Int) + j + 1) 0 else numOutV (V / 2) ((k : Int) + j + 1) 0 := by
  subst hV
  generalize u + c % 128 * 128 ^ j = x
  have e : (k : Int) + ((j + 1 : Nat) : Int) = (k : Int) + j + 1 := by omega
  simp only [numOf, if_true, NumO.v, uz, e]
  by_cases h : x % 2 = 1
  · rw [if_pos h, if_pos (by omega)]; rfl
  · rw [if_neg h, if_neg (by omega)]; rfl

set_option maxRecDepth 100000 in
set_option maxHeartbeats 2000000 in
theorem specGetNum_any (s : ByteArray) (at_ : Int) (w : World) (hs : s.size ≤ maxLen) (hat : at_ ≤ 9223372036854775807) :
    Calls Tryd.prog 59 #[.string s, .int .i64 at_] w fun e w' => e = .returned (getNum s at_).v ∧ Below w.heap.size w w' := by
  have HS := Lib.hid hs
  have HAT := Lib.hid hat; clear hat
  unfold maxLen at hs
  by_cases h8 : 8000 < s.size
  · have HR := Lib.hid (getNum_2 s at_ h8)
    go_enter Tryd.func59, Tryd.ntmps59
    go_wp2
    refine bodyPost_ret (v := numOutV 0 0 2) (by simp [results, Tryd.results59, go_sem, numOutV]) rfl ⟨by rw [HR.out]; rfl, ?_⟩
    go_grown
  by_cases h0 : at_ < 0
  · have HR := Lib.hid (getNum_1 s at_ h8 h0)
    go_enter Tryd.func59, Tryd.ntmps59
    go_wp2
    refine bodyPost_ret (v := numOutV 0 0 1) (by simp [results, Tryd.results59, go_sem, numOutV]) rfl ⟨by rw [HR.out]; rfl, ?_⟩
    go_grown
  obtain ⟨k, rfl⟩ : ∃ k : Nat, at_ = (k : Int) := ⟨at_.toNat, by omega⟩
  have h8' : s.size ≤ 8000 := by omega
  have b1 : decide (8000 < (s.size : Int)) = false := by simp; omega
  have b2 : decide ((k : Int) < 0) = false := by simp
  have HR := Lib.hid (getNum_r s k h8)
  clear hs h8 h0
  go_enter Tryd.func59, Tryd.ntmps59
  go_wp2
  go_loop [5, 6] (fun v i => ∃ j u : Nat, j ≤ 10 ∧ Hid (j ≤ 9 → u < 128 ^ j) ∧ i = .int .i64 j ∧ v = .int .u64 u ∧ Hid (rdAt s k = rd j u (s.data.toList.drop (k + j))) ∧ Hid (j ≤ 9)) (fun _ i => 10 - (intOf i).toNat)
  case atStart => exact ⟨0, 0, by omega, Lib.hid (by intro _; decide), rfl, rfl, Lib.hid rfl, Lib.hid (by omega)⟩
  case round =>
    obtain ⟨j, u, hj, HU, rfl, rfl, HD, HJ9⟩ := hrel
    have hj9 : j ≤ 9 := HJ9.out
    by_cases hlt : k + j < s.size
    · have hl2 : (k : Int) < s.size - j := by omega
      have hcb : (s[k + j].toNat : Int) ≤ 255 := by have := s[k + j].toNat_lt; omega
      have hd := drop_cons s (k + j) hlt
      rw [hd] at HD
      clear hd
      by_cases h9 : j = 9 ∧ 1 < s[k + j].toNat
      · obtain ⟨e9, hc1⟩ := h9
        have HE := Lib.hid (rd_over j u s[k + j] (s.data.toList.drop (k + j + 1)) e9 hc1)
        have hc2 : (1 : Int) < s[k + j].toNat := by omega
        have bj : ((j : Int) == 9) = true := by simp; omega
        have bc : decide ((1 : Int) < s[k + j].toNat) = true := by simp; omega
        clear e9 hc1
        go_wp2
        refine bodyPost_ret (v := numOutV 0 0 3) (by simp [results, Tryd.results59, go_sem, numOutV]) rfl ⟨?_, ?_⟩
        · rw [HR.out, HD.out, HE.out]; rfl
        · go_grown
      · have hst := spec_step u j s[k + j] hj9 (HU.out hj9) (by omega)
        obtain ⟨V, hV0, hV1, hVe, hw⟩ := hst
        have HV := Lib.hid hVe; clear hVe
        have hpick : ((j : Int) == 9) = true ∧ (s[k + j].toNat : Int) ≤ 1 ∨ ((j : Int) == 9) = false := by
          by_cases e : j = 9
          · exact .inl ⟨by simp; omega, by omega⟩
          · exact .inr (by simp; omega)
        by_cases hc : s[k + j].toNat < 128
        · have HE := Lib.hid (rd_last j u s[k + j] (s.data.toList.drop (k + j + 1)) h9 hc)
          have hci : (s[k + j].toNat : Int) < 128 := by omega
          by_cases hz : s[k + j].toNat = 0 ∧ 0 < j
          · have HE2 := Lib.hid (HE.out.trans (if_pos hz))
            obtain ⟨hz0, hz1⟩ := hz
            have bz : ((s[k + j].toNat : Int) == 0) = true := by simp; omega
            have hz1' : (0 : Int) < j := by omega
            have bz1 : decide ((0 : Int) < (j : Int)) = true := by simp; omega
            clear hz0 h9 hc HE
            rcases hpick with ⟨bj, hle⟩ | bj
            all_goals
              try (have bc : decide ((1 : Int) < s[k + j].toNat) = false := by simp; omega)
              go_wp2
              refine bodyPost_ret (v := numOutV 0 0 3) (by simp [results, Tryd.results59, go_sem, numOutV]) rfl ⟨?_, ?_⟩
              · rw [HR.out, HD.out, HE2.out]; rfl
              · go_grown
          · have HE2 := Lib.hid (HE.out.trans (if_neg hz))
            have HF := Lib.hid (numOf_good k j V u s[k + j].toNat HV.out hV0)
            clear h9 hc HE
            have hzz : ((s[k + j].toNat : Int) == 0) = false ∨ ((s[k + j].toNat : Int) == 0) = true ∧ ¬ 0 < j := by
              by_cases e : s[k + j].toNat = 0
              · exact .inr ⟨by simp; omega, by omega⟩
              · exact .inl (by simp; omega)
            clear hz
            have hpar : ((V % 2 == 1) = true ∧ Hid (V % 2 = 1)) ∨ ((V % 2 == 1) = false ∧ Hid (¬ V % 2 = 1)) := by
              by_cases e : V % 2 = 1
              · exact .inl ⟨by simp [e], Lib.hid e⟩
              · exact .inr ⟨by simp; omega, Lib.hid e⟩
            rcases hpick with ⟨bj, hle⟩ | bj
            all_goals
              try (have bc : decide ((1 : Int) < s[k + j].toNat) = false := by simp; omega)
              rcases hzz with bz | ⟨bz, bz1⟩
              all_goals
                rcases hpar with ⟨bv, HPV⟩ | ⟨bv, HPV⟩
                · go_wp2
                  refine bodyPost_ret (v := numOutV (-(V / 2) - 1) ((k : Int) + j + 1) 0) (by simp [results, Tryd.results59, go_sem, numOutV]) rfl ⟨?_, ?_⟩
                  · rw [HR.out, HD.out, HE2.out, HF.out, if_pos HPV.out]
                  · go_grown
                · go_wp2
                  refine bodyPost_ret (v := numOutV (V / 2) ((k : Int) + j + 1) 0) (by simp [results, Tryd.results59, go_sem, numOutV]) rfl ⟨?_, ?_⟩
                  · rw [HR.out, HD.out, HE2.out, HF.out, if_neg HPV.out]
                  · go_grown
        · have hj8 : j ≠ 9 := by have := s[k + j].toNat_lt; omega
          have HE := Lib.hid (rd_more j u s[k + j] (s.data.toList.drop (k + j + 1)) hj8 hc)
          have hp := pow_small j s[k + j].toNat hj9 (by have := s[k + j].toNat_lt; omega) (by omega)
          have hu := HU.out hj9
          have hnew : u + s[k + j].toNat % 128 * 128 ^ j < 128 ^ (j + 1) := by omega
          have HW := Lib.hid hnew
          have hci : (128 : Int) ≤ s[k + j].toNat := by omega
          have bj : ((j : Int) == 9) = false := by simp; omega
          have HJ8 := Lib.hid hj8
          clear hnew hp hu hpick h9 hc hj8
          go_wp2
          go_round
          case rel => exact ⟨j + 1, _, by omega, Lib.hid (fun _ => HW.out), by go_num, by rw [HV.out], Lib.hid (by rw [HD.out, HE.out]; rfl), Lib.hid (by have := HJ8.out; omega)⟩
          case measure => simp [intOf]; omega
    · have hl2 : (s.size : Int) - j ≤ (k : Int) := by omega
      rw [drop_none s (k + j) (by omega)] at HD
      have HK := HAT.out
      go_wp2
      refine bodyPost_ret (v := numOutV 0 0 4) (by simp [results, Tryd.results59, go_sem, numOutV]) rfl ⟨?_, ?_⟩
      · rw [HR.out, HD.out]; rfl
      · go_grown
end Go.Proofs.YthhodnkcaefnnaaDoor
