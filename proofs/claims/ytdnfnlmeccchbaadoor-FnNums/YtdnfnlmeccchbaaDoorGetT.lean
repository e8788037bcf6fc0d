/- Contracts of GetText, impl's and spec's. -/
import Derived.Test.YtdnfnlmeccchbaaDoorGetN
import Derived.Test.YtdnfnlmeccchbaaDoorClone
import Derived.Test.YtdnfnlmeccchbaaDoorTextOut
namespace Go.Proofs.YtdnfnlmeccchbaaDoor
open Go.RowKit

structure TextO where
  t : ByteArray
  at_ : Int
  code : Int
def TextO.v (o : TextO) : Value := textOutV o.t o.at_ o.code
def textOf (s : ByteArray) (o : NumO) : TextO :=
  if o.code ≠ 0 then ⟨⟨#[]⟩, 0, o.code⟩ else if o.n < 0 ∨ 8000 < o.n then ⟨⟨#[]⟩, 0, 3⟩ else if (s.size : Int) < o.at_ + o.n then ⟨⟨#[]⟩, 0, 4⟩ else ⟨s.extract o.at_.toNat (o.at_ + o.n).toNat, o.at_ + o.n, 0⟩
def getText (s : ByteArray) (a : Int) : TextO := textOf s (getNum s a)
theorem textOf_c (s : ByteArray) (o : NumO) (h : o.code ≠ 0) : textOf s o = ⟨⟨#[]⟩, 0, o.code⟩ := by rw [textOf, if_pos h]
theorem textOf_3 (s : ByteArray) (n a : Int) (h : n < 0 ∨ 8000 < n) : textOf s ⟨n, a, 0⟩ = ⟨⟨#[]⟩, 0, 3⟩ := by rw [textOf, if_neg (by simp), if_pos h]
theorem textOf_4 (s : ByteArray) (n a : Int) (h : ¬ (n < 0 ∨ 8000 < n)) (h4 : (s.size : Int) < a + n) : textOf s ⟨n, a, 0⟩ = ⟨⟨#[]⟩, 0, 4⟩ := by rw [textOf, if_neg (by simp), if_neg h, if_pos h4]
theorem textOf_0 (s : ByteArray) (n a : Int) (h : ¬ (n < 0 ∨ 8000 < n)) (h4 : ¬ (s.size : Int) < a + n) : textOf s ⟨n, a, 0⟩ = ⟨s.extract a.toNat (a + n).toNat, a + n, 0⟩ := by rw [textOf, if_neg (by simp), if_neg h, if_neg h4]

/- what GetNum hands back lies within bounds -/
theorem uz_bounds (u : Nat) (h : u ≤ 18446744073709551615) : -9223372036854775808 ≤ uz u ∧ uz u ≤ 9223372036854775807 := by
  unfold uz; split <;> omega
theorem getNum_bounds (s : ByteArray) (a n x : Int) (ha : a ≤ 9223372036854775807) (h : getNum s a = ⟨n, x, 0⟩) : s.size ≤ 8000 ∧ 0 ≤ x ∧ x ≤ s.size ∧ -9223372036854775808 ≤ n ∧ n ≤ 9223372036854775807 := by
  by_cases h8 : 8000 < s.size
  · rw [getNum_2 s a h8] at h; simp at h
  by_cases h0 : a < 0
  · rw [getNum_1 s a h8 h0] at h; simp at h
  obtain ⟨k, rfl⟩ : ∃ k : Nat, a = (k : Int) := ⟨a.toNat, by omega⟩
  rw [getNum_r s k h8] at h
  have hl := rd_lt (s.data.toList.drop k) 0 0 (by omega) (by omega)
  rw [show rd 0 0 (s.data.toList.drop k) = rdAt s k from rfl] at hl
  by_cases hc : (rdAt s k).code = 0
  · rw [numOf, if_pos hc] at h
    simp only [NumO.mk.injEq] at h
    obtain ⟨h1, h2, _⟩ := h
    have hb := uz_bounds _ hl.1
    have hlen : (s.data.toList.drop k).length = s.size - k := by rw [List.length_drop, ← Lib.size_eq]
    rw [hlen] at hl
    have hk : k < s.size := by
      rcases Nat.lt_or_ge k s.size with hk | hk
      · exact hk
      · exfalso
        have : rdAt s k = ⟨4, 0, 0⟩ := by rw [rdAt, drop_none s k hk]; rfl
        rw [this] at hc; simp at hc
    refine ⟨by omega, by omega, by omega, by omega, by omega⟩
  · rw [numOf, if_neg hc] at h
    simp only [NumO.mk.injEq] at h
    exact absurd h.2.2 hc

theorem clone_ext (s : ByteArray) (a b : Nat) (w : World) (h : s.size ≤ 8000) :
    Calls Tryd.prog 30 #[.string (s.extract a b)] w fun e w' => e = .returned (.string (s.extract a b)) ∧ Below w.heap.size w w' :=
  clone_any _ w (by simp; omega)

set_option maxHeartbeats 2000000 in
theorem implGetText_any (s : ByteArray) (at_ : Int) (w : World) (hs : s.size ≤ maxLen) (hat : at_ ≤ 9223372036854775807) (hg : w.cell? ⟨0, 0, none⟩ = some handle) :
    Calls Tryd.prog 13 #[.string s, .int .i64 at_] w fun e w' => e = .returned (getText s at_).v ∧ Below w.heap.size w w' := by
  have HS := Lib.hid hs
  have hlt : 0 < w.heap.size := by
    rcases Nat.eq_zero_or_pos w.heap.size with h0 | h
    · simp [World.cell?, h0] at hg
    · exact h
  have HG := Lib.hid hg; clear hg
  have HAT := Lib.hid hat; clear hat
  have HGA : ∀ o : Obj, (w.alloc o).cell? ⟨0, 0, none⟩ = some handle := fun o => by rw [World.cell?_alloc_lt _ _ ⟨0, 0, none⟩ hlt]; exact HG.out
  have HGB := Lib.hid HGA; clear HGA
  unfold maxLen at hs
  obtain ⟨n, x, c, hv⟩ : ∃ n x c, getNum s at_ = ⟨n, x, c⟩ := ⟨_, _, _, rfl⟩
  have HV := Lib.hid hv
  have HT : Hid (getText s at_ = textOf s ⟨n, x, c⟩) := by show getText s at_ = _; rw [getText, hv]
  by_cases hc : c = 0
  case neg =>
    have HR := Lib.hid (HT.out.trans (textOf_c s ⟨n, x, c⟩ hc))
    have bc : (c != 0) = true := by simp [hc]
    clear hv hc
    go_enter Tryd.func13, Tryd.ntmps13
    go_wp2_with (go_at_call 9; refine (implGetNum_any _ _ _ HS.out HAT.out (HGB.out _)).mono ?_; rintro e w1 ⟨rfl, hb1⟩; rw [HV.out]; unfold NumO.v numOutV; have hbw : Below w.heap.size w w1 := Below.trans (by go_grown) (hb1.mono (by simp)); obtain ⟨hc1, hf1⟩ := bcell hb1; have hz : w.heap.size < w1.heap.size := (by have := hb1.size; simp at this; omega))
    refine bodyPost_ret (v := textOutV ⟨#[]⟩ 0 c) (by simp [results, Tryd.results13, go_sem, textOutV, hc1, hz]) rfl ⟨by rw [HR.out]; rfl, ?_⟩
    go_grown
  subst hc
  obtain ⟨h8, hx0, hx1, hn0, hn1⟩ := getNum_bounds s at_ n x HAT.out hv
  clear hv
  by_cases h3 : n < 0 ∨ 8000 < n
  · have HR := Lib.hid (HT.out.trans (textOf_3 s n x h3))
    by_cases h30 : n < 0
    · go_enter Tryd.func13, Tryd.ntmps13
      go_wp2_with (go_at_call 9; refine (implGetNum_any _ _ _ HS.out HAT.out (HGB.out _)).mono ?_; rintro e w1 ⟨rfl, hb1⟩; rw [HV.out]; unfold NumO.v numOutV; have hbw : Below w.heap.size w w1 := Below.trans (by go_grown) (hb1.mono (by simp)); obtain ⟨hc1, hf1⟩ := bcell hb1; have hz : w.heap.size < w1.heap.size := (by have := hb1.size; simp at this; omega))
      refine bodyPost_ret (v := textOutV ⟨#[]⟩ 0 3) (by simp [results, Tryd.results13, go_sem, textOutV, hc1, hz]) rfl ⟨by rw [HR.out]; rfl, ?_⟩
      go_grown
    · have h31 : 8000 < n := by omega
      have b0 : decide (n < 0) = false := by simp; omega
      clear h3
      go_enter Tryd.func13, Tryd.ntmps13
      go_wp2_with (go_at_call 9; refine (implGetNum_any _ _ _ HS.out HAT.out (HGB.out _)).mono ?_; rintro e w1 ⟨rfl, hb1⟩; rw [HV.out]; unfold NumO.v numOutV; have hbw : Below w.heap.size w w1 := Below.trans (by go_grown) (hb1.mono (by simp)); obtain ⟨hc1, hf1⟩ := bcell hb1; have hz : w.heap.size < w1.heap.size := (by have := hb1.size; simp at this; omega))
      refine bodyPost_ret (v := textOutV ⟨#[]⟩ 0 3) (by simp [results, Tryd.results13, go_sem, textOutV, hc1, hz]) rfl ⟨by rw [HR.out]; rfl, ?_⟩
      go_grown
  have b0 : decide (n < 0) = false := by simp; omega
  have b1 : decide (8000 < n) = false := by simp; omega
  have hn2 : 0 ≤ n := by omega
  have hn3 : n ≤ 8000 := by omega
  clear hn0 hn1
  by_cases h4 : (s.size : Int) < x + n
  · have HR := Lib.hid (HT.out.trans (textOf_4 s n x h3 h4))
    have h4' : (s.size : Int) - n < x := by omega
    clear h3
    go_enter Tryd.func13, Tryd.ntmps13
    go_wp2_with (go_at_call 9; refine (implGetNum_any _ _ _ HS.out HAT.out (HGB.out _)).mono ?_; rintro e w1 ⟨rfl, hb1⟩; rw [HV.out]; unfold NumO.v numOutV; have hbw : Below w.heap.size w w1 := Below.trans (by go_grown) (hb1.mono (by simp)); obtain ⟨hc1, hf1⟩ := bcell hb1; have hz : w.heap.size < w1.heap.size := (by have := hb1.size; simp at this; omega))
    refine bodyPost_ret (v := textOutV ⟨#[]⟩ 0 4) (by simp [results, Tryd.results13, go_sem, textOutV, hc1, hz]) rfl ⟨by rw [HR.out]; rfl, ?_⟩
    go_grown
  have HR := Lib.hid (HT.out.trans (textOf_0 s n x h3 h4))
  have h4' : x ≤ (s.size : Int) - n := by omega
  clear h3
  go_enter Tryd.func13, Tryd.ntmps13
  go_wp2_with (first | (go_at_call 9; refine (implGetNum_any _ _ _ HS.out HAT.out (HGB.out _)).mono ?_; rintro e w1 ⟨rfl, hb1⟩; rw [HV.out]; unfold NumO.v numOutV; have hbw : Below w.heap.size w w1 := Below.trans (by go_grown) (hb1.mono (by simp)); obtain ⟨hc1, hf1⟩ := bcell hb1; have hz : w.heap.size < w1.heap.size := (by have := hb1.size; simp at this; omega)) | (go_at_call 30; refine (clone_ext _ _ _ _ h8).mono ?_; rintro e w2 ⟨rfl, hb2⟩; have hbw2 : Below w.heap.size w w2 := (hbw.alloc (by have := hbw.size; omega) _).trans (hb2.mono (by have := hbw.size; simp; omega)); obtain ⟨hc2, hf2⟩ := bcell hb2; have hz2 : w1.heap.size < w2.heap.size := (by have := hb2.size; simp at this; omega); have hz3 : w.heap.size < w1.heap.size + 1 := (by omega)))
  refine bodyPost_ret (v := textOutV (s.extract x.toNat (x + n).toNat) (x + n) 0) (by simp [results, Tryd.results13, go_sem, textOutV, hc1, hz, hc2, hz3]) rfl ⟨by rw [HR.out]; rfl, ?_⟩
  go_grown

end Go.Proofs.YtdnfnlmeccchbaaDoor
