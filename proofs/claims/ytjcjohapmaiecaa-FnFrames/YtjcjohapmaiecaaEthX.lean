/- The program's VxRead and ArpRead. -/
import Derived.Test.YtjcjohapmaiecaaEthW
namespace Go.Proofs.Ytjcjohapmaiecaa
open Go.RowKit
attribute [local go_sem ↓] Go.wp_at_zero Go.wp_at_succ

theorem vxRight_sub (v : Int) (s : ByteArray) (a b : Nat) (w : World) (h : s.size ≤ 8000) : Calls Try.prog 51 #[.int .i64 v, .string (s.extract a b)] w fun e w' => e = .returned (.bool (vxRightB v (s.extract a b))) ∧ w = w' :=
  vxRight_any _ _ w (by simp [maxLen]; omega)
theorem hasSuf_sub (s : ByteArray) (a b : Nat) (p : ByteArray) (w : World) (hs : s.size ≤ 8000) (hp : p.size ≤ maxLen) :
    Calls Try.prog 60 #[.string (s.extract a b), .string p] w fun e w' => e = .returned (.bool (hasSuf (s.extract a b) p)) ∧ w = w' :=
  hasSuf_any _ _ w (by simp [maxLen]; omega) hp
set_option maxHeartbeats 2000000 in
theorem implVxRead_any (s : ByteArray) (w : World) (hs : s.size ≤ maxLen) :
    Calls Try.prog 22 #[.string s] w fun e w' => e = .returned (vxR s) ∧ Below w.heap.size w w' := by
  have HM := Lib.hid hs
  unfold maxLen at hs
  by_cases h1 : 8000 < s.size
  · have HR := Lib.hid (vxR_2 s h1)
    go_enter Try.func22, Try.ntmps22
    go_wp2_with (go_at_call 53; refine (tooLong_any _ _ HM.out).mono ?_; rintro e w' ⟨rfl, rfl⟩)
    refine bodyPost_ret (v := vxOutV 0 ⟨#[]⟩ 2) (by simp [results, Try.results22, go_sem, vxOutV]) rfl ⟨by rw [HR.out], ?_⟩
    go_grown
  by_cases h2 : s.size < 8
  · have HR := Lib.hid (vxR_4 s h1 h2)
    go_enter Try.func22, Try.ntmps22
    go_wp2_with (go_at_call 53; refine (tooLong_any _ _ HM.out).mono ?_; rintro e w' ⟨rfl, rfl⟩)
    refine bodyPost_ret (v := vxOutV 0 ⟨#[]⟩ 4) (by simp [results, Try.results22, go_sem, vxOutV]) rfl ⟨by rw [HR.out], ?_⟩
    go_grown
  have hsame := vx_same s (by omega)
  have i8 : (8 : Int) ≤ s.size := by omega
  have h8 : s.size ≤ 8000 := by omega
  have ex8 : (s.extract 0 8).size = 8 := by rw [ByteArray.size_extract]; omega
  have ex47 : (s.extract 0 8).extract 4 7 = s.extract 4 7 := ext_ext s 0 8 4 7 (by omega)
  cases hp : hasPre (s.extract 0 8) ⟨#[8, 0, 0, 0]⟩
  · rw [hp, Bool.false_and, Bool.false_and] at hsame
    have HR := Lib.hid (vxR_3 s h1 h2 hsame)
    clear hsame
    go_enter Try.func22, Try.ntmps22
    go_wp2_with (go_at_call 53; refine (tooLong_any _ _ HM.out).mono ?_; rintro e w' ⟨rfl, rfl⟩)
    go_quiet (fail)
    go_wp2_with (first | (go_at_call 56; refine (implGet_sub _ _ _ _ ?_).mono ?_; (first | decide | omega); rintro e w' ⟨rfl, rfl⟩) | (go_at_call 58; refine (hasPre_any _ _ _).mono ?_; rintro e w' ⟨rfl, rfl⟩) | (go_at_call 60; refine (hasSuf_sub _ _ _ _ _ h8 (by decide)).mono ?_; rintro e w' ⟨rfl, rfl⟩) | (go_at_call 51; refine (vxRight_sub _ _ _ _ _ h8).mono ?_; rintro e w' ⟨rfl, rfl⟩))
    refine bodyPost_ret (v := vxOutV 0 ⟨#[]⟩ 3) (by simp [results, Try.results22, go_sem, vxOutV]) rfl ⟨by rw [HR.out], ?_⟩
    exact (((dn ((Below.refl w.heap.size w).alloc (Nat.le_refl _) _) nq).setCell (Nat.le_refl _) _).setCell (Nat.le_refl _) _).setCell (Nat.le_refl _) _
  cases hq : hasSuf (s.extract 0 8) ⟨#[0]⟩
  · rw [hp, hq, Bool.true_and, Bool.false_and] at hsame
    have HR := Lib.hid (vxR_3 s h1 h2 hsame)
    clear hsame
    go_enter Try.func22, Try.ntmps22
    go_wp2_with (go_at_call 53; refine (tooLong_any _ _ HM.out).mono ?_; rintro e w' ⟨rfl, rfl⟩)
    go_quiet (fail)
    go_wp2_with (first | (go_at_call 56; refine (implGet_sub _ _ _ _ ?_).mono ?_; (first | decide | omega); rintro e w' ⟨rfl, rfl⟩) | (go_at_call 58; refine (hasPre_any _ _ _).mono ?_; rintro e w' ⟨rfl, rfl⟩) | (go_at_call 60; refine (hasSuf_sub _ _ _ _ _ h8 (by decide)).mono ?_; rintro e w' ⟨rfl, rfl⟩) | (go_at_call 51; refine (vxRight_sub _ _ _ _ _ h8).mono ?_; rintro e w' ⟨rfl, rfl⟩))
    refine bodyPost_ret (v := vxOutV 0 ⟨#[]⟩ 3) (by simp [results, Try.results22, go_sem, vxOutV]) rfl ⟨by rw [HR.out], ?_⟩
    exact (((dn ((Below.refl w.heap.size w).alloc (Nat.le_refl _) _) nq).setCell (Nat.le_refl _) _).setCell (Nat.le_refl _) _).setCell (Nat.le_refl _) _
  cases hv : vxRightB (numAt s 4 7 : Nat) (s.extract 8 s.size)
  · rw [hp, hq, hv, Bool.true_and, Bool.true_and] at hsame
    have HR := Lib.hid (vxR_3 s h1 h2 hsame)
    clear hsame
    go_enter Try.func22, Try.ntmps22
    go_wp2_with (go_at_call 53; refine (tooLong_any _ _ HM.out).mono ?_; rintro e w' ⟨rfl, rfl⟩)
    go_quiet (fail)
    go_wp2_with (first | (go_at_call 56; refine (implGet_sub _ _ _ _ ?_).mono ?_; (first | decide | omega); rintro e w' ⟨rfl, rfl⟩) | (go_at_call 58; refine (hasPre_any _ _ _).mono ?_; rintro e w' ⟨rfl, rfl⟩) | (go_at_call 60; refine (hasSuf_sub _ _ _ _ _ h8 (by decide)).mono ?_; rintro e w' ⟨rfl, rfl⟩) | (go_at_call 51; refine (vxRight_sub _ _ _ _ _ h8).mono ?_; rintro e w' ⟨rfl, rfl⟩))
    refine bodyPost_ret (v := vxOutV 0 ⟨#[]⟩ 3) (by simp [results, Try.results22, go_sem, vxOutV]) rfl ⟨by rw [HR.out], ?_⟩
    exact (((dn ((Below.refl w.heap.size w).alloc (Nat.le_refl _) _) nq).setCell (Nat.le_refl _) _).setCell (Nat.le_refl _) _).setCell (Nat.le_refl _) _
  · rw [hp, hq, hv, Bool.true_and, Bool.true_and] at hsame
    have HR := Lib.hid (vxR_0 s h1 h2 hsame)
    clear hsame
    go_enter Try.func22, Try.ntmps22
    go_wp2_with (go_at_call 53; refine (tooLong_any _ _ HM.out).mono ?_; rintro e w' ⟨rfl, rfl⟩)
    go_quiet (fail)
    go_wp2_with (first | (go_at_call 56; refine (implGet_sub _ _ _ _ ?_).mono ?_; (first | decide | omega); rintro e w' ⟨rfl, rfl⟩) | (go_at_call 58; refine (hasPre_any _ _ _).mono ?_; rintro e w' ⟨rfl, rfl⟩) | (go_at_call 60; refine (hasSuf_sub _ _ _ _ _ h8 (by decide)).mono ?_; rintro e w' ⟨rfl, rfl⟩) | (go_at_call 51; refine (vxRight_sub _ _ _ _ _ h8).mono ?_; rintro e w' ⟨rfl, rfl⟩) | (go_at_call 57; refine (clone_sub _ _ _ _ h8).mono ?_; rintro e w1 ⟨rfl, hb1⟩; have hbw : Below w.heap.size w w1 := (dn ((Below.refl _ _).alloc (Nat.le_refl _) _) nq).trans (hb1.mono (by simp)); obtain ⟨hc, hf⟩ := bcell hb1; have hc0 := hc w.heap.size 0 (by simp); have hc1 := hc w.heap.size 1 (by simp); have hc2 := hc w.heap.size 2 (by simp); have hf0 := hf w.heap.size 0 (by simp); have hf1 := hf w.heap.size 1 (by simp); have hf2 := hf w.heap.size 2 (by simp); clear hc hf))
    refine bodyPost_ret (v := vxOutV (numAt s 4 7 : Nat) (s.extract 8 s.size) 0) (by simp [results, Try.results22, go_sem, vxOutV, *]) rfl ⟨by rw [HR.out], ?_⟩
    exact ((hbw.setCell (Nat.le_refl _) _).setCell (Nat.le_refl _) _).setCell (Nat.le_refl _) _

theorem arp_first (s : ByteArray) (h : s.size = 28) (hp : hasPre s ⟨#[0, 1, 8, 0, 6, 4, 0]⟩ = true) : s[6].toNat = 0 ∧ numAt s 6 8 = s[7].toNat := by
  rw [arp_pre s h, take7 s h, decide_eq_true_eq] at hp
  have h6 : s[6] = 0 := by
    have := congrArg List.getLast? hp
    rw [List.getLast?_concat] at this
    exact Option.some.inj this
  have h60 : s[6].toNat = 0 := by rw [h6]; rfl
  have hn := num_two s h
  exact ⟨h60, by omega⟩
theorem readOwner_sub (s : ByteArray) (a b : Nat) (w : World) (h : b = a + 10) (hs : b ≤ s.size) :
    Calls Try.prog 59 #[.string (s.extract a b)] w fun e w' => e = .returned (.tuple #[.int .i64 (numAt s a (a + 6) : Nat), .int .i64 (numAt s (a + 6) b : Nat)]) ∧ Below w.heap.size w w' := by
  have c := readOwner_any (s.extract a b) w (by rw [ByteArray.size_extract]; omega)
  rw [numAt_ext s a b 0 6 (by omega), numAt_ext s a b 6 10 (by omega), ← h] at c
  exact c
set_option maxHeartbeats 2000000 in
theorem implArpRead_any (s : ByteArray) (w : World) (hs : s.size ≤ maxLen) :
    Calls Try.prog 21 #[.string s] w fun e w' => e = .returned (arpR s) ∧ Below w.heap.size w w' := by
  have HM := Lib.hid hs
  unfold maxLen at hs
  by_cases h1 : 8000 < s.size
  · have HR := Lib.hid (arpR_2 s h1)
    go_enter Try.func21, Try.ntmps21
    go_wp2_with (go_at_call 53; refine (tooLong_any _ _ HM.out).mono ?_; rintro e w' ⟨rfl, rfl⟩)
    refine bodyPost_ret (v := arpOutV 0 0 0 0 0 2) (by simp [results, Try.results21, go_sem, arpOutV]) rfl ⟨by rw [HR.out], ?_⟩
    go_grown
  by_cases h2 : s.size = 28
  case neg =>
    have HR := Lib.hid (arpR_n s h1 h2)
    have i28 : decide ((s.size : Int) = 28) = false := by simp; omega
    go_enter Try.func21, Try.ntmps21
    go_wp2_with (go_at_call 53; refine (tooLong_any _ _ HM.out).mono ?_; rintro e w' ⟨rfl, rfl⟩)
    refine bodyPost_ret (v := arpOutV 0 0 0 0 0 3) (by simp [results, Try.results21, go_sem, arpOutV]) rfl ⟨by rw [HR.out], ?_⟩
    go_grown
  have hsame := arp_same s h2
  cases hp : hasPre s ⟨#[0, 1, 8, 0, 6, 4, 0]⟩
  · rw [hp, Bool.false_and] at hsame
    have HR := Lib.hid (arpR_3 s h2 hsame)
    clear hsame
    go_enter Try.func21, Try.ntmps21
    go_wp2_with (first | (go_at_call 53; refine (tooLong_any _ _ HM.out).mono ?_; rintro e w' ⟨rfl, rfl⟩) | (go_at_call 58; refine (hasPre_any _ _ _).mono ?_; rintro e w' ⟨rfl, rfl⟩))
    refine bodyPost_ret (v := arpOutV 0 0 0 0 0 3) (by simp [results, Try.results21, go_sem, arpOutV]) rfl ⟨by rw [HR.out], ?_⟩
    go_grown
  rw [hp, Bool.true_and] at hsame
  have HS := Lib.hid hsame; clear hsame
  have i8 : (8 : Int) ≤ s.size := by omega
  have ex20 : (s.extract 8 28).size = 20 := by rw [ByteArray.size_extract]; omega
  have exa : (s.extract 8 28).extract 0 10 = s.extract 8 18 := ext_ext s 8 28 0 10 (by omega)
  have exb : (s.extract 8 28).extract 10 20 = s.extract 18 28 := ext_ext s 8 28 10 20 (by omega)
  have hw7 : wrap64 (s[7].toNat : Int) = (s[7].toNat : Int) := IntWalk.wrap64_in _ (by have := s[7].toNat_lt; omega)
  have HA := Lib.hid (fun W => arpRight_any (s[7].toNat : Nat) (numAt s 8 14 : Nat) (numAt s 14 18 : Nat) (numAt s 18 24 : Nat) (numAt s 24 28 : Nat) W)
  unfold arpV at HA
  go_enter Try.func21, Try.ntmps21
  go_wp2_with (first | (go_at_call 53; refine (tooLong_any _ _ HM.out).mono ?_; rintro e w' ⟨rfl, rfl⟩) | (go_at_call 58; refine (hasPre_any _ _ _).mono ?_; rintro e w' ⟨rfl, rfl⟩))
  refine (readOwner_sub s 8 18 _ rfl (by omega)).mono ?_
  rintro e w1 ⟨rfl, hb1⟩
  have hz1 : w.heap.size + 1 < w1.heap.size := by have := hb1.size; simp at this; omega
  have hc : ∀ o, w1.cell? ⟨w.heap.size, o, none⟩ = _ := fun o => hb1.cell (p := ⟨w.heap.size, o, none⟩) (by simp; omega)
  have hc2 : ∀ o, w1.cell? ⟨w.heap.size + 1, o, none⟩ = _ := fun o => hb1.cell (p := ⟨w.heap.size + 1, o, none⟩) (by simp)
  have hf : ∀ o, w1.frozen? ⟨w.heap.size, o, none⟩ = _ := fun o => hb1.frozen (p := ⟨w.heap.size, o, none⟩) (by simp; omega)
  have hf2 : ∀ o, w1.frozen? ⟨w.heap.size + 1, o, none⟩ = _ := fun o => hb1.frozen (p := ⟨w.heap.size + 1, o, none⟩) (by simp)
  have HB1 : Hid (Below w.heap.size w w1) := Lib.hid (Below.trans (by go_grown) (hb1.mono (by simp; omega)))
  clear hb1
  go_wp2_with fail
  refine (readOwner_sub s 18 28 _ rfl (by omega)).mono ?_
  rintro e w2 ⟨rfl, hb2⟩
  have hz2 : w.heap.size + 1 < w2.heap.size := by have := hb2.size; simp at this; omega
  have kc : ∀ o, w2.cell? ⟨w.heap.size, o, none⟩ = _ := fun o => hb2.cell (p := ⟨w.heap.size, o, none⟩) (by simp; omega)
  have kc2 : ∀ o, w2.cell? ⟨w.heap.size + 1, o, none⟩ = _ := fun o => hb2.cell (p := ⟨w.heap.size + 1, o, none⟩) (by simp; omega)
  have kf : ∀ o, w2.frozen? ⟨w.heap.size, o, none⟩ = _ := fun o => hb2.frozen (p := ⟨w.heap.size, o, none⟩) (by simp; omega)
  have kf2 : ∀ o, w2.frozen? ⟨w.heap.size + 1, o, none⟩ = _ := fun o => hb2.frozen (p := ⟨w.heap.size + 1, o, none⟩) (by simp; omega)
  have HB2 : Hid (Below w.heap.size w w2) := Lib.hid (((HB1.out.setCell (Nat.le_succ _) _).setCell (Nat.le_succ _) _).trans (hb2.mono (by simp; omega)))
  clear hb2 HB1
  go_wp2_with fail
  refine (HA.out _).mono ?_
  rintro e w3 ⟨rfl, hb3⟩
  have lc : ∀ o, w3.cell? ⟨w.heap.size, o, none⟩ = _ := fun o => hb3.cell (p := ⟨w.heap.size, o, none⟩) (by simp; omega)
  have lc2 : ∀ o, w3.cell? ⟨w.heap.size + 1, o, none⟩ = _ := fun o => hb3.cell (p := ⟨w.heap.size + 1, o, none⟩) (by simp; omega)
  have lf : ∀ o, w3.frozen? ⟨w.heap.size, o, none⟩ = _ := fun o => hb3.frozen (p := ⟨w.heap.size, o, none⟩) (by simp; omega)
  have HB3 : Hid (Below w.heap.size w w3) := Lib.hid (((HB2.out.setCell (Nat.le_succ _) _).setCell (Nat.le_succ _) _).trans (hb3.mono (by simp; omega)))
  clear hb3 HB2 HA
  cases h3 : arpOk (s[7].toNat : Nat) (numAt s 8 14 : Nat) (numAt s 14 18 : Nat) (numAt s 18 24 : Nat) (numAt s 24 28 : Nat)
  · have hR := HS.out
    rw [h3] at hR
    have HR := Lib.hid (arpR_3 s h2 hR)
    clear hR HS
    go_wp2_with fail
    refine bodyPost_ret (v := arpOutV 0 0 0 0 0 3) (by simp [results, Try.results21, go_sem, arpOutV, lc, kc, hc]) rfl ⟨by rw [HR.out], ?_⟩
    exact (((((HB3.out.setCell (Nat.le_refl _) _).setCell (Nat.le_refl _) _).setCell (Nat.le_refl _) _).setCell (Nat.le_refl _) _).setCell (Nat.le_refl _) _).setCell (Nat.le_refl _) _
  · have hR := HS.out
    rw [h3] at hR
    obtain ⟨_, hn⟩ := arp_first s h2 hp
    have HR := Lib.hid ((arpR_0 s h2 hR).trans (by rw [hn]))
    clear hR HS hn
    go_wp2_with fail
    refine bodyPost_ret (v := arpOutV (s[7].toNat : Nat) (numAt s 8 14 : Nat) (numAt s 14 18 : Nat) (numAt s 18 24 : Nat) (numAt s 24 28 : Nat) 0) (by simp [results, Try.results21, go_sem, arpOutV, lc, kc, hc]) rfl ⟨by rw [HR.out], ?_⟩
    exact (((((HB3.out.setCell (Nat.le_refl _) _).setCell (Nat.le_refl _) _).setCell (Nat.le_refl _) _).setCell (Nat.le_refl _) _).setCell (Nat.le_refl _) _).setCell (Nat.le_refl _) _
end Go.Proofs.Ytjcjohapmaiecaa
