/- firstHeap of Hd: down of container/heap. -/
import Derived.Test.YtmkoppbbenombaaFuH
namespace Go.Proofs.Ytmkoppbbenombaa
open Go.RowKit

structure FhDnH (w wr : World) (B hb n c m : Nat) (a : Option Addr) (es es' : List Hd) (i : Nat) : Prop where
  at' : FhH wr B hb es' a c
  len : es'.length = n
  inv : DownG ordHd es' m i
  perm : es.Perm es'
  keep : Fk2 w wr hb (.slice a n c) (.slice a n c)
  last : ∀ k, m ≤ k → hG ordHd es' k = hG ordHd es k
def FhDownH (B hb n c m : Nat) (a : Option Addr) (es : List Hd) (w : World) (e : Ending) (w' : World) : Prop :=
  (∃ v, e = .returned v) ∧ ∃ es', FhH w' B hb es' a c ∧ es'.length = n ∧ HeapG ordHd es' m ∧ es.Perm es' ∧ Fk2 w w' hb (.slice a n c) (.slice a n c) ∧ ∀ k, m ≤ k → hG ordHd es' k = hG ordHd es k
set_option maxRecDepth 100000 in
set_option maxHeartbeats 8000000 in
theorem fhDownH_any (B hb : Nat) (es : List Hd) (c m : Nat) (a : Option Addr) (w : World) (H : FhH w B hb es a c) (hn : es.length ≤ 1000000) (hm : m ≤ es.length) (hI : DownG ordHd es m 0) :
    Calls Try.prog 133 #[.iface 122 (.pointer (some ⟨hb, 0, none⟩)), .int .i64 0, .int .i64 (m : Int)] w (FhDownH B hb es.length c m a es w) := by
  unfold FhDownH
  have HU : Hid (FhDnH w w B hb es.length c m a es es 0) := Lib.hid ⟨H, rfl, hI, List.Perm.refl _, Fk2.of_below (Below.refl _ _) rfl, fun _ _ => rfl⟩
  clear H hI
  obtain ⟨n, hnn⟩ : ∃ n, n = es.length := ⟨_, rfl⟩
  rw [← hnn] at hn hm HU ⊢
  clear hnn
  have hml := mLessH ⟨hb, 0, none⟩
  have hms := mSwapH ⟨hb, 0, none⟩
  go_enter Try.func133, Try.ntmps133
  go_wp2_with fail
  go_loopw [7, 8, 9, 10] (fun u _ _ _ wr => ∃ (i : Nat) (es' : List Hd), u = .int .i64 (i : Int) ∧ i ≤ n ∧ Hid (FhDnH w wr B hb n c m a es es' i)) (fun u _ _ _ _ => n - (intOf u).toNat)
  case atStart => exact ⟨0, es, rfl, Nat.zero_le _, HU⟩
  case round =>
    clear HU
    obtain ⟨i, es', rfl, hi, HU⟩ := hrel
    obtain ⟨j1, hj1⟩ : ∃ j, j = 2 * i + 1 := ⟨_, rfl⟩
    obtain ⟨j2, hj2⟩ : ∃ j, j = 2 * i + 2 := ⟨_, rfl⟩
    have E1 : Hid ((j1 : Int) = 2 * (i : Int) + 1) := Lib.hid (by omega)
    have E2 : Hid ((j2 : Int) = 2 * (i : Int) + 1 + 1) := Lib.hid (by omega)
    have hw0 : IntKind.i64.wrap (2 * (i : Int)) = 2 * (i : Int) := by simp only [IntKind.wrap_i64]; omega
    have hw1 : IntKind.i64.wrap (2 * (i : Int) + 1) = 2 * (i : Int) + 1 := by simp only [IntKind.wrap_i64]; omega
    have hw2 : IntKind.i64.wrap (2 * (i : Int) + 1 + 1) = 2 * (i : Int) + 1 + 1 := by simp only [IntKind.wrap_i64]; omega
    have HJ1 := Lib.hid hj1
    have HJ2 := Lib.hid hj2
    clear hj1 hj2
    by_cases hlt : j1 < m
    · have hg1 : ¬ (m : Int) ≤ 2 * (i : Int) + 1 := by have := E1.out; omega
      have hg2 : ¬ 2 * (i : Int) + 1 < 0 := by omega
      have hin : i < m := by have := HJ1.out; omega
      have HLs := Lib.hid (fun (x y : Nat) (W' : World) (hb' : Below wr.heap.size wr W') (hx : x < n) (hy : y < n) => fhLessH_any B hb es' c a x y W' (HU.out.at'.kept hb') (by rw [HU.out.len]; exact hx) (by rw [HU.out.len]; exact hy))
      by_cases hlt2 : j2 < m
      · have hg3 : 2 * (i : Int) + 1 + 1 < (m : Int) := by have := E2.out; omega
        have HL2 := Lib.hid (HLs.out j2 j1 wr (Below.refl _ _) (by omega) (by omega))
        rw [E1.out, E2.out] at HL2
        cases hL2 : lessH (hG ordHd es' j2) (hG ordHd es' j1)
        · rw [hL2] at HL2
          have HCh : Hid (ChildG ordHd es' m i j1) := Lib.hid (by have c := ChildG.leftL (O := ordHd) (l := es') (m := m) (i := i) (by have := HJ1.out; omega) (by rw [← HJ2.out, ← HJ1.out]; exact (lessHd_no _ _).1 hL2); rw [← HJ1.out] at c; exact c)
          have hji : i < j1 := by have := HJ1.out; have := HJ2.out; omega
          have hjm : j1 < m := HCh.out.1
          go_wp2_with (go_at_call 191; refine HL2.out.mono ?_; rintro e w0 ⟨rfl, hb0⟩; have HB0 := Lib.hid hb0; clear hb0 HL2)
          have HL := Lib.hid (HLs.out j1 i w0 HB0.out (by omega) (by omega))
          rw [E1.out] at HL
          cases hL : lessH (hG ordHd es' j1) (hG ordHd es' i)
          · rw [hL] at HL
            have HR := Lib.hid (HU.out.inv.stop HCh.out ((lessHd_no _ _).1 hL))
            clear hL
            refine HL.out.mono ?_
            rintro e w1 ⟨rfl, hb1⟩
            have HBB : Hid (Below wr.heap.size wr w1) := Lib.hid (Below.trans HB0.out (hb1.mono HB0.out.size))
            clear hb1
            go_wp2_with fail
            go_ret
            exact ⟨⟨_, rfl⟩, es', HU.out.at'.kept HBB.out, HU.out.len, HR.out, HU.out.perm, HU.out.keep.trans (Fk2.of_below HBB.out rfl), HU.out.last⟩
          · rw [hL] at HL
            have HST := Lib.hid (HU.out.inv.step HCh.out (by rw [HU.out.len]; exact hm) ((lessHd_iff _ _).1 hL))
            have HSw := Lib.hid (fun (W' : World) (h : FhH W' B hb es' a c) => fhSwapH_any B hb es' c a i j1 W' h (by rw [HU.out.len]; omega) (by rw [HU.out.len]; omega))
            unfold SwapPH at HSw
            rw [E1.out] at HSw
            clear hL
            refine HL.out.mono ?_
            rintro e w1 ⟨rfl, hb1⟩
            have HBB : Hid (Below wr.heap.size wr w1) := Lib.hid (Below.trans HB0.out (hb1.mono HB0.out.size))
            have HA1 := Lib.hid (HU.out.at'.kept HBB.out)
            have HK1 := Lib.hid (HU.out.keep.trans (Fk2.of_below HBB.out rfl))
            clear hb1
            go_wp2_with fail
            refine (HSw.out w1 HA1.out).mono ?_
            rintro e w2 ⟨⟨v2, rfl⟩, ho2, hg2'⟩
            have HU2 : Hid (FhDnH w w2 B hb n c m a es (swapG ordHd es' i j1) j1) := Lib.hid ⟨ho2, by rw [swapG_len, HU.out.len], HST.out, HU.out.perm.trans (swapG_perm (by rw [HU.out.len]; omega) (by rw [HU.out.len]; omega)), HK1.out.trans (Fk2.of_grown (by rw [HU.out.len] at hg2'; exact hg2')), fun k hk => (hG_swap_far (by rw [HU.out.len]; omega) (by rw [HU.out.len]; omega) (by omega) (by omega)).trans (HU.out.last k hk)⟩
            clear ho2 hg2'
            go_wp2_with fail
            go_roundw
            case rel => exact ⟨j1, swapG ordHd es' i j1, by rw [E1.out], by omega, HU2⟩
            case measure => simp [intOf]; omega
        · rw [hL2] at HL2
          have HCh : Hid (ChildG ordHd es' m i j2) := Lib.hid (by have c := ChildG.right (O := ordHd) (l := es') (m := m) (i := i) (by have := HJ2.out; omega) (by rw [← HJ2.out, ← HJ1.out]; exact (lessHd_iff _ _).1 hL2); rw [← HJ2.out] at c; exact c)
          have hji : i < j2 := by have := HJ1.out; have := HJ2.out; omega
          have hjm : j2 < m := HCh.out.1
          go_wp2_with (go_at_call 191; refine HL2.out.mono ?_; rintro e w0 ⟨rfl, hb0⟩; have HB0 := Lib.hid hb0; clear hb0 HL2)
          have HL := Lib.hid (HLs.out j2 i w0 HB0.out (by omega) (by omega))
          rw [E2.out] at HL
          cases hL : lessH (hG ordHd es' j2) (hG ordHd es' i)
          · rw [hL] at HL
            have HR := Lib.hid (HU.out.inv.stop HCh.out ((lessHd_no _ _).1 hL))
            clear hL
            refine HL.out.mono ?_
            rintro e w1 ⟨rfl, hb1⟩
            have HBB : Hid (Below wr.heap.size wr w1) := Lib.hid (Below.trans HB0.out (hb1.mono HB0.out.size))
            clear hb1
            go_wp2_with fail
            go_ret
            exact ⟨⟨_, rfl⟩, es', HU.out.at'.kept HBB.out, HU.out.len, HR.out, HU.out.perm, HU.out.keep.trans (Fk2.of_below HBB.out rfl), HU.out.last⟩
          · rw [hL] at HL
            have HST := Lib.hid (HU.out.inv.step HCh.out (by rw [HU.out.len]; exact hm) ((lessHd_iff _ _).1 hL))
            have HSw := Lib.hid (fun (W' : World) (h : FhH W' B hb es' a c) => fhSwapH_any B hb es' c a i j2 W' h (by rw [HU.out.len]; omega) (by rw [HU.out.len]; omega))
            unfold SwapPH at HSw
            rw [E2.out] at HSw
            clear hL
            refine HL.out.mono ?_
            rintro e w1 ⟨rfl, hb1⟩
            have HBB : Hid (Below wr.heap.size wr w1) := Lib.hid (Below.trans HB0.out (hb1.mono HB0.out.size))
            have HA1 := Lib.hid (HU.out.at'.kept HBB.out)
            have HK1 := Lib.hid (HU.out.keep.trans (Fk2.of_below HBB.out rfl))
            clear hb1
            go_wp2_with fail
            refine (HSw.out w1 HA1.out).mono ?_
            rintro e w2 ⟨⟨v2, rfl⟩, ho2, hg2'⟩
            have HU2 : Hid (FhDnH w w2 B hb n c m a es (swapG ordHd es' i j2) j2) := Lib.hid ⟨ho2, by rw [swapG_len, HU.out.len], HST.out, HU.out.perm.trans (swapG_perm (by rw [HU.out.len]; omega) (by rw [HU.out.len]; omega)), HK1.out.trans (Fk2.of_grown (by rw [HU.out.len] at hg2'; exact hg2')), fun k hk => (hG_swap_far (by rw [HU.out.len]; omega) (by rw [HU.out.len]; omega) (by omega) (by omega)).trans (HU.out.last k hk)⟩
            clear ho2 hg2'
            go_wp2_with fail
            go_roundw
            case rel => exact ⟨j2, swapG ordHd es' i j2, by rw [E2.out], by omega, HU2⟩
            case measure => simp [intOf]; omega
      · have hg3 : ¬ 2 * (i : Int) + 1 + 1 < (m : Int) := by have := E2.out; omega
        have HCh : Hid (ChildG ordHd es' m i j1) := Lib.hid (by have c := ChildG.left (O := ordHd) (l := es') (m := m) (i := i) (by have := HJ1.out; omega) (by have := HJ2.out; omega); rw [← HJ1.out] at c; exact c)
        have hji : i < j1 := by have := HJ1.out; have := HJ2.out; omega
        have hjm : j1 < m := HCh.out.1
        go_wp2_with fail
        have HL := Lib.hid (HLs.out j1 i wr (Below.refl _ _) (by omega) (by omega))
        rw [E1.out] at HL
        cases hL : lessH (hG ordHd es' j1) (hG ordHd es' i)
        · rw [hL] at HL
          have HR := Lib.hid (HU.out.inv.stop HCh.out ((lessHd_no _ _).1 hL))
          clear hL
          refine HL.out.mono ?_
          rintro e w1 ⟨rfl, hb1⟩
          have HBB : Hid (Below wr.heap.size wr w1) := Lib.hid (hb1)
          clear hb1
          go_wp2_with fail
          go_ret
          exact ⟨⟨_, rfl⟩, es', HU.out.at'.kept HBB.out, HU.out.len, HR.out, HU.out.perm, HU.out.keep.trans (Fk2.of_below HBB.out rfl), HU.out.last⟩
        · rw [hL] at HL
          have HST := Lib.hid (HU.out.inv.step HCh.out (by rw [HU.out.len]; exact hm) ((lessHd_iff _ _).1 hL))
          have HSw := Lib.hid (fun (W' : World) (h : FhH W' B hb es' a c) => fhSwapH_any B hb es' c a i j1 W' h (by rw [HU.out.len]; omega) (by rw [HU.out.len]; omega))
          unfold SwapPH at HSw
          rw [E1.out] at HSw
          clear hL
          refine HL.out.mono ?_
          rintro e w1 ⟨rfl, hb1⟩
          have HBB : Hid (Below wr.heap.size wr w1) := Lib.hid (hb1)
          have HA1 := Lib.hid (HU.out.at'.kept HBB.out)
          have HK1 := Lib.hid (HU.out.keep.trans (Fk2.of_below HBB.out rfl))
          clear hb1
          go_wp2_with fail
          refine (HSw.out w1 HA1.out).mono ?_
          rintro e w2 ⟨⟨v2, rfl⟩, ho2, hg2'⟩
          have HU2 : Hid (FhDnH w w2 B hb n c m a es (swapG ordHd es' i j1) j1) := Lib.hid ⟨ho2, by rw [swapG_len, HU.out.len], HST.out, HU.out.perm.trans (swapG_perm (by rw [HU.out.len]; omega) (by rw [HU.out.len]; omega)), HK1.out.trans (Fk2.of_grown (by rw [HU.out.len] at hg2'; exact hg2')), fun k hk => (hG_swap_far (by rw [HU.out.len]; omega) (by rw [HU.out.len]; omega) (by omega) (by omega)).trans (HU.out.last k hk)⟩
          clear ho2 hg2'
          go_wp2_with fail
          go_roundw
          case rel => exact ⟨j1, swapG ordHd es' i j1, by rw [E1.out], by omega, HU2⟩
          case measure => simp [intOf]; omega
    · have hg1 : (m : Int) ≤ 2 * (i : Int) + 1 := by have := E1.out; omega
      have HR := Lib.hid (HU.out.inv.leaf (by have := HJ1.out; omega))
      go_wp2_with fail
      go_ret
      exact ⟨⟨_, rfl⟩, es', HU.out.at', HU.out.len, HR.out, HU.out.perm, HU.out.keep, HU.out.last⟩
end Go.Proofs.Ytmkoppbbenombaa
