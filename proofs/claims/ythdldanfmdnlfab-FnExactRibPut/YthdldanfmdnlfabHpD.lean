/- A heap of held routes: down. -/
import Derived.Test.YthdldanfmdnlfabHpU
namespace Go.Proofs.Ythdldanfmdnlfab
open Go.RowKit

structure HpDn (w wr : World) (B hb n c m : Nat) (a : Option Addr) (es es' : List Hd) (i : Nat) : Prop where
  at' : HpAt wr B hb es' a c
  len : es'.length = n
  inv : DownInv es' m i
  same : Sames es es'
  dist : Dist es'
  keep : Hp2 w wr hb (.slice a n c) (.slice a n c)
  last : ∀ k, m ≤ k → gH es' k = gH es k
def DownPost (B hb n c m : Nat) (a : Option Addr) (es : List Hd) (w : World) (e : Ending) (w' : World) : Prop :=
  (∃ v, e = .returned v) ∧ ∃ es', HpAt w' B hb es' a c ∧ es'.length = n ∧ HeapOk es' m ∧ Sames es es' ∧ Dist es' ∧ Hp2 w w' hb (.slice a n c) (.slice a n c) ∧ ∀ k, m ≤ k → gH es' k = gH es k
theorem gH_swap_far {l : List Hd} {i j k : Nat} (hi : i < l.length) (hj : j < l.length) (h1 : k ≠ i) (h2 : k ≠ j) : gH (swapL l i j) k = gH l k := by rw [gH_swap hi hj, if_neg h2, if_neg h1]
set_option maxRecDepth 100000 in
set_option maxHeartbeats 8000000 in
theorem hpDown_any (B hb : Nat) (es : List Hd) (c m : Nat) (a : Option Addr) (w : World) (H : HpAt w B hb es a c) (hn : es.length ≤ 1000000) (hm : m ≤ es.length) (hI : DownInv es m 0) (hD : Dist es) :
    Calls Try.prog 126 #[.iface 118 (.pointer (some ⟨hb, 0, none⟩)), .int .i64 0, .int .i64 (m : Int)] w (DownPost B hb es.length c m a es w) := by
  unfold DownPost
  have HU : Hid (HpDn w w B hb es.length c m a es es 0) := Lib.hid ⟨H, rfl, hI, Sames.refl _, hD, Hp2.of_below (Below.refl _ _) rfl, fun _ _ => rfl⟩
  clear H hI hD
  obtain ⟨n, hnn⟩ : ∃ n, n = es.length := ⟨_, rfl⟩
  rw [← hnn] at hn hm HU ⊢
  clear hnn
  go_enter Try.func126, Try.ntmps126
  go_wp2_with fail
  go_loopw [7, 8, 9, 10] (fun u _ _ _ wr => ∃ (i : Nat) (es' : List Hd), u = .int .i64 (i : Int) ∧ i ≤ n ∧ Hid (HpDn w wr B hb n c m a es es' i)) (fun u _ _ _ _ => n - (intOf u).toNat)
  case atStart => exact ⟨0, es, rfl, Nat.zero_le _, HU⟩
  case round =>
    obtain ⟨i, es', rfl, hi, HU⟩ := hrel
    have hbx := HU.out.at'.box
    rw [HU.out.len] at hbx
    have hcB := hbx.cell
    have hml := m_less (v := .slice a n c) (hbx.cell 0)
    obtain ⟨j1, hj1⟩ : ∃ j, j = 2 * i + 1 := ⟨_, rfl⟩
    obtain ⟨j2, hj2⟩ : ∃ j, j = 2 * i + 2 := ⟨_, rfl⟩
    have E1 : Hid ((j1 : Int) = 2 * (i : Int) + 1) := Lib.hid (by omega)
    have E2 : Hid ((j2 : Int) = 2 * (i : Int) + 1 + 1) := Lib.hid (by omega)
    have hw0 : IntKind.i64.wrap (2 * (i : Int)) = 2 * (i : Int) := by simp only [IntKind.wrap_i64]; omega
    have hw1 : IntKind.i64.wrap (2 * (i : Int) + 1) = 2 * (i : Int) + 1 := by simp only [IntKind.wrap_i64]; omega
    have hw2 : IntKind.i64.wrap (2 * (i : Int) + 1 + 1) = 2 * (i : Int) + 1 + 1 := by simp only [IntKind.wrap_i64]; omega
    have HJ1 := Lib.hid hj1
    have HJ2 := Lib.hid hj2
    clear hj1 hj2
    by_cases hlt : j1 < m
    · have hg1 : ¬ (m : Int) ≤ 2 * (i : Int) + 1 := by have := E1.out; omega
      have hg2 : ¬ 2 * (i : Int) + 1 < 0 := by omega
      have hin : i < m := by have := HJ1.out; omega
      have HLs := Lib.hid (fun (x y : Nat) (W' : World) (hb : Below wr.heap.size wr W') (hx : x < n) (hy : y < n) => hpLess_any es' c a x y W' (SlAt.kept HU.out.at'.sl hb) (by rw [HU.out.len]; exact hx) (by rw [HU.out.len]; exact hy))
      rw [HU.out.len] at HLs
      by_cases hlt2 : j2 < m
      · have hg3 : 2 * (i : Int) + 1 + 1 < (m : Int) := by have := E2.out; omega
        have HL2 := Lib.hid (HLs.out j2 j1 wr (Below.refl _ _) (by omega) (by omega))
        rw [E1.out, E2.out] at HL2
        cases hL2 : lessH (gH es' j2) (gH es' j1)
        · rw [hL2] at HL2
          have HCh : Hid (Child es' m i j1) := Lib.hid (by have c := Child.leftL (l := es') (m := m) (i := i) (by have := HJ1.out; omega) (by rw [← HJ2.out, ← HJ1.out]; exact (less_no _ _).1 hL2); rw [← HJ1.out] at c; exact c)
          have hji : i < j1 := by have := HJ1.out; have := HJ2.out; omega
          have hjm : j1 < m := HCh.out.1
          go_wp2_with (go_at_call 185; refine HL2.out.mono ?_; rintro e w0 ⟨rfl, hb0⟩; have hcB0 := (hbx.kept hb0).cell; have hml0 := m_less (v := .slice a n c) ((hbx.kept hb0).cell 0); have HB0 := Lib.hid hb0; clear hb0 HL2)
          have HL := Lib.hid (HLs.out j1 i w0 HB0.out (by omega) (by omega))
          rw [E1.out] at HL
          cases hL : lessH (gH es' j1) (gH es' i)
          · rw [hL] at HL
            have HR := Lib.hid (HU.out.inv.stop HCh.out ((less_no _ _).1 hL))
            clear hL
            refine HL.out.mono ?_
            rintro e w1 ⟨rfl, hb1⟩
            have HBB : Hid (Below wr.heap.size wr w1) := Lib.hid (Below.trans HB0.out (hb1.mono HB0.out.size))
            clear hb1
            go_wp2_with fail
            go_ret
            exact ⟨⟨_, rfl⟩, es', HU.out.at'.kept HBB.out, HU.out.len, HR.out, HU.out.same, HU.out.dist, HU.out.keep.trans (Hp2.of_below HBB.out rfl), HU.out.last⟩
          · rw [hL] at HL
            have HST := Lib.hid (HU.out.inv.step HCh.out (by rw [HU.out.len]; exact hm) ((less_iff _ _).1 hL))
            have HSw := Lib.hid (fun (W' : World) (h : HpAt W' B hb es' a c) => hpSwap_any B es' c a i j1 W' h.row (by rw [HU.out.len]; omega) (by rw [HU.out.len]; omega))
            unfold SwapPost at HSw
            rw [E1.out] at HSw
            clear hL
            refine HL.out.mono ?_
            rintro e w1 ⟨rfl, hb1⟩
            have HBB : Hid (Below wr.heap.size wr w1) := Lib.hid (Below.trans HB0.out (hb1.mono HB0.out.size))
            have HA1 := Lib.hid (HU.out.at'.kept HBB.out)
            have HK1 := Lib.hid (HU.out.keep.trans (Hp2.of_below HBB.out rfl))
            have hcB1 := (hbx.kept HBB.out).cell
            have hms := m_swap (v := .slice a n c) ((hbx.kept HBB.out).cell 0)
            clear hb1
            go_wp2_with fail
            have HSw1 := Lib.hid (HSw.out w1 HA1.out)
            rw [HU.out.len] at HSw1
            refine HSw1.out.mono ?_
            rintro e w2 ⟨⟨v2, rfl⟩, ho2, hg2'⟩
            have HU2 : Hid (HpDn w w2 B hb n c m a es (swapL es' i j1) j1) := Lib.hid ⟨hp_swapped HA1.out (by rw [HU.out.len]; exact ho2) (by rw [HU.out.len]; exact hg2'), by rw [swapL_len, HU.out.len], HST.out, HU.out.same.trans (Sames.swap (by rw [HU.out.len]; omega) (by rw [HU.out.len]; omega)), HU.out.dist.swap (by rw [HU.out.len]; omega) (by rw [HU.out.len]; omega), HK1.out.trans (Hp2.of_grown hg2'), fun k hk => (gH_swap_far (by rw [HU.out.len]; omega) (by rw [HU.out.len]; omega) (by omega) (by omega)).trans (HU.out.last k hk)⟩
            clear ho2 hg2'
            go_wp2_with fail
            go_roundw
            case rel => exact ⟨j1, swapL es' i j1, by rw [E1.out], by omega, HU2⟩
            case measure => simp [intOf]; omega
        · rw [hL2] at HL2
          have HCh : Hid (Child es' m i j2) := Lib.hid (by have c := Child.right (l := es') (m := m) (i := i) (by have := HJ2.out; omega) (by rw [← HJ2.out, ← HJ1.out]; exact (less_iff _ _).1 hL2); rw [← HJ2.out] at c; exact c)
          have hji : i < j2 := by have := HJ1.out; have := HJ2.out; omega
          have hjm : j2 < m := HCh.out.1
          go_wp2_with (go_at_call 185; refine HL2.out.mono ?_; rintro e w0 ⟨rfl, hb0⟩; have hcB0 := (hbx.kept hb0).cell; have hml0 := m_less (v := .slice a n c) ((hbx.kept hb0).cell 0); have HB0 := Lib.hid hb0; clear hb0 HL2)
          have HL := Lib.hid (HLs.out j2 i w0 HB0.out (by omega) (by omega))
          rw [E2.out] at HL
          cases hL : lessH (gH es' j2) (gH es' i)
          · rw [hL] at HL
            have HR := Lib.hid (HU.out.inv.stop HCh.out ((less_no _ _).1 hL))
            clear hL
            refine HL.out.mono ?_
            rintro e w1 ⟨rfl, hb1⟩
            have HBB : Hid (Below wr.heap.size wr w1) := Lib.hid (Below.trans HB0.out (hb1.mono HB0.out.size))
            clear hb1
            go_wp2_with fail
            go_ret
            exact ⟨⟨_, rfl⟩, es', HU.out.at'.kept HBB.out, HU.out.len, HR.out, HU.out.same, HU.out.dist, HU.out.keep.trans (Hp2.of_below HBB.out rfl), HU.out.last⟩
          · rw [hL] at HL
            have HST := Lib.hid (HU.out.inv.step HCh.out (by rw [HU.out.len]; exact hm) ((less_iff _ _).1 hL))
            have HSw := Lib.hid (fun (W' : World) (h : HpAt W' B hb es' a c) => hpSwap_any B es' c a i j2 W' h.row (by rw [HU.out.len]; omega) (by rw [HU.out.len]; omega))
            unfold SwapPost at HSw
            rw [E2.out] at HSw
            clear hL
            refine HL.out.mono ?_
            rintro e w1 ⟨rfl, hb1⟩
            have HBB : Hid (Below wr.heap.size wr w1) := Lib.hid (Below.trans HB0.out (hb1.mono HB0.out.size))
            have HA1 := Lib.hid (HU.out.at'.kept HBB.out)
            have HK1 := Lib.hid (HU.out.keep.trans (Hp2.of_below HBB.out rfl))
            have hcB1 := (hbx.kept HBB.out).cell
            have hms := m_swap (v := .slice a n c) ((hbx.kept HBB.out).cell 0)
            clear hb1
            go_wp2_with fail
            have HSw1 := Lib.hid (HSw.out w1 HA1.out)
            rw [HU.out.len] at HSw1
            refine HSw1.out.mono ?_
            rintro e w2 ⟨⟨v2, rfl⟩, ho2, hg2'⟩
            have HU2 : Hid (HpDn w w2 B hb n c m a es (swapL es' i j2) j2) := Lib.hid ⟨hp_swapped HA1.out (by rw [HU.out.len]; exact ho2) (by rw [HU.out.len]; exact hg2'), by rw [swapL_len, HU.out.len], HST.out, HU.out.same.trans (Sames.swap (by rw [HU.out.len]; omega) (by rw [HU.out.len]; omega)), HU.out.dist.swap (by rw [HU.out.len]; omega) (by rw [HU.out.len]; omega), HK1.out.trans (Hp2.of_grown hg2'), fun k hk => (gH_swap_far (by rw [HU.out.len]; omega) (by rw [HU.out.len]; omega) (by omega) (by omega)).trans (HU.out.last k hk)⟩
            clear ho2 hg2'
            go_wp2_with fail
            go_roundw
            case rel => exact ⟨j2, swapL es' i j2, by rw [E2.out], by omega, HU2⟩
            case measure => simp [intOf]; omega
      · have hg3 : ¬ 2 * (i : Int) + 1 + 1 < (m : Int) := by have := E2.out; omega
        have HCh : Hid (Child es' m i j1) := Lib.hid (by have c := Child.left (l := es') (m := m) (i := i) (by have := HJ1.out; omega) (by have := HJ2.out; omega); rw [← HJ1.out] at c; exact c)
        have hji : i < j1 := by have := HJ1.out; have := HJ2.out; omega
        have hjm : j1 < m := HCh.out.1
        go_wp2_with fail
        have HL := Lib.hid (HLs.out j1 i wr (Below.refl _ _) (by omega) (by omega))
        rw [E1.out] at HL
        cases hL : lessH (gH es' j1) (gH es' i)
        · rw [hL] at HL
          have HR := Lib.hid (HU.out.inv.stop HCh.out ((less_no _ _).1 hL))
          clear hL
          refine HL.out.mono ?_
          rintro e w1 ⟨rfl, hb1⟩
          have HBB : Hid (Below wr.heap.size wr w1) := Lib.hid (hb1)
          clear hb1
          go_wp2_with fail
          go_ret
          exact ⟨⟨_, rfl⟩, es', HU.out.at'.kept HBB.out, HU.out.len, HR.out, HU.out.same, HU.out.dist, HU.out.keep.trans (Hp2.of_below HBB.out rfl), HU.out.last⟩
        · rw [hL] at HL
          have HST := Lib.hid (HU.out.inv.step HCh.out (by rw [HU.out.len]; exact hm) ((less_iff _ _).1 hL))
          have HSw := Lib.hid (fun (W' : World) (h : HpAt W' B hb es' a c) => hpSwap_any B es' c a i j1 W' h.row (by rw [HU.out.len]; omega) (by rw [HU.out.len]; omega))
          unfold SwapPost at HSw
          rw [E1.out] at HSw
          clear hL
          refine HL.out.mono ?_
          rintro e w1 ⟨rfl, hb1⟩
          have HBB : Hid (Below wr.heap.size wr w1) := Lib.hid (hb1)
          have HA1 := Lib.hid (HU.out.at'.kept HBB.out)
          have HK1 := Lib.hid (HU.out.keep.trans (Hp2.of_below HBB.out rfl))
          have hcB1 := (hbx.kept HBB.out).cell
          have hms := m_swap (v := .slice a n c) ((hbx.kept HBB.out).cell 0)
          clear hb1
          go_wp2_with fail
          have HSw1 := Lib.hid (HSw.out w1 HA1.out)
          rw [HU.out.len] at HSw1
          refine HSw1.out.mono ?_
          rintro e w2 ⟨⟨v2, rfl⟩, ho2, hg2'⟩
          have HU2 : Hid (HpDn w w2 B hb n c m a es (swapL es' i j1) j1) := Lib.hid ⟨hp_swapped HA1.out (by rw [HU.out.len]; exact ho2) (by rw [HU.out.len]; exact hg2'), by rw [swapL_len, HU.out.len], HST.out, HU.out.same.trans (Sames.swap (by rw [HU.out.len]; omega) (by rw [HU.out.len]; omega)), HU.out.dist.swap (by rw [HU.out.len]; omega) (by rw [HU.out.len]; omega), HK1.out.trans (Hp2.of_grown hg2'), fun k hk => (gH_swap_far (by rw [HU.out.len]; omega) (by rw [HU.out.len]; omega) (by omega) (by omega)).trans (HU.out.last k hk)⟩
          clear ho2 hg2'
          go_wp2_with fail
          go_roundw
          case rel => exact ⟨j1, swapL es' i j1, by rw [E1.out], by omega, HU2⟩
          case measure => simp [intOf]; omega
    · have hg1 : (m : Int) ≤ 2 * (i : Int) + 1 := by have := E1.out; omega
      have HR := Lib.hid (HU.out.inv.leaf (by have := HJ1.out; omega))
      go_wp2_with fail
      go_ret
      exact ⟨⟨_, rfl⟩, es', HU.out.at', HU.out.len, HR.out, HU.out.same, HU.out.dist, HU.out.keep, HU.out.last⟩
end Go.Proofs.Ythdldanfmdnlfab
