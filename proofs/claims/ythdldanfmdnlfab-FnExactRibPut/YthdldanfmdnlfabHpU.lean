/- A heap of held routes: up, and Push of container/heap. -/
import Derived.Test.YthdldanfmdnlfabHpV
namespace Go.Proofs.Ythdldanfmdnlfab
open Go.RowKit

structure HpUp (w wr : World) (B hb n c : Nat) (a : Option Addr) (es es' : List Hd) (j : Nat) : Prop where
  at' : HpAt wr B hb es' a c
  len : es'.length = n
  inv : UpInv es' n j
  same : Sames es es'
  dist : Dist es'
  keep : Hp2 w wr hb (.slice a n c) (.slice a n c)
def HeapPost (B hb n c : Nat) (a : Option Addr) (es : List Hd) (w : World) (e : Ending) (w' : World) : Prop :=
  (∃ v, e = .returned v) ∧ ∃ es', HpAt w' B hb es' a c ∧ es'.length = n ∧ HeapOk es' n ∧ Sames es es' ∧ Dist es' ∧ Hp2 w w' hb (.slice a n c) (.slice a n c)
theorem Hp2.of_grown {w w' : World} {hb : Nat} {v : Value} (h : w.grownBy w' v.ownBlock) : Hp2 w w' hb v v := ⟨h.os, h.tape, h.output, h.size, fun k hk _ h2 => h.block k hk h2, fun _ hk => .inl hk⟩
theorem hp_swapped {wr w2 : World} {B hb c i j : Nat} {a : Option Addr} {es : List Hd} (H : HpAt wr B hb es a c) (ho : w2.ownsRow B 74 9 (.slice a es.length c) es.length (rcells Hd.cl (swapL es i j))) (hg : wr.grownBy w2 (Value.slice a es.length c).ownBlock) : HpAt w2 B hb (swapL es i j) a c := by
  refine ⟨?_, ?_⟩
  · rw [swapL_len]
    refine H.box.grown hg ?_
    rcases H.row.2 with ⟨e, _⟩ | ⟨g, cap, cu, e, _, hh, _⟩
    · rw [e]; simp [Value.ownBlock]
    · rw [e]
      intro e2
      simp [Value.ownBlock] at e2
      subst e2
      have := H.box
      unfold Blk at this
      rw [this] at hh
      simp at hh
  · rw [swapL_len]; exact ho
set_option maxRecDepth 100000 in
set_option maxHeartbeats 4000000 in
theorem hpUp_any (B hb : Nat) (es : List Hd) (c : Nat) (a : Option Addr) (j0 : Nat) (w : World) (H : HpAt w B hb es a c) (hn : es.length ≤ 1000000) (hj0 : j0 < es.length) (hI : UpInv es es.length j0) (hD : Dist es) :
    Calls Try.prog 125 #[.iface 118 (.pointer (some ⟨hb, 0, none⟩)), .int .i64 (j0 : Int)] w (HeapPost B hb es.length c a es w) := by
  unfold HeapPost
  have HU : Hid (HpUp w w B hb es.length c a es es j0) := Lib.hid ⟨H, rfl, hI, Sames.refl _, hD, Hp2.of_below (Below.refl _ _) rfl⟩
  clear H hI hD
  obtain ⟨n, hnn⟩ : ∃ n, n = es.length := ⟨_, rfl⟩
  rw [← hnn] at hn hj0 HU ⊢
  clear hnn
  go_enter Try.func125, Try.ntmps125
  go_wp2_with fail
  go_loopw [1, 4] (fun u _ wr => ∃ (j : Nat) (es' : List Hd), u = .int .i64 (j : Int) ∧ j < n ∧ Hid (HpUp w wr B hb n c a es es' j)) (fun u _ _ => (intOf u).toNat)
  case atStart => exact ⟨j0, es, rfl, hj0, HU⟩
  case round =>
    obtain ⟨j, es', rfl, hj, HU⟩ := hrel
    have hbx := HU.out.at'.box
    rw [HU.out.len] at hbx
    have hcB := hbx.cell
    by_cases hz : j = 0
    · subst hz
      have HR := Lib.hid (HU.out.inv.top)
      go_wp2_with fail
      go_end0
      exact ⟨⟨_, rfl⟩, es', HU.out.at', HU.out.len, HR.out, HU.out.same, HU.out.dist, HU.out.keep⟩
    · obtain ⟨i, hi⟩ : ∃ i, i = (j - 1) / 2 := ⟨_, rfl⟩
      have hij : i < j := by omega
      have hq : IntKind.i64.wrap ((j : Int) - 1) = (j : Int) - 1 := by simp only [IntKind.wrap_i64]; omega
      have HLs := Lib.hid (fun (W' : World) (hb : Below wr.heap.size wr W') => hpLess_any es' c a j i W' (SlAt.kept HU.out.at'.sl hb) (by rw [HU.out.len]; omega) (by rw [HU.out.len]; omega))
      rw [HU.out.len] at HLs
      have hii : wrap64 (((j : Int) - 1).tdiv 2) = (i : Int) := by
        rw [Int.tdiv_eq_ediv_of_nonneg (by omega)]
        have e : ((j : Int) - 1) / 2 = (i : Int) := by omega
        rw [e]
        simp only [wrap64]
        omega
      have hi3 : ((j : Int) - 1) / 2 = (i : Int) := by omega
      have hne : ((i : Int) == (j : Int)) = false := by simp; omega
      have hml := m_less (v := .slice a n c) (hbx.cell 0)
      have HIV := Lib.hid hi
      clear hi
      cases hL : lessH (gH es' j) (gH es' i)
      · rw [hL] at HLs
        have HR := Lib.hid (HU.out.inv.stop (by omega) (by rw [← HIV.out]; exact (less_no _ _).1 hL))
        clear hL
        go_wp2_with (go_at_call 185; refine (HLs.out _ (Below.refl _ _)).mono ?_; rintro e w1 ⟨rfl, hb1⟩; have HB1 := Lib.hid hb1; clear hb1)
        go_end0
        exact ⟨⟨_, rfl⟩, es', HU.out.at'.kept HB1.out, HU.out.len, HR.out, HU.out.same, HU.out.dist, HU.out.keep.trans (Hp2.of_below HB1.out rfl)⟩
      · rw [hL] at HLs
        have HST := Lib.hid (HU.out.inv.step (by omega) hj (by rw [HU.out.len]; exact Nat.le_refl _) (by rw [← HIV.out]; exact (less_iff _ _).1 hL))
        rw [← HIV.out] at HST
        have HSw := Lib.hid (fun (W' : World) (h : HpAt W' B hb es' a c) => hpSwap_any B es' c a i j W' h.row (by rw [HU.out.len]; omega) (by rw [HU.out.len]; omega))
        unfold SwapPost at HSw
        clear hL
        go_wp2_with (go_at_call 185; refine (HLs.out _ (Below.refl _ _)).mono ?_; rintro e w1 ⟨rfl, hb1⟩; have HA1 := Lib.hid (HU.out.at'.kept hb1); have HK1 := Lib.hid (HU.out.keep.trans (Hp2.of_below hb1 rfl)); have hcB1 := (hbx.kept hb1).cell; have hms := m_swap (v := .slice a n c) ((hbx.kept hb1).cell 0); clear hb1)
        have HSw1 := Lib.hid (HSw.out w1 HA1.out)
        rw [HU.out.len] at HSw1
        refine HSw1.out.mono ?_
        rintro e w2 ⟨⟨v2, rfl⟩, ho2, hg2⟩
        have HU2 : Hid (HpUp w w2 B hb n c a es (swapL es' i j) i) := Lib.hid ⟨hp_swapped HA1.out (by rw [HU.out.len]; exact ho2) (by rw [HU.out.len]; exact hg2), by rw [swapL_len, HU.out.len], HST.out, HU.out.same.trans (Sames.swap (by rw [HU.out.len]; omega) (by rw [HU.out.len]; omega)), HU.out.dist.swap (by rw [HU.out.len]; omega) (by rw [HU.out.len]; omega), HK1.out.trans (Hp2.of_grown hg2)⟩
        clear ho2 hg2
        go_wp2_with fail
        go_roundw
        case rel => exact ⟨i, swapL es' i j, by simp, by omega, HU2⟩
        case measure => simp [intOf]; omega
end Go.Proofs.Ythdldanfmdnlfab
