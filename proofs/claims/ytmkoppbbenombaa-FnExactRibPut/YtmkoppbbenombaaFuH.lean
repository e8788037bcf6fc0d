/- firstHeap of Hd: up of container/heap. -/
import Derived.Test.YtmkoppbbenombaaFpH
namespace Go.Proofs.Ytmkoppbbenombaa
open Go.RowKit

structure FhUpH (w wr : World) (B hb n c : Nat) (a : Option Addr) (es es' : List Hd) (j : Nat) : Prop where
  at' : FhH wr B hb es' a c
  len : es'.length = n
  inv : UpG ordHd es' n j
  perm : es.Perm es'
  keep : Fk2 w wr hb (.slice a n c) (.slice a n c)
def FhHeapH (B hb n c : Nat) (a : Option Addr) (es : List Hd) (w : World) (e : Ending) (w' : World) : Prop :=
  (∃ v, e = .returned v) ∧ ∃ es', FhH w' B hb es' a c ∧ es'.length = n ∧ HeapG ordHd es' n ∧ es.Perm es' ∧ Fk2 w w' hb (.slice a n c) (.slice a n c)
set_option maxRecDepth 100000 in
set_option maxHeartbeats 4000000 in
theorem fhUpH_any (B hb : Nat) (es : List Hd) (c : Nat) (a : Option Addr) (j0 : Nat) (w : World) (H : FhH w B hb es a c) (hn : es.length ≤ 1000000) (hj0 : j0 < es.length) (hI : UpG ordHd es es.length j0) :
    Calls Try.prog 132 #[.iface 122 (.pointer (some ⟨hb, 0, none⟩)), .int .i64 (j0 : Int)] w (FhHeapH B hb es.length c a es w) := by
  unfold FhHeapH
  have HU : Hid (FhUpH w w B hb es.length c a es es j0) := Lib.hid ⟨H, rfl, hI, List.Perm.refl _, Fk2.of_below (Below.refl _ _) rfl⟩
  clear H hI
  obtain ⟨n, hnn⟩ : ∃ n, n = es.length := ⟨_, rfl⟩
  rw [← hnn] at hn hj0 HU ⊢
  clear hnn
  have hml := mLessH ⟨hb, 0, none⟩
  have hms := mSwapH ⟨hb, 0, none⟩
  go_enter Try.func132, Try.ntmps132
  go_wp2_with fail
  go_loopw [1, 4] (fun u _ wr => ∃ (j : Nat) (es' : List Hd), u = .int .i64 (j : Int) ∧ j < n ∧ Hid (FhUpH w wr B hb n c a es es' j)) (fun u _ _ => (intOf u).toNat)
  case atStart => exact ⟨j0, es, rfl, hj0, HU⟩
  case round =>
    clear HU
    obtain ⟨j, es', rfl, hj, HU⟩ := hrel
    by_cases hz : j = 0
    · subst hz
      have HR := Lib.hid (HU.out.inv.top)
      go_wp2_with fail
      go_end0
      exact ⟨⟨_, rfl⟩, es', HU.out.at', HU.out.len, HR.out, HU.out.perm, HU.out.keep⟩
    · obtain ⟨i, hi⟩ : ∃ i, i = (j - 1) / 2 := ⟨_, rfl⟩
      have hij : i < j := by omega
      have hq : IntKind.i64.wrap ((j : Int) - 1) = (j : Int) - 1 := by simp only [IntKind.wrap_i64]; omega
      have HLs := Lib.hid (fhLessH_any B hb es' c a j i wr HU.out.at' (by rw [HU.out.len]; omega) (by rw [HU.out.len]; omega))
      have hii : wrap64 (((j : Int) - 1).tdiv 2) = (i : Int) := by
        rw [Int.tdiv_eq_ediv_of_nonneg (by omega)]
        have e : ((j : Int) - 1) / 2 = (i : Int) := by omega
        rw [e]
        simp only [wrap64]
        omega
      have hi3 : ((j : Int) - 1) / 2 = (i : Int) := by omega
      have hne : ((i : Int) == (j : Int)) = false := by simp; omega
      have HIV := Lib.hid hi
      clear hi
      cases hL : lessH (hG ordHd es' j) (hG ordHd es' i)
      · rw [hL] at HLs
        have HR := Lib.hid (HU.out.inv.stop (by omega) (by rw [← HIV.out]; exact (lessHd_no _ _).1 hL))
        clear hL
        go_wp2_with (go_at_call 191; refine HLs.out.mono ?_; rintro e w1 ⟨rfl, hb1⟩; have HB1 := Lib.hid hb1; clear hb1)
        go_end0
        exact ⟨⟨_, rfl⟩, es', HU.out.at'.kept HB1.out, HU.out.len, HR.out, HU.out.perm, HU.out.keep.trans (Fk2.of_below HB1.out rfl)⟩
      · rw [hL] at HLs
        have HST := Lib.hid (HU.out.inv.step (by omega) hj (by rw [HU.out.len]; exact Nat.le_refl _) (by rw [← HIV.out]; exact (lessHd_iff _ _).1 hL))
        rw [← HIV.out] at HST
        have HSw := Lib.hid (fun (W' : World) (h : FhH W' B hb es' a c) => fhSwapH_any B hb es' c a i j W' h (by rw [HU.out.len]; omega) (by rw [HU.out.len]; omega))
        unfold SwapPH at HSw
        clear hL
        go_wp2_with (go_at_call 191; refine HLs.out.mono ?_; rintro e w1 ⟨rfl, hb1⟩; have HA1 := Lib.hid (HU.out.at'.kept hb1); have HK1 := Lib.hid (HU.out.keep.trans (Fk2.of_below hb1 rfl)); clear hb1)
        refine (HSw.out w1 HA1.out).mono ?_
        rintro e w2 ⟨⟨v2, rfl⟩, ho2, hg2⟩
        have HU2 : Hid (FhUpH w w2 B hb n c a es (swapG ordHd es' i j) i) := Lib.hid ⟨ho2, by rw [swapG_len, HU.out.len], HST.out, HU.out.perm.trans (swapG_perm (by rw [HU.out.len]; omega) (by rw [HU.out.len]; omega)), HK1.out.trans (Fk2.of_grown (by rw [HU.out.len] at hg2; exact hg2))⟩
        clear ho2 hg2
        go_wp2_with fail
        go_roundw
        case rel => exact ⟨i, swapG ordHd es' i j, by simp, by omega, HU2⟩
        case measure => simp [intOf]; omega
end Go.Proofs.Ytmkoppbbenombaa
