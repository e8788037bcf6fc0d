/- A heap of held routes: Push and Pop of container/heap. -/
import Derived.Test.YthdldanfmdnlfabHpD
namespace Go.Proofs.Ythdldanfmdnlfab
open Go.RowKit

theorem dist_snoc {es : List Hd} {x : Hd} (h : Dist es) (hx : ∀ y ∈ es, ¬ same y x) : Dist (es ++ [x]) := by
  have ga : ∀ k, k < es.length → gH (es ++ [x]) k = gH es k := fun k hk => by
    rw [gH_eq (by simp; omega), gH_eq hk, List.getElem_append_left hk]
  have gl : gH (es ++ [x]) es.length = x := by rw [gH_eq (by simp)]; simp
  intro i j hi hj hij
  simp only [List.length_append, List.length_cons, List.length_nil] at hi hj
  by_cases h1 : i = es.length
  · subst h1
    rw [gl, ga j (by omega)]
    exact fun e => hx _ (mem_gH.2 ⟨j, by omega, rfl⟩) (same_symm e)
  · by_cases h2 : j = es.length
    · subst h2
      rw [gl, ga i (by omega)]
      exact hx _ (mem_gH.2 ⟨i, by omega, rfl⟩)
    · rw [ga i (by omega), ga j (by omega)]
      exact h i j (by omega) (by omega) hij
def PushPost (B hb : Nat) (es : List Hd) (x : Hd) (a : Option Addr) (c : Nat) (w : World) (e : Ending) (w' : World) : Prop :=
  (∃ v, e = .returned v) ∧ ∃ es' a' c', HpAt w' B hb es' a' c' ∧ es'.length = es.length + 1 ∧ HeapOk es' es'.length ∧ (∀ y, y ∈ es' ↔ y ∈ es ∨ y = x) ∧ Dist es' ∧ Hp2 w w' hb (.slice a es.length c) (.slice a' es'.length c')
set_option maxRecDepth 100000 in
set_option maxHeartbeats 4000000 in
theorem hpPush_any (B hb : Nat) (es : List Hd) (c : Nat) (a : Option Addr) (x : Hd) (w : World) (H : HpAt w B hb es a c) (hn : es.length ≤ 900000) (hB : B ≤ w.heap.size) (hO : HeapOk es es.length) (hD : Dist (es ++ [x])) :
    Calls Try.prog 106 #[.iface 118 (.pointer (some ⟨hb, 0, none⟩)), .iface 74 x.val] w (PushPost B hb es x a c w) := by
  unfold PushPost
  have HM := Lib.hid (hpPushM_any B hb es c a x w H (by omega) hB)
  have HL : Hid ((es ++ [x]).length = es.length + 1) := Lib.hid (by simp)
  have HUp := Lib.hid (fun (a' : Option Addr) (c' : Nat) (W' : World) (h : HpAt W' B hb (es ++ [x]) a' c') => hpUp_any B hb (es ++ [x]) c' a' es.length W' h (by simp; omega) (by simp) (by rw [HL.out]; exact UpInv.start hO) hD)
  have HMem : Hid (∀ es', Sames (es ++ [x]) es' → ∀ y, y ∈ es' ↔ y ∈ es ∨ y = x) := Lib.hid (fun es' h y => by rw [h.2 y]; simp)
  unfold HpPost at HM
  unfold HeapPost at HUp
  generalize es ++ [x] = es1 at *
  clear H hO hD
  have hw1 : IntKind.i64.wrap (es.length : Int) = (es.length : Int) := by simp only [IntKind.wrap_i64]; omega
  obtain ⟨n, hnn⟩ : ∃ n, n = es.length := ⟨_, rfl⟩
  rw [← hnn] at hn hw1 HM HUp HL ⊢
  clear hnn
  go_enter Try.func106, Try.ntmps106
  go_wp2_with fail
  refine HM.out.mono ?_
  rintro e w1 ⟨⟨v1, rfl⟩, a1, c1, H1, K1⟩
  rw [HL.out] at HUp K1
  have hbx := H1.box
  rw [HL.out] at hbx
  have hml := m_len (v := .slice a1 (n + 1) c1) (hbx.cell 0)
  have HUp1 := Lib.hid (HUp.out a1 c1 w1 H1)
  have HK1 := Lib.hid K1
  clear H1 K1 hbx HUp
  go_wp2_with (go_at_call 107; refine (hpLen_any _ _ _ _).mono ?_; rintro e w2 ⟨rfl, rfl⟩)
  refine HUp1.out.mono ?_
  rintro e w3 ⟨⟨v3, rfl⟩, es', H3, h4, h5, h6, h7, K3⟩
  have HALL := Lib.hid (show HpAt w3 B hb es' a1 c1 ∧ es'.length = n + 1 ∧ HeapOk es' es'.length ∧ (∀ y, y ∈ es' ↔ y ∈ es ∨ y = x) ∧ Dist es' ∧ Hp2 w w3 hb (.slice a n c) (.slice a1 es'.length c1) from ⟨H3, h4, by rw [h4]; exact h5, HMem.out es' h6, h7, by rw [h4]; exact HK1.out.trans K3⟩)
  clear H3 h4 h5 h6 h7 K3
  go_wp2_with fail
  go_end0
  exact ⟨⟨_, rfl⟩, es', a1, c1, HALL.out⟩
def PopsPost (B hb : Nat) (es : List Hd) (a : Option Addr) (c : Nat) (w : World) (e : Ending) (w' : World) : Prop :=
  e = .returned (.iface 74 (gH es 0).val) ∧ ∃ es' a' c', HpAt w' B hb es' a' c' ∧ es'.length = es.length - 1 ∧ HeapOk es' es'.length ∧ (∀ y, y ∈ es' ↔ y ∈ es ∧ ¬ same y (gH es 0)) ∧ Dist es' ∧ Hp2 w w' hb (.slice a es.length c) (.slice a' es'.length c')
theorem pop_mem {es es2 : List Hd} (h0 : 0 < es.length) (hs : Sames es es2) (hd : Dist es2) (hl : gH es2 (es.length - 1) = gH es 0) : ∀ y, y ∈ es2.take (es.length - 1) ↔ y ∈ es ∧ ¬ same y (gH es 0) := by
  intro y
  have hlen := hs.1
  have gt : ∀ k, k < es.length - 1 → gH (es2.take (es.length - 1)) k = gH es2 k := fun k hk => by
    rw [gH_eq (by rw [List.length_take]; omega), gH_eq (by omega), List.getElem_take]
  rw [mem_gH, List.length_take, hlen, Nat.min_eq_left (by omega)]
  constructor
  · rintro ⟨k, hk, rfl⟩
    rw [gt k hk]
    refine ⟨(hs.2 _).1 (mem_gH.2 ⟨k, by omega, rfl⟩), ?_⟩
    rw [← hl]
    exact hd k (es.length - 1) (by omega) (by omega) (by omega)
  · rintro ⟨hy, hn⟩
    obtain ⟨k, hk, e⟩ := mem_gH.1 ((hs.2 y).2 hy)
    by_cases e1 : k = es.length - 1
    · subst e1
      rw [hl] at e
      subst e
      exact absurd ⟨rfl, rfl, rfl, rfl, rfl⟩ hn
    · exact ⟨k, by omega, by rw [gt k (by omega), e]⟩
theorem dist_take {es : List Hd} {m : Nat} (h : Dist es) : Dist (es.take m) := by
  intro i j hi hj hij
  rw [List.length_take] at hi hj
  have gt : ∀ k, k < min m es.length → gH (es.take m) k = gH es k := fun k hk => by
    rw [gH_eq (by rw [List.length_take]; omega), gH_eq (by omega), List.getElem_take]
  rw [gt i hi, gt j hj]
  exact h i j (by omega) (by omega) hij
set_option maxRecDepth 100000 in
set_option maxHeartbeats 4000000 in
theorem hpPop_any (B hb : Nat) (es : List Hd) (c : Nat) (a : Option Addr) (w : World) (H : HpAt w B hb es a c) (hn : es.length ≤ 900000) (h0 : 0 < es.length) (hO : HeapOk es es.length) (hD : Dist es) :
    Calls Try.prog 108 #[.iface 118 (.pointer (some ⟨hb, 0, none⟩))] w (PopsPost B hb es a c w) := by
  unfold PopsPost
  have HSw := Lib.hid (hpSwap_any B es c a 0 (es.length - 1) w H.row h0 (by omega))
  unfold SwapPost at HSw
  have HA2 := Lib.hid (fun (W' : World) ho hg => hp_swapped (w2 := W') (i := 0) (j := es.length - 1) H ho hg)
  have HDn := Lib.hid (fun (W' : World) (h : HpAt W' B hb (swapL es 0 (es.length - 1)) a c) => hpDown_any B hb (swapL es 0 (es.length - 1)) c (es.length - 1) a W' h (by rw [swapL_len]; omega) (by rw [swapL_len]; omega) (DownInv.start hO h0) (hD.swap h0 (by omega)))
  unfold DownPost at HDn
  have hbx := H.box
  have hml := m_len (v := .slice a es.length c) (hbx.cell 0)
  have hms := m_swap (v := .slice a es.length c) (hbx.cell 0)
  have hcB := hbx.cell
  have HG : Hid (gH (swapL es 0 (es.length - 1)) (es.length - 1) = gH es 0) := Lib.hid (by rw [gH_swap h0 (by omega), if_pos rfl])
  have HSS := Lib.hid (Sames.swap h0 (show es.length - 1 < es.length by omega))
  have HF := Lib.hid (fun (es2 : List Hd) (hs : Sames es es2) (hd : Dist es2) hl => pop_mem h0 hs hd hl)
  have HPM := Lib.hid (fun (es2 : List Hd) (W' : World) (h : HpAt W' B hb es2 a c) (hl : es2.length = es.length) => hpPopM_any B hb es2 c a W' h (by omega) (by omega))
  unfold PopPost at HPM
  have hls := swapL_len es 0 (es.length - 1)
  rw [hls] at HDn
  clear H hO hD hbx hls
  generalize swapL es 0 (es.length - 1) = es1 at *
  have hw1 : IntKind.i64.wrap ((es.length : Int) - 1) = (es.length : Int) - 1 := by simp only [IntKind.wrap_i64]; omega
  have hcast : ((es.length - 1 : Nat) : Int) = (es.length : Int) - 1 := by omega
  rw [hcast] at HSw HDn
  clear hcast
  obtain ⟨n, hnn⟩ : ∃ n, n = es.length := ⟨_, rfl⟩
  rw [← hnn] at hn h0 hw1 hml hms hcB HSw HDn HA2 HG HPM HF ⊢
  clear hnn
  go_enter Try.func108, Try.ntmps108
  go_wp2_with (go_at_call 107; refine (hpLen_any _ _ _ _).mono ?_; rintro e w2 ⟨rfl, rfl⟩)
  refine HSw.out.mono ?_
  rintro e w1 ⟨⟨v1, rfl⟩, ho, hg⟩
  have HK1 : Hid (Hp2 w w1 hb (.slice a n c) (.slice a n c)) := Lib.hid (Hp2.of_grown hg)
  have HD1 := Lib.hid (HDn.out w1 (HA2.out w1 ho hg))
  clear ho hg HSw hml hms hcB
  go_wp2_with fail
  refine HD1.out.mono ?_
  rintro e w2 ⟨⟨v2, rfl⟩, es2, H2, h3, h4, h5, h6, K2, h7⟩
  have HS2 := Lib.hid (HSS.out.trans h5)
  have HP1 := Lib.hid (HPM.out es2 w2 H2 h3)
  rw [h3] at HP1
  have HR2 : Hid (gH es2 (n - 1) = gH es 0) := Lib.hid (by rw [h7 (n - 1) (Nat.le_refl _), HG.out])
  rw [HR2.out] at HP1
  have HMM := Lib.hid (HF.out es2 HS2.out h6 HR2.out)
  have HDT := Lib.hid (dist_take (m := n - 1) h6)
  have HOT := Lib.hid (heapOk_take h4 (by omega))
  have HLT : Hid ((es2.take (n - 1)).length = n - 1) := Lib.hid (by rw [List.length_take]; omega)
  have HK2 := Lib.hid (HK1.out.trans K2)
  clear h3 h4 h5 h6 h7 K2 H2
  generalize es2.take (n - 1) = es3 at *
  go_wp2_with fail
  refine HP1.out.mono ?_
  rintro e w3 ⟨rfl, a3, c3, H3, K3⟩
  have HALL := Lib.hid (show HpAt w3 B hb es3 a3 c3 ∧ es3.length = n - 1 ∧ HeapOk es3 es3.length ∧ (∀ y, y ∈ es3 ↔ y ∈ es ∧ ¬ same y (gH es 0)) ∧ Dist es3 ∧ Hp2 w w3 hb (.slice a n c) (.slice a3 es3.length c3) from ⟨H3, HLT.out, HOT.out, HMM.out, HDT.out, HK2.out.trans K3⟩)
  clear H3 K3
  go_wp2_with fail
  go_ret
  exact ⟨rfl, es3, a3, c3, HALL.out⟩
end Go.Proofs.Ythdldanfmdnlfab
