/- firstHeap of Hd: Push and Pop of container/heap. -/
import Derived.Test.YtmkoppbbenombaaFdH
namespace Go.Proofs.Ytmkoppbbenombaa
open Go.RowKit

def FhPushH (B hb : Nat) (es : List Hd) (x : Hd) (a : Option Addr) (c : Nat) (w : World) (e : Ending) (w' : World) : Prop :=
  (∃ v, e = .returned v) ∧ ∃ es' a' c', FhH w' B hb es' a' c' ∧ es'.length = es.length + 1 ∧ HeapG ordHd es' es'.length ∧ (es ++ [x]).Perm es' ∧ Fk2 w w' hb (.slice a es.length c) (.slice a' es'.length c')
set_option maxRecDepth 100000 in
set_option maxHeartbeats 4000000 in
theorem fhPushH_any (B hb : Nat) (es : List Hd) (c : Nat) (a : Option Addr) (x : Hd) (w : World) (H : FhH w B hb es a c) (hn : es.length ≤ 900000) (hB : B ≤ w.heap.size) (hO : HeapG ordHd es es.length) :
    Calls Try.prog 117 #[.iface 122 (.pointer (some ⟨hb, 0, none⟩)), .iface 77 x.val] w (FhPushH B hb es x a c w) := by
  unfold FhPushH
  have HM := Lib.hid (fhPushMH_any B hb es c a x w H (by omega) hB)
  have HL : Hid ((es ++ [x]).length = es.length + 1) := Lib.hid (by simp)
  have HUp := Lib.hid (fun (a' : Option Addr) (c' : Nat) (W' : World) (h : FhH W' B hb (es ++ [x]) a' c') => fhUpH_any B hb (es ++ [x]) c' a' es.length W' h (by simp; omega) (by simp) (by rw [HL.out]; exact UpG.start hO))
  unfold FhPostH at HM
  unfold FhHeapH at HUp
  generalize es ++ [x] = es1 at *
  clear H hO
  have hw1 : IntKind.i64.wrap (es.length : Int) = (es.length : Int) := by simp only [IntKind.wrap_i64]; omega
  obtain ⟨n, hnn⟩ : ∃ n, n = es.length := ⟨_, rfl⟩
  rw [← hnn] at hn hw1 HM HUp HL ⊢
  clear hnn
  have hmp := mPushH ⟨hb, 0, none⟩
  have hml := mLenH ⟨hb, 0, none⟩
  go_enter Try.func117, Try.ntmps117
  go_wp2_with fail
  refine HM.out.mono ?_
  rintro e w1 ⟨⟨v1, rfl⟩, a1, c1, H1, K1⟩
  rw [HL.out] at HUp K1
  have hbx := H1.box
  rw [HL.out] at hbx
  have HBX := Lib.hid hbx
  have HUp1 := Lib.hid (HUp.out a1 c1 w1 H1)
  have HK1 := Lib.hid K1
  clear H1 K1 hbx HUp hmp
  go_wp2_with (go_at_call 118; refine (fhLenH_any _ _ _ _ _ _ HBX.out).mono ?_; rintro e w2 ⟨rfl, rfl⟩)
  refine HUp1.out.mono ?_
  rintro e w3 ⟨⟨v3, rfl⟩, es', H3, h4, h5, h6, K3⟩
  have HALL := Lib.hid (show FhH w3 B hb es' a1 c1 ∧ es'.length = n + 1 ∧ HeapG ordHd es' es'.length ∧ es1.Perm es' ∧ Fk2 w w3 hb (.slice a n c) (.slice a1 es'.length c1) from ⟨H3, h4, by rw [h4]; exact h5, h6, by rw [h4]; exact HK1.out.trans K3⟩)
  clear H3 h4 h5 h6 K3
  go_wp2_with fail
  go_end0
  exact ⟨⟨_, rfl⟩, es', a1, c1, HALL.out⟩
def FhPopsH (B hb : Nat) (es : List Hd) (a : Option Addr) (c : Nat) (w : World) (e : Ending) (w' : World) : Prop :=
  e = .returned (.iface 77 (hG ordHd es 0).val) ∧ ∃ es' a' c', FhH w' B hb es' a' c' ∧ es'.length = es.length - 1 ∧ HeapG ordHd es' es'.length ∧ (es' ++ [hG ordHd es 0]).Perm es ∧ Fk2 w w' hb (.slice a es.length c) (.slice a' es'.length c')
set_option maxRecDepth 100000 in
set_option maxHeartbeats 4000000 in
theorem fhPopH_any (B hb : Nat) (es : List Hd) (c : Nat) (a : Option Addr) (w : World) (H : FhH w B hb es a c) (hn : es.length ≤ 900000) (h0 : 0 < es.length) (hO : HeapG ordHd es es.length) :
    Calls Try.prog 119 #[.iface 122 (.pointer (some ⟨hb, 0, none⟩))] w (FhPopsH B hb es a c w) := by
  unfold FhPopsH
  have HSw := Lib.hid (fhSwapH_any B hb es c a 0 (es.length - 1) w H h0 (by omega))
  unfold SwapPH at HSw
  have HDn := Lib.hid (fun (W' : World) (h : FhH W' B hb (swapG ordHd es 0 (es.length - 1)) a c) => fhDownH_any B hb (swapG ordHd es 0 (es.length - 1)) c (es.length - 1) a W' h (by rw [swapG_len]; omega) (by rw [swapG_len]; omega) (DownG.start hO h0))
  unfold FhDownH at HDn
  have hbx := H.box
  have HG : Hid (hG ordHd (swapG ordHd es 0 (es.length - 1)) (es.length - 1) = hG ordHd es 0) := Lib.hid (by rw [hG_swap h0 (by omega), if_pos rfl])
  have HSS := Lib.hid (swapG_perm (O := ordHd) h0 (show es.length - 1 < es.length by omega))
  have HF := Lib.hid (fun (es2 : List Hd) (hs : es.Perm es2) hl => popG_perm (O := ordHd) h0 hs hl)
  have HPM := Lib.hid (fun (es2 : List Hd) (W' : World) (h : FhH W' B hb es2 a c) (hl : es2.length = es.length) => fhPopMH_any B hb es2 c a W' h (by omega) (by omega))
  unfold FhPopH at HPM
  have hls := swapG_len (O := ordHd) es 0 (es.length - 1)
  rw [hls] at HDn
  clear H hO hls
  generalize swapG ordHd es 0 (es.length - 1) = es1 at *
  have hw1 : IntKind.i64.wrap ((es.length : Int) - 1) = (es.length : Int) - 1 := by simp only [IntKind.wrap_i64]; omega
  have hcast : ((es.length - 1 : Nat) : Int) = (es.length : Int) - 1 := by omega
  rw [hcast] at HSw HDn
  clear hcast
  obtain ⟨n, hnn⟩ : ∃ n, n = es.length := ⟨_, rfl⟩
  rw [← hnn] at hn h0 hw1 hbx HSw HDn HG HPM HF ⊢
  clear hnn
  have HBX := Lib.hid hbx
  clear hbx
  have hml := mLenH ⟨hb, 0, none⟩
  have hms := mSwapH ⟨hb, 0, none⟩
  have hmp := mPopH ⟨hb, 0, none⟩
  go_enter Try.func119, Try.ntmps119
  go_wp2_with (go_at_call 118; refine (fhLenH_any _ _ _ _ _ _ HBX.out).mono ?_; rintro e w2 ⟨rfl, rfl⟩)
  refine HSw.out.mono ?_
  rintro e w1 ⟨⟨v1, rfl⟩, ho, hg⟩
  have HK1 : Hid (Fk2 w w1 hb (.slice a n c) (.slice a n c)) := Lib.hid (Fk2.of_grown hg)
  have HD1 := Lib.hid (HDn.out w1 ho)
  clear ho hg HSw
  go_wp2_with fail
  refine HD1.out.mono ?_
  rintro e w2 ⟨⟨v2, rfl⟩, es2, H2, h3, h4, h5, K2, h7⟩
  have HS2 := Lib.hid (HSS.out.trans h5)
  have HP1 := Lib.hid (HPM.out es2 w2 H2 h3)
  rw [h3] at HP1
  have HR2 : Hid (hG ordHd es2 (n - 1) = hG ordHd es 0) := Lib.hid (by rw [h7 (n - 1) (Nat.le_refl _), HG.out])
  rw [HR2.out] at HP1
  have HMM := Lib.hid (HF.out es2 HS2.out HR2.out)
  have HOT := Lib.hid (heapG_take h4 (by omega))
  have HLT : Hid ((es2.take (n - 1)).length = n - 1) := Lib.hid (by rw [List.length_take]; omega)
  have HK2 := Lib.hid (HK1.out.trans K2)
  clear h3 h4 h5 h7 K2 H2
  generalize es2.take (n - 1) = es3 at *
  go_wp2_with fail
  refine HP1.out.mono ?_
  rintro e w3 ⟨rfl, a3, c3, H3, K3⟩
  have HALL := Lib.hid (show FhH w3 B hb es3 a3 c3 ∧ es3.length = n - 1 ∧ HeapG ordHd es3 es3.length ∧ (es3 ++ [hG ordHd es 0]).Perm es ∧ Fk2 w w3 hb (.slice a n c) (.slice a3 es3.length c3) from ⟨H3, HLT.out, HOT.out, HMM.out, HK2.out.trans K3⟩)
  clear H3 K3
  go_wp2_with fail
  go_ret
  exact ⟨rfl, es3, a3, c3, HALL.out⟩
end Go.Proofs.Ytmkoppbbenombaa
