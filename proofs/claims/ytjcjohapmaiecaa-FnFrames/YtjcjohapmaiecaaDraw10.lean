/- Draws of chapter 3: the frames and texts that the laws take. -/
import Derived.Test.YtjcjohapmaiecaaDraw9
import Derived.Test.YtjcjohapmaiecaaEthT
namespace Go.Proofs.Ytjcjohapmaiecaa
open Go.RowKit

def EthDraw (w : World) (e : Ending) (w' : World) : Prop := ∃ (to fr k : Int) (b : ByteArray), e = .returned (ethV to fr k b) ∧ I64 to ∧ I64 fr ∧ I64 k ∧ b.size ≤ 100 ∧ Below w.heap.size w w'
def TextDraw (w : World) (e : Ending) (w' : World) : Prop := ∃ t : ByteArray, e = .returned (.string t) ∧ t.size ≤ 1000 ∧ Below w.heap.size w w'
theorem eth_small (to fr k : Int) (b : ByteArray) : (ethB to fr k b).size ≤ 200 := by
  unfold ethB; split
  · rename_i h
    simp only [Bool.and_eq_true, decide_eq_true_eq] at h
    rw [strOf_size]; simp only [List.length_append, be_length, ← size_list]; omega
  · decide
theorem vx_small (v : Int) (t : ByteArray) : (vxB v t).size ≤ 200 := by
  unfold vxB; split
  · rename_i h
    simp only [Bool.and_eq_true, decide_eq_true_eq] at h
    rw [strOf_size]; simp only [List.length_append, be_length, ← size_list, List.length_cons, List.length_nil]; omega
  · decide
set_option maxRecDepth 100000 in
set_option maxHeartbeats 2000000 in
theorem draw_ethBytes {len cap : Nat} {a : Option Addr} {w : World} (hl : len ≤ 1048576) (hb : BytesAt w a len) :
    Calls Try.prog 11 #[.slice a len cap] w (EthDraw w) := by
  have HB := Lib.hid hb; clear hb
  go_enter Try.func11, Try.ntmps11
  go_wp2_with fail
  refine (draw_source (cap := cap) hl (HB.out.below ((Below.refl _ _).alloc (Nat.le_refl _) _))).mono ?_
  rintro e w1 ⟨g, rfl, hg, hs, hb1⟩
  have H1 := Lib.hid hs
  have HB1 := Lib.hid hb1
  clear hs hb1
  go_wp2_with fail
  refine (draw_eth H1.out).mono ?_
  rintro e w2 ⟨to, fr, k, b, rfl, i1, i2, i3, i4, hd⟩
  have hg' : w.heap.size < g := by simp at hg; omega
  have hz1 : w.heap.size < w1.heap.size := by have := HB1.out.size; simp at this; omega
  obtain ⟨hc, hf⟩ := gfar hd.2 (B := w.heap.size) hz1 (by omega)
  have hc1 : ∀ o, w1.cell? ⟨w.heap.size, o, none⟩ = _ := fun o => HB1.out.cell (p := ⟨w.heap.size, o, none⟩) (by simp)
  have hf1 : ∀ o, w1.frozen? ⟨w.heap.size, o, none⟩ = _ := fun o => HB1.out.frozen (p := ⟨w.heap.size, o, none⟩) (by simp)
  have HB2 := Lib.hid (below_drawn (((Below.refl w.heap.size w).alloc (Nat.le_refl _) _).trans (HB1.out.mono (by simp))) (Nat.le_of_lt hz1) (Nat.le_of_lt hg') hd.2)
  clear hd
  unfold ethV
  go_wp2_with fail
  refine bodyPost_ret (v := ethV to fr k b) (by simp [results, Try.results11, go_sem, ethV, *]) rfl ⟨to, fr, k, b, rfl, i1, i2, i3, i4, ?_⟩
  exact (((HB2.out.setCell (Nat.le_refl _) _).setCell (Nat.le_refl _) _).setCell (Nat.le_refl _) _).setCell (Nat.le_refl _) _
set_option maxRecDepth 100000 in
set_option maxHeartbeats 2000000 in
theorem draw_ethRead {len cap : Nat} {a : Option Addr} {w : World} (hl : len ≤ 1048576) (hb : BytesAt w a len) :
    Calls Try.prog 17 #[.slice a len cap] w (TextDraw w) := by
  have HS := Lib.hid (draw_source (cap := cap) hl hb)
  clear hb
  go_enter Try.func17, Try.ntmps17
  go_wp2_with (go_at_call 38; refine HS.out.mono ?_; rintro e w1 ⟨g, rfl, hg, hs, hb1⟩; have H := Lib.hid hs; have HB := Lib.hid hb1; clear hs hb1)
  refine (draw_eth H.out).mono ?_
  rintro e w2 ⟨to, fr, k, b, rfl, i1, i2, i3, i4, hd⟩
  replace HB := Lib.hid (Src.below HB.out hg hd)
  replace H := Lib.hid hd.1
  clear hd
  have HE := Lib.hid (fun W => specEthBytes_any to fr k b W (by unfold maxLen; omega))
  have hsz := eth_small to fr k b
  generalize ethB to fr k b = s at HE hsz
  unfold ethV at HE ⊢
  go_wp2_with fail
  refine (HE.out _).mono ?_
  rintro e w3 ⟨rfl, hb3⟩
  replace HB := Lib.hid (HB.out.trans (hb3.mono HB.out.size))
  replace H := Lib.hid (H.out.grownB hb3)
  clear hb3 HE
  go_wp2_with fail
  refine (draw_n 4 (by omega) (by omega) H.out).mono ?_
  rintro e w5 ⟨x, rfl, ⟨hx0, hx1⟩, hd⟩
  replace HB := Lib.hid (Src.below HB.out hg hd)
  replace H := Lib.hid hd.1
  clear hd
  rcases (by omega : x = 0 ∨ x = 1 ∨ (¬ x = 0 ∧ ¬ x = 1)) with rfl | rfl | ⟨hxa, hxb⟩
  · go_wp2_with fail
    refine (draw_spoil s (by omega) H.out).mono ?_
    rintro e w6 ⟨t, rfl, ht, hd⟩
    replace HB := Lib.hid (Src.below HB.out hg hd)
    replace H := Lib.hid hd.1
    clear hd
    go_wp2_with fail
    refine (draw_one 15 (by omega) (by omega) H.out).mono ?_
    rintro e w7 ⟨r, rfl, hd⟩
    replace HB := Lib.hid (Src.below HB.out hg hd)
    replace H := Lib.hid hd.1
    clear hd
    cases r
    · go_wp2_with fail
      go_ret
      exact ⟨_, rfl, by omega, HB.out⟩
    · go_wp2_with fail
      refine (draw_n 3 (by omega) (by omega) H.out).mono ?_
      rintro e w8 ⟨z, rfl, ⟨hz0, hz1⟩, hd⟩
      replace HB := Lib.hid (Src.below HB.out hg hd)
      clear hd
      obtain ⟨n, hn⟩ : ∃ n : Nat, 73 + z = (n : Int) := ⟨(73 + z).toNat, by omega⟩
      have hn' : n ≤ 75 := by omega
      have hwr : IntKind.i64.wrap (n : Int) = (n : Int) := IntWalk.i64_in _ (by omega)
      obtain ⟨M, hM, hmk⟩ := make_zeros n (by omega)
      have hcv := row_string (w := w8.alloc (.cells M 5)) (l := List.replicate n (0 : UInt8)) (heap_alloc_new w8 _) hM (by rw [List.length_replicate]; unfold maxLen; omega)
      rw [List.length_replicate] at hcv
      clear hM
      go_wp2_with fail
      go_ret
      exact ⟨_, rfl, by rw [strOf_size, List.length_replicate]; omega, HB.out.alloc HB.out.size _⟩
  · go_wp2_with fail
    refine (draw_le ((s.size : Int) + 1) (by omega) (by omega) H.out).mono ?_
    rintro e w6 ⟨y, rfl, ⟨hy0, hy1⟩, hd⟩
    replace HB := Lib.hid (Src.below HB.out hg hd)
    replace H := Lib.hid hd.1
    clear hd
    obtain ⟨k, rfl⟩ : ∃ k : Nat, y = (k : Int) := ⟨y.toNat, by omega⟩
    have hkI : (k : Int) ≤ s.size := by omega
    go_wp2_with fail
    refine (draw_one 15 (by omega) (by omega) H.out).mono ?_
    rintro e w7 ⟨r, rfl, hd⟩
    replace HB := Lib.hid (Src.below HB.out hg hd)
    replace H := Lib.hid hd.1
    clear hd
    cases r
    · go_wp2_with fail
      go_ret
      exact ⟨_, rfl, by rw [ByteArray.size_extract]; omega, HB.out⟩
    · go_wp2_with fail
      refine (draw_n 3 (by omega) (by omega) H.out).mono ?_
      rintro e w8 ⟨z, rfl, ⟨hz0, hz1⟩, hd⟩
      replace HB := Lib.hid (Src.below HB.out hg hd)
      clear hd
      obtain ⟨n, hn⟩ : ∃ n : Nat, 73 + z = (n : Int) := ⟨(73 + z).toNat, by omega⟩
      have hn' : n ≤ 75 := by omega
      have hwr : IntKind.i64.wrap (n : Int) = (n : Int) := IntWalk.i64_in _ (by omega)
      obtain ⟨M, hM, hmk⟩ := make_zeros n (by omega)
      have hcv := row_string (w := w8.alloc (.cells M 5)) (l := List.replicate n (0 : UInt8)) (heap_alloc_new w8 _) hM (by rw [List.length_replicate]; unfold maxLen; omega)
      rw [List.length_replicate] at hcv
      clear hM
      go_wp2_with fail
      go_ret
      exact ⟨_, rfl, by rw [strOf_size, List.length_replicate]; omega, HB.out.alloc HB.out.size _⟩
  · go_wp2_with fail
    refine (draw_one 15 (by omega) (by omega) H.out).mono ?_
    rintro e w7 ⟨r, rfl, hd⟩
    replace HB := Lib.hid (Src.below HB.out hg hd)
    replace H := Lib.hid hd.1
    clear hd
    cases r
    · go_wp2_with fail
      go_ret
      exact ⟨_, rfl, by omega, HB.out⟩
    · go_wp2_with fail
      refine (draw_n 3 (by omega) (by omega) H.out).mono ?_
      rintro e w8 ⟨z, rfl, ⟨hz0, hz1⟩, hd⟩
      replace HB := Lib.hid (Src.below HB.out hg hd)
      clear hd
      obtain ⟨n, hn⟩ : ∃ n : Nat, 73 + z = (n : Int) := ⟨(73 + z).toNat, by omega⟩
      have hn' : n ≤ 75 := by omega
      have hwr : IntKind.i64.wrap (n : Int) = (n : Int) := IntWalk.i64_in _ (by omega)
      obtain ⟨M, hM, hmk⟩ := make_zeros n (by omega)
      have hcv := row_string (w := w8.alloc (.cells M 5)) (l := List.replicate n (0 : UInt8)) (heap_alloc_new w8 _) hM (by rw [List.length_replicate]; unfold maxLen; omega)
      rw [List.length_replicate] at hcv
      clear hM
      go_wp2_with fail
      go_ret
      exact ⟨_, rfl, by rw [strOf_size, List.length_replicate]; omega, HB.out.alloc HB.out.size _⟩
set_option maxRecDepth 100000 in
set_option maxHeartbeats 2000000 in
theorem draw_arpRead {len cap : Nat} {a : Option Addr} {w : World} (hl : len ≤ 1048576) (hb : BytesAt w a len) :
    Calls Try.prog 18 #[.slice a len cap] w (TextDraw w) := by
  have HS := Lib.hid (draw_source (cap := cap) hl hb)
  clear hb
  go_enter Try.func18, Try.ntmps18
  go_wp2_with (go_at_call 38; refine HS.out.mono ?_; rintro e w1 ⟨g, rfl, hg, hs, hb1⟩; have H := Lib.hid hs; have HB := Lib.hid hb1; clear hs hb1)
  refine (draw_arp H.out).mono ?_
  rintro e w2 ⟨op, mac, ip, tm, ti, rfl, i1, i2, i3, i4, i5, hd⟩
  replace HB := Lib.hid (Src.below HB.out hg hd)
  replace H := Lib.hid hd.1
  clear hd
  have HE := Lib.hid (specArpBytes_any op mac ip tm ti)
  have hsz := arp_small op mac ip tm ti
  generalize arpB op mac ip tm ti = s at HE hsz
  unfold arpV at HE
  go_wp2_with fail
  refine (HE.out _).mono ?_
  rintro e w3 ⟨rfl, hb3⟩
  replace HB := Lib.hid (HB.out.trans (hb3.mono HB.out.size))
  replace H := Lib.hid (H.out.grownB hb3)
  clear hb3 HE
  go_wp2_with fail
  refine (draw_n 4 (by omega) (by omega) H.out).mono ?_
  rintro e w5 ⟨x, rfl, ⟨hx0, hx1⟩, hd⟩
  replace HB := Lib.hid (Src.below HB.out hg hd)
  replace H := Lib.hid hd.1
  clear hd
  rcases (by omega : x = 0 ∨ x = 1 ∨ (¬ x = 0 ∧ ¬ x = 1)) with rfl | rfl | ⟨hxa, hxb⟩
  · go_wp2_with fail
    refine (draw_spoil s (by omega) H.out).mono ?_
    rintro e w6 ⟨t, rfl, ht, hd⟩
    replace HB := Lib.hid (Src.below HB.out hg hd)
    replace H := Lib.hid hd.1
    clear hd
    go_wp2_with fail
    go_ret
    exact ⟨_, rfl, by omega, HB.out⟩
  · go_wp2_with fail
    refine (draw_le ((s.size : Int) + 1) (by omega) (by omega) H.out).mono ?_
    rintro e w6 ⟨y, rfl, ⟨hy0, hy1⟩, hd⟩
    replace HB := Lib.hid (Src.below HB.out hg hd)
    replace H := Lib.hid hd.1
    clear hd
    obtain ⟨k, rfl⟩ : ∃ k : Nat, y = (k : Int) := ⟨y.toNat, by omega⟩
    have hkI : (k : Int) ≤ s.size := by omega
    go_wp2_with fail
    go_ret
    exact ⟨_, rfl, by rw [ByteArray.size_extract]; omega, HB.out⟩
  · go_wp2_with fail
    go_ret
    exact ⟨_, rfl, by omega, HB.out⟩
set_option maxRecDepth 100000 in
set_option maxHeartbeats 2000000 in
theorem draw_vxRead {len cap : Nat} {a : Option Addr} {w : World} (hl : len ≤ 1048576) (hb : BytesAt w a len) :
    Calls Try.prog 19 #[.slice a len cap] w (TextDraw w) := by
  have HS := Lib.hid (draw_source (cap := cap) hl hb)
  clear hb
  go_enter Try.func19, Try.ntmps19
  go_wp2_with (go_at_call 38; refine HS.out.mono ?_; rintro e w1 ⟨g, rfl, hg, hs, hb1⟩; have H := Lib.hid hs; have HB := Lib.hid hb1; clear hs hb1)
  refine (draw_vni H.out).mono ?_
  rintro e w2 ⟨v, rfl, hv, hd⟩
  replace HB := Lib.hid (Src.below HB.out hg hd)
  replace H := Lib.hid hd.1
  clear hd
  go_wp2_with fail
  refine (draw_n 9 (by omega) (by omega) H.out).mono ?_
  rintro e w3 ⟨x, rfl, ⟨hx0, hx1⟩, hd⟩
  replace HB := Lib.hid (Src.below HB.out hg hd)
  replace H := Lib.hid hd.1
  clear hd
  obtain ⟨n, rfl⟩ : ∃ n : Nat, x = (n : Int) := ⟨x.toNat, by omega⟩
  go_wp2_with fail
  refine (draw_bytes n (by omega) H.out).mono ?_
  rintro e w4 ⟨l, rfl, hll, hd⟩
  replace HB := Lib.hid (Src.below HB.out hg hd)
  replace H := Lib.hid hd.1
  have HE := Lib.hid (fun W => specVxBytes_any v (strOf l) W (by rw [strOf_size, hll]; unfold maxLen; omega))
  clear hd hll hx0 hx1
  have hsz := vx_small v (strOf l)
  generalize vxB v (strOf l) = s at HE hsz
  go_wp2_with fail
  refine (HE.out _).mono ?_
  rintro e w9 ⟨rfl, hb3⟩
  replace HB := Lib.hid (HB.out.trans (hb3.mono HB.out.size))
  replace H := Lib.hid (H.out.grownB hb3)
  clear hb3 HE
  go_wp2_with fail
  refine (draw_n 4 (by omega) (by omega) H.out).mono ?_
  rintro e w5 ⟨x, rfl, ⟨hx0, hx1⟩, hd⟩
  replace HB := Lib.hid (Src.below HB.out hg hd)
  replace H := Lib.hid hd.1
  clear hd
  rcases (by omega : x = 0 ∨ x = 1 ∨ (¬ x = 0 ∧ ¬ x = 1)) with rfl | rfl | ⟨hxa, hxb⟩
  · go_wp2_with fail
    refine (draw_spoil s (by omega) H.out).mono ?_
    rintro e w6 ⟨t, rfl, ht, hd⟩
    replace HB := Lib.hid (Src.below HB.out hg hd)
    replace H := Lib.hid hd.1
    clear hd
    go_wp2_with fail
    go_ret
    exact ⟨_, rfl, by omega, HB.out⟩
  · go_wp2_with fail
    refine (draw_le ((s.size : Int) + 1) (by omega) (by omega) H.out).mono ?_
    rintro e w6 ⟨y, rfl, ⟨hy0, hy1⟩, hd⟩
    replace HB := Lib.hid (Src.below HB.out hg hd)
    replace H := Lib.hid hd.1
    clear hd
    obtain ⟨k, rfl⟩ : ∃ k : Nat, y = (k : Int) := ⟨y.toNat, by omega⟩
    have hkI : (k : Int) ≤ s.size := by omega
    go_wp2_with fail
    go_ret
    exact ⟨_, rfl, by rw [ByteArray.size_extract]; omega, HB.out⟩
  · go_wp2_with fail
    go_ret
    exact ⟨_, rfl, by omega, HB.out⟩
end Go.Proofs.Ytjcjohapmaiecaa
