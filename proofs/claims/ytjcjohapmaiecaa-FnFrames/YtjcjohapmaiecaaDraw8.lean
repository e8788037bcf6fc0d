/- Draws of chapter 3: a frame, drawn. -/
import Derived.Test.YtjcjohapmaiecaaDraw7
namespace Go.Proofs.Ytjcjohapmaiecaa
open Go.RowKit

def kinds : List Int := [-1, 65535, 65536]
theorem kinds_in (i : Nat) (h : i < 3) : I64 (kinds.getD i 0) := by
  rcases (by omega : i = 0 ∨ i = 1 ∨ i = 2) with h | h | h <;> subst h <;> exact ⟨by decide, by decide⟩
theorem kind_cell (w : World) (i : Nat) (h : i < 3) : (w.alloc (.cells #[.int .i64 (-1), .int .i64 65535, .int .i64 65536] 2)).cell? ⟨w.heap.size, i, none⟩ = some (.int .i64 (kinds.getD i 0)) := by
  rcases (by omega : i = 0 ∨ i = 1 ∨ i = 2) with h | h | h <;> subst h <;> simp [kinds]
theorem arp_small (op mac ip tm ti : Int) : (arpB op mac ip tm ti).size ≤ 100 := by
  unfold arpB; split
  · rw [strOf_size]; simp only [List.length_append, be_length]; decide
  · decide
set_option maxRecDepth 100000 in
set_option maxHeartbeats 4000000 in
theorem draw_eth {g len cap : Nat} {a : Option Addr} {w : World} (h : Src w g a len cap) :
    Calls Try.prog 39 #[.pointer (some ⟨g, 0, none⟩)] w (EthPost g a len cap w) := by
  have HS := Lib.hid h; clear h
  have hgl := HS.out.src.lt
  go_enter Try.func39, Try.ntmps39
  go_wp2_with fail
  refine (draw_mac (HS.out.alloc _)).mono ?_
  rintro e w1 ⟨to, rfl, i1, hd⟩
  have HD := Lib.hid hd; clear hd
  go_wp2_with fail
  refine (draw_mac HD.out.1).mono ?_
  rintro e w2 ⟨fr, rfl, i2, hd⟩
  replace HD := Lib.hid (HD.out.trans hd); clear hd
  go_wp2_with fail
  refine (draw_n 4 (by omega) (by omega) HD.out.1).mono ?_
  rintro e w3 ⟨x, rfl, ⟨hx0, hx1⟩, hd⟩
  replace HD := Lib.hid (HD.out.trans hd); clear hd
  obtain ⟨n, rfl⟩ : ∃ n : Nat, x = (n : Int) := ⟨x.toNat, by omega⟩
  go_wp2_with fail
  refine (draw_bytes n (by omega) HD.out.1).mono ?_
  rintro e w4 ⟨l, rfl, hll, hd⟩
  replace HD := Lib.hid (HD.out.trans hd); clear hd
  have hbb : (strOf l).size ≤ 100 := by rw [strOf_size, hll]; omega
  clear hll
  generalize strOf l = b at *
  obtain ⟨G, hG⟩ : ∃ G, G = w4.heap.size := ⟨_, rfl⟩
  go_wp2_with fail
  rw [← hG]
  obtain ⟨W, hW⟩ : ∃ W, W = w4.alloc (.cells #[.int .i64 to, .int .i64 fr, .int .i64 2048, .string b] 24) := ⟨_, rfl⟩
  have HE := Lib.hid (EthAt.start HS.out HD.out hW)
  rw [← hW]
  rw [← hG] at HE
  clear hW hG HD
  refine (draw_n 5 (by omega) (by omega) HE.out.drawn.1).mono ?_
  rintro e w5 ⟨x, rfl, ⟨hx0, hx1⟩, hd⟩
  replace HE := Lib.hid (HE.out.step hd); clear hd
  have hx2 : x = 0 ∨ x = 1 ∨ (¬ x = 0 ∧ ¬ x = 1) := by omega
  rcases hx2 with rfl | rfl | ⟨hxa, hxb⟩
  · obtain ⟨_, _, hfar, hlt, r0, r1, r2, r3, rf, c0, c1, c2, c3, cf⟩ := HE.out
    have hne : ¬ G = w.heap.size := by omega
    have hne2 : ¬ w.heap.size = G := by omega
    go_wp2_with fail
    clear hfar hlt r0 r1 r2 r3 rf c0 c1 c2 c3 cf hne hne2
    replace HE := Lib.hid (HE.out.set0 281474976710655)
    refine (draw_one 20 (by omega) (by omega) HE.out.drawn.1).mono ?_
    rintro e w6 ⟨r, rfl, hd⟩
    replace HE := Lib.hid (HE.out.step hd); clear hd
    cases r
    · obtain ⟨_, _, hfar, hlt, r0, r1, r2, r3, rf, c0, c1, c2, c3, cf⟩ := HE.out
      have hne : ¬ G = w.heap.size := by omega
      have hne2 : ¬ w.heap.size = G := by omega
      go_wp2_with fail
      refine bodyPost_ret (v := ethV 281474976710655 fr 2048 b) (by simp [results, Try.results39, go_sem, ethV, *]) rfl ⟨_, _, _, _, rfl, ⟨by omega, by omega⟩, i2, ⟨by omega, by omega⟩, hbb, ?_⟩
      exact ((((HE.out.drawn.set HS.out (Nat.le_refl _) _ _).set HS.out (Nat.le_refl _) _ _).set HS.out (Nat.le_refl _) _ _).set HS.out (Nat.le_refl _) _ _)
    · go_wp2_with fail
      refine (draw_n 3 (by omega) (by omega) HE.out.drawn.1).mono ?_
      rintro e w7 ⟨y, rfl, ⟨hy0, hy1⟩, hd⟩
      replace HE := Lib.hid (HE.out.step hd); clear hd
      rcases (by omega : y = 0 ∨ y = 1 ∨ y = 2) with rfl | rfl | rfl
      · have HE2 := Lib.hid (HE.out.alloc (.cells #[.int .i64 (-1), .int .i64 65535, .int .i64 65536] 2))
        go_wp2_with fail
        refine (draw_n 3 (by omega) (by omega) HE2.out.drawn.1).mono ?_
        rintro e w8 ⟨z, rfl, ⟨hz0, hz1⟩, hd⟩
        have hq := hd.2.cell (kind_cell w7 z.toNat (by omega)) (by have := HE.out.drawn.2.size; have := HS.out.src.lt; simp; omega)
        replace HE := Lib.hid (HE2.out.step hd); clear hd HE2
        obtain ⟨_, _, hfar, hlt, r0, r1, r2, r3, rf, c0, c1, c2, c3, cf⟩ := HE.out
        have hne : ¬ G = w.heap.size := by omega
        have hne2 : ¬ w.heap.size = G := by omega
        have HE3 := Lib.hid (HE.out.set2 (kinds.getD z.toNat 0))
        go_wp2_with fail
        refine bodyPost_ret (v := ethV 281474976710655 fr (kinds.getD z.toNat 0) b) (by simp [results, Try.results39, go_sem, ethV, *]) rfl ⟨_, _, _, _, rfl, ⟨by omega, by omega⟩, i2, kinds_in z.toNat (by omega), hbb, ?_⟩
        exact ((((HE3.out.drawn.set HS.out (Nat.le_refl _) _ _).set HS.out (Nat.le_refl _) _ _).set HS.out (Nat.le_refl _) _ _).set HS.out (Nat.le_refl _) _ _)
      · go_wp2_with fail
        refine (draw_n 3 (by omega) (by omega) HE.out.drawn.1).mono ?_
        rintro e w8 ⟨z, rfl, ⟨hz0, hz1⟩, hd⟩
        replace HE := Lib.hid (HE.out.step hd); clear hd
        obtain ⟨n, hn⟩ : ∃ n : Nat, 59 + z = (n : Int) := ⟨(59 + z).toNat, by omega⟩
        have hn' : n ≤ 61 := by omega
        have hwr : IntKind.i64.wrap (n : Int) = (n : Int) := IntWalk.i64_in _ (by omega)
        obtain ⟨M, hM, hmk⟩ := make_zeros n (by omega)
        have hcv := row_string (w := w8.alloc (.cells M 5)) (l := List.replicate n (0 : UInt8)) (heap_alloc_new w8 _) hM (by rw [List.length_replicate]; unfold maxLen; omega)
        rw [List.length_replicate] at hcv
        clear hM
        have hzb : (strOf (List.replicate n (0 : UInt8))).size ≤ 100 := by rw [strOf_size, List.length_replicate]; omega
        generalize strOf (List.replicate n (0 : UInt8)) = zb at hcv hzb
        replace HE := Lib.hid (HE.out.alloc (.cells M 5))
        obtain ⟨_, _, hfar, hlt, r0, r1, r2, r3, rf, c0, c1, c2, c3, cf⟩ := HE.out
        have hne : ¬ G = w.heap.size := by omega
        have hne2 : ¬ w.heap.size = G := by omega
        have HE3 := Lib.hid (HE.out.set3 zb)
        go_wp2_with fail
        refine bodyPost_ret (v := ethV 281474976710655 fr 2048 zb) (by simp [results, Try.results39, go_sem, ethV, *]) rfl ⟨_, _, _, _, rfl, ⟨by omega, by omega⟩, i2, ⟨by omega, by omega⟩, hzb, ?_⟩
        exact ((((HE3.out.drawn.set HS.out (Nat.le_refl _) _ _).set HS.out (Nat.le_refl _) _ _).set HS.out (Nat.le_refl _) _ _).set HS.out (Nat.le_refl _) _ _)
      · obtain ⟨_, _, hfar, hlt, r0, r1, r2, r3, rf, c0, c1, c2, c3, cf⟩ := HE.out
        have hne : ¬ G = w.heap.size := by omega
        have hne2 : ¬ w.heap.size = G := by omega
        have HE3 := Lib.hid (HE.out.set1 1099511627776)
        go_wp2_with fail
        refine bodyPost_ret (v := ethV 281474976710655 1099511627776 2048 b) (by simp [results, Try.results39, go_sem, ethV, *]) rfl ⟨_, _, _, _, rfl, ⟨by omega, by omega⟩, ⟨by omega, by omega⟩, ⟨by omega, by omega⟩, hbb, ?_⟩
        exact ((((HE3.out.drawn.set HS.out (Nat.le_refl _) _ _).set HS.out (Nat.le_refl _) _ _).set HS.out (Nat.le_refl _) _ _).set HS.out (Nat.le_refl _) _ _)
  · obtain ⟨_, _, hfar, hlt, r0, r1, r2, r3, rf, c0, c1, c2, c3, cf⟩ := HE.out
    have hne : ¬ G = w.heap.size := by omega
    have hne2 : ¬ w.heap.size = G := by omega
    go_wp2_with fail
    clear hfar hlt r0 r1 r2 r3 rf c0 c1 c2 c3 cf hne hne2
    replace HE := Lib.hid ((HE.out.set0 281474976710655).set2 2054)
    refine (draw_arp HE.out.drawn.1).mono ?_
    rintro e w9 ⟨op, mac, ip, tm, ti, rfl, _, _, _, _, _, hd⟩
    replace HE := Lib.hid (HE.out.step hd); clear hd
    have HA := Lib.hid (specArpBytes_any op mac ip tm ti)
    unfold arpV at HA
    have hab := arp_small op mac ip tm ti
    generalize arpB op mac ip tm ti = ab at HA hab
    go_wp2_with fail
    refine (HA.out _).mono ?_
    rintro e w10 ⟨rfl, hb10⟩
    replace HE := Lib.hid (HE.out.below hb10); clear hb10
    obtain ⟨_, _, hfar, hlt, r0, r1, r2, r3, rf, c0, c1, c2, c3, cf⟩ := HE.out
    have hne : ¬ G = w.heap.size := by omega
    have hne2 : ¬ w.heap.size = G := by omega
    go_wp2_with fail
    clear hfar hlt r0 r1 r2 r3 rf c0 c1 c2 c3 cf hne hne2
    replace HE := Lib.hid (HE.out.set3 ab)
    refine (draw_one 20 (by omega) (by omega) HE.out.drawn.1).mono ?_
    rintro e w6 ⟨r, rfl, hd⟩
    replace HE := Lib.hid (HE.out.step hd); clear hd
    cases r
    · obtain ⟨_, _, hfar, hlt, r0, r1, r2, r3, rf, c0, c1, c2, c3, cf⟩ := HE.out
      have hne : ¬ G = w.heap.size := by omega
      have hne2 : ¬ w.heap.size = G := by omega
      go_wp2_with fail
      refine bodyPost_ret (v := ethV 281474976710655 fr 2054 ab) (by simp [results, Try.results39, go_sem, ethV, *]) rfl ⟨_, _, _, _, rfl, ⟨by omega, by omega⟩, i2, ⟨by omega, by omega⟩, hab, ?_⟩
      exact ((((HE.out.drawn.set HS.out (Nat.le_refl _) _ _).set HS.out (Nat.le_refl _) _ _).set HS.out (Nat.le_refl _) _ _).set HS.out (Nat.le_refl _) _ _)
    · go_wp2_with fail
      refine (draw_n 3 (by omega) (by omega) HE.out.drawn.1).mono ?_
      rintro e w7 ⟨y, rfl, ⟨hy0, hy1⟩, hd⟩
      replace HE := Lib.hid (HE.out.step hd); clear hd
      rcases (by omega : y = 0 ∨ y = 1 ∨ y = 2) with rfl | rfl | rfl
      · have HE2 := Lib.hid (HE.out.alloc (.cells #[.int .i64 (-1), .int .i64 65535, .int .i64 65536] 2))
        go_wp2_with fail
        refine (draw_n 3 (by omega) (by omega) HE2.out.drawn.1).mono ?_
        rintro e w8 ⟨z, rfl, ⟨hz0, hz1⟩, hd⟩
        have hq := hd.2.cell (kind_cell w7 z.toNat (by omega)) (by have := HE.out.drawn.2.size; have := HS.out.src.lt; simp; omega)
        replace HE := Lib.hid (HE2.out.step hd); clear hd HE2
        obtain ⟨_, _, hfar, hlt, r0, r1, r2, r3, rf, c0, c1, c2, c3, cf⟩ := HE.out
        have hne : ¬ G = w.heap.size := by omega
        have hne2 : ¬ w.heap.size = G := by omega
        have HE3 := Lib.hid (HE.out.set2 (kinds.getD z.toNat 0))
        go_wp2_with fail
        refine bodyPost_ret (v := ethV 281474976710655 fr (kinds.getD z.toNat 0) ab) (by simp [results, Try.results39, go_sem, ethV, *]) rfl ⟨_, _, _, _, rfl, ⟨by omega, by omega⟩, i2, kinds_in z.toNat (by omega), hab, ?_⟩
        exact ((((HE3.out.drawn.set HS.out (Nat.le_refl _) _ _).set HS.out (Nat.le_refl _) _ _).set HS.out (Nat.le_refl _) _ _).set HS.out (Nat.le_refl _) _ _)
      · go_wp2_with fail
        refine (draw_n 3 (by omega) (by omega) HE.out.drawn.1).mono ?_
        rintro e w8 ⟨z, rfl, ⟨hz0, hz1⟩, hd⟩
        replace HE := Lib.hid (HE.out.step hd); clear hd
        obtain ⟨n, hn⟩ : ∃ n : Nat, 59 + z = (n : Int) := ⟨(59 + z).toNat, by omega⟩
        have hn' : n ≤ 61 := by omega
        have hwr : IntKind.i64.wrap (n : Int) = (n : Int) := IntWalk.i64_in _ (by omega)
        obtain ⟨M, hM, hmk⟩ := make_zeros n (by omega)
        have hcv := row_string (w := w8.alloc (.cells M 5)) (l := List.replicate n (0 : UInt8)) (heap_alloc_new w8 _) hM (by rw [List.length_replicate]; unfold maxLen; omega)
        rw [List.length_replicate] at hcv
        clear hM
        have hzb : (strOf (List.replicate n (0 : UInt8))).size ≤ 100 := by rw [strOf_size, List.length_replicate]; omega
        generalize strOf (List.replicate n (0 : UInt8)) = zb at hcv hzb
        replace HE := Lib.hid (HE.out.alloc (.cells M 5))
        obtain ⟨_, _, hfar, hlt, r0, r1, r2, r3, rf, c0, c1, c2, c3, cf⟩ := HE.out
        have hne : ¬ G = w.heap.size := by omega
        have hne2 : ¬ w.heap.size = G := by omega
        have HE3 := Lib.hid (HE.out.set3 zb)
        go_wp2_with fail
        refine bodyPost_ret (v := ethV 281474976710655 fr 2054 zb) (by simp [results, Try.results39, go_sem, ethV, *]) rfl ⟨_, _, _, _, rfl, ⟨by omega, by omega⟩, i2, ⟨by omega, by omega⟩, hzb, ?_⟩
        exact ((((HE3.out.drawn.set HS.out (Nat.le_refl _) _ _).set HS.out (Nat.le_refl _) _ _).set HS.out (Nat.le_refl _) _ _).set HS.out (Nat.le_refl _) _ _)
      · obtain ⟨_, _, hfar, hlt, r0, r1, r2, r3, rf, c0, c1, c2, c3, cf⟩ := HE.out
        have hne : ¬ G = w.heap.size := by omega
        have hne2 : ¬ w.heap.size = G := by omega
        have HE3 := Lib.hid (HE.out.set1 1099511627776)
        go_wp2_with fail
        refine bodyPost_ret (v := ethV 281474976710655 1099511627776 2054 ab) (by simp [results, Try.results39, go_sem, ethV, *]) rfl ⟨_, _, _, _, rfl, ⟨by omega, by omega⟩, ⟨by omega, by omega⟩, ⟨by omega, by omega⟩, hab, ?_⟩
        exact ((((HE3.out.drawn.set HS.out (Nat.le_refl _) _ _).set HS.out (Nat.le_refl _) _ _).set HS.out (Nat.le_refl _) _ _).set HS.out (Nat.le_refl _) _ _)
  · go_wp2_with fail
    refine (draw_one 20 (by omega) (by omega) HE.out.drawn.1).mono ?_
    rintro e w6 ⟨r, rfl, hd⟩
    replace HE := Lib.hid (HE.out.step hd); clear hd
    cases r
    · obtain ⟨_, _, hfar, hlt, r0, r1, r2, r3, rf, c0, c1, c2, c3, cf⟩ := HE.out
      have hne : ¬ G = w.heap.size := by omega
      have hne2 : ¬ w.heap.size = G := by omega
      go_wp2_with fail
      refine bodyPost_ret (v := ethV to fr 2048 b) (by simp [results, Try.results39, go_sem, ethV, *]) rfl ⟨_, _, _, _, rfl, i1, i2, ⟨by omega, by omega⟩, hbb, ?_⟩
      exact ((((HE.out.drawn.set HS.out (Nat.le_refl _) _ _).set HS.out (Nat.le_refl _) _ _).set HS.out (Nat.le_refl _) _ _).set HS.out (Nat.le_refl _) _ _)
    · go_wp2_with fail
      refine (draw_n 3 (by omega) (by omega) HE.out.drawn.1).mono ?_
      rintro e w7 ⟨y, rfl, ⟨hy0, hy1⟩, hd⟩
      replace HE := Lib.hid (HE.out.step hd); clear hd
      rcases (by omega : y = 0 ∨ y = 1 ∨ y = 2) with rfl | rfl | rfl
      · have HE2 := Lib.hid (HE.out.alloc (.cells #[.int .i64 (-1), .int .i64 65535, .int .i64 65536] 2))
        go_wp2_with fail
        refine (draw_n 3 (by omega) (by omega) HE2.out.drawn.1).mono ?_
        rintro e w8 ⟨z, rfl, ⟨hz0, hz1⟩, hd⟩
        have hq := hd.2.cell (kind_cell w7 z.toNat (by omega)) (by have := HE.out.drawn.2.size; have := HS.out.src.lt; simp; omega)
        replace HE := Lib.hid (HE2.out.step hd); clear hd HE2
        obtain ⟨_, _, hfar, hlt, r0, r1, r2, r3, rf, c0, c1, c2, c3, cf⟩ := HE.out
        have hne : ¬ G = w.heap.size := by omega
        have hne2 : ¬ w.heap.size = G := by omega
        have HE3 := Lib.hid (HE.out.set2 (kinds.getD z.toNat 0))
        go_wp2_with fail
        refine bodyPost_ret (v := ethV to fr (kinds.getD z.toNat 0) b) (by simp [results, Try.results39, go_sem, ethV, *]) rfl ⟨_, _, _, _, rfl, i1, i2, kinds_in z.toNat (by omega), hbb, ?_⟩
        exact ((((HE3.out.drawn.set HS.out (Nat.le_refl _) _ _).set HS.out (Nat.le_refl _) _ _).set HS.out (Nat.le_refl _) _ _).set HS.out (Nat.le_refl _) _ _)
      · go_wp2_with fail
        refine (draw_n 3 (by omega) (by omega) HE.out.drawn.1).mono ?_
        rintro e w8 ⟨z, rfl, ⟨hz0, hz1⟩, hd⟩
        replace HE := Lib.hid (HE.out.step hd); clear hd
        obtain ⟨n, hn⟩ : ∃ n : Nat, 59 + z = (n : Int) := ⟨(59 + z).toNat, by omega⟩
        have hn' : n ≤ 61 := by omega
        have hwr : IntKind.i64.wrap (n : Int) = (n : Int) := IntWalk.i64_in _ (by omega)
        obtain ⟨M, hM, hmk⟩ := make_zeros n (by omega)
        have hcv := row_string (w := w8.alloc (.cells M 5)) (l := List.replicate n (0 : UInt8)) (heap_alloc_new w8 _) hM (by rw [List.length_replicate]; unfold maxLen; omega)
        rw [List.length_replicate] at hcv
        clear hM
        have hzb : (strOf (List.replicate n (0 : UInt8))).size ≤ 100 := by rw [strOf_size, List.length_replicate]; omega
        generalize strOf (List.replicate n (0 : UInt8)) = zb at hcv hzb
        replace HE := Lib.hid (HE.out.alloc (.cells M 5))
        obtain ⟨_, _, hfar, hlt, r0, r1, r2, r3, rf, c0, c1, c2, c3, cf⟩ := HE.out
        have hne : ¬ G = w.heap.size := by omega
        have hne2 : ¬ w.heap.size = G := by omega
        have HE3 := Lib.hid (HE.out.set3 zb)
        go_wp2_with fail
        refine bodyPost_ret (v := ethV to fr 2048 zb) (by simp [results, Try.results39, go_sem, ethV, *]) rfl ⟨_, _, _, _, rfl, i1, i2, ⟨by omega, by omega⟩, hzb, ?_⟩
        exact ((((HE3.out.drawn.set HS.out (Nat.le_refl _) _ _).set HS.out (Nat.le_refl _) _ _).set HS.out (Nat.le_refl _) _ _).set HS.out (Nat.le_refl _) _ _)
      · obtain ⟨_, _, hfar, hlt, r0, r1, r2, r3, rf, c0, c1, c2, c3, cf⟩ := HE.out
        have hne : ¬ G = w.heap.size := by omega
        have hne2 : ¬ w.heap.size = G := by omega
        have HE3 := Lib.hid (HE.out.set1 1099511627776)
        go_wp2_with fail
        refine bodyPost_ret (v := ethV to 1099511627776 2048 b) (by simp [results, Try.results39, go_sem, ethV, *]) rfl ⟨_, _, _, _, rfl, i1, ⟨by omega, by omega⟩, ⟨by omega, by omega⟩, hbb, ?_⟩
        exact ((((HE3.out.drawn.set HS.out (Nat.le_refl _) _ _).set HS.out (Nat.le_refl _) _ _).set HS.out (Nat.le_refl _) _ _).set HS.out (Nat.le_refl _) _ _)
end Go.Proofs.Ytjcjohapmaiecaa
