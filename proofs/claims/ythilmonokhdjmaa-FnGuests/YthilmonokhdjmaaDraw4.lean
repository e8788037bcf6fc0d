/- Draws of chapter 3: a MAC address, an IP address, a VNI. -/
import Derived.Test.YthilmonokhdjmaaDraw3
namespace Go.Proofs.Ythilmonokhdjmaa
open Go.RowKit

theorem Src.alloc {w : World} {g : Nat} {a : Option Addr} {len cap : Nat} (h : Src w g a len cap) (o : Obj) : Src (w.alloc o) g a len cap := ⟨h.small, h.bytes.kept (grown_alloc _ _ _) h.apart, h.src.alloc _, h.apart⟩
theorem Drawn.alloc {w w' : World} {g : Nat} {a : Option Addr} {len cap : Nat} (h : Drawn g a len cap w w') (o : Obj) : Drawn g a len cap w (w'.alloc o) := ⟨h.1.alloc o, grown_trans h.2 (grown_alloc w' o (some g)) (fun k hk => .inl (by simpa using hk.symm))⟩
abbrev I64 (r : Int) : Prop := -9223372036854775808 ≤ r ∧ r ≤ 9223372036854775807

def macs : List Int := [0, 281474976710655, 1099511627776, 281474976710656, -1, 7]
theorem macs_in (i : Nat) (h : i < 6) : I64 (macs.getD i 0) := by
  rcases (by omega : i = 0 ∨ i = 1 ∨ i = 2 ∨ i = 3 ∨ i = 4 ∨ i = 5) with h | h | h | h | h | h <;> subst h <;> decide
theorem mac_cell (w : World) (i : Nat) (h : i < 6) : (w.alloc (.cells #[.int .i64 0, .int .i64 281474976710655, .int .i64 1099511627776, .int .i64 281474976710656, .int .i64 (-1), .int .i64 7] 2)).cell? ⟨w.heap.size, i, none⟩ = some (.int .i64 (macs.getD i 0)) := by
  rcases (by omega : i = 0 ∨ i = 1 ∨ i = 2 ∨ i = 3 ∨ i = 4 ∨ i = 5) with h | h | h | h | h | h <;> subst h <;> simp [macs]
set_option maxRecDepth 100000 in
set_option maxHeartbeats 2000000 in
theorem draw_mac {g len cap : Nat} {a : Option Addr} {w : World} (h : Src w g a len cap) :
    Calls Try.prog 158 #[.pointer (some ⟨g, 0, none⟩)] w (IntPost I64 g a len cap w) := by
  have H := Lib.hid h; clear h
  go_enter Try.func158, Try.ntmps158
  go_wp2_with fail
  refine (draw_one 12 (by omega) (by omega) H.out).mono ?_
  rintro e w2 ⟨r, rfl, hd⟩
  have HD := Lib.hid hd; clear hd
  cases r
  · go_wp2_with fail
    refine (draw_n 3 (by omega) (by omega) HD.out.1).mono ?_
    rintro e w3 ⟨x, rfl, ⟨hx0, hx1⟩, hd⟩
    have HD3 := Lib.hid (HD.out.trans hd); clear hd
    go_wp2
    go_ret
    exact ⟨_, rfl, ⟨by omega, by omega⟩, HD3.out⟩
  · have hgl := HD.out.1.src.lt
    go_wp2_with (go_at_call 102; refine (draw_n 6 (by omega) (by omega) (HD.out.1.alloc _)).mono ?_; rintro e w3 ⟨r, rfl, ⟨hr0, hr1⟩, hd⟩; have hc := hd.2.cell (mac_cell w2 r.toNat (by omega)) (by simp; omega); have HD3 := Lib.hid hd; clear hd)
    go_ret
    exact ⟨_, rfl, macs_in r.toNat (by omega), HD3.out.1, grown_trans (grown_trans HD.out.2 (grown_alloc w2 _ (some g)) (fun k hk => .inl (by simpa using hk.symm))) HD3.out.2 (fun k hk => .inl (by simpa using hk.symm))⟩

def ips : List Int := [0, 4294967295, 4294967296, -1]
theorem ips_in (i : Nat) (h : i < 4) : I64 (ips.getD i 0) := by
  rcases (by omega : i = 0 ∨ i = 1 ∨ i = 2 ∨ i = 3) with h | h | h | h <;> subst h <;> decide
theorem ip_cell (w : World) (i : Nat) (h : i < 4) : (w.alloc (.cells #[.int .i64 0, .int .i64 4294967295, .int .i64 4294967296, .int .i64 (-1)] 2)).cell? ⟨w.heap.size, i, none⟩ = some (.int .i64 (ips.getD i 0)) := by
  rcases (by omega : i = 0 ∨ i = 1 ∨ i = 2 ∨ i = 3) with h | h | h | h <;> subst h <;> simp [ips]
def vnis : List Int := [0, 1, 16777215, 16777216]
theorem vnis_in (i : Nat) (h : i < 4) : I64 (vnis.getD i 0) := by
  rcases (by omega : i = 0 ∨ i = 1 ∨ i = 2 ∨ i = 3) with h | h | h | h <;> subst h <;> decide
theorem vni_cell (w : World) (i : Nat) (h : i < 4) : (w.alloc (.cells #[.int .i64 0, .int .i64 1, .int .i64 16777215, .int .i64 16777216] 2)).cell? ⟨w.heap.size, i, none⟩ = some (.int .i64 (vnis.getD i 0)) := by
  rcases (by omega : i = 0 ∨ i = 1 ∨ i = 2 ∨ i = 3) with h | h | h | h <;> subst h <;> simp [vnis]
set_option maxRecDepth 100000 in
set_option maxHeartbeats 2000000 in
theorem draw_vni {g len cap : Nat} {a : Option Addr} {w : World} (h : Src w g a len cap) :
    Calls Try.prog 101 #[.pointer (some ⟨g, 0, none⟩)] w (IntPost I64 g a len cap w) := by
  have H := Lib.hid h; clear h
  go_enter Try.func101, Try.ntmps101
  go_wp2_with fail
  refine (draw_one 15 (by omega) (by omega) H.out).mono ?_
  rintro e w2 ⟨r, rfl, hd⟩
  have HD := Lib.hid hd; clear hd
  cases r
  · go_wp2_with fail
    refine (draw_n 2 (by omega) (by omega) HD.out.1).mono ?_
    rintro e w3 ⟨x, rfl, ⟨hx0, hx1⟩, hd⟩
    have HD3 := Lib.hid (HD.out.trans hd); clear hd
    go_wp2
    go_ret
    exact ⟨_, rfl, ⟨by omega, by omega⟩, HD3.out⟩
  · have hgl := HD.out.1.src.lt
    go_wp2_with (go_at_call 102; refine (draw_n 4 (by omega) (by omega) (HD.out.1.alloc _)).mono ?_; rintro e w3 ⟨r, rfl, ⟨hr0, hr1⟩, hd⟩; have hc := hd.2.cell (vni_cell w2 r.toNat (by omega)) (by simp; omega); have HD3 := Lib.hid hd; clear hd)
    go_ret
    exact ⟨_, rfl, vnis_in r.toNat (by omega), HD3.out.1, grown_trans (grown_trans HD.out.2 (grown_alloc w2 _ (some g)) (fun k hk => .inl (by simpa using hk.symm))) HD3.out.2 (fun k hk => .inl (by simpa using hk.symm))⟩
end Go.Proofs.Ythilmonokhdjmaa
