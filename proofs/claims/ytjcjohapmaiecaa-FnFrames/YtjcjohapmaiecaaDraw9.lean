/- Draws of chapter 3: a text that is spoilt; the texts to be read. -/
import Derived.Test.YtjcjohapmaiecaaDraw8
import Derived.Outline
namespace Go.Proofs.Ytjcjohapmaiecaa
open Go.RowKit

def spoils : ByteArray := ⟨#[32, 10, 48, 97, 45, 110, 44, 58, 93, 255, 40, 120, 126, 49, 128, 225, 59]⟩
theorem string_one (c : UInt8) (w : World) :
    (convert 22 9 (.slice (some ⟨w.heap.size, 0, none⟩) 1 1)).run Try.prog (w.alloc (.cells #[.int .u8 (c.toNat : Int)] 5)) = .ok (.string (strOf [c])) (w.alloc (.cells #[.int .u8 (c.toNat : Int)] 5)) :=
  row_string (l := [c]) (heap_alloc_new w _) rfl (by unfold maxLen; simp)
theorem draw_le (most : Int) {g len cap : Nat} {a : Option Addr} {w : World} (hm : 1 ≤ most) (hm' : most ≤ 9223372036854775807) (h : Src w g a len cap) :
    Calls Try.prog 43 #[.pointer (some ⟨g, 0, none⟩), .int .i64 most] w (IntPost (fun r => 0 ≤ r ∧ r < most) g a len cap w) :=
  (n_any most g len cap a w hm' h.small h.bytes h.src).mono fun _ _ ⟨r, he, h0, h1, h2, hs, hg, _⟩ => ⟨r, he, ⟨h0, by by_cases h : 1 < most <;> omega⟩, h.kept hs hg, hg⟩
theorem Drawn.drewN {w w' : World} {g : Nat} {a : Option Addr} {len cap : Nat} (h : Drawn g a len cap w w') (n : Nat) : Drawn g a len cap w (w'.drewN n) :=
  ⟨⟨h.1.small, h.1.bytes, h.1.src, h.1.apart⟩, ⟨h.2.os, h.2.tape, h.2.output, h.2.size, h.2.block⟩⟩
def SpoilPost (s : ByteArray) (g : Nat) (a : Option Addr) (len cap : Nat) (w : World) (e : Ending) (w' : World) : Prop := ∃ t : ByteArray, e = .returned (.string t) ∧ t.size ≤ s.size + 1 ∧ Drawn g a len cap w w'
set_option maxRecDepth 100000 in
set_option maxHeartbeats 2000000 in
theorem draw_spoil {g len cap : Nat} {a : Option Addr} {w : World} (s : ByteArray) (hs : s.size ≤ 1000) (h : Src w g a len cap) :
    Calls Try.prog 52 #[.pointer (some ⟨g, 0, none⟩), .string s] w (SpoilPost s g a len cap w) := by
  have HS := Lib.hid h; clear h
  go_enter Try.func52, Try.ntmps52
  go_wp2_with fail
  refine (draw_le ((s.size : Int) + 1) (by omega) (by omega) HS.out).mono ?_
  rintro e w1 ⟨x, rfl, ⟨hx0, hx1⟩, hd⟩
  have HD := Lib.hid hd; clear hd
  obtain ⟨k, rfl⟩ : ∃ k : Nat, x = (k : Int) := ⟨x.toNat, by omega⟩
  have hk : k ≤ s.size := by omega
  go_wp2_with fail
  refine (draw_n 17 (by omega) (by omega) HD.out.1).mono ?_
  rintro e w2 ⟨x, rfl, ⟨hy0, hy1⟩, hd⟩
  replace HD := Lib.hid (HD.out.trans hd); clear hd
  obtain ⟨j, rfl⟩ : ∃ j : Nat, x = (j : Int) := ⟨x.toNat, by omega⟩
  have hj : j < 17 := by omega
  have hcv := string_one
  have hs1 : ∀ c : UInt8, (strOf [c]).size = 1 := fun _ => rfl
  have e1 : (s.extract 0 k).size = k := by rw [ByteArray.size_extract]; omega
  have e2 : (s.extract k s.size).size = s.size - k := by rw [ByteArray.size_extract]; omega
  have e3 : (s.extract (k + 1) s.size).size = s.size - (k + 1) := by rw [ByteArray.size_extract]; omega
  have hkI : (k : Int) ≤ s.size := by omega
  by_cases hks : k = s.size
  · have hkb : decide ((k : Int) = (s.size : Int)) = true := by simp; omega
    go_wp2_with fail
    go_quiet (fail)
    go_wp2
    go_ret
    exact ⟨_, rfl, by simp [hs1], (HD.out.alloc _).drewN _⟩
  have hkb : decide ((k : Int) = (s.size : Int)) = false := by simp; omega
  go_wp2_with fail
  refine (draw_one 3 (by omega) (by omega) (HD.out.alloc _).1).mono ?_
  rintro e w3 ⟨r, rfl, hd⟩
  replace HD := Lib.hid ((HD.out.alloc _).trans hd); clear hd
  cases r
  · go_wp2_with fail
    refine (draw_one 2 (by omega) (by omega) HD.out.1).mono ?_
    rintro e w4 ⟨r, rfl, hd⟩
    replace HD := Lib.hid (HD.out.trans hd); clear hd
    cases r
    · go_wp2_with fail
      go_quiet (fail)
      go_wp2
      go_ret
      exact ⟨_, rfl, by simp [e1, e3, hs1]; omega, HD.out.drewN _⟩
    · go_wp2_with fail
      go_quiet (fail)
      go_wp2
      go_ret
      exact ⟨_, rfl, by simp [e1, e3]; omega, HD.out.drewN _⟩
  · go_wp2_with fail
    go_quiet (fail)
    go_wp2
    go_ret
    exact ⟨_, rfl, by simp [e1, e2, hs1]; omega, HD.out.drewN _⟩
end Go.Proofs.Ytjcjohapmaiecaa
