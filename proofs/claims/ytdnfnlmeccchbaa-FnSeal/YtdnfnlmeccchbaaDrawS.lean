/- Draws of chapter 2: DrawSeal, DrawCrcMore; lwAt. -/
import Derived.Test.YtdnfnlmeccchbaaDraw3
import Derived.Test.YtdnfnlmeccchbaaCrc
import Derived.Outline
namespace Go.Proofs.Ytdnfnlmeccchbaa
open Go.RowKit

theorem Src.below {w w1 w2 : World} {g : Nat} {a : Option Addr} {len cap : Nat} (hb : Below w.heap.size w w1) (hg : w.heap.size ≤ g) (hd : Drawn g a len cap w1 w2) : Below w.heap.size w w2 :=
  hb.grown hd.2 hb.size (fun k hk => by have : g = k := by simpa using hk
                                        omega)

/- 'make([]byte, n)', what it holds -/
theorem make_zeros (n : Nat) (hn : n ≤ 281474976710656) : ∃ M : Array Value, M.toList = (List.replicate n (0 : UInt8)).map byteV ∧
    ∀ W : World, (Instr.makeSlice 22 (.int .i64 (n : Int)) (.int .i64 (n : Int))).run Try.prog W = .ok (.slice (some ⟨W.heap.size, 0, none⟩) n n) (W.alloc (.cells M 5)) := by
  obtain ⟨i0, hi, hz0, hz1, hz2⟩ := info_parts info_u8
  refine ⟨madeCells (Value.int .u8 0).cells (((n : Nat) : Int).toNat * i0.size), ?_, fun W => ?_⟩
  · rw [hz1]
    apply List.ext_getElem
    · simp [madeCells]
    · intro i h1 h2
      simp [madeCells, byteV, Value.cells, Nat.mod_one]
  · have h := run_make (P := Try.prog) W 22 5 i0 (.int .u8 0) Try.underlying22 hi hz0 .i64 .i64 (n : Int) (n : Int) (by omega) (by omega) (by rw [hz2]; omega) (by omega)
    simpa using h

/- a slice of bytes that came in, a row of numbers, read through an index -/
set_option maxHeartbeats 1000000 in
theorem lwAt_any (len cap k : Nat) (a : Option Addr) (most : Int) (w : World) (hk : k ≤ 1) (hm : most ≤ 9223372036854775807) (hl : len ≤ 1048576) (hb : BytesAt w a len) :
    Calls Try.prog 14 #[.slice a len cap, .int .i64 (k : Int), .int .i64 most] w fun e w' => (∃ r : Int, e = .returned (.int .i64 r) ∧ 0 ≤ r ∧ (1 ≤ most → r < most)) ∧ w = w' := by
  have HB := Lib.hid hb; clear hb
  by_cases h1 : most ≤ 1
  · go_enter Try.func14, Try.ntmps14
    go_wp2
    go_ret
    exact ⟨⟨0, rfl, by omega, by omega⟩, rfl⟩
  have b1 : decide (most ≤ 1) = false := by simp; omega
  by_cases h0 : len = 0
  · have b0 : ((len : Int) == 0) = true := by simp; omega
    clear h0
    go_enter Try.func14, Try.ntmps14
    go_wp2
    go_ret
    exact ⟨⟨0, rfl, by omega, by omega⟩, rfl⟩
  have b0 : ((len : Int) == 0) = false := by simp; omega
  have hlz : ¬ (len : Int) = 0 := by omega
  have hmz : ¬ most = 0 := by omega
  have h1' : 1 < most := by omega
  clear h1 h0
  obtain ⟨b, off, rfl, hby⟩ : ∃ b off, a = some ⟨b, off, none⟩ ∧ ∀ i, i < len → ∃ z : Int, 0 ≤ z ∧ z ≤ 255 ∧ w.cell? ⟨b, off + i, none⟩ = some (.int .u8 z) := by
    rcases HB.out with h | h
    · omega
    · exact h
  obtain ⟨j, hj⟩ : ∃ j : Nat, j = k % len := ⟨_, rfl⟩
  have hml : j < len := by rw [hj]; exact Nat.mod_lt _ (by omega)
  have hmi : ((k : Int) % (len : Int)) = (j : Int) := by omega
  obtain ⟨v, hv0, hv1, hvc⟩ := hby j hml
  clear hby HB hj
  have e1 := Int.emod_nonneg v (b := most) (by omega)
  have e2 := Int.emod_lt_of_pos v (b := most) (by omega)
  go_enter Try.func14, Try.ntmps14
  go_wp2
  go_ret
  exact ⟨⟨_, rfl, by omega, fun _ => by omega⟩, rfl⟩

def SealPost (w : World) (e : Ending) (w' : World) : Prop := ∃ l : List UInt8, e = .returned (.string (strOf l)) ∧ l.length ≤ 20000 ∧ Below w.heap.size w w'
set_option maxRecDepth 100000 in
set_option maxHeartbeats 2000000 in
theorem draw_seal {len cap : Nat} {a : Option Addr} {w : World} (hl : len ≤ 1048576) (hb : BytesAt w a len) :
    Calls Try.prog 11 #[.slice a len cap] w (SealPost w) := by
  have HS := Lib.hid (draw_source (cap := cap) hl hb)
  clear hb
  go_enter Try.func11, Try.ntmps11
  go_wp2_with (go_at_call 29; refine HS.out.mono ?_; rintro e w1 ⟨g, rfl, hg, hs, hb1⟩; have H1 := Lib.hid hs; have HB1 := Lib.hid hb1; clear hs hb1)
  refine (draw_one 30 (by omega) (by omega) H1.out).mono ?_
  rintro e w2 ⟨r, rfl, hd⟩
  have H2 := Lib.hid hd.1
  have HB2 := Lib.hid (Src.below HB1.out hg hd)
  clear hd
  cases r
  · go_wp2_with fail
    refine (draw_n 20 (by omega) (by omega) H2.out).mono ?_
    rintro e w3 ⟨x, rfl, ⟨hx0, hx1⟩, hd⟩
    have H3 := Lib.hid hd.1
    have HB3 := Lib.hid (Src.below HB2.out hg hd)
    clear hd
    obtain ⟨n, rfl⟩ : ∃ n : Nat, x = (n : Int) := ⟨x.toNat, by omega⟩
    go_wp2_with fail
    refine (draw_bytes n (by omega) H3.out).mono ?_
    rintro e w4 ⟨l, rfl, hll, hd⟩
    have HB4 := Lib.hid (Src.below HB3.out hg hd)
    have HL := Lib.hid hll
    clear hd hll
    go_wp2
    go_ret
    exact ⟨l, rfl, by rw [HL.out]; omega, HB4.out⟩
  · go_wp2_with fail
    refine (draw_n 3 (by omega) (by omega) H2.out).mono ?_
    rintro e w3 ⟨x, rfl, ⟨hx0, hx1⟩, hd⟩
    have HB3 := Lib.hid (Src.below HB2.out hg hd)
    clear hd
    obtain ⟨n, hn⟩ : ∃ n : Nat, 19995 + x = (n : Int) := ⟨(19995 + x).toNat, by omega⟩
    have hn' : n ≤ 20000 := by omega
    obtain ⟨M, hM, hmk⟩ := make_zeros n (by omega)
    have hcv := row_string (w := w3.alloc (.cells M 5)) (l := List.replicate n (0 : UInt8)) (heap_alloc_new w3 _) hM (by rw [List.length_replicate]; unfold maxLen; omega)
    rw [List.length_replicate] at hcv
    clear hM
    go_wp2
    go_ret
    exact ⟨List.replicate n 0, rfl, by rw [List.length_replicate]; exact hn', HB3.out.alloc HB3.out.size _⟩

def CrcPost (w : World) (e : Ending) (w' : World) : Prop := ∃ (c : Int) (l : List UInt8), e = .returned (.tuple #[.int .i64 c, .string (strOf l)]) ∧ l.length ≤ 20 ∧ -9223372036854775808 ≤ c ∧ c ≤ 9223372036854775807 ∧ Below w.heap.size w w'
set_option maxRecDepth 100000 in
set_option maxHeartbeats 2000000 in
theorem draw_crcMore {len cap : Nat} {a : Option Addr} {w : World} (hl : len ≤ 1048576) (hb : BytesAt w a len) :
    Calls Try.prog 16 #[.slice a len cap] w (CrcPost w) := by
  have HS := Lib.hid (draw_source (cap := cap) hl hb)
  clear hb
  go_enter Try.func16, Try.ntmps16
  go_wp2_with (go_at_call 29; refine HS.out.mono ?_; rintro e w1 ⟨g, rfl, hg, hs, hb1⟩; have H1 := Lib.hid hs; have HB1 := Lib.hid hb1; clear hs hb1)
  refine (draw_n 9 (by omega) (by omega) H1.out).mono ?_
  rintro e w2 ⟨x, rfl, ⟨hx0, hx1⟩, hd⟩
  have H2 := Lib.hid hd.1
  have HB2 := Lib.hid (Src.below HB1.out hg hd)
  clear hd
  obtain ⟨n, rfl⟩ : ∃ n : Nat, x = (n : Int) := ⟨x.toNat, by omega⟩
  go_wp2_with fail
  refine (draw_bytes n (by omega) H2.out).mono ?_
  rintro e w3 ⟨l, rfl, hll, hd⟩
  have H3 := Lib.hid hd.1
  have HB3 := Lib.hid (Src.below HB2.out hg hd)
  have HL : Hid (l.length ≤ 20) := by show l.length ≤ 20; omega
  clear hd hll
  go_wp2_with fail
  refine (draw_one 5 (by omega) (by omega) H3.out).mono ?_
  rintro e w4 ⟨r, rfl, hd⟩
  have H4 := Lib.hid hd.1
  have HB4 := Lib.hid (Src.below HB3.out hg hd)
  clear hd
  cases r
  · go_wp2_with fail
    refine (draw_n 9 (by omega) (by omega) H4.out).mono ?_
    rintro e w5 ⟨y, rfl, ⟨hy0, hy1⟩, hd⟩
    have H5 := Lib.hid hd.1
    have HB5 := Lib.hid (Src.below HB4.out hg hd)
    clear hd
    obtain ⟨n2, rfl⟩ : ∃ n : Nat, y = (n : Int) := ⟨y.toNat, by omega⟩
    go_wp2_with fail
    refine (draw_bytes n2 (by omega) H5.out).mono ?_
    rintro e w6 ⟨l2, rfl, hll2, hd⟩
    have HB6 := Lib.hid (Src.below HB5.out hg hd)
    have h2m : (strOf l2).size ≤ maxLen := by rw [strOf_size]; unfold maxLen; omega
    have H2M := Lib.hid h2m
    have hcb : 0 ≤ crcI (strOf l2) ∧ crcI (strOf l2) ≤ 4294967295 := by
      unfold crcI; split
      · omega
      · have := crcOf_lt 0 (strOf l2) (by omega); omega
    have HCB := Lib.hid hcb
    clear hd hll2 h2m hcb
    go_wp2_with fail
    refine (specCrc_any _ _ H2M.out).mono ?_
    rintro e w7 ⟨rfl, rfl⟩
    go_wp2
    go_ret2
    exact ⟨_, l, rfl, HL.out, by have := HCB.out.1; omega, by have := HCB.out.2; omega, HB6.out⟩
  · go_wp2_with fail
    refine (draw_edge H4.out).mono ?_
    rintro e w5 ⟨y, rfl, ⟨hy0, hy1⟩, hd⟩
    have HB5 := Lib.hid (Src.below HB4.out hg hd)
    clear hd
    go_wp2
    go_ret2
    exact ⟨y, l, rfl, HL.out, hy0, hy1, HB5.out⟩
end Go.Proofs.Ytdnfnlmeccchbaa
