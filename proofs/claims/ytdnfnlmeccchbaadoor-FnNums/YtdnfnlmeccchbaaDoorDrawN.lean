/- Draws of chapter 2: DrawPutNum, DrawPutText. -/
import Derived.Test.YtdnfnlmeccchbaaDoorDraw3
namespace Go.Proofs.YtdnfnlmeccchbaaDoor
open Go.RowKit

theorem Src.below {w w1 w2 : World} {g : Nat} {a : Option Addr} {len cap : Nat} (hb : Below w.heap.size w w1) (hg : w.heap.size ≤ g) (hd : Drawn g a len cap w1 w2) : Below w.heap.size w w2 :=
  hb.grown hd.2 hb.size (fun k hk => by have : g = k := by simpa using hk
                                        omega)
theorem make_zeros (n : Nat) (hn : n ≤ 281474976710656) : ∃ M : Array Value, M.toList = (List.replicate n (0 : UInt8)).map byteV ∧
    ∀ W : World, (Instr.makeSlice 22 (.int .i64 (n : Int)) (.int .i64 (n : Int))).run Tryd.prog W = .ok (.slice (some ⟨W.heap.size, 0, none⟩) n n) (W.alloc (.cells M 5)) := by
  obtain ⟨i0, hi, hz0, hz1, hz2⟩ := info_parts info_u8
  refine ⟨madeCells (Value.int .u8 0).cells (((n : Nat) : Int).toNat * i0.size), ?_, fun W => ?_⟩
  · rw [hz1]
    apply List.ext_getElem
    · simp [madeCells]
    · intro i h1 h2
      simp [madeCells, byteV, Value.cells, Nat.mod_one]
  · have h := run_make (P := Tryd.prog) W 22 5 i0 (.int .u8 0) Tryd.underlying22 hi hz0 .i64 .i64 (n : Int) (n : Int) (by omega) (by omega) (by rw [hz2]; omega) (by omega)
    simpa using h
set_option maxRecDepth 100000 in
set_option maxHeartbeats 2000000 in
theorem draw_any {g len cap : Nat} {a : Option Addr} {w : World} (h : Src w g a len cap) :
    Calls Tryd.prog 19 #[.pointer (some ⟨g, 0, none⟩)] w (IntPost (fun r => -9223372036854775808 ≤ r ∧ r ≤ 9223372036854775807) g a len cap w) := by
  have H := Lib.hid h; clear h
  go_enter Tryd.func19, Tryd.ntmps19
  go_wp2_with fail
  refine (draw_one 4 (by omega) (by omega) H.out).mono ?_
  rintro e w2 ⟨r, rfl, hd⟩
  have HD := Lib.hid hd; clear hd
  cases r
  · go_wp2_with fail
    refine (draw_n 1099511627776 (by omega) (by omega) HD.out.1).mono ?_
    rintro e w3 ⟨x, rfl, ⟨hx0, hx1⟩, hd⟩
    have HD3 := Lib.hid (HD.out.trans hd); clear hd
    go_wp2
    go_ret
    exact ⟨_, rfl, ⟨by omega, by omega⟩, HD3.out⟩
  · go_wp2_with fail
    refine (draw_edge HD.out.1).mono ?_
    rintro e w3 ⟨x, rfl, hx, hd⟩
    have HD3 := Lib.hid (HD.out.trans hd); clear hd
    go_wp2
    go_ret
    exact ⟨_, rfl, hx, HD3.out⟩
def NumPost (w : World) (e : Ending) (w' : World) : Prop := ∃ n : Int, e = .returned (.int .i64 n) ∧ -9223372036854775808 ≤ n ∧ n ≤ 9223372036854775807 ∧ Below w.heap.size w w'
set_option maxRecDepth 100000 in
set_option maxHeartbeats 2000000 in
theorem draw_putNum {len cap : Nat} {a : Option Addr} {w : World} (hl : len ≤ 1048576) (hb : BytesAt w a len) :
    Calls Tryd.prog 6 #[.slice a len cap] w (NumPost w) := by
  have HS := Lib.hid (draw_source (cap := cap) hl hb)
  clear hb
  go_enter Tryd.func6, Tryd.ntmps6
  go_wp2_with (go_at_call 18; refine HS.out.mono ?_; rintro e w1 ⟨g, rfl, hg, hs, hb1⟩; have H1 := Lib.hid hs; have HB1 := Lib.hid hb1; clear hs hb1)
  refine (draw_any H1.out).mono ?_
  rintro e w2 ⟨r, rfl, ⟨hr0, hr1⟩, hd⟩
  have HB2 := Lib.hid (Src.below HB1.out hg hd); clear hd
  go_wp2
  go_ret
  exact ⟨r, rfl, hr0, hr1, HB2.out⟩
def TxtPost (w : World) (e : Ending) (w' : World) : Prop := ∃ l : List UInt8, e = .returned (.string (strOf l)) ∧ l.length ≤ 20002 ∧ Below w.heap.size w w'
set_option maxRecDepth 100000 in
set_option maxHeartbeats 2000000 in
theorem draw_putText {len cap : Nat} {a : Option Addr} {w : World} (hl : len ≤ 1048576) (hb : BytesAt w a len) :
    Calls Tryd.prog 10 #[.slice a len cap] w (TxtPost w) := by
  have HS := Lib.hid (draw_source (cap := cap) hl hb)
  clear hb
  go_enter Tryd.func10, Tryd.ntmps10
  go_wp2_with (go_at_call 18; refine HS.out.mono ?_; rintro e w1 ⟨g, rfl, hg, hs, hb1⟩; have H1 := Lib.hid hs; have HB1 := Lib.hid hb1; clear hs hb1)
  refine (draw_one 8 (by omega) (by omega) H1.out).mono ?_
  rintro e w2 ⟨r, rfl, hd⟩
  have H2 := Lib.hid hd.1
  have HB2 := Lib.hid (Src.below HB1.out hg hd)
  clear hd
  cases r
  · go_wp2_with fail
    refine (draw_n 20 (by omega) (by omega) H2.out).mono ?_
    rintro e w3 ⟨x, rfl, ⟨hx0, hx1⟩, hd⟩
    have H3 := Lib.hid hd.1
    have HB3 := Lib.hid (Src.below HB2.out hg hd)
    clear hd
    obtain ⟨n, rfl⟩ : ∃ n : Nat, x = (n : Int) := ⟨x.toNat, by omega⟩
    go_wp2_with fail
    refine (draw_bytes n (by omega) H3.out).mono ?_
    rintro e w4 ⟨l, rfl, hll, hd⟩
    have HB4 := Lib.hid (Src.below HB3.out hg hd)
    have HL := Lib.hid hll
    clear hd hll
    go_wp2
    go_ret
    exact ⟨l, rfl, by rw [HL.out]; omega, HB4.out⟩
  · go_wp2_with fail
    refine (draw_n 3 (by omega) (by omega) H2.out).mono ?_
    rintro e w3 ⟨x, rfl, ⟨hx0, hx1⟩, hd⟩
    have HB3 := Lib.hid (Src.below HB2.out hg hd)
    clear hd
    obtain ⟨n, hn⟩ : ∃ n : Nat, 19999 + x = (n : Int) := ⟨(19999 + x).toNat, by omega⟩
    have hn' : n ≤ 20002 := by omega
    obtain ⟨M, hM, hmk⟩ := make_zeros n (by omega)
    have hcv := row_string (w := w3.alloc (.cells M 5)) (l := List.replicate n (0 : UInt8)) (heap_alloc_new w3 _) hM (by rw [List.length_replicate]; unfold maxLen; omega)
    rw [List.length_replicate] at hcv
    clear hM
    go_wp2
    go_ret
    exact ⟨List.replicate n 0, rfl, by rw [List.length_replicate]; exact hn', HB3.out.alloc HB3.out.size _⟩
end Go.Proofs.YtdnfnlmeccchbaaDoor
