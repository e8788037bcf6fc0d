/- The source of draws: how it is made; a number at some limit. -/
import Derived.Test.YthilmonokhdjmaaDraw2
import Derived.Outline
namespace Go.Proofs.Ythilmonokhdjmaa
open Go.RowKit

structure SrcMade (g : Nat) (a : Option Addr) (len cap : Nat) (w w' : World) (m z : Int) : Prop where
  below : Below w.heap.size w w'
  lo : 0 ≤ m
  hi : m ≤ 18446744073709551615
  src : w'.heap[g]? = some (.cells #[.slice a len cap, .int .i64 0, .int .u64 m, .int .i64 z] 177 (0, 0))
theorem BytesAt.below {w w' : World} {a : Option Addr} {len : Nat} (h : BytesAt w a len) (hb : Below w.heap.size w w') : BytesAt w' a len := by
  rcases h with h | ⟨b, off, rfl, h⟩
  · exact .inl h
  · refine .inr ⟨b, off, rfl, fun i hi => ?_⟩
    obtain ⟨z, h0, h1, hc⟩ := h i hi
    exact ⟨z, h0, h1, (hb.cell (World.block_lt_of_cell? w _ hc)).trans hc⟩
def SrcPost (a : Option Addr) (len cap : Nat) (w : World) (e : Ending) (w' : World) : Prop := ∃ g : Nat, e = .returned (.pointer (some ⟨g, 0, none⟩)) ∧ w.heap.size ≤ g ∧ Src w' g a len cap ∧ Below w.heap.size w w'

theorem wrap_u64_le (x : Int) : 0 ≤ IntKind.u64.wrap x ∧ IntKind.u64.wrap x ≤ 18446744073709551615 := by rw [IntKind.wrap_u64]; omega
theorem SrcMade.step {a : Option Addr} {len cap : Nat} {w w' : World} {m z : Int} (h : SrcMade w.heap.size a len cap w w' m z) (m' : Int) (h0 : 0 ≤ m') (h1 : m' ≤ 18446744073709551615) : SrcMade w.heap.size a len cap w (w'.setCell ⟨w.heap.size, 2, none⟩ (.int .u64 m')).drew m' z :=
  ⟨(h.below.setCell (Nat.le_refl _) _).drew, h0, h1, heap_setCell_same w' w.heap.size 2 _ _ _ h.src⟩
theorem SrcMade.sized {a : Option Addr} {len cap : Nat} {w w' : World} {m z : Int} (h : SrcMade w.heap.size a len cap w w' m z) (z' : Int) : SrcMade w.heap.size a len cap w (w'.setCell ⟨w.heap.size, 3, none⟩ (.int .i64 z')) m z' :=
  ⟨h.below.setCell (Nat.le_refl _) _, h.lo, h.hi, heap_setCell_same w' w.heap.size 3 _ _ _ h.src⟩
theorem SrcMade.post {a : Option Addr} {len cap : Nat} {w w' : World} {m z : Int} (h : SrcMade w.heap.size a len cap w w' m z) (hl : len ≤ 1048576) (hb : BytesAt w a len) (h0 : 0 ≤ z) (h1 : z ≤ 12) :
    SrcPost a len cap w (.returned (.pointer (some ⟨w.heap.size, 0, none⟩))) w' := by
  refine ⟨w.heap.size, rfl, Nat.le_refl _, ⟨hl, hb.below h.below, ⟨0, m, z, by omega, by omega, h.lo, h.hi, h0, h1, h.src⟩, fun b off h0 e => ?_⟩, h.below⟩
  rcases hb with hb | ⟨b', off', e', hb⟩
  · omega
  · rw [e'] at e
    cases e
    obtain ⟨_, _, _, hc⟩ := hb 0 h0
    have := World.block_lt_of_cell? w _ hc
    simp at this; omega

set_option maxRecDepth 100000 in
set_option maxHeartbeats 2000000 in
theorem draw_source {len cap : Nat} {a : Option Addr} {w : World} (hl : len ≤ 1048576) (hb : BytesAt w a len) :
    Calls Try.prog 99 #[.slice a len cap] w (SrcPost a len cap w) := by
  have HB := Lib.hid hb; clear hb
  go_enter Try.func99, Try.ntmps99
  go_wp2
  go_loopw [4] (fun i wr => ∃ (k : Nat) (m : Int), k ≤ len ∧ i = .int .i64 k ∧ Hid (SrcMade w.heap.size a len cap w wr m 0)) (fun i _ => len - (intOf i).toNat)
  case atStart => exact ⟨0, 88172645463325252, by omega, rfl, Lib.hid ⟨(Below.refl _ _).alloc (Nat.le_refl _) _, by omega, by omega, heap_alloc_new w _⟩⟩
  case round =>
    obtain ⟨k, m, hk, rfl, HM⟩ := hrel
    obtain ⟨c0, c1, c2, c3, hf, hgl⟩ := cells4 HM.out.src
    have hm0 := HM.out.lo
    have hm1 := HM.out.hi
    by_cases hlt : k < len ∧ k < 64
    · obtain ⟨hk1, hk2⟩ := hlt
      obtain ⟨b, off, rfl, hby⟩ : ∃ b off, a = some ⟨b, off, none⟩ ∧ ∀ i, i < len → ∃ z : Int, 0 ≤ z ∧ z ≤ 255 ∧ wr.cell? ⟨b, off + i, none⟩ = some (.int .u8 z) := by
        rcases HB.out.below HM.out.below with h | h
        · omega
        · exact h
      obtain ⟨v, hv0, hv1, hvc⟩ := hby k hk1
      clear hby
      have bk : decide (k < len) = true := by simp; omega
      go_wp2
      go_still_tail 14, (by kernel_rfl)
      change wpList _ _ _ _ _ wr.drew
      go_wp2
      go_roundw
      case rel => exact ⟨k + 1, _, by omega, by go_num, Lib.hid (HM.out.step _ (wrap_u64_le _).1 (wrap_u64_le _).2)⟩
      case measure => simp [intOf]; omega
    · have hcase : (¬ k < len) ∨ (k < len ∧ ¬ k < 64) := by omega
      clear hlt
      have hlen0 : (0 : Int) ≤ (len : Int) / 20 := by omega
      rcases hcase with h | ⟨h, h'⟩
      all_goals
        try (have bk : decide (k < len) = true := by simp; omega)
        try (have bk : decide (k < len) = false := by simp; omega)
        by_cases h12 : (12 : Int) < (len : Int) / 20
        · go_wp2
          go_ret
          exact ((HM.out.sized _).sized 12).post hl HB.out (by omega) (by omega)
        · go_wp2
          go_ret
          exact (HM.out.sized ((len : Int) / 20)).post hl HB.out (by omega) (by omega)

def edges : List Int := [0, 1, -1, 2, 1000, 1001, 2147483648, 2147483647, -2147483648, 4611686018427387904, 9223372036854775807, -9223372036854775808, 1000000, 1000001]
theorem edges_in (i : Nat) (h : i < 14) : -9223372036854775808 ≤ edges.getD i 0 ∧ edges.getD i 0 ≤ 9223372036854775807 := by
  rcases (by omega : i = 0 ∨ i = 1 ∨ i = 2 ∨ i = 3 ∨ i = 4 ∨ i = 5 ∨ i = 6 ∨ i = 7 ∨ i = 8 ∨ i = 9 ∨ i = 10 ∨ i = 11 ∨ i = 12 ∨ i = 13) with h | h | h | h | h | h | h | h | h | h | h | h | h | h <;> subst h <;> decide
theorem edge_cell (w : World) (i : Nat) (h : i < 14) : (w.alloc (.cells #[.int .i64 0, .int .i64 1, .int .i64 (-1), .int .i64 2, .int .i64 1000, .int .i64 1001, .int .i64 2147483648, .int .i64 2147483647, .int .i64 (-2147483648), .int .i64 4611686018427387904, .int .i64 9223372036854775807, .int .i64 (-9223372036854775808), .int .i64 1000000, .int .i64 1000001] 2)).cell? ⟨w.heap.size, i, none⟩ = some (.int .i64 (edges.getD i 0)) := by
  rcases (by omega : i = 0 ∨ i = 1 ∨ i = 2 ∨ i = 3 ∨ i = 4 ∨ i = 5 ∨ i = 6 ∨ i = 7 ∨ i = 8 ∨ i = 9 ∨ i = 10 ∨ i = 11 ∨ i = 12 ∨ i = 13) with h | h | h | h | h | h | h | h | h | h | h | h | h | h <;> subst h <;> simp [edges]
set_option maxRecDepth 100000 in
set_option maxHeartbeats 2000000 in
theorem draw_edge {g len cap : Nat} {a : Option Addr} {w : World} (h : Src w g a len cap) :
    Calls Try.prog 104 #[.pointer (some ⟨g, 0, none⟩)] w (IntPost (fun r => -9223372036854775808 ≤ r ∧ r ≤ 9223372036854775807) g a len cap w) := by
  have H := Lib.hid h; clear h
  have hn : ∀ o : Obj, Src (w.alloc o) g a len cap := fun o => ⟨H.out.small, H.out.bytes.kept (grown_alloc _ _ _) H.out.apart, H.out.src.alloc _, H.out.apart⟩
  have HN := Lib.hid hn; clear hn
  go_enter Try.func104, Try.ntmps104
  have hgl := H.out.src.lt
  go_wp2_with (go_at_call 102; refine (draw_n 14 (by omega) (by omega) (HN.out _)).mono ?_; rintro e w1 ⟨r, rfl, ⟨hr0, hr1⟩, hd⟩; have hc := hd.2.cell (edge_cell w r.toNat (by omega)) (by simp; omega); have HD := Lib.hid hd; clear hd)
  go_ret
  exact ⟨_, rfl, edges_in r.toNat (by omega), HD.out.1, grown_trans (grown_alloc w _ (some g)) HD.out.2 (fun k hk => .inl (by simpa using hk.symm))⟩
end Go.Proofs.Ythilmonokhdjmaa
