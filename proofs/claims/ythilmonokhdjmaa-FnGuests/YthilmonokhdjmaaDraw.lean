/- The source of draws: what each of its methods hands back, and what it leaves. -/
import Derived.Test.YthilmonokhdjmaaB1
import Derived.StillTailTactics
import Derived.Deep.QuietTactic
import Derived.BigQuiet
import Derived.Handy
import Derived.Outline
namespace Go.Proofs.Ythilmonokhdjmaa
open Go.RowKit

/- a slice of bytes that came in: each place up to its length holds a byte -/
def BytesAt (w : World) (a : Option Addr) (len : Nat) : Prop :=
  len = 0 ∨ ∃ b off, a = some ⟨b, off, none⟩ ∧ ∀ i, i < len → ∃ z : Int, 0 ≤ z ∧ z ≤ 255 ∧ w.cell? ⟨b, off + i, none⟩ = some (.int .u8 z)
/- the source lies in block g, over the bytes at a -/
def SrcAt (w : World) (g : Nat) (a : Option Addr) (len cap : Nat) : Prop :=
  ∃ p m z : Int, 0 ≤ p ∧ p ≤ len ∧ 0 ≤ m ∧ m ≤ 18446744073709551615 ∧ 0 ≤ z ∧ z ≤ 12 ∧
    w.heap[g]? = some (.cells #[.slice a len cap, .int .i64 p, .int .u64 m, .int .i64 z] 177 (0, 0))

theorem cells4 {w : World} {g : Nat} {x0 x1 x2 x3 : Value} {t : TypeId} (h : w.heap[g]? = some (.cells #[x0, x1, x2, x3] t (0, 0))) :
    w.cell? ⟨g, 0, none⟩ = some x0 ∧ w.cell? ⟨g, 1, none⟩ = some x1 ∧ w.cell? ⟨g, 2, none⟩ = some x2 ∧ w.cell? ⟨g, 3, none⟩ = some x3 ∧ (∀ o, w.frozen? ⟨g, o, none⟩ = false) ∧ g < w.heap.size := by
  refine ⟨by simp [World.cell?, h], by simp [World.cell?, h], by simp [World.cell?, h], by simp [World.cell?, h], fun o => by simp [World.frozen?, h], ?_⟩
  rcases Nat.lt_or_ge g w.heap.size with hl | hl
  · exact hl
  · rw [Array.getElem?_eq_none hl] at h; cases h

theorem u64_bits_le (op : BinOp) (x y : Int) : 0 ≤ bits op .u64 x y ∧ bits op .u64 x y ≤ 18446744073709551615 := by
  unfold bits; simp only [IntKind.wrap_u64]; omega
/- w has become W: nothing but block g has turned, and block g holds this source -/
structure Step (w W : World) (g : Nat) (a : Option Addr) (len cap : Nat) (p m z : Int) : Prop where
  grown : w.grownBy W (some g)
  size : W.heap.size = w.heap.size
  src : W.heap[g]? = some (.cells #[.slice a len cap, .int .i64 p, .int .u64 m, .int .i64 z] 177 (0, 0))
theorem Step.start {w : World} {g : Nat} {a : Option Addr} {len cap : Nat} {p m z : Int} (n : Nat) (h : w.heap[g]? = some (.cells #[.slice a len cap, .int .i64 p, .int .u64 m, .int .i64 z] 177 (0, 0))) : Step w (w.drewN n) g a len cap p m z :=
  ⟨⟨rfl, rfl, rfl, Nat.le_refl _, fun _ _ _ => rfl⟩, rfl, h⟩
theorem grown_setCell {w W : World} {g i : Nat} {v : Value} (h : w.grownBy W (some g)) : w.grownBy (W.setCell ⟨g, i, none⟩ v) (some g) := by
  have k := Lib.grownBy_setCell W g i v
  refine ⟨k.os.trans h.os, k.tape.trans h.tape, k.output.trans h.output, Nat.le_trans h.size k.size, fun b hb hne => (k.block b (Nat.lt_of_lt_of_le hb h.size) hne).trans (h.block b hb hne)⟩
theorem Step.mix {w W : World} {g : Nat} {a : Option Addr} {len cap : Nat} {p m z : Int} (h : Step w W g a len cap p m z) (m' : Int) (n : Nat) : Step w ((W.setCell ⟨g, 2, none⟩ (.int .u64 m')).drewN n) g a len cap p m' z :=
  have k := grown_setCell (i := 2) (v := .int .u64 m') h.grown
  ⟨⟨k.os, k.tape, k.output, k.size, k.block⟩, by show (W.setCell _ _).heap.size = _; rw [World.size_setCell]; exact h.size, heap_setCell_same W g 2 _ _ _ h.src⟩
theorem Step.move {w W : World} {g : Nat} {a : Option Addr} {len cap : Nat} {p m z : Int} (h : Step w W g a len cap p m z) (p' : Int) (n : Nat) : Step w ((W.drewN n).setCell ⟨g, 1, none⟩ (.int .i64 p')) g a len cap p' m z := by
  have hg : w.grownBy (W.drewN n) (some g) := ⟨h.grown.os, h.grown.tape, h.grown.output, h.grown.size, h.grown.block⟩
  exact ⟨grown_setCell hg, by rw [World.size_setCell]; exact h.size, heap_setCell_same (W.drewN n) g 1 _ _ _ h.src⟩
theorem Step.done {w W : World} {g : Nat} {a : Option Addr} {len cap : Nat} {p m z : Int} (h : Step w W g a len cap p m z) (hp0 : 0 ≤ p) (hp1 : p ≤ len) (hm0 : 0 ≤ m) (hm1 : m ≤ 18446744073709551615) (hz0 : 0 ≤ z) (hz1 : z ≤ 12) : SrcAt W g a len cap ∧ w.grownBy W (some g) ∧ W.heap.size = w.heap.size :=
  ⟨⟨p, m, z, hp0, hp1, hm0, hm1, hz0, hz1, h.src⟩, h.grown, h.size⟩
def NPost (most : Int) (g : Nat) (a : Option Addr) (len cap : Nat) (w : World) (e : Ending) (w' : World) : Prop :=
  ∃ r : Int, e = .returned (.int .i64 r) ∧ 0 ≤ r ∧ (1 < most → r < most) ∧ (most ≤ 1 → r = 0) ∧ SrcAt w' g a len cap ∧ w.grownBy w' (some g) ∧ w'.heap.size = w.heap.size
theorem NPost.of {most : Int} {g : Nat} {a : Option Addr} {len cap : Nat} {w w' : World} (y : Int) (h1 : 1 < most) (hm : most ≤ 9223372036854775807)
    (h : SrcAt w' g a len cap ∧ w.grownBy w' (some g) ∧ w'.heap.size = w.heap.size) : NPost most g a len cap w (.returned (.int .i64 (wrap64 ((IntKind.u64.wrap y).tmod most)))) w' := by
  have hx : 0 ≤ IntKind.u64.wrap y := by rw [IntKind.wrap_u64]; omega
  rw [Int.tmod_eq_emod_of_nonneg hx]
  have e1 := Int.emod_nonneg (IntKind.u64.wrap y) (b := most) (by omega)
  have e2 := Int.emod_lt_of_pos (IntKind.u64.wrap y) (b := most) (by omega)
  rw [IntWalk.wrap64_in _ (by omega)]
  exact ⟨_, rfl, by omega, fun _ => by omega, fun _ => by omega, h⟩

set_option maxRecDepth 100000 in
set_option maxHeartbeats 2000000 in
theorem n_any (most : Int) (g len cap : Nat) (a : Option Addr) (w : World) (hm : most ≤ 9223372036854775807) (hlen : len ≤ 1048576) (hb : BytesAt w a len) (hs : SrcAt w g a len cap) :
    Calls Try.prog 102 #[.pointer (some ⟨g, 0, none⟩), .int .i64 most] w (NPost most g a len cap w) := by
  by_cases h1 : most ≤ 1
  · go_enter Try.func102, Try.ntmps102
    go_wp2
    go_ret
    exact ⟨0, rfl, by omega, by omega, fun _ => rfl, hs, ⟨rfl, rfl, rfl, Nat.le_refl _, fun _ _ _ => rfl⟩, rfl⟩
  obtain ⟨p, m, z, hp0, hp1, hm0, hm1, hz0, hz1, hh⟩ := hs
  obtain ⟨c0, c1, c2, c3, hf, hgl⟩ := cells4 hh
  have HH := Lib.hid hh; clear hh
  have HB := Lib.hid hb; clear hb
  have h1' : 1 < most := by omega
  have hmz : ¬ most = 0 := by omega
  clear h1
  by_cases hlt : p < len
  case neg =>
    go_enter Try.func102, Try.ntmps102
    go_wp2
    go_quiet (fail)
    go_wp2
    have hst := Step.start nq HH.out
    clear c0 c1 c2 c3 hf hgl
    generalize w.drewN nq = W at *
    obtain ⟨c0, c1, c2, c3, hf, hgl⟩ := cells4 hst.src
    have HST := Lib.hid hst; clear hst
    go_still_tail 13, (by kernel_rfl)
    change wpList _ _ _ _ _ (W).drew
    go_wp2
    have hst := HST.out.mix (bits .xor .u64 m (IntKind.u64.wrap (m * 8192))) 1
    have hbb := u64_bits_le .xor m (IntKind.u64.wrap (m * 8192))
    clear HST c0 c1 c2 c3 hf hgl
    rw [show ((W).setCell ⟨g, 2, none⟩ (.int .u64 (bits .xor .u64 m (IntKind.u64.wrap (m * 8192))))).drewN 1 = ((W).setCell ⟨g, 2, none⟩ (.int .u64 (bits .xor .u64 m (IntKind.u64.wrap (m * 8192))))).drew from rfl] at hst
    generalize ((W).setCell ⟨g, 2, none⟩ (.int .u64 (bits .xor .u64 m (IntKind.u64.wrap (m * 8192))))).drew = W1 at *
    generalize bits .xor .u64 m (IntKind.u64.wrap (m * 8192)) = m1 at *
    obtain ⟨m1a, m1b⟩ := hbb
    obtain ⟨c0, c1, c2, c3, hf, hgl⟩ := cells4 hst.src
    have HST := Lib.hid hst; clear hst
    go_still_tail 13, (by kernel_rfl)
    change wpList _ _ _ _ _ (W1).drew
    go_wp2
    have hst := HST.out.mix (bits .xor .u64 m1 (m1 / 128)) 1
    have hbb := u64_bits_le .xor m1 (m1 / 128)
    clear HST c0 c1 c2 c3 hf hgl
    rw [show ((W1).setCell ⟨g, 2, none⟩ (.int .u64 (bits .xor .u64 m1 (m1 / 128)))).drewN 1 = ((W1).setCell ⟨g, 2, none⟩ (.int .u64 (bits .xor .u64 m1 (m1 / 128)))).drew from rfl] at hst
    generalize ((W1).setCell ⟨g, 2, none⟩ (.int .u64 (bits .xor .u64 m1 (m1 / 128)))).drew = W2 at *
    generalize bits .xor .u64 m1 (m1 / 128) = m2 at *
    obtain ⟨m2a, m2b⟩ := hbb
    obtain ⟨c0, c1, c2, c3, hf, hgl⟩ := cells4 hst.src
    have HST := Lib.hid hst; clear hst
    go_still_tail 13, (by kernel_rfl)
    change wpList _ _ _ _ _ (W2).drew
    go_wp2
    have hst := HST.out.mix (bits .xor .u64 m2 (IntKind.u64.wrap (m2 * 131072))) 1
    have hbb := u64_bits_le .xor m2 (IntKind.u64.wrap (m2 * 131072))
    clear HST c0 c1 c2 c3 hf hgl
    rw [show ((W2).setCell ⟨g, 2, none⟩ (.int .u64 (bits .xor .u64 m2 (IntKind.u64.wrap (m2 * 131072))))).drewN 1 = ((W2).setCell ⟨g, 2, none⟩ (.int .u64 (bits .xor .u64 m2 (IntKind.u64.wrap (m2 * 131072))))).drew from rfl] at hst
    generalize ((W2).setCell ⟨g, 2, none⟩ (.int .u64 (bits .xor .u64 m2 (IntKind.u64.wrap (m2 * 131072))))).drew = W3 at *
    generalize bits .xor .u64 m2 (IntKind.u64.wrap (m2 * 131072)) = m3 at *
    obtain ⟨m3a, m3b⟩ := hbb
    go_ret
    exact NPost.of _ h1' hm (hst.done hp0 hp1 (by omega) (by omega) hz0 hz1)
  obtain ⟨b, off, rfl, hby⟩ : ∃ b off, a = some ⟨b, off, none⟩ ∧ ∀ i, i < len → ∃ z : Int, 0 ≤ z ∧ z ≤ 255 ∧ w.cell? ⟨b, off + i, none⟩ = some (.int .u8 z) := by
    rcases HB.out with h | h
    · omega
    · exact h
  obtain ⟨v, hv0, hv1, hvc⟩ := hby p.toNat (by omega)
  clear hby HB
  go_enter Try.func102, Try.ntmps102
  go_wp2
  go_quiet (fail)
  go_wp2
  have hst := Step.start nq HH.out
  have hvc' : (w.drewN nq).cell? ⟨b, off + p.toNat, none⟩ = some (.int .u8 v) := hvc
  clear c0 c1 c2 c3 hf hgl hvc
  generalize w.drewN nq = W at *
  obtain ⟨c0, c1, c2, c3, hf, hgl⟩ := cells4 hst.src
  have HST := Lib.hid hst; clear hst
  go_quiet (fail)
  go_wp2
  have hst := HST.out.move (p + 1) nq
  clear HST c0 c1 c2 c3 hf hgl hvc'
  generalize (W.drewN nq).setCell ⟨g, 1, none⟩ (.int .i64 (p + 1)) = W0 at *
  obtain ⟨c0, c1, c2, c3, hf, hgl⟩ := cells4 hst.src
  have HST := Lib.hid hst; clear hst
  go_still_tail 13, (by kernel_rfl)
  change wpList _ _ _ _ _ (W0).drew
  go_wp2
  have hst := HST.out.mix (bits .xor .u64 m (IntKind.u64.wrap (m * 8192))) 1
  have hbb := u64_bits_le .xor m (IntKind.u64.wrap (m * 8192))
  clear HST c0 c1 c2 c3 hf hgl
  rw [show ((W0).setCell ⟨g, 2, none⟩ (.int .u64 (bits .xor .u64 m (IntKind.u64.wrap (m * 8192))))).drewN 1 = ((W0).setCell ⟨g, 2, none⟩ (.int .u64 (bits .xor .u64 m (IntKind.u64.wrap (m * 8192))))).drew from rfl] at hst
  generalize ((W0).setCell ⟨g, 2, none⟩ (.int .u64 (bits .xor .u64 m (IntKind.u64.wrap (m * 8192))))).drew = W1 at *
  generalize bits .xor .u64 m (IntKind.u64.wrap (m * 8192)) = m1 at *
  obtain ⟨m1a, m1b⟩ := hbb
  obtain ⟨c0, c1, c2, c3, hf, hgl⟩ := cells4 hst.src
  have HST := Lib.hid hst; clear hst
  go_still_tail 13, (by kernel_rfl)
  change wpList _ _ _ _ _ (W1).drew
  go_wp2
  have hst := HST.out.mix (bits .xor .u64 m1 (m1 / 128)) 1
  have hbb := u64_bits_le .xor m1 (m1 / 128)
  clear HST c0 c1 c2 c3 hf hgl
  rw [show ((W1).setCell ⟨g, 2, none⟩ (.int .u64 (bits .xor .u64 m1 (m1 / 128)))).drewN 1 = ((W1).setCell ⟨g, 2, none⟩ (.int .u64 (bits .xor .u64 m1 (m1 / 128)))).drew from rfl] at hst
  generalize ((W1).setCell ⟨g, 2, none⟩ (.int .u64 (bits .xor .u64 m1 (m1 / 128)))).drew = W2 at *
  generalize bits .xor .u64 m1 (m1 / 128) = m2 at *
  obtain ⟨m2a, m2b⟩ := hbb
  obtain ⟨c0, c1, c2, c3, hf, hgl⟩ := cells4 hst.src
  have HST := Lib.hid hst; clear hst
  go_still_tail 13, (by kernel_rfl)
  change wpList _ _ _ _ _ (W2).drew
  go_wp2
  have hst := HST.out.mix (bits .xor .u64 m2 (IntKind.u64.wrap (m2 * 131072))) 1
  have hbb := u64_bits_le .xor m2 (IntKind.u64.wrap (m2 * 131072))
  clear HST c0 c1 c2 c3 hf hgl
  rw [show ((W2).setCell ⟨g, 2, none⟩ (.int .u64 (bits .xor .u64 m2 (IntKind.u64.wrap (m2 * 131072))))).drewN 1 = ((W2).setCell ⟨g, 2, none⟩ (.int .u64 (bits .xor .u64 m2 (IntKind.u64.wrap (m2 * 131072))))).drew from rfl] at hst
  generalize ((W2).setCell ⟨g, 2, none⟩ (.int .u64 (bits .xor .u64 m2 (IntKind.u64.wrap (m2 * 131072))))).drew = W3 at *
  generalize bits .xor .u64 m2 (IntKind.u64.wrap (m2 * 131072)) = m3 at *
  obtain ⟨m3a, m3b⟩ := hbb
  go_ret
  exact NPost.of _ h1' hm (hst.done (by omega) (by omega) (by omega) (by omega) hz0 hz1)
end Go.Proofs.Ythilmonokhdjmaa
