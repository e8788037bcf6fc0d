import Derived.Test.YtdnpaopbicdolaaGreatB1
import Derived.StillTailTactics
import Derived.Deep.QuietTactic
import Derived.BigQuiet
import Derived.Handy
import Derived.Outline
import Derived.Test.YtdnpaopbicdolaaGreatB4
import Derived.Test.YtdnpaopbicdolaaGreatB3
import Derived.Deep.CutRange
/- The source of draws: what each of its methods hands back, and what it leaves. -/
namespace Go.Proofs.YtdnpaopbicdolaaGreat
open Go.RowKit

/- a slice of bytes that came in: each place up to its length holds a byte -/
def BytesAt (w : World) (a : Option Addr) (len : Nat) : Prop :=
  len = 0 ∨ ∃ b off, a = some ⟨b, off, none⟩ ∧ ∀ i, i < len → ∃ z : Int, 0 ≤ z ∧ z ≤ 255 ∧ w.cell? ⟨b, off + i, none⟩ = some (.int .u8 z)
/- the source lies in block g, over the bytes at a -/
def SrcAt (w : World) (g : Nat) (a : Option Addr) (len cap : Nat) : Prop :=
  ∃ p m z : Int, 0 ≤ p ∧ p ≤ len ∧ 0 ≤ m ∧ m ≤ 18446744073709551615 ∧ 0 ≤ z ∧ z ≤ 12 ∧
    w.heap[g]? = some (.cells #[.slice a len cap, .int .i64 p, .int .u64 m, .int .i64 z] 77 (0, 0))

theorem cells4 {w : World} {g : Nat} {x0 x1 x2 x3 : Value} {t : TypeId} (h : w.heap[g]? = some (.cells #[x0, x1, x2, x3] t (0, 0))) :
    w.cell? ⟨g, 0, none⟩ = some x0 ∧ w.cell? ⟨g, 1, none⟩ = some x1 ∧ w.cell? ⟨g, 2, none⟩ = some x2 ∧ w.cell? ⟨g, 3, none⟩ = some x3 ∧ (∀ o, w.frozen? ⟨g, o, none⟩ = false) ∧ g < w.heap.size := by
  refine ⟨by simp [World.cell?, h], by simp [World.cell?, h], by simp [World.cell?, h], by simp [World.cell?, h], fun o => by simp [World.frozen?, h], ?_⟩
  rcases Nat.lt_or_ge g w.heap.size with hl | hl
  · exact hl
  · rw [Array.getElem?_eq_none hl] at h; cases h

theorem u64_bits_le (op : BinOp) (x y : Int) : 0 ≤ bits op .u64 x y ∧ bits op .u64 x y ≤ 18446744073709551615 := by
  unfold bits; simp only [IntKind.wrap_u64]; omega
/- w has become W: nothing but block g has turned, and block g holds this source -/
structure Step (w W : World) (g : Nat) (a : Option Addr) (len cap : Nat) (p m z : Int) : Prop where
  grown : w.grownBy W (some g)
  size : W.heap.size = w.heap.size
  src : W.heap[g]? = some (.cells #[.slice a len cap, .int .i64 p, .int .u64 m, .int .i64 z] 77 (0, 0))
theorem Step.start {w : World} {g : Nat} {a : Option Addr} {len cap : Nat} {p m z : Int} (n : Nat) (h : w.heap[g]? = some (.cells #[.slice a len cap, .int .i64 p, .int .u64 m, .int .i64 z] 77 (0, 0))) : Step w (w.drewN n) g a len cap p m z :=
  ⟨⟨rfl, rfl, rfl, Nat.le_refl _, fun _ _ _ => rfl⟩, rfl, h⟩
theorem grown_setCell {w W : World} {g i : Nat} {v : Value} (h : w.grownBy W (some g)) : w.grownBy (W.setCell ⟨g, i, none⟩ v) (some g) := by
  have k := Lib.grownBy_setCell W g i v
  refine ⟨k.os.trans h.os, k.tape.trans h.tape, k.output.trans h.output, Nat.le_trans h.size k.size, fun b hb hne => (k.block b (Nat.lt_of_lt_of_le hb h.size) hne).trans (h.block b hb hne)⟩
theorem Step.mix {w W : World} {g : Nat} {a : Option Addr} {len cap : Nat} {p m z : Int} (h : Step w W g a len cap p m z) (m' : Int) (n : Nat) : Step w ((W.setCell ⟨g, 2, none⟩ (.int .u64 m')).drewN n) g a len cap p m' z :=
  have k := grown_setCell (i := 2) (v := .int .u64 m') h.grown
  ⟨⟨k.os, k.tape, k.output, k.size, k.block⟩, by show (W.setCell _ _).heap.size = _; rw [World.size_setCell]; exact h.size, heap_setCell_same W g 2 _ _ _ h.src⟩
theorem Step.move {w W : World} {g : Nat} {a : Option Addr} {len cap : Nat} {p m z : Int} (h : Step w W g a len cap p m z) (p' : Int) (n : Nat) : Step w ((W.drewN n).setCell ⟨g, 1, none⟩ (.int .i64 p')) g a len cap p' m z := by
  have hg : w.grownBy (W.drewN n) (some g) := ⟨h.grown.os, h.grown.tape, h.grown.output, h.grown.size, h.grown.block⟩
  exact ⟨grown_setCell hg, by rw [World.size_setCell]; exact h.size, heap_setCell_same (W.drewN n) g 1 _ _ _ h.src⟩
theorem Step.done {w W : World} {g : Nat} {a : Option Addr} {len cap : Nat} {p m z : Int} (h : Step w W g a len cap p m z) (hp0 : 0 ≤ p) (hp1 : p ≤ len) (hm0 : 0 ≤ m) (hm1 : m ≤ 18446744073709551615) (hz0 : 0 ≤ z) (hz1 : z ≤ 12) : SrcAt W g a len cap ∧ w.grownBy W (some g) ∧ W.heap.size = w.heap.size :=
  ⟨⟨p, m, z, hp0, hp1, hm0, hm1, hz0, hz1, h.src⟩, h.grown, h.size⟩
def NPost (most : Int) (g : Nat) (a : Option Addr) (len cap : Nat) (w : World) (e : Ending) (w' : World) : Prop :=
  ∃ r : Int, e = .returned (.int .i64 r) ∧ 0 ≤ r ∧ (1 < most → r < most) ∧ (most ≤ 1 → r = 0) ∧ SrcAt w' g a len cap ∧ w.grownBy w' (some g) ∧ w'.heap.size = w.heap.size
theorem NPost.of {most : Int} {g : Nat} {a : Option Addr} {len cap : Nat} {w w' : World} (y : Int) (h1 : 1 < most) (hm : most ≤ 9223372036854775807)
    (h : SrcAt w' g a len cap ∧ w.grownBy w' (some g) ∧ w'.heap.size = w.heap.size) : NPost most g a len cap w (.returned (.int .i64 (wrap64 ((IntKind.u64.wrap y).tmod most)))) w' := by
  have hx : 0 ≤ IntKind.u64.wrap y := by rw [IntKind.wrap_u64]; omega
  rw [Int.tmod_eq_emod_of_nonneg hx]
  have e1 := Int.emod_nonneg (IntKind.u64.wrap y) (b := most) (by omega)
  have e2 := Int.emod_lt_of_pos (IntKind.u64.wrap y) (b := most) (by omega)
  rw [IntWalk.wrap64_in _ (by omega)]
  exact ⟨_, rfl, by omega, fun _ => by omega, fun _ => by omega, h⟩

set_option maxRecDepth 100000 in
set_option maxHeartbeats 2000000 in
theorem n_any (most : Int) (g len cap : Nat) (a : Option Addr) (w : World) (hm : most ≤ 9223372036854775807) (hlen : len ≤ 1048576) (hb : BytesAt w a len) (hs : SrcAt w g a len cap) :
    Calls Tryz.prog 32 #[.pointer (some ⟨g, 0, none⟩), .int .i64 most] w (NPost most g a len cap w) := by
  by_cases h1 : most ≤ 1
  · go_enter Tryz.func32, Tryz.ntmps32
    go_wp2
    go_ret
    exact ⟨0, rfl, by omega, by omega, fun _ => rfl, hs, ⟨rfl, rfl, rfl, Nat.le_refl _, fun _ _ _ => rfl⟩, rfl⟩
  obtain ⟨p, m, z, hp0, hp1, hm0, hm1, hz0, hz1, hh⟩ := hs
  obtain ⟨c0, c1, c2, c3, hf, hgl⟩ := cells4 hh
  have HH := Lib.hid hh; clear hh
  have HB := Lib.hid hb; clear hb
  have h1' : 1 < most := by omega
  have hmz : ¬ most = 0 := by omega
  clear h1
  by_cases hlt : p < len
  case neg =>
    go_enter Tryz.func32, Tryz.ntmps32
    go_wp2
    go_quiet (fail)
    go_wp2
    have hst := Step.start nq HH.out
    clear c0 c1 c2 c3 hf hgl
    generalize w.drewN nq = W at *
    obtain ⟨c0, c1, c2, c3, hf, hgl⟩ := cells4 hst.src
    have HST := Lib.hid hst; clear hst
    go_still_tail 13, (by kernel_rfl)
    change wpList _ _ _ _ _ (W).drew
    go_wp2
    have hst := HST.out.mix (bits .xor .u64 m (IntKind.u64.wrap (m * 8192))) 1
    have hbb := u64_bits_le .xor m (IntKind.u64.wrap (m * 8192))
    clear HST c0 c1 c2 c3 hf hgl
    rw [show ((W).setCell ⟨g, 2, none⟩ (.int .u64 (bits .xor .u64 m (IntKind.u64.wrap (m * 8192))))).drewN 1 = ((W).setCell ⟨g, 2, none⟩ (.int .u64 (bits .xor .u64 m (IntKind.u64.wrap (m * 8192))))).drew from rfl] at hst
    generalize ((W).setCell ⟨g, 2, none⟩ (.int .u64 (bits .xor .u64 m (IntKind.u64.wrap (m * 8192))))).drew = W1 at *
    generalize bits .xor .u64 m (IntKind.u64.wrap (m * 8192)) = m1 at *
    obtain ⟨m1a, m1b⟩ := hbb
    obtain ⟨c0, c1, c2, c3, hf, hgl⟩ := cells4 hst.src
    have HST := Lib.hid hst; clear hst
    go_still_tail 13, (by kernel_rfl)
    change wpList _ _ _ _ _ (W1).drew
    go_wp2
    have hst := HST.out.mix (bits .xor .u64 m1 (m1 / 128)) 1
    have hbb := u64_bits_le .xor m1 (m1 / 128)
    clear HST c0 c1 c2 c3 hf hgl
    rw [show ((W1).setCell ⟨g, 2, none⟩ (.int .u64 (bits .xor .u64 m1 (m1 / 128)))).drewN 1 = ((W1).setCell ⟨g, 2, none⟩ (.int .u64 (bits .xor .u64 m1 (m1 / 128)))).drew from rfl] at hst
    generalize ((W1).setCell ⟨g, 2, none⟩ (.int .u64 (bits .xor .u64 m1 (m1 / 128)))).drew = W2 at *
    generalize bits .xor .u64 m1 (m1 / 128) = m2 at *
    obtain ⟨m2a, m2b⟩ := hbb
    obtain ⟨c0, c1, c2, c3, hf, hgl⟩ := cells4 hst.src
    have HST := Lib.hid hst; clear hst
    go_still_tail 13, (by kernel_rfl)
    change wpList _ _ _ _ _ (W2).drew
    go_wp2
    have hst := HST.out.mix (bits .xor .u64 m2 (IntKind.u64.wrap (m2 * 131072))) 1
    have hbb := u64_bits_le .xor m2 (IntKind.u64.wrap (m2 * 131072))
    clear HST c0 c1 c2 c3 hf hgl
    rw [show ((W2).setCell ⟨g, 2, none⟩ (.int .u64 (bits .xor .u64 m2 (IntKind.u64.wrap (m2 * 131072))))).drewN 1 = ((W2).setCell ⟨g, 2, none⟩ (.int .u64 (bits .xor .u64 m2 (IntKind.u64.wrap (m2 * 131072))))).drew from rfl] at hst
    generalize ((W2).setCell ⟨g, 2, none⟩ (.int .u64 (bits .xor .u64 m2 (IntKind.u64.wrap (m2 * 131072))))).drew = W3 at *
    generalize bits .xor .u64 m2 (IntKind.u64.wrap (m2 * 131072)) = m3 at *
    obtain ⟨m3a, m3b⟩ := hbb
    go_ret
    exact NPost.of _ h1' hm (hst.done hp0 hp1 (by omega) (by omega) hz0 hz1)
  obtain ⟨b, off, rfl, hby⟩ : ∃ b off, a = some ⟨b, off, none⟩ ∧ ∀ i, i < len → ∃ z : Int, 0 ≤ z ∧ z ≤ 255 ∧ w.cell? ⟨b, off + i, none⟩ = some (.int .u8 z) := by
    rcases HB.out with h | h
    · omega
    · exact h
  obtain ⟨v, hv0, hv1, hvc⟩ := hby p.toNat (by omega)
  clear hby HB
  go_enter Tryz.func32, Tryz.ntmps32
  go_wp2
  go_quiet (fail)
  go_wp2
  have hst := Step.start nq HH.out
  have hvc' : (w.drewN nq).cell? ⟨b, off + p.toNat, none⟩ = some (.int .u8 v) := hvc
  clear c0 c1 c2 c3 hf hgl hvc
  generalize w.drewN nq = W at *
  obtain ⟨c0, c1, c2, c3, hf, hgl⟩ := cells4 hst.src
  have HST := Lib.hid hst; clear hst
  go_quiet (fail)
  go_wp2
  have hst := HST.out.move (p + 1) nq
  clear HST c0 c1 c2 c3 hf hgl hvc'
  generalize (W.drewN nq).setCell ⟨g, 1, none⟩ (.int .i64 (p + 1)) = W0 at *
  obtain ⟨c0, c1, c2, c3, hf, hgl⟩ := cells4 hst.src
  have HST := Lib.hid hst; clear hst
  go_still_tail 13, (by kernel_rfl)
  change wpList _ _ _ _ _ (W0).drew
  go_wp2
  have hst := HST.out.mix (bits .xor .u64 m (IntKind.u64.wrap (m * 8192))) 1
  have hbb := u64_bits_le .xor m (IntKind.u64.wrap (m * 8192))
  clear HST c0 c1 c2 c3 hf hgl
  rw [show ((W0).setCell ⟨g, 2, none⟩ (.int .u64 (bits .xor .u64 m (IntKind.u64.wrap (m * 8192))))).drewN 1 = ((W0).setCell ⟨g, 2, none⟩ (.int .u64 (bits .xor .u64 m (IntKind.u64.wrap (m * 8192))))).drew from rfl] at hst
  generalize ((W0).setCell ⟨g, 2, none⟩ (.int .u64 (bits .xor .u64 m (IntKind.u64.wrap (m * 8192))))).drew = W1 at *
  generalize bits .xor .u64 m (IntKind.u64.wrap (m * 8192)) = m1 at *
  obtain ⟨m1a, m1b⟩ := hbb
  obtain ⟨c0, c1, c2, c3, hf, hgl⟩ := cells4 hst.src
  have HST := Lib.hid hst; clear hst
  go_still_tail 13, (by kernel_rfl)
  change wpList _ _ _ _ _ (W1).drew
  go_wp2
  have hst := HST.out.mix (bits .xor .u64 m1 (m1 / 128)) 1
  have hbb := u64_bits_le .xor m1 (m1 / 128)
  clear HST c0 c1 c2 c3 hf hgl
  rw [show ((W1).setCell ⟨g, 2, none⟩ (.int .u64 (bits .xor .u64 m1 (m1 / 128)))).drewN 1 = ((W1).setCell ⟨g, 2, none⟩ (.int .u64 (bits .xor .u64 m1 (m1 / 128)))).drew from rfl] at hst
  generalize ((W1).setCell ⟨g, 2, none⟩ (.int .u64 (bits .xor .u64 m1 (m1 / 128)))).drew = W2 at *
  generalize bits .xor .u64 m1 (m1 / 128) = m2 at *
  obtain ⟨m2a, m2b⟩ := hbb
  obtain ⟨c0, c1, c2, c3, hf, hgl⟩ := cells4 hst.src
  have HST := Lib.hid hst; clear hst
  go_still_tail 13, (by kernel_rfl)
  change wpList _ _ _ _ _ (W2).drew
  go_wp2
  have hst := HST.out.mix (bits .xor .u64 m2 (IntKind.u64.wrap (m2 * 131072))) 1
  have hbb := u64_bits_le .xor m2 (IntKind.u64.wrap (m2 * 131072))
  clear HST c0 c1 c2 c3 hf hgl
  rw [show ((W2).setCell ⟨g, 2, none⟩ (.int .u64 (bits .xor .u64 m2 (IntKind.u64.wrap (m2 * 131072))))).drewN 1 = ((W2).setCell ⟨g, 2, none⟩ (.int .u64 (bits .xor .u64 m2 (IntKind.u64.wrap (m2 * 131072))))).drew from rfl] at hst
  generalize ((W2).setCell ⟨g, 2, none⟩ (.int .u64 (bits .xor .u64 m2 (IntKind.u64.wrap (m2 * 131072))))).drew = W3 at *
  generalize bits .xor .u64 m2 (IntKind.u64.wrap (m2 * 131072)) = m3 at *
  obtain ⟨m3a, m3b⟩ := hbb
  go_ret
  exact NPost.of _ h1' hm (hst.done (by omega) (by omega) (by omega) (by omega) hz0 hz1)
end Go.Proofs.YtdnpaopbicdolaaGreat

/- The source of draws: made, asked once, asked for bytes. -/
namespace Go.Proofs.YtdnpaopbicdolaaGreat
open Go.RowKit

/- the source, the bytes under it, and that the two lie apart -/
structure Src (w : World) (g : Nat) (a : Option Addr) (len cap : Nat) : Prop where
  small : len ≤ 1048576
  bytes : BytesAt w a len
  src : SrcAt w g a len cap
  apart : ∀ b off, 0 < len → a = some ⟨b, off, none⟩ → b ≠ g
theorem BytesAt.kept {w w' : World} {a : Option Addr} {len g : Nat} (h : BytesAt w a len) (hg : w.grownBy w' (some g)) (hne : ∀ b off, 0 < len → a = some ⟨b, off, none⟩ → b ≠ g) : BytesAt w' a len := by
  rcases h with h | ⟨b, off, rfl, h⟩
  · exact .inl h
  · refine .inr ⟨b, off, rfl, fun i hi => ?_⟩
    obtain ⟨z, h0, h1, hc⟩ := h i hi
    exact ⟨z, h0, h1, hg.cell hc (by simpa using hne b off (by omega) rfl)⟩
theorem Src.kept {w w' : World} {g : Nat} {a : Option Addr} {len cap : Nat} (h : Src w g a len cap) (hs : SrcAt w' g a len cap) (hg : w.grownBy w' (some g)) : Src w' g a len cap :=
  ⟨h.small, h.bytes.kept hg h.apart, hs, h.apart⟩
theorem SrcAt.lt {w : World} {g : Nat} {a : Option Addr} {len cap : Nat} (h : SrcAt w g a len cap) : g < w.heap.size := by
  obtain ⟨p, m, z, _, _, _, _, _, _, hh⟩ := h
  exact (cells4 hh).2.2.2.2.2
theorem grown_trans {w w1 w2 : World} {g : Nat} {row : Option Nat} (h1 : w.grownBy w1 (some g)) (h2 : w1.grownBy w2 row) (hr : ∀ k, row = some k → k = g ∨ w.heap.size ≤ k) : w.grownBy w2 (some g) := by
  refine ⟨h2.os.trans h1.os, h2.tape.trans h1.tape, h2.output.trans h1.output, Nat.le_trans h1.size h2.size, fun k hk hne => ?_⟩
  refine (h2.block k (Nat.lt_of_lt_of_le hk h1.size) (fun e => ?_)).trans (h1.block k hk hne)
  rcases hr k e.symm with e' | e'
  · exact hne (by rw [e'])
  · omega
theorem grown_refl (w : World) (row : Option Nat) : w.grownBy w row := ⟨rfl, rfl, rfl, Nat.le_refl _, fun _ _ _ => rfl⟩
theorem grown_alloc (w : World) (o : Obj) (row : Option Nat) : w.grownBy (w.alloc o) row := ⟨rfl, rfl, rfl, by simp, fun k hk _ => Below.heap_alloc w o k hk⟩
theorem SrcAt.alloc {w : World} {g : Nat} {a : Option Addr} {len cap : Nat} (h : SrcAt w g a len cap) (o : Obj) : SrcAt (w.alloc o) g a len cap := by
  have hl := h.lt
  obtain ⟨p, m, z, h0, h1, h2, h3, h4, h5, hh⟩ := h
  exact ⟨p, m, z, h0, h1, h2, h3, h4, h5, (Below.heap_alloc w o g hl).trans hh⟩
theorem SrcAt.grown {w w' : World} {g : Nat} {a : Option Addr} {len cap : Nat} {row : Option Nat} (h : SrcAt w g a len cap) (hg : w.grownBy w' row) (hne : row ≠ some g) : SrcAt w' g a len cap := by
  have hl := h.lt
  obtain ⟨p, m, z, h0, h1, h2, h3, h4, h5, hh⟩ := h
  exact ⟨p, m, z, h0, h1, h2, h3, h4, h5, (hg.block g hl (fun e => hne e.symm)).trans hh⟩

/- what a draw leaves: the source as a source, and nothing old but it has turned -/
def Drawn (g : Nat) (a : Option Addr) (len cap : Nat) (w w' : World) : Prop := Src w' g a len cap ∧ w.grownBy w' (some g)
theorem Drawn.trans {g : Nat} {a : Option Addr} {len cap : Nat} {w w1 w2 : World} (h1 : Drawn g a len cap w w1) (h2 : Drawn g a len cap w1 w2) : Drawn g a len cap w w2 :=
  ⟨h2.1, grown_trans h1.2 h2.2 (fun k hk => .inl (by simpa using hk.symm))⟩

def IntPost (P : Int → Prop) (g : Nat) (a : Option Addr) (len cap : Nat) (w : World) (e : Ending) (w' : World) : Prop := ∃ r : Int, e = .returned (.int .i64 r) ∧ P r ∧ Drawn g a len cap w w'
def BoolPost (g : Nat) (a : Option Addr) (len cap : Nat) (w : World) (e : Ending) (w' : World) : Prop := ∃ r : Bool, e = .returned (.bool r) ∧ Drawn g a len cap w w'
def TextPost (P : List UInt8 → Prop) (g : Nat) (a : Option Addr) (len cap : Nat) (w : World) (e : Ending) (w' : World) : Prop := ∃ l : List UInt8, e = .returned (.string (strOf l)) ∧ P l ∧ Drawn g a len cap w w'

theorem draw_n (most : Int) {g len cap : Nat} {a : Option Addr} {w : World} (hm : 1 < most) (hm' : most ≤ 9223372036854775807) (h : Src w g a len cap) :
    Calls Tryz.prog 32 #[.pointer (some ⟨g, 0, none⟩), .int .i64 most] w (IntPost (fun r => 0 ≤ r ∧ r < most) g a len cap w) :=
  (n_any most g len cap a w hm' h.small h.bytes h.src).mono fun _ _ ⟨r, he, h0, h1, _, hs, hg, _⟩ => ⟨r, he, ⟨h0, h1 hm⟩, h.kept hs hg, hg⟩

set_option maxHeartbeats 1000000 in
theorem draw_one (of : Int) {g len cap : Nat} {a : Option Addr} {w : World} (hm : 1 < of) (hm' : of ≤ 9223372036854775807) (h : Src w g a len cap) :
    Calls Tryz.prog 31 #[.pointer (some ⟨g, 0, none⟩), .int .i64 of] w (BoolPost g a len cap w) := by
  have HN := Lib.hid (draw_n of hm hm' h)
  go_enter Tryz.func31, Tryz.ntmps31
  go_wp2_with (go_at_call 32; refine HN.out.mono ?_; rintro e w1 ⟨r, rfl, hr, hd⟩)
  go_ret
  exact ⟨_, rfl, hd⟩

theorem own_neD {w wr : World} {e : TypeId} {v : Value} {n : Nat} {xs : List Value} {g : Nat} (h : wr.ownsRow w.heap.size e 1 v n xs) (hg : g < w.heap.size) : v.ownBlock ≠ some g := by
  intro he; have := (h.lt g he).1; omega
theorem draw_app {w w1 w2 : World} {g : Nat} {a : Option Addr} {len cap : Nat} {e : TypeId} {v v' x : Value} {pre : List UInt8} {c : UInt8} {o : Obj} (h : Src w g a len cap) (hd : Drawn g a len cap w w1)
    (hown : w1.ownsRow w.heap.size e 1 v pre.length (pre.map byteV)) (h1 : w2.ownsRow w.heap.size e 1 v' (pre.length + 1) (pre.map byteV ++ [x])) (hg : (w1.alloc o).grownBy w2 v.ownBlock) (hx : x = byteV c) :
    w2.ownsRow w.heap.size e 1 v' (pre ++ [c]).length ((pre ++ [c]).map byteV) ∧ Drawn g a len cap w w2 := by
  have hgl := h.src.lt
  refine ⟨by rw [List.length_append, List.map_append]; subst hx; exact h1, ?_⟩
  have k1 : w.grownBy (w1.alloc o) (some g) := grown_trans hd.2 (grown_alloc w1 o none) (fun k hk => by cases hk)
  have k2 : w.grownBy w2 (some g) := grown_trans k1 hg (fun k hk => .inr (hown.lt k hk).1)
  exact ⟨⟨h.small, h.bytes.kept k2 h.apart, (hd.1.src.alloc o).grown hg (own_neD hown hgl), h.apart⟩, k2⟩

end Go.Proofs.YtdnpaopbicdolaaGreat

/- The source of draws: how it is made; a number at some limit. -/
namespace Go.Proofs.YtdnpaopbicdolaaGreat
open Go.RowKit

structure SrcMade (g : Nat) (a : Option Addr) (len cap : Nat) (w w' : World) (m z : Int) : Prop where
  below : Below w.heap.size w w'
  lo : 0 ≤ m
  hi : m ≤ 18446744073709551615
  src : w'.heap[g]? = some (.cells #[.slice a len cap, .int .i64 0, .int .u64 m, .int .i64 z] 77 (0, 0))
theorem BytesAt.below {w w' : World} {a : Option Addr} {len : Nat} (h : BytesAt w a len) (hb : Below w.heap.size w w') : BytesAt w' a len := by
  rcases h with h | ⟨b, off, rfl, h⟩
  · exact .inl h
  · refine .inr ⟨b, off, rfl, fun i hi => ?_⟩
    obtain ⟨z, h0, h1, hc⟩ := h i hi
    exact ⟨z, h0, h1, (hb.cell (World.block_lt_of_cell? w _ hc)).trans hc⟩
def SrcPost (a : Option Addr) (len cap : Nat) (w : World) (e : Ending) (w' : World) : Prop := ∃ g : Nat, e = .returned (.pointer (some ⟨g, 0, none⟩)) ∧ w.heap.size ≤ g ∧ Src w' g a len cap ∧ Below w.heap.size w w'

theorem wrap_u64_le (x : Int) : 0 ≤ IntKind.u64.wrap x ∧ IntKind.u64.wrap x ≤ 18446744073709551615 := by rw [IntKind.wrap_u64]; omega
theorem SrcMade.step {a : Option Addr} {len cap : Nat} {w w' : World} {m z : Int} (h : SrcMade w.heap.size a len cap w w' m z) (m' : Int) (h0 : 0 ≤ m') (h1 : m' ≤ 18446744073709551615) : SrcMade w.heap.size a len cap w (w'.setCell ⟨w.heap.size, 2, none⟩ (.int .u64 m')).drew m' z :=
  ⟨(h.below.setCell (Nat.le_refl _) _).drew, h0, h1, heap_setCell_same w' w.heap.size 2 _ _ _ h.src⟩
theorem SrcMade.sized {a : Option Addr} {len cap : Nat} {w w' : World} {m z : Int} (h : SrcMade w.heap.size a len cap w w' m z) (z' : Int) : SrcMade w.heap.size a len cap w (w'.setCell ⟨w.heap.size, 3, none⟩ (.int .i64 z')) m z' :=
  ⟨h.below.setCell (Nat.le_refl _) _, h.lo, h.hi, heap_setCell_same w' w.heap.size 3 _ _ _ h.src⟩
theorem SrcMade.post {a : Option Addr} {len cap : Nat} {w w' : World} {m z : Int} (h : SrcMade w.heap.size a len cap w w' m z) (hl : len ≤ 1048576) (hb : BytesAt w a len) (h0 : 0 ≤ z) (h1 : z ≤ 12) :
    SrcPost a len cap w (.returned (.pointer (some ⟨w.heap.size, 0, none⟩))) w' := by
  refine ⟨w.heap.size, rfl, Nat.le_refl _, ⟨hl, hb.below h.below, ⟨0, m, z, by omega, by omega, h.lo, h.hi, h0, h1, h.src⟩, fun b off h0 e => ?_⟩, h.below⟩
  rcases hb with hb | ⟨b', off', e', hb⟩
  · omega
  · rw [e'] at e
    cases e
    obtain ⟨_, _, _, hc⟩ := hb 0 h0
    have := World.block_lt_of_cell? w _ hc
    simp at this; omega

set_option maxRecDepth 100000 in
set_option maxHeartbeats 2000000 in
theorem draw_source {len cap : Nat} {a : Option Addr} {w : World} (hl : len ≤ 1048576) (hb : BytesAt w a len) :
    Calls Tryz.prog 28 #[.slice a len cap] w (SrcPost a len cap w) := by
  have HB := Lib.hid hb; clear hb
  go_enter Tryz.func28, Tryz.ntmps28
  go_wp2
  go_loopw [4] (fun i wr => ∃ (k : Nat) (m : Int), k ≤ len ∧ i = .int .i64 k ∧ Hid (SrcMade w.heap.size a len cap w wr m 0)) (fun i _ => len - (intOf i).toNat)
  case atStart => exact ⟨0, 88172645463325252, by omega, rfl, Lib.hid ⟨(Below.refl _ _).alloc (Nat.le_refl _) _, by omega, by omega, heap_alloc_new w _⟩⟩
  case round =>
    obtain ⟨k, m, hk, rfl, HM⟩ := hrel
    obtain ⟨c0, c1, c2, c3, hf, hgl⟩ := cells4 HM.out.src
    have hm0 := HM.out.lo
    have hm1 := HM.out.hi
    by_cases hlt : k < len ∧ k < 64
    · obtain ⟨hk1, hk2⟩ := hlt
      obtain ⟨b, off, rfl, hby⟩ : ∃ b off, a = some ⟨b, off, none⟩ ∧ ∀ i, i < len → ∃ z : Int, 0 ≤ z ∧ z ≤ 255 ∧ wr.cell? ⟨b, off + i, none⟩ = some (.int .u8 z) := by
        rcases HB.out.below HM.out.below with h | h
        · omega
        · exact h
      obtain ⟨v, hv0, hv1, hvc⟩ := hby k hk1
      clear hby
      have bk : decide (k < len) = true := by simp; omega
      go_wp2
      go_still_tail 14, (by kernel_rfl)
      change wpList _ _ _ _ _ wr.drew
      go_wp2
      go_roundw
      case rel => exact ⟨k + 1, _, by omega, by go_num, Lib.hid (HM.out.step _ (wrap_u64_le _).1 (wrap_u64_le _).2)⟩
      case measure => simp [intOf]; omega
    · have hcase : (¬ k < len) ∨ (k < len ∧ ¬ k < 64) := by omega
      clear hlt
      have hlen0 : (0 : Int) ≤ (len : Int) / 20 := by omega
      rcases hcase with h | ⟨h, h'⟩
      all_goals
        try (have bk : decide (k < len) = true := by simp; omega)
        try (have bk : decide (k < len) = false := by simp; omega)
        by_cases h12 : (12 : Int) < (len : Int) / 20
        · go_wp2
          go_ret
          exact ((HM.out.sized _).sized 12).post hl HB.out (by omega) (by omega)
        · go_wp2
          go_ret
          exact (HM.out.sized ((len : Int) / 20)).post hl HB.out (by omega) (by omega)

def edges : List Int := [0, 1, -1, 2, 1000, 1001, 2147483648, 2147483647, -2147483648, 4611686018427387904, 9223372036854775807, -9223372036854775808, 1000000, 1000001]
theorem edges_in (i : Nat) (h : i < 14) : -9223372036854775808 ≤ edges.getD i 0 ∧ edges.getD i 0 ≤ 9223372036854775807 := by
  rcases (by omega : i = 0 ∨ i = 1 ∨ i = 2 ∨ i = 3 ∨ i = 4 ∨ i = 5 ∨ i = 6 ∨ i = 7 ∨ i = 8 ∨ i = 9 ∨ i = 10 ∨ i = 11 ∨ i = 12 ∨ i = 13) with h | h | h | h | h | h | h | h | h | h | h | h | h | h <;> subst h <;> decide
theorem edge_cell (w : World) (i : Nat) (h : i < 14) : (w.alloc (.cells #[.int .i64 0, .int .i64 1, .int .i64 (-1), .int .i64 2, .int .i64 1000, .int .i64 1001, .int .i64 2147483648, .int .i64 2147483647, .int .i64 (-2147483648), .int .i64 4611686018427387904, .int .i64 9223372036854775807, .int .i64 (-9223372036854775808), .int .i64 1000000, .int .i64 1000001] 2)).cell? ⟨w.heap.size, i, none⟩ = some (.int .i64 (edges.getD i 0)) := by
  rcases (by omega : i = 0 ∨ i = 1 ∨ i = 2 ∨ i = 3 ∨ i = 4 ∨ i = 5 ∨ i = 6 ∨ i = 7 ∨ i = 8 ∨ i = 9 ∨ i = 10 ∨ i = 11 ∨ i = 12 ∨ i = 13) with h | h | h | h | h | h | h | h | h | h | h | h | h | h <;> subst h <;> simp [edges]
end Go.Proofs.YtdnpaopbicdolaaGreat

/- Draws of chapter 3: a MAC address, an IP address, a VNI. -/
namespace Go.Proofs.YtdnpaopbicdolaaGreat
open Go.RowKit

theorem Src.alloc {w : World} {g : Nat} {a : Option Addr} {len cap : Nat} (h : Src w g a len cap) (o : Obj) : Src (w.alloc o) g a len cap := ⟨h.small, h.bytes.kept (grown_alloc _ _ _) h.apart, h.src.alloc _, h.apart⟩
theorem Drawn.alloc {w w' : World} {g : Nat} {a : Option Addr} {len cap : Nat} (h : Drawn g a len cap w w') (o : Obj) : Drawn g a len cap w (w'.alloc o) := ⟨h.1.alloc o, grown_trans h.2 (grown_alloc w' o (some g)) (fun k hk => .inl (by simpa using hk.symm))⟩
abbrev I64 (r : Int) : Prop := -9223372036854775808 ≤ r ∧ r ≤ 9223372036854775807

def macs : List Int := [0, 281474976710655, 1099511627776, 281474976710656, -1, 7]
theorem macs_in (i : Nat) (h : i < 6) : I64 (macs.getD i 0) := by
  rcases (by omega : i = 0 ∨ i = 1 ∨ i = 2 ∨ i = 3 ∨ i = 4 ∨ i = 5) with h | h | h | h | h | h <;> subst h <;> decide
theorem mac_cell (w : World) (i : Nat) (h : i < 6) : (w.alloc (.cells #[.int .i64 0, .int .i64 281474976710655, .int .i64 1099511627776, .int .i64 281474976710656, .int .i64 (-1), .int .i64 7] 2)).cell? ⟨w.heap.size, i, none⟩ = some (.int .i64 (macs.getD i 0)) := by
  rcases (by omega : i = 0 ∨ i = 1 ∨ i = 2 ∨ i = 3 ∨ i = 4 ∨ i = 5) with h | h | h | h | h | h <;> subst h <;> simp [macs]
set_option maxRecDepth 100000 in
set_option maxHeartbeats 2000000 in
theorem draw_mac {g len cap : Nat} {a : Option Addr} {w : World} (h : Src w g a len cap) :
    Calls Tryz.prog 57 #[.pointer (some ⟨g, 0, none⟩)] w (IntPost I64 g a len cap w) := by
  have H := Lib.hid h; clear h
  go_enter Tryz.func57, Tryz.ntmps57
  go_wp2_with fail
  refine (draw_one 12 (by omega) (by omega) H.out).mono ?_
  rintro e w2 ⟨r, rfl, hd⟩
  have HD := Lib.hid hd; clear hd
  cases r
  · go_wp2_with fail
    refine (draw_n 3 (by omega) (by omega) HD.out.1).mono ?_
    rintro e w3 ⟨x, rfl, ⟨hx0, hx1⟩, hd⟩
    have HD3 := Lib.hid (HD.out.trans hd); clear hd
    go_wp2
    go_ret
    exact ⟨_, rfl, ⟨by omega, by omega⟩, HD3.out⟩
  · have hgl := HD.out.1.src.lt
    go_wp2_with (go_at_call 32; refine (draw_n 6 (by omega) (by omega) (HD.out.1.alloc _)).mono ?_; rintro e w3 ⟨r, rfl, ⟨hr0, hr1⟩, hd⟩; have hc := hd.2.cell (mac_cell w2 r.toNat (by omega)) (by simp; omega); have HD3 := Lib.hid hd; clear hd)
    go_ret
    exact ⟨_, rfl, macs_in r.toNat (by omega), HD3.out.1, grown_trans (grown_trans HD.out.2 (grown_alloc w2 _ (some g)) (fun k hk => .inl (by simpa using hk.symm))) HD3.out.2 (fun k hk => .inl (by simpa using hk.symm))⟩

def ips : List Int := [0, 4294967295, 4294967296, -1]
theorem ips_in (i : Nat) (h : i < 4) : I64 (ips.getD i 0) := by
  rcases (by omega : i = 0 ∨ i = 1 ∨ i = 2 ∨ i = 3) with h | h | h | h <;> subst h <;> decide
theorem ip_cell (w : World) (i : Nat) (h : i < 4) : (w.alloc (.cells #[.int .i64 0, .int .i64 4294967295, .int .i64 4294967296, .int .i64 (-1)] 2)).cell? ⟨w.heap.size, i, none⟩ = some (.int .i64 (ips.getD i 0)) := by
  rcases (by omega : i = 0 ∨ i = 1 ∨ i = 2 ∨ i = 3) with h | h | h | h <;> subst h <;> simp [ips]
set_option maxRecDepth 100000 in
set_option maxHeartbeats 2000000 in
theorem draw_ip {g len cap : Nat} {a : Option Addr} {w : World} (h : Src w g a len cap) :
    Calls Tryz.prog 58 #[.pointer (some ⟨g, 0, none⟩)] w (IntPost I64 g a len cap w) := by
  have H := Lib.hid h; clear h
  go_enter Tryz.func58, Tryz.ntmps58
  go_wp2_with fail
  refine (draw_one 15 (by omega) (by omega) H.out).mono ?_
  rintro e w2 ⟨r, rfl, hd⟩
  have HD := Lib.hid hd; clear hd
  cases r
  · go_wp2_with fail
    refine (draw_n 3 (by omega) (by omega) HD.out.1).mono ?_
    rintro e w3 ⟨x, rfl, ⟨hx0, hx1⟩, hd⟩
    have HD3 := Lib.hid (HD.out.trans hd); clear hd
    go_wp2
    go_ret
    exact ⟨_, rfl, ⟨by omega, by omega⟩, HD3.out⟩
  · have hgl := HD.out.1.src.lt
    go_wp2_with (go_at_call 32; refine (draw_n 4 (by omega) (by omega) (HD.out.1.alloc _)).mono ?_; rintro e w3 ⟨r, rfl, ⟨hr0, hr1⟩, hd⟩; have hc := hd.2.cell (ip_cell w2 r.toNat (by omega)) (by simp; omega); have HD3 := Lib.hid hd; clear hd)
    go_ret
    exact ⟨_, rfl, ips_in r.toNat (by omega), HD3.out.1, grown_trans (grown_trans HD.out.2 (grown_alloc w2 _ (some g)) (fun k hk => .inl (by simpa using hk.symm))) HD3.out.2 (fun k hk => .inl (by simpa using hk.symm))⟩

def vnis : List Int := [0, 1, 16777215, 16777216]
theorem vnis_in (i : Nat) (h : i < 4) : I64 (vnis.getD i 0) := by
  rcases (by omega : i = 0 ∨ i = 1 ∨ i = 2 ∨ i = 3) with h | h | h | h <;> subst h <;> decide
theorem vni_cell (w : World) (i : Nat) (h : i < 4) : (w.alloc (.cells #[.int .i64 0, .int .i64 1, .int .i64 16777215, .int .i64 16777216] 2)).cell? ⟨w.heap.size, i, none⟩ = some (.int .i64 (vnis.getD i 0)) := by
  rcases (by omega : i = 0 ∨ i = 1 ∨ i = 2 ∨ i = 3) with h | h | h | h <;> subst h <;> simp [vnis]
set_option maxRecDepth 100000 in
set_option maxHeartbeats 2000000 in
theorem draw_vni {g len cap : Nat} {a : Option Addr} {w : World} (h : Src w g a len cap) :
    Calls Tryz.prog 39 #[.pointer (some ⟨g, 0, none⟩)] w (IntPost I64 g a len cap w) := by
  have H := Lib.hid h; clear h
  go_enter Tryz.func39, Tryz.ntmps39
  go_wp2_with fail
  refine (draw_one 15 (by omega) (by omega) H.out).mono ?_
  rintro e w2 ⟨r, rfl, hd⟩
  have HD := Lib.hid hd; clear hd
  cases r
  · go_wp2_with fail
    refine (draw_n 2 (by omega) (by omega) HD.out.1).mono ?_
    rintro e w3 ⟨x, rfl, ⟨hx0, hx1⟩, hd⟩
    have HD3 := Lib.hid (HD.out.trans hd); clear hd
    go_wp2
    go_ret
    exact ⟨_, rfl, ⟨by omega, by omega⟩, HD3.out⟩
  · have hgl := HD.out.1.src.lt
    go_wp2_with (go_at_call 32; refine (draw_n 4 (by omega) (by omega) (HD.out.1.alloc _)).mono ?_; rintro e w3 ⟨r, rfl, ⟨hr0, hr1⟩, hd⟩; have hc := hd.2.cell (vni_cell w2 r.toNat (by omega)) (by simp; omega); have HD3 := Lib.hid hd; clear hd)
    go_ret
    exact ⟨_, rfl, vnis_in r.toNat (by omega), HD3.out.1, grown_trans (grown_trans HD.out.2 (grown_alloc w2 _ (some g)) (fun k hk => .inl (by simpa using hk.symm))) HD3.out.2 (fun k hk => .inl (by simpa using hk.symm))⟩
end Go.Proofs.YtdnpaopbicdolaaGreat

/- Draws of chapter 3: an ARP message. -/
namespace Go.Proofs.YtdnpaopbicdolaaGreat
open Go.RowKit

theorem gfar {w w' : World} {g B : Nat} (hg : w.grownBy w' (some g)) (hB : B < w.heap.size) (hne : B ≠ g) : (∀ o, w'.cell? ⟨B, o, none⟩ = w.cell? ⟨B, o, none⟩) ∧ (∀ o, w'.frozen? ⟨B, o, none⟩ = w.frozen? ⟨B, o, none⟩) :=
  ⟨fun o => World.cell?_of_block (w := w) (hg.block B hB (by simpa using hne)), fun o => World.frozen?_of_block (w := w) (hg.block B hB (by simpa using hne))⟩
theorem Drawn.set {w w' : World} {g B : Nat} {a : Option Addr} {len cap : Nat} (h : Drawn g a len cap w w') (hs : Src w g a len cap) (hB : w.heap.size ≤ B) (o : Nat) (v : Value) : Drawn g a len cap w (w'.setCell ⟨B, o, none⟩ v) := by
  have k := Lib.grownBy_setCell w' B o v
  have hl := hs.src.lt
  have k2 := grown_trans h.2 k (fun j hj => .inr (by have : B = j := by simpa using hj
                                                     omega))
  exact ⟨⟨hs.small, hs.bytes.kept k2 hs.apart, h.1.src.grown k (by intro e; have : B = g := by simpa using e
                                                                   omega), hs.apart⟩, k2⟩
theorem Drawn.from {w w' : World} {g : Nat} {a : Option Addr} {len cap : Nat} {o : Obj} (h : Drawn g a len cap (w.alloc o) w') : Drawn g a len cap w w' := ⟨h.1, grown_trans (grown_alloc w o (some g)) h.2 (fun k hk => .inl (by simpa using hk.symm))⟩
def ArpPost (g : Nat) (a : Option Addr) (len cap : Nat) (w : World) (e : Ending) (w' : World) : Prop :=
  ∃ op mac ip tm ti : Int, e = .returned (.agg #[.int .i64 op, .int .i64 mac, .int .i64 ip, .int .i64 tm, .int .i64 ti]) ∧ I64 op ∧ I64 mac ∧ I64 ip ∧ I64 tm ∧ I64 ti ∧ Drawn g a len cap w w'
end Go.Proofs.YtdnpaopbicdolaaGreat

/- Draws of chapter 4: a route. -/
namespace Go.Proofs.YtdnpaopbicdolaaGreat
open Go.RowKit

/- the answer's block and the route at work -/
structure DrAt (w W : World) (g : Nat) (a : Option Addr) (len cap B : Nat) (k v m i o q : Int) (t : Bool) : Prop where
  from_ : Src w g a len cap
  drawn : Drawn g a len cap w W
  far : w.heap.size < B
  out : Blk W w.heap.size 25 #[.int .i64 0, .int .i64 0, .int .i64 0, .int .i64 0, .int .i64 0, .int .i64 0, .bool false]
  rt : Blk W B 25 #[.int .i64 k, .int .i64 v, .int .i64 m, .int .i64 i, .int .i64 o, .int .i64 q, .bool t]
section
variable {w W W' : World} {g : Nat} {a : Option Addr} {len cap B : Nat} {k v m i o q : Int} {t : Bool}
theorem DrAt.step (h : DrAt w W g a len cap B k v m i o q t) (hd : Drawn g a len cap W W') : DrAt w W' g a len cap B k v m i o q t := by
  have hl := h.from_.src.lt
  have hf := h.far
  exact ⟨h.from_, h.drawn.trans hd, hf, h.out.grown hd.2 (by intro e; injection e; omega), h.rt.grown hd.2 (by intro e; injection e; omega)⟩
theorem DrAt.alloc (h : DrAt w W g a len cap B k v m i o q t) (ob : Obj) : DrAt w (W.alloc ob) g a len cap B k v m i o q t :=
  ⟨h.from_, h.drawn.alloc ob, h.far, h.out.alloc ob, h.rt.alloc ob⟩
theorem DrAt.set0 (h : DrAt w W g a len cap B k v m i o q t) (z : Int) : DrAt w (W.setCell ⟨B, 0, none⟩ (.int .i64 z)) g a len cap B z v m i o q t := by
  have hf := h.far
  exact ⟨h.from_, h.drawn.set h.from_ (by omega) _ _, hf, h.out.far (by omega), h.rt.set 0 _⟩
theorem DrAt.set1 (h : DrAt w W g a len cap B k v m i o q t) (z : Int) : DrAt w (W.setCell ⟨B, 1, none⟩ (.int .i64 z)) g a len cap B k z m i o q t := by
  have hf := h.far
  exact ⟨h.from_, h.drawn.set h.from_ (by omega) _ _, hf, h.out.far (by omega), h.rt.set 1 _⟩
theorem DrAt.set2 (h : DrAt w W g a len cap B k v m i o q t) (z : Int) : DrAt w (W.setCell ⟨B, 2, none⟩ (.int .i64 z)) g a len cap B k v z i o q t := by
  have hf := h.far
  exact ⟨h.from_, h.drawn.set h.from_ (by omega) _ _, hf, h.out.far (by omega), h.rt.set 2 _⟩
theorem DrAt.set3 (h : DrAt w W g a len cap B k v m i o q t) (z : Int) : DrAt w (W.setCell ⟨B, 3, none⟩ (.int .i64 z)) g a len cap B k v m z o q t := by
  have hf := h.far
  exact ⟨h.from_, h.drawn.set h.from_ (by omega) _ _, hf, h.out.far (by omega), h.rt.set 3 _⟩
theorem DrAt.set4 (h : DrAt w W g a len cap B k v m i o q t) (z : Int) : DrAt w (W.setCell ⟨B, 4, none⟩ (.int .i64 z)) g a len cap B k v m i z q t := by
  have hf := h.far
  exact ⟨h.from_, h.drawn.set h.from_ (by omega) _ _, hf, h.out.far (by omega), h.rt.set 4 _⟩
theorem DrAt.set5 (h : DrAt w W g a len cap B k v m i o q t) (z : Int) : DrAt w (W.setCell ⟨B, 5, none⟩ (.int .i64 z)) g a len cap B k v m i o z t := by
  have hf := h.far
  exact ⟨h.from_, h.drawn.set h.from_ (by omega) _ _, hf, h.out.far (by omega), h.rt.set 5 _⟩
theorem DrAt.set6 (h : DrAt w W g a len cap B k v m i o q t) (z : Bool) : DrAt w (W.setCell ⟨B, 6, none⟩ (.bool z)) g a len cap B k v m i o q z := by
  have hf := h.far
  exact ⟨h.from_, h.drawn.set h.from_ (by omega) _ _, hf, h.out.far (by omega), h.rt.set 6 _⟩
theorem DrAt.put (h : DrAt w W g a len cap B k v m i o q t) (k' v' m' i' o' q' : Int) (t' : Bool) :
    DrAt w (((((((W.setCell ⟨B, 0, none⟩ (.int .i64 k')).setCell ⟨B, 1, none⟩ (.int .i64 v')).setCell ⟨B, 2, none⟩ (.int .i64 m')).setCell ⟨B, 3, none⟩ (.int .i64 i')).setCell ⟨B, 4, none⟩ (.int .i64 o')).setCell ⟨B, 5, none⟩ (.int .i64 q')).setCell ⟨B, 6, none⟩ (.bool t')) g a len cap B k' v' m' i' o' q' t' :=
  ((((((h.set0 k').set1 v').set2 m').set3 i').set4 o').set5 q').set6 t'
end
def RoutePost (g : Nat) (a : Option Addr) (len cap : Nat) (w : World) (e : Ending) (w' : World) : Prop := ∃ r : Rt, e = .returned r.val ∧ Drawn g a len cap w w'
theorem DrAt.start {w w0 : World} {g : Nat} {a : Option Addr} {len cap : Nat} {k v m i o q : Int} {t : Bool} (hs : Src w g a len cap) (hd : Drawn g a len cap (w.alloc (.cells #[.int .i64 0, .int .i64 0, .int .i64 0, .int .i64 0, .int .i64 0, .int .i64 0, .bool false] 25)) w0) :
    DrAt w (w0.alloc (.cells #[.int .i64 k, .int .i64 v, .int .i64 m, .int .i64 i, .int .i64 o, .int .i64 q, .bool t] 25)) g a len cap w0.heap.size k v m i o q t := by
  have hl := hs.src.lt
  have hsz := hd.2.size
  simp at hsz
  exact ⟨hs, hd.from.alloc _, by omega, ((Blk.new w _ _).grown hd.2 (by intro e; injection e; omega)).alloc _, Blk.new _ _ _⟩
theorem three_cell (x y z : Int) (w : World) (j : Nat) (h : j < 3) : (w.alloc (.cells #[.int .i64 x, .int .i64 y, .int .i64 z] 2)).cell? ⟨w.heap.size, j, none⟩ = some (.int .i64 ([x, y, z].getD j 0)) := by
  rcases (by omega : j = 0 ∨ j = 1 ∨ j = 2) with h | h | h <;> subst h <;> simp
set_option maxRecDepth 100000 in
set_option maxHeartbeats 4000000 in
theorem draw_route {g len cap : Nat} {a : Option Addr} {w : World} (h : Src w g a len cap) :
    Calls Tryz.prog 30 #[.pointer (some ⟨g, 0, none⟩)] w (RoutePost g a len cap w) := by
  have H := Lib.hid h; clear h
  have hgl := H.out.src.lt
  go_enter Tryz.func30, Tryz.ntmps30
  go_wp2_with fail
  refine (draw_n 2 (by omega) (by omega) (H.out.alloc _)).mono ?_
  rintro e w1 ⟨x1, rfl, ⟨hx10, hx11⟩, hd⟩
  have HD := Lib.hid hd; clear hd
  go_wp2_with fail
  refine (draw_n 3 (by omega) (by omega) HD.out.1).mono ?_
  rintro e w2 ⟨x2, rfl, ⟨hx20, hx21⟩, hd⟩
  replace HD := Lib.hid (HD.out.trans hd); clear hd
  go_wp2_with fail
  refine (draw_n 3 (by omega) (by omega) HD.out.1).mono ?_
  rintro e w3 ⟨x3, rfl, ⟨hx30, hx31⟩, hd⟩
  replace HD := Lib.hid (HD.out.trans hd); clear hd
  go_wp2_with fail
  refine (draw_n 4 (by omega) (by omega) HD.out.1).mono ?_
  rintro e w4 ⟨x4, rfl, ⟨hx40, hx41⟩, hd⟩
  replace HD := Lib.hid (HD.out.trans hd); clear hd
  go_wp2_with fail
  refine (draw_n 4 (by omega) (by omega) HD.out.1).mono ?_
  rintro e w5 ⟨x5, rfl, ⟨hx50, hx51⟩, hd⟩
  replace HD := Lib.hid (HD.out.trans hd); clear hd
  go_wp2_with fail
  refine (draw_one 8 (by omega) (by omega) HD.out.1).mono ?_
  rintro e w6 ⟨x6, rfl, hd⟩
  replace HD := Lib.hid (HD.out.trans hd); clear hd
  go_upto_region 2 with fail
  obtain ⟨W, hW⟩ : ∃ W, W = w6.alloc (.cells #[.int .i64 2, .int .i64 (5 + x1), .int .i64 (161 + x2), .int .i64 (11 + x3), .int .i64 (1 + x4), .int .i64 x5, .bool x6] 25) := ⟨_, rfl⟩
  obtain ⟨B, hB⟩ : ∃ B, B = w6.heap.size := ⟨_, rfl⟩
  rw [← hW, ← hB]
  have S : DrAt w W g a len cap B 2 (5 + x1) (161 + x2) (11 + x3) (1 + x4) x5 x6 := by subst hW hB; exact DrAt.start H.out HD.out
  clear hW hB HD
  go_wp2_with fail
  refine (draw_one 4 (by omega) (by omega) S.drawn.1).mono ?_
  rintro e w7 ⟨y, rfl, hd⟩
  replace S := S.step hd
  clear hd
  cases y
  · go_wp2_with fail
    refine (draw_one 15 (by omega) (by omega) S.drawn.1).mono ?_
    rintro e w10 ⟨z, rfl, hd⟩
    replace S := S.step hd
    clear hd
    cases z
    · obtain ⟨r, S⟩ : ∃ r : Rt, DrAt w _ g a len cap B r.kind r.vni r.mac r.ip r.org r.seq r.st := ⟨⟨_, _, _, _, _, _, _⟩, S⟩
      have cR := S.rt.cell
      have cO := S.out.cell
      have fO := S.out.frozen
      have HF := Lib.hid S.from_
      have HDD := Lib.hid S.drawn
      clear S
      go_wp2_with fail
      refine bodyPost_ret (v := r.val) (by simp [results, Tryz.results30, go_sem, Rt.val, rtV, cO]) rfl (show RoutePost g a len cap w _ _ from ⟨r, rfl, ?_⟩)
      exact ((((((HDD.out.set HF.out (Nat.le_refl _) 0 _).set HF.out (Nat.le_refl _) 1 _).set HF.out (Nat.le_refl _) 2 _).set HF.out (Nat.le_refl _) 3 _).set HF.out (Nat.le_refl _) 4 _).set HF.out (Nat.le_refl _) 5 _).set HF.out (Nat.le_refl _) 6 _
    · go_wp2_with fail
      refine (draw_n 6 (by omega) (by omega) S.drawn.1).mono ?_
      rintro e w11 ⟨sw, rfl, ⟨hs0, hs1⟩, hd⟩
      replace S := S.step hd
      clear hd
      have hsw : sw = 0 ∨ sw = 1 ∨ sw = 2 ∨ sw = 3 ∨ sw = 4 ∨ sw = 5 := by omega
      clear hs0 hs1
      rcases hsw with rfl | rfl | rfl | rfl | rfl | rfl
      · go_wp2_with fail
        refine (draw_n 4 (by omega) (by omega) S.drawn.1).mono ?_
        rintro e w12 ⟨y, rfl, ⟨hy0, hy1⟩, hd⟩
        replace S := S.step hd
        clear hd
        have cR := S.rt.cell
        have fR := S.rt.frozen
        go_upto_region 17 with fail
        obtain ⟨W9, hW9⟩ : ∃ W, W = w12.setCell ⟨B, 0, none⟩ (.int .i64 (1 + y)) := ⟨_, rfl⟩
        rw [← hW9]
        replace S := S.set0 (1 + y)
        rw [← hW9] at S
        clear hW9 cR fR
        obtain ⟨r, S⟩ : ∃ r : Rt, DrAt w _ g a len cap B r.kind r.vni r.mac r.ip r.org r.seq r.st := ⟨⟨_, _, _, _, _, _, _⟩, S⟩
        have cR := S.rt.cell
        have cO := S.out.cell
        have fO := S.out.frozen
        have HF := Lib.hid S.from_
        have HDD := Lib.hid S.drawn
        clear S
        go_wp2_with fail
        refine bodyPost_ret (v := r.val) (by simp [results, Tryz.results30, go_sem, Rt.val, rtV, cO]) rfl (show RoutePost g a len cap w _ _ from ⟨r, rfl, ?_⟩)
        exact ((((((HDD.out.set HF.out (Nat.le_refl _) 0 _).set HF.out (Nat.le_refl _) 1 _).set HF.out (Nat.le_refl _) 2 _).set HF.out (Nat.le_refl _) 3 _).set HF.out (Nat.le_refl _) 4 _).set HF.out (Nat.le_refl _) 5 _).set HF.out (Nat.le_refl _) 6 _
      · go_wp2_with fail
        refine (draw_vni S.drawn.1).mono ?_
        rintro e w12 ⟨y, rfl, _, hd⟩
        replace S := S.step hd
        clear hd
        have cR := S.rt.cell
        have fR := S.rt.frozen
        go_upto_region 17 with fail
        obtain ⟨W9, hW9⟩ : ∃ W, W = w12.setCell ⟨B, 1, none⟩ (.int .i64 (y)) := ⟨_, rfl⟩
        rw [← hW9]
        replace S := S.set1 (y)
        rw [← hW9] at S
        clear hW9 cR fR
        obtain ⟨r, S⟩ : ∃ r : Rt, DrAt w _ g a len cap B r.kind r.vni r.mac r.ip r.org r.seq r.st := ⟨⟨_, _, _, _, _, _, _⟩, S⟩
        have cR := S.rt.cell
        have cO := S.out.cell
        have fO := S.out.frozen
        have HF := Lib.hid S.from_
        have HDD := Lib.hid S.drawn
        clear S
        go_wp2_with fail
        refine bodyPost_ret (v := r.val) (by simp [results, Tryz.results30, go_sem, Rt.val, rtV, cO]) rfl (show RoutePost g a len cap w _ _ from ⟨r, rfl, ?_⟩)
        exact ((((((HDD.out.set HF.out (Nat.le_refl _) 0 _).set HF.out (Nat.le_refl _) 1 _).set HF.out (Nat.le_refl _) 2 _).set HF.out (Nat.le_refl _) 3 _).set HF.out (Nat.le_refl _) 4 _).set HF.out (Nat.le_refl _) 5 _).set HF.out (Nat.le_refl _) 6 _
      · go_wp2_with fail
        refine (draw_mac S.drawn.1).mono ?_
        rintro e w12 ⟨y, rfl, _, hd⟩
        replace S := S.step hd
        clear hd
        have cR := S.rt.cell
        have fR := S.rt.frozen
        go_upto_region 17 with fail
        obtain ⟨W9, hW9⟩ : ∃ W, W = w12.setCell ⟨B, 2, none⟩ (.int .i64 (y)) := ⟨_, rfl⟩
        rw [← hW9]
        replace S := S.set2 (y)
        rw [← hW9] at S
        clear hW9 cR fR
        obtain ⟨r, S⟩ : ∃ r : Rt, DrAt w _ g a len cap B r.kind r.vni r.mac r.ip r.org r.seq r.st := ⟨⟨_, _, _, _, _, _, _⟩, S⟩
        have cR := S.rt.cell
        have cO := S.out.cell
        have fO := S.out.frozen
        have HF := Lib.hid S.from_
        have HDD := Lib.hid S.drawn
        clear S
        go_wp2_with fail
        refine bodyPost_ret (v := r.val) (by simp [results, Tryz.results30, go_sem, Rt.val, rtV, cO]) rfl (show RoutePost g a len cap w _ _ from ⟨r, rfl, ?_⟩)
        exact ((((((HDD.out.set HF.out (Nat.le_refl _) 0 _).set HF.out (Nat.le_refl _) 1 _).set HF.out (Nat.le_refl _) 2 _).set HF.out (Nat.le_refl _) 3 _).set HF.out (Nat.le_refl _) 4 _).set HF.out (Nat.le_refl _) 5 _).set HF.out (Nat.le_refl _) 6 _
      · have hgl2 := S.drawn.1.src.lt
        go_wp2_with fail
        refine (draw_n 3 (by omega) (by omega) (S.alloc _).drawn.1).mono ?_
        rintro e w12 ⟨y, rfl, ⟨hy0, hy1⟩, hd⟩
        have hc := hd.2.cell (three_cell 0 4 5 w11 y.toNat (by omega)) (by simp; omega)
        replace S := (S.alloc _).step hd
        clear hd
        obtain ⟨yy, hyy⟩ : ∃ yy : Int, yy = [0, 4, 5].getD y.toNat 0 := ⟨_, rfl⟩
        rw [← hyy] at hc
        clear hyy
        have cR := S.rt.cell
        have fR := S.rt.frozen
        go_upto_region 17 with fail
        obtain ⟨W9, hW9⟩ : ∃ W, W = w12.setCell ⟨B, 4, none⟩ (.int .i64 (yy)) := ⟨_, rfl⟩
        rw [← hW9]
        replace S := S.set4 (yy)
        rw [← hW9] at S
        clear hW9 cR fR
        obtain ⟨r, S⟩ : ∃ r : Rt, DrAt w _ g a len cap B r.kind r.vni r.mac r.ip r.org r.seq r.st := ⟨⟨_, _, _, _, _, _, _⟩, S⟩
        have cR := S.rt.cell
        have cO := S.out.cell
        have fO := S.out.frozen
        have HF := Lib.hid S.from_
        have HDD := Lib.hid S.drawn
        clear S
        go_wp2_with fail
        refine bodyPost_ret (v := r.val) (by simp [results, Tryz.results30, go_sem, Rt.val, rtV, cO]) rfl (show RoutePost g a len cap w _ _ from ⟨r, rfl, ?_⟩)
        exact ((((((HDD.out.set HF.out (Nat.le_refl _) 0 _).set HF.out (Nat.le_refl _) 1 _).set HF.out (Nat.le_refl _) 2 _).set HF.out (Nat.le_refl _) 3 _).set HF.out (Nat.le_refl _) 4 _).set HF.out (Nat.le_refl _) 5 _).set HF.out (Nat.le_refl _) 6 _
      · have hgl2 := S.drawn.1.src.lt
        go_wp2_with fail
        refine (draw_n 3 (by omega) (by omega) (S.alloc _).drawn.1).mono ?_
        rintro e w12 ⟨y, rfl, ⟨hy0, hy1⟩, hd⟩
        have hc := hd.2.cell (three_cell (-1) 1000000 1000001 w11 y.toNat (by omega)) (by simp; omega)
        replace S := (S.alloc _).step hd
        clear hd
        obtain ⟨yy, hyy⟩ : ∃ yy : Int, yy = [-1, 1000000, 1000001].getD y.toNat 0 := ⟨_, rfl⟩
        rw [← hyy] at hc
        clear hyy
        have cR := S.rt.cell
        have fR := S.rt.frozen
        go_upto_region 17 with fail
        obtain ⟨W9, hW9⟩ : ∃ W, W = w12.setCell ⟨B, 5, none⟩ (.int .i64 (yy)) := ⟨_, rfl⟩
        rw [← hW9]
        replace S := S.set5 (yy)
        rw [← hW9] at S
        clear hW9 cR fR
        obtain ⟨r, S⟩ : ∃ r : Rt, DrAt w _ g a len cap B r.kind r.vni r.mac r.ip r.org r.seq r.st := ⟨⟨_, _, _, _, _, _, _⟩, S⟩
        have cR := S.rt.cell
        have cO := S.out.cell
        have fO := S.out.frozen
        have HF := Lib.hid S.from_
        have HDD := Lib.hid S.drawn
        clear S
        go_wp2_with fail
        refine bodyPost_ret (v := r.val) (by simp [results, Tryz.results30, go_sem, Rt.val, rtV, cO]) rfl (show RoutePost g a len cap w _ _ from ⟨r, rfl, ?_⟩)
        exact ((((((HDD.out.set HF.out (Nat.le_refl _) 0 _).set HF.out (Nat.le_refl _) 1 _).set HF.out (Nat.le_refl _) 2 _).set HF.out (Nat.le_refl _) 3 _).set HF.out (Nat.le_refl _) 4 _).set HF.out (Nat.le_refl _) 5 _).set HF.out (Nat.le_refl _) 6 _
      · go_wp2_with fail
        refine (draw_ip S.drawn.1).mono ?_
        rintro e w12 ⟨y, rfl, _, hd⟩
        replace S := S.step hd
        clear hd
        have cR := S.rt.cell
        have fR := S.rt.frozen
        go_upto_region 17 with fail
        obtain ⟨W9, hW9⟩ : ∃ W, W = w12.setCell ⟨B, 3, none⟩ (.int .i64 (y)) := ⟨_, rfl⟩
        rw [← hW9]
        replace S := S.set3 (y)
        rw [← hW9] at S
        clear hW9 cR fR
        obtain ⟨r, S⟩ : ∃ r : Rt, DrAt w _ g a len cap B r.kind r.vni r.mac r.ip r.org r.seq r.st := ⟨⟨_, _, _, _, _, _, _⟩, S⟩
        have cR := S.rt.cell
        have cO := S.out.cell
        have fO := S.out.frozen
        have HF := Lib.hid S.from_
        have HDD := Lib.hid S.drawn
        clear S
        go_wp2_with fail
        refine bodyPost_ret (v := r.val) (by simp [results, Tryz.results30, go_sem, Rt.val, rtV, cO]) rfl (show RoutePost g a len cap w _ _ from ⟨r, rfl, ?_⟩)
        exact ((((((HDD.out.set HF.out (Nat.le_refl _) 0 _).set HF.out (Nat.le_refl _) 1 _).set HF.out (Nat.le_refl _) 2 _).set HF.out (Nat.le_refl _) 3 _).set HF.out (Nat.le_refl _) 4 _).set HF.out (Nat.le_refl _) 5 _).set HF.out (Nat.le_refl _) 6 _
  · go_wp2_with fail
    refine (draw_n 2 (by omega) (by omega) S.drawn.1).mono ?_
    rintro e w8 ⟨y1, rfl, ⟨hy10, hy11⟩, hd⟩
    replace S := S.step hd
    clear hd
    go_wp2_with fail
    refine (draw_n 4 (by omega) (by omega) S.drawn.1).mono ?_
    rintro e w9 ⟨y2, rfl, ⟨hy20, hy21⟩, hd⟩
    replace S := S.step hd
    clear hd
    have cR := S.rt.cell
    have fR := S.rt.frozen
    go_upto_region 4 with fail
    obtain ⟨W8, hW8⟩ : ∃ W, W = ((((((w9.setCell ⟨B, 0, none⟩ (.int .i64 3)).setCell ⟨B, 1, none⟩ (.int .i64 (5 + y1))).setCell ⟨B, 2, none⟩ (.int .i64 0)).setCell ⟨B, 3, none⟩ (.int .i64 0)).setCell ⟨B, 4, none⟩ (.int .i64 (1 + y2))).setCell ⟨B, 5, none⟩ (.int .i64 0)).setCell ⟨B, 6, none⟩ (.bool false) := ⟨_, rfl⟩
    rw [← hW8]
    replace S := S.put 3 (5 + y1) 0 0 (1 + y2) 0 false
    rw [← hW8] at S
    clear hW8 cR fR
    go_wp2_with fail
    refine (draw_one 15 (by omega) (by omega) S.drawn.1).mono ?_
    rintro e w10 ⟨z, rfl, hd⟩
    replace S := S.step hd
    clear hd
    cases z
    · obtain ⟨r, S⟩ : ∃ r : Rt, DrAt w _ g a len cap B r.kind r.vni r.mac r.ip r.org r.seq r.st := ⟨⟨_, _, _, _, _, _, _⟩, S⟩
      have cR := S.rt.cell
      have cO := S.out.cell
      have fO := S.out.frozen
      have HF := Lib.hid S.from_
      have HDD := Lib.hid S.drawn
      clear S
      go_wp2_with fail
      refine bodyPost_ret (v := r.val) (by simp [results, Tryz.results30, go_sem, Rt.val, rtV, cO]) rfl (show RoutePost g a len cap w _ _ from ⟨r, rfl, ?_⟩)
      exact ((((((HDD.out.set HF.out (Nat.le_refl _) 0 _).set HF.out (Nat.le_refl _) 1 _).set HF.out (Nat.le_refl _) 2 _).set HF.out (Nat.le_refl _) 3 _).set HF.out (Nat.le_refl _) 4 _).set HF.out (Nat.le_refl _) 5 _).set HF.out (Nat.le_refl _) 6 _
    · go_wp2_with fail
      refine (draw_n 6 (by omega) (by omega) S.drawn.1).mono ?_
      rintro e w11 ⟨sw, rfl, ⟨hs0, hs1⟩, hd⟩
      replace S := S.step hd
      clear hd
      have hsw : sw = 0 ∨ sw = 1 ∨ sw = 2 ∨ sw = 3 ∨ sw = 4 ∨ sw = 5 := by omega
      clear hs0 hs1
      rcases hsw with rfl | rfl | rfl | rfl | rfl | rfl
      · go_wp2_with fail
        refine (draw_n 4 (by omega) (by omega) S.drawn.1).mono ?_
        rintro e w12 ⟨y, rfl, ⟨hy0, hy1⟩, hd⟩
        replace S := S.step hd
        clear hd
        have cR := S.rt.cell
        have fR := S.rt.frozen
        go_upto_region 17 with fail
        obtain ⟨W9, hW9⟩ : ∃ W, W = w12.setCell ⟨B, 0, none⟩ (.int .i64 (1 + y)) := ⟨_, rfl⟩
        rw [← hW9]
        replace S := S.set0 (1 + y)
        rw [← hW9] at S
        clear hW9 cR fR
        obtain ⟨r, S⟩ : ∃ r : Rt, DrAt w _ g a len cap B r.kind r.vni r.mac r.ip r.org r.seq r.st := ⟨⟨_, _, _, _, _, _, _⟩, S⟩
        have cR := S.rt.cell
        have cO := S.out.cell
        have fO := S.out.frozen
        have HF := Lib.hid S.from_
        have HDD := Lib.hid S.drawn
        clear S
        go_wp2_with fail
        refine bodyPost_ret (v := r.val) (by simp [results, Tryz.results30, go_sem, Rt.val, rtV, cO]) rfl (show RoutePost g a len cap w _ _ from ⟨r, rfl, ?_⟩)
        exact ((((((HDD.out.set HF.out (Nat.le_refl _) 0 _).set HF.out (Nat.le_refl _) 1 _).set HF.out (Nat.le_refl _) 2 _).set HF.out (Nat.le_refl _) 3 _).set HF.out (Nat.le_refl _) 4 _).set HF.out (Nat.le_refl _) 5 _).set HF.out (Nat.le_refl _) 6 _
      · go_wp2_with fail
        refine (draw_vni S.drawn.1).mono ?_
        rintro e w12 ⟨y, rfl, _, hd⟩
        replace S := S.step hd
        clear hd
        have cR := S.rt.cell
        have fR := S.rt.frozen
        go_upto_region 17 with fail
        obtain ⟨W9, hW9⟩ : ∃ W, W = w12.setCell ⟨B, 1, none⟩ (.int .i64 (y)) := ⟨_, rfl⟩
        rw [← hW9]
        replace S := S.set1 (y)
        rw [← hW9] at S
        clear hW9 cR fR
        obtain ⟨r, S⟩ : ∃ r : Rt, DrAt w _ g a len cap B r.kind r.vni r.mac r.ip r.org r.seq r.st := ⟨⟨_, _, _, _, _, _, _⟩, S⟩
        have cR := S.rt.cell
        have cO := S.out.cell
        have fO := S.out.frozen
        have HF := Lib.hid S.from_
        have HDD := Lib.hid S.drawn
        clear S
        go_wp2_with fail
        refine bodyPost_ret (v := r.val) (by simp [results, Tryz.results30, go_sem, Rt.val, rtV, cO]) rfl (show RoutePost g a len cap w _ _ from ⟨r, rfl, ?_⟩)
        exact ((((((HDD.out.set HF.out (Nat.le_refl _) 0 _).set HF.out (Nat.le_refl _) 1 _).set HF.out (Nat.le_refl _) 2 _).set HF.out (Nat.le_refl _) 3 _).set HF.out (Nat.le_refl _) 4 _).set HF.out (Nat.le_refl _) 5 _).set HF.out (Nat.le_refl _) 6 _
      · go_wp2_with fail
        refine (draw_mac S.drawn.1).mono ?_
        rintro e w12 ⟨y, rfl, _, hd⟩
        replace S := S.step hd
        clear hd
        have cR := S.rt.cell
        have fR := S.rt.frozen
        go_upto_region 17 with fail
        obtain ⟨W9, hW9⟩ : ∃ W, W = w12.setCell ⟨B, 2, none⟩ (.int .i64 (y)) := ⟨_, rfl⟩
        rw [← hW9]
        replace S := S.set2 (y)
        rw [← hW9] at S
        clear hW9 cR fR
        obtain ⟨r, S⟩ : ∃ r : Rt, DrAt w _ g a len cap B r.kind r.vni r.mac r.ip r.org r.seq r.st := ⟨⟨_, _, _, _, _, _, _⟩, S⟩
        have cR := S.rt.cell
        have cO := S.out.cell
        have fO := S.out.frozen
        have HF := Lib.hid S.from_
        have HDD := Lib.hid S.drawn
        clear S
        go_wp2_with fail
        refine bodyPost_ret (v := r.val) (by simp [results, Tryz.results30, go_sem, Rt.val, rtV, cO]) rfl (show RoutePost g a len cap w _ _ from ⟨r, rfl, ?_⟩)
        exact ((((((HDD.out.set HF.out (Nat.le_refl _) 0 _).set HF.out (Nat.le_refl _) 1 _).set HF.out (Nat.le_refl _) 2 _).set HF.out (Nat.le_refl _) 3 _).set HF.out (Nat.le_refl _) 4 _).set HF.out (Nat.le_refl _) 5 _).set HF.out (Nat.le_refl _) 6 _
      · have hgl2 := S.drawn.1.src.lt
        go_wp2_with fail
        refine (draw_n 3 (by omega) (by omega) (S.alloc _).drawn.1).mono ?_
        rintro e w12 ⟨y, rfl, ⟨hy0, hy1⟩, hd⟩
        have hc := hd.2.cell (three_cell 0 4 5 w11 y.toNat (by omega)) (by simp; omega)
        replace S := (S.alloc _).step hd
        clear hd
        obtain ⟨yy, hyy⟩ : ∃ yy : Int, yy = [0, 4, 5].getD y.toNat 0 := ⟨_, rfl⟩
        rw [← hyy] at hc
        clear hyy
        have cR := S.rt.cell
        have fR := S.rt.frozen
        go_upto_region 17 with fail
        obtain ⟨W9, hW9⟩ : ∃ W, W = w12.setCell ⟨B, 4, none⟩ (.int .i64 (yy)) := ⟨_, rfl⟩
        rw [← hW9]
        replace S := S.set4 (yy)
        rw [← hW9] at S
        clear hW9 cR fR
        obtain ⟨r, S⟩ : ∃ r : Rt, DrAt w _ g a len cap B r.kind r.vni r.mac r.ip r.org r.seq r.st := ⟨⟨_, _, _, _, _, _, _⟩, S⟩
        have cR := S.rt.cell
        have cO := S.out.cell
        have fO := S.out.frozen
        have HF := Lib.hid S.from_
        have HDD := Lib.hid S.drawn
        clear S
        go_wp2_with fail
        refine bodyPost_ret (v := r.val) (by simp [results, Tryz.results30, go_sem, Rt.val, rtV, cO]) rfl (show RoutePost g a len cap w _ _ from ⟨r, rfl, ?_⟩)
        exact ((((((HDD.out.set HF.out (Nat.le_refl _) 0 _).set HF.out (Nat.le_refl _) 1 _).set HF.out (Nat.le_refl _) 2 _).set HF.out (Nat.le_refl _) 3 _).set HF.out (Nat.le_refl _) 4 _).set HF.out (Nat.le_refl _) 5 _).set HF.out (Nat.le_refl _) 6 _
      · have hgl2 := S.drawn.1.src.lt
        go_wp2_with fail
        refine (draw_n 3 (by omega) (by omega) (S.alloc _).drawn.1).mono ?_
        rintro e w12 ⟨y, rfl, ⟨hy0, hy1⟩, hd⟩
        have hc := hd.2.cell (three_cell (-1) 1000000 1000001 w11 y.toNat (by omega)) (by simp; omega)
        replace S := (S.alloc _).step hd
        clear hd
        obtain ⟨yy, hyy⟩ : ∃ yy : Int, yy = [-1, 1000000, 1000001].getD y.toNat 0 := ⟨_, rfl⟩
        rw [← hyy] at hc
        clear hyy
        have cR := S.rt.cell
        have fR := S.rt.frozen
        go_upto_region 17 with fail
        obtain ⟨W9, hW9⟩ : ∃ W, W = w12.setCell ⟨B, 5, none⟩ (.int .i64 (yy)) := ⟨_, rfl⟩
        rw [← hW9]
        replace S := S.set5 (yy)
        rw [← hW9] at S
        clear hW9 cR fR
        obtain ⟨r, S⟩ : ∃ r : Rt, DrAt w _ g a len cap B r.kind r.vni r.mac r.ip r.org r.seq r.st := ⟨⟨_, _, _, _, _, _, _⟩, S⟩
        have cR := S.rt.cell
        have cO := S.out.cell
        have fO := S.out.frozen
        have HF := Lib.hid S.from_
        have HDD := Lib.hid S.drawn
        clear S
        go_wp2_with fail
        refine bodyPost_ret (v := r.val) (by simp [results, Tryz.results30, go_sem, Rt.val, rtV, cO]) rfl (show RoutePost g a len cap w _ _ from ⟨r, rfl, ?_⟩)
        exact ((((((HDD.out.set HF.out (Nat.le_refl _) 0 _).set HF.out (Nat.le_refl _) 1 _).set HF.out (Nat.le_refl _) 2 _).set HF.out (Nat.le_refl _) 3 _).set HF.out (Nat.le_refl _) 4 _).set HF.out (Nat.le_refl _) 5 _).set HF.out (Nat.le_refl _) 6 _
      · go_wp2_with fail
        refine (draw_ip S.drawn.1).mono ?_
        rintro e w12 ⟨y, rfl, _, hd⟩
        replace S := S.step hd
        clear hd
        have cR := S.rt.cell
        have fR := S.rt.frozen
        go_upto_region 17 with fail
        obtain ⟨W9, hW9⟩ : ∃ W, W = w12.setCell ⟨B, 3, none⟩ (.int .i64 (y)) := ⟨_, rfl⟩
        rw [← hW9]
        replace S := S.set3 (y)
        rw [← hW9] at S
        clear hW9 cR fR
        obtain ⟨r, S⟩ : ∃ r : Rt, DrAt w _ g a len cap B r.kind r.vni r.mac r.ip r.org r.seq r.st := ⟨⟨_, _, _, _, _, _, _⟩, S⟩
        have cR := S.rt.cell
        have cO := S.out.cell
        have fO := S.out.frozen
        have HF := Lib.hid S.from_
        have HDD := Lib.hid S.drawn
        clear S
        go_wp2_with fail
        refine bodyPost_ret (v := r.val) (by simp [results, Tryz.results30, go_sem, Rt.val, rtV, cO]) rfl (show RoutePost g a len cap w _ _ from ⟨r, rfl, ?_⟩)
        exact ((((((HDD.out.set HF.out (Nat.le_refl _) 0 _).set HF.out (Nat.le_refl _) 1 _).set HF.out (Nat.le_refl _) 2 _).set HF.out (Nat.le_refl _) 3 _).set HF.out (Nat.le_refl _) 4 _).set HF.out (Nat.le_refl _) 5 _).set HF.out (Nat.le_refl _) 6 _
end Go.Proofs.YtdnpaopbicdolaaGreat
