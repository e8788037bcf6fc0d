/- The source of draws: made, asked once, asked for bytes. -/
import Derived.Test.YthilmonokhdjmaaDraw
import Derived.Outline
namespace Go.Proofs.Ythilmonokhdjmaa
open Go.RowKit

/- the source, the bytes under it, and that the two lie apart -/
structure Src (w : World) (g : Nat) (a : Option Addr) (len cap : Nat) : Prop where
  small : len ≤ 1048576
  bytes : BytesAt w a len
  src : SrcAt w g a len cap
  apart : ∀ b off, 0 < len → a = some ⟨b, off, none⟩ → b ≠ g
theorem BytesAt.kept {w w' : World} {a : Option Addr} {len g : Nat} (h : BytesAt w a len) (hg : w.grownBy w' (some g)) (hne : ∀ b off, 0 < len → a = some ⟨b, off, none⟩ → b ≠ g) : BytesAt w' a len := by
  rcases h with h | ⟨b, off, rfl, h⟩
  · exact .inl h
  · refine .inr ⟨b, off, rfl, fun i hi => ?_⟩
    obtain ⟨z, h0, h1, hc⟩ := h i hi
    exact ⟨z, h0, h1, hg.cell hc (by simpa using hne b off (by omega) rfl)⟩
theorem Src.kept {w w' : World} {g : Nat} {a : Option Addr} {len cap : Nat} (h : Src w g a len cap) (hs : SrcAt w' g a len cap) (hg : w.grownBy w' (some g)) : Src w' g a len cap :=
  ⟨h.small, h.bytes.kept hg h.apart, hs, h.apart⟩
theorem SrcAt.lt {w : World} {g : Nat} {a : Option Addr} {len cap : Nat} (h : SrcAt w g a len cap) : g < w.heap.size := by
  obtain ⟨p, m, z, _, _, _, _, _, _, hh⟩ := h
  exact (cells4 hh).2.2.2.2.2
theorem grown_trans {w w1 w2 : World} {g : Nat} {row : Option Nat} (h1 : w.grownBy w1 (some g)) (h2 : w1.grownBy w2 row) (hr : ∀ k, row = some k → k = g ∨ w.heap.size ≤ k) : w.grownBy w2 (some g) := by
  refine ⟨h2.os.trans h1.os, h2.tape.trans h1.tape, h2.output.trans h1.output, Nat.le_trans h1.size h2.size, fun k hk hne => ?_⟩
  refine (h2.block k (Nat.lt_of_lt_of_le hk h1.size) (fun e => ?_)).trans (h1.block k hk hne)
  rcases hr k e.symm with e' | e'
  · exact hne (by rw [e'])
  · omega
theorem grown_refl (w : World) (row : Option Nat) : w.grownBy w row := ⟨rfl, rfl, rfl, Nat.le_refl _, fun _ _ _ => rfl⟩
theorem grown_alloc (w : World) (o : Obj) (row : Option Nat) : w.grownBy (w.alloc o) row := ⟨rfl, rfl, rfl, by simp, fun k hk _ => Below.heap_alloc w o k hk⟩
theorem SrcAt.alloc {w : World} {g : Nat} {a : Option Addr} {len cap : Nat} (h : SrcAt w g a len cap) (o : Obj) : SrcAt (w.alloc o) g a len cap := by
  have hl := h.lt
  obtain ⟨p, m, z, h0, h1, h2, h3, h4, h5, hh⟩ := h
  exact ⟨p, m, z, h0, h1, h2, h3, h4, h5, (Below.heap_alloc w o g hl).trans hh⟩
theorem SrcAt.grown {w w' : World} {g : Nat} {a : Option Addr} {len cap : Nat} {row : Option Nat} (h : SrcAt w g a len cap) (hg : w.grownBy w' row) (hne : row ≠ some g) : SrcAt w' g a len cap := by
  have hl := h.lt
  obtain ⟨p, m, z, h0, h1, h2, h3, h4, h5, hh⟩ := h
  exact ⟨p, m, z, h0, h1, h2, h3, h4, h5, (hg.block g hl (fun e => hne e.symm)).trans hh⟩

/- what a draw leaves: the source as a source, and nothing old but it has turned -/
def Drawn (g : Nat) (a : Option Addr) (len cap : Nat) (w w' : World) : Prop := Src w' g a len cap ∧ w.grownBy w' (some g)
theorem Drawn.trans {g : Nat} {a : Option Addr} {len cap : Nat} {w w1 w2 : World} (h1 : Drawn g a len cap w w1) (h2 : Drawn g a len cap w1 w2) : Drawn g a len cap w w2 :=
  ⟨h2.1, grown_trans h1.2 h2.2 (fun k hk => .inl (by simpa using hk.symm))⟩

def IntPost (P : Int → Prop) (g : Nat) (a : Option Addr) (len cap : Nat) (w : World) (e : Ending) (w' : World) : Prop := ∃ r : Int, e = .returned (.int .i64 r) ∧ P r ∧ Drawn g a len cap w w'
def BoolPost (g : Nat) (a : Option Addr) (len cap : Nat) (w : World) (e : Ending) (w' : World) : Prop := ∃ r : Bool, e = .returned (.bool r) ∧ Drawn g a len cap w w'
def TextPost (P : List UInt8 → Prop) (g : Nat) (a : Option Addr) (len cap : Nat) (w : World) (e : Ending) (w' : World) : Prop := ∃ l : List UInt8, e = .returned (.string (strOf l)) ∧ P l ∧ Drawn g a len cap w w'

theorem draw_n (most : Int) {g len cap : Nat} {a : Option Addr} {w : World} (hm : 1 < most) (hm' : most ≤ 9223372036854775807) (h : Src w g a len cap) :
    Calls Try.prog 102 #[.pointer (some ⟨g, 0, none⟩), .int .i64 most] w (IntPost (fun r => 0 ≤ r ∧ r < most) g a len cap w) :=
  (n_any most g len cap a w hm' h.small h.bytes h.src).mono fun _ _ ⟨r, he, h0, h1, _, hs, hg, _⟩ => ⟨r, he, ⟨h0, h1 hm⟩, h.kept hs hg, hg⟩

set_option maxHeartbeats 1000000 in
theorem draw_one (of : Int) {g len cap : Nat} {a : Option Addr} {w : World} (hm : 1 < of) (hm' : of ≤ 9223372036854775807) (h : Src w g a len cap) :
    Calls Try.prog 103 #[.pointer (some ⟨g, 0, none⟩), .int .i64 of] w (BoolPost g a len cap w) := by
  have HN := Lib.hid (draw_n of hm hm' h)
  go_enter Try.func103, Try.ntmps103
  go_wp2_with (go_at_call 102; refine HN.out.mono ?_; rintro e w1 ⟨r, rfl, hr, hd⟩)
  go_ret
  exact ⟨_, rfl, hd⟩

theorem own_ne {w wr : World} {e : TypeId} {v : Value} {n : Nat} {xs : List Value} {g : Nat} (h : wr.ownsRow w.heap.size e 1 v n xs) (hg : g < w.heap.size) : v.ownBlock ≠ some g := by
  intro he; have := (h.lt g he).1; omega
theorem draw_app {w w1 w2 : World} {g : Nat} {a : Option Addr} {len cap : Nat} {e : TypeId} {v v' x : Value} {pre : List UInt8} {c : UInt8} {o : Obj} (h : Src w g a len cap) (hd : Drawn g a len cap w w1)
    (hown : w1.ownsRow w.heap.size e 1 v pre.length (pre.map byteV)) (h1 : w2.ownsRow w.heap.size e 1 v' (pre.length + 1) (pre.map byteV ++ [x])) (hg : (w1.alloc o).grownBy w2 v.ownBlock) (hx : x = byteV c) :
    w2.ownsRow w.heap.size e 1 v' (pre ++ [c]).length ((pre ++ [c]).map byteV) ∧ Drawn g a len cap w w2 := by
  have hgl := h.src.lt
  refine ⟨by rw [List.length_append, List.map_append]; subst hx; exact h1, ?_⟩
  have k1 : w.grownBy (w1.alloc o) (some g) := grown_trans hd.2 (grown_alloc w1 o none) (fun k hk => by cases hk)
  have k2 : w.grownBy w2 (some g) := grown_trans k1 hg (fun k hk => .inr (hown.lt k hk).1)
  exact ⟨⟨h.small, h.bytes.kept k2 h.apart, (hd.1.src.alloc o).grown hg (own_ne hown hgl), h.apart⟩, k2⟩

end Go.Proofs.Ythilmonokhdjmaa
