/- Draws of chapter 3: a frame. -/
import Derived.Test.YtjcjohapmaiecaaDraw6
import Derived.Test.YtjcjohapmaiecaaEthT
namespace Go.Proofs.Ytjcjohapmaiecaa
open Go.RowKit

theorem below_grown {W W' : World} (h : Below W.heap.size W W') (row : Option Nat) : W.grownBy W' row := ⟨h.os, h.tape, h.output, h.size, fun k hk _ => h.block k hk⟩
theorem Src.grownB {w w' : World} {g : Nat} {a : Option Addr} {len cap : Nat} (h : Src w g a len cap) (hb : Below w.heap.size w w') : Src w' g a len cap :=
  ⟨h.small, h.bytes.kept (below_grown hb (some g)) h.apart, h.src.grown (row := none) (below_grown hb none) (by simp), h.apart⟩
theorem Drawn.belowB {w w1 w2 : World} {g : Nat} {a : Option Addr} {len cap : Nat} (h : Drawn g a len cap w w1) (hb : Below w1.heap.size w1 w2) : Drawn g a len cap w w2 :=
  ⟨h.1.grownB hb, grown_trans h.2 (below_grown hb (some g)) (fun k hk => .inl (by simpa using hk.symm))⟩

/- the result's cell and the frame at work -/
structure EthAt (w W : World) (g : Nat) (a : Option Addr) (len cap G : Nat) (to fr k : Int) (b : ByteArray) : Prop where
  from_ : Src w g a len cap
  drawn : Drawn g a len cap w W
  far : w.heap.size < G
  lt : G < W.heap.size
  r0 : W.cell? ⟨w.heap.size, 0, none⟩ = some (.int .i64 0)
  r1 : W.cell? ⟨w.heap.size, 1, none⟩ = some (.int .i64 0)
  r2 : W.cell? ⟨w.heap.size, 2, none⟩ = some (.int .i64 0)
  r3 : W.cell? ⟨w.heap.size, 3, none⟩ = some (.string ⟨#[]⟩)
  rf : ∀ o, W.frozen? ⟨w.heap.size, o, none⟩ = false
  c0 : W.cell? ⟨G, 0, none⟩ = some (.int .i64 to)
  c1 : W.cell? ⟨G, 1, none⟩ = some (.int .i64 fr)
  c2 : W.cell? ⟨G, 2, none⟩ = some (.int .i64 k)
  c3 : W.cell? ⟨G, 3, none⟩ = some (.string b)
  cf : ∀ o, W.frozen? ⟨G, o, none⟩ = false
theorem EthAt.grown {w W W' : World} {g : Nat} {a : Option Addr} {len cap G : Nat} {to fr k : Int} {b : ByteArray} (h : EthAt w W g a len cap G to fr k b) (hd : Drawn g a len cap w W') (hg : W.grownBy W' (some g)) : EthAt w W' g a len cap G to fr k b := by
  have hl := h.from_.src.lt
  have hf := h.far
  have hG := h.lt
  obtain ⟨a1, a2⟩ := gfar hg (B := w.heap.size) (by omega) (by omega)
  obtain ⟨b1, b2⟩ := gfar hg (B := G) hG (by omega)
  exact ⟨h.from_, hd, hf, Nat.lt_of_lt_of_le hG hg.size, (a1 0).trans h.r0, (a1 1).trans h.r1, (a1 2).trans h.r2, (a1 3).trans h.r3, fun o => (a2 o).trans (h.rf o), (b1 0).trans h.c0, (b1 1).trans h.c1, (b1 2).trans h.c2, (b1 3).trans h.c3, fun o => (b2 o).trans (h.cf o)⟩
theorem EthAt.step {w W W' : World} {g : Nat} {a : Option Addr} {len cap G : Nat} {to fr k : Int} {b : ByteArray} (h : EthAt w W g a len cap G to fr k b) (hd : Drawn g a len cap W W') : EthAt w W' g a len cap G to fr k b := h.grown (h.drawn.trans hd) hd.2
theorem EthAt.below {w W W' : World} {g : Nat} {a : Option Addr} {len cap G : Nat} {to fr k : Int} {b : ByteArray} (h : EthAt w W g a len cap G to fr k b) (hb : Below W.heap.size W W') : EthAt w W' g a len cap G to fr k b := h.grown (h.drawn.belowB hb) (below_grown hb _)
theorem EthAt.alloc {w W : World} {g : Nat} {a : Option Addr} {len cap G : Nat} {to fr k : Int} {b : ByteArray} (h : EthAt w W g a len cap G to fr k b) (o : Obj) : EthAt w (W.alloc o) g a len cap G to fr k b := h.grown (h.drawn.alloc o) (grown_alloc W o _)
theorem EthAt.set0 {w W : World} {g : Nat} {a : Option Addr} {len cap G : Nat} {to fr k : Int} {b : ByteArray} (h : EthAt w W g a len cap G to fr k b) (x : Int) : EthAt w (W.setCell ⟨G, 0, none⟩ (.int .i64 x)) g a len cap G x fr k b := by
  obtain ⟨hs, hd, hf, hl, r0, r1, r2, r3, rf, c0, c1, c2, c3, cf⟩ := h
  have hne : ¬ G = w.heap.size := by omega
  have hne' : ¬ w.heap.size = G := by omega
  exact ⟨hs, hd.set hs (by omega) _ _, hf, by simpa using hl, by simp [go_sem, *], by simp [go_sem, *], by simp [go_sem, *], by simp [go_sem, *], fun o => by simp [go_sem, *], by simp [go_sem, *], by simp [go_sem, *], by simp [go_sem, *], by simp [go_sem, *], fun o => by simp [go_sem, *]⟩
theorem EthAt.set1 {w W : World} {g : Nat} {a : Option Addr} {len cap G : Nat} {to fr k : Int} {b : ByteArray} (h : EthAt w W g a len cap G to fr k b) (x : Int) : EthAt w (W.setCell ⟨G, 1, none⟩ (.int .i64 x)) g a len cap G to x k b := by
  obtain ⟨hs, hd, hf, hl, r0, r1, r2, r3, rf, c0, c1, c2, c3, cf⟩ := h
  have hne : ¬ G = w.heap.size := by omega
  have hne' : ¬ w.heap.size = G := by omega
  exact ⟨hs, hd.set hs (by omega) _ _, hf, by simpa using hl, by simp [go_sem, *], by simp [go_sem, *], by simp [go_sem, *], by simp [go_sem, *], fun o => by simp [go_sem, *], by simp [go_sem, *], by simp [go_sem, *], by simp [go_sem, *], by simp [go_sem, *], fun o => by simp [go_sem, *]⟩
theorem EthAt.set2 {w W : World} {g : Nat} {a : Option Addr} {len cap G : Nat} {to fr k : Int} {b : ByteArray} (h : EthAt w W g a len cap G to fr k b) (x : Int) : EthAt w (W.setCell ⟨G, 2, none⟩ (.int .i64 x)) g a len cap G to fr x b := by
  obtain ⟨hs, hd, hf, hl, r0, r1, r2, r3, rf, c0, c1, c2, c3, cf⟩ := h
  have hne : ¬ G = w.heap.size := by omega
  have hne' : ¬ w.heap.size = G := by omega
  exact ⟨hs, hd.set hs (by omega) _ _, hf, by simpa using hl, by simp [go_sem, *], by simp [go_sem, *], by simp [go_sem, *], by simp [go_sem, *], fun o => by simp [go_sem, *], by simp [go_sem, *], by simp [go_sem, *], by simp [go_sem, *], by simp [go_sem, *], fun o => by simp [go_sem, *]⟩
theorem EthAt.set3 {w W : World} {g : Nat} {a : Option Addr} {len cap G : Nat} {to fr k : Int} {b : ByteArray} (h : EthAt w W g a len cap G to fr k b) (x : ByteArray) : EthAt w (W.setCell ⟨G, 3, none⟩ (.string x)) g a len cap G to fr k x := by
  obtain ⟨hs, hd, hf, hl, r0, r1, r2, r3, rf, c0, c1, c2, c3, cf⟩ := h
  have hne : ¬ G = w.heap.size := by omega
  have hne' : ¬ w.heap.size = G := by omega
  exact ⟨hs, hd.set hs (by omega) _ _, hf, by simpa using hl, by simp [go_sem, *], by simp [go_sem, *], by simp [go_sem, *], by simp [go_sem, *], fun o => by simp [go_sem, *], by simp [go_sem, *], by simp [go_sem, *], by simp [go_sem, *], by simp [go_sem, *], fun o => by simp [go_sem, *]⟩
theorem EthAt.start {w w0 W : World} {g : Nat} {a : Option Addr} {len cap : Nat} {to fr k : Int} {b : ByteArray} (hs : Src w g a len cap) (hd : Drawn g a len cap (w.alloc (.cells #[.int .i64 0, .int .i64 0, .int .i64 0, .string ⟨#[]⟩] 24)) w0)
    (hW : W = w0.alloc (.cells #[.int .i64 to, .int .i64 fr, .int .i64 k, .string b] 24)) : EthAt w W g a len cap w0.heap.size to fr k b := by
  have hl := hs.src.lt
  have hsz := hd.2.size
  simp at hsz
  obtain ⟨a1, a2⟩ := gfar hd.2 (B := w.heap.size) (by simp) (by omega)
  have hlt : w.heap.size < w0.heap.size := by omega
  subst hW
  have e : ∀ o, (w0.alloc (.cells #[.int .i64 to, .int .i64 fr, .int .i64 k, .string b] 24)).cell? ⟨w.heap.size, o, none⟩ = w0.cell? ⟨w.heap.size, o, none⟩ := fun o => World.cell?_alloc_lt _ _ ⟨w.heap.size, o, none⟩ hlt
  have f : ∀ o, (w0.alloc (.cells #[.int .i64 to, .int .i64 fr, .int .i64 k, .string b] 24)).frozen? ⟨w.heap.size, o, none⟩ = w0.frozen? ⟨w.heap.size, o, none⟩ := fun o => (((Below.refl _ w0).alloc (Nat.le_refl _) _).frozen (p := ⟨w.heap.size, o, none⟩) hlt)
  exact ⟨hs, hd.from.alloc _, hlt, by simp, (e 0).trans ((a1 0).trans (by simp)), (e 1).trans ((a1 1).trans (by simp)), (e 2).trans ((a1 2).trans (by simp)), (e 3).trans ((a1 3).trans (by simp)), fun o => (f o).trans ((a2 o).trans (by simp)), by simp, by simp, by simp, by simp, fun o => by simp⟩
def EthPost (g : Nat) (a : Option Addr) (len cap : Nat) (w : World) (e : Ending) (w' : World) : Prop :=
  ∃ (to fr k : Int) (b : ByteArray), e = .returned (ethV to fr k b) ∧ I64 to ∧ I64 fr ∧ I64 k ∧ b.size ≤ 100 ∧ Drawn g a len cap w w'
end Go.Proofs.Ytjcjohapmaiecaa
