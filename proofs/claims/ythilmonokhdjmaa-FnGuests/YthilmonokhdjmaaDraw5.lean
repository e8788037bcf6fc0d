/- Draws of chapter 3: an ARP message. -/
import Derived.Test.YthilmonokhdjmaaDraw4
import Derived.Handy
namespace Go.Proofs.Ythilmonokhdjmaa
open Go.RowKit

theorem gfar {w w' : World} {g B : Nat} (hg : w.grownBy w' (some g)) (hB : B < w.heap.size) (hne : B ≠ g) : (∀ o, w'.cell? ⟨B, o, none⟩ = w.cell? ⟨B, o, none⟩) ∧ (∀ o, w'.frozen? ⟨B, o, none⟩ = w.frozen? ⟨B, o, none⟩) :=
  ⟨fun o => World.cell?_of_block (w := w) (hg.block B hB (by simpa using hne)), fun o => World.frozen?_of_block (w := w) (hg.block B hB (by simpa using hne))⟩
theorem Drawn.set {w w' : World} {g B : Nat} {a : Option Addr} {len cap : Nat} (h : Drawn g a len cap w w') (hs : Src w g a len cap) (hB : w.heap.size ≤ B) (o : Nat) (v : Value) : Drawn g a len cap w (w'.setCell ⟨B, o, none⟩ v) := by
  have k := Lib.grownBy_setCell w' B o v
  have hl := hs.src.lt
  have k2 := grown_trans h.2 k (fun j hj => .inr (by have : B = j := by simpa using hj
                                                     omega))
  exact ⟨⟨hs.small, hs.bytes.kept k2 hs.apart, h.1.src.grown k (by intro e; have : B = g := by simpa using e
                                                                   omega), hs.apart⟩, k2⟩
theorem Drawn.from {w w' : World} {g : Nat} {a : Option Addr} {len cap : Nat} {o : Obj} (h : Drawn g a len cap (w.alloc o) w') : Drawn g a len cap w w' := ⟨h.1, grown_trans (grown_alloc w o (some g)) h.2 (fun k hk => .inl (by simpa using hk.symm))⟩
def ArpPost (g : Nat) (a : Option Addr) (len cap : Nat) (w : World) (e : Ending) (w' : World) : Prop :=
  ∃ op mac ip tm ti : Int, e = .returned (.agg #[.int .i64 op, .int .i64 mac, .int .i64 ip, .int .i64 tm, .int .i64 ti]) ∧ I64 op ∧ I64 mac ∧ I64 ip ∧ I64 tm ∧ I64 ti ∧ Drawn g a len cap w w'
end Go.Proofs.Ythilmonokhdjmaa
