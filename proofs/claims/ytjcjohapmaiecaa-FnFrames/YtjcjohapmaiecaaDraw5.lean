/- Draws of chapter 3: an ARP message. -/
import Derived.Test.YtjcjohapmaiecaaDraw4
import Derived.Handy
namespace Go.Proofs.Ytjcjohapmaiecaa
open Go.RowKit

theorem gfar {w w' : World} {g B : Nat} (hg : w.grownBy w' (some g)) (hB : B < w.heap.size) (hne : B ≠ g) : (∀ o, w'.cell? ⟨B, o, none⟩ = w.cell? ⟨B, o, none⟩) ∧ (∀ o, w'.frozen? ⟨B, o, none⟩ = w.frozen? ⟨B, o, none⟩) :=
  ⟨fun o => World.cell?_of_block (w := w) (hg.block B hB (by simpa using hne)), fun o => World.frozen?_of_block (w := w) (hg.block B hB (by simpa using hne))⟩
theorem Drawn.set {w w' : World} {g B : Nat} {a : Option Addr} {len cap : Nat} (h : Drawn g a len cap w w') (hs : Src w g a len cap) (hB : w.heap.size ≤ B) (o : Nat) (v : Value) : Drawn g a len cap w (w'.setCell ⟨B, o, none⟩ v) := by
  have k := Lib.grownBy_setCell w' B o v
  have hl := hs.src.lt
  have k2 := grown_trans h.2 k (fun j hj => .inr (by have : B = j := by simpa using hj
                                                     omega))
  exact ⟨⟨hs.small, hs.bytes.kept k2 hs.apart, h.1.src.grown k (by intro e; have : B = g := by simpa using e
                                                                   omega), hs.apart⟩, k2⟩
theorem Drawn.from {w w' : World} {g : Nat} {a : Option Addr} {len cap : Nat} {o : Obj} (h : Drawn g a len cap (w.alloc o) w') : Drawn g a len cap w w' := ⟨h.1, grown_trans (grown_alloc w o (some g)) h.2 (fun k hk => .inl (by simpa using hk.symm))⟩
def ArpPost (g : Nat) (a : Option Addr) (len cap : Nat) (w : World) (e : Ending) (w' : World) : Prop :=
  ∃ op mac ip tm ti : Int, e = .returned (.agg #[.int .i64 op, .int .i64 mac, .int .i64 ip, .int .i64 tm, .int .i64 ti]) ∧ I64 op ∧ I64 mac ∧ I64 ip ∧ I64 tm ∧ I64 ti ∧ Drawn g a len cap w w'
set_option maxRecDepth 100000 in
set_option maxHeartbeats 2000000 in
theorem draw_arp {g len cap : Nat} {a : Option Addr} {w : World} (h : Src w g a len cap) :
    Calls Try.prog 40 #[.pointer (some ⟨g, 0, none⟩)] w (ArpPost g a len cap w) := by
  have H := Lib.hid h; clear h
  go_enter Try.func40, Try.ntmps40
  go_wp2_with fail
  have hgl := H.out.src.lt
  refine (draw_n 2 (by omega) (by omega) (H.out.alloc _)).mono ?_
  rintro e w1 ⟨op, rfl, ⟨hop0, hop1⟩, hd⟩
  have HD := Lib.hid hd; clear hd
  go_wp2_with fail
  refine (draw_mac HD.out.1).mono ?_
  rintro e w2 ⟨mac, rfl, hmac, hd⟩
  replace HD := Lib.hid (HD.out.trans hd); clear hd
  go_wp2_with fail
  refine (draw_ip HD.out.1).mono ?_
  rintro e w3 ⟨ip, rfl, hip, hd⟩
  replace HD := Lib.hid (HD.out.trans hd); clear hd
  go_wp2_with fail
  refine (draw_mac HD.out.1).mono ?_
  rintro e w4 ⟨tm, rfl, htm, hd⟩
  replace HD := Lib.hid (HD.out.trans hd); clear hd
  go_wp2_with fail
  refine (draw_ip HD.out.1).mono ?_
  rintro e w5 ⟨ti, rfl, hti, hd⟩
  replace HD := Lib.hid (HD.out.trans hd); clear hd
  obtain ⟨hc, hf⟩ := gfar HD.out.2 (B := w.heap.size) (by simp) (by omega)
  go_wp2_with fail
  have HD6 := Lib.hid (HD.out.alloc (.cells #[.int .i64 (1 + op), .int .i64 mac, .int .i64 ip, .int .i64 tm, .int .i64 ti] 27))
  have hsz := HD.out.2.size
  refine (draw_one 20 (by omega) (by omega) HD6.out.1).mono ?_
  rintro e w6 ⟨r, rfl, hd⟩
  obtain ⟨hc6, hf6⟩ := gfar hd.2 (B := w.heap.size) (by simp at hsz ⊢; omega) (by omega)
  obtain ⟨hc7, hf7⟩ := gfar hd.2 (B := w5.heap.size) (by simp) (by simp at hsz; omega)
  replace HD6 := Lib.hid (HD6.out.trans hd); clear hd
  have hlt : w.heap.size < w5.heap.size := by simp at hsz; omega
  have q0 : ∀ o, o < 5 → w6.cell? ⟨w.heap.size, o, none⟩ = some (.int .i64 0) := fun o ho => (hc6 o).trans ((World.cell?_alloc_lt _ _ ⟨w.heap.size, o, none⟩ hlt).trans ((hc o).trans (by rcases (by omega : o = 0 ∨ o = 1 ∨ o = 2 ∨ o = 3 ∨ o = 4) with h | h | h | h | h <;> subst h <;> simp)))
  have qf : ∀ o, w6.frozen? ⟨w.heap.size, o, none⟩ = false := fun o => (hf6 o).trans ((((Below.refl _ w5).alloc (Nat.le_refl _) _).frozen (p := ⟨w.heap.size, o, none⟩) hlt).trans ((hf o).trans (by simp)))
  have q1 := q0 0 (by omega)
  have q2 := q0 1 (by omega)
  have q3 := q0 2 (by omega)
  have q4 := q0 3 (by omega)
  have q5 := q0 4 (by omega)
  clear q0 hc6 hf6 hc hf
  have hne : ¬ w.heap.size = w5.heap.size := by omega
  cases r
  · go_wp2_with fail
    refine bodyPost_ret (v := .agg #[.int .i64 (1 + op), .int .i64 mac, .int .i64 ip, .int .i64 tm, .int .i64 ti]) (by simp [results, Try.results40, go_sem, *]) rfl ⟨_, _, _, _, _, rfl, by omega, hmac, hip, htm, hti, ?_⟩
    exact (((((HD6.out.from.set H.out (Nat.le_refl _) _ _).set H.out (Nat.le_refl _) _ _).set H.out (Nat.le_refl _) _ _).set H.out (Nat.le_refl _) _ _).set H.out (Nat.le_refl _) _ _)
  · go_wp2_with fail
    refine (draw_n 4 (by omega) (by omega) HD6.out.1).mono ?_
    rintro e w7 ⟨op2, rfl, ⟨ho0, ho1⟩, hd⟩
    have l1 : w.heap.size < w6.heap.size := by have := HD6.out.2.size; simp at this; omega
    have l2 : w5.heap.size < w6.heap.size := by have := World.block_lt_of_cell? w6 _ ((hc7 0).trans (by simp; rfl)); simpa using this
    obtain ⟨hc8, hf8⟩ := gfar hd.2 (B := w.heap.size) l1 (by omega)
    obtain ⟨hc9, hf9⟩ := gfar hd.2 (B := w5.heap.size) l2 (by omega)
    have HD7 := Lib.hid (HD6.out.from.trans hd); clear hd
    have hne2 : ¬ w5.heap.size = w.heap.size := by omega
    go_wp2_with fail
    refine bodyPost_ret (v := .agg #[.int .i64 op2, .int .i64 mac, .int .i64 ip, .int .i64 tm, .int .i64 ti]) (by simp [results, Try.results40, go_sem, *]) rfl ⟨_, _, _, _, _, rfl, by omega, hmac, hip, htm, hti, ?_⟩
    exact ((((((HD7.out.set H.out (Nat.le_of_lt hlt) _ _).set H.out (Nat.le_refl _) _ _).set H.out (Nat.le_refl _) _ _).set H.out (Nat.le_refl _) _ _).set H.out (Nat.le_refl _) _ _).set H.out (Nat.le_refl _) _ _)
end Go.Proofs.Ytjcjohapmaiecaa
