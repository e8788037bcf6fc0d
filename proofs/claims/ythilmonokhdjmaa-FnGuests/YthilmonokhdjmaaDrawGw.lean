/- Draws of chapter 8: DrawGuestPut, DrawGuestsAge. -/
import Derived.Test.YthilmonokhdjmaaDrawGs
import Derived.Test.YthilmonokhdjmaaGaM
namespace Go.Proofs.Ythilmonokhdjmaa
open Go.RowKit

theorem bytes_below {w w' : World} {a : Option Addr} {len : Nat} (h : BytesAt w a len) (hb : Below w.heap.size w w') : BytesAt w' a len := by
  have hl := h.ltG
  rcases h with h0 | ⟨b, off, rfl, hc⟩
  · exact .inl h0
  · refine .inr ⟨b, off, rfl, fun i hi => ?_⟩
    obtain ⟨z, h0, h1, hcell⟩ := hc i hi
    exact ⟨z, h0, h1, (hb.cell (p := ⟨b, off + i, none⟩) (hl b off (by omega) rfl)).trans hcell⟩
theorem src_below {w w1 w2 : World} {g : Nat} {a : Option Addr} {len cap : Nat} (hb : Below w.heap.size w w1) (hg : w.heap.size ≤ g) (hd : Drawn g a len cap w1 w2) : Below w.heap.size w w2 :=
  hb.grown hd.2 hb.size (fun k hk => by have : g = k := by simpa using hk
                                        omega)
theorem row_drawn {w2 w3 : World} {g B n sz : Nat} {t : TypeId} {a : Option Addr} {len cap : Nat} {v : Value} {xs : List Value} (h : w2.ownsRow B t sz v n xs) (hg : g < B) (hd : Drawn g a len cap w2 w3) : w3.ownsRow B t sz v n xs := by
  refine h.kept hd.2 ?_
  cases hv : v.ownBlock with
  | none => exact .inl rfl
  | some b => right; intro e; injection e with e; have := (h.lt b hv).1; omega
def GpDraw (w : World) (e : Ending) (w' : World) : Prop := ∃ (v : Value) (ls : List Gu) (r : Gu), e = .returned (.tuple #[v, r.val]) ∧ w'.ownsRow w.heap.size 58 7 v ls.length (rcells Gu.cl ls) ∧ ls.length ≤ 10 ∧ Below w.heap.size w w'
def GaDraw (w : World) (e : Ending) (w' : World) : Prop := ∃ (v : Value) (ls : List Gu) (n : Int), e = .returned (.tuple #[v, .int .i64 n]) ∧ w'.ownsRow w.heap.size 58 7 v ls.length (rcells Gu.cl ls) ∧ ls.length ≤ 10 ∧ Below w.heap.size w w'
set_option maxRecDepth 100000 in
set_option maxHeartbeats 4000000 in
theorem draw_guestPut {len cap : Nat} {a : Option Addr} {w : World} (hl : len ≤ 1048576) (hb : BytesAt w a len) :
    Calls Try.prog 38 #[.slice a len cap] w (GpDraw w) := by
  have X0 := Blk.new w 58 #[.int .i64 0, .int .i64 0, .int .i64 0, .int .i64 0, .int .i64 0, .int .i64 0, .bool false]
  have HB0 : Below w.heap.size w (w.alloc (.cells #[.int .i64 0, .int .i64 0, .int .i64 0, .int .i64 0, .int .i64 0, .int .i64 0, .bool false] 58)) := (Below.refl _ _).alloc (Nat.le_refl _) _
  have HS := Lib.hid (draw_source (cap := cap) hl (bytes_below hb HB0))
  clear hb
  go_enter Try.func38, Try.ntmps38
  go_upto_region 1 with fail
  generalize w.alloc (.cells #[.int .i64 0, .int .i64 0, .int .i64 0, .int .i64 0, .int .i64 0, .int .i64 0, .bool false] 58) = w0 at *
  go_wp2_with fail
  refine HS.out.mono ?_
  rintro e w1 ⟨g, rfl, hg, hs, hb1⟩
  have X1 := X0.kept hb1
  have HB1 := HB0.trans (hb1.mono HB0.size)
  have hgs := hs.src.lt
  have hx0 := X0.lt
  have HR := Lib.hid (draw_guests hs)
  clear hs hb1 HS X0
  go_wp2_with fail
  refine HR.out.mono ?_
  rintro e w2 ⟨v, ls, rfl, hv, hl10, hd⟩
  have HB2 := src_below HB1 (by omega) hd
  have X2 := X1.grown hd.2 (by intro e; injection e; omega)
  have HG := Lib.hid (draw_guest hd.1)
  clear hd HR X1 HB1
  obtain ⟨va, vc, rfl⟩ := rown_form hv
  go_wp2_with fail
  refine HG.out.mono ?_
  rintro e w3 ⟨r, rfl, hd⟩
  have HB3 := src_below HB2 (by omega) hd
  have X3 := X2.grown hd.2 (by intro e; injection e; omega)
  have HV := Lib.hid (row_drawn hv hgs hd)
  have hlt1 : w.heap.size < w1.heap.size := by omega
  clear hd HG X2 HB2 hv
  have hc := X3.cell
  have hf := X3.frozen
  unfold Gu.val
  go_wp2_with fail
  have HY := Lib.hid (X3.fillG HB3 (Nat.le_refl _) (.int .i64 r.vni) (.int .i64 r.mac) (.int .i64 r.ip) (.int .i64 r.door) (.int .i64 r.seq) (.int .i64 r.seen) (.bool r.st))
  have HV9 := Lib.hid (ownsRow_setCell_below (ownsRow_setCell_below (ownsRow_setCell_below (ownsRow_setCell_below (ownsRow_setCell_below (ownsRow_setCell_below (ownsRow_setCell_below HV.out (a := ⟨w.heap.size, 0, none⟩) hlt1 (.int .i64 r.vni)) (a := ⟨w.heap.size, 1, none⟩) hlt1 (.int .i64 r.mac)) (a := ⟨w.heap.size, 2, none⟩) hlt1 (.int .i64 r.ip)) (a := ⟨w.heap.size, 3, none⟩) hlt1 (.int .i64 r.door)) (a := ⟨w.heap.size, 4, none⟩) hlt1 (.int .i64 r.seq)) (a := ⟨w.heap.size, 5, none⟩) hlt1 (.int .i64 r.seen)) (a := ⟨w.heap.size, 6, none⟩) hlt1 (.bool r.st))
  generalize (((((((w3.setCell ⟨w.heap.size, 0, none⟩ (.int .i64 r.vni)).setCell ⟨w.heap.size, 1, none⟩ (.int .i64 r.mac)).setCell ⟨w.heap.size, 2, none⟩ (.int .i64 r.ip)).setCell ⟨w.heap.size, 3, none⟩ (.int .i64 r.door)).setCell ⟨w.heap.size, 4, none⟩ (.int .i64 r.seq)).setCell ⟨w.heap.size, 5, none⟩ (.int .i64 r.seen)).setCell ⟨w.heap.size, 6, none⟩ (.bool r.st)) = w9 at *
  have hc9 := HY.out.1.cell
  refine bodyPost_ret (v := .tuple #[.slice va ls.length vc, r.val]) (by simp [results, Try.results38, go_sem, Gu.val, hc9]) rfl ⟨_, ls, r, rfl, rown_mono HV9.out (by omega), hl10, HY.out.2⟩
set_option maxRecDepth 100000 in
set_option maxHeartbeats 4000000 in
theorem draw_guestsAge {len cap : Nat} {a : Option Addr} {w : World} (hl : len ≤ 1048576) (hb : BytesAt w a len) :
    Calls Try.prog 42 #[.slice a len cap] w (GaDraw w) := by
  have HS := Lib.hid (draw_source (cap := cap) hl hb)
  clear hb
  go_enter Try.func42, Try.ntmps42
  go_wp2_with fail
  refine HS.out.mono ?_
  rintro e w1 ⟨g, rfl, hg, hs, hb1⟩
  have hgs := hs.src.lt
  have HR := Lib.hid (draw_guests hs)
  clear hs HS
  go_wp2_with fail
  refine HR.out.mono ?_
  rintro e w2 ⟨v, ls, rfl, hv, hl10, hd⟩
  have HB2 := src_below hb1 hg hd
  have hs1 := hb1.size
  have H2 := Lib.hid hd.1
  clear hd HR hb1
  obtain ⟨va, vc, rfl⟩ := rown_form hv
  go_wp2_with fail
  refine (draw_one 6 (by omega) (by omega) H2.out).mono ?_
  rintro e w3 ⟨z, rfl, hd⟩
  have HB3 := src_below HB2 hg hd
  have hv3 := row_drawn hv hgs hd
  have H3 := Lib.hid hd.1
  clear hd HB2 hv H2
  cases z
  · go_wp2_with fail
    refine (draw_n 12 (by omega) (by omega) H3.out).mono ?_
    rintro e w4 ⟨n, rfl, ⟨hn0, hn1⟩, hd⟩
    have HB4 := src_below HB3 hg hd
    have hv4 := row_drawn hv3 hgs hd
    clear hd HB3 hv3
    go_wp2_with fail
    refine bodyPost_ret (v := .tuple #[.slice va ls.length vc, .int .i64 (200 + n - 2)]) (by simp [results, Try.results42, go_sem]) rfl ⟨_, ls, _, rfl, rown_mono hv4 hs1, hl10, HB4⟩
  · go_wp2_with fail
    refine (draw_edge H3.out).mono ?_
    rintro e w4 ⟨n, rfl, ⟨hn0, hn1⟩, hd⟩
    have HB4 := src_below HB3 hg hd
    have hv4 := row_drawn hv3 hgs hd
    clear hd HB3 hv3
    go_wp2_with fail
    refine bodyPost_ret (v := .tuple #[.slice va ls.length vc, .int .i64 n]) (by simp [results, Try.results42, go_sem]) rfl ⟨_, ls, _, rfl, rown_mono hv4 hs1, hl10, HB4⟩
end Go.Proofs.Ythilmonokhdjmaa
