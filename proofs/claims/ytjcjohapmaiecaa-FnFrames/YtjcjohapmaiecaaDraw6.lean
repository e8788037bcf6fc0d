/- Draws of chapter 3: DrawArpBytes, DrawIsGroup, DrawVxBytes. -/
import Derived.Test.YtjcjohapmaiecaaDraw5
import Derived.Deep.RegionWith
namespace Go.Proofs.Ytjcjohapmaiecaa
open Go.RowKit

theorem Src.below {w w1 w2 : World} {g : Nat} {a : Option Addr} {len cap : Nat} (hb : Below w.heap.size w w1) (hg : w.heap.size ≤ g) (hd : Drawn g a len cap w1 w2) : Below w.heap.size w w2 :=
  hb.grown hd.2 hb.size (fun k hk => by have : g = k := by simpa using hk
                                        omega)
theorem make_zeros (n : Nat) (hn : n ≤ 281474976710656) : ∃ M : Array Value, M.toList = (List.replicate n (0 : UInt8)).map byteV ∧
    ∀ W : World, (Instr.makeSlice 22 (.int .i64 (n : Int)) (.int .i64 (n : Int))).run Try.prog W = .ok (.slice (some ⟨W.heap.size, 0, none⟩) n n) (W.alloc (.cells M 5)) := by
  obtain ⟨i0, hi, hz0, hz1, hz2⟩ := info_parts info_u8
  refine ⟨madeCells (Value.int .u8 0).cells (((n : Nat) : Int).toNat * i0.size), ?_, fun W => ?_⟩
  · rw [hz1]
    apply List.ext_getElem
    · simp [madeCells]
    · intro i h1 h2
      simp [madeCells, byteV, Value.cells, Nat.mod_one]
  · have h := run_make (P := Try.prog) W 22 5 i0 (.int .u8 0) Try.underlying22 hi hz0 .i64 .i64 (n : Int) (n : Int) (by omega) (by omega) (by rw [hz2]; omega) (by omega)
    simpa using h
theorem below_drawn {B g : Nat} {w w1 w2 : World} (hb : Below B w w1) (hB : B ≤ w1.heap.size) (hg : B ≤ g) (hd : w1.grownBy w2 (some g)) : Below B w w2 :=
  hb.grown hd hB (fun k hk => by
    have e : g = k := by simpa using hk
    omega)
def ArpDraw (w : World) (e : Ending) (w' : World) : Prop := ∃ op mac ip tm ti : Int, e = .returned (.agg #[.int .i64 op, .int .i64 mac, .int .i64 ip, .int .i64 tm, .int .i64 ti]) ∧ I64 op ∧ I64 mac ∧ I64 ip ∧ I64 tm ∧ I64 ti ∧ Below w.heap.size w w'
set_option maxRecDepth 100000 in
set_option maxHeartbeats 2000000 in
theorem draw_arpBytes {len cap : Nat} {a : Option Addr} {w : World} (hl : len ≤ 1048576) (hb : BytesAt w a len) :
    Calls Try.prog 12 #[.slice a len cap] w (ArpDraw w) := by
  have HB := Lib.hid hb; clear hb
  go_enter Try.func12, Try.ntmps12
  go_wp2_with fail
  refine (draw_source (cap := cap) hl (HB.out.below ((Below.refl _ _).alloc (Nat.le_refl _) _))).mono ?_
  rintro e w1 ⟨g, rfl, hg, hs, hb1⟩
  have H1 := Lib.hid hs
  have HB1 := Lib.hid hb1
  clear hs hb1
  go_wp2_with fail
  refine (draw_arp H1.out).mono ?_
  rintro e w2 ⟨op, mac, ip, tm, ti, rfl, i1, i2, i3, i4, i5, hd⟩
  have hg' : w.heap.size < g := by simp at hg; omega
  have hz1 : w.heap.size < w1.heap.size := by have := HB1.out.size; simp at this; omega
  obtain ⟨hc, hf⟩ := gfar hd.2 (B := w.heap.size) hz1 (by omega)
  have hc1 : ∀ o, w1.cell? ⟨w.heap.size, o, none⟩ = _ := fun o => HB1.out.cell (p := ⟨w.heap.size, o, none⟩) (by simp)
  have hf1 : ∀ o, w1.frozen? ⟨w.heap.size, o, none⟩ = _ := fun o => HB1.out.frozen (p := ⟨w.heap.size, o, none⟩) (by simp)
  have HB2 := Lib.hid (below_drawn (((Below.refl w.heap.size w).alloc (Nat.le_refl _) _).trans (HB1.out.mono (by simp))) (Nat.le_of_lt hz1) (Nat.le_of_lt hg') hd.2)
  clear hd
  go_wp2_with fail
  refine bodyPost_ret (v := .agg #[.int .i64 op, .int .i64 mac, .int .i64 ip, .int .i64 tm, .int .i64 ti]) (by simp [results, Try.results12, go_sem, *]) rfl ⟨op, mac, ip, tm, ti, rfl, i1, i2, i3, i4, i5, ?_⟩
  exact ((((HB2.out.setCell (Nat.le_refl _) _).setCell (Nat.le_refl _) _).setCell (Nat.le_refl _) _).setCell (Nat.le_refl _) _).setCell (Nat.le_refl _) _
def IntDraw (w : World) (e : Ending) (w' : World) : Prop := ∃ n : Int, e = .returned (.int .i64 n) ∧ I64 n ∧ Below w.heap.size w w'
set_option maxRecDepth 100000 in
set_option maxHeartbeats 2000000 in
theorem draw_isGroup {len cap : Nat} {a : Option Addr} {w : World} (hl : len ≤ 1048576) (hb : BytesAt w a len) :
    Calls Try.prog 23 #[.slice a len cap] w (IntDraw w) := by
  have HS := Lib.hid (draw_source (cap := cap) hl hb)
  clear hb
  go_enter Try.func23, Try.ntmps23
  go_wp2_with (go_at_call 38; refine HS.out.mono ?_; rintro e w1 ⟨g, rfl, hg, hs, hb1⟩; have H1 := Lib.hid hs; have HB1 := Lib.hid hb1; clear hs hb1)
  refine (draw_one 3 (by omega) (by omega) H1.out).mono ?_
  rintro e w2 ⟨r, rfl, hd⟩
  have H2 := Lib.hid hd.1
  have HB2 := Lib.hid (Src.below HB1.out hg hd)
  clear hd
  cases r
  · go_wp2_with fail
    refine (draw_n 256 (by omega) (by omega) H2.out).mono ?_
    rintro e w3 ⟨x, rfl, ⟨hx0, hx1⟩, hd⟩
    have H3 := Lib.hid hd.1
    have HB3 := Lib.hid (below_drawn HB2.out HB2.out.size hg hd.2)
    clear hd
    go_wp2_with fail
    refine (draw_n 256 (by omega) (by omega) H3.out).mono ?_
    rintro e w4 ⟨y, rfl, ⟨hy0, hy1⟩, hd⟩
    have HB4 := Lib.hid (below_drawn HB3.out HB3.out.size hg hd.2)
    clear hd
    go_wp2
    go_ret
    exact ⟨_, rfl, ⟨by omega, by omega⟩, HB4.out⟩
  · go_wp2_with fail
    refine (draw_edge H2.out).mono ?_
    rintro e w3 ⟨x, rfl, hx, hd⟩
    have HB3 := Lib.hid (below_drawn HB2.out HB2.out.size hg hd.2)
    clear hd
    go_wp2
    go_ret
    exact ⟨_, rfl, hx, HB3.out⟩
def VxDraw (w : World) (e : Ending) (w' : World) : Prop := ∃ (v : Int) (l : List UInt8), e = .returned (.tuple #[.int .i64 v, .string (strOf l)]) ∧ I64 v ∧ l.length ≤ 75 ∧ Below w.heap.size w w'
set_option maxRecDepth 100000 in
set_option maxHeartbeats 2000000 in
theorem draw_vxBytes {len cap : Nat} {a : Option Addr} {w : World} (hl : len ≤ 1048576) (hb : BytesAt w a len) :
    Calls Try.prog 13 #[.slice a len cap] w (VxDraw w) := by
  have HS := Lib.hid (draw_source (cap := cap) hl hb)
  clear hb
  go_enter Try.func13, Try.ntmps13
  go_wp2_with (go_at_call 38; refine HS.out.mono ?_; rintro e w1 ⟨g, rfl, hg, hs, hb1⟩; have H1 := Lib.hid hs; have HB1 := Lib.hid hb1; clear hs hb1)
  refine (draw_vni H1.out).mono ?_
  rintro e w2 ⟨v, rfl, hv, hd⟩
  have H2 := Lib.hid hd.1
  have HB2 := Lib.hid (Src.below HB1.out hg hd)
  clear hd
  go_wp2_with fail
  refine (draw_one 10 (by omega) (by omega) H2.out).mono ?_
  rintro e w3 ⟨r, rfl, hd⟩
  have H3 := Lib.hid hd.1
  have HB3 := Lib.hid (Src.below HB2.out hg hd)
  clear hd
  cases r
  · go_wp2_with fail
    refine (draw_n 9 (by omega) (by omega) H3.out).mono ?_
    rintro e w4 ⟨x, rfl, ⟨hx0, hx1⟩, hd⟩
    have H4 := Lib.hid hd.1
    have HB4 := Lib.hid (Src.below HB3.out hg hd)
    clear hd
    obtain ⟨n, rfl⟩ : ∃ n : Nat, x = (n : Int) := ⟨x.toNat, by omega⟩
    go_wp2_with fail
    refine (draw_bytes n (by omega) H4.out).mono ?_
    rintro e w5 ⟨l, rfl, hll, hd⟩
    have HB5 := Lib.hid (Src.below HB4.out hg hd)
    have HL := Lib.hid hll
    clear hd hll
    go_wp2
    go_ret2
    exact ⟨v, l, rfl, hv, by rw [HL.out]; omega, HB5.out⟩
  · have H3d : Hid (Src w3.drew g a len cap) := Lib.hid ⟨H3.out.small, H3.out.bytes, H3.out.src, H3.out.apart⟩
    have HB3d := Lib.hid HB3.out.drew
    go_wp2_with fail
    go_region_with (go_at_call 43; refine (draw_n 3 (by omega) (by omega) H3d.out).mono ?_; rintro e w4 ⟨x, rfl, ⟨hx0, hx1⟩, hd⟩; have HB4 := Lib.hid (Src.below HB3d.out hg hd); clear hd; obtain ⟨n, hn⟩ : ∃ n : Nat, 73 + x = (n : Int) := ⟨(73 + x).toNat, by omega⟩; have hn' : n ≤ 75 := (by omega); have hwr : IntKind.i64.wrap (n : Int) = (n : Int) := IntWalk.i64_in _ (by omega); obtain ⟨M, hM, hmk⟩ := make_zeros n (by omega); have hcv := row_string (w := w4.alloc (.cells M 5)) (l := List.replicate n (0 : UInt8)) (heap_alloc_new w4 _) hM (by rw [List.length_replicate]; unfold maxLen; omega); rw [List.length_replicate] at hcv; clear hM)
    all_goals
      go_wp2
      go_ret2
      exact ⟨v, List.replicate n 0, rfl, hv, by rw [List.length_replicate]; exact hn', HB4.out.alloc HB4.out.size _⟩
end Go.Proofs.Ytjcjohapmaiecaa
