/- Draws of chapter 8: DrawGuestAt, DrawGuestDrop. -/
import Derived.Test.YthilmonokhdjmaaDrawGw
import Derived.Deep.RegionHeld3
namespace Go.Proofs.Ythilmonokhdjmaa
open Go.RowKit

theorem draw_leG (most : Int) {g len cap : Nat} {a : Option Addr} {w : World} (hm : 1 ≤ most) (hm' : most ≤ 9223372036854775807) (h : Src w g a len cap) :
    Calls Try.prog 102 #[.pointer (some ⟨g, 0, none⟩), .int .i64 most] w (IntPost (fun r => 0 ≤ r ∧ r < most) g a len cap w) :=
  (n_any most g len cap a w hm' h.small h.bytes h.src).mono fun _ _ ⟨r, he, h0, h1, h2, hs, hg, _⟩ => ⟨r, he, ⟨h0, by by_cases h : 1 < most <;> omega⟩, h.kept hs hg, hg⟩
def GdDraw (w : World) (e : Ending) (w' : World) : Prop := ∃ (v : Value) (ls : List Gu) (x y : Int), e = .returned (.tuple #[v, .int .i64 x, .int .i64 y]) ∧ w'.ownsRow w.heap.size 58 7 v ls.length (rcells Gu.cl ls) ∧ ls.length ≤ 10 ∧ Below w.heap.size w w'
set_option maxRecDepth 100000 in
set_option maxHeartbeats 4000000 in
theorem draw_guestAt {len cap : Nat} {a : Option Addr} {w : World} (hl : len ≤ 1048576) (hb : BytesAt w a len) :
    Calls Try.prog 112 #[.slice a len cap] w (GdDraw w) := by
  have HS := Lib.hid (draw_source (cap := cap) hl hb)
  clear hb
  go_enter Try.func112, Try.ntmps112
  go_wp2_with fail
  refine HS.out.mono ?_
  rintro e w1 ⟨g, rfl, hg, hs, hb1⟩
  have hgs := hs.src.lt
  have HR := Lib.hid (draw_guests hs)
  clear hs HS
  go_wp2_with fail
  refine HR.out.mono ?_
  rintro e w2 ⟨v, ls, rfl, hv, hl10, hd⟩
  have HB2 := src_below hb1 hg hd
  have hs1 := hb1.size
  have H2 := Lib.hid hd.1
  clear hd HR hb1
  obtain ⟨va, vc, rfl⟩ := rown_form hv
  obtain ⟨n, hn⟩ : ∃ n, n = ls.length := ⟨_, rfl⟩
  rw [← hn] at hv hl10 ⊢
  have HN := Lib.hid hn
  clear hn
  by_cases hne : n = 0
  · subst hne
    go_wp2_with fail
    refine (draw_n 2 (by omega) (by omega) H2.out).mono ?_
    rintro e w7 ⟨y1, rfl, ⟨hy10, hy11⟩, hd⟩
    have HB7 := src_below HB2 hg hd
    have hv7 := row_drawn hv hgs hd
    have H7 := Lib.hid hd.1
    clear hd
    go_wp2_with fail
    refine (draw_n 3 (by omega) (by omega) H7.out).mono ?_
    rintro e w8 ⟨y2, rfl, ⟨hy20, hy21⟩, hd⟩
    have HB4 := src_below HB7 hg hd
    have hv4 := row_drawn hv7 hgs hd
    clear hd
    go_wp2_with fail
    refine bodyPost_ret (v := .tuple #[.slice va 0 vc, .int .i64 (5 + y1), .int .i64 (161 + y2)]) (by simp [results, Try.results112, go_sem]) rfl ?_
    exact ⟨_, ls, _, _, rfl, by rw [← HN.out]; exact rown_mono hv4 hs1, by rw [← HN.out]; omega, HB4⟩
  · have hz : (0 : Int) < n := by omega
    go_wp2_with fail
    refine (draw_one 3 (by omega) (by omega) H2.out).mono ?_
    rintro e w3 ⟨z, rfl, hd⟩
    have HB3 := src_below HB2 hg hd
    have hv3 := row_drawn hv hgs hd
    have H3 := Lib.hid hd.1
    clear hd HB2 hv H2
    cases z
    · have hl7 : (n : Int) ≤ 10 := by omega
      go_wp2_with fail
      refine (draw_leG (n : Int) (by omega) (by omega) H3.out).mono ?_
      rintro e w4 ⟨j, rfl, ⟨hj0, hj1⟩, hd⟩
      have HB4 := src_below HB3 hg hd
      have hv4 := row_drawn hv3 hgs hd
      clear hd HB3 hv3 H3
      obtain ⟨jn, rfl⟩ : ∃ k : Nat, j = (k : Int) := ⟨j.toNat, by omega⟩
      have hjn : jn < ls.length := by have := HN.out; omega
      obtain ⟨ao', cp', hae, hel⟩ := rows_of_own Gu.cl_len (by rw [HN.out] at hv4; exact hv4)
      injection hae with ha1 ha3 ha2
      clear ha3
      subst ha1 ha2
      obtain ⟨bk, off, haa, hbk, HE⟩ := hel (fun e => by have := congrArg List.length e; rw [List.length_map, List.length_nil] at this; omega)
      subst haa
      obtain ⟨p0, p1, p2, p3, p4, p5, p6⟩ := HE.gu jn hjn
      obtain ⟨r, hr⟩ : ∃ r, r = ls[jn] := ⟨_, rfl⟩
      rw [← hr] at p0 p1 p2 p3 p4 p5 p6
      clear hr hel HE hne hj0 hj1
      have hj1 : (jn : Int) < n := by have := HN.out; omega
      go_upto_region 5 with fail
      obtain ⟨W, hW⟩ : ∃ W, W = w4.alloc (.cells #[.int .i64 r.vni, .int .i64 r.mac, .int .i64 r.ip, .int .i64 r.door, .int .i64 r.seq, .int .i64 r.seen, .bool r.st] 58) := ⟨_, rfl⟩
      obtain ⟨q, hq⟩ : ∃ q, q = w4.heap.size := ⟨_, rfl⟩
      rw [← hW, ← hq]
      have R : Blk W q 58 #[.int .i64 r.vni, .int .i64 r.mac, .int .i64 r.ip, .int .i64 r.door, .int .i64 r.seq, .int .i64 r.seen, .bool r.st] := by subst hW hq; exact Blk.new _ _ _
      have HOw : Hid (W.drew.ownsRow w1.heap.size 58 7 (.slice (some ⟨bk, off, none⟩) n vc) n (rcells Gu.cl ls)) := Lib.hid (by subst hW; exact hv4.alloc _)
      have HLo : Hid (Below w.heap.size w W.drew) := Lib.hid (by subst hW; exact (HB4.alloc HB4.size _).drew)
      have S0 : Blk W.drew q 58 #[.int .i64 r.vni, .int .i64 r.mac, .int .i64 r.ip, .int .i64 r.door, .int .i64 r.seq, .int .i64 r.seen, .bool r.st] := R.drew
      clear hW hq p0 p1 p2 p3 p4 p5 p6 R
      refine wp_region_held_drew (S := fun W' => Blk W' q 58 #[.int .i64 r.vni, .int .i64 r.mac, .int .i64 r.ip, .int .i64 r.door, .int .i64 r.seq, .int .i64 r.seen, .bool r.st]) (by kernel_rfl) S0 (fun hHeld => ?_)
      clear hHeld
      refine wpAnyH_take (i := 0) (oi := { dst := some 27, op := Op.move (Operand.tmp 6), type := 56, pos := "l07_local.go:180", after := #[], guard := none }) (v := ?vva1) rfl (by kernel_rfl) (by kernel_rfl) (by kernel_rfl) (fun _ _ _ h => h) (Or.inl ⟨by rfl, ?hya1⟩) S0 ?resta1
      case hya1 => (intro w hSw; have p0 := hSw.cell;go_simp <;> with_reducible rfl)
      try simp only [Act.put, List.setIfInBounds_toArray, List.set_cons_zero, List.set_cons_succ]
      refine wpAnyH_take (i := 1) (oi := { dst := some 28, op := Op.fieldAddr 58 (Operand.tmp 7) 0, type := 0, pos := "l07_local.go:180", after := #[{ on := 5, ground := Ground.gcOnly Departure.lateStores }], guard := none }) (v := ?vva2) rfl (by kernel_rfl) (by kernel_rfl) (by kernel_rfl) (fun _ _ _ h => h) (Or.inl ⟨by rfl, ?hya2⟩) S0 ?resta2
      case hya2 => (intro w hSw; have p0 := hSw.cell;go_simp <;> with_reducible rfl)
      try simp only [Act.put, List.setIfInBounds_toArray, List.set_cons_zero, List.set_cons_succ]
      refine wpAnyH_take (i := 2) (oi := { dst := some 29, op := Op.load 2 (Operand.tmp 28), type := 2, pos := "l07_local.go:180", after := #[{ on := 1, ground := Ground.data }, { on := 5, ground := Ground.gcOnly Departure.lateStores }], guard := none }) (v := ?vva3) rfl (by kernel_rfl) (by kernel_rfl) (by kernel_rfl) (fun _ _ _ h => h) (Or.inl ⟨by rfl, ?hya3⟩) S0 ?resta3
      case hya3 => (intro w hSw; have p0 := hSw.cell;go_simp <;> with_reducible rfl)
      try simp only [Act.put, List.setIfInBounds_toArray, List.set_cons_zero, List.set_cons_succ]
      refine wpAnyH_take (i := 3) (oi := { dst := some 30, op := Op.fieldAddr 58 (Operand.tmp 7) 1, type := 0, pos := "l07_local.go:180", after := #[{ on := 6, ground := Ground.gcOnly Departure.lateStores }], guard := none }) (v := ?vva4) rfl (by kernel_rfl) (by kernel_rfl) (by kernel_rfl) (fun _ _ _ h => h) (Or.inl ⟨by rfl, ?hya4⟩) S0 ?resta4
      case hya4 => (intro w hSw; have p0 := hSw.cell;go_simp <;> with_reducible rfl)
      try simp only [Act.put, List.setIfInBounds_toArray, List.set_cons_zero, List.set_cons_succ]
      refine wpAnyH_take (i := 4) (oi := { dst := some 31, op := Op.load 2 (Operand.tmp 30), type := 2, pos := "l07_local.go:180", after := #[{ on := 3, ground := Ground.data }, { on := 6, ground := Ground.gcOnly Departure.lateStores }], guard := none }) (v := ?vva5) rfl (by kernel_rfl) (by kernel_rfl) (by kernel_rfl) (fun _ _ _ h => h) (Or.inl ⟨by rfl, ?hya5⟩) S0 ?resta5
      case hya5 => (intro w hSw; have p0 := hSw.cell;go_simp <;> with_reducible rfl)
      try simp only [Act.put, List.setIfInBounds_toArray, List.set_cons_zero, List.set_cons_succ]
      refine wpAnyH_take (i := 5) (oi := { dst := some 2, op := Op.assign (Operand.tmp 27), type := 56, pos := "l07_local.go:180", after := #[{ on := 0, ground := Ground.data }, { on := 0, ground := Ground.phase }, { on := 1, ground := Ground.textOnly Departure.lateStores }, { on := 2, ground := Ground.textOnly Departure.lateStores }, { on := 3, ground := Ground.textOnly Departure.lateStores }, { on := 4, ground := Ground.textOnly Departure.lateStores }], guard := none }) (v := ?vva6) rfl (by kernel_rfl) (by kernel_rfl) (by kernel_rfl) (fun _ _ _ h => h) (Or.inl ⟨by rfl, ?hya6⟩) S0 ?resta6
      case hya6 => (intro w hSw; have p0 := hSw.cell;go_simp <;> with_reducible rfl)
      try simp only [Act.put, List.setIfInBounds_toArray, List.set_cons_zero, List.set_cons_succ]
      refine wpAnyH_take (i := 6) (oi := { dst := some 3, op := Op.assign (Operand.tmp 29), type := 2, pos := "l07_local.go:180", after := #[{ on := 2, ground := Ground.data }, { on := 5, ground := Ground.chain }, { on := 0, ground := Ground.phase }, { on := 1, ground := Ground.phase }, { on := 2, ground := Ground.phase }, { on := 3, ground := Ground.textOnly Departure.lateStores }, { on := 4, ground := Ground.textOnly Departure.lateStores }, { on := 5, ground := Ground.phase }], guard := none }) (v := ?vva7) rfl (by kernel_rfl) (by kernel_rfl) (by kernel_rfl) (fun _ _ _ h => h) (Or.inl ⟨by rfl, ?hya7⟩) S0 ?resta7
      case hya7 => (intro w hSw; have p0 := hSw.cell;go_simp <;> with_reducible rfl)
      try simp only [Act.put, List.setIfInBounds_toArray, List.set_cons_zero, List.set_cons_succ]
      refine wpAnyH_take (i := 7) (oi := { dst := some 4, op := Op.assign (Operand.tmp 31), type := 2, pos := "l07_local.go:180", after := #[{ on := 4, ground := Ground.data }, { on := 6, ground := Ground.chain }, { on := 0, ground := Ground.phase }, { on := 1, ground := Ground.phase }, { on := 2, ground := Ground.phase }, { on := 3, ground := Ground.phase }, { on := 4, ground := Ground.phase }, { on := 5, ground := Ground.phase }, { on := 6, ground := Ground.phase }], guard := none }) (v := ?vva8) rfl (by kernel_rfl) (by kernel_rfl) (by kernel_rfl) (fun _ _ _ h => h) (Or.inl ⟨by rfl, ?hya8⟩) S0 ?resta8
      case hya8 => (intro w hSw; have p0 := hSw.cell;go_simp <;> with_reducible rfl)
      try simp only [Act.put, List.setIfInBounds_toArray, List.set_cons_zero, List.set_cons_succ]
      refine wpAnyH_done (by kernel_rfl) ?_ _
      go_wp2_with fail
      refine bodyPost_ret (v := .tuple #[.slice (some ⟨bk, off, none⟩) n vc, .int .i64 r.vni, .int .i64 r.mac]) (by simp [results, Try.results112, go_sem]) rfl ?_
      exact ⟨_, ls, _, _, rfl, by rw [← HN.out]; exact rown_mono HOw.out hs1, by rw [← HN.out]; omega, HLo.out⟩
    · go_wp2_with fail
      refine (draw_n 2 (by omega) (by omega) H3.out).mono ?_
      rintro e w7 ⟨y1, rfl, ⟨hy10, hy11⟩, hd⟩
      have HB7 := src_below HB3 hg hd
      have hv7 := row_drawn hv3 hgs hd
      have H7 := Lib.hid hd.1
      clear hd
      go_wp2_with fail
      refine (draw_n 3 (by omega) (by omega) H7.out).mono ?_
      rintro e w8 ⟨y2, rfl, ⟨hy20, hy21⟩, hd⟩
      have HB4 := src_below HB7 hg hd
      have hv4 := row_drawn hv7 hgs hd
      clear hd
      go_wp2_with fail
      refine bodyPost_ret (v := .tuple #[.slice va n vc, .int .i64 (5 + y1), .int .i64 (161 + y2)]) (by simp [results, Try.results112, go_sem]) rfl ?_
      exact ⟨_, ls, _, _, rfl, by rw [← HN.out]; exact rown_mono hv4 hs1, by rw [← HN.out]; omega, HB4⟩
set_option maxRecDepth 100000 in
set_option maxHeartbeats 4000000 in
theorem draw_guestDrop {len cap : Nat} {a : Option Addr} {w : World} (hl : len ≤ 1048576) (hb : BytesAt w a len) :
    Calls Try.prog 40 #[.slice a len cap] w (GdDraw w) := by
  have HS := Lib.hid (draw_guestAt (cap := cap) hl hb)
  clear hb
  go_enter Try.func40, Try.ntmps40
  go_wp2_with fail
  refine HS.out.mono ?_
  rintro e w1 ⟨v, ls, x, y, rfl, hv, hl10, hb⟩
  go_wp2_with fail
  refine bodyPost_ret (v := .tuple #[v, .int .i64 x, .int .i64 y]) (by simp [results, Try.results40, go_sem]) rfl ⟨v, ls, x, y, rfl, hv, hl10, hb⟩
end Go.Proofs.Ythilmonokhdjmaa
