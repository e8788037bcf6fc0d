/- Draws of chapter 8: a list of guests. -/
import Derived.Test.YthilmonokhdjmaaDrawG
import Derived.Test.YthilmonokhdjmaaGpR
namespace Go.Proofs.Ythilmonokhdjmaa
open Go.RowKit

theorem Drawn.low {w W W' : World} {g : Nat} {a : Option Addr} {len cap : Nat} (h : Drawn g a len cap w W) (hg : g < w.heap.size) (ha : ∀ b off, 0 < len → a = some ⟨b, off, none⟩ → b < w.heap.size) (hb : Below w.heap.size W W') : Drawn g a len cap w W' := by
  refine ⟨⟨h.1.small, ?_, ?_, h.1.apart⟩, ⟨hb.os.trans h.2.os, hb.tape.trans h.2.tape, hb.output.trans h.2.output, Nat.le_trans h.2.size hb.size, fun k hk hne => (hb.block k hk).trans (h.2.block k hk hne)⟩⟩
  · rcases h.1.bytes with h0 | ⟨b, off, rfl, hc⟩
    · exact .inl h0
    · refine .inr ⟨b, off, rfl, fun i hi => ?_⟩
      obtain ⟨z, h0, h1, hcell⟩ := hc i hi
      exact ⟨z, h0, h1, (hb.cell (p := ⟨b, off + i, none⟩) (ha b off (by omega) rfl)).trans hcell⟩
  · obtain ⟨p, m, z, h0, h1, h2, h3, h4, h5, hh⟩ := h.1.src
    exact ⟨p, m, z, h0, h1, h2, h3, h4, h5, (hb.block g hg).trans hh⟩
theorem BytesAt.ltG {w : World} {a : Option Addr} {len : Nat} (h : BytesAt w a len) : ∀ b off, 0 < len → a = some ⟨b, off, none⟩ → b < w.heap.size := by
  intro b off hl he
  rcases h with h0 | ⟨b', off', rfl, hc⟩
  · omega
  · obtain ⟨z, _, _, hcell⟩ := hc 0 hl
    have e := Option.some.inj he
    injection e with e1
    subst e1
    exact World.block_lt_of_cell? w _ hcell
structure GlsAt (w W : World) (g : Nat) (a : Option Addr) (len cap : Nat) (f : Value) (ls : List Gu) : Prop where
  drawn : Drawn g a len cap w W
  own : W.ownsRow w.heap.size 58 7 f ls.length (rcells Gu.cl ls)
section
variable {w W W' w5 : World} {g : Nat} {a : Option Addr} {len cap : Nat} {f : Value} {ls : List Gu} {x : Gu} {o : Obj} {a5 : Option Addr} {n5 c5 : Nat}
theorem GlsAt.step (h : GlsAt w W g a len cap f ls) (hg : g < w.heap.size) (hd : Drawn g a len cap W W') : GlsAt w W' g a len cap f ls := by
  refine ⟨h.drawn.trans hd, h.own.kept hd.2 ?_⟩
  cases hv : f.ownBlock with
  | none => exact .inl rfl
  | some b => right; intro e; injection e with e; have := (h.own.lt b hv).1; omega
theorem GlsAt.below (h : GlsAt w W g a len cap f ls) (hg : g < w.heap.size) (ha : ∀ b off, 0 < len → a = some ⟨b, off, none⟩ → b < w.heap.size) (hb : Below W.heap.size W W') : GlsAt w W' g a len cap f ls :=
  ⟨h.drawn.low hg ha (hb.mono h.drawn.2.size), rown_below h.own hb⟩
theorem GlsAt.app (h : GlsAt w W g a len cap f ls) (hg : g < w.heap.size) (ha : ∀ b off, 0 < len → a = some ⟨b, off, none⟩ → b < w.heap.size) (hn5 : n5 = (ls ++ [x]).length)
    (ho : w5.ownsRow w.heap.size 58 7 (.slice a5 n5 c5) n5 (rcells Gu.cl (ls ++ [x]))) (hgr : (W.alloc o).grownBy w5 f.ownBlock) : GlsAt w w5 g a len cap (.slice a5 n5 c5) (ls ++ [x]) :=
  ⟨h.drawn.low hg ha (app_below (Below.refl _ W) h.drawn.2.size h.own hgr), by rw [← hn5]; exact ho⟩
end
theorem GlsAt.head {w W : World} {g : Nat} {a : Option Addr} {len cap b c : Nat} {x y : Gu} {t : List Gu} (h : GlsAt w W g a len cap (.slice (some ⟨b, 0, none⟩) (x :: t).length c) (x :: t)) (hg : g < w.heap.size) (ha : ∀ b off, 0 < len → a = some ⟨b, off, none⟩ → b < w.heap.size) :
    GlsAt w (((((((W.setCell ⟨b, 0, none⟩ (.int .i64 y.vni)).setCell ⟨b, 1, none⟩ (.int .i64 y.mac)).setCell ⟨b, 2, none⟩ (.int .i64 y.ip)).setCell ⟨b, 3, none⟩ (.int .i64 y.door)).setCell ⟨b, 4, none⟩ (.int .i64 y.seq)).setCell ⟨b, 5, none⟩ (.int .i64 y.seen)).setCell ⟨b, 6, none⟩ (.bool y.st)) g a len cap (.slice (some ⟨b, 0, none⟩) (x :: t).length c) (y :: t) := by
  have hb := (h.own.lt b rfl).1
  refine ⟨h.drawn.low hg ha (((((((( Below.refl _ W).setCell hb _).setCell hb _).setCell hb _).setCell hb _).setCell hb _).setCell hb _).setCell hb _), ?_⟩
  exact ((((((((h.own.stored 0 (.int .i64 y.vni)).1.stored 1 (.int .i64 y.mac)).1.stored 2 (.int .i64 y.ip)).1.stored 3 (.int .i64 y.door)).1.stored 4 (.int .i64 y.seq)).1.stored 5 (.int .i64 y.seen)).1.stored 6 (.bool y.st)).1)
def GusPost (g : Nat) (a : Option Addr) (len cap : Nat) (w : World) (e : Ending) (w' : World) : Prop := ∃ v ls, e = .returned v ∧ w'.ownsRow w.heap.size 58 7 v ls.length (rcells Gu.cl ls) ∧ ls.length ≤ 10 ∧ Drawn g a len cap w w'
set_option maxRecDepth 100000 in
set_option maxHeartbeats 8000000 in
theorem draw_guests {g len cap : Nat} {a : Option Addr} {w : World} (h : Src w g a len cap) :
    Calls Try.prog 105 #[.pointer (some ⟨g, 0, none⟩)] w (GusPost g a len cap w) := by
  have HA := Lib.hid h.bytes.ltG
  have H := Lib.hid h; clear h
  have hgl := H.out.src.lt
  unfold GusPost
  go_enter Try.func105, Try.ntmps105
  go_wp2_with fail
  refine (draw_n 8 (by omega) (by omega) (H.out.alloc _)).mono ?_
  rintro e w1 ⟨x, rfl, ⟨hx0, hx1⟩, hd⟩
  have S : GlsAt w w1 g a len cap (.slice (some ⟨w.heap.size, 0, none⟩) 0 0) [] := by
    refine ⟨Drawn.from hd, ?_⟩
    have k : (w.alloc (.cells #[] 58)).ownsRow w.heap.size 58 7 (.slice (some ⟨w.heap.size, 0, none⟩) 0 0) 0 [] := World.ownsRow_made w #[] 0 (Nat.le_refl _) (by decide) rfl
    exact k.kept hd.2 (.inr (by simp [Value.ownBlock]; omega))
  obtain ⟨kx, rfl⟩ : ∃ k : Nat, x = (k : Int) := ⟨x.toNat, by omega⟩
  have hkx : kx ≤ 1000 := by omega
  clear hx0 hx1 hd H
  have HS0 := Lib.hid S
  clear S
  go_wp2_with fail
  go_loopw [3, 4, 5] (fun f u _ wr => ∃ (k : Nat) (ls : List Gu), u = .int .i64 (k : Int) ∧ ls.length ≤ 9 ∧ k ≤ 1000 ∧ Hid (GlsAt w wr g a len cap f ls)) (fun _ u _ _ => (intOf u).toNat)
  case atStart => exact ⟨kx, [], rfl, by simp, by omega, HS0⟩
  case round =>
    clear HS0
    obtain ⟨k, ls, rfl, hl9, hk1, HSr⟩ := hrel
    have S := HSr.out
    clear HSr
    obtain ⟨fa, fc, rfl⟩ := rown_form S.own
    by_cases hpos : 0 < k
    · have hk0 : (0 : Int) < k := by omega
      go_wp2_with fail
      refine (draw_guest S.drawn.1).mono ?_
      rintro e w3 ⟨r, rfl, hd⟩
      replace S := S.step hgl hd
      clear hd
      go_wp2_with fail
      refine (specGuestPut_any ls _ r w3 (rows_of_own Gu.cl_len S.own) (NcOk.of_own S.own) (by omega)).mono ?_
      rintro e w4 ⟨v, t, rfl, hv, ht, hap, hb⟩
      have hl9' := (gputR_len ls r).1
      obtain ⟨va, vc, rfl⟩ := rown_form hv
      obtain ⟨ta, tc, rfl⟩ := rown_form ht
      generalize gputR ls r = R at *
      have S2 := S.below hgl HA.out (hb.alloc hb.size (.cells #[.slice va R.gus.length vc, .slice ta R.gone.length tc, .int .i64 R.code] 62))
      have S3 : GlsAt w (w4.alloc (.cells #[.slice va R.gus.length vc, .slice ta R.gone.length tc, .int .i64 R.code] 62)) g a len cap (.slice va R.gus.length vc) R.gus := ⟨S2.drawn, (rown_mono hv S.drawn.2.size).alloc _⟩
      have X4 := Blk.new w4 62 #[.slice va R.gus.length vc, .slice ta R.gone.length tc, .int .i64 R.code]
      clear hb hap hv ht S
      unfold goV
      go_upto_region 6 with fail
      generalize (w4.alloc (.cells #[.slice va R.gus.length vc, .slice ta R.gone.length tc, .int .i64 R.code] 62)) = w5 at *
      generalize w4.heap.size = q at *
      generalize R.code = cd at *
      have hc := X4.cell
      by_cases hcd : cd = 0
      · subst hcd
        go_wp2_with fail
        go_roundw
        case rel => exact ⟨k - 1, R.gus, by congr 1; omega, by omega, by omega, Lib.hid S3⟩
        case measure => simp [intOf]; omega
      · go_wp2_with fail
        go_roundw
        case rel => exact ⟨k - 1, ls, by congr 1; omega, by omega, by omega, Lib.hid S2⟩
        case measure => simp [intOf]; omega
    · have hk0 : k = 0 := by omega
      subst hk0
      clear hpos
      go_wp2_with fail
      refine (draw_one 15 (by omega) (by omega) S.drawn.1).mono ?_
      rintro e w6 ⟨z, rfl, hd⟩
      replace S := S.step hgl hd
      clear hd
      cases z
      · have HL10 : Hid (ls.length ≤ 10) := Lib.hid (by omega)
        go_wp2_with fail
        refine (draw_one 20 (by omega) (by omega) S.drawn.1).mono ?_
        rintro e w20 ⟨z20, rfl, hd⟩
        replace S := S.step hgl hd
        clear hd
        cases z20
        · go_wp2_with fail
          go_ret
          exact ⟨_, _, rfl, S.own, HL10.out, S.drawn⟩
        · have HS0 : Hid (GlsAt w w20 g a len cap (.slice none 0 0) []) := Lib.hid ⟨S.drawn, World.ownsRow_nil _ _ _ _⟩
          clear S HL10
          go_wp2_with fail
          go_loopw [3, 6] (fun f u wr => ∃ (i : Nat) (ls : List Gu), u = .int .i64 (i : Int) ∧ i ≤ 9 ∧ ls.length = i ∧ Hid (GlsAt w wr g a len cap f ls)) (fun _ u _ => 9 - (intOf u).toNat)
          case atStart => exact ⟨0, [], rfl, by omega, rfl, HS0⟩
          case round =>
            clear HS0
            obtain ⟨i, ls2, rfl, hi, hli, HSr⟩ := hrel
            have S := HSr.out
            have HLI := Lib.hid hli
            clear HSr hli
            obtain ⟨fa2, fc2, rfl⟩ := rown_form S.own
            rw [HLI.out] at S ⊢
            go_wp2_with fail
            refine (draw_n 2 (by omega) (by omega) S.drawn.1).mono ?_
            rintro e w21 ⟨x21, rfl, ⟨hx0, hx1⟩, hd⟩
            replace S := S.step hgl hd
            clear hd
            by_cases hlt : (i : Int) < 8 + x21
            · have hi8 : i ≤ 8 := by omega
              have HS := Lib.hid S
              clear S
              have HLt := Lib.hid (lit_cells (cl := Gu.cl) w21 #[.int .i64 5, .int .i64 (200 + i), .int .i64 0, .int .i64 1, .int .i64 0, .int .i64 i, .bool false] 58 ⟨5, 200 + i, 0, 1, 0, i, false⟩ rfl)
              go_wp2_with (at_builtin; refine wpList_append_row Gu.cl_len Gu.cl_one1 tyG _ rfl _ _ rfl w.heap.size _ ls2 ⟨5, 200 + i, 0, 1, 0, i, false⟩ rfl (HS.out.own.alloc _) ⟨w21.heap.size, 0, none⟩ rfl HLt.out (by have := HLI.out; omega) (by have := HS.out.drawn.2.size; simp; omega) ?_; intro a' c' n' w5 HN5 hown5 hg5; have HS5 := Lib.hid (HS.out.app hgl HA.out HN5.out hown5 hg5); clear hown5 hg5)
              go_roundw
              case rel => exact ⟨i + 1, _, by simp, by omega, by rw [List.length_append, HLI.out]; rfl, HS5⟩
              case measure => simp [intOf]; omega
            · go_wp2_with fail
              go_ret
              exact ⟨.slice fa2 i fc2, ls2, rfl, S.own, (by have := HLI.out; omega), S.drawn⟩
      · obtain ⟨n, hn⟩ : ∃ n, n = ls.length := ⟨_, rfl⟩
        rw [← hn] at S ⊢
        have HN := Lib.hid hn
        by_cases hn0 : n = 0
        · have HL10 : Hid (ls.length ≤ 10) := Lib.hid (by omega)
          clear hn hl9
          subst hn0
          go_wp2_with fail
          refine (draw_one 20 (by omega) (by omega) S.drawn.1).mono ?_
          rintro e w20 ⟨z20, rfl, hd⟩
          replace S := S.step hgl hd
          clear hd
          cases z20
          · go_wp2_with fail
            go_ret
            exact ⟨_, _, rfl, S.own, HL10.out, S.drawn⟩
          · have HS0 : Hid (GlsAt w w20 g a len cap (.slice none 0 0) []) := Lib.hid ⟨S.drawn, World.ownsRow_nil _ _ _ _⟩
            clear S HL10
            go_wp2_with fail
            go_loopw [3, 6] (fun f u wr => ∃ (i : Nat) (ls : List Gu), u = .int .i64 (i : Int) ∧ i ≤ 9 ∧ ls.length = i ∧ Hid (GlsAt w wr g a len cap f ls)) (fun _ u _ => 9 - (intOf u).toNat)
            case atStart => exact ⟨0, [], rfl, by omega, rfl, HS0⟩
            case round =>
              clear HS0
              obtain ⟨i, ls2, rfl, hi, hli, HSr⟩ := hrel
              have S := HSr.out
              have HLI := Lib.hid hli
              clear HSr hli
              obtain ⟨fa2, fc2, rfl⟩ := rown_form S.own
              rw [HLI.out] at S ⊢
              go_wp2_with fail
              refine (draw_n 2 (by omega) (by omega) S.drawn.1).mono ?_
              rintro e w21 ⟨x21, rfl, ⟨hx0, hx1⟩, hd⟩
              replace S := S.step hgl hd
              clear hd
              by_cases hlt : (i : Int) < 8 + x21
              · have hi8 : i ≤ 8 := by omega
                have HS := Lib.hid S
                clear S
                have HLt := Lib.hid (lit_cells (cl := Gu.cl) w21 #[.int .i64 5, .int .i64 (200 + i), .int .i64 0, .int .i64 1, .int .i64 0, .int .i64 i, .bool false] 58 ⟨5, 200 + i, 0, 1, 0, i, false⟩ rfl)
                go_wp2_with (at_builtin; refine wpList_append_row Gu.cl_len Gu.cl_one1 tyG _ rfl _ _ rfl w.heap.size _ ls2 ⟨5, 200 + i, 0, 1, 0, i, false⟩ rfl (HS.out.own.alloc _) ⟨w21.heap.size, 0, none⟩ rfl HLt.out (by have := HLI.out; omega) (by have := HS.out.drawn.2.size; simp; omega) ?_; intro a' c' n' w5 HN5 hown5 hg5; have HS5 := Lib.hid (HS.out.app hgl HA.out HN5.out hown5 hg5); clear hown5 hg5)
                go_roundw
                case rel => exact ⟨i + 1, _, by simp, by omega, by rw [List.length_append, HLI.out]; rfl, HS5⟩
                case measure => simp [intOf]; omega
              · go_wp2_with fail
                go_ret
                exact ⟨.slice fa2 i fc2, ls2, rfl, S.own, (by have := HLI.out; omega), S.drawn⟩
        · have hlp : (0 : Int) < n := by omega
          obtain ⟨x, t, rfl⟩ : ∃ x t, ls = x :: t := by
            cases ls with
            | nil => exact absurd hn hn0
            | cons x t => exact ⟨x, t, rfl⟩
          have hn9 : n ≤ 9 := by omega
          have HTl : Hid ((x :: t).length ≤ 9) := Lib.hid hl9
          clear hn hn0 hl9
          go_wp2_with fail
          refine (draw_n 2 (by omega) (by omega) S.drawn.1).mono ?_
          rintro e w7 ⟨sw, rfl, ⟨hs0, hs1⟩, hd⟩
          replace S := S.step hgl hd
          clear hd
          obtain ⟨b, rfl⟩ : ∃ b, fa = some ⟨b, 0, none⟩ := by
            rcases S.own.2 with ⟨e, e2⟩ | ⟨g', cap', cur, e, _⟩
            · have := HN.out
              rw [← this] at e2
              omega
            · injection e with e1
              exact ⟨g', e1⟩
          have hsw : sw = 0 ∨ sw = 1 := by omega
          clear hs0 hs1
          have hsz : ∀ j, j < 7 → j < (x :: t).length * 7 := fun j hj => by rw [List.length_cons]; omega
          rw [HN.out] at S ⊢
          rcases hsw with rfl | rfl
          · have p0 : w7.cell? ⟨b, 0, none⟩ = some (.int .i64 x.vni) := S.own.cellAt 0 (hsz 0 (by omega))
            have p1 : w7.cell? ⟨b, 1, none⟩ = some (.int .i64 x.mac) := S.own.cellAt 1 (hsz 1 (by omega))
            have p2 : w7.cell? ⟨b, 2, none⟩ = some (.int .i64 x.ip) := S.own.cellAt 2 (hsz 2 (by omega))
            have p3 : w7.cell? ⟨b, 3, none⟩ = some (.int .i64 x.door) := S.own.cellAt 3 (hsz 3 (by omega))
            have p4 : w7.cell? ⟨b, 4, none⟩ = some (.int .i64 x.seq) := S.own.cellAt 4 (hsz 4 (by omega))
            have p5 : w7.cell? ⟨b, 5, none⟩ = some (.int .i64 x.seen) := S.own.cellAt 5 (hsz 5 (by omega))
            have p6 : w7.cell? ⟨b, 6, none⟩ = some (.bool x.st) := S.own.cellAt 6 (hsz 6 (by omega))
            rw [← HN.out] at S ⊢
            have HS := Lib.hid S
            clear S hsz
            go_wp2_with (at_builtin; refine wpList_append_row Gu.cl_len Gu.cl_one1 tyG _ rfl _ _ rfl w.heap.size _ (x :: t) x rfl (HS.out.own.alloc _) ⟨w7.heap.size, 0, none⟩ rfl (lit_cells w7 _ _ x rfl) (by have := HTl.out; omega) (by have := HS.out.drawn.2.size; simp; omega) ?_; intro a' c' n' w5 HN5 hown5 hg5; have HS5 := Lib.hid (HS.out.app hgl HA.out HN5.out hown5 hg5); clear hown5 hg5)
            have S := HS5.out
            have HL10 : Hid (((x :: t) ++ [x]).length ≤ 10) := Lib.hid (by rw [List.length_append]; have := HTl.out; simp at this ⊢; omega)
            clear HS5 HS p0 p1 p2 p3 p4 p5 p6
            refine (draw_one 20 (by omega) (by omega) S.drawn.1).mono ?_
            rintro e w20 ⟨z20, rfl, hd⟩
            replace S := S.step hgl hd
            clear hd
            cases z20
            · go_wp2_with fail
              go_ret
              exact ⟨_, _, rfl, S.own, HL10.out, S.drawn⟩
            · have HS0 : Hid (GlsAt w w20 g a len cap (.slice none 0 0) []) := Lib.hid ⟨S.drawn, World.ownsRow_nil _ _ _ _⟩
              clear S HL10
              go_wp2_with fail
              go_loopw [3, 6] (fun f u wr => ∃ (i : Nat) (ls : List Gu), u = .int .i64 (i : Int) ∧ i ≤ 9 ∧ ls.length = i ∧ Hid (GlsAt w wr g a len cap f ls)) (fun _ u _ => 9 - (intOf u).toNat)
              case atStart => exact ⟨0, [], rfl, by omega, rfl, HS0⟩
              case round =>
                clear HS0
                obtain ⟨i, ls2, rfl, hi, hli, HSr⟩ := hrel
                have S := HSr.out
                have HLI := Lib.hid hli
                clear HSr hli
                obtain ⟨fa2, fc2, rfl⟩ := rown_form S.own
                rw [HLI.out] at S ⊢
                go_wp2_with fail
                refine (draw_n 2 (by omega) (by omega) S.drawn.1).mono ?_
                rintro e w21 ⟨x21, rfl, ⟨hx0, hx1⟩, hd⟩
                replace S := S.step hgl hd
                clear hd
                by_cases hlt : (i : Int) < 8 + x21
                · have hi8 : i ≤ 8 := by omega
                  have HS := Lib.hid S
                  clear S
                  have HLt := Lib.hid (lit_cells (cl := Gu.cl) w21 #[.int .i64 5, .int .i64 (200 + i), .int .i64 0, .int .i64 1, .int .i64 0, .int .i64 i, .bool false] 58 ⟨5, 200 + i, 0, 1, 0, i, false⟩ rfl)
                  go_wp2_with (at_builtin; refine wpList_append_row Gu.cl_len Gu.cl_one1 tyG _ rfl _ _ rfl w.heap.size _ ls2 ⟨5, 200 + i, 0, 1, 0, i, false⟩ rfl (HS.out.own.alloc _) ⟨w21.heap.size, 0, none⟩ rfl HLt.out (by have := HLI.out; omega) (by have := HS.out.drawn.2.size; simp; omega) ?_; intro a' c' n' w5 HN5 hown5 hg5; have HS5 := Lib.hid (HS.out.app hgl HA.out HN5.out hown5 hg5); clear hown5 hg5)
                  go_roundw
                  case rel => exact ⟨i + 1, _, by simp, by omega, by rw [List.length_append, HLI.out]; rfl, HS5⟩
                  case measure => simp [intOf]; omega
                · go_wp2_with fail
                  go_ret
                  exact ⟨.slice fa2 i fc2, ls2, rfl, S.own, (by have := HLI.out; omega), S.drawn⟩
          · rw [← HN.out] at S ⊢
            go_wp2_with fail
            refine (draw_guest S.drawn.1).mono ?_
            rintro e w8 ⟨r, rfl, hd⟩
            replace S := S.step hgl hd
            clear hd
            rw [HN.out] at S
            have p0 : w8.cell? ⟨b, 0, none⟩ = some (.int .i64 x.vni) := S.own.cellAt 0 (hsz 0 (by omega))
            have p1 : w8.cell? ⟨b, 1, none⟩ = some (.int .i64 x.mac) := S.own.cellAt 1 (hsz 1 (by omega))
            have p2 : w8.cell? ⟨b, 2, none⟩ = some (.int .i64 x.ip) := S.own.cellAt 2 (hsz 2 (by omega))
            have p3 : w8.cell? ⟨b, 3, none⟩ = some (.int .i64 x.door) := S.own.cellAt 3 (hsz 3 (by omega))
            have p4 : w8.cell? ⟨b, 4, none⟩ = some (.int .i64 x.seq) := S.own.cellAt 4 (hsz 4 (by omega))
            have p5 : w8.cell? ⟨b, 5, none⟩ = some (.int .i64 x.seen) := S.own.cellAt 5 (hsz 5 (by omega))
            have p6 : w8.cell? ⟨b, 6, none⟩ = some (.bool x.st) := S.own.cellAt 6 (hsz 6 (by omega))
            have pf := fun j => S.own.frozenAt j
            have S9 := S.head (y := r) hgl HA.out
            rw [← HN.out] at S9
            unfold Gu.val
            go_upto_region 13 with fail
            obtain ⟨W9, hW9⟩ : ∃ W, W = (((((((w8.setCell ⟨b, 0, none⟩ (.int .i64 r.vni)).setCell ⟨b, 1, none⟩ (.int .i64 r.mac)).setCell ⟨b, 2, none⟩ (.int .i64 r.ip)).setCell ⟨b, 3, none⟩ (.int .i64 r.door)).setCell ⟨b, 4, none⟩ (.int .i64 r.seq)).setCell ⟨b, 5, none⟩ (.int .i64 r.seen)).setCell ⟨b, 6, none⟩ (.bool r.st)) := ⟨_, rfl⟩
            rw [← hW9] at S9 ⊢
            clear hW9 p0 p1 p2 p3 p4 p5 p6 pf S hsz
            have S := S9
            have HL10 : Hid ((r :: t).length ≤ 10) := Lib.hid (by have := HTl.out; simp at this ⊢; omega)
            clear S9
            go_wp2_with fail
            refine (draw_one 20 (by omega) (by omega) S.drawn.1).mono ?_
            rintro e w20 ⟨z20, rfl, hd⟩
            replace S := S.step hgl hd
            clear hd
            cases z20
            · go_wp2_with fail
              go_ret
              exact ⟨_, _, rfl, S.own, HL10.out, S.drawn⟩
            · have HS0 : Hid (GlsAt w w20 g a len cap (.slice none 0 0) []) := Lib.hid ⟨S.drawn, World.ownsRow_nil _ _ _ _⟩
              clear S HL10
              go_wp2_with fail
              go_loopw [3, 6] (fun f u wr => ∃ (i : Nat) (ls : List Gu), u = .int .i64 (i : Int) ∧ i ≤ 9 ∧ ls.length = i ∧ Hid (GlsAt w wr g a len cap f ls)) (fun _ u _ => 9 - (intOf u).toNat)
              case atStart => exact ⟨0, [], rfl, by omega, rfl, HS0⟩
              case round =>
                clear HS0
                obtain ⟨i, ls2, rfl, hi, hli, HSr⟩ := hrel
                have S := HSr.out
                have HLI := Lib.hid hli
                clear HSr hli
                obtain ⟨fa2, fc2, rfl⟩ := rown_form S.own
                rw [HLI.out] at S ⊢
                go_wp2_with fail
                refine (draw_n 2 (by omega) (by omega) S.drawn.1).mono ?_
                rintro e w21 ⟨x21, rfl, ⟨hx0, hx1⟩, hd⟩
                replace S := S.step hgl hd
                clear hd
                by_cases hlt : (i : Int) < 8 + x21
                · have hi8 : i ≤ 8 := by omega
                  have HS := Lib.hid S
                  clear S
                  have HLt := Lib.hid (lit_cells (cl := Gu.cl) w21 #[.int .i64 5, .int .i64 (200 + i), .int .i64 0, .int .i64 1, .int .i64 0, .int .i64 i, .bool false] 58 ⟨5, 200 + i, 0, 1, 0, i, false⟩ rfl)
                  go_wp2_with (at_builtin; refine wpList_append_row Gu.cl_len Gu.cl_one1 tyG _ rfl _ _ rfl w.heap.size _ ls2 ⟨5, 200 + i, 0, 1, 0, i, false⟩ rfl (HS.out.own.alloc _) ⟨w21.heap.size, 0, none⟩ rfl HLt.out (by have := HLI.out; omega) (by have := HS.out.drawn.2.size; simp; omega) ?_; intro a' c' n' w5 HN5 hown5 hg5; have HS5 := Lib.hid (HS.out.app hgl HA.out HN5.out hown5 hg5); clear hown5 hg5)
                  go_roundw
                  case rel => exact ⟨i + 1, _, by simp, by omega, by rw [List.length_append, HLI.out]; rfl, HS5⟩
                  case measure => simp [intOf]; omega
                · go_wp2_with fail
                  go_ret
                  exact ⟨.slice fa2 i fc2, ls2, rfl, S.own, (by have := HLI.out; omega), S.drawn⟩
end Go.Proofs.Ythilmonokhdjmaa
