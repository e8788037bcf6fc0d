import Derived.Test.YtdnpaopbicdolaaGreatQ1
import Derived.Test.YtdnpaopbicdolaaGreatQ3
import Derived.Test.YtdnpaopbicdolaaGreatMg
import Derived.Test.YtdnpaopbicdolaaGreatSwI
import Derived.Test.YtdnpaopbicdolaaGreatB3
/- Draws of chapter 7: a list of held routes. -/
namespace Go.Proofs.YtdnpaopbicdolaaGreat
open Go.RowKit

theorem Drawn.lowR {w W W' : World} {g : Nat} {a : Option Addr} {len cap : Nat} (h : Drawn g a len cap w W) (hg : g < w.heap.size) (ha : ∀ b off, 0 < len → a = some ⟨b, off, none⟩ → b < w.heap.size) (hb : Below w.heap.size W W') : Drawn g a len cap w W' := by
  refine ⟨⟨h.1.small, ?_, ?_, h.1.apart⟩, ⟨hb.os.trans h.2.os, hb.tape.trans h.2.tape, hb.output.trans h.2.output, Nat.le_trans h.2.size hb.size, fun k hk hne => (hb.block k hk).trans (h.2.block k hk hne)⟩⟩
  · rcases h.1.bytes with h0 | ⟨b, off, rfl, hc⟩
    · exact .inl h0
    · refine .inr ⟨b, off, rfl, fun i hi => ?_⟩
      obtain ⟨z, h0, h1, hcell⟩ := hc i hi
      exact ⟨z, h0, h1, (hb.cell (p := ⟨b, off + i, none⟩) (ha b off (by omega) rfl)).trans hcell⟩
  · obtain ⟨p, m, z, h0, h1, h2, h3, h4, h5, hh⟩ := h.1.src
    exact ⟨p, m, z, h0, h1, h2, h3, h4, h5, (hb.block g hg).trans hh⟩
theorem BytesAt.ltR {w : World} {a : Option Addr} {len : Nat} (h : BytesAt w a len) : ∀ b off, 0 < len → a = some ⟨b, off, none⟩ → b < w.heap.size := by
  intro b off hl he
  rcases h with h0 | ⟨b', off', rfl, hc⟩
  · omega
  · obtain ⟨z, _, _, hcell⟩ := hc 0 hl
    have e := Option.some.inj he
    injection e with e1
    subst e1
    exact World.block_lt_of_cell? w _ hcell
theorem Blk.drawnR {W W' : World} {b g : Nat} {t : TypeId} {vs : Array Value} {a : Option Addr} {len cap : Nat} (h : Blk W b t vs) (hne : g ≠ b) (hd : Drawn g a len cap W W') : Blk W' b t vs := h.grown hd.2 (by intro e; injection e; omega)
def threeOf (x y z : Int) (n : Int) : Int := [x, y, z].getD n.toNat 0
theorem three_at {W : World} {q : Nat} {x y z n : Int} (h : Blk W q 2 #[.int .i64 x, .int .i64 y, .int .i64 z]) (h0 : 0 ≤ n) (h1 : n < 3) : W.cell? ⟨q, n.toNat, none⟩ = some (.int .i64 (threeOf x y z n)) := by
  rw [h.cell]
  have : n = 0 ∨ n = 1 ∨ n = 2 := by omega
  rcases this with rfl | rfl | rfl <;> rfl
structure RlsAt (w W : World) (g : Nat) (a : Option Addr) (len cap : Nat) (f : Value) (ls : List Hd) : Prop where
  drawn : Drawn g a len cap w W
  own : W.ownsRow w.heap.size 47 9 f ls.length (rcells Hd.cl ls)
section
variable {w W W' w5 : World} {g : Nat} {a : Option Addr} {len cap : Nat} {f : Value} {ls : List Hd} {x : Hd} {o : Obj} {a5 : Option Addr} {n5 c5 : Nat}
theorem RlsAt.step (h : RlsAt w W g a len cap f ls) (hg : g < w.heap.size) (hd : Drawn g a len cap W W') : RlsAt w W' g a len cap f ls := by
  refine ⟨h.drawn.trans hd, h.own.kept hd.2 ?_⟩
  cases hv : f.ownBlock with
  | none => exact .inl rfl
  | some b => right; intro e; injection e with e; have := (h.own.lt b hv).1; omega
theorem RlsAt.below (h : RlsAt w W g a len cap f ls) (hg : g < w.heap.size) (ha : ∀ b off, 0 < len → a = some ⟨b, off, none⟩ → b < w.heap.size) (hb : Below W.heap.size W W') : RlsAt w W' g a len cap f ls :=
  ⟨h.drawn.lowR hg ha (hb.mono h.drawn.2.size), rown_below h.own hb⟩
theorem RlsAt.app (h : RlsAt w W g a len cap f ls) (hg : g < w.heap.size) (ha : ∀ b off, 0 < len → a = some ⟨b, off, none⟩ → b < w.heap.size) (hn5 : n5 = (ls ++ [x]).length)
    (ho : w5.ownsRow w.heap.size 47 9 (.slice a5 n5 c5) n5 (rcells Hd.cl (ls ++ [x]))) (hgr : (W.alloc o).grownBy w5 f.ownBlock) : RlsAt w w5 g a len cap (.slice a5 n5 c5) (ls ++ [x]) :=
  ⟨h.drawn.lowR hg ha (app_below (Below.refl _ W) h.drawn.2.size h.own hgr), by rw [← hn5]; exact ho⟩
/- a block of the draw's own is written: the list stays -/
theorem RlsAt.put3 (h : RlsAt w W g a len cap f ls) (hg : g < w.heap.size) (ha : ∀ b off, 0 < len → a = some ⟨b, off, none⟩ → b < w.heap.size) {q : Nat} {t : TypeId} {cs : Array Value} (hq : w.heap.size ≤ q) (_N : Blk W q t cs) (hne : some q ≠ f.ownBlock) (v0 v1 v2 : Value) :
    RlsAt w (((W.setCell ⟨q, 0, none⟩ v0).setCell ⟨q, 1, none⟩ v1).setCell ⟨q, 2, none⟩ v2) g a len cap f ls := by
  refine ⟨h.drawn.lowR hg ha ((((Below.refl _ W).setCell hq _).setCell hq _).setCell hq _), ?_⟩
  have hgb : W.grownBy (((W.setCell ⟨q, 0, none⟩ v0).setCell ⟨q, 1, none⟩ v1).setCell ⟨q, 2, none⟩ v2) (some q) := grownSet (grownSet (grownSet (World.grownBy.refl _ _)))
  exact h.own.kept hgb (by cases hv : f.ownBlock with
    | none => exact .inl rfl
    | some b => right; rw [← hv]; exact fun e => hne e.symm)
end
theorem RlsAt.peer {w W : World} {g : Nat} {a : Option Addr} {len cap b c : Nat} {x : Hd} {t : List Hd} (z : Int) (h : RlsAt w W g a len cap (.slice (some ⟨b, 0, none⟩) (x :: t).length c) (x :: t)) (hg : g < w.heap.size) (ha : ∀ b off, 0 < len → a = some ⟨b, off, none⟩ → b < w.heap.size) :
    RlsAt w (W.setCell ⟨b, 0, none⟩ (.int .i64 z)) g a len cap (.slice (some ⟨b, 0, none⟩) (x :: t).length c) (⟨z, x.s, x.r⟩ :: t) := by
  have hb := (h.own.lt b rfl).1
  exact ⟨h.drawn.lowR hg ha ((Below.refl _ W).setCell hb _), (h.own.stored 0 (.int .i64 z)).1⟩
theorem RlsAt.route {w W : World} {g : Nat} {a : Option Addr} {len cap b c : Nat} {x : Hd} {t : List Hd} (y : Rt) (h : RlsAt w W g a len cap (.slice (some ⟨b, 0, none⟩) (x :: t).length c) (x :: t)) (hg : g < w.heap.size) (ha : ∀ b off, 0 < len → a = some ⟨b, off, none⟩ → b < w.heap.size) :
    RlsAt w (((((((W.setCell ⟨b, 2, none⟩ (.int .i64 y.kind)).setCell ⟨b, 3, none⟩ (.int .i64 y.vni)).setCell ⟨b, 4, none⟩ (.int .i64 y.mac)).setCell ⟨b, 5, none⟩ (.int .i64 y.ip)).setCell ⟨b, 6, none⟩ (.int .i64 y.org)).setCell ⟨b, 7, none⟩ (.int .i64 y.seq)).setCell ⟨b, 8, none⟩ (.bool y.st)) g a len cap (.slice (some ⟨b, 0, none⟩) (x :: t).length c) (⟨x.p, x.s, y⟩ :: t) := by
  have hb := (h.own.lt b rfl).1
  refine ⟨h.drawn.lowR hg ha (((((((( Below.refl _ W).setCell hb _).setCell hb _).setCell hb _).setCell hb _).setCell hb _).setCell hb _).setCell hb _), ?_⟩
  exact ((((((((h.own.stored 2 (.int .i64 y.kind)).1.stored 3 (.int .i64 y.vni)).1.stored 4 (.int .i64 y.mac)).1.stored 5 (.int .i64 y.ip)).1.stored 6 (.int .i64 y.org)).1.stored 7 (.int .i64 y.seq)).1.stored 8 (.bool y.st)).1)
def RibPost (g : Nat) (a : Option Addr) (len cap : Nat) (w : World) (e : Ending) (w' : World) : Prop := ∃ v ls, e = .returned v ∧ w'.ownsRow w.heap.size 47 9 v ls.length (rcells Hd.cl ls) ∧ ls.length ≤ 201 ∧ Drawn g a len cap w w'
set_option maxRecDepth 100000 in
set_option maxHeartbeats 16000000 in
theorem draw_rib {g len cap : Nat} {a : Option Addr} {w : World} (h : Src w g a len cap) :
    Calls Tryz.prog 29 #[.pointer (some ⟨g, 0, none⟩)] w (RibPost g a len cap w) := by
  have HA := Lib.hid h.bytes.ltR
  have H := Lib.hid h; clear h
  have hgl := H.out.src.lt
  unfold RibPost
  go_enter Tryz.func29, Tryz.ntmps29
  go_wp2_with fail
  refine (draw_n 10 (by omega) (by omega) (H.out.alloc _)).mono ?_
  rintro e w1 ⟨x, rfl, ⟨hx0, hx1⟩, hd⟩
  have S : RlsAt w w1 g a len cap (.slice (some ⟨w.heap.size, 0, none⟩) 0 0) [] := by
    refine ⟨Drawn.from hd, ?_⟩
    have k : (w.alloc (.cells #[] 47)).ownsRow w.heap.size 47 9 (.slice (some ⟨w.heap.size, 0, none⟩) 0 0) 0 [] := World.ownsRow_made w #[] 0 (Nat.le_refl _) (by decide) rfl
    exact k.kept hd.2 (.inr (by simp [Value.ownBlock]; omega))
  obtain ⟨kx, rfl⟩ : ∃ k : Nat, x = (k : Int) := ⟨x.toNat, by omega⟩
  have hkx : kx ≤ 1000 := by omega
  clear hx0 hx1 hd H
  have HS0 := Lib.hid S
  clear S
  go_wp2_with fail
  go_loopw [3, 4, 5] (fun f u _ wr => ∃ (k : Nat) (ls : List Hd), u = .int .i64 (k : Int) ∧ ls.length ≤ 200 ∧ k ≤ 1000 ∧ Hid (RlsAt w wr g a len cap f ls)) (fun _ u _ _ => (intOf u).toNat)
  case atStart => exact ⟨kx, [], rfl, by simp, by omega, HS0⟩
  case round =>
    clear HS0
    obtain ⟨k, ls, rfl, hl9, hk1, HSr⟩ := hrel
    have S := HSr.out
    clear HSr
    obtain ⟨fa, fc, rfl⟩ := rown_form S.own
    by_cases hpos : 0 < k
    · have hk0 : (0 : Int) < k := by omega
      go_wp2_with fail
      refine (draw_n 2 (by omega) (by omega) S.drawn.1).mono ?_
      rintro e w2 ⟨pp, rfl, ⟨hp0, hp1⟩, hd⟩
      replace S := S.step hgl hd
      have hwp : IntKind.i64.wrap (1 + pp) = 1 + pp := by simp only [IntKind.wrap_i64]; omega
      clear hd
      go_wp2_with fail
      refine (draw_route S.drawn.1).mono ?_
      rintro e w3 ⟨r, rfl, hd⟩
      replace S := S.step hgl hd
      clear hd
      go_wp2_with fail
      refine (specRibPut_any ls _ (1 + pp) r w3 (rows_of_own Hd.cl_len S.own) (NcOk.of_own S.own) (by omega)).mono ?_
      rintro e w4 ⟨v, t, rfl, hv, ht, hap, hb⟩
      have hl9' := putR_len ls (1 + pp) r
      obtain ⟨va, vc, rfl⟩ := rown_form hv
      obtain ⟨ta, tc, rfl⟩ := rown_form ht
      generalize putR ls (1 + pp) r = R at *
      have S2 := S.below hgl HA.out (hb.alloc hb.size (.cells #[.slice va R.rib.length vc, .slice ta R.gone.length tc, .int .i64 R.code] 30))
      have S3 : RlsAt w (w4.alloc (.cells #[.slice va R.rib.length vc, .slice ta R.gone.length tc, .int .i64 R.code] 30)) g a len cap (.slice va R.rib.length vc) R.rib := ⟨S2.drawn, (rown_mono hv S.drawn.2.size).alloc _⟩
      have X4 := Blk.new w4 30 #[.slice va R.rib.length vc, .slice ta R.gone.length tc, .int .i64 R.code]
      have hqw : w.heap.size ≤ w4.heap.size := Nat.le_trans S.drawn.2.size hb.size
      have hqn : ∀ fv ls', RlsAt w w3 g a len cap fv ls' → some w4.heap.size ≠ fv.ownBlock := fun fv ls' k e => by
        have := (k.own.lt _ e.symm).2
        have := hb.size
        omega
      have hqf := hqn _ _ S
      clear hqn
      clear hb hap hv ht S
      unfold roV
      go_upto_region 6 with fail
      generalize (w4.alloc (.cells #[.slice va R.rib.length vc, .slice ta R.gone.length tc, .int .i64 R.code] 30)) = w5 at *
      generalize w4.heap.size = q at *
      generalize R.code = cd at *
      generalize R.rib = RR at *
      generalize R.gone = RG at *
      have hgq : g ≠ q := by omega
      go_wp2_with fail
      refine (draw_n 6 (by omega) (by omega) S2.drawn.1).mono ?_
      rintro e w6 ⟨sw, rfl, ⟨hs0, hs1⟩, hd⟩
      replace S2 := S2.step hgl hd
      replace S3 := S3.step hgl hd
      replace X4 := X4.drawnR hgq hd
      clear hd
      by_cases h0 : sw = 0
      · subst h0
        clear S3
        go_wp2_with fail
        refine (draw_n 2 (by omega) (by omega) S2.drawn.1).mono ?_
        rintro e w7 ⟨p2, rfl, ⟨hp20, hp21⟩, hd⟩
        replace S2 := S2.step hgl hd
        replace X4 := X4.drawnR hgq hd
        clear hd
        have hwp2 : IntKind.i64.wrap (1 + p2) = 1 + p2 := by simp only [IntKind.wrap_i64]; omega
        have hqL : q < w7.heap.size := World.block_lt_of_cell? w7 _ (show w7.cell? ⟨q, 0, none⟩ = some (.slice va RR.length vc) from by rw [X4.cell]; rfl)
        go_wp2_with fail
        refine (specRibStale_any ls _ (1 + p2) w7 (rows_of_own Hd.cl_len S2.own) (NilOk.of_own S2.own) (by omega)).mono ?_
        rintro e w8 ⟨v, t, rfl, hv, ht, hap, hb⟩
        have hl8 := staleR_len ls (1 + p2)
        obtain ⟨va2, vc2, rfl⟩ := rown_form hv
        obtain ⟨ta2, tc2, rfl⟩ := rown_form ht
        generalize staleR ls (1 + p2) = R2 at *
        replace X4 := X4.kept hb
        have hne2 : some q ≠ (Value.slice va2 R2.rib.length vc2).ownBlock := fun e => by
          have := (hv.lt _ e.symm).1
          omega
        have S4 : RlsAt w w8 g a len cap (.slice va2 R2.rib.length vc2) R2.rib := ⟨(S2.below hgl HA.out hb).drawn, rown_mono hv S2.drawn.2.size⟩
        replace S4 := S4.put3 hgl HA.out hqw X4 hne2 (.slice va2 R2.rib.length vc2) (.slice ta2 R2.gone.length tc2) (.int .i64 R2.code)
        have S5 := (S2.below hgl HA.out hb).put3 hgl HA.out hqw X4 hqf (.slice va2 R2.rib.length vc2) (.slice ta2 R2.gone.length tc2) (.int .i64 R2.code)
        have X5 := ((X4.set 0 (.slice va2 R2.rib.length vc2)).set 1 (.slice ta2 R2.gone.length tc2)).set 2 (.int .i64 R2.code)
        simp only [List.setIfInBounds_toArray, List.set_cons_zero, List.set_cons_succ] at X5
        have hc0 := X4.cell
        have hf0 := X4.frozen
        clear hb hap hv ht S2 X4
        unfold roV
        go_upto_region 11 with fail
        generalize ((w8.setCell ⟨q, 0, none⟩ (.slice va2 R2.rib.length vc2)).setCell ⟨q, 1, none⟩ (.slice ta2 R2.gone.length tc2)).setCell ⟨q, 2, none⟩ (.int .i64 R2.code) = w9 at *
        clear hc0 hf0
        have hc := X5.cell
        generalize R2.code = cd2 at *
        by_cases hcd : cd2 = 0
        · subst hcd
          go_wp2_with fail
          go_roundw
          case rel => exact ⟨k - 1, R2.rib, by congr 1; omega, by omega, by omega, Lib.hid S4⟩
          case measure => simp [intOf]; omega
        · go_wp2_with fail
          go_roundw
          case rel => exact ⟨k - 1, ls, by congr 1; omega, by omega, by omega, Lib.hid S5⟩
          case measure => simp [intOf]; omega
      · by_cases h1 : sw = 1
        · subst h1
          clear S3
          go_wp2_with fail
          refine (draw_n 2 (by omega) (by omega) S2.drawn.1).mono ?_
          rintro e w7 ⟨p2, rfl, ⟨hp20, hp21⟩, hd⟩
          replace S2 := S2.step hgl hd
          replace X4 := X4.drawnR hgq hd
          clear hd
          have hwp2 : IntKind.i64.wrap (1 + p2) = 1 + p2 := by simp only [IntKind.wrap_i64]; omega
          have hqL : q < w7.heap.size := World.block_lt_of_cell? w7 _ (show w7.cell? ⟨q, 0, none⟩ = some (.slice va RR.length vc) from by rw [X4.cell]; rfl)
          go_wp2_with fail
          refine (specRibSweep_any ls _ (1 + p2) w7 (rows_of_own Hd.cl_len S2.own) (NilOk.of_own S2.own) (by omega)).mono ?_
          rintro e w8 ⟨v, t, rfl, hv, ht, hap, hb⟩
          have hl8 := sweepR_len ls (1 + p2)
          obtain ⟨va2, vc2, rfl⟩ := rown_form hv
          obtain ⟨ta2, tc2, rfl⟩ := rown_form ht
          generalize sweepR ls (1 + p2) = R2 at *
          replace X4 := X4.kept hb
          have hne2 : some q ≠ (Value.slice va2 R2.rib.length vc2).ownBlock := fun e => by
            have := (hv.lt _ e.symm).1
            omega
          have S4 : RlsAt w w8 g a len cap (.slice va2 R2.rib.length vc2) R2.rib := ⟨(S2.below hgl HA.out hb).drawn, rown_mono hv S2.drawn.2.size⟩
          replace S4 := S4.put3 hgl HA.out hqw X4 hne2 (.slice va2 R2.rib.length vc2) (.slice ta2 R2.gone.length tc2) (.int .i64 R2.code)
          have S5 := (S2.below hgl HA.out hb).put3 hgl HA.out hqw X4 hqf (.slice va2 R2.rib.length vc2) (.slice ta2 R2.gone.length tc2) (.int .i64 R2.code)
          have X5 := ((X4.set 0 (.slice va2 R2.rib.length vc2)).set 1 (.slice ta2 R2.gone.length tc2)).set 2 (.int .i64 R2.code)
          simp only [List.setIfInBounds_toArray, List.set_cons_zero, List.set_cons_succ] at X5
          have hc0 := X4.cell
          have hf0 := X4.frozen
          clear hb hap hv ht S2 X4
          unfold roV
          go_upto_region 11 with fail
          generalize ((w8.setCell ⟨q, 0, none⟩ (.slice va2 R2.rib.length vc2)).setCell ⟨q, 1, none⟩ (.slice ta2 R2.gone.length tc2)).setCell ⟨q, 2, none⟩ (.int .i64 R2.code) = w9 at *
          clear hc0 hf0
          have hc := X5.cell
          generalize R2.code = cd2 at *
          by_cases hcd : cd2 = 0
          · subst hcd
            go_wp2_with fail
            go_roundw
            case rel => exact ⟨k - 1, R2.rib, by congr 1; omega, by omega, by omega, Lib.hid S4⟩
            case measure => simp [intOf]; omega
          · go_wp2_with fail
            go_roundw
            case rel => exact ⟨k - 1, ls, by congr 1; omega, by omega, by omega, Lib.hid S5⟩
            case measure => simp [intOf]; omega
        · have hc := X4.cell
          by_cases hcd : cd = 0
          · subst hcd
            go_wp2_with fail
            go_roundw
            case rel => exact ⟨k - 1, RR, by congr 1; omega, by omega, by omega, Lib.hid S3⟩
            case measure => simp [intOf]; omega
          · go_wp2_with fail
            go_roundw
            case rel => exact ⟨k - 1, ls, by congr 1; omega, by omega, by omega, Lib.hid S2⟩
            case measure => simp [intOf]; omega
    · have hk0 : k = 0 := by omega
      subst hk0
      clear hpos
      go_wp2_with fail
      refine (draw_one 15 (by omega) (by omega) S.drawn.1).mono ?_
      rintro e w6 ⟨z, rfl, hd⟩
      replace S := S.step hgl hd
      clear hd
      cases z
      · have HL10 : Hid (ls.length ≤ 201) := Lib.hid (by omega)
        go_wp2_with fail
        refine (draw_one 25 (by omega) (by omega) S.drawn.1).mono ?_
        rintro e w20 ⟨z20, rfl, hd⟩
        replace S := S.step hgl hd
        clear hd
        cases z20
        · go_wp2_with fail
          go_ret
          exact ⟨_, _, rfl, S.own, HL10.out, S.drawn⟩
        · have HS0 : Hid (RlsAt w w20 g a len cap (.slice none 0 0) []) := Lib.hid ⟨S.drawn, World.ownsRow_nil _ _ _ _⟩
          clear S HL10
          go_wp2_with fail
          go_loopw [3, 6] (fun f u wr => ∃ (i : Nat) (ls : List Hd), u = .int .i64 (i : Int) ∧ i ≤ 61 ∧ ls.length = i ∧ Hid (RlsAt w wr g a len cap f ls)) (fun _ u _ => 61 - (intOf u).toNat)
          case atStart => exact ⟨0, [], rfl, by omega, rfl, HS0⟩
          case round =>
            clear HS0
            obtain ⟨i, ls2, rfl, hi, hli, HSr⟩ := hrel
            have S := HSr.out
            have HLI := Lib.hid hli
            clear HSr hli
            obtain ⟨fa2, fc2, rfl⟩ := rown_form S.own
            rw [HLI.out] at S ⊢
            go_wp2_with fail
            refine (draw_n 2 (by omega) (by omega) S.drawn.1).mono ?_
            rintro e w21 ⟨x21, rfl, ⟨hx0, hx1⟩, hd⟩
            replace S := S.step hgl hd
            clear hd
            by_cases hlt : (i : Int) < 60 + x21
            · have hi8 : i ≤ 60 := by omega
              have HS := Lib.hid S
              clear S
              have HLt := Lib.hid (lit_cells (cl := Hd.cl) w21 #[.int .i64 1, .bool false, .int .i64 2, .int .i64 5, .int .i64 (200 + i), .int .i64 0, .int .i64 1, .int .i64 0, .bool false] 47 ⟨1, false, ⟨2, 5, 200 + i, 0, 1, 0, false⟩⟩ rfl)
              go_wp2_with (at_builtin; refine wpList_append_row Hd.cl_len Hd.cl_one1 tyH _ rfl _ _ rfl w.heap.size _ ls2 ⟨1, false, ⟨2, 5, 200 + i, 0, 1, 0, false⟩⟩ rfl (HS.out.own.alloc _) ⟨w21.heap.size, 0, none⟩ rfl HLt.out (by have := HLI.out; omega) (by have := HS.out.drawn.2.size; simp; omega) ?_; intro a' c' n' w5 HN5 hown5 hg5; have HS5 := Lib.hid (HS.out.app hgl HA.out HN5.out hown5 hg5); clear hown5 hg5)
              go_roundw
              case rel => exact ⟨i + 1, _, by simp, by omega, by rw [List.length_append, HLI.out]; rfl, HS5⟩
              case measure => simp [intOf]; omega
            · go_wp2_with fail
              go_ret
              exact ⟨.slice fa2 i fc2, ls2, rfl, S.own, (by have := HLI.out; omega), S.drawn⟩
      · obtain ⟨n, hn⟩ : ∃ n, n = ls.length := ⟨_, rfl⟩
        rw [← hn] at S ⊢
        have HN := Lib.hid hn
        by_cases hn0 : n = 0
        · have HL10 : Hid (ls.length ≤ 201) := Lib.hid (by omega)
          clear hn hl9
          subst hn0
          go_wp2_with fail
          refine (draw_one 25 (by omega) (by omega) S.drawn.1).mono ?_
          rintro e w20 ⟨z20, rfl, hd⟩
          replace S := S.step hgl hd
          clear hd
          cases z20
          · go_wp2_with fail
            go_ret
            exact ⟨_, _, rfl, S.own, HL10.out, S.drawn⟩
          · have HS0 : Hid (RlsAt w w20 g a len cap (.slice none 0 0) []) := Lib.hid ⟨S.drawn, World.ownsRow_nil _ _ _ _⟩
            clear S HL10
            go_wp2_with fail
            go_loopw [3, 6] (fun f u wr => ∃ (i : Nat) (ls : List Hd), u = .int .i64 (i : Int) ∧ i ≤ 61 ∧ ls.length = i ∧ Hid (RlsAt w wr g a len cap f ls)) (fun _ u _ => 61 - (intOf u).toNat)
            case atStart => exact ⟨0, [], rfl, by omega, rfl, HS0⟩
            case round =>
              clear HS0
              obtain ⟨i, ls2, rfl, hi, hli, HSr⟩ := hrel
              have S := HSr.out
              have HLI := Lib.hid hli
              clear HSr hli
              obtain ⟨fa2, fc2, rfl⟩ := rown_form S.own
              rw [HLI.out] at S ⊢
              go_wp2_with fail
              refine (draw_n 2 (by omega) (by omega) S.drawn.1).mono ?_
              rintro e w21 ⟨x21, rfl, ⟨hx0, hx1⟩, hd⟩
              replace S := S.step hgl hd
              clear hd
              by_cases hlt : (i : Int) < 60 + x21
              · have hi8 : i ≤ 60 := by omega
                have HS := Lib.hid S
                clear S
                have HLt := Lib.hid (lit_cells (cl := Hd.cl) w21 #[.int .i64 1, .bool false, .int .i64 2, .int .i64 5, .int .i64 (200 + i), .int .i64 0, .int .i64 1, .int .i64 0, .bool false] 47 ⟨1, false, ⟨2, 5, 200 + i, 0, 1, 0, false⟩⟩ rfl)
                go_wp2_with (at_builtin; refine wpList_append_row Hd.cl_len Hd.cl_one1 tyH _ rfl _ _ rfl w.heap.size _ ls2 ⟨1, false, ⟨2, 5, 200 + i, 0, 1, 0, false⟩⟩ rfl (HS.out.own.alloc _) ⟨w21.heap.size, 0, none⟩ rfl HLt.out (by have := HLI.out; omega) (by have := HS.out.drawn.2.size; simp; omega) ?_; intro a' c' n' w5 HN5 hown5 hg5; have HS5 := Lib.hid (HS.out.app hgl HA.out HN5.out hown5 hg5); clear hown5 hg5)
                go_roundw
                case rel => exact ⟨i + 1, _, by simp, by omega, by rw [List.length_append, HLI.out]; rfl, HS5⟩
                case measure => simp [intOf]; omega
              · go_wp2_with fail
                go_ret
                exact ⟨.slice fa2 i fc2, ls2, rfl, S.own, (by have := HLI.out; omega), S.drawn⟩
        · have hlp : (0 : Int) < n := by omega
          obtain ⟨x, t, rfl⟩ : ∃ x t, ls = x :: t := by
            cases ls with
            | nil => exact absurd hn hn0
            | cons x t => exact ⟨x, t, rfl⟩
          have HTl : Hid ((x :: t).length ≤ 200) := Lib.hid hl9
          have hn200 : n ≤ 200 := by omega
          clear hn hn0 hl9
          go_wp2_with fail
          refine (draw_n 3 (by omega) (by omega) S.drawn.1).mono ?_
          rintro e w7 ⟨sw, rfl, ⟨hs0, hs1⟩, hd⟩
          replace S := S.step hgl hd
          clear hd
          obtain ⟨b, rfl⟩ : ∃ b, fa = some ⟨b, 0, none⟩ := by
            rcases S.own.2 with ⟨e, e2⟩ | ⟨g', cap', cur, e, _⟩
            · have := HN.out
              rw [← this] at e2
              omega
            · injection e with e1
              exact ⟨g', e1⟩
          have hsw : sw = 0 ∨ sw = 1 ∨ sw = 2 := by omega
          clear hs0 hs1
          have hsz : ∀ j, j < 9 → j < (x :: t).length * 9 := fun j hj => by rw [List.length_cons]; omega
          rw [HN.out] at S ⊢
          rcases hsw with rfl | rfl | rfl
          · have X3 := Blk.new w7 2 #[.int .i64 0, .int .i64 9, .int .i64 10]
            have hq7 : g ≠ w7.heap.size := by have := S.drawn.2.size; omega
            have S2 := S.below hgl HA.out ((Below.refl _ w7).alloc (Nat.le_refl _) (.cells #[.int .i64 0, .int .i64 9, .int .i64 10] 2))
            rw [← HN.out] at S2 ⊢
            go_wp2_with fail
            refine (draw_n 3 (by omega) (by omega) S2.drawn.1).mono ?_
            rintro e w8 ⟨y, rfl, ⟨hy0, hy1⟩, hd⟩
            replace S2 := S2.step hgl hd
            replace X3 := X3.drawnR hq7 hd
            generalize w7.heap.size = q at *
            clear hd S
            have hc := three_at X3 hy0 hy1
            generalize threeOf 0 9 10 y = yv at *
            rw [HN.out] at S2
            have p0 : w8.cell? ⟨b, 0, none⟩ = some (.int .i64 x.p) := S2.own.cellAt 0 (hsz 0 (by omega))
            have pf := fun j => S2.own.frozenAt j
            have S9 := S2.peer yv hgl HA.out
            rw [← HN.out] at S9
            go_upto_region 20 with fail
            obtain ⟨W9, hW9⟩ : ∃ W, W = w8.setCell ⟨b, 0, none⟩ (.int .i64 yv) := ⟨_, rfl⟩
            rw [← hW9] at S9 ⊢
            have HL10 : Hid ((⟨yv, x.s, x.r⟩ :: t : List Hd).length ≤ 201) := Lib.hid (by have := HTl.out; simp at this ⊢; omega)
            clear hW9 p0 pf S2 hsz hc X3
            have S := S9
            clear S9
            go_wp2_with fail
            refine (draw_one 25 (by omega) (by omega) S.drawn.1).mono ?_
            rintro e w20 ⟨z20, rfl, hd⟩
            replace S := S.step hgl hd
            clear hd
            cases z20
            · go_wp2_with fail
              go_ret
              exact ⟨_, _, rfl, S.own, HL10.out, S.drawn⟩
            · have HS0 : Hid (RlsAt w w20 g a len cap (.slice none 0 0) []) := Lib.hid ⟨S.drawn, World.ownsRow_nil _ _ _ _⟩
              clear S HL10
              go_wp2_with fail
              go_loopw [3, 6] (fun f u wr => ∃ (i : Nat) (ls : List Hd), u = .int .i64 (i : Int) ∧ i ≤ 61 ∧ ls.length = i ∧ Hid (RlsAt w wr g a len cap f ls)) (fun _ u _ => 61 - (intOf u).toNat)
              case atStart => exact ⟨0, [], rfl, by omega, rfl, HS0⟩
              case round =>
                clear HS0
                obtain ⟨i, ls2, rfl, hi, hli, HSr⟩ := hrel
                have S := HSr.out
                have HLI := Lib.hid hli
                clear HSr hli
                obtain ⟨fa2, fc2, rfl⟩ := rown_form S.own
                rw [HLI.out] at S ⊢
                go_wp2_with fail
                refine (draw_n 2 (by omega) (by omega) S.drawn.1).mono ?_
                rintro e w21 ⟨x21, rfl, ⟨hx0, hx1⟩, hd⟩
                replace S := S.step hgl hd
                clear hd
                by_cases hlt : (i : Int) < 60 + x21
                · have hi8 : i ≤ 60 := by omega
                  have HS := Lib.hid S
                  clear S
                  have HLt := Lib.hid (lit_cells (cl := Hd.cl) w21 #[.int .i64 1, .bool false, .int .i64 2, .int .i64 5, .int .i64 (200 + i), .int .i64 0, .int .i64 1, .int .i64 0, .bool false] 47 ⟨1, false, ⟨2, 5, 200 + i, 0, 1, 0, false⟩⟩ rfl)
                  go_wp2_with (at_builtin; refine wpList_append_row Hd.cl_len Hd.cl_one1 tyH _ rfl _ _ rfl w.heap.size _ ls2 ⟨1, false, ⟨2, 5, 200 + i, 0, 1, 0, false⟩⟩ rfl (HS.out.own.alloc _) ⟨w21.heap.size, 0, none⟩ rfl HLt.out (by have := HLI.out; omega) (by have := HS.out.drawn.2.size; simp; omega) ?_; intro a' c' n' w5 HN5 hown5 hg5; have HS5 := Lib.hid (HS.out.app hgl HA.out HN5.out hown5 hg5); clear hown5 hg5)
                  go_roundw
                  case rel => exact ⟨i + 1, _, by simp, by omega, by rw [List.length_append, HLI.out]; rfl, HS5⟩
                  case measure => simp [intOf]; omega
                · go_wp2_with fail
                  go_ret
                  exact ⟨.slice fa2 i fc2, ls2, rfl, S.own, (by have := HLI.out; omega), S.drawn⟩
          · have hcs := fun j hj => S.own.cellAt j (hsz j hj)
            have p0 : w7.cell? ⟨b, 0, none⟩ = some (.int .i64 x.p) := hcs 0 (by omega)
            have p1 : w7.cell? ⟨b, 1, none⟩ = some (.bool x.s) := hcs 1 (by omega)
            have p2 : w7.cell? ⟨b, 2, none⟩ = some (.int .i64 x.r.kind) := hcs 2 (by omega)
            have p3 : w7.cell? ⟨b, 3, none⟩ = some (.int .i64 x.r.vni) := hcs 3 (by omega)
            have p4 : w7.cell? ⟨b, 4, none⟩ = some (.int .i64 x.r.mac) := hcs 4 (by omega)
            have p5 : w7.cell? ⟨b, 5, none⟩ = some (.int .i64 x.r.ip) := hcs 5 (by omega)
            have p6 : w7.cell? ⟨b, 6, none⟩ = some (.int .i64 x.r.org) := hcs 6 (by omega)
            have p7 : w7.cell? ⟨b, 7, none⟩ = some (.int .i64 x.r.seq) := hcs 7 (by omega)
            have p8 : w7.cell? ⟨b, 8, none⟩ = some (.bool x.r.st) := hcs 8 (by omega)
            rw [← HN.out] at S ⊢
            have HS := Lib.hid S
            clear S hsz hcs
            go_wp2_with (at_builtin; refine wpList_append_row Hd.cl_len Hd.cl_one1 tyH _ rfl _ _ rfl w.heap.size _ (x :: t) x rfl (HS.out.own.alloc _) ⟨w7.heap.size, 0, none⟩ rfl (lit_cells w7 _ _ x rfl) (by have := HTl.out; omega) (by have := HS.out.drawn.2.size; simp; omega) ?_; intro a' c' n' w5 HN5 hown5 hg5; have HS5 := Lib.hid (HS.out.app hgl HA.out HN5.out hown5 hg5); clear hown5 hg5)
            have S := HS5.out
            have HL10 : Hid (((x :: t) ++ [x]).length ≤ 201) := Lib.hid (by rw [List.length_append]; have := HTl.out; simp at this ⊢; omega)
            clear HS5 HS p0 p1 p2 p3 p4 p5 p6 p7 p8
            refine (draw_one 25 (by omega) (by omega) S.drawn.1).mono ?_
            rintro e w20 ⟨z20, rfl, hd⟩
            replace S := S.step hgl hd
            clear hd
            cases z20
            · go_wp2_with fail
              go_ret
              exact ⟨_, _, rfl, S.own, HL10.out, S.drawn⟩
            · have HS0 : Hid (RlsAt w w20 g a len cap (.slice none 0 0) []) := Lib.hid ⟨S.drawn, World.ownsRow_nil _ _ _ _⟩
              clear S HL10
              go_wp2_with fail
              go_loopw [3, 6] (fun f u wr => ∃ (i : Nat) (ls : List Hd), u = .int .i64 (i : Int) ∧ i ≤ 61 ∧ ls.length = i ∧ Hid (RlsAt w wr g a len cap f ls)) (fun _ u _ => 61 - (intOf u).toNat)
              case atStart => exact ⟨0, [], rfl, by omega, rfl, HS0⟩
              case round =>
                clear HS0
                obtain ⟨i, ls2, rfl, hi, hli, HSr⟩ := hrel
                have S := HSr.out
                have HLI := Lib.hid hli
                clear HSr hli
                obtain ⟨fa2, fc2, rfl⟩ := rown_form S.own
                rw [HLI.out] at S ⊢
                go_wp2_with fail
                refine (draw_n 2 (by omega) (by omega) S.drawn.1).mono ?_
                rintro e w21 ⟨x21, rfl, ⟨hx0, hx1⟩, hd⟩
                replace S := S.step hgl hd
                clear hd
                by_cases hlt : (i : Int) < 60 + x21
                · have hi8 : i ≤ 60 := by omega
                  have HS := Lib.hid S
                  clear S
                  have HLt := Lib.hid (lit_cells (cl := Hd.cl) w21 #[.int .i64 1, .bool false, .int .i64 2, .int .i64 5, .int .i64 (200 + i), .int .i64 0, .int .i64 1, .int .i64 0, .bool false] 47 ⟨1, false, ⟨2, 5, 200 + i, 0, 1, 0, false⟩⟩ rfl)
                  go_wp2_with (at_builtin; refine wpList_append_row Hd.cl_len Hd.cl_one1 tyH _ rfl _ _ rfl w.heap.size _ ls2 ⟨1, false, ⟨2, 5, 200 + i, 0, 1, 0, false⟩⟩ rfl (HS.out.own.alloc _) ⟨w21.heap.size, 0, none⟩ rfl HLt.out (by have := HLI.out; omega) (by have := HS.out.drawn.2.size; simp; omega) ?_; intro a' c' n' w5 HN5 hown5 hg5; have HS5 := Lib.hid (HS.out.app hgl HA.out HN5.out hown5 hg5); clear hown5 hg5)
                  go_roundw
                  case rel => exact ⟨i + 1, _, by simp, by omega, by rw [List.length_append, HLI.out]; rfl, HS5⟩
                  case measure => simp [intOf]; omega
                · go_wp2_with fail
                  go_ret
                  exact ⟨.slice fa2 i fc2, ls2, rfl, S.own, (by have := HLI.out; omega), S.drawn⟩
          · rw [← HN.out] at S ⊢
            go_wp2_with fail
            refine (draw_route S.drawn.1).mono ?_
            rintro e w8 ⟨r, rfl, hd⟩
            replace S := S.step hgl hd
            clear hd
            rw [HN.out] at S
            have hcs := fun j hj => S.own.cellAt j (hsz j hj)
            have p2 : w8.cell? ⟨b, 2, none⟩ = some (.int .i64 x.r.kind) := hcs 2 (by omega)
            have p3 : w8.cell? ⟨b, 3, none⟩ = some (.int .i64 x.r.vni) := hcs 3 (by omega)
            have p4 : w8.cell? ⟨b, 4, none⟩ = some (.int .i64 x.r.mac) := hcs 4 (by omega)
            have p5 : w8.cell? ⟨b, 5, none⟩ = some (.int .i64 x.r.ip) := hcs 5 (by omega)
            have p6 : w8.cell? ⟨b, 6, none⟩ = some (.int .i64 x.r.org) := hcs 6 (by omega)
            have p7 : w8.cell? ⟨b, 7, none⟩ = some (.int .i64 x.r.seq) := hcs 7 (by omega)
            have p8 : w8.cell? ⟨b, 8, none⟩ = some (.bool x.r.st) := hcs 8 (by omega)
            have pf := fun j => S.own.frozenAt j
            have S9 := S.route r hgl HA.out
            rw [← HN.out] at S9
            clear hcs
            unfold Rt.val rtV
            go_upto_region 20 with fail
            obtain ⟨W9, hW9⟩ : ∃ W, W = (((((((w8.setCell ⟨b, 2, none⟩ (.int .i64 r.kind)).setCell ⟨b, 3, none⟩ (.int .i64 r.vni)).setCell ⟨b, 4, none⟩ (.int .i64 r.mac)).setCell ⟨b, 5, none⟩ (.int .i64 r.ip)).setCell ⟨b, 6, none⟩ (.int .i64 r.org)).setCell ⟨b, 7, none⟩ (.int .i64 r.seq)).setCell ⟨b, 8, none⟩ (.bool r.st)) := ⟨_, rfl⟩
            rw [← hW9] at S9 ⊢
            clear hW9 p2 p3 p4 p5 p6 p7 p8 pf S hsz
            have S := S9
            have HL10 : Hid ((⟨x.p, x.s, r⟩ :: t : List Hd).length ≤ 201) := Lib.hid (by have := HTl.out; simp at this ⊢; omega)
            clear S9
            go_wp2_with fail
            refine (draw_one 25 (by omega) (by omega) S.drawn.1).mono ?_
            rintro e w20 ⟨z20, rfl, hd⟩
            replace S := S.step hgl hd
            clear hd
            cases z20
            · go_wp2_with fail
              go_ret
              exact ⟨_, _, rfl, S.own, HL10.out, S.drawn⟩
            · have HS0 : Hid (RlsAt w w20 g a len cap (.slice none 0 0) []) := Lib.hid ⟨S.drawn, World.ownsRow_nil _ _ _ _⟩
              clear S HL10
              go_wp2_with fail
              go_loopw [3, 6] (fun f u wr => ∃ (i : Nat) (ls : List Hd), u = .int .i64 (i : Int) ∧ i ≤ 61 ∧ ls.length = i ∧ Hid (RlsAt w wr g a len cap f ls)) (fun _ u _ => 61 - (intOf u).toNat)
              case atStart => exact ⟨0, [], rfl, by omega, rfl, HS0⟩
              case round =>
                clear HS0
                obtain ⟨i, ls2, rfl, hi, hli, HSr⟩ := hrel
                have S := HSr.out
                have HLI := Lib.hid hli
                clear HSr hli
                obtain ⟨fa2, fc2, rfl⟩ := rown_form S.own
                rw [HLI.out] at S ⊢
                go_wp2_with fail
                refine (draw_n 2 (by omega) (by omega) S.drawn.1).mono ?_
                rintro e w21 ⟨x21, rfl, ⟨hx0, hx1⟩, hd⟩
                replace S := S.step hgl hd
                clear hd
                by_cases hlt : (i : Int) < 60 + x21
                · have hi8 : i ≤ 60 := by omega
                  have HS := Lib.hid S
                  clear S
                  have HLt := Lib.hid (lit_cells (cl := Hd.cl) w21 #[.int .i64 1, .bool false, .int .i64 2, .int .i64 5, .int .i64 (200 + i), .int .i64 0, .int .i64 1, .int .i64 0, .bool false] 47 ⟨1, false, ⟨2, 5, 200 + i, 0, 1, 0, false⟩⟩ rfl)
                  go_wp2_with (at_builtin; refine wpList_append_row Hd.cl_len Hd.cl_one1 tyH _ rfl _ _ rfl w.heap.size _ ls2 ⟨1, false, ⟨2, 5, 200 + i, 0, 1, 0, false⟩⟩ rfl (HS.out.own.alloc _) ⟨w21.heap.size, 0, none⟩ rfl HLt.out (by have := HLI.out; omega) (by have := HS.out.drawn.2.size; simp; omega) ?_; intro a' c' n' w5 HN5 hown5 hg5; have HS5 := Lib.hid (HS.out.app hgl HA.out HN5.out hown5 hg5); clear hown5 hg5)
                  go_roundw
                  case rel => exact ⟨i + 1, _, by simp, by omega, by rw [List.length_append, HLI.out]; rfl, HS5⟩
                  case measure => simp [intOf]; omega
                · go_wp2_with fail
                  go_ret
                  exact ⟨.slice fa2 i fc2, ls2, rfl, S.own, (by have := HLI.out; omega), S.drawn⟩
end Go.Proofs.YtdnpaopbicdolaaGreat

/- Draws of chapter 7: DrawRibSweep, DrawRoomsOf. -/
namespace Go.Proofs.YtdnpaopbicdolaaGreat
open Go.RowKit

theorem bytes_belowR {w w' : World} {a : Option Addr} {len : Nat} (h : BytesAt w a len) (hb : Below w.heap.size w w') : BytesAt w' a len := by
  have hl := h.ltR
  rcases h with h0 | ⟨b, off, rfl, hc⟩
  · exact .inl h0
  · refine .inr ⟨b, off, rfl, fun i hi => ?_⟩
    obtain ⟨z, h0, h1, hcell⟩ := hc i hi
    exact ⟨z, h0, h1, (hb.cell (p := ⟨b, off + i, none⟩) (hl b off (by omega) rfl)).trans hcell⟩
theorem src_belowR {w w1 w2 : World} {g : Nat} {a : Option Addr} {len cap : Nat} (hb : Below w.heap.size w w1) (hg : w.heap.size ≤ g) (hd : Drawn g a len cap w1 w2) : Below w.heap.size w w2 :=
  hb.grown hd.2 hb.size (fun k hk => by have : g = k := by simpa using hk
                                        omega)
theorem row_drawnR {w2 w3 : World} {g B n sz : Nat} {t : TypeId} {a : Option Addr} {len cap : Nat} {v : Value} {xs : List Value} (h : w2.ownsRow B t sz v n xs) (hg : g < B) (hd : Drawn g a len cap w2 w3) : w3.ownsRow B t sz v n xs := by
  refine h.kept hd.2 ?_
  cases hv : v.ownBlock with
  | none => exact .inl rfl
  | some b => right; intro e; injection e with e; have := (h.lt b hv).1; omega
def RsDraw (w : World) (e : Ending) (w' : World) : Prop := ∃ (v : Value) (ls : List Hd) (n : Int), e = .returned (.tuple #[v, .int .i64 n]) ∧ w'.ownsRow w.heap.size 47 9 v ls.length (rcells Hd.cl ls) ∧ ls.length ≤ 201 ∧ Below w.heap.size w w'
def RmDraw (w : World) (e : Ending) (w' : World) : Prop := ∃ (v : Value) (ls : List Hd) (n m : Int), e = .returned (.tuple #[v, .int .i64 n, .int .i64 m]) ∧ w'.ownsRow w.heap.size 47 9 v ls.length (rcells Hd.cl ls) ∧ ls.length ≤ 201 ∧ Below w.heap.size w w'
set_option maxRecDepth 100000 in
set_option maxHeartbeats 4000000 in
theorem draw_ribSweep {len cap : Nat} {a : Option Addr} {w : World} (hl : len ≤ 1048576) (hb : BytesAt w a len) :
    Calls Tryz.prog 10 #[.slice a len cap] w (RsDraw w) := by
  have HS := Lib.hid (draw_source (cap := cap) hl hb)
  clear hb
  go_enter Tryz.func10, Tryz.ntmps10
  go_wp2_with fail
  refine HS.out.mono ?_
  rintro e w1 ⟨g, rfl, hg, hs, hb1⟩
  have hgs := hs.src.lt
  have HR := Lib.hid (draw_rib hs)
  clear hs HS
  go_wp2_with fail
  refine HR.out.mono ?_
  rintro e w2 ⟨v, ls, rfl, hv, hl10, hd⟩
  have HB2 := src_belowR hb1 hg hd
  have hs1 := hb1.size
  have H2 := Lib.hid hd.1
  clear hd HR hb1
  obtain ⟨va, vc, rfl⟩ := rown_form hv
  go_wp2_with fail
  refine (draw_n 2 (by omega) (by omega) H2.out).mono ?_
  rintro e w3 ⟨n, rfl, ⟨hn0, hn1⟩, hd⟩
  have HB3 := src_belowR HB2 hg hd
  have hv3 := row_drawnR hv hgs hd
  have H3 := Lib.hid hd.1
  have hwn : IntKind.i64.wrap (1 + n) = 1 + n := by simp only [IntKind.wrap_i64]; omega
  clear hd HB2 hv H2
  go_wp2_with fail
  refine (draw_one 2 (by omega) (by omega) H3.out).mono ?_
  rintro e w4 ⟨z, rfl, hd⟩
  have HB4 := src_belowR HB3 hg hd
  have hv4 := row_drawnR hv3 hgs hd
  clear hd HB3 hv3 H3
  cases z
  · go_wp2_with fail
    refine bodyPost_ret (v := .tuple #[.slice va ls.length vc, .int .i64 (1 + n)]) (by simp [results, Tryz.results10, go_sem]) rfl ⟨_, ls, _, rfl, rown_mono hv4 hs1, hl10, HB4⟩
  · go_wp2_with fail
    refine (specRibStale_any ls _ (1 + n) w4 (rows_of_own Hd.cl_len hv4) (NilOk.of_own hv4) (by omega)).mono ?_
    rintro e w5 ⟨v2, t2, rfl, ho2, ht2, _, hb5⟩
    have hl2 := staleR_len ls (1 + n)
    generalize staleR ls (1 + n) = R at *
    obtain ⟨a2, c2, rfl⟩ := rown_form ho2
    obtain ⟨ta, tc, rfl⟩ := rown_form ht2
    have HB5 := HB4.trans (hb5.mono HB4.size)
    have hv5 := rown_below hv4 hb5
    have X6 := Blk.new w5 30 #[.slice a2 R.rib.length c2, .slice ta R.gone.length tc, .int .i64 R.code]
    have HV6 := Lib.hid (hv5.alloc (.cells #[.slice a2 R.rib.length c2, .slice ta R.gone.length tc, .int .i64 R.code] 30))
    have HO6 := Lib.hid ((rown_mono (B' := w.heap.size) ho2 HB4.size).alloc (.cells #[.slice a2 R.rib.length c2, .slice ta R.gone.length tc, .int .i64 R.code] 30))
    have HB6 := Lib.hid (HB5.alloc HB5.size (.cells #[.slice a2 R.rib.length c2, .slice ta R.gone.length tc, .int .i64 R.code] 30))
    clear hb5 ho2 ht2 HB5 HB4 hv4 hv5
    unfold roV
    go_upto_region 6 with fail
    generalize w5.alloc (.cells #[.slice a2 R.rib.length c2, .slice ta R.gone.length tc, .int .i64 R.code] 30) = w6 at *
    generalize w5.heap.size = q at *
    generalize R.code = cd at *
    have hc := X6.cell
    by_cases h0 : cd = 0
    · subst h0
      go_wp2_with fail
      refine bodyPost_ret (v := .tuple #[.slice a2 R.rib.length c2, .int .i64 (1 + n)]) (by simp [results, Tryz.results10, go_sem]) rfl ⟨_, R.rib, _, rfl, HO6.out, by omega, HB6.out⟩
    · go_wp2_with fail
      refine bodyPost_ret (v := .tuple #[.slice va ls.length vc, .int .i64 (1 + n)]) (by simp [results, Tryz.results10, go_sem]) rfl ⟨_, ls, _, rfl, rown_mono HV6.out hs1, hl10, HB6.out⟩
set_option maxRecDepth 100000 in
set_option maxHeartbeats 4000000 in
theorem draw_roomsOf {len cap : Nat} {a : Option Addr} {w : World} (hl : len ≤ 1048576) (hb : BytesAt w a len) :
    Calls Tryz.prog 12 #[.slice a len cap] w (RmDraw w) := by
  have HS := Lib.hid (draw_source (cap := cap) hl hb)
  clear hb
  go_enter Tryz.func12, Tryz.ntmps12
  go_wp2_with fail
  refine HS.out.mono ?_
  rintro e w1 ⟨g, rfl, hg, hs, hb1⟩
  have hgs := hs.src.lt
  have HA := Lib.hid hs.bytes.ltR
  have HR := Lib.hid (draw_rib hs)
  clear hs HS
  go_wp2_with fail
  refine HR.out.mono ?_
  rintro e w2 ⟨v, ls, rfl, hv, hl10, hd⟩
  have S : RlsAt w1 w2 g a len cap v ls := ⟨hd, hv⟩
  have hs1 := hb1.size
  have HB1 := Lib.hid hb1
  clear hd HR hb1 hv
  obtain ⟨va, vc, rfl⟩ := rown_form S.own
  go_wp2_with fail
  refine (draw_n 4 (by omega) (by omega) S.drawn.1).mono ?_
  rintro e w3 ⟨x, rfl, ⟨hx0, hx1⟩, hd⟩
  replace S := S.step hgs hd
  obtain ⟨kx, rfl⟩ : ∃ k : Nat, x = (k : Int) := ⟨x.toNat, by omega⟩
  have hkx : kx ≤ 1000 := by omega
  clear hx0 hx1 hd
  have HS0 := Lib.hid S
  clear S
  go_wp2_with fail
  go_loopw [6, 7, 8] (fun f u _ wr => ∃ (k : Nat) (ls : List Hd), u = .int .i64 (k : Int) ∧ ls.length ≤ 201 ∧ k ≤ 1000 ∧ Hid (RlsAt w1 wr g a len cap f ls)) (fun _ u _ _ => (intOf u).toNat)
  case atStart => exact ⟨kx, ls, rfl, hl10, by omega, HS0⟩
  case round =>
    clear HS0 hl10
    obtain ⟨k, ls, rfl, hl9, hk1, HSr⟩ := hrel
    have S := HSr.out
    clear HSr
    obtain ⟨fa, fc, rfl⟩ := rown_form S.own
    by_cases hpos : 0 < k
    · have hk0 : (0 : Int) < k := by omega
      go_wp2_with fail
      refine (draw_n 2 (by omega) (by omega) S.drawn.1).mono ?_
      rintro e w4 ⟨pp, rfl, ⟨hp0, hp1⟩, hd⟩
      replace S := S.step hgs hd
      have hwp : IntKind.i64.wrap (1 + pp) = 1 + pp := by simp only [IntKind.wrap_i64]; omega
      clear hd
      go_wp2_with fail
      refine (draw_n 4 (by omega) (by omega) S.drawn.1).mono ?_
      rintro e w5 ⟨o, rfl, ⟨ho0, ho1⟩, hd⟩
      replace S := S.step hgs hd
      have hwo : IntKind.i64.wrap (1 + o) = 1 + o := by simp only [IntKind.wrap_i64]; omega
      clear hd
      have HC := Lib.hid (specRibPut_any ls _ (1 + pp) ⟨3, 5, 0, 0, 1 + o, 0, false⟩ w5 (rows_of_own Hd.cl_len S.own) (NcOk.of_own S.own) (by omega))
      unfold Rt.val rtV at HC
      go_wp2_with fail
      refine HC.out.mono ?_
      rintro e w6 ⟨v, t, rfl, hv, ht, hap, hb⟩
      have hl9' := putR_len ls (1 + pp) ⟨3, 5, 0, 0, 1 + o, 0, false⟩
      clear HC
      obtain ⟨va, vc, rfl⟩ := rown_form hv
      obtain ⟨ta, tc, rfl⟩ := rown_form ht
      generalize putR ls (1 + pp) ⟨3, 5, 0, 0, 1 + o, 0, false⟩ = R at *
      have S2 := S.below hgs HA.out (hb.alloc hb.size (.cells #[.slice va R.rib.length vc, .slice ta R.gone.length tc, .int .i64 R.code] 30))
      have S3 : RlsAt w1 (w6.alloc (.cells #[.slice va R.rib.length vc, .slice ta R.gone.length tc, .int .i64 R.code] 30)) g a len cap (.slice va R.rib.length vc) R.rib := ⟨S2.drawn, (rown_mono hv S.drawn.2.size).alloc _⟩
      have X4 := Blk.new w6 30 #[.slice va R.rib.length vc, .slice ta R.gone.length tc, .int .i64 R.code]
      clear hb hap hv ht S
      unfold roV
      go_upto_region 7 with fail
      generalize (w6.alloc (.cells #[.slice va R.rib.length vc, .slice ta R.gone.length tc, .int .i64 R.code] 30)) = w7 at *
      generalize w6.heap.size = q at *
      generalize R.code = cd at *
      have hc := X4.cell
      by_cases hcd : cd = 0
      · subst hcd
        go_wp2_with fail
        go_roundw
        case rel => exact ⟨k - 1, R.rib, by congr 1; omega, by omega, by omega, Lib.hid S3⟩
        case measure => simp [intOf]; omega
      · go_wp2_with fail
        go_roundw
        case rel => exact ⟨k - 1, ls, by congr 1; omega, by omega, by omega, Lib.hid S2⟩
        case measure => simp [intOf]; omega
    · have hk0 : k = 0 := by omega
      subst hk0
      clear hpos
      go_wp2_with fail
      refine (draw_vni S.drawn.1).mono ?_
      rintro e w4 ⟨x, rfl, _, hd⟩
      replace S := S.step hgs hd
      clear hd
      go_wp2_with fail
      refine (draw_n 5 (by omega) (by omega) S.drawn.1).mono ?_
      rintro e w5 ⟨y, rfl, _, hd⟩
      replace S := S.step hgs hd
      clear hd
      go_wp2_with fail
      refine bodyPost_ret (v := .tuple #[.slice fa ls.length fc, .int .i64 x, .int .i64 y]) (by simp [results, Tryz.results12, go_sem]) rfl ⟨_, ls, _, _, rfl, rown_mono S.own hs1, hl9, src_belowR HB1.out hg S.drawn⟩
end Go.Proofs.YtdnpaopbicdolaaGreat

/- Draws of chapter 7: DrawRibStale. -/
namespace Go.Proofs.YtdnpaopbicdolaaGreat
open Go.RowKit

theorem RlsAt.pack {w W : World} {g : Nat} {a : Option Addr} {len cap : Nat} {f : Value} {ls : List Hd} (h : RlsAt w W g a len cap f ls) (hg : g < w.heap.size) (ha : ∀ b off, 0 < len → a = some ⟨b, off, none⟩ → b < w.heap.size) (cs : Array Value) (t : TypeId) :
    ∃ Wn q, W.alloc (.cells cs t) = Wn ∧ W.heap.size = q ∧ Blk Wn q t cs ∧ RlsAt w Wn g a len cap f ls ∧ g ≠ q ∧ w.heap.size ≤ q :=
  ⟨_, _, rfl, rfl, Blk.new _ _ _, h.below hg ha ((Below.refl _ W).alloc (Nat.le_refl _) _), by have := h.drawn.2.size; omega, h.drawn.2.size⟩
def sevenOf (n : Int) : Int := [1, 2, 1, 2, 0, 9, 10].getD n.toNat 0
theorem seven_at {W : World} {q : Nat} {n : Int} (h : Blk W q 2 #[.int .i64 1, .int .i64 2, .int .i64 1, .int .i64 2, .int .i64 0, .int .i64 9, .int .i64 10]) (h0 : 0 ≤ n) (h1 : n < 7) : W.cell? ⟨q, n.toNat, none⟩ = some (.int .i64 (sevenOf n)) := by
  rw [h.cell]
  unfold sevenOf
  rcases (by omega : n = 0 ∨ n = 1 ∨ n = 2 ∨ n = 3 ∨ n = 4 ∨ n = 5 ∨ n = 6) with h | h | h | h | h | h | h <;> subst h <;> rfl
set_option maxRecDepth 100000 in
set_option maxHeartbeats 4000000 in
theorem draw_ribStale {len cap : Nat} {a : Option Addr} {w : World} (hl : len ≤ 1048576) (hb : BytesAt w a len) :
    Calls Tryz.prog 8 #[.slice a len cap] w (RsDraw w) := by
  have HS := Lib.hid (draw_source (cap := cap) hl hb)
  clear hb
  go_enter Tryz.func8, Tryz.ntmps8
  go_wp2_with fail
  refine HS.out.mono ?_
  rintro e w1 ⟨g, rfl, hg, hs, hb1⟩
  have hgs := hs.src.lt
  have HA := Lib.hid hs.bytes.ltR
  have HR := Lib.hid (draw_rib hs)
  clear hs HS
  go_wp2_with fail
  refine HR.out.mono ?_
  rintro e w2 ⟨v, ls, rfl, hv, hl10, hd⟩
  have S0 : RlsAt w1 w2.drew g a len cap v ls := ⟨⟨⟨hd.1.small, hd.1.bytes, hd.1.src, hd.1.apart⟩, ⟨hd.2.os, hd.2.tape, hd.2.output, hd.2.size, hd.2.block⟩⟩, hv⟩
  have hs1 := hb1.size
  have HB1 := Lib.hid hb1
  clear hd HR hb1
  obtain ⟨va, vc, rfl⟩ := rown_form hv
  clear hv
  go_upto_region 3 with fail
  refine wp_region_held_drew (S := fun W' => RlsAt w1 W' g a len cap (.slice va ls.length vc) ls) (by kernel_rfl) S0 (fun hHeld => ?_)
  clear hHeld
  generalize w2.drew = Wd at *
  refine wpAnyH_take (i := 0) (oi := { dst := some 10, op := Op.move (Operand.tmp 5), type := 23, pos := "l06_rib.go:235", after := #[], guard := none }) (v := ?vva1) rfl (by kernel_rfl) (by kernel_rfl) (by kernel_rfl) (fun _ _ _ h => h) (Or.inl ⟨by rfl, ?hya1⟩) S0 ?resta1
  case hya1 => (intro w hSw; go_simp <;> with_reducible rfl)
  try simp only [Act.put, List.setIfInBounds_toArray, List.set_cons_zero, List.set_cons_succ]
  refine wpAnyH_take (i := 2) (oi := { dst := some 12, op := Op.move (Operand.tmp 4), type := 49, pos := "l06_rib.go:235", after := #[], guard := none }) (v := ?vva2) rfl (by kernel_rfl) (by kernel_rfl) (by kernel_rfl) (fun _ _ _ h => h) (Or.inl ⟨by rfl, ?hya2⟩) S0 ?resta2
  case hya2 => (intro w hSw; go_simp <;> with_reducible rfl)
  try simp only [Act.put, List.setIfInBounds_toArray, List.set_cons_zero, List.set_cons_succ]
  refine wpAnyH_ready (rs := [1, 3]) (by kernel_rfl) (by simp) ?_
  refine (AllReadyH.cons (o := { dst := some 11, op := Op.buildSlice 39 7 #[(0, Operand.const (Value.int IntKind.i64 1)), (1, Operand.const (Value.int IntKind.i64 2)), (2, Operand.const (Value.int IntKind.i64 1)), (3, Operand.const (Value.int IntKind.i64 2)), (4, Operand.const (Value.int IntKind.i64 0)), (5, Operand.const (Value.int IntKind.i64 9)), (6, Operand.const (Value.int IntKind.i64 10))], type := 39, pos := "l06_rib.go:235", after := #[{ on := 6, ground := Ground.gcOnly Departure.lateStores }], guard := none }) rfl (fun K hK => ?_) (AllReadyH.cons (o := { dst := some 13, op := Op.call { callee := Callee.value (Operand.func 32), args := #[Operand.tmp 12, Operand.const (Value.int IntKind.i64 7)], argTypes := #[49, 2] }, type := 2, pos := "l06_rib.go:235", after := #[{ on := 2, ground := Ground.data }], guard := none }) rfl (fun K hK => ?_) AllReadyH.nil))
  focus
    go_simp
    obtain ⟨Wn, qa, hWn, hqa, AR, S1, hga, hqw⟩ := S0.pack hgs HA.out #[.int .i64 1, .int .i64 2, .int .i64 1, .int .i64 2, .int .i64 0, .int .i64 9, .int .i64 10] 2
    rw [hWn, hqa]
    clear S0 hWn hqa
    have S0 := S1
    clear S1
    try have hcA := seven_at AR hn0 hn1
    refine hK.out _ _ S0 (fun hHeld => ?_)
    clear hK K hHeld
    try simp only [Act.put, List.setIfInBounds_toArray, List.set_cons_zero, List.set_cons_succ]
    refine wpAnyH_ready (rs := [3]) (by kernel_rfl) (by simp) ?_
    refine AllReadyH.cons (o := { dst := some 13, op := Op.call { callee := Callee.value (Operand.func 32), args := #[Operand.tmp 12, Operand.const (Value.int IntKind.i64 7)], argTypes := #[49, 2] }, type := 2, pos := "l06_rib.go:235", after := #[{ on := 2, ground := Ground.data }], guard := none }) rfl (fun K hK => ?_) AllReadyH.nil
    go_simp
    refine (draw_n 7 (by omega) (by omega) S0.drawn.1).mono ?_
    rintro e w6 ⟨n, rfl, ⟨hn0, hn1⟩, hd⟩
    replace S0 := S0.step hgs hd
    try replace AR := AR.drawnR hga hd
    clear hd
    try have hcA := seven_at AR hn0 hn1
    refine hK.out _ _ S0 (fun hHeld => ?_)
    clear hK K hHeld
    try simp only [Act.put, List.setIfInBounds_toArray, List.set_cons_zero, List.set_cons_succ]
    refine wpAnyH_take (i := 4) (oi := { dst := some 14, op := Op.indexAddr 39 (Operand.tmp 11) (Operand.tmp 13), type := 0, pos := "l06_rib.go:235", after := #[{ on := 1, ground := Ground.data }, { on := 3, ground := Ground.data }, { on := 6, ground := Ground.gcOnly Departure.lateStores }], guard := none }) (v := ?vva3) rfl (by kernel_rfl) (by kernel_rfl) (by kernel_rfl) (fun _ _ _ h => h) (Or.inl ⟨by rfl, ?hya3⟩) S0 ?resta3
    case hya3 => (intro w hSw; go_simp <;> with_reducible rfl)
    try simp only [Act.put, List.setIfInBounds_toArray, List.set_cons_zero, List.set_cons_succ]
    refine wpAnyH_take (i := 6) (oi := { dst := some 2, op := Op.assign (Operand.tmp 10), type := 23, pos := "l06_rib.go:235", after := #[{ on := 0, ground := Ground.data }, { on := 3, ground := Ground.chain }, { on := 0, ground := Ground.phase }, { on := 1, ground := Ground.textOnly Departure.lateStores }, { on := 2, ground := Ground.textOnly Departure.lateStores }, { on := 3, ground := Ground.textOnly Departure.lateStoresUnsure }, { on := 4, ground := Ground.textOnly Departure.lateStores }, { on := 5, ground := Ground.textOnly Departure.lateStores }], guard := none }) (v := ?vva4) rfl (by kernel_rfl) (by kernel_rfl) (by kernel_rfl) (fun _ _ _ h => h) (Or.inl ⟨by rfl, ?hya4⟩) S0 ?resta4
    case hya4 => (intro w hSw; go_simp <;> with_reducible rfl)
    try simp only [Act.put, List.setIfInBounds_toArray, List.set_cons_zero, List.set_cons_succ]
    refine wpAnyH_ready (rs := [5]) (by kernel_rfl) (by simp) ?_
    refine AllReadyH.cons (o := { dst := some 15, op := Op.load 2 (Operand.tmp 14), type := 2, pos := "l06_rib.go:235", after := #[{ on := 4, ground := Ground.data }, { on := 6, ground := Ground.gcOnly Departure.lateStores }], guard := none }) rfl (fun K hK => ?_) AllReadyH.nil
    go_simp
    refine hK.out _ _ S0 (fun hHeld => ?_)
    clear hK K hHeld
    try simp only [Act.put, List.setIfInBounds_toArray, List.set_cons_zero, List.set_cons_succ]
    refine wpAnyH_take (i := 7) (oi := { dst := some 3, op := Op.assign (Operand.tmp 15), type := 2, pos := "l06_rib.go:235", after := #[{ on := 5, ground := Ground.data }, { on := 6, ground := Ground.chain }, { on := 0, ground := Ground.phase }, { on := 1, ground := Ground.phase }, { on := 2, ground := Ground.phase }, { on := 3, ground := Ground.phase }, { on := 4, ground := Ground.phase }, { on := 5, ground := Ground.phase }, { on := 6, ground := Ground.phase }], guard := none }) (v := ?vva5) rfl (by kernel_rfl) (by kernel_rfl) (by kernel_rfl) (fun _ _ _ h => h) (Or.inl ⟨by rfl, ?hya5⟩) S0 ?resta5
    case hya5 => (intro w hSw; go_simp <;> with_reducible rfl)
    try simp only [Act.put, List.setIfInBounds_toArray, List.set_cons_zero, List.set_cons_succ]
    refine wpAnyH_done (by kernel_rfl) ?_ _
  rotate_left 1
  focus
    go_simp
    refine (draw_n 7 (by omega) (by omega) S0.drawn.1).mono ?_
    rintro e w6 ⟨n, rfl, ⟨hn0, hn1⟩, hd⟩
    replace S0 := S0.step hgs hd
    try replace AR := AR.drawnR hga hd
    clear hd
    try have hcA := seven_at AR hn0 hn1
    refine hK.out _ _ S0 (fun hHeld => ?_)
    clear hK K hHeld
    try simp only [Act.put, List.setIfInBounds_toArray, List.set_cons_zero, List.set_cons_succ]
    refine wpAnyH_take (i := 6) (oi := { dst := some 2, op := Op.assign (Operand.tmp 10), type := 23, pos := "l06_rib.go:235", after := #[{ on := 0, ground := Ground.data }, { on := 3, ground := Ground.chain }, { on := 0, ground := Ground.phase }, { on := 1, ground := Ground.textOnly Departure.lateStores }, { on := 2, ground := Ground.textOnly Departure.lateStores }, { on := 3, ground := Ground.textOnly Departure.lateStoresUnsure }, { on := 4, ground := Ground.textOnly Departure.lateStores }, { on := 5, ground := Ground.textOnly Departure.lateStores }], guard := none }) (v := ?vva6) rfl (by kernel_rfl) (by kernel_rfl) (by kernel_rfl) (fun _ _ _ h => h) (Or.inl ⟨by rfl, ?hya6⟩) S0 ?resta6
    case hya6 => (intro w hSw; go_simp <;> with_reducible rfl)
    try simp only [Act.put, List.setIfInBounds_toArray, List.set_cons_zero, List.set_cons_succ]
    refine wpAnyH_ready (rs := [1]) (by kernel_rfl) (by simp) ?_
    refine AllReadyH.cons (o := { dst := some 11, op := Op.buildSlice 39 7 #[(0, Operand.const (Value.int IntKind.i64 1)), (1, Operand.const (Value.int IntKind.i64 2)), (2, Operand.const (Value.int IntKind.i64 1)), (3, Operand.const (Value.int IntKind.i64 2)), (4, Operand.const (Value.int IntKind.i64 0)), (5, Operand.const (Value.int IntKind.i64 9)), (6, Operand.const (Value.int IntKind.i64 10))], type := 39, pos := "l06_rib.go:235", after := #[{ on := 6, ground := Ground.gcOnly Departure.lateStores }], guard := none }) rfl (fun K hK => ?_) AllReadyH.nil
    go_simp
    obtain ⟨Wn, qa, hWn, hqa, AR, S1, hga, hqw⟩ := S0.pack hgs HA.out #[.int .i64 1, .int .i64 2, .int .i64 1, .int .i64 2, .int .i64 0, .int .i64 9, .int .i64 10] 2
    rw [hWn, hqa]
    clear S0 hWn hqa
    have S0 := S1
    clear S1
    try have hcA := seven_at AR hn0 hn1
    refine hK.out _ _ S0 (fun hHeld => ?_)
    clear hK K hHeld
    try simp only [Act.put, List.setIfInBounds_toArray, List.set_cons_zero, List.set_cons_succ]
    refine wpAnyH_take (i := 4) (oi := { dst := some 14, op := Op.indexAddr 39 (Operand.tmp 11) (Operand.tmp 13), type := 0, pos := "l06_rib.go:235", after := #[{ on := 1, ground := Ground.data }, { on := 3, ground := Ground.data }, { on := 6, ground := Ground.gcOnly Departure.lateStores }], guard := none }) (v := ?vva7) rfl (by kernel_rfl) (by kernel_rfl) (by kernel_rfl) (fun _ _ _ h => h) (Or.inl ⟨by rfl, ?hya7⟩) S0 ?resta7
    case hya7 => (intro w hSw; go_simp <;> with_reducible rfl)
    try simp only [Act.put, List.setIfInBounds_toArray, List.set_cons_zero, List.set_cons_succ]
    refine wpAnyH_ready (rs := [5]) (by kernel_rfl) (by simp) ?_
    refine AllReadyH.cons (o := { dst := some 15, op := Op.load 2 (Operand.tmp 14), type := 2, pos := "l06_rib.go:235", after := #[{ on := 4, ground := Ground.data }, { on := 6, ground := Ground.gcOnly Departure.lateStores }], guard := none }) rfl (fun K hK => ?_) AllReadyH.nil
    go_simp
    refine hK.out _ _ S0 (fun hHeld => ?_)
    clear hK K hHeld
    try simp only [Act.put, List.setIfInBounds_toArray, List.set_cons_zero, List.set_cons_succ]
    refine wpAnyH_take (i := 7) (oi := { dst := some 3, op := Op.assign (Operand.tmp 15), type := 2, pos := "l06_rib.go:235", after := #[{ on := 5, ground := Ground.data }, { on := 6, ground := Ground.chain }, { on := 0, ground := Ground.phase }, { on := 1, ground := Ground.phase }, { on := 2, ground := Ground.phase }, { on := 3, ground := Ground.phase }, { on := 4, ground := Ground.phase }, { on := 5, ground := Ground.phase }, { on := 6, ground := Ground.phase }], guard := none }) (v := ?vva8) rfl (by kernel_rfl) (by kernel_rfl) (by kernel_rfl) (fun _ _ _ h => h) (Or.inl ⟨by rfl, ?hya8⟩) S0 ?resta8
    case hya8 => (intro w hSw; go_simp <;> with_reducible rfl)
    try simp only [Act.put, List.setIfInBounds_toArray, List.set_cons_zero, List.set_cons_succ]
    refine wpAnyH_done (by kernel_rfl) ?_ _
  rotate_left 1
  all_goals
    have HO := Lib.hid S0
    clear S0
    go_wp2_with fail
    refine bodyPost_ret (v := .tuple #[.slice va ls.length vc, .int .i64 (sevenOf n)]) (by simp [results, Tryz.results8, go_sem]) rfl ⟨_, ls, _, rfl, rown_mono HO.out.own hs1, hl10, src_belowR HB1.out hg HO.out.drawn⟩
end Go.Proofs.YtdnpaopbicdolaaGreat

/- Draws of chapter 7: DrawRibTake. -/
namespace Go.Proofs.YtdnpaopbicdolaaGreat
open Go.RowKit

theorem Blk.pack7R {W : World} {b : Nat} {t : TypeId} {c0 c1 c2 c3 c4 c5 c6 : Value} (h : Blk W b t #[c0, c1, c2, c3, c4, c5, c6]) (v0 v1 v2 v3 v4 v5 v6 : Value) :
    ∃ Wn, (((((((W.setCell ⟨b, 0, none⟩ v0).setCell ⟨b, 1, none⟩ v1).setCell ⟨b, 2, none⟩ v2).setCell ⟨b, 3, none⟩ v3).setCell ⟨b, 4, none⟩ v4).setCell ⟨b, 5, none⟩ v5).setCell ⟨b, 6, none⟩ v6) = Wn ∧ Blk Wn b t #[v0, v1, v2, v3, v4, v5, v6] ∧ (∀ b' t' cs, b' ≠ b → Blk W b' t' cs → Blk Wn b' t' cs) ∧ (∀ B w0, Below B w0 W → B ≤ b → Below B w0 Wn) ∧ ∀ B t' sz v n xs, W.ownsRow B t' sz v n xs → b < B → Wn.ownsRow B t' sz v n xs := by
  refine ⟨_, rfl, ?_, fun b' t' cs hne hb => ((((((hb.far hne).far hne).far hne).far hne).far hne).far hne).far hne, fun B w0 hb hB => ((((((hb.setCell hB _).setCell hB _).setCell hB _).setCell hB _).setCell hB _).setCell hB _).setCell hB _, fun B t' sz v n xs ho hB => ?_⟩
  · have h2 := ((((((h.set 0 v0).set 1 v1).set 2 v2).set 3 v3).set 4 v4).set 5 v5).set 6 v6
    simp only [List.setIfInBounds_toArray, List.set_cons_zero, List.set_cons_succ] at h2
    exact h2
  · exact ownsRow_setCell_below (ownsRow_setCell_below (ownsRow_setCell_below (ownsRow_setCell_below (ownsRow_setCell_below (ownsRow_setCell_below (ownsRow_setCell_below ho (a := ⟨b, 0, none⟩) hB v0) (a := ⟨b, 1, none⟩) hB v1) (a := ⟨b, 2, none⟩) hB v2) (a := ⟨b, 3, none⟩) hB v3) (a := ⟨b, 4, none⟩) hB v4) (a := ⟨b, 5, none⟩) hB v5) (a := ⟨b, 6, none⟩) hB v6
theorem draw_leR (most : Int) {g len cap : Nat} {a : Option Addr} {w : World} (hm : 1 ≤ most) (hm' : most ≤ 9223372036854775807) (h : Src w g a len cap) :
    Calls Tryz.prog 32 #[.pointer (some ⟨g, 0, none⟩), .int .i64 most] w (IntPost (fun r => 0 ≤ r ∧ r < most) g a len cap w) :=
  (n_any most g len cap a w hm' h.small h.bytes h.src).mono fun _ _ ⟨r, he, h0, h1, h2, hs, hg, _⟩ => ⟨r, he, ⟨h0, by by_cases h : 1 < most <;> omega⟩, h.kept hs hg, hg⟩
def RkDraw (w : World) (e : Ending) (w' : World) : Prop := ∃ (v : Value) (ls : List Hd) (n : Int) (r : Rt), e = .returned (.tuple #[v, .int .i64 n, r.val]) ∧ w'.ownsRow w.heap.size 47 9 v ls.length (rcells Hd.cl ls) ∧ ls.length ≤ 201 ∧ Below w.heap.size w w'
set_option maxRecDepth 100000 in
set_option maxHeartbeats 8000000 in
theorem draw_ribTake {len cap : Nat} {a : Option Addr} {w : World} (hl : len ≤ 1048576) (hb : BytesAt w a len) :
    Calls Tryz.prog 6 #[.slice a len cap] w (RkDraw w) := by
  have X0 := Blk.new w 25 #[.int .i64 0, .int .i64 0, .int .i64 0, .int .i64 0, .int .i64 0, .int .i64 0, .bool false]
  have HB0 : Below w.heap.size w (w.alloc (.cells #[.int .i64 0, .int .i64 0, .int .i64 0, .int .i64 0, .int .i64 0, .int .i64 0, .bool false] 25)) := (Below.refl _ _).alloc (Nat.le_refl _) _
  have HS := Lib.hid (draw_source (cap := cap) hl (bytes_belowR hb HB0))
  clear hb
  go_enter Tryz.func6, Tryz.ntmps6
  go_upto_region 1 with fail
  generalize w.alloc (.cells #[.int .i64 0, .int .i64 0, .int .i64 0, .int .i64 0, .int .i64 0, .int .i64 0, .bool false] 25) = w0 at *
  go_wp2_with fail
  refine HS.out.mono ?_
  rintro e w1 ⟨g, rfl, hg, hs, hb1⟩
  have X := X0.kept hb1
  have HB1 := Lib.hid (HB0.trans (hb1.mono HB0.size))
  have hgs := hs.src.lt
  have HA := Lib.hid hs.bytes.ltR
  have hx0 := X0.lt
  have hx1 : w.heap.size < w1.heap.size := by have := hb1.size; omega
  have hgw : g ≠ w.heap.size := by omega
  have hgw2 : w.heap.size ≤ g := by omega
  have HR := Lib.hid (draw_rib hs)
  clear hs HS X0 HB0 hb1 hx0
  go_wp2_with fail
  refine HR.out.mono ?_
  rintro e w2 ⟨v, ls, rfl, hv, hl10, hd⟩
  replace X := X.drawnR hgw hd
  have S : RlsAt w1 w2 g a len cap v ls := ⟨hd, hv⟩
  clear hd HR hv
  obtain ⟨va, vc, rfl⟩ := rown_form S.own
  obtain ⟨m, hm⟩ : ∃ m, m = ls.length := ⟨_, rfl⟩
  have HM := Lib.hid hm
  rw [← hm] at S hl10 ⊢
  clear hm
  by_cases hm0 : m = 0
  · subst hm0
    go_wp2_with fail
    refine (draw_n 3 (by omega) (by omega) S.drawn.1).mono ?_
    rintro e w8 ⟨y, rfl, _, hd⟩
    replace S := S.step hgs hd
    replace X := X.drawnR hgw hd
    clear hd
    go_wp2_with fail
    refine (draw_route S.drawn.1).mono ?_
    rintro e w9 ⟨r, rfl, hd⟩
    replace S := S.step hgs hd
    replace X := X.drawnR hgw hd
    clear hd
    obtain ⟨Wn, hWn, hX2, _, hbl, hrw⟩ := X.pack7R (.int .i64 r.kind) (.int .i64 r.vni) (.int .i64 r.mac) (.int .i64 r.ip) (.int .i64 r.org) (.int .i64 r.seq) (.bool r.st)
    have HBB := Lib.hid (hbl _ _ (src_belowR HB1.out hgw2 S.drawn) (Nat.le_refl _))
    have HRR := Lib.hid (hrw _ _ _ _ _ _ S.own hx1)
    have hc := X.cell
    have hf := X.frozen
    have hc2 := hX2.cell
    clear hbl hrw S
    unfold Rt.val rtV
    go_wp2_with fail
    refine bodyPost_ret (v := .tuple #[.slice va 0 vc, .int .i64 y, r.val]) (by simp [results, Tryz.results6, go_sem, Rt.val, rtV, hc2]) rfl ⟨_, ls, y, r, rfl, rown_mono HRR.out (by omega), by rw [← HM.out]; exact hl10, HBB.out⟩
  · have hmp : (0 : Int) < (m : Int) := by omega
    go_wp2_with fail
    refine (draw_one 3 (by omega) (by omega) S.drawn.1).mono ?_
    rintro e w3 ⟨z, rfl, hd⟩
    replace S := S.step hgs hd
    replace X := X.drawnR hgw hd
    clear hd
    cases z
    · go_wp2_with fail
      refine (draw_leR (m : Int) (by omega) (by omega) S.drawn.1).mono ?_
      rintro e w4 ⟨y, rfl, ⟨hy0, hy1⟩, hd⟩
      replace S := S.step hgs hd
      replace X := X.drawnR hgw hd
      clear hd
      obtain ⟨j, rfl⟩ : ∃ j : Nat, y = (j : Int) := ⟨y.toNat, by omega⟩
      have hj : j < m := by omega
      have hjl : j < ls.length := by rw [← HM.out]; exact hj
      obtain ⟨b, rfl⟩ : ∃ b, va = some ⟨b, 0, none⟩ := by
        rcases S.own.2 with ⟨e, e2⟩ | ⟨g', cap', cur, e, _⟩
        · have := HM.out; omega
        · injection e with e1
          exact ⟨g', e1⟩
      have hC : w4.cell? ⟨b, j * 9, none⟩ = some (.int .i64 (ls[j]).p) ∧ w4.cell? ⟨b, j * 9 + 1, none⟩ = some (.bool (ls[j]).s) ∧ w4.cell? ⟨b, j * 9 + 2, none⟩ = some (.int .i64 (ls[j]).r.kind) ∧ w4.cell? ⟨b, j * 9 + 3, none⟩ = some (.int .i64 (ls[j]).r.vni) ∧ w4.cell? ⟨b, j * 9 + 4, none⟩ = some (.int .i64 (ls[j]).r.mac) ∧ w4.cell? ⟨b, j * 9 + 5, none⟩ = some (.int .i64 (ls[j]).r.ip) ∧ w4.cell? ⟨b, j * 9 + 6, none⟩ = some (.int .i64 (ls[j]).r.org) ∧ w4.cell? ⟨b, j * 9 + 7, none⟩ = some (.int .i64 (ls[j]).r.seq) ∧ w4.cell? ⟨b, j * 9 + 8, none⟩ = some (.bool (ls[j]).r.st) := by
        obtain ⟨a2, c2, e2, hh⟩ := rows_of_own (cl := Hd.cl) Hd.cl_len (l := ls) S.own
        obtain ⟨b2, off2, ha2, hb2, HE2⟩ := hh (fun e => by have := congrArg List.length e; simp at this; rw [this] at hjl; simp at hjl)
        injection e2 with e4 e5 e6
        rw [← e4] at ha2
        injection ha2 with ha2
        injection ha2 with ha2 ha3
        subst ha2 ha3
        have := HE2.hd j hjl
        simpa using this
      generalize ls[j] = x at *
      obtain ⟨y0, y1, x0, x1, x2, x3, x4, x5, x6⟩ := x
      dsimp only at hC
      obtain ⟨p0, p1, p2, p3, p4, p5, p6, p7, p8⟩ := hC
      have hk := S.drawn.2.size
      have S2 := S.below hgs HA.out ((Below.refl _ w4).alloc (Nat.le_refl _) (.cells #[.int .i64 y0, .bool y1, .int .i64 x0, .int .i64 x1, .int .i64 x2, .int .i64 x3, .int .i64 x4, .int .i64 x5, .bool x6] 47))
      have X2 := X.alloc (.cells #[.int .i64 y0, .bool y1, .int .i64 x0, .int .i64 x1, .int .i64 x2, .int .i64 x3, .int .i64 x4, .int .i64 x5, .bool x6] 47)
      have K := Blk.new w4 47 #[.int .i64 y0, .bool y1, .int .i64 x0, .int .i64 x1, .int .i64 x2, .int .i64 x3, .int .i64 x4, .int .i64 x5, .bool x6]
      have HRow := Lib.hid S2.own
      have HBw := Lib.hid (src_belowR HB1.out hgw2 S2.drawn)
      clear S X S2
      go_upto_region 5 with fail
      clear p0 p1 p2 p3 p4 p5 p6 p7 p8
      obtain ⟨W5, hW5⟩ : ∃ W, W = w4.alloc (.cells #[.int .i64 y0, .bool y1, .int .i64 x0, .int .i64 x1, .int .i64 x2, .int .i64 x3, .int .i64 x4, .int .i64 x5, .bool x6] 47) := ⟨_, rfl⟩
      rw [← hW5] at X2 K HRow HBw ⊢
      clear hW5
      generalize w4.heap.size = qk at *
      have K0 := K.drew
      have XX := X2.drew
      have HB := HBw.out.drew
      have HRw : W5.drew.ownsRow w1.heap.size 47 9 (.slice (some ⟨b, 0, none⟩) m vc) ls.length (rcells Hd.cl ls) := rown_below HRow.out ((Below.refl _ _).drew)
      have HK := Lib.hid (fun (W : World) => specKeyOf_any x0 x1 x2 x3 x4 x5 x6 W)
      unfold rtV at HK
      clear K X2 HBw HRow
      have hcX := XX.cell
      have hfX := XX.frozen
      refine wp_region_held_drew (S := fun W' => Blk W' qk 47 #[.int .i64 y0, .bool y1, .int .i64 x0, .int .i64 x1, .int .i64 x2, .int .i64 x3, .int .i64 x4, .int .i64 x5, .bool x6]) (by kernel_rfl) K0 (fun hHeld => ?_)
      clear hHeld
      generalize W5.drew = Wd at *
      refine wpAnyH_take (i := 0) (oi := { dst := some 27, op := Op.move (Operand.tmp 6), type := 23, pos := "l06_rib.go:227", after := #[], guard := none }) (v := ?vva1) rfl (by kernel_rfl) (by kernel_rfl) (by kernel_rfl) (fun _ _ _ h => h) (Or.inl ⟨by rfl, ?hya1⟩) K0 ?resta1
      case hya1 => (intro w hSw; have hcY := hSw.cell;go_simp <;> with_reducible rfl)
      try simp only [Act.put, List.setIfInBounds_toArray, List.set_cons_zero, List.set_cons_succ]
      refine wpAnyH_take (i := 1) (oi := { dst := some 28, op := Op.fieldAddr 47 (Operand.tmp 7) 0, type := 0, pos := "l06_rib.go:227", after := #[{ on := 6, ground := Ground.gcOnly Departure.lateStores }], guard := none }) (v := ?vva2) rfl (by kernel_rfl) (by kernel_rfl) (by kernel_rfl) (fun _ _ _ h => h) (Or.inl ⟨by rfl, ?hya2⟩) K0 ?resta2
      case hya2 => (intro w hSw; have hcY := hSw.cell;go_simp <;> with_reducible rfl)
      try simp only [Act.put, List.setIfInBounds_toArray, List.set_cons_zero, List.set_cons_succ]
      refine wpAnyH_take (i := 2) (oi := { dst := some 29, op := Op.load 2 (Operand.tmp 28), type := 2, pos := "l06_rib.go:227", after := #[{ on := 1, ground := Ground.data }, { on := 6, ground := Ground.gcOnly Departure.lateStores }], guard := none }) (v := ?vva3) rfl (by kernel_rfl) (by kernel_rfl) (by kernel_rfl) (fun _ _ _ h => h) (Or.inl ⟨by rfl, ?hya3⟩) K0 ?resta3
      case hya3 => (intro w hSw; have hcY := hSw.cell;go_simp <;> with_reducible rfl)
      try simp only [Act.put, List.setIfInBounds_toArray, List.set_cons_zero, List.set_cons_succ]
      refine wpAnyH_take (i := 3) (oi := { dst := some 30, op := Op.fieldAddr 47 (Operand.tmp 7) 2, type := 0, pos := "l06_rib.go:227", after := #[], guard := none }) (v := ?vva4) rfl (by kernel_rfl) (by kernel_rfl) (by kernel_rfl) (fun _ _ _ h => h) (Or.inl ⟨by rfl, ?hya4⟩) K0 ?resta4
      case hya4 => (intro w hSw; have hcY := hSw.cell;go_simp <;> with_reducible rfl)
      try simp only [Act.put, List.setIfInBounds_toArray, List.set_cons_zero, List.set_cons_succ]
      refine wpAnyH_take (i := 4) (oi := { dst := some 31, op := Op.load 25 (Operand.tmp 30), type := 25, pos := "l06_rib.go:227", after := #[{ on := 3, ground := Ground.data }], guard := none }) (v := ?vva5) rfl (by kernel_rfl) (by kernel_rfl) (by kernel_rfl) (fun _ _ _ h => h) (Or.inl ⟨by rfl, ?hya5⟩) K0 ?resta5
      case hya5 => (intro w hSw; have hcY := hSw.cell;go_simp <;> with_reducible rfl)
      try simp only [Act.put, List.setIfInBounds_toArray, List.set_cons_zero, List.set_cons_succ]
      refine wpAnyH_ready (rs := [5]) (by kernel_rfl) (by simp) ?_
      refine AllReadyH.cons (o := { dst := some 32, op := Op.call { callee := Callee.value (Operand.func 37), args := #[Operand.tmp 31], argTypes := #[25] }, type := 25, pos := "l06_rib.go:227", after := #[{ on := 4, ground := Ground.data }], guard := none }) rfl (fun K hK => ?_) AllReadyH.nil
      go_simp
      refine (HK.out _).mono ?_
      rintro e w6 ⟨rfl, hbk⟩
      replace K0 := K0.kept hbk
      replace XX := XX.kept hbk
      replace HB := HB.trans (hbk.mono HB.size)
      replace HRw := rown_below HRw hbk
      clear hbk hcX hfX
      have hcX := XX.cell
      have hfX := XX.frozen
      refine hK.out _ _ K0 (fun hHeld => ?_)
      clear hK K hHeld
      try simp only [Act.put, List.setIfInBounds_toArray, List.set_cons_zero, List.set_cons_succ]
      refine wpAnyH_take (i := 6) (oi := { dst := some 2, op := Op.assign (Operand.tmp 27), type := 23, pos := "l06_rib.go:227", after := #[{ on := 0, ground := Ground.data }, { on := 5, ground := Ground.chain }, { on := 0, ground := Ground.phase }, { on := 1, ground := Ground.textOnly Departure.lateStores }, { on := 2, ground := Ground.textOnly Departure.lateStores }, { on := 3, ground := Ground.textOnly Departure.lateStores }, { on := 4, ground := Ground.textOnly Departure.lateStores }, { on := 5, ground := Ground.textOnly Departure.lateStoresUnsure }], guard := none }) (v := ?vva6) rfl (by kernel_rfl) (by kernel_rfl) (by kernel_rfl) (fun _ _ _ h => h) (Or.inl ⟨by rfl, ?hya6⟩) K0 ?resta6
      case hya6 => (intro w hSw; have hcY := hSw.cell;go_simp <;> with_reducible rfl)
      try simp only [Act.put, List.setIfInBounds_toArray, List.set_cons_zero, List.set_cons_succ]
      refine wpAnyH_take (i := 7) (oi := { dst := some 3, op := Op.assign (Operand.tmp 29), type := 2, pos := "l06_rib.go:227", after := #[{ on := 2, ground := Ground.data }, { on := 6, ground := Ground.chain }, { on := 0, ground := Ground.phase }, { on := 1, ground := Ground.phase }, { on := 2, ground := Ground.phase }, { on := 3, ground := Ground.textOnly Departure.lateStores }, { on := 4, ground := Ground.textOnly Departure.lateStores }, { on := 5, ground := Ground.textOnly Departure.lateStoresUnsure }, { on := 6, ground := Ground.phase }], guard := none }) (v := ?vva7) rfl (by kernel_rfl) (by kernel_rfl) (by kernel_rfl) (fun _ _ _ h => h) (Or.inl ⟨by rfl, ?hya7⟩) K0 ?resta7
      case hya7 => (intro w hSw; have hcY := hSw.cell;go_simp <;> with_reducible rfl)
      try simp only [Act.put, List.setIfInBounds_toArray, List.set_cons_zero, List.set_cons_succ]
      refine wpAnyH_ready (rs := [8]) (by kernel_rfl) (by simp) ?_
      refine AllReadyH.cons (o := { dst := none, op := Op.store 25 (Operand.tmp 4) (Operand.tmp 32), type := 0, pos := "l06_rib.go:227", after := #[{ on := 5, ground := Ground.data }, { on := 7, ground := Ground.chain }, { on := 0, ground := Ground.phase }, { on := 1, ground := Ground.phase }, { on := 2, ground := Ground.phase }, { on := 3, ground := Ground.phase }, { on := 4, ground := Ground.phase }, { on := 5, ground := Ground.phase }, { on := 6, ground := Ground.phase }, { on := 7, ground := Ground.phase }], guard := none }) rfl (fun K hK => ?_) AllReadyH.nil
      go_simp
      obtain ⟨Wn, hWn, hX2, hfar, hbl, hrw⟩ := XX.pack7R (.int .i64 x0) (.int .i64 x1) (.int .i64 x2) (.int .i64 0) (.int .i64 x4) (.int .i64 0) (.bool false)
      rw [hWn]
      replace K0 := hfar _ _ _ (by omega) K0
      replace HB := hbl _ _ HB (Nat.le_refl _)
      replace HRw := hrw _ _ _ _ _ _ HRw hx1
      clear XX hcX hfX
      have XX := hX2
      have hcX := XX.cell
      have hfX := XX.frozen
      clear hWn hX2 hfar hbl hrw
      refine hK.out _ _ K0 (fun hHeld => ?_)
      clear hK K hHeld
      try simp only [Act.put, List.setIfInBounds_toArray, List.set_cons_zero, List.set_cons_succ]
      refine wpAnyH_done (by kernel_rfl) ?_ _
      all_goals
        have HBB := Lib.hid HB
        have HRR := Lib.hid HRw
        go_wp2_with fail
        refine bodyPost_ret (v := .tuple #[.slice (some ⟨b, 0, none⟩) m vc, .int .i64 y0, rtV x0 x1 x2 0 x4 0 false]) ?_ rfl ⟨_, ls, y0, ⟨x0, x1, x2, 0, x4, 0, false⟩, rfl, rown_mono HRR.out (by omega), by rw [← HM.out]; exact hl10, HBB.out⟩
        simp [results, Tryz.results6, go_sem, rtV, hcX]
    · go_wp2_with fail
      refine (draw_n 3 (by omega) (by omega) S.drawn.1).mono ?_
      rintro e w8 ⟨y, rfl, _, hd⟩
      replace S := S.step hgs hd
      replace X := X.drawnR hgw hd
      clear hd
      go_wp2_with fail
      refine (draw_route S.drawn.1).mono ?_
      rintro e w9 ⟨r, rfl, hd⟩
      replace S := S.step hgs hd
      replace X := X.drawnR hgw hd
      clear hd
      obtain ⟨Wn, hWn, hX2, _, hbl, hrw⟩ := X.pack7R (.int .i64 r.kind) (.int .i64 r.vni) (.int .i64 r.mac) (.int .i64 r.ip) (.int .i64 r.org) (.int .i64 r.seq) (.bool r.st)
      have HBB := Lib.hid (hbl _ _ (src_belowR HB1.out hgw2 S.drawn) (Nat.le_refl _))
      have HRR := Lib.hid (hrw _ _ _ _ _ _ S.own hx1)
      have hc := X.cell
      have hf := X.frozen
      have hc2 := hX2.cell
      clear hbl hrw S
      unfold Rt.val rtV
      go_wp2_with fail
      refine bodyPost_ret (v := .tuple #[.slice va m vc, .int .i64 y, r.val]) (by simp [results, Tryz.results6, go_sem, Rt.val, rtV, hc2]) rfl ⟨_, ls, y, r, rfl, rown_mono HRR.out (by omega), by rw [← HM.out]; exact hl10, HBB.out⟩
end Go.Proofs.YtdnpaopbicdolaaGreat

/- Draws of chapter 7: DrawRibPut. -/
namespace Go.Proofs.YtdnpaopbicdolaaGreat
open Go.RowKit

theorem RlsAt.grown {w W W' : World} {g q : Nat} {a : Option Addr} {len cap : Nat} {f : Value} {ls : List Hd} (h : RlsAt w W g a len cap f ls) (hg : g < w.heap.size) (ha : ∀ b off, 0 < len → a = some ⟨b, off, none⟩ → b < w.heap.size) (hgb : W.grownBy W' (some q)) (hb : Below w.heap.size W W') (hne : some q ≠ f.ownBlock) : RlsAt w W' g a len cap f ls :=
  ⟨h.drawn.lowR hg ha hb, h.own.kept hgb (by cases hv : f.ownBlock with
    | none => exact .inl rfl
    | some b => right; rw [← hv]; exact fun e => hne e.symm)⟩
theorem Blk.pack7S {W : World} {b : Nat} {t : TypeId} {c0 c1 c2 c3 c4 c5 c6 : Value} (h : Blk W b t #[c0, c1, c2, c3, c4, c5, c6]) (v0 v1 v2 v3 v4 v5 v6 : Value) :
    ∃ Wn, (((((((W.setCell ⟨b, 0, none⟩ v0).setCell ⟨b, 1, none⟩ v1).setCell ⟨b, 2, none⟩ v2).setCell ⟨b, 3, none⟩ v3).setCell ⟨b, 4, none⟩ v4).setCell ⟨b, 5, none⟩ v5).setCell ⟨b, 6, none⟩ v6) = Wn ∧ Blk Wn b t #[v0, v1, v2, v3, v4, v5, v6] ∧ (∀ b' t' cs, b' ≠ b → Blk W b' t' cs → Blk Wn b' t' cs) ∧ W.grownBy Wn (some b) ∧ (∀ B, B ≤ b → Below B W Wn) := by
  obtain ⟨Wn, hWn, h1, h2, h3, _⟩ := h.pack7R v0 v1 v2 v3 v4 v5 v6
  refine ⟨Wn, hWn, h1, h2, ?_, fun B hB => h3 B W (Below.refl _ _) hB⟩
  rw [← hWn]
  exact grownSet (grownSet (grownSet (grownSet (grownSet (grownSet (grownSet (World.grownBy.refl _ _)))))))
set_option maxRecDepth 100000 in
set_option maxHeartbeats 8000000 in
theorem draw_ribPut {len cap : Nat} {a : Option Addr} {w : World} (hl : len ≤ 1048576) (hb : BytesAt w a len) :
    Calls Tryz.prog 4 #[.slice a len cap] w (RkDraw w) := by
  have X0 := Blk.new w 25 #[.int .i64 0, .int .i64 0, .int .i64 0, .int .i64 0, .int .i64 0, .int .i64 0, .bool false]
  have HB0 : Below w.heap.size w (w.alloc (.cells #[.int .i64 0, .int .i64 0, .int .i64 0, .int .i64 0, .int .i64 0, .int .i64 0, .bool false] 25)) := (Below.refl _ _).alloc (Nat.le_refl _) _
  have HS := Lib.hid (draw_source (cap := cap) hl (bytes_belowR hb HB0))
  clear hb
  go_enter Tryz.func4, Tryz.ntmps4
  go_upto_region 1 with fail
  generalize w.alloc (.cells #[.int .i64 0, .int .i64 0, .int .i64 0, .int .i64 0, .int .i64 0, .int .i64 0, .bool false] 25) = w0 at *
  go_wp2_with fail
  refine HS.out.mono ?_
  rintro e w1 ⟨g, rfl, hg, hs, hb1⟩
  have X := X0.kept hb1
  have HB1 := Lib.hid (HB0.trans (hb1.mono HB0.size))
  have hgs := hs.src.lt
  have HA := Lib.hid hs.bytes.ltR
  have hx0 := X0.lt
  have hx1 : w.heap.size < w1.heap.size := by have := hb1.size; omega
  have hgw : g ≠ w.heap.size := by omega
  have hgw2 : w.heap.size ≤ g := by omega
  have HR := Lib.hid (draw_rib hs)
  clear hs HS X0 HB0 hb1 hx0
  go_wp2_with fail
  refine HR.out.mono ?_
  rintro e w2 ⟨v, ls, rfl, hv, hl10, hd⟩
  replace X := X.drawnR hgw hd
  have S : RlsAt w1 w2 g a len cap v ls := ⟨hd, hv⟩
  clear hd HR hv
  obtain ⟨va, vc, rfl⟩ := rown_form S.own
  go_wp2_with fail
  refine (draw_route S.drawn.1).mono ?_
  rintro e w3 ⟨r, rfl, hd⟩
  replace S := S.step hgs hd
  replace X := X.drawnR hgw hd
  clear hd
  have hne : some w3.heap.size ≠ (Value.slice va ls.length vc).ownBlock := fun e => by have := (S.own.lt _ e.symm).2; omega
  have hs3 := S.drawn.2.size
  have K7 := Blk.new w3 25 #[.int .i64 r.kind, .int .i64 r.vni, .int .i64 r.mac, .int .i64 r.ip, .int .i64 r.org, .int .i64 r.seq, .bool r.st]
  replace X := X.alloc (.cells #[.int .i64 r.kind, .int .i64 r.vni, .int .i64 r.mac, .int .i64 r.ip, .int .i64 r.org, .int .i64 r.seq, .bool r.st] 25)
  replace S := S.below hgs HA.out ((Below.refl _ w3).alloc (Nat.le_refl _) (.cells #[.int .i64 r.kind, .int .i64 r.vni, .int .i64 r.mac, .int .i64 r.ip, .int .i64 r.org, .int .i64 r.seq, .bool r.st] 25))
  unfold Rt.val rtV
  go_upto_region 4 with fail
  obtain ⟨W3, hW3⟩ : ∃ W, W = w3.alloc (.cells #[.int .i64 r.kind, .int .i64 r.vni, .int .i64 r.mac, .int .i64 r.ip, .int .i64 r.org, .int .i64 r.seq, .bool r.st] 25) := ⟨_, rfl⟩
  rw [← hW3] at X K7 S ⊢
  clear hW3
  generalize w3.heap.size = q7 at *
  have hg7 : g ≠ q7 := by omega
  have hw7 : w.heap.size ≠ q7 := by omega
  obtain ⟨m, hm⟩ : ∃ m, m = ls.length := ⟨_, rfl⟩
  have HM := Lib.hid hm
  rw [← hm] at S hl10 hne ⊢
  clear hm
  by_cases hm0 : m = 0
  · subst hm0
    go_upto_region 9 with fail
    have S0 : RlsAt w1 W3.drew g a len cap (.slice va 0 vc) ls := ⟨⟨⟨S.drawn.1.small, S.drawn.1.bytes, S.drawn.1.src, S.drawn.1.apart⟩, ⟨S.drawn.2.os, S.drawn.2.tape, S.drawn.2.output, S.drawn.2.size, S.drawn.2.block⟩⟩, S.own⟩
    have K0 := K7.drew
    have XX := X.drew
    clear S K7 X
    have hcX := XX.cell
    have hfX := XX.frozen
    refine wp_region_held_drew (S := fun W' => Blk W' q7 25 #[.int .i64 r.kind, .int .i64 r.vni, .int .i64 r.mac, .int .i64 r.ip, .int .i64 r.org, .int .i64 r.seq, .bool r.st]) (by kernel_rfl) K0 (fun hHeld => ?_)
    clear hHeld
    generalize W3.drew = Wd at *
    refine wpAnyH_take (i := 0) (oi := { dst := some 39, op := Op.move (Operand.tmp 6), type := 23, pos := "l06_rib.go:219", after := #[], guard := none }) (v := ?vva1) rfl (by kernel_rfl) (by kernel_rfl) (by kernel_rfl) (fun _ _ _ h => h) (Or.inl ⟨by rfl, ?hya1⟩) K0 ?resta1
    case hya1 => (intro w hSw; have hcY := hSw.cell;go_simp <;> with_reducible rfl)
    try simp only [Act.put, List.setIfInBounds_toArray, List.set_cons_zero, List.set_cons_succ]
    refine wpAnyH_take (i := 1) (oi := { dst := some 40, op := Op.move (Operand.tmp 5), type := 49, pos := "l06_rib.go:219", after := #[], guard := none }) (v := ?vva2) rfl (by kernel_rfl) (by kernel_rfl) (by kernel_rfl) (fun _ _ _ h => h) (Or.inl ⟨by rfl, ?hya2⟩) K0 ?resta2
    case hya2 => (intro w hSw; have hcY := hSw.cell;go_simp <;> with_reducible rfl)
    try simp only [Act.put, List.setIfInBounds_toArray, List.set_cons_zero, List.set_cons_succ]
    refine wpAnyH_take (i := 4) (oi := { dst := some 43, op := Op.load 25 (Operand.tmp 7), type := 25, pos := "l06_rib.go:219", after := #[{ on := 6, ground := Ground.gcOnly Departure.lateStores }], guard := none }) (v := ?vva3) rfl (by kernel_rfl) (by kernel_rfl) (by kernel_rfl) (fun _ _ _ h => h) (Or.inl ⟨by rfl, ?hya3⟩) K0 ?resta3
    case hya3 => (intro w hSw; have hcY := hSw.cell;go_simp <;> with_reducible rfl)
    try simp only [Act.put, List.setIfInBounds_toArray, List.set_cons_zero, List.set_cons_succ]
    refine wpAnyH_ready (rs := [2]) (by kernel_rfl) (by simp) ?_
    refine AllReadyH.cons (o := { dst := some 41, op := Op.call { callee := Callee.value (Operand.func 32), args := #[Operand.tmp 40, Operand.const (Value.int IntKind.i64 2)], argTypes := #[49, 2] }, type := 2, pos := "l06_rib.go:219", after := #[{ on := 1, ground := Ground.data }], guard := none }) rfl (fun K hK => ?_) AllReadyH.nil
    go_simp
    refine (draw_n 2 (by omega) (by omega) S0.drawn.1).mono ?_
    rintro e w6 ⟨n, rfl, ⟨hn0, hn1⟩, hd⟩
    replace S0 := S0.step hgs hd
    replace K0 := K0.drawnR hg7 hd
    replace XX := XX.drawnR hgw hd
    have hwn : IntKind.i64.wrap (1 + n) = 1 + n := (by simp only [IntKind.wrap_i64] <;> omega)
    clear hd hcX hfX
    have hcX := XX.cell
    have hfX := XX.frozen
    refine hK.out _ _ K0 (fun hHeld => ?_)
    clear hK K hHeld
    try simp only [Act.put, List.setIfInBounds_toArray, List.set_cons_zero, List.set_cons_succ]
    refine wpAnyH_take (i := 3) (oi := { dst := some 42, op := Op.binOp BinOp.add 2 (Operand.const (Value.int IntKind.i64 1)) (Operand.tmp 41) 2, type := 2, pos := "l06_rib.go:219", after := #[{ on := 2, ground := Ground.data }, { on := 5, ground := Ground.gcOnly Departure.lateStores }], guard := none }) (v := ?vva4) rfl (by kernel_rfl) (by kernel_rfl) (by kernel_rfl) (fun _ _ _ h => h) (Or.inl ⟨by rfl, ?hya4⟩) K0 ?resta4
    case hya4 => (intro w hSw; have hcY := hSw.cell;go_simp <;> with_reducible rfl)
    try simp only [Act.put, List.setIfInBounds_toArray, List.set_cons_zero, List.set_cons_succ]
    refine wpAnyH_take (i := 5) (oi := { dst := some 2, op := Op.assign (Operand.tmp 39), type := 23, pos := "l06_rib.go:219", after := #[{ on := 0, ground := Ground.data }, { on := 2, ground := Ground.chain }, { on := 0, ground := Ground.phase }, { on := 1, ground := Ground.textOnly Departure.lateStores }, { on := 2, ground := Ground.textOnly Departure.lateStoresUnsure }, { on := 3, ground := Ground.textOnly Departure.lateStores }, { on := 4, ground := Ground.textOnly Departure.lateStores }], guard := none }) (v := ?vva5) rfl (by kernel_rfl) (by kernel_rfl) (by kernel_rfl) (fun _ _ _ h => h) (Or.inl ⟨by rfl, ?hya5⟩) K0 ?resta5
    case hya5 => (intro w hSw; have hcY := hSw.cell;go_simp <;> with_reducible rfl)
    try simp only [Act.put, List.setIfInBounds_toArray, List.set_cons_zero, List.set_cons_succ]
    refine wpAnyH_take (i := 6) (oi := { dst := some 3, op := Op.assign (Operand.tmp 42), type := 2, pos := "l06_rib.go:219", after := #[{ on := 3, ground := Ground.data }, { on := 5, ground := Ground.chain }, { on := 0, ground := Ground.phase }, { on := 1, ground := Ground.phase }, { on := 2, ground := Ground.phase }, { on := 3, ground := Ground.phase }, { on := 4, ground := Ground.textOnly Departure.lateStores }, { on := 5, ground := Ground.phase }], guard := none }) (v := ?vva6) rfl (by kernel_rfl) (by kernel_rfl) (by kernel_rfl) (fun _ _ _ h => h) (Or.inl ⟨by rfl, ?hya6⟩) K0 ?resta6
    case hya6 => (intro w hSw; have hcY := hSw.cell;go_simp <;> with_reducible rfl)
    try simp only [Act.put, List.setIfInBounds_toArray, List.set_cons_zero, List.set_cons_succ]
    refine wpAnyH_ready (rs := [7]) (by kernel_rfl) (by simp) ?_
    refine AllReadyH.cons (o := { dst := none, op := Op.store 25 (Operand.tmp 4) (Operand.tmp 43), type := 0, pos := "l06_rib.go:219", after := #[{ on := 4, ground := Ground.data }, { on := 6, ground := Ground.chain }, { on := 0, ground := Ground.phase }, { on := 1, ground := Ground.phase }, { on := 2, ground := Ground.phase }, { on := 3, ground := Ground.phase }, { on := 4, ground := Ground.phase }, { on := 5, ground := Ground.phase }, { on := 6, ground := Ground.phase }], guard := none }) rfl (fun K hK => ?_) AllReadyH.nil
    go_simp
    obtain ⟨Wn, hWn, hX2, hfar, hbl, hrw⟩ := XX.pack7R (.int .i64 r.kind) (.int .i64 r.vni) (.int .i64 r.mac) (.int .i64 r.ip) (.int .i64 r.org) (.int .i64 r.seq) (.bool r.st)
    rw [hWn]
    replace K0 := hfar _ _ _ (Ne.symm hw7) K0
    have HB := hbl _ _ (src_belowR HB1.out hgw2 S0.drawn) (Nat.le_refl _)
    have HRw := hrw _ _ _ _ _ _ S0.own hx1
    clear S0 XX hcX hfX
    have XX := hX2
    have hcX := XX.cell
    have hfX := XX.frozen
    clear hWn hX2 hfar hbl hrw
    refine hK.out _ _ K0 (fun hHeld => ?_)
    clear hK K hHeld
    try simp only [Act.put, List.setIfInBounds_toArray, List.set_cons_zero, List.set_cons_succ]
    refine wpAnyH_done (by kernel_rfl) ?_ _
    all_goals
      have HBB := Lib.hid HB
      have HRR := Lib.hid HRw
      go_wp2_with fail
      refine bodyPost_ret (v := .tuple #[.slice va 0 vc, .int .i64 (1 + n), rtV r.kind r.vni r.mac r.ip r.org r.seq r.st]) ?_ rfl ⟨_, ls, 1 + n, r, rfl, rown_mono HRR.out (by omega), by rw [← HM.out]; exact hl10, HBB.out⟩
      simp [results, Tryz.results4, go_sem, rtV, hcX]
  · have hmp : (0 : Int) < (m : Int) := by omega
    go_wp2_with fail
    refine (draw_one 2 (by omega) (by omega) S.drawn.1).mono ?_
    rintro e w5 ⟨z, rfl, hd⟩
    replace S := S.step hgs hd
    replace X := X.drawnR hgw hd
    replace K7 := K7.drawnR hg7 hd
    clear hd
    cases z
    · skip
      go_upto_region 9 with fail
      have S0 : RlsAt w1 w5.drew g a len cap (.slice va m vc) ls := ⟨⟨⟨S.drawn.1.small, S.drawn.1.bytes, S.drawn.1.src, S.drawn.1.apart⟩, ⟨S.drawn.2.os, S.drawn.2.tape, S.drawn.2.output, S.drawn.2.size, S.drawn.2.block⟩⟩, S.own⟩
      have K0 := K7.drew
      have XX := X.drew
      clear S K7 X
      have hcX := XX.cell
      have hfX := XX.frozen
      refine wp_region_held_drew (S := fun W' => Blk W' q7 25 #[.int .i64 r.kind, .int .i64 r.vni, .int .i64 r.mac, .int .i64 r.ip, .int .i64 r.org, .int .i64 r.seq, .bool r.st]) (by kernel_rfl) K0 (fun hHeld => ?_)
      clear hHeld
      generalize w5.drew = Wd at *
      refine wpAnyH_take (i := 0) (oi := { dst := some 39, op := Op.move (Operand.tmp 6), type := 23, pos := "l06_rib.go:219", after := #[], guard := none }) (v := ?vvb1) rfl (by kernel_rfl) (by kernel_rfl) (by kernel_rfl) (fun _ _ _ h => h) (Or.inl ⟨by rfl, ?hyb1⟩) K0 ?restb1
      case hyb1 => (intro w hSw; have hcY := hSw.cell;go_simp <;> with_reducible rfl)
      try simp only [Act.put, List.setIfInBounds_toArray, List.set_cons_zero, List.set_cons_succ]
      refine wpAnyH_take (i := 1) (oi := { dst := some 40, op := Op.move (Operand.tmp 5), type := 49, pos := "l06_rib.go:219", after := #[], guard := none }) (v := ?vvb2) rfl (by kernel_rfl) (by kernel_rfl) (by kernel_rfl) (fun _ _ _ h => h) (Or.inl ⟨by rfl, ?hyb2⟩) K0 ?restb2
      case hyb2 => (intro w hSw; have hcY := hSw.cell;go_simp <;> with_reducible rfl)
      try simp only [Act.put, List.setIfInBounds_toArray, List.set_cons_zero, List.set_cons_succ]
      refine wpAnyH_take (i := 4) (oi := { dst := some 43, op := Op.load 25 (Operand.tmp 7), type := 25, pos := "l06_rib.go:219", after := #[{ on := 6, ground := Ground.gcOnly Departure.lateStores }], guard := none }) (v := ?vvb3) rfl (by kernel_rfl) (by kernel_rfl) (by kernel_rfl) (fun _ _ _ h => h) (Or.inl ⟨by rfl, ?hyb3⟩) K0 ?restb3
      case hyb3 => (intro w hSw; have hcY := hSw.cell;go_simp <;> with_reducible rfl)
      try simp only [Act.put, List.setIfInBounds_toArray, List.set_cons_zero, List.set_cons_succ]
      refine wpAnyH_ready (rs := [2]) (by kernel_rfl) (by simp) ?_
      refine AllReadyH.cons (o := { dst := some 41, op := Op.call { callee := Callee.value (Operand.func 32), args := #[Operand.tmp 40, Operand.const (Value.int IntKind.i64 2)], argTypes := #[49, 2] }, type := 2, pos := "l06_rib.go:219", after := #[{ on := 1, ground := Ground.data }], guard := none }) rfl (fun K hK => ?_) AllReadyH.nil
      go_simp
      refine (draw_n 2 (by omega) (by omega) S0.drawn.1).mono ?_
      rintro e w6 ⟨n, rfl, ⟨hn0, hn1⟩, hd⟩
      replace S0 := S0.step hgs hd
      replace K0 := K0.drawnR hg7 hd
      replace XX := XX.drawnR hgw hd
      have hwn : IntKind.i64.wrap (1 + n) = 1 + n := (by simp only [IntKind.wrap_i64] <;> omega)
      clear hd hcX hfX
      have hcX := XX.cell
      have hfX := XX.frozen
      refine hK.out _ _ K0 (fun hHeld => ?_)
      clear hK K hHeld
      try simp only [Act.put, List.setIfInBounds_toArray, List.set_cons_zero, List.set_cons_succ]
      refine wpAnyH_take (i := 3) (oi := { dst := some 42, op := Op.binOp BinOp.add 2 (Operand.const (Value.int IntKind.i64 1)) (Operand.tmp 41) 2, type := 2, pos := "l06_rib.go:219", after := #[{ on := 2, ground := Ground.data }, { on := 5, ground := Ground.gcOnly Departure.lateStores }], guard := none }) (v := ?vvb4) rfl (by kernel_rfl) (by kernel_rfl) (by kernel_rfl) (fun _ _ _ h => h) (Or.inl ⟨by rfl, ?hyb4⟩) K0 ?restb4
      case hyb4 => (intro w hSw; have hcY := hSw.cell;go_simp <;> with_reducible rfl)
      try simp only [Act.put, List.setIfInBounds_toArray, List.set_cons_zero, List.set_cons_succ]
      refine wpAnyH_take (i := 5) (oi := { dst := some 2, op := Op.assign (Operand.tmp 39), type := 23, pos := "l06_rib.go:219", after := #[{ on := 0, ground := Ground.data }, { on := 2, ground := Ground.chain }, { on := 0, ground := Ground.phase }, { on := 1, ground := Ground.textOnly Departure.lateStores }, { on := 2, ground := Ground.textOnly Departure.lateStoresUnsure }, { on := 3, ground := Ground.textOnly Departure.lateStores }, { on := 4, ground := Ground.textOnly Departure.lateStores }], guard := none }) (v := ?vvb5) rfl (by kernel_rfl) (by kernel_rfl) (by kernel_rfl) (fun _ _ _ h => h) (Or.inl ⟨by rfl, ?hyb5⟩) K0 ?restb5
      case hyb5 => (intro w hSw; have hcY := hSw.cell;go_simp <;> with_reducible rfl)
      try simp only [Act.put, List.setIfInBounds_toArray, List.set_cons_zero, List.set_cons_succ]
      refine wpAnyH_take (i := 6) (oi := { dst := some 3, op := Op.assign (Operand.tmp 42), type := 2, pos := "l06_rib.go:219", after := #[{ on := 3, ground := Ground.data }, { on := 5, ground := Ground.chain }, { on := 0, ground := Ground.phase }, { on := 1, ground := Ground.phase }, { on := 2, ground := Ground.phase }, { on := 3, ground := Ground.phase }, { on := 4, ground := Ground.textOnly Departure.lateStores }, { on := 5, ground := Ground.phase }], guard := none }) (v := ?vvb6) rfl (by kernel_rfl) (by kernel_rfl) (by kernel_rfl) (fun _ _ _ h => h) (Or.inl ⟨by rfl, ?hyb6⟩) K0 ?restb6
      case hyb6 => (intro w hSw; have hcY := hSw.cell;go_simp <;> with_reducible rfl)
      try simp only [Act.put, List.setIfInBounds_toArray, List.set_cons_zero, List.set_cons_succ]
      refine wpAnyH_ready (rs := [7]) (by kernel_rfl) (by simp) ?_
      refine AllReadyH.cons (o := { dst := none, op := Op.store 25 (Operand.tmp 4) (Operand.tmp 43), type := 0, pos := "l06_rib.go:219", after := #[{ on := 4, ground := Ground.data }, { on := 6, ground := Ground.chain }, { on := 0, ground := Ground.phase }, { on := 1, ground := Ground.phase }, { on := 2, ground := Ground.phase }, { on := 3, ground := Ground.phase }, { on := 4, ground := Ground.phase }, { on := 5, ground := Ground.phase }, { on := 6, ground := Ground.phase }], guard := none }) rfl (fun K hK => ?_) AllReadyH.nil
      go_simp
      obtain ⟨Wn, hWn, hX2, hfar, hbl, hrw⟩ := XX.pack7R (.int .i64 r.kind) (.int .i64 r.vni) (.int .i64 r.mac) (.int .i64 r.ip) (.int .i64 r.org) (.int .i64 r.seq) (.bool r.st)
      rw [hWn]
      replace K0 := hfar _ _ _ (Ne.symm hw7) K0
      have HB := hbl _ _ (src_belowR HB1.out hgw2 S0.drawn) (Nat.le_refl _)
      have HRw := hrw _ _ _ _ _ _ S0.own hx1
      clear S0 XX hcX hfX
      have XX := hX2
      have hcX := XX.cell
      have hfX := XX.frozen
      clear hWn hX2 hfar hbl hrw
      refine hK.out _ _ K0 (fun hHeld => ?_)
      clear hK K hHeld
      try simp only [Act.put, List.setIfInBounds_toArray, List.set_cons_zero, List.set_cons_succ]
      refine wpAnyH_done (by kernel_rfl) ?_ _
      all_goals
        have HBB := Lib.hid HB
        have HRR := Lib.hid HRw
        go_wp2_with fail
        refine bodyPost_ret (v := .tuple #[.slice va m vc, .int .i64 (1 + n), rtV r.kind r.vni r.mac r.ip r.org r.seq r.st]) ?_ rfl ⟨_, ls, 1 + n, r, rfl, rown_mono HRR.out (by omega), by rw [← HM.out]; exact hl10, HBB.out⟩
        simp [results, Tryz.results4, go_sem, rtV, hcX]
    · go_wp2_with fail
      refine (draw_leR (m : Int) (by omega) (by omega) S.drawn.1).mono ?_
      rintro e w4 ⟨y, rfl, ⟨hy0, hy1⟩, hd⟩
      replace S := S.step hgs hd
      replace X := X.drawnR hgw hd
      replace K7 := K7.drawnR hg7 hd
      clear hd
      obtain ⟨j, rfl⟩ : ∃ j : Nat, y = (j : Int) := ⟨y.toNat, by omega⟩
      have hj : j < m := by omega
      have hjl : j < ls.length := by rw [← HM.out]; exact hj
      obtain ⟨b, rfl⟩ : ∃ b, va = some ⟨b, 0, none⟩ := by
        rcases S.own.2 with ⟨e, e2⟩ | ⟨g', cap', cur, e, _⟩
        · have := HM.out; omega
        · injection e with e1
          exact ⟨g', e1⟩
      have hC : w4.cell? ⟨b, j * 9, none⟩ = some (.int .i64 (ls[j]).p) ∧ w4.cell? ⟨b, j * 9 + 1, none⟩ = some (.bool (ls[j]).s) ∧ w4.cell? ⟨b, j * 9 + 2, none⟩ = some (.int .i64 (ls[j]).r.kind) ∧ w4.cell? ⟨b, j * 9 + 3, none⟩ = some (.int .i64 (ls[j]).r.vni) ∧ w4.cell? ⟨b, j * 9 + 4, none⟩ = some (.int .i64 (ls[j]).r.mac) ∧ w4.cell? ⟨b, j * 9 + 5, none⟩ = some (.int .i64 (ls[j]).r.ip) ∧ w4.cell? ⟨b, j * 9 + 6, none⟩ = some (.int .i64 (ls[j]).r.org) ∧ w4.cell? ⟨b, j * 9 + 7, none⟩ = some (.int .i64 (ls[j]).r.seq) ∧ w4.cell? ⟨b, j * 9 + 8, none⟩ = some (.bool (ls[j]).r.st) := by
        obtain ⟨a2, c2, e2, hh⟩ := rows_of_own (cl := Hd.cl) Hd.cl_len (l := ls) S.own
        obtain ⟨b2, off2, ha2, hb2, HE2⟩ := hh (fun e => by have := congrArg List.length e; simp at this; rw [this] at hjl; simp at hjl)
        injection e2 with e4 e5 e6
        rw [← e4] at ha2
        injection ha2 with ha2
        injection ha2 with ha2 ha3
        subst ha2 ha3
        have := HE2.hd j hjl
        simpa using this
      generalize ls[j] = x at *
      obtain ⟨y0, y1, x0, x1, x2, x3, x4, x5, x6⟩ := x
      dsimp only at hC
      obtain ⟨p0, p1, p2, p3, p4, p5, p6, p7, p8⟩ := hC
      have hk := S.drawn.2.size
      have hk7 := K7.lt
      replace S := S.below hgs HA.out ((Below.refl _ w4).alloc (Nat.le_refl _) (.cells #[.int .i64 y0, .bool y1, .int .i64 x0, .int .i64 x1, .int .i64 x2, .int .i64 x3, .int .i64 x4, .int .i64 x5, .bool x6] 47))
      replace X := X.alloc (.cells #[.int .i64 y0, .bool y1, .int .i64 x0, .int .i64 x1, .int .i64 x2, .int .i64 x3, .int .i64 x4, .int .i64 x5, .bool x6] 47)
      replace K7 := K7.alloc (.cells #[.int .i64 y0, .bool y1, .int .i64 x0, .int .i64 x1, .int .i64 x2, .int .i64 x3, .int .i64 x4, .int .i64 x5, .bool x6] 47)
      have K8 := Blk.new w4 47 #[.int .i64 y0, .bool y1, .int .i64 x0, .int .i64 x1, .int .i64 x2, .int .i64 x3, .int .i64 x4, .int .i64 x5, .bool x6]
      go_upto_region 6 with fail
      clear p0 p1 p2 p3 p4 p5 p6 p7 p8
      obtain ⟨W5, hW5⟩ : ∃ W, W = w4.alloc (.cells #[.int .i64 y0, .bool y1, .int .i64 x0, .int .i64 x1, .int .i64 x2, .int .i64 x3, .int .i64 x4, .int .i64 x5, .bool x6] 47) := ⟨_, rfl⟩
      rw [← hW5] at X K7 K8 S ⊢
      clear hW5
      have h78 : q7 ≠ w4.heap.size := by omega
      have h08 : w.heap.size ≠ w4.heap.size := by omega
      generalize w4.heap.size = q8 at *
      obtain ⟨sq, hsq⟩ : ∃ s, IntKind.i64.wrap (x5 + 1) = s := ⟨_, rfl⟩
      obtain ⟨W6, hW6, K7b, hfar, hgr, hbl⟩ := K7.pack7S (.int .i64 x0) (.int .i64 x1) (.int .i64 x2) (.int .i64 x3) (.int .i64 x4) (.int .i64 x5) (.bool x6)
      have hc7 := K7.cell
      have hf7 := K7.frozen
      have hc8 := K8.cell
      go_upto_region 7 with fail
      clear hc7 hf7 hc8
      replace S := S.grown hgs HA.out hgr (hbl _ (by omega)) hne
      replace X := hfar _ _ _ hw7 X
      replace K8 := hfar _ _ _ (Ne.symm h78) K8
      clear K7 hfar hgr hbl hW6
      have K7 := K7b
      clear K7b
      have hc7 := K7.cell
      have hf7 := K7.frozen
      have S2 := S.grown hgs HA.out (grownSet (World.grownBy.refl W6 (some q7)) (j := 5) (u := .int .i64 sq)) ((Below.refl _ W6).setCell (p := ⟨q7, 5, none⟩) (by show w1.heap.size ≤ q7; omega) (.int .i64 sq)) hne
      have K7b := K7.set 5 (.int .i64 sq)
      simp only [List.setIfInBounds_toArray, List.set_cons_zero, List.set_cons_succ] at K7b
      have X2 := X.far (b' := q7) (i := 5) (v := .int .i64 sq) hw7
      have K8b := K8.far (b' := q7) (i := 5) (v := .int .i64 sq) (Ne.symm h78)
      clear S X K8 K7
      go_upto_region 8 with fail
      clear hc7 hf7
      generalize W6.setCell ⟨q7, 5, none⟩ (.int .i64 sq) = W7 at *
      have K0 : Blk W7.drew q7 25 #[.int .i64 x0, .int .i64 x1, .int .i64 x2, .int .i64 x3, .int .i64 x4, .int .i64 sq, .bool x6] ∧ Blk W7.drew q8 47 #[.int .i64 y0, .bool y1, .int .i64 x0, .int .i64 x1, .int .i64 x2, .int .i64 x3, .int .i64 x4, .int .i64 x5, .bool x6] := ⟨K7b.drew, K8b.drew⟩
      have XX := X2.drew
      have HB := (src_belowR HB1.out hgw2 S2.drawn).drew
      have HRw : W7.drew.ownsRow w1.heap.size 47 9 (.slice (some ⟨b, 0, none⟩) m vc) ls.length (rcells Hd.cl ls) := rown_below S2.own ((Below.refl _ _).drew)
      clear K7b K8b X2 S2
      have hcX := XX.cell
      have hfX := XX.frozen
      refine wp_region_held_drew (S := fun W' => Blk W' q7 25 #[.int .i64 x0, .int .i64 x1, .int .i64 x2, .int .i64 x3, .int .i64 x4, .int .i64 sq, .bool x6] ∧ Blk W' q8 47 #[.int .i64 y0, .bool y1, .int .i64 x0, .int .i64 x1, .int .i64 x2, .int .i64 x3, .int .i64 x4, .int .i64 x5, .bool x6]) (by kernel_rfl) K0 (fun hHeld => ?_)
      clear hHeld
      generalize W7.drew = Wd at *
      refine wpAnyH_take (i := 0) (oi := { dst := some 35, op := Op.move (Operand.tmp 6), type := 23, pos := "l06_rib.go:217", after := #[], guard := none }) (v := ?vvc1) rfl (by kernel_rfl) (by kernel_rfl) (by kernel_rfl) (fun _ _ _ h => h) (Or.inl ⟨by rfl, ?hyc1⟩) K0 ?restc1
      case hyc1 => (intro w hSw; have hcY := hSw.1.cell; have hcZ := hSw.2.cell;go_simp <;> with_reducible rfl)
      try simp only [Act.put, List.setIfInBounds_toArray, List.set_cons_zero, List.set_cons_succ]
      refine wpAnyH_take (i := 1) (oi := { dst := some 36, op := Op.fieldAddr 47 (Operand.tmp 8) 0, type := 0, pos := "l06_rib.go:217", after := #[{ on := 4, ground := Ground.gcOnly Departure.lateStores }], guard := none }) (v := ?vvc2) rfl (by kernel_rfl) (by kernel_rfl) (by kernel_rfl) (fun _ _ _ h => h) (Or.inl ⟨by rfl, ?hyc2⟩) K0 ?restc2
      case hyc2 => (intro w hSw; have hcY := hSw.1.cell; have hcZ := hSw.2.cell;go_simp <;> with_reducible rfl)
      try simp only [Act.put, List.setIfInBounds_toArray, List.set_cons_zero, List.set_cons_succ]
      refine wpAnyH_take (i := 2) (oi := { dst := some 37, op := Op.load 2 (Operand.tmp 36), type := 2, pos := "l06_rib.go:217", after := #[{ on := 1, ground := Ground.data }, { on := 4, ground := Ground.gcOnly Departure.lateStores }], guard := none }) (v := ?vvc3) rfl (by kernel_rfl) (by kernel_rfl) (by kernel_rfl) (fun _ _ _ h => h) (Or.inl ⟨by rfl, ?hyc3⟩) K0 ?restc3
      case hyc3 => (intro w hSw; have hcY := hSw.1.cell; have hcZ := hSw.2.cell;go_simp <;> with_reducible rfl)
      try simp only [Act.put, List.setIfInBounds_toArray, List.set_cons_zero, List.set_cons_succ]
      refine wpAnyH_take (i := 3) (oi := { dst := some 38, op := Op.load 25 (Operand.tmp 7), type := 25, pos := "l06_rib.go:217", after := #[{ on := 5, ground := Ground.gcOnly Departure.lateStores }], guard := none }) (v := ?vvc4) rfl (by kernel_rfl) (by kernel_rfl) (by kernel_rfl) (fun _ _ _ h => h) (Or.inl ⟨by rfl, ?hyc4⟩) K0 ?restc4
      case hyc4 => (intro w hSw; have hcY := hSw.1.cell; have hcZ := hSw.2.cell;go_simp <;> with_reducible rfl)
      try simp only [Act.put, List.setIfInBounds_toArray, List.set_cons_zero, List.set_cons_succ]
      refine wpAnyH_take (i := 4) (oi := { dst := some 2, op := Op.assign (Operand.tmp 35), type := 23, pos := "l06_rib.go:217", after := #[{ on := 0, ground := Ground.data }, { on := 0, ground := Ground.phase }, { on := 1, ground := Ground.textOnly Departure.lateStores }, { on := 2, ground := Ground.textOnly Departure.lateStores }, { on := 3, ground := Ground.textOnly Departure.lateStores }], guard := none }) (v := ?vvc5) rfl (by kernel_rfl) (by kernel_rfl) (by kernel_rfl) (fun _ _ _ h => h) (Or.inl ⟨by rfl, ?hyc5⟩) K0 ?restc5
      case hyc5 => (intro w hSw; have hcY := hSw.1.cell; have hcZ := hSw.2.cell;go_simp <;> with_reducible rfl)
      try simp only [Act.put, List.setIfInBounds_toArray, List.set_cons_zero, List.set_cons_succ]
      refine wpAnyH_take (i := 5) (oi := { dst := some 3, op := Op.assign (Operand.tmp 37), type := 2, pos := "l06_rib.go:217", after := #[{ on := 2, ground := Ground.data }, { on := 4, ground := Ground.chain }, { on := 0, ground := Ground.phase }, { on := 1, ground := Ground.phase }, { on := 2, ground := Ground.phase }, { on := 3, ground := Ground.textOnly Departure.lateStores }, { on := 4, ground := Ground.phase }], guard := none }) (v := ?vvc6) rfl (by kernel_rfl) (by kernel_rfl) (by kernel_rfl) (fun _ _ _ h => h) (Or.inl ⟨by rfl, ?hyc6⟩) K0 ?restc6
      case hyc6 => (intro w hSw; have hcY := hSw.1.cell; have hcZ := hSw.2.cell;go_simp <;> with_reducible rfl)
      try simp only [Act.put, List.setIfInBounds_toArray, List.set_cons_zero, List.set_cons_succ]
      refine wpAnyH_ready (rs := [6]) (by kernel_rfl) (by simp) ?_
      refine AllReadyH.cons (o := { dst := none, op := Op.store 25 (Operand.tmp 4) (Operand.tmp 38), type := 0, pos := "l06_rib.go:217", after := #[{ on := 3, ground := Ground.data }, { on := 5, ground := Ground.chain }, { on := 0, ground := Ground.phase }, { on := 1, ground := Ground.phase }, { on := 2, ground := Ground.phase }, { on := 3, ground := Ground.phase }, { on := 4, ground := Ground.phase }, { on := 5, ground := Ground.phase }], guard := none }) rfl (fun K hK => ?_) AllReadyH.nil
      go_simp
      obtain ⟨Wn, hWn, hX2, hfar, hbl, hrw⟩ := XX.pack7R (.int .i64 x0) (.int .i64 x1) (.int .i64 x2) (.int .i64 x3) (.int .i64 x4) (.int .i64 sq) (.bool x6)
      rw [hWn]
      replace K0 := And.intro (hfar _ _ _ (Ne.symm hw7) K0.1) (hfar _ _ _ (Ne.symm h08) K0.2)
      replace HB := hbl _ _ HB (Nat.le_refl _)
      replace HRw := hrw _ _ _ _ _ _ HRw hx1
      clear XX hcX hfX
      have XX := hX2
      have hcX := XX.cell
      have hfX := XX.frozen
      clear hWn hX2 hfar hbl hrw
      refine hK.out _ _ K0 (fun hHeld => ?_)
      clear hK K hHeld
      try simp only [Act.put, List.setIfInBounds_toArray, List.set_cons_zero, List.set_cons_succ]
      refine wpAnyH_done (by kernel_rfl) ?_ _
      all_goals
        have HBB := Lib.hid HB
        have HRR := Lib.hid HRw
        go_wp2_with fail
        refine bodyPost_ret (v := .tuple #[.slice (some ⟨b, 0, none⟩) m vc, .int .i64 y0, rtV x0 x1 x2 x3 x4 sq x6]) ?_ rfl ⟨_, ls, y0, ⟨x0, x1, x2, x3, x4, sq, x6⟩, rfl, rown_mono HRR.out (by omega), by rw [← HM.out]; exact hl10, HBB.out⟩
        simp [results, Tryz.results4, go_sem, rtV, hcX]
end Go.Proofs.YtdnpaopbicdolaaGreat
