/- Draws of chapter 9. -/
import Derived.Test.YthilmonokhdjmaaDraw5
import Derived.Test.YthilmonokhdjmaaPuI
import Derived.Deep.CutRange
namespace Go.Proofs.Ythilmonokhdjmaa
open Go.RowKit

theorem Drawn.lowW {w W W' : World} {g : Nat} {a : Option Addr} {len cap : Nat} (h : Drawn g a len cap w W) (hg : g < w.heap.size) (ha : ∀ b off, 0 < len → a = some ⟨b, off, none⟩ → b < w.heap.size) (hb : Below w.heap.size W W') : Drawn g a len cap w W' := by
  refine ⟨⟨h.1.small, ?_, ?_, h.1.apart⟩, ⟨hb.os.trans h.2.os, hb.tape.trans h.2.tape, hb.output.trans h.2.output, Nat.le_trans h.2.size hb.size, fun k hk hne => (hb.block k hk).trans (h.2.block k hk hne)⟩⟩
  · rcases h.1.bytes with h0 | ⟨b, off, rfl, hc⟩
    · exact .inl h0
    · refine .inr ⟨b, off, rfl, fun i hi => ?_⟩
      obtain ⟨z, h0, h1, hcell⟩ := hc i hi
      exact ⟨z, h0, h1, (hb.cell (p := ⟨b, off + i, none⟩) (ha b off (by omega) rfl)).trans hcell⟩
  · obtain ⟨p, m, z, h0, h1, h2, h3, h4, h5, hh⟩ := h.1.src
    exact ⟨p, m, z, h0, h1, h2, h3, h4, h5, (hb.block g hg).trans hh⟩
theorem BytesAt.ltW {w : World} {a : Option Addr} {len : Nat} (h : BytesAt w a len) : ∀ b off, 0 < len → a = some ⟨b, off, none⟩ → b < w.heap.size := by
  intro b off hl he
  rcases h with h0 | ⟨b', off', rfl, hc⟩
  · omega
  · obtain ⟨z, _, _, hcell⟩ := hc 0 hl
    have e := Option.some.inj he
    injection e with e1
    subst e1
    exact World.block_lt_of_cell? w _ hcell
structure WlsAt (w W : World) (g : Nat) (a : Option Addr) (len cap : Nat) (f : Value) (ls : List Mv) : Prop where
  drawn : Drawn g a len cap w W
  own : W.ownsRow w.heap.size 34 3 f ls.length (rcells Mv.cl ls)
section
variable {w W W' w5 : World} {g : Nat} {a : Option Addr} {len cap : Nat} {f : Value} {ls : List Mv} {x : Mv} {o : Obj} {a5 : Option Addr} {n5 c5 : Nat}
theorem WlsAt.step (h : WlsAt w W g a len cap f ls) (hg : g < w.heap.size) (hd : Drawn g a len cap W W') : WlsAt w W' g a len cap f ls := by
  refine ⟨h.drawn.trans hd, h.own.kept hd.2 ?_⟩
  cases hv : f.ownBlock with
  | none => exact .inl rfl
  | some b => right; intro e; injection e with e; have := (h.own.lt b hv).1; omega
theorem WlsAt.app (h : WlsAt w W g a len cap f ls) (hg : g < w.heap.size) (ha : ∀ b off, 0 < len → a = some ⟨b, off, none⟩ → b < w.heap.size) (hn5 : n5 = (ls ++ [x]).length)
    (ho : w5.ownsRow w.heap.size 34 3 (.slice a5 n5 c5) n5 (rcells Mv.cl (ls ++ [x]))) (hgr : (W.alloc o).grownBy w5 f.ownBlock) : WlsAt w w5 g a len cap (.slice a5 n5 c5) (ls ++ [x]) :=
  ⟨h.drawn.lowW hg ha (app_below (Below.refl _ W) h.drawn.2.size h.own hgr), by rw [← hn5]; exact ho⟩
end
def WsPost (g : Nat) (a : Option Addr) (len cap : Nat) (w : World) (e : Ending) (w' : World) : Prop := ∃ v ls, e = .returned v ∧ w'.ownsRow w.heap.size 34 3 v ls.length (rcells Mv.cl ls) ∧ ls.length ≤ 40 ∧ Drawn g a len cap w w'
set_option maxRecDepth 100000 in
set_option maxHeartbeats 8000000 in
theorem draw_row8 {g len cap : Nat} {a : Option Addr} {w : World} (h : Src w g a len cap) :
    Calls Try.prog 100 #[.pointer (some ⟨g, 0, none⟩)] w (WsPost g a len cap w) := by
  obtain ⟨i0, hi0, hz0, hz1, hz2⟩ := info_parts Mv.info
  have HA := Lib.hid h.bytes.ltW
  have H := Lib.hid h; clear h
  have hgl := H.out.src.lt
  unfold WsPost
  go_enter Try.func100, Try.ntmps100
  go_wp2_with fail
  refine (draw_n 9 (by omega) (by omega) (H.out.alloc _)).mono ?_
  rintro e w1 ⟨x, rfl, ⟨hx0, hx1⟩, hd⟩
  have S : WlsAt w w1 g a len cap (.slice (some ⟨w.heap.size, 0, none⟩) 0 0) [] := by
    refine ⟨Drawn.from hd, ?_⟩
    have k : (w.alloc (.cells #[] 34)).ownsRow w.heap.size 34 3 (.slice (some ⟨w.heap.size, 0, none⟩) 0 0) 0 [] := World.ownsRow_made w #[] 0 (Nat.le_refl _) (by decide) rfl
    exact k.kept hd.2 (.inr (by simp [Value.ownBlock]; omega))
  obtain ⟨kx, rfl⟩ : ∃ k : Nat, x = (k : Int) := ⟨x.toNat, by omega⟩
  have hkx : kx ≤ 8 := by omega
  clear hx0 hx1 hd
  have HS0 := Lib.hid S
  clear S
  go_wp2_with fail
  go_loopw [3, 4, 5] (fun f u kk wr => ∃ (k : Nat) (ls : List Mv) (t : Int), kk = .int .i64 (k : Int) ∧ u = .int .i64 t ∧ ls.length + k ≤ 8 ∧ Hid (WlsAt w wr g a len cap f ls)) (fun _ _ kk _ => (intOf kk).toNat)
  case atStart => exact ⟨kx, [], 0, rfl, rfl, by simp; omega, HS0⟩
  case round =>
    clear HS0
    obtain ⟨k, ls, tm, rfl, rfl, hl9, HSr⟩ := hrel
    have S := HSr.out
    clear HSr
    obtain ⟨fa, fc, rfl⟩ := rown_form S.own
    by_cases hpos : 0 < k
    · have hk0 : (0 : Int) < k := by omega
      go_wp2_with fail
      refine (draw_n 9 (by omega) (by omega) S.drawn.1).mono ?_
      rintro e w3 ⟨x, rfl, _, hd⟩
      replace S := S.step hgl hd
      clear hd
      go_wp2_with fail
      refine (draw_n 2 (by omega) (by omega) S.drawn.1).mono ?_
      rintro e w4 ⟨y, rfl, ⟨hy0, hy1⟩, hd⟩
      replace S := S.step hgl hd
      clear hd
      have HS := Lib.hid S
      clear S
      obtain ⟨T, hT⟩ : ∃ T, T = wrap64 (tm + x) := ⟨_, rfl⟩
      rw [← hT]
      have HLt := Lib.hid (lit_cells (cl := Mv.cl) w4 #[.int .i64 5, .int .i64 (161 + y), .int .i64 T] 34 ⟨5, 161 + y, T⟩ rfl)
      clear hT
      go_wp2_with (at_builtin; refine wpList_append_row Mv.cl_len Mv.cl_one1 tyM _ rfl _ _ rfl w.heap.size _ ls ⟨5, 161 + y, T⟩ rfl (HS.out.own.alloc _) ⟨w4.heap.size, 0, none⟩ rfl HLt.out (by omega) (by have := HS.out.drawn.2.size; simp; omega) ?_; intro a' c' n' w5 HN5 hown5 hg5; have HS5 := Lib.hid (HS.out.app hgl HA.out HN5.out hown5 hg5); clear hown5 hg5)
      go_roundw
      case rel => exact ⟨k - 1, _, T, by congr 1; omega, rfl, by rw [List.length_append]; simp; omega, HS5⟩
      case measure => simp [intOf]; omega
    · have hk0 : ¬ (0 : Int) < k := by omega
      have HL9 : Hid (ls.length ≤ 9) := Lib.hid (by omega)
      clear hl9
      go_wp2_with fail
      refine (draw_one 15 (by omega) (by omega) S.drawn.1).mono ?_
      rintro e w6 ⟨z, rfl, hd⟩
      replace S := S.step hgl hd
      clear hd
      cases z
      · go_wp2_with fail
        go_ret
        exact ⟨_, ls, rfl, S.own, by have := HL9.out; omega, S.drawn⟩
      · go_wp2_with fail
        refine (draw_n 3 (by omega) (by omega) S.drawn.1).mono ?_
        rintro e w7 ⟨sw, rfl, ⟨hs0, hs1⟩, hd⟩
        replace S := S.step hgl hd
        clear hd
        have hsw : sw = 0 ∨ sw = 1 ∨ sw = 2 := by omega
        clear hs0 hs1
        rcases hsw with rfl | rfl | rfl
        · have HS := Lib.hid S
          clear S
          have HLt := Lib.hid (lit_cells (cl := Mv.cl) w7 #[.int .i64 5, .int .i64 161, .int .i64 0] 34 ⟨5, 161, 0⟩ rfl)
          go_wp2_with (at_builtin; refine wpList_append_row Mv.cl_len Mv.cl_one1 tyM _ rfl _ _ rfl w.heap.size _ ls ⟨5, 161, 0⟩ rfl (HS.out.own.alloc _) ⟨w7.heap.size, 0, none⟩ rfl HLt.out (by have := HL9.out; omega) (by have := HS.out.drawn.2.size; simp; omega) ?_; intro a' c' n' w5 HN5 hown5 hg5; have HS5 := Lib.hid (HS.out.app hgl HA.out HN5.out hown5 hg5); clear hown5 hg5)
          go_ret
          exact ⟨_, _, rfl, HS5.out.own, by rw [List.length_append]; have := HL9.out; simp; omega, HS5.out.drawn⟩
        · go_wp2_with fail
          refine (draw_vni S.drawn.1).mono ?_
          rintro e w8 ⟨vn, rfl, _, hd⟩
          replace S := S.step hgl hd
          clear hd
          go_wp2_with fail
          refine (draw_mac S.drawn.1).mono ?_
          rintro e w9 ⟨mc, rfl, _, hd⟩
          replace S := S.step hgl hd
          clear hd
          have HS := Lib.hid S
          clear S
          have HLt := Lib.hid (lit_cells (cl := Mv.cl) w9 #[.int .i64 vn, .int .i64 mc, .int .i64 99] 34 ⟨vn, mc, 99⟩ rfl)
          go_wp2_with (at_builtin; refine wpList_append_row Mv.cl_len Mv.cl_one1 tyM _ rfl _ _ rfl w.heap.size _ ls ⟨vn, mc, 99⟩ rfl (HS.out.own.alloc _) ⟨w9.heap.size, 0, none⟩ rfl HLt.out (by have := HL9.out; omega) (by have := HS.out.drawn.2.size; simp; omega) ?_; intro a' c' n' w5 HN5 hown5 hg5; have HS5 := Lib.hid (HS.out.app hgl HA.out HN5.out hown5 hg5); clear hown5 hg5)
          go_ret
          exact ⟨_, _, rfl, HS5.out.own, by rw [List.length_append]; have := HL9.out; simp; omega, HS5.out.drawn⟩
        · go_wp2_with fail
          refine (draw_n 3 (by omega) (by omega) S.drawn.1).mono ?_
          rintro e w8 ⟨x3, rfl, ⟨hx0, hx1⟩, hd⟩
          replace S := S.step hgl hd
          clear hd
          have HDr := Lib.hid S.drawn
          have hsz8 := S.drawn.2.size
          clear S
          have hx3 : x3 = 0 ∨ x3 = 1 ∨ x3 = 2 := by omega
          clear hx0 hx1
          rcases hx3 with rfl | rfl | rfl
          · obtain ⟨f, hf⟩ : ∃ f : Nat → List Value, f = fun m : Nat => (⟨5, 161, (m : Int)⟩ : Mv).cl := ⟨_, rfl⟩
            have HFi : Hid (∀ m, f m = [.int .i64 5, .int .i64 161, .int .i64 (m : Int)]) := Lib.hid (fun m => by rw [hf]; rfl)
            clear hf
            go_wp2_with (refine wpList_make_full _ rfl _ _ 25 rfl w.heap.size 34 i0 _ 3 Try.underlying25 hi0 hz0 hz1 .i64 .i64 _ _ 29 rfl rfl rfl rfl (by rw [hz2]; omega) (by unfold maxLen; omega) hsz8 ?_; intro w0 hown hg0; have HF : Hid (RPart w0 w.heap.size 34 3 w8.heap.size 29 29 f 0 0) := Lib.hid (RPart.start hown); have HD0 : Hid (Drawn g a len cap w w0) := Lib.hid (HDr.out.lowW hgl HA.out ((Below.refl _ _).grown hg0 hsz8 (fun k hk => by cases hk))); clear hown hg0)
            go_loopw [6] (fun u wr => ∃ i : Nat, i ≤ 29 ∧ u = .int .i64 (i : Int) ∧ Hid (RPart wr w.heap.size 34 3 w8.heap.size 29 29 f i 0) ∧ Hid (Drawn g a len cap w wr)) (fun u _ => 29 - (intOf u).toNat)
            case atStart => exact ⟨0, Nat.zero_le _, rfl, HF, HD0⟩
            case round =>
              clear HF HD0
              obtain ⟨i, hi, rfl, HF, HD⟩ := hrel
              by_cases hlt : i < 29
              · have hl1 : (i : Int) < 29 := by omega
                obtain ⟨z0, c0⟩ := HF.out.cell 0 hlt (by omega)
                obtain ⟨z1, c1⟩ := HF.out.cell 1 hlt (by omega)
                obtain ⟨z2, c2⟩ := HF.out.cell 2 hlt (by omega)
                rw [Nat.add_zero] at c0
                have fz := HF.out.frozen
                have HF2 := Lib.hid (RPart.next (RPart.set (RPart.set (RPart.set HF.out hlt (by omega) (u := .int .i64 5) (by rw [HFi.out]; rfl)) hlt (by omega) (u := .int .i64 161) (by rw [HFi.out]; rfl)) hlt (by omega) (u := .int .i64 (i : Int)) (by rw [HFi.out]; rfl)))
                have HD2 := Lib.hid (((HD.out.set H.out hsz8 (i * 3) (.int .i64 5)).set H.out hsz8 (i * 3 + 1) (.int .i64 161)).set H.out hsz8 (i * 3 + 2) (.int .i64 (i : Int)))
                go_wp2_with fail
                go_roundw
                case rel => exact ⟨i + 1, by omega, by simp, HF2, HD2⟩
                case measure => simp [intOf]; omega
              · have hin : i = 29 := by omega
                subst hin
                have HO := Lib.hid (HF.out.done Mv.cl_len (by omega) (l := (List.range 29).map fun m : Nat => (⟨5, 161, (m : Int)⟩ : Mv)) (by simp) (fun m hm => by rw [HFi.out]; simp [Mv.cl]))
                go_wp2_with fail
                go_ret
                exact ⟨_, (List.range 29).map fun m : Nat => (⟨5, 161, (m : Int)⟩ : Mv), rfl, by rw [List.length_map, List.length_range]; exact HO.out, by simp, HD.out⟩
          · obtain ⟨f, hf⟩ : ∃ f : Nat → List Value, f = fun m : Nat => (⟨5, 161, (m : Int)⟩ : Mv).cl := ⟨_, rfl⟩
            have HFi : Hid (∀ m, f m = [.int .i64 5, .int .i64 161, .int .i64 (m : Int)]) := Lib.hid (fun m => by rw [hf]; rfl)
            clear hf
            go_wp2_with (refine wpList_make_full _ rfl _ _ 25 rfl w.heap.size 34 i0 _ 3 Try.underlying25 hi0 hz0 hz1 .i64 .i64 _ _ 30 rfl rfl rfl rfl (by rw [hz2]; omega) (by unfold maxLen; omega) hsz8 ?_; intro w0 hown hg0; have HF : Hid (RPart w0 w.heap.size 34 3 w8.heap.size 30 30 f 0 0) := Lib.hid (RPart.start hown); have HD0 : Hid (Drawn g a len cap w w0) := Lib.hid (HDr.out.lowW hgl HA.out ((Below.refl _ _).grown hg0 hsz8 (fun k hk => by cases hk))); clear hown hg0)
            go_loopw [6] (fun u wr => ∃ i : Nat, i ≤ 30 ∧ u = .int .i64 (i : Int) ∧ Hid (RPart wr w.heap.size 34 3 w8.heap.size 30 30 f i 0) ∧ Hid (Drawn g a len cap w wr)) (fun u _ => 30 - (intOf u).toNat)
            case atStart => exact ⟨0, Nat.zero_le _, rfl, HF, HD0⟩
            case round =>
              clear HF HD0
              obtain ⟨i, hi, rfl, HF, HD⟩ := hrel
              by_cases hlt : i < 30
              · have hl1 : (i : Int) < 30 := by omega
                obtain ⟨z0, c0⟩ := HF.out.cell 0 hlt (by omega)
                obtain ⟨z1, c1⟩ := HF.out.cell 1 hlt (by omega)
                obtain ⟨z2, c2⟩ := HF.out.cell 2 hlt (by omega)
                rw [Nat.add_zero] at c0
                have fz := HF.out.frozen
                have HF2 := Lib.hid (RPart.next (RPart.set (RPart.set (RPart.set HF.out hlt (by omega) (u := .int .i64 5) (by rw [HFi.out]; rfl)) hlt (by omega) (u := .int .i64 161) (by rw [HFi.out]; rfl)) hlt (by omega) (u := .int .i64 (i : Int)) (by rw [HFi.out]; rfl)))
                have HD2 := Lib.hid (((HD.out.set H.out hsz8 (i * 3) (.int .i64 5)).set H.out hsz8 (i * 3 + 1) (.int .i64 161)).set H.out hsz8 (i * 3 + 2) (.int .i64 (i : Int)))
                go_wp2_with fail
                go_roundw
                case rel => exact ⟨i + 1, by omega, by simp, HF2, HD2⟩
                case measure => simp [intOf]; omega
              · have hin : i = 30 := by omega
                subst hin
                have HO := Lib.hid (HF.out.done Mv.cl_len (by omega) (l := (List.range 30).map fun m : Nat => (⟨5, 161, (m : Int)⟩ : Mv)) (by simp) (fun m hm => by rw [HFi.out]; simp [Mv.cl]))
                go_wp2_with fail
                go_ret
                exact ⟨_, (List.range 30).map fun m : Nat => (⟨5, 161, (m : Int)⟩ : Mv), rfl, by rw [List.length_map, List.length_range]; exact HO.out, by simp, HD.out⟩
          · obtain ⟨f, hf⟩ : ∃ f : Nat → List Value, f = fun m : Nat => (⟨5, 161, (m : Int)⟩ : Mv).cl := ⟨_, rfl⟩
            have HFi : Hid (∀ m, f m = [.int .i64 5, .int .i64 161, .int .i64 (m : Int)]) := Lib.hid (fun m => by rw [hf]; rfl)
            clear hf
            go_wp2_with (refine wpList_make_full _ rfl _ _ 25 rfl w.heap.size 34 i0 _ 3 Try.underlying25 hi0 hz0 hz1 .i64 .i64 _ _ 31 rfl rfl rfl rfl (by rw [hz2]; omega) (by unfold maxLen; omega) hsz8 ?_; intro w0 hown hg0; have HF : Hid (RPart w0 w.heap.size 34 3 w8.heap.size 31 31 f 0 0) := Lib.hid (RPart.start hown); have HD0 : Hid (Drawn g a len cap w w0) := Lib.hid (HDr.out.lowW hgl HA.out ((Below.refl _ _).grown hg0 hsz8 (fun k hk => by cases hk))); clear hown hg0)
            go_loopw [6] (fun u wr => ∃ i : Nat, i ≤ 31 ∧ u = .int .i64 (i : Int) ∧ Hid (RPart wr w.heap.size 34 3 w8.heap.size 31 31 f i 0) ∧ Hid (Drawn g a len cap w wr)) (fun u _ => 31 - (intOf u).toNat)
            case atStart => exact ⟨0, Nat.zero_le _, rfl, HF, HD0⟩
            case round =>
              clear HF HD0
              obtain ⟨i, hi, rfl, HF, HD⟩ := hrel
              by_cases hlt : i < 31
              · have hl1 : (i : Int) < 31 := by omega
                obtain ⟨z0, c0⟩ := HF.out.cell 0 hlt (by omega)
                obtain ⟨z1, c1⟩ := HF.out.cell 1 hlt (by omega)
                obtain ⟨z2, c2⟩ := HF.out.cell 2 hlt (by omega)
                rw [Nat.add_zero] at c0
                have fz := HF.out.frozen
                have HF2 := Lib.hid (RPart.next (RPart.set (RPart.set (RPart.set HF.out hlt (by omega) (u := .int .i64 5) (by rw [HFi.out]; rfl)) hlt (by omega) (u := .int .i64 161) (by rw [HFi.out]; rfl)) hlt (by omega) (u := .int .i64 (i : Int)) (by rw [HFi.out]; rfl)))
                have HD2 := Lib.hid (((HD.out.set H.out hsz8 (i * 3) (.int .i64 5)).set H.out hsz8 (i * 3 + 1) (.int .i64 161)).set H.out hsz8 (i * 3 + 2) (.int .i64 (i : Int)))
                go_wp2_with fail
                go_roundw
                case rel => exact ⟨i + 1, by omega, by simp, HF2, HD2⟩
                case measure => simp [intOf]; omega
              · have hin : i = 31 := by omega
                subst hin
                have HO := Lib.hid (HF.out.done Mv.cl_len (by omega) (l := (List.range 31).map fun m : Nat => (⟨5, 161, (m : Int)⟩ : Mv)) (by simp) (fun m hm => by rw [HFi.out]; simp [Mv.cl]))
                go_wp2_with fail
                go_ret
                exact ⟨_, (List.range 31).map fun m : Nat => (⟨5, 161, (m : Int)⟩ : Mv), rfl, by rw [List.length_map, List.length_range]; exact HO.out, by simp, HD.out⟩
theorem bytes_belowW {w w' : World} {a : Option Addr} {len : Nat} (h : BytesAt w a len) (hb : Below w.heap.size w w') : BytesAt w' a len := by
  have hl := h.ltW
  rcases h with h0 | ⟨b, off, rfl, hc⟩
  · exact .inl h0
  · refine .inr ⟨b, off, rfl, fun i hi => ?_⟩
    obtain ⟨z, h0, h1, hcell⟩ := hc i hi
    exact ⟨z, h0, h1, (hb.cell (p := ⟨b, off + i, none⟩) (hl b off (by omega) rfl)).trans hcell⟩
theorem src_belowW {w w1 w2 : World} {g : Nat} {a : Option Addr} {len cap : Nat} (hb : Below w.heap.size w w1) (hg : w.heap.size ≤ g) (hd : Drawn g a len cap w1 w2) : Below w.heap.size w w2 :=
  hb.grown hd.2 hb.size (fun k hk => by have : g = k := by simpa using hk
                                        omega)
theorem row_drawnW {w2 w3 : World} {g B n sz : Nat} {t : TypeId} {a : Option Addr} {len cap : Nat} {v : Value} {xs : List Value} (h : w2.ownsRow B t sz v n xs) (hg : g < B) (hd : Drawn g a len cap w2 w3) : w3.ownsRow B t sz v n xs := by
  refine h.kept hd.2 ?_
  cases hv : v.ownBlock with
  | none => exact .inl rfl
  | some b => right; intro e; injection e with e; have := (h.lt b hv).1; omega
def DwPut (w : World) (e : Ending) (w' : World) : Prop := ∃ (v : Value) (ls : List Mv) (r : Mv), e = .returned (.tuple #[v, r.val]) ∧ w'.ownsRow w.heap.size 34 3 v ls.length (rcells Mv.cl ls) ∧ ls.length ≤ 40 ∧ Below w.heap.size w w'
def DwCount (w : World) (e : Ending) (w' : World) : Prop := ∃ (v : Value) (ls : List Mv) (p q n : Int), e = .returned (.tuple #[v, .int .i64 p, .int .i64 q, .int .i64 n]) ∧ w'.ownsRow w.heap.size 34 3 v ls.length (rcells Mv.cl ls) ∧ ls.length ≤ 40 ∧ Below w.heap.size w w'
def DwTrim (w : World) (e : Ending) (w' : World) : Prop := ∃ (v : Value) (ls : List Mv) (n : Int), e = .returned (.tuple #[v, .int .i64 n]) ∧ w'.ownsRow w.heap.size 34 3 v ls.length (rcells Mv.cl ls) ∧ ls.length ≤ 40 ∧ Below w.heap.size w w'
def DwDrop (w : World) (e : Ending) (w' : World) : Prop := ∃ (v : Value) (ls : List Mv) (q : Int), e = .returned (.tuple #[v, .int .i64 5, .int .i64 q]) ∧ 161 ≤ q ∧ q ≤ 162 ∧ w'.ownsRow w.heap.size 34 3 v ls.length (rcells Mv.cl ls) ∧ ls.length ≤ 40 ∧ Below w.heap.size w w'
set_option maxRecDepth 100000 in
set_option maxHeartbeats 4000000 in
theorem draw_wentPut {len cap : Nat} {a : Option Addr} {w : World} (hl : len ≤ 1048576) (hb : BytesAt w a len) :
    Calls Try.prog 33 #[.slice a len cap] w (DwPut w) := by
  have X0 := Blk.new w 34 #[.int .i64 0, .int .i64 0, .int .i64 0]
  have HB0 : Below w.heap.size w (w.alloc (.cells #[.int .i64 0, .int .i64 0, .int .i64 0] 34)) := (Below.refl _ _).alloc (Nat.le_refl _) _
  have HS := Lib.hid (draw_source (cap := cap) hl (bytes_belowW hb HB0))
  clear hb
  go_enter Try.func33, Try.ntmps33
  go_upto_region 1 with fail
  generalize w.alloc (.cells #[.int .i64 0, .int .i64 0, .int .i64 0] 34) = w0 at *
  go_wp2_with fail
  refine HS.out.mono ?_
  rintro e w1 ⟨g, rfl, hg, hs, hb1⟩
  have X1 := X0.kept hb1
  have HB1 := HB0.trans (hb1.mono HB0.size)
  have hgs := hs.src.lt
  have hx0 := X0.lt
  have HR := Lib.hid (draw_row8 hs)
  clear hs hb1 HS X0
  go_wp2_with fail
  refine HR.out.mono ?_
  rintro e w2 ⟨v, ls, rfl, hv, hl10, hd⟩
  have HB2 := src_belowW HB1 (by omega) hd
  have X2 := X1.grown hd.2 (by intro e; injection e; omega)
  have HG := Lib.hid (draw_vni hd.1)
  clear hd HR X1 HB1
  obtain ⟨va, vc, rfl⟩ := rown_form hv
  go_wp2_with fail
  refine HG.out.mono ?_
  rintro e w3 ⟨vn, rfl, _, hd⟩
  have HB3 := src_belowW HB2 (by omega) hd
  have X3 := X2.grown hd.2 (by intro e; injection e; omega)
  have hv3 := row_drawnW hv hgs hd
  have HG2 := Lib.hid (draw_n 2 (by omega) (by omega) hd.1)
  clear hd HG X2 HB2 hv
  go_wp2_with fail
  refine HG2.out.mono ?_
  rintro e w4 ⟨y, rfl, ⟨hy0, hy1⟩, hd⟩
  have HB4 := src_belowW HB3 (by omega) hd
  have X4 := X3.grown hd.2 (by intro e; injection e; omega)
  have hv4 := row_drawnW hv3 hgs hd
  have HG3 := Lib.hid (draw_n 80 (by omega) (by omega) hd.1)
  clear hd HG2 X3 HB3 hv3
  go_wp2_with fail
  refine HG3.out.mono ?_
  rintro e w5 ⟨z, rfl, ⟨hz0, hz1⟩, hd⟩
  have HB5 := src_belowW HB4 (by omega) hd
  have X5 := X4.grown hd.2 (by intro e; injection e; omega)
  have HV := Lib.hid (row_drawnW hv4 hgs hd)
  have hlt1 : w.heap.size < w1.heap.size := by omega
  clear hd HG3 X4 HB4 hv4
  have hc := X5.cell
  have hf := X5.frozen
  go_wp2_with fail
  have h2 := ((X5.set 0 (.int .i64 vn)).set 1 (.int .i64 (161 + y))).set 2 (.int .i64 (20 + z))
  simp only [List.setIfInBounds_toArray, List.set_cons_zero, List.set_cons_succ] at h2
  have HBB := Lib.hid (((HB5.setCell (p := ⟨w.heap.size, 0, none⟩) (Nat.le_refl _) (.int .i64 vn)).setCell (p := ⟨w.heap.size, 1, none⟩) (Nat.le_refl _) (.int .i64 (161 + y))).setCell (p := ⟨w.heap.size, 2, none⟩) (Nat.le_refl _) (.int .i64 (20 + z)))
  have HV9 := Lib.hid (ownsRow_setCell_below (ownsRow_setCell_below (ownsRow_setCell_below HV.out (a := ⟨w.heap.size, 0, none⟩) hlt1 (.int .i64 vn)) (a := ⟨w.heap.size, 1, none⟩) hlt1 (.int .i64 (161 + y))) (a := ⟨w.heap.size, 2, none⟩) hlt1 (.int .i64 (20 + z)))
  generalize (((w5.setCell ⟨w.heap.size, 0, none⟩ (.int .i64 vn)).setCell ⟨w.heap.size, 1, none⟩ (.int .i64 (161 + y))).setCell ⟨w.heap.size, 2, none⟩ (.int .i64 (20 + z))) = w9 at *
  have hc9 := h2.cell
  refine bodyPost_ret (v := .tuple #[.slice va ls.length vc, (⟨vn, 161 + y, 20 + z⟩ : Mv).val]) (by simp [results, Try.results33, go_sem, Mv.val, hc9]) rfl ⟨_, ls, _, rfl, rown_mono HV9.out (by omega), hl10, HBB.out⟩
set_option maxRecDepth 100000 in
set_option maxHeartbeats 4000000 in
theorem draw_wentCount {len cap : Nat} {a : Option Addr} {w : World} (hl : len ≤ 1048576) (hb : BytesAt w a len) :
    Calls Try.prog 34 #[.slice a len cap] w (DwCount w) := by
  have HS := Lib.hid (draw_source (cap := cap) hl hb)
  clear hb
  go_enter Try.func34, Try.ntmps34
  go_wp2_with fail
  refine HS.out.mono ?_
  rintro e w1 ⟨g, rfl, hg, hs, hb1⟩
  have hgs := hs.src.lt
  have HR := Lib.hid (draw_row8 hs)
  clear hs HS
  go_wp2_with fail
  refine HR.out.mono ?_
  rintro e w2 ⟨v, ls, rfl, hv, hl10, hd⟩
  have HB2 := src_belowW hb1 hg hd
  have hs1 := hb1.size
  have H2 := Lib.hid hd.1
  clear hd HR hb1
  obtain ⟨va, vc, rfl⟩ := rown_form hv
  go_wp2_with fail
  refine (draw_n 2 (by omega) (by omega) H2.out).mono ?_
  rintro e w3 ⟨x1, rfl, ⟨hx10, hx11⟩, hd⟩
  have HB3 := src_belowW HB2 hg hd
  have hv3 := row_drawnW hv hgs hd
  have H3 := Lib.hid hd.1
  clear hd HB2 hv H2
  go_wp2_with fail
  refine (draw_n 2 (by omega) (by omega) H3.out).mono ?_
  rintro e w4 ⟨x2, rfl, ⟨hx20, hx21⟩, hd⟩
  have HB4 := src_belowW HB3 hg hd
  have hv4 := row_drawnW hv3 hgs hd
  have H4 := Lib.hid hd.1
  clear hd HB3 hv3 H3
  obtain ⟨pr, hpr⟩ : ∃ p : Int, p = IntKind.i64.wrap (5 + IntKind.i64.wrap (x1 * x2)) := ⟨_, rfl⟩
  have hc1 : (x1 = 0 ∨ x1 = 1) ∧ (x2 = 0 ∨ x2 = 1) := by omega
  clear hx10 hx11 hx20 hx21 hpr pr
  obtain ⟨h1 | h1, h2 | h2⟩ := hc1
  · subst h1 h2
    go_wp2_with fail
    refine (draw_n 2 (by omega) (by omega) H4.out).mono ?_
    rintro e w5 ⟨x3, rfl, ⟨hx30, hx31⟩, hd⟩
    have HB5 := src_belowW HB4 hg hd
    have hv5 := row_drawnW hv4 hgs hd
    have H5 := Lib.hid hd.1
    clear hd HB4 hv4 H4
    go_wp2_with fail
    refine (draw_n 90 (by omega) (by omega) H5.out).mono ?_
    rintro e w6 ⟨x4, rfl, ⟨hx40, hx41⟩, hd⟩
    have HB6 := src_belowW HB5 hg hd
    have hv6 := row_drawnW hv5 hgs hd
    clear hd HB5 hv5 H5
    go_wp2_with fail
    exact bodyPost_ret (v := .tuple #[.slice va ls.length vc, .int .i64 5, .int .i64 (161 + x3), .int .i64 x4]) (by simp [results, Try.results34, go_sem]) rfl ⟨_, ls, _, _, _, rfl, rown_mono hv6 hs1, hl10, HB6⟩
  · subst h1 h2
    go_wp2_with fail
    refine (draw_n 2 (by omega) (by omega) H4.out).mono ?_
    rintro e w5 ⟨x3, rfl, ⟨hx30, hx31⟩, hd⟩
    have HB5 := src_belowW HB4 hg hd
    have hv5 := row_drawnW hv4 hgs hd
    have H5 := Lib.hid hd.1
    clear hd HB4 hv4 H4
    go_wp2_with fail
    refine (draw_n 90 (by omega) (by omega) H5.out).mono ?_
    rintro e w6 ⟨x4, rfl, ⟨hx40, hx41⟩, hd⟩
    have HB6 := src_belowW HB5 hg hd
    have hv6 := row_drawnW hv5 hgs hd
    clear hd HB5 hv5 H5
    go_wp2_with fail
    exact bodyPost_ret (v := .tuple #[.slice va ls.length vc, .int .i64 5, .int .i64 (161 + x3), .int .i64 x4]) (by simp [results, Try.results34, go_sem]) rfl ⟨_, ls, _, _, _, rfl, rown_mono hv6 hs1, hl10, HB6⟩
  · subst h1 h2
    go_wp2_with fail
    refine (draw_n 2 (by omega) (by omega) H4.out).mono ?_
    rintro e w5 ⟨x3, rfl, ⟨hx30, hx31⟩, hd⟩
    have HB5 := src_belowW HB4 hg hd
    have hv5 := row_drawnW hv4 hgs hd
    have H5 := Lib.hid hd.1
    clear hd HB4 hv4 H4
    go_wp2_with fail
    refine (draw_n 90 (by omega) (by omega) H5.out).mono ?_
    rintro e w6 ⟨x4, rfl, ⟨hx40, hx41⟩, hd⟩
    have HB6 := src_belowW HB5 hg hd
    have hv6 := row_drawnW hv5 hgs hd
    clear hd HB5 hv5 H5
    go_wp2_with fail
    exact bodyPost_ret (v := .tuple #[.slice va ls.length vc, .int .i64 5, .int .i64 (161 + x3), .int .i64 x4]) (by simp [results, Try.results34, go_sem]) rfl ⟨_, ls, _, _, _, rfl, rown_mono hv6 hs1, hl10, HB6⟩
  · subst h1 h2
    go_wp2_with fail
    refine (draw_n 2 (by omega) (by omega) H4.out).mono ?_
    rintro e w5 ⟨x3, rfl, ⟨hx30, hx31⟩, hd⟩
    have HB5 := src_belowW HB4 hg hd
    have hv5 := row_drawnW hv4 hgs hd
    have H5 := Lib.hid hd.1
    clear hd HB4 hv4 H4
    go_wp2_with fail
    refine (draw_n 90 (by omega) (by omega) H5.out).mono ?_
    rintro e w6 ⟨x4, rfl, ⟨hx40, hx41⟩, hd⟩
    have HB6 := src_belowW HB5 hg hd
    have hv6 := row_drawnW hv5 hgs hd
    clear hd HB5 hv5 H5
    go_wp2_with fail
    exact bodyPost_ret (v := .tuple #[.slice va ls.length vc, .int .i64 6, .int .i64 (161 + x3), .int .i64 x4]) (by simp [results, Try.results34, go_sem]) rfl ⟨_, ls, _, _, _, rfl, rown_mono hv6 hs1, hl10, HB6⟩
set_option maxRecDepth 100000 in
set_option maxHeartbeats 4000000 in
theorem draw_wentTrim {len cap : Nat} {a : Option Addr} {w : World} (hl : len ≤ 1048576) (hb : BytesAt w a len) :
    Calls Try.prog 35 #[.slice a len cap] w (DwTrim w) := by
  have HS := Lib.hid (draw_source (cap := cap) hl hb)
  clear hb
  go_enter Try.func35, Try.ntmps35
  go_wp2_with fail
  refine HS.out.mono ?_
  rintro e w1 ⟨g, rfl, hg, hs, hb1⟩
  have hgs := hs.src.lt
  have HR := Lib.hid (draw_row8 hs)
  clear hs HS
  go_wp2_with fail
  refine HR.out.mono ?_
  rintro e w2 ⟨v, ls, rfl, hv, hl10, hd⟩
  have HB2 := src_belowW hb1 hg hd
  have hs1 := hb1.size
  have H2 := Lib.hid hd.1
  clear hd HR hb1
  obtain ⟨va, vc, rfl⟩ := rown_form hv
  go_wp2_with fail
  refine (draw_one 8 (by omega) (by omega) H2.out).mono ?_
  rintro e w3 ⟨z, rfl, hd⟩
  have HB3 := src_belowW HB2 hg hd
  have hv3 := row_drawnW hv hgs hd
  have H3 := Lib.hid hd.1
  clear hd HB2 hv H2
  cases z
  · go_wp2_with fail
    refine (draw_n 90 (by omega) (by omega) H3.out).mono ?_
    rintro e w4 ⟨n, rfl, ⟨hn0, hn1⟩, hd⟩
    have HB4 := src_belowW HB3 hg hd
    have hv4 := row_drawnW hv3 hgs hd
    clear hd HB3 hv3
    go_wp2_with fail
    go_ret2
    exact ⟨_, ls, _, rfl, rown_mono hv4 hs1, hl10, HB4⟩
  · go_wp2_with fail
    refine (draw_edge H3.out).mono ?_
    rintro e w4 ⟨n, rfl, ⟨hn0, hn1⟩, hd⟩
    have HB4 := src_belowW HB3 hg hd
    have hv4 := row_drawnW hv3 hgs hd
    clear hd HB3 hv3
    go_wp2_with fail
    go_ret2
    exact ⟨_, ls, _, rfl, rown_mono hv4 hs1, hl10, HB4⟩
set_option maxRecDepth 100000 in
set_option maxHeartbeats 4000000 in
theorem draw_wentDrop {len cap : Nat} {a : Option Addr} {w : World} (hl : len ≤ 1048576) (hb : BytesAt w a len) :
    Calls Try.prog 36 #[.slice a len cap] w (DwDrop w) := by
  have HS := Lib.hid (draw_source (cap := cap) hl hb)
  clear hb
  go_enter Try.func36, Try.ntmps36
  go_wp2_with fail
  refine HS.out.mono ?_
  rintro e w1 ⟨g, rfl, hg, hs, hb1⟩
  have hgs := hs.src.lt
  have HR := Lib.hid (draw_row8 hs)
  clear hs HS
  go_wp2_with fail
  refine HR.out.mono ?_
  rintro e w2 ⟨v, ls, rfl, hv, hl10, hd⟩
  have HB2 := src_belowW hb1 hg hd
  have hs1 := hb1.size
  have H2 := Lib.hid hd.1
  clear hd HR hb1
  obtain ⟨va, vc, rfl⟩ := rown_form hv
  go_wp2_with fail
  refine (draw_n 2 (by omega) (by omega) H2.out).mono ?_
  rintro e w3 ⟨x1, rfl, ⟨hx10, hx11⟩, hd⟩
  have HB3 := src_belowW HB2 hg hd
  have hv3 := row_drawnW hv hgs hd
  clear hd HB2 hv H2
  go_wp2_with fail
  exact bodyPost_ret (v := .tuple #[.slice va ls.length vc, .int .i64 5, .int .i64 (161 + x1)]) (by simp [results, Try.results36, go_sem]) rfl ⟨_, ls, _, rfl, by omega, by omega, rown_mono hv3 hs1, hl10, HB3⟩
end Go.Proofs.Ythilmonokhdjmaa
