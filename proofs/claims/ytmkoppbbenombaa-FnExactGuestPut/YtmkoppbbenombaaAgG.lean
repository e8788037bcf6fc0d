/- Two rows of guests side by side; a guest that goes for its age; parted. -/
import Derived.Test.YtmkoppbbenombaaApB
import Derived.Test.YtmkoppbbenombaaRGu
import Derived.Test.YtmkoppbbenombaaGsR
import Derived.Maps.AppendAt
namespace Go.Proofs.Ytmkoppbbenombaa
open Go.RowKit

theorem tyG : RowTy Try.prog 54 59 7 56 := by
  refine ⟨Try.underlying54, ?_, by decide, by decide⟩
  obtain ⟨i0, hi0, hz0, hz1, hz2⟩ := info_parts (show (Try.prog.info? 59).map (fun i => (i.zero, i.size, i.bytes)) = some (some (.agg #[.int .i64 0, .int .i64 0, .int .i64 0, .int .i64 0, .int .i64 0, .int .i64 0, .bool false]), 7, 56) by kernel_rfl)
  exact ⟨i0, _, hi0, hz0, hz1, hz2, rfl⟩
theorem blk_not_ownG {cur : World} {b B n sz : Nat} {t t' : TypeId} {cs : Array Value} {v : Value} {xs : List Value} (h : Blk cur b t cs) (ho : cur.ownsRow B t' sz v n xs) (hne : t ≠ t') : some b ≠ v.ownBlock := by
  rcases ho.2 with ⟨rfl, _⟩ | ⟨g, cap, cu, rfl, _, hg, _⟩
  · simp [Value.ownBlock]
  · intro e
    simp [Value.ownBlock] at e
    subst e
    unfold Blk at h
    rw [h] at hg
    simp at hg
    exact hne hg.2
/- two rows of guests side by side -/
structure Two2 (w wr : World) (y t : Value) (a b : List Gu) : Prop where
  ra : wr.ownsRow w.heap.size 59 7 y a.length (rcells Gu.cl a)
  rb : wr.ownsRow w.heap.size 59 7 t b.length (rcells Gu.cl b)
  ap : y.ownBlock = none ∨ y.ownBlock ≠ t.ownBlock
  bel : Below w.heap.size w wr
theorem ap_symm {y t : Value} (h : y.ownBlock = none ∨ y.ownBlock ≠ t.ownBlock) : t.ownBlock = none ∨ t.ownBlock ≠ y.ownBlock := by
  rcases h with h | h
  · rw [h]
    cases t.ownBlock with
    | none => exact .inl rfl
    | some k => exact .inr (by simp)
  · exact .inr (fun e => h e.symm)
section
variable {w wr w5 : World} {y t : Value} {a b : List Gu} {x : Gu} {o : Obj} {a5 : Option Addr} {n5 c5 : Nat}
theorem Two2.start (w : World) : Two2 w w (.slice none 0 0) (.slice none 0 0) [] [] := ⟨World.ownsRow_nil _ _ _ _, World.ownsRow_nil _ _ _ _, .inl rfl, Below.refl _ _⟩
theorem Two2.swap (h : Two2 w wr y t a b) : Two2 w wr t y b a := ⟨h.rb, h.ra, ap_symm h.ap, h.bel⟩
theorem Two2.kept (h : Two2 w wr y t a b) (hb : Below wr.heap.size wr w5) : Two2 w w5 y t a b := ⟨rown_below h.ra hb, rown_below h.rb hb, h.ap, h.bel.trans (hb.mono h.bel.size)⟩
theorem Two2.alloc (h : Two2 w wr y t a b) (o : Obj) : Two2 w (wr.alloc o) y t a b := h.kept ((Below.refl _ _).alloc (Nat.le_refl _) o)
theorem Two2.drew (h : Two2 w wr y t a b) : Two2 w wr.drew y t a b := ⟨h.ra, h.rb, h.ap, h.bel.drew⟩
theorem Two2.app (h : Two2 w wr y t a b) (hn5 : n5 = (a ++ [x]).length) (ho : w5.ownsRow w.heap.size 59 7 (.slice a5 n5 c5) n5 (rcells Gu.cl (a ++ [x]))) (hg : (wr.alloc o).grownBy w5 y.ownBlock)
    (hk : (Value.slice a5 n5 c5).ownBlock = y.ownBlock ∨ (Value.slice a5 n5 c5).ownBlock = some (wr.alloc o).heap.size) : Two2 w w5 (.slice a5 n5 c5) t (a ++ [x]) b := by
  refine ⟨by rw [← hn5]; exact ho, (h.rb.alloc o).kept hg (ap_symm h.ap), ?_, app_below h.bel h.bel.size h.ra hg⟩
  rcases hk with hk | hk
  · rw [hk]; exact h.ap
  · rw [hk]
    refine .inr (fun e => ?_)
    have := (h.rb.lt _ e.symm).2
    simp at this
    omega
theorem Two2.set (h : Two2 w wr y t a b) {q : Nat} {tq : TypeId} {cs : Array Value} (hq : w.heap.size ≤ q) (hX : Blk wr q tq cs) (hne : tq ≠ 59) (k : Nat) (u : Value) : Two2 w (wr.setCell ⟨q, k, none⟩ u) y t a b :=
  ⟨h.ra.kept (row := some q) (grownSet (World.grownBy.refl _ _)) (.inr (fun e => blk_not_ownG hX h.ra hne e.symm)), h.rb.kept (row := some q) (grownSet (World.grownBy.refl _ _)) (.inr (fun e => blk_not_ownG hX h.rb hne e.symm)), h.ap, h.bel.setCell hq _⟩
theorem Two2.blk (h : Two2 w wr y t a b) (hg : (wr.alloc o).grownBy w5 y.ownBlock) {q : Nat} {tq : TypeId} {cs : Array Value} (hX : Blk wr q tq cs) (hne : tq ≠ 59) : Blk w5 q tq cs :=
  (hX.alloc o).grown hg (blk_not_ownG (hX.alloc o) (h.ra.alloc o) hne)
end
def oldG (now : Int) (g : Gu) : Bool := !g.st && decide (g.seen < now - 200)
def stayL (now : Int) (l : List Gu) : List Gu := l.filter fun g => !oldG now g
def goneL2 (now : Int) (l : List Gu) : List Gu := l.filter fun g => oldG now g
theorem stay_succ (now : Int) (l : List Gu) (i : Nat) (hi : i < l.length) : stayL now (l.take (i + 1)) = if oldG now l[i] = true then stayL now (l.take i) else stayL now (l.take i) ++ [l[i]] := by
  rw [stayL, List.take_succ_eq_append_getElem hi, List.filter_append]
  by_cases h : oldG now l[i] = true <;> simp [h, stayL]
theorem gone_succ (now : Int) (l : List Gu) (i : Nat) (hi : i < l.length) : goneL2 now (l.take (i + 1)) = if oldG now l[i] = true then goneL2 now (l.take i) ++ [l[i]] else goneL2 now (l.take i) := by
  rw [goneL2, List.take_succ_eq_append_getElem hi, List.filter_append]
  by_cases h : oldG now l[i] = true <;> simp [h, goneL2]
theorem stay_len (now : Int) (l : List Gu) (i : Nat) : (stayL now (l.take i)).length ≤ l.length := by
  have h1 := List.length_filter_le (fun g => !oldG now g) (l.take i)
  have h2 : (l.take i).length ≤ l.length := by rw [List.length_take]; omega
  unfold stayL; omega
theorem gone_len (now : Int) (l : List Gu) (i : Nat) : (goneL2 now (l.take i)).length ≤ l.length := by
  have h1 := List.length_filter_le (fun g => oldG now g) (l.take i)
  have h2 : (l.take i).length ≤ l.length := by rw [List.length_take]; omega
  unfold goneL2; omega
set_option maxHeartbeats 1000000 in
theorem implOld_any (g : Gu) (now : Int) (q : Nat) (w : World) (hq : Blk w q 2 #[.int .i64 now]) (h0 : 0 ≤ now) (h1 : now ≤ 1000000) :
    Calls Try.prog 106 #[g.val, .pointer (some ⟨q, 0, none⟩)] w fun e w' => e = .returned (.bool (oldG now g)) ∧ Below w.heap.size w w' := by
  have hc : (w.alloc (.cells #[.int .i64 g.vni, .int .i64 g.mac, .int .i64 g.ip, .int .i64 g.door, .int .i64 g.seq, .int .i64 g.seen, .bool g.st] 59)).cell? ⟨q, 0, none⟩ = some (.int .i64 now) := by rw [(hq.alloc _).cell]; rfl
  have hw : IntKind.i64.wrap (now - 200) = now - 200 := by simp only [IntKind.wrap_i64]; omega
  have HR : Hid (oldG now g = if g.st = true then false else decide (g.seen < now - 200)) := Lib.hid (by unfold oldG; cases g.st <;> simp)
  generalize oldG now g = R at *
  obtain ⟨v, m, i, d, s, n, t⟩ := g
  unfold Gu.val
  dsimp only at *
  clear hq
  cases t
  all_goals
    go_enter Try.func106, Try.ntmps106
    go_wp2
    go_ret
    refine ⟨bool_ret (by rw [HR.out]; simp), ?_⟩
    go_grown
set_option maxHeartbeats 1000000 in
theorem specOld_any (g : Gu) (now : Int) (w : World) (h0 : 0 ≤ now) (h1 : now ≤ 1000000) :
    Calls Try.prog 103 #[g.val, .int .i64 now] w fun e w' => e = .returned (.bool (oldG now g)) ∧ Below w.heap.size w w' := by
  have hw : IntKind.i64.wrap (now - 200) = now - 200 := by simp only [IntKind.wrap_i64]; omega
  have HR : Hid (oldG now g = if g.st = true then false else decide (g.seen < now - 200)) := Lib.hid (by unfold oldG; cases g.st <;> simp)
  generalize oldG now g = R at *
  obtain ⟨v, m, i, d, s, n, t⟩ := g
  unfold Gu.val
  dsimp only at *
  cases t
  all_goals
    go_enter Try.func103, Try.ntmps103
    go_wp2
    go_ret
    refine ⟨bool_ret (by rw [HR.out]; simp), ?_⟩
    go_grown
def PaPost (now : Int) (l : List Gu) (w : World) (e : Ending) (w' : World) : Prop := ∃ y t, e = .returned (.tuple #[y, t]) ∧ Two2 w w' y t (stayL now l) (goneL2 now l)
set_option maxRecDepth 100000 in
set_option maxHeartbeats 4000000 in
theorem parted_any (l : List Gu) (v : Value) (now : Int) (q : Nat) (w : World) (h : GusAt w v l) (hn : l.length ≤ 8) (hq : Blk w q 2 #[.int .i64 now]) (h0 : 0 ≤ now) (h1 : now ≤ 1000000) :
    Calls Try.prog 105 #[v, .func (.func 106) #[] #[.pointer (some ⟨q, 0, none⟩)]] w (PaPost now l w) := by
  have HKs := Lib.hid (fun (i : Nat) (hi : i < l.length) => stay_succ now l i hi)
  have HGs := Lib.hid (fun (i : Nat) (hi : i < l.length) => gone_succ now l i hi)
  have HKl := Lib.hid (fun (i : Nat) => stay_len now l i)
  have HGl := Lib.hid (fun (i : Nat) => gone_len now l i)
  have HZ : Hid (stayL now l = stayL now (l.take l.length) ∧ goneL2 now l = goneL2 now (l.take l.length)) := Lib.hid (by rw [List.take_length]; exact ⟨rfl, rfl⟩)
  obtain ⟨a, cap, rfl, h⟩ := h
  rw [List.length_map] at *
  have HH := Lib.hid h
  clear h
  unfold PaPost
  obtain ⟨n, hnn⟩ : ∃ n, n = l.length := ⟨_, rfl⟩
  rw [← hnn] at hn HZ HKl HGl ⊢
  have HN := Lib.hid hnn
  clear hnn
  have HT0 : Hid (Two2 w w (.slice none 0 0) (.slice none 0 0) (stayL now (l.take 0)) (goneL2 now (l.take 0))) := Lib.hid (Two2.start w)
  have HQ0 := Lib.hid hq
  clear hq
  go_enter Try.func105, Try.ntmps105
  go_wp2_with fail
  go_loopw [10, 4, 5, 7] (fun u y t _ wr => ∃ i : Nat, i ≤ n ∧ u = .int .i64 (i : Int) ∧ Hid (Two2 w wr y t (stayL now (l.take i)) (goneL2 now (l.take i))) ∧ Hid (Blk wr q 2 #[.int .i64 now])) (fun u _ _ _ _ => n - (intOf u).toNat)
  case atStart => exact ⟨0, Nat.zero_le _, rfl, HT0, HQ0⟩
  case round =>
    clear HT0 HQ0
    obtain ⟨i, hi, rfl, HT, HQ⟩ := hrel
    by_cases hlt : i < n
    · have hir : i < l.length := by rw [← HN.out]; exact hlt
      have hne : l.map Gu.cl ≠ [] := fun e => by
        have := congrArg List.length e
        rw [List.length_map, ← HN.out] at this
        simp at this; omega
      obtain ⟨b, off, ha, hb, HE⟩ := HH.out hne
      subst ha
      have hl1 : (i : Int) < n := by omega
      obtain ⟨p0, p1, p2, p3, p4, p5, p6⟩ := (Elems.below HE HT.out.bel hb).gu i hir
      have HK1 := Lib.hid (HKs.out i hir)
      have HG1 := Lib.hid (HGs.out i hir)
      have hk60 := HKl.out i
      have hg60 := HGl.out i
      have HO := Lib.hid (fun (W : World) (h : Blk W q 2 #[.int .i64 now]) => implOld_any l[i] now q W h h0 h1)
      have XA := Blk.new wr 59 (l[i]).ar
      have SA := HT.out.alloc (.cells (l[i]).ar 59)
      have QA := HQ.out.alloc (.cells (l[i]).ar 59)
      unfold Gu.ar at XA SA QA
      unfold Gu.val at HO
      clear HE HT HQ
      generalize l[i] = x at *
      generalize stayL now (l.take i) = pre at *
      generalize goneL2 now (l.take i) = gre at *
      generalize oldG now x = old at *
      obtain ⟨ya, yc, rfl⟩ := rown_form SA.ra
      obtain ⟨ta, tc, rfl⟩ := rown_form SA.rb
      go_upto_region 4 with fail
      generalize (wr.alloc (.cells #[.int .i64 x.vni, .int .i64 x.mac, .int .i64 x.ip, .int .i64 x.door, .int .i64 x.seq, .int .i64 x.seen, .bool x.st] 59)) = W6 at *
      generalize wr.heap.size = q6 at *
      clear p0 p1 p2 p3 p4 p5 p6
      have hc := XA.cell
      go_wp2_with fail
      refine (HO.out _ QA).mono ?_
      rintro e w1 ⟨rfl, hb1⟩
      replace XA := XA.kept hb1
      replace SA := SA.kept hb1
      replace QA := QA.kept hb1
      clear hb1 hc HO
      have hc := XA.cell
      have hsz1 := SA.bel.size
      cases old
      · rw [if_neg (by simp)] at HK1 HG1
        go_wp2_with (at_builtin; refine wpList_append_rowB Gu.cl_len Gu.cl_one1 tyG _ rfl _ _ rfl w.heap.size _ pre x rfl (SA.ra.alloc _) ⟨w1.heap.size, 0, none⟩ rfl (lit_cells w1 _ _ x rfl) (by omega) (by simp; omega) ?_; intro a' c' n' w5 HN5 hown5 hg5 hk5; have HS5 := Lib.hid (SA.app HN5.out hown5 hg5 hk5); have HQ5 := Lib.hid (SA.blk hg5 QA (by decide)); clear hown5 hg5 hk5)
        go_roundw
        case rel => exact ⟨i + 1, by omega, by simp, by rw [HK1.out, HG1.out]; exact HS5, HQ5⟩
        case measure => simp [intOf]; omega
      · rw [if_pos rfl] at HK1 HG1
        go_wp2_with (at_builtin; refine wpList_append_rowB Gu.cl_len Gu.cl_one1 tyG _ rfl _ _ rfl w.heap.size _ gre x rfl (SA.rb.alloc _) ⟨w1.heap.size, 0, none⟩ rfl (lit_cells w1 _ _ x rfl) (by omega) (by simp; omega) ?_; intro a' c' n' w5 HN5 hown5 hg5 hk5; have HS5 := Lib.hid (SA.swap.app HN5.out hown5 hg5 hk5).swap; have HQ5 := Lib.hid (SA.swap.blk hg5 QA (by decide)); clear hown5 hg5 hk5)
        go_roundw
        case rel => exact ⟨i + 1, by omega, by simp, by rw [HK1.out, HG1.out]; exact HS5, HQ5⟩
        case measure => simp [intOf]; omega
    · have hin : i = n := by omega
      subst hin
      rw [← HZ.out.1, ← HZ.out.2] at HT
      go_wp2_with fail
      go_ret2
      exact ⟨_, _, rfl, HT.out⟩
end Go.Proofs.Ytmkoppbbenombaa
