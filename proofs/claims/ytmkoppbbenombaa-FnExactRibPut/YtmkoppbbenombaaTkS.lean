/- RibTake of the model. -/
import Derived.Test.YtmkoppbbenombaaTkW
namespace Go.Proofs.Ytmkoppbbenombaa
open Go.RowKit

structure Tw3 (c : Int) (w wr : World) (qo : Nat) (y t : Value) (rib : List Hd) (gone : List Rt) : Prop where
  out : Blk wr qo 33 #[y, t, .int .i64 c]
  row : wr.ownsRow (w.heap.size + 1) 77 9 y rib.length (rcells Hd.cl rib)
  rot : wr.ownsRow (w.heap.size + 1) 35 7 t gone.length (rcells Rt.cl gone)
  bel : Below w.heap.size w wr
theorem Tw3.gone {c : Int} {w wr w5 : World} {qo : Nat} {y t : Value} {rib : List Hd} {gone : List Rt} {r : Rt} {o : Obj} {a5 : Option Addr} {n5 c5 : Nat} (h : Tw3 c w wr qo y t rib gone) (hq : w.heap.size ≤ qo) (hn5 : n5 = (gone ++ [r]).length)
    (ho : w5.ownsRow (w.heap.size + 1) 35 7 (.slice a5 n5 c5) n5 (rcells Rt.cl (gone ++ [r]))) (hg : (wr.alloc o).grownBy w5 t.ownBlock) :
    Blk w5 qo 33 #[y, t, .int .i64 c] ∧ Tw3 c w (w5.setCell ⟨qo, 1, none⟩ (.slice a5 n5 c5)) qo y (.slice a5 n5 c5) rib (gone ++ [r]) ∧ ∀ b t' cs, (t' ≠ 35 ∨ b ≤ w.heap.size) → b ≠ qo → Blk wr b t' cs → Blk (w5.setCell ⟨qo, 1, none⟩ (.slice a5 n5 c5)) b t' cs := by
  have h5 := (h.out.alloc o).grown hg (blk_not_own1 (h.out.alloc o) (h.rot.alloc o) (by decide))
  have hy5 := (h.row.alloc o).kept hg (apart_types (h.row.alloc o) (h.rot.alloc o))
  have hset := h5.set 1 (.slice a5 n5 c5)
  simp only [List.setIfInBounds_toArray, List.set_cons_zero, List.set_cons_succ] at hset
  refine ⟨h5, ⟨hset, hy5.kept (row := some qo) (grownSet (World.grownBy.refl _ _)) (.inr (own_ne h5 hy5 (by decide))), ?_, (app_below h.bel h.bel.size (rown_mono (B' := w.heap.size) h.rot (by omega)) hg).setCell hq _⟩, fun b t' cs hne hbq hb => ?_⟩
  · rw [← hn5]
    exact ho.kept (row := some qo) (grownSet (World.grownBy.refl _ _)) (.inr (own_ne h5 ho (by decide)))
  · rcases hne with hne | hne
    · exact ((hb.alloc o).grown hg (blk_not_own1 (hb.alloc o) (h.rot.alloc o) hne)).far hbq
    · exact ((hb.alloc o).grown hg (fun e => by have := (h.rot.lt b e.symm).1; omega)).far hbq
theorem Tw3.keep {c : Int} {w wr w5 : World} {qo : Nat} {y t : Value} {rib : List Hd} {gone : List Rt} {x : Hd} {o : Obj} {a5 : Option Addr} {n5 c5 : Nat} (h : Tw3 c w wr qo y t rib gone) (hq : w.heap.size ≤ qo) (hn5 : n5 = (rib ++ [x]).length)
    (ho : w5.ownsRow (w.heap.size + 1) 77 9 (.slice a5 n5 c5) n5 (rcells Hd.cl (rib ++ [x]))) (hg : (wr.alloc o).grownBy w5 y.ownBlock) :
    Blk w5 qo 33 #[y, t, .int .i64 c] ∧ Tw3 c w (w5.setCell ⟨qo, 0, none⟩ (.slice a5 n5 c5)) qo (.slice a5 n5 c5) t (rib ++ [x]) gone ∧ ∀ b t' cs, t' ≠ 77 → b ≠ qo → Blk wr b t' cs → Blk (w5.setCell ⟨qo, 0, none⟩ (.slice a5 n5 c5)) b t' cs := by
  have h5 := (h.out.alloc o).grown hg (blk_not_own1 (h.out.alloc o) (h.row.alloc o) (by decide))
  have ht5 := (h.rot.alloc o).kept hg (by
    rcases apart_types (h.row.alloc o) (h.rot.alloc o) with e | e
    · rw [e]; cases t.ownBlock with
      | none => exact .inl rfl
      | some k => exact .inr (by simp)
    · exact .inr (fun e2 => e e2.symm))
  have hset := h5.set 0 (.slice a5 n5 c5)
  simp only [List.setIfInBounds_toArray, List.set_cons_zero] at hset
  refine ⟨h5, ⟨hset, ?_, ht5.kept (row := some qo) (grownSet (World.grownBy.refl _ _)) (.inr (own_ne h5 ht5 (by decide))), (app_below h.bel h.bel.size (rown_mono (B' := w.heap.size) h.row (by omega)) hg).setCell hq _⟩, fun b t' cs hne hbq hb => ?_⟩
  · rw [← hn5]
    exact ho.kept (row := some qo) (grownSet (World.grownBy.refl _ _)) (.inr (own_ne h5 ho (by decide)))
  · exact ((hb.alloc o).grown hg (blk_not_own1 (hb.alloc o) (h.row.alloc o) hne)).far hbq
theorem Tw3.kept {c : Int} {w wr w5 : World} {qo : Nat} {y t : Value} {rib : List Hd} {gone : List Rt} (h : Tw3 c w wr qo y t rib gone) (hb : Below wr.heap.size wr w5) : Tw3 c w w5 qo y t rib gone :=
  ⟨h.out.kept hb, row_kept h.row hb, row_kept h.rot hb, h.bel.trans (hb.mono h.bel.size)⟩
theorem Tw3.code {c : Int} {w wr : World} {qo : Nat} {y t : Value} {rib : List Hd} {gone : List Rt} (h : Tw3 c w wr qo y t rib gone) (hq : w.heap.size ≤ qo) (d : Int) : Tw3 d w (wr.setCell ⟨qo, 2, none⟩ (.int .i64 d)) qo y t rib gone := by
  have hset := h.out.set 2 (.int .i64 d)
  simp only [List.setIfInBounds_toArray, List.set_cons_zero, List.set_cons_succ] at hset
  exact ⟨hset, h.row.kept (row := some qo) (grownSet (World.grownBy.refl _ _)) (.inr (own_ne h.out h.row (by decide))), h.rot.kept (row := some qo) (grownSet (World.grownBy.refl _ _)) (.inr (own_ne h.out h.rot (by decide))), h.bel.setCell hq _⟩
structure TkAt (c : Int) (w W : World) (b o : Nat) (x : Hd) (r : Rt) (y t : Value) (rib : List Hd) (gone : List Rt) : Prop where
  two : Tw3 c w W (w.heap.size + 2) y t rib gone
  key : Blk W w.heap.size 35 #[.int .i64 r.kind, .int .i64 r.vni, .int .i64 r.mac, .int .i64 r.ip, .int .i64 r.org, .int .i64 r.seq, .bool r.st]
  ans : Blk W (w.heap.size + 1) 33 #[.slice none 0 0, .slice none 0 0, .int .i64 0]
  hb : b < W.heap.size
  cp : W.cell? ⟨b, o, none⟩ = some (.int .i64 x.p)
  cs : W.cell? ⟨b, o + 1, none⟩ = some (.bool x.s)
  ck : W.cell? ⟨b, o + 2, none⟩ = some (.int .i64 x.r.kind)
  cv : W.cell? ⟨b, o + 3, none⟩ = some (.int .i64 x.r.vni)
  cm : W.cell? ⟨b, o + 4, none⟩ = some (.int .i64 x.r.mac)
  ci : W.cell? ⟨b, o + 5, none⟩ = some (.int .i64 x.r.ip)
  co : W.cell? ⟨b, o + 6, none⟩ = some (.int .i64 x.r.org)
  cq : W.cell? ⟨b, o + 7, none⟩ = some (.int .i64 x.r.seq)
  ct : W.cell? ⟨b, o + 8, none⟩ = some (.bool x.r.st)
theorem TkAt.kept {c : Int} {w W W2 : World} {b o : Nat} {x : Hd} {r : Rt} {y t : Value} {rib : List Hd} {gone : List Rt} (h : TkAt c w W b o x r y t rib gone) (hb : Below W.heap.size W W2) : TkAt c w W2 b o x r y t rib gone :=
  ⟨h.two.kept hb, h.key.kept hb, h.ans.kept hb, Nat.lt_of_lt_of_le h.hb hb.size, (hb.cell (p := ⟨b, o, none⟩) h.hb).trans h.cp, (hb.cell (p := ⟨b, o + 1, none⟩) h.hb).trans h.cs, (hb.cell (p := ⟨b, o + 2, none⟩) h.hb).trans h.ck, (hb.cell (p := ⟨b, o + 3, none⟩) h.hb).trans h.cv, (hb.cell (p := ⟨b, o + 4, none⟩) h.hb).trans h.cm, (hb.cell (p := ⟨b, o + 5, none⟩) h.hb).trans h.ci, (hb.cell (p := ⟨b, o + 6, none⟩) h.hb).trans h.co, (hb.cell (p := ⟨b, o + 7, none⟩) h.hb).trans h.cq, (hb.cell (p := ⟨b, o + 8, none⟩) h.hb).trans h.ct⟩
theorem leave_succ (x : Hd) (l : List Hd) (i : Nat) (hi : i < l.length) : leaveL x (l.take (i + 1)) = if same x l[i] then leaveL x (l.take i) else leaveL x (l.take i) ++ [l[i]] := by
  rw [leaveL, List.take_succ_eq_append_getElem hi, List.filter_append]
  by_cases h : same x l[i] <;> simp [h, leaveL]
theorem hit_succ (x : Hd) (l : List Hd) (i : Nat) (hi : i < l.length) : hitL x (l.take (i + 1)) = if same x l[i] then hitL x (l.take i) ++ [l[i]] else hitL x (l.take i) := by
  rw [hitL, List.take_succ_eq_append_getElem hi, List.filter_append]
  by_cases h : same x l[i] <;> simp [h, hitL]
theorem leave_len (x : Hd) (l : List Hd) (i : Nat) : (leaveL x (l.take i)).length ≤ l.length := by
  have h1 := List.length_filter_le (fun h => decide (¬ same x h)) (l.take i)
  have h2 : (l.take i).length ≤ l.length := by rw [List.length_take]; omega
  unfold leaveL; omega
theorem hit_len (x : Hd) (l : List Hd) (i : Nat) : (hitL x (l.take i)).length ≤ l.length := by
  have h1 := List.length_filter_le (fun h => decide (same x h)) (l.take i)
  have h2 : (l.take i).length ≤ l.length := by rw [List.length_take]; omega
  unfold hitL; omega
def codeL (g : List Rt) : Int := match g with | [] => 6 | _ :: _ => 0
theorem codeL_snoc (g : List Rt) (r : Rt) : codeL (g ++ [r]) = 0 := by cases g <;> rfl
def takeIn (x : Hd) (l : List Hd) : Ro := if hitL x l = [] then roIll 6 else ⟨leaveL x l, (hitL x l).map Hd.r, 0⟩
end Go.Proofs.Ytmkoppbbenombaa
