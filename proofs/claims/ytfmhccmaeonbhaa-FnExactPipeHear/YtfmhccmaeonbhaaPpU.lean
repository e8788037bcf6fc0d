/- PipePut, of the model. -/
import Derived.Test.YtfmhccmaeonbhaaStsC
import Derived.OneCell
namespace Go.Proofs.Ytfmhccmaeonbhaa
open Go.RowKit

theorem own_set5 {W : World} {B n b sz : Nat} {t t' : TypeId} {cs : Array Value} {v : Value} {xs : List Value} (Y : Blk W b t' cs) (O : W.ownsRow B t sz v n xs) (hne : t' ≠ t) (v0 v1 v2 v3 v4 : Value) :
    (((((W.setCell ⟨b, 0, none⟩ v0).setCell ⟨b, 1, none⟩ v1).setCell ⟨b, 2, none⟩ v2).setCell ⟨b, 3, none⟩ v3).setCell ⟨b, 4, none⟩ v4).ownsRow B t sz v n xs := by
  have ne : v.ownBlock ≠ some b := fun e => blk_not_own Y O hne e.symm
  exact ownsRow_setCell_other (ownsRow_setCell_other (ownsRow_setCell_other (ownsRow_setCell_other (ownsRow_setCell_other O ne _) ne _) ne _) ne _) ne _
theorem own_set8 {W : World} {B n b sz : Nat} {t t' : TypeId} {cs : Array Value} {v : Value} {xs : List Value} (Y : Blk W b t' cs) (O : W.ownsRow B t sz v n xs) (hne : t' ≠ t) (v0 v1 v2 v3 v4 v5 v6 v7 : Value) :
    ((((((((W.setCell ⟨b, 0, none⟩ v0).setCell ⟨b, 1, none⟩ v1).setCell ⟨b, 2, none⟩ v2).setCell ⟨b, 3, none⟩ v3).setCell ⟨b, 4, none⟩ v4).setCell ⟨b, 5, none⟩ v5).setCell ⟨b, 6, none⟩ v6).setCell ⟨b, 7, none⟩ v7).ownsRow B t sz v n xs := by
  have ne : v.ownBlock ≠ some b := fun e => blk_not_own Y O hne e.symm
  exact ownsRow_setCell_other (ownsRow_setCell_other (ownsRow_setCell_other (own_set5 Y O hne v0 v1 v2 v3 v4) ne _) ne _) ne _
theorem after3 {w w1 : World} {c1 c2 : Array Value} {t1 t2 : TypeId} {o : Obj} (hg : (((w.alloc (.cells c1 t1)).alloc (.cells c2 t2)).alloc o).grownBy w1 (some (w.heap.size + 1 + 1))) : Blk w1 w.heap.size t1 c1 ∧ Blk w1 (w.heap.size + 1) t2 c2 ∧ Below w.heap.size w w1 := by
  have X := ((Blk.new w t1 c1).alloc (.cells c2 t2)).alloc o |>.grown hg (by simp; omega)
  have Y := (Blk.new (w.alloc (.cells c1 t1)) t2 c2).alloc o |>.grown hg (by simp)
  rw [World.size_alloc] at Y
  exact ⟨X, Y, ((bel2 _ _ _).alloc (by simp; omega) _).grown hg (by simp; omega) (fun k hk => by simp at hk; omega)⟩
theorem empty_row (w : World) (o o' : Obj) : (((w.alloc o).alloc o').alloc (.cells #[] 9)).ownsRow w.heap.size 9 1 (.slice (some ⟨w.heap.size + 1 + 1, 0, none⟩) 0 0) 0 [] := by
  have := World.ownsRow_lit (base := w.heap.size) (e := 9) (size := 1) ((w.alloc o).alloc o') #[] 0 (by simp only [World.size_alloc]; omega) (Nat.zero_le _) rfl
  rw [World.size_alloc, World.size_alloc] at this
  exact this
set_option maxRecDepth 100000 in
set_option maxHeartbeats 2000000 in
theorem specCopy_any (e p b i : Int) (v : Value) (l : List ByteArray) (w : World) (h : StsAt w v l) (hn : l.length ≤ 1000) :
    Calls Try.prog 101 #[ppV e p b i v] w (PpPost e p b i l w) := by
  obtain ⟨a, cap, rfl⟩ := h.form
  have HC := Lib.hid (fun (W' : World) (hb : Below w.heap.size w W') => h.kept hb)
  clear h
  unfold ppV
  go_enter Try.func101, Try.ntmps101
  have hs3 : ∀ o o' o'' : Obj, w.heap.size ≤ (((w.alloc o).alloc o').alloc o'').heap.size := fun _ _ _ => by simp only [World.size_alloc]; omega
  have hs2 : ∀ o o' : Obj, w.heap.size ≤ ((w.alloc o).alloc o').heap.size := fun _ _ => by simp only [World.size_alloc]; omega
  have hO3 := Lib.hid (fun o o' : Obj => empty_row w o o')
  have HB3 := Lib.hid (fun o o' o'' : Obj => (bel2 w o o').alloc (hs2 _ _) o'')
  go_upto_region 2 with (at_builtin; refine wpList_append_strs _ rfl _ _ rfl w.heap.size (.slice (some ⟨w.heap.size + 1 + 1, 0, none⟩) 0 0) [] l rfl (hO3.out _ _) a cap rfl (HC.out _ (HB3.out _ _ _)) (Nat.zero_le _) (by omega) (hs3 _ _ _) ?_; intro a' c' n' w1 HN' hown hg; have hn' := HN'.out; rw [List.nil_append] at hn'; subst hn'; clear HN'; obtain ⟨X, Y, hb⟩ := after3 hg; have HO := Lib.hid hown; have HB := Lib.hid hb; have cX := X.cell; have fX := X.frozen; clear hown hg hb)
  rw [List.nil_append] at HO
  clear HC HB3 hs3 hs2 hO3
  obtain ⟨W2, hW2⟩ : ∃ W, W = w1.setCell ⟨w.heap.size, 4, none⟩ (.slice a' l.length c') := ⟨_, rfl⟩
  rw [← hW2]
  have O2 : W2.ownsRow w.heap.size 9 1 (.slice a' l.length c') l.length (strsV l) := by
    subst hW2
    exact ownsRow_setCell_other HO.out (fun e => blk_not_own X HO.out (by decide) e.symm) _
  replace X : Blk W2 w.heap.size 31 #[.int .i64 e, .int .i64 p, .int .i64 b, .int .i64 i, .slice a' l.length c'] := by
    have := X.set 4 (.slice a' l.length c')
    subst hW2
    simpa using this
  replace Y : Blk W2 (w.heap.size + 1) 31 #[.int .i64 0, .int .i64 0, .int .i64 0, .int .i64 0, .slice none 0 0] := by subst hW2; exact Y.far (by omega)
  replace HB : Hid (Below w.heap.size w W2) := Lib.hid (by subst hW2; exact HB.out.setCell (Nat.le_refl _) _)
  replace HO := Lib.hid O2
  clear O2 hW2 cX fX
  have cX := X.cell
  have cY := Y.cell
  have fY := Y.frozen
  go_wp2_with fail
  refine bodyPost_ret (v := ppV e p b i (.slice a' l.length c')) (by simp [results, Try.results101, go_sem, ppV, *]) rfl ⟨_, rfl, own_set5 Y HO.out (by decide) _ _ _ _ _, ?_⟩
  have hle := Nat.le_succ w.heap.size
  exact ((((HB.out.setCell hle _).setCell hle _).setCell hle _).setCell hle _).setCell hle _
end Go.Proofs.Ytfmhccmaeonbhaa
