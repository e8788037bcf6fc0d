/- slices.AppendSeq, Collect, SortedFunc over the keys of a map of guests. -/
import Derived.Test.YtmkoppbbenombaaKsG
import Derived.Test.YtmkoppbbenombaaAgG
import Derived.RangeFuncBox
namespace Go.Proofs.Ytmkoppbbenombaa
open Go.RowKit Go.Shelf
attribute [local go_sem] Oper.semAt_some

def KeysOf (E : List (Gu × Nat)) (xs : List Nm) : Prop := xs.Nodup ∧ ∀ x, x ∈ xs ↔ ∃ q ∈ E, nmOf q.1 = x
theorem keys_stops (F : Fence) (n : Nat) (hK : F.fn 149) (hro : F.round = none) (hn : 1 ≤ n) (Bm M clock : Nat) (E : List (Gu × Nat)) (w : World) (hlt : Bm < w.heap.size)
    (hBm : w.cell? ⟨Bm, 0, none⟩ = some (.map (some M))) (hM : MapG w M E clock) :
    SeqStopsK F n Try.prog 149 #[.pointer (some ⟨Bm, 0, none⟩)] nmA KeepsWalks (KeysOf E) (fun _ => True) E.length w :=
  fun l J Jx W hW hJ _ hY h0 => keysIter_in F n hK hro hn Bm M clock E l J Jx W hJ hY ((hW.cell (p := ⟨Bm, 0, none⟩) hlt).trans hBm) (hM.kept (hW.block M hM.lt)) h0
theorem blk_own (B : Nat) (t : TypeId) (vs : Array Value) {β : Type} : Own (fun (_ : β) W => Blk W B t vs) := fun s X Y row hs hg hr =>
  (hg.block B hs.lt (fun e => by
    obtain ⟨o, ho, hc⟩ := hr B e.symm
    unfold Blk at hs
    rw [hs] at ho
    injection ho with ho
    subst ho
    cases hc)).trans hs
theorem infoN : (Try.prog.info? 106).map (fun i => (i.zero, i.size, i.bytes)) = some (some (.agg #[.int .i64 0, .int .i64 0]), 2, 16) := by kernel_rfl
set_option maxRecDepth 100000 in
set_option maxHeartbeats 4000000 in
theorem appendSeq_in (F : Fence) (n : Nat) (h72 : F.fn 157) (hK : F.fn 149) (hro : F.round = none) (hn : 3 ≤ n)
    (Bm M clock : Nat) (E : List (Gu × Nat)) (hE : E.length ≤ 1000) (w : World) (hlt : Bm < w.heap.size) (hBm : w.cell? ⟨Bm, 0, none⟩ = some (.map (some M))) (hM : MapG w M E clock) :
    CallsIn F n Try.prog 157 #[.slice none 0 0, .func (.func 149) #[] #[.pointer (some ⟨Bm, 0, none⟩)]] w fun e w' =>
      ∃ v xs, e = .returned v ∧ KeysOf E xs ∧ w'.ownsRow w.heap.size 106 2 v xs.length (rcells Nm.cl xs) ∧ Below w.heap.size w w' := by
  have h1 : 1 ≤ n := by omega
  obtain ⟨i0, hi, hz0, hz1, hz2⟩ := info_parts infoN
  refine callsIn_of_wp_marks Try.func157 rfl h72 ?_ hro
  simp only [Try.ntmps157, List.size_toArray, List.length_cons, List.length_nil, Nat.reduceAdd, Nat.reduceSub, Array.replicate_succ, Array.replicate_zero, List.push_toArray, List.append_toArray, List.nil_append, List.cons_append]
  gi_wp2
  have bO := Boxed.new w 130 (.slice none 0 0)
  have hB0 : Below w.heap.size w (w.alloc (.cells #[.slice none 0 0] 130)) := (Below.refl _ w).alloc (Nat.le_refl _) _
  have hM0 : MapG (w.alloc (.cells #[.slice none 0 0] 130)) M E clock := hM.kept (Below.heap_alloc _ _ _ hM.lt)
  have hBm0 : (w.alloc (.cells #[.slice none 0 0] 130)).cell? ⟨Bm, 0, none⟩ = some (.map (some M)) := (hB0.cell (p := ⟨Bm, 0, none⟩) hlt).trans hBm
  have hsz : (w.alloc (.cells #[.slice none 0 0] 130)).heap.size = w.heap.size + 1 := by simp
  obtain ⟨W0, hW0⟩ : ∃ W0, w.alloc (.cells #[.slice none 0 0] 130) = W0 := ⟨_, rfl⟩
  rw [hW0] at bO hB0 hM0 hBm0 hsz ⊢
  clear hW0
  refine wpIn_rangeFunc_ownH hro h1 (gf := 149) (lb := #[.pointer (some ⟨Bm, 0, none⟩)]) rfl hK (enters_of Try.func149 (by kernel_rfl) rfl)
    (keys_stops F (n - 1) hK hro (by omega) Bm M clock E W0 (by omega) hBm0 hM0) walksK_t walksK_b (Below.refl _ _) (fun _ => rfl)
    (fun pre W => (∃ v, Boxed W w.heap.size 130 v ∧ W.ownsRow w.heap.size 106 2 v pre.length (rcells Nm.cl pre) ∧ True) ∧ Below w.heap.size w W)
    (fun _ _ _ => False)
    (OwnFrom.and (Own.from (holdsRow_own w.heap.size w.heap.size 130 106 2 (fun pre => pre.length) (fun pre => rcells Nm.cl pre) (fun _ _ => True)) _) (ownFrom_below (Nat.le_refl _) (by omega)))
    (fun _ _ _ _ _ hs _ _ => hs)
    ⟨⟨_, bO, World.ownsRow_nil _ _ _ _, trivial⟩, hB0⟩
    (fun x a' W => ∃ Bx, w.heap.size < Bx ∧ Blk W Bx 106 #[.int .i64 x.1, .int .i64 x.2] ∧ a' = { tmps := #[.slice none 0 0, .func (.func 149) #[] #[.pointer (some ⟨Bm, 0, none⟩)], .pointer (some ⟨w.heap.size, 0, none⟩), undef, .slice none 0 0, .pointer (some ⟨Bx, 0, none⟩), .func (.func 149) #[] #[.pointer (some ⟨Bm, 0, none⟩)], nmV x.1 x.2, undef, undef, undef, undef, undef], defers := [] })
    (fun x a' _ X Y row hs hg hr => by obtain ⟨Bx, h1, h2, h3⟩ := hs; exact ⟨Bx, h1, blk_own Bx _ _ () X Y row h2 hg (fun r e => (hr r e).2), h3⟩)
    ?assign ?body ?done ?stop
  case assign =>
    rintro l pre x W K ⟨⟨v, hv, hrow, _⟩, hB⟩ hK
    unfold nmA nmV
    gi_wp2
    refine hK _ _ ((KeepsOthers.alloc _ _).from _) (KeepsWalks.alloc W _) ⟨⟨v, hv.alloc _, hrow.alloc _, trivial⟩, hB.alloc hB.size _⟩ ⟨W.heap.size, hv.lt, Blk.new W _ _, ?_⟩
    rfl
  case body =>
    rintro l pre x a' W hl ⟨r, hr⟩ ⟨⟨v, hv, hrow, _⟩, hB⟩ ⟨Bx, hBx, bX, rfl⟩ hlen
    have hc := hv.cell
    have hcx := bX.cell
    gi_wp2_with (gi_at_builtin; go_loud (refine wpListIn_append_own _ rfl _ _ 130 rfl w.heap.size 106 i0 (.agg #[.int .i64 0, .int .i64 0]) 2 16 Try.underlying130 hi hz0 hz1 hz2 rfl (by decide) _ _ _ rfl (hrow.alloc _) ⟨W.heap.size, 0, none⟩ 1 1 (Nm.cl x) rfl rfl (lit_cells W _ _ x rfl) (Nm.cl_one1 x) (by unfold maxLen; omega) (by omega) (by have := hB.size; simp; omega) ?_; intro v' w1 hown' hgrow _; obtain ⟨g', cap', rfl⟩ := ownsRow_succ hown'; obtain ⟨hv1, hv2, hr2, hk2, hb2⟩ := hv.appended (by decide) hrow hB.size (Nat.le_refl _) hown' hgrow; have hc1 := hv1.cell; have hf1 := hv1.frozen))
    exact ⟨hk2.from _, ⟨hk2.size, fun k o h hw => hk2.same k o h (Obj.not_cells_of_walk hw)⟩, ⟨_, hv2, by rw [rcells_snoc]; simpa using hr2, trivial⟩, hB.trans hb2⟩
  case done =>
    rintro D ys W hD hS ⟨⟨v, hv, hrow, _⟩, hB⟩ hK
    have hc := hv.cell
    gi_wp2
    refine ⟨by simp, .inl ⟨_, _, rfl, run_takeDeferred hK, ?_⟩⟩
    exact ⟨_, results_tmp rfl _ _ _, v, ys, rfl, hS, ownsRow_putObj hrow _ hK rfl, hB.trans (belowK_b (w := w) (Nat.le_refl _) W D _ _ (by omega) hK rfl rfl)⟩
  case stop =>
    rintro D c pre W _ _ h _
    exact h.elim
end Go.Proofs.Ytmkoppbbenombaa
