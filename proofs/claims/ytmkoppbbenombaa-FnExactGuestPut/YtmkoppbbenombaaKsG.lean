/- maps.Keys over a map of guests: its iterator's contract. -/
import Derived.Test.YtmkoppbbenombaaNmS
import Derived.Test.YtmkoppbbenombaaGaM
import Derived.RangeFuncNested
import Derived.RangeFuncBound
import Derived.RangeFuncCalls
import Derived.RangeFuncLeaves
import Derived.Shelf.Abstract
import Derived.Shelf.RegionOpen
import Derived.WalkKit
import Derived.OwnWalkIn
import Derived.TacticsInMore
import Derived.LoopNIn
import Derived.LoopIn
import Derived.Sort.MapsRangeIn
import Derived.Maps.RangeRun
namespace Go.Proofs.Ytmkoppbbenombaa
open Go.RowKit Go.ChangeMaps Go.Shelf

def nmOf (g : Gu) : Nm := (g.vni, g.mac)
def nmA (x : Nm) : Array Value := #[nmV x.1 x.2]
theorem same_nm (a b : Gu) : sameG a b ↔ nmOf a = nmOf b := by
  unfold sameG nmOf
  simp
theorem setB_far {W : World} {r k : Nat} {o : Obj} (h : k ≠ r) : (setBlock W r o).heap[k]? = W.heap[k]? := by
  simp only [setBlock, Array.getElem?_setIfInBounds]
  rw [if_neg (fun e => h e.symm)]
theorem setB_at {W : World} {r : Nat} {o : Obj} (h : r < W.heap.size) : (setBlock W r o).heap[r]? = some o := by simp [setBlock, h]
theorem grown_next {wr w1 : World} {r : Nat} (h : w1 = wr ∨ w1 = wr.drew) (o : Obj) : wr.grownBy (setBlock w1 r o) (some r) := by
  rcases h with rfl | rfl
  · exact ⟨rfl, rfl, rfl, by simp [setBlock], fun k _ hr => setB_far (fun e => hr (by rw [e]))⟩
  · exact ⟨rfl, rfl, rfl, by simp [setBlock], fun k _ hr => setB_far (fun e => hr (by rw [e]))⟩
theorem run_rangeG {W : World} {M clock : Nat} {E : List (Gu × Nat)} (h : MapG W M E clock) : (Instr.range 103 (.map (some M))).run Try.prog W = .ok (.pointer (some ⟨W.heap.size, 0, none⟩)) (W.alloc (.mapIter (some M) clock #[] clock)) := by
  simp [Instr.range, run_underlying mapG_type, MapKept.run_getObj_map h.obj, Result.andThen, newObj, Sem.run, go_sem]
theorem mem_leftG {E : List (Gu × Nat)} {seen : Array Nat} {e : MapEntry} (h : e ∈ (leftOf (mkG E).toArray seen).toList) : ∃ q ∈ E, e = ⟨nameV q.1, q.1.val, q.2⟩ ∧ seen.contains q.2 = false := by
  unfold leftOf at h
  simp [mkG] at h
  obtain ⟨⟨x, n, hq, rfl⟩, h2⟩ := h
  exact ⟨(x, n), hq, rfl, by simpa using h2⟩
theorem leftG_none {E : List (Gu × Nat)} {seen : Array Nat} (h : (leftOf (mkG E).toArray seen).size = 0) : ∀ q ∈ E, seen.contains q.2 = true := by
  intro q hq
  have h1 : leftOf (mkG E).toArray seen = #[] := Array.eq_empty_of_size_eq_zero h
  unfold leftOf at h1
  rw [Array.filter_eq_empty_iff] at h1
  have := h1 ⟨nameV q.1, q.1.val, q.2⟩ (by simp [mkG]; exact ⟨q.1, q.2, hq, rfl, rfl, rfl⟩)
  simpa using this
theorem run_entryG {W : World} {r M clock : Nat} {seen : Array Nat} {E : List (Gu × Nat)} {q : Gu × Nat} (hr : W.heap[r]? = some (.mapIter (some M) clock (seen.push q.2) clock)) (h : MapG W M E clock) (hq : q ∈ E) :
    (Instr.entry (.pointer (some ⟨r, 0, none⟩))).run Try.prog W = .ok (.tuple #[nameV q.1, q.1.val]) W := by
  have := run_entry_at (P := Try.prog) W r M clock seen (mkG E).toArray clock ⟨nameV q.1, q.1.val, q.2⟩ hr h.obj (by simp [mkG]; exact ⟨q.1, q.2, hq, rfl, rfl, rfl⟩) (by
    have e : (mkG E).toArray.toList.map (·.born) = E.map (·.2) := by simp [mkG]
    rw [e]; exact h.nodup)
  exact this
section
variable {F : Fence} {n : Nat} (w : World) {ops : Array Oper} {rest : List Oper} {o : Oper} {a : Act} {Q : Exit → Act → World → Prop}
theorem wpListIn_range_G (hg : o.guard = none) (m : Operand) (hop : o.op = Op.range 103 m) (M clock : Nat) (E : List (Gu × Nat)) (hm : a.eval m = .map (some M)) (hM : MapG w M E clock)
    (hK : wpListIn F n Try.prog ops Q rest (a.put o.dst (.pointer (some ⟨w.heap.size, 0, none⟩))) (w.alloc (.mapIter (some M) clock #[] clock))) : wpListIn F n Try.prog ops Q (o :: rest) a w := by
  refine wpListIn_plain hg fun K' hK' => ?_
  unfold Oper.wpIn
  refine ⟨by simp [Oper.about, hop], ?_⟩
  rw [Oper.semAt_plain F _ _ (by rw [hop]; intro c hc'; cases hc')]
  simp [execOp, hop, hm, run_rangeG hM, Result.andThen]
  exact hK' _ _ hK
theorem wpListIn_next_G (hg : o.guard = none) (it : Operand) (hop : o.op = Op.next it false) (r M clock : Nat) (seen : Array Nat) (E : List (Gu × Nat))
    (hit : a.eval it = .pointer (some ⟨r, 0, none⟩)) (hr : w.heap[r]? = some (.mapIter (some M) clock seen clock)) (hM : MapG w M E clock)
    (hDone : Hid (∀ q ∈ E, seen.contains q.2 = true) → wpListIn F n Try.prog ops Q rest (a.put o.dst (.tuple #[.bool false])) w)
    (hMore : ∀ (x : Gu) (b : Nat) (w1 : World), Hid ((x, b) ∈ E) → Hid (seen.contains b = false) → Hid (w1 = w ∨ w1 = w.drew) → wpListIn F n Try.prog ops Q rest (a.put o.dst (.tuple #[.bool true, nameV x, x.val])) (setBlock w1 r (.mapIter (some M) clock (seen.push b) clock))) :
    wpListIn F n Try.prog ops Q (o :: rest) a w := by
  refine wpListIn_plain hg fun K' hK' => ?_
  unfold Oper.wpIn
  refine ⟨by simp [Oper.about, hop], ?_⟩
  rw [Oper.semAt_plain F _ _ (by rw [hop]; intro c hc'; cases hc')]
  have hold : ∀ x ∈ (mkG E).toArray.toList, x.born < clock := by
    intro x hx
    simp [mkG] at hx
    obtain ⟨y, n, hq, rfl⟩ := hx
    exact hM.born (y, n) hq
  rcases run_next_at (P := Try.prog) w o.type r M clock clock seen (mkG E).toArray clock hr hM.obj hold (Nat.le_refl _) with ⟨h0, hrun⟩ | ⟨e, he, w1, hw1, hrun⟩
  · simp [execOp, hop, hit, hrun, Result.andThen]
    exact hK' _ _ (hDone (Lib.hid (leftG_none h0)))
  · obtain ⟨q, hq, rfl, hs⟩ := mem_leftG he
    simp [execOp, hop, hit, hrun, Result.andThen]
    exact hK' _ _ (hMore q.1 q.2 w1 (Lib.hid hq) (Lib.hid hs) (Lib.hid hw1))
end
def leftN (E : List (Gu × Nat)) (seen : Array Nat) : Nat := (E.filter fun z => !seen.contains z.2).length
def leftM (E : List (Gu × Nat)) (wr : World) (r : Nat) : Nat := match wr.heap[r]? with
  | some (.mapIter _ _ seen _) => leftN E seen
  | _ => 0
theorem filterL_le {α : Type} {p p' : α → Bool} (h : ∀ z, p' z = true → p z = true) (l : List α) : (l.filter p').length ≤ (l.filter p).length := by
  induction l with
  | nil => simp
  | cons a l ih =>
    by_cases h1 : p' a = true
    · rw [List.filter_cons_of_pos h1, List.filter_cons_of_pos (h a h1)]; simpa using ih
    · rw [List.filter_cons_of_neg h1]
      by_cases h2 : p a = true
      · rw [List.filter_cons_of_pos h2]; simp; omega
      · rw [List.filter_cons_of_neg h2]; exact ih
theorem filterL_lt {α : Type} {p p' : α → Bool} (h : ∀ z, p' z = true → p z = true) {l : List α} {q : α} (hq : q ∈ l) (h1 : p q = true) (h2 : p' q = false) : (l.filter p').length < (l.filter p).length := by
  induction l with
  | nil => cases hq
  | cons a l ih =>
    rcases List.mem_cons.1 hq with rfl | hq
    · rw [List.filter_cons_of_neg (by simp [h2]), List.filter_cons_of_pos h1]
      have := filterL_le h l
      simp; omega
    · have := ih hq
      by_cases k1 : p' a = true
      · rw [List.filter_cons_of_pos k1, List.filter_cons_of_pos (h a k1)]; simpa using this
      · rw [List.filter_cons_of_neg k1]
        by_cases k2 : p a = true
        · rw [List.filter_cons_of_pos k2]; simp; omega
        · rw [List.filter_cons_of_neg k2]; exact this
theorem leftN_push {E : List (Gu × Nat)} {seen : Array Nat} {x : Gu} {b : Nat} (hq : (x, b) ∈ E) (hs : seen.contains b = false) : leftN E (seen.push b) < leftN E seen := by
  unfold leftN
  refine filterL_lt (q := (x, b)) (fun z hz => ?_) hq (by simpa using hs) (by simp)
  simp at hz ⊢
  exact hz.1
/- what has come -/
structure VisG (E : List (Gu × Nat)) (seen : Array Nat) (ss : List Nm) : Prop where
  nd : ss.Nodup
  mem : ∀ x, x ∈ ss ↔ ∃ q ∈ E, seen.contains q.2 = true ∧ nmOf q.1 = x
  len : ss.length + leftN E seen ≤ E.length
theorem VisG.start (E : List (Gu × Nat)) : VisG E #[] [] := ⟨List.nodup_nil, fun x => by simp, by unfold leftN; simp; exact List.length_filter_le _ _⟩
theorem VisG.next {E : List (Gu × Nat)} {seen : Array Nat} {ss : List Nm} {x : Gu} {b : Nat} (h : VisG E seen ss) (hd : E.Pairwise fun a b => ¬ sameG a.1 b.1) (hnb : (E.map (·.2)).Nodup) (hq : (x, b) ∈ E) (hs : seen.contains b = false) : VisG E (seen.push b) (ss ++ [nmOf x]) ∧ ss.length < E.length := by
  have hl := leftN_push hq hs
  have hne : nmOf x ∉ ss := fun hm => by
    obtain ⟨q, hqE, hqs, he⟩ := (h.mem _).1 hm
    have : q = (x, b) := by
      obtain ⟨i, hi, rfl⟩ := List.getElem_of_mem hqE
      obtain ⟨j, hj, e⟩ := List.getElem_of_mem hq
      have hp := List.pairwise_iff_getElem.1 hd
      rcases Nat.lt_trichotomy i j with k | k | k
      · have := hp i j hi hj k
        rw [e] at this
        exact absurd ((same_nm _ _).2 he) this
      · subst k; exact e
      · have := hp j i hj hi k
        rw [e] at this
        exact absurd ((same_nm _ _).2 he.symm) this
    rw [this] at hqs
    rw [hs] at hqs
    cases hqs
  refine ⟨⟨?_, fun y => ?_, by have := h.len; simp; omega⟩, by have := h.len; omega⟩
  · rw [List.nodup_append]
    refine ⟨h.nd, by simp, fun a ha b' hb' e => ?_⟩
    simp at hb'
    subst hb'
    subst e
    exact hne ha
  · rw [List.mem_append, h.mem y]
    constructor
    · rintro (⟨q, h1, h2, h3⟩ | h1)
      · exact ⟨q, h1, by simp at h2 ⊢; exact .inl h2, h3⟩
      · simp at h1
        exact ⟨(x, b), hq, by simp, h1.symm⟩
    · rintro ⟨q, h1, h2, h3⟩
      simp at h2
      rcases h2 with h2 | h2
      · exact .inl ⟨q, h1, by simpa using h2, h3⟩
      · right
        have hqe : q = (x, b) := by
          obtain ⟨i, hi, e1⟩ := List.getElem_of_mem h1
          obtain ⟨j, hj, e2⟩ := List.getElem_of_mem hq
          have hp := List.pairwise_iff_getElem.1 hnb
          have k2 : q.2 = b := by first | exact h2 | exact h2.symm
          rcases Nat.lt_trichotomy i j with k | k | k
          · have := hp i j (by simpa using hi) (by simpa using hj) k
            simp [e1, e2] at this
            exact absurd k2 this
          · subst k; rw [← e1, e2]
          · have := hp j i (by simpa using hj) (by simpa using hi) k
            simp [e1, e2] at this
            exact absurd k2.symm this
        rw [hqe] at h3
        simp [h3]
set_option maxRecDepth 100000 in
set_option maxHeartbeats 4000000 in
theorem keysIter_in (F : Fence) (n : Nat) (hK : F.fn 149) (hro : F.round = none) (hn : 1 ≤ n) (Bm M clock : Nat) (E : List (Gu × Nat)) (l : Nat) (J Jx : List Nm → World → Prop)
    (W : World) (hJ : AbidesFrom W.heap.size J)
    (hY : ∀ pre x W1, J pre W1 → pre.length < E.length → YieldAt F (n - 1) Try.prog l (nmA x) W1 fun e W' => (e = .returned (.bool true) ∧ J (pre ++ [x]) W' ∧ KeepsWalks W1 W') ∨ (e = .returned (.bool false) ∧ Jx (pre ++ [x]) W'))
    (hBm : W.cell? ⟨Bm, 0, none⟩ = some (.map (some M))) (hM : MapG W M E clock) (h0 : J [] W) :
    CallsIn F n Try.prog 149 #[.func (.yield l) #[] #[], .pointer (some ⟨Bm, 0, none⟩)] W fun e W' => (∃ v, e = .returned v) ∧
      ((∃ xs, (xs.Nodup ∧ ∀ x, x ∈ xs ↔ ∃ q ∈ E, nmOf q.1 = x) ∧ J xs W') ∨ (∃ pre, True ∧ Jx pre W')) := by
  have hW1 : (W.alloc (.mapIter (some M) clock #[] clock)).heap[W.heap.size]? = some (.mapIter (some M) clock #[] clock) := heap_alloc_new W _
  have hM1 : MapG (W.alloc (.mapIter (some M) clock #[] clock)) M E clock := hM.kept (Below.heap_alloc _ _ _ hM.lt)
  have hJ0 : J [] (W.alloc (.mapIter (some M) clock #[] clock)) := hJ [] W _ none h0 (World.grownBy_alloc W _ none) (fun r e => by cases e)
  refine callsIn_of_wp Try.func149 rfl hK ?_ hro
  simp only [Try.ntmps149, List.size_toArray, List.length_cons, List.length_nil, Nat.reduceAdd, Nat.reduceSub, Array.replicate_succ, Array.replicate_zero, List.push_toArray, List.append_toArray, List.nil_append, List.cons_append]
  gi_wp2_with (first | (gi_at_range; refine wpListIn_range_G _ rfl _ rfl M clock E rfl hM ?_) | gi_in)
  go_frame
  gi_loopw [3] (fun _ wr => ∃ (ss : List Nm) (seen : Array Nat), wr.heap[W.heap.size]? = some (.mapIter (some M) clock seen clock) ∧ MapG wr M E clock ∧ VisG E seen ss ∧ J ss wr ∧ W.heap.size ≤ wr.heap.size)
    (fun _ wr => leftM E wr W.heap.size)
  case atStart => exact ⟨[], #[], hW1, hM1, VisG.start E, hJ0, by simp⟩
  case round =>
    obtain ⟨ss, seen, hit, hMr, hV, hJs, hsz⟩ := hrel
    gi_wp2_with (first | (gi_at_next; refine wpListIn_next_G _ rfl _ rfl W.heap.size M clock seen E rfl hit hMr ?_ ?_) | gi_in)
    · intro hall
      have hall2 : ∀ q ∈ E, seen.contains q.2 = true := fun q hq => by
        have := hall.out q.1 q.2 hq
        simpa using this
      gi_wp2
      go_end0
      refine ⟨⟨_, rfl⟩, .inl ⟨ss, ⟨hV.nd, fun x => ?_⟩, hJs⟩⟩
      rw [hV.mem x]
      constructor
      · rintro ⟨q, h1, _, h3⟩; exact ⟨q, h1, h3⟩
      · rintro ⟨q, h1, h3⟩; exact ⟨q, h1, hall2 q h1, h3⟩
    · intro x b w1 hq hs0 hw1
      have hs : seen.contains b = false := by simpa using hs0.out
      clear hs0
      have hMne : M ≠ W.heap.size := Nat.ne_of_lt hM.lt
      obtain ⟨hV2, hlen⟩ := hV.next hMr.dist hMr.nodup hq.out hs
      have hpush := leftN_push hq.out hs
      have hgr := grown_next hw1.out (r := W.heap.size) (.mapIter (some M) clock (seen.push b) clock)
      have hrl : W.heap.size < wr.heap.size := (Array.getElem?_eq_some_iff.1 hit).1
      have hit2 : (setBlock w1 W.heap.size (.mapIter (some M) clock (seen.push b) clock)).heap[W.heap.size]? = some (.mapIter (some M) clock (seen.push b) clock) := setB_at (by rcases hw1.out with e | e <;> rw [e] <;> exact hrl)
      obtain ⟨w2, hw2⟩ : ∃ X, X = setBlock w1 W.heap.size (.mapIter (some M) clock (seen.push b) clock) := ⟨_, rfl⟩
      rw [← hw2] at hgr hit2 ⊢
      clear hw2
      have hM2 : MapG w2 M E clock := hMr.kept (hgr.block M hMr.lt (fun e => hMne (by injection e)))
      have hJ2 : J ss w2 := hJ ss wr w2 (some W.heap.size) hJs hgr (fun r e => by cases e; exact ⟨Nat.le_refl _, _, hit, rfl⟩)
      have hen := run_entryG (q := (x, b)) hit2 hM2 hq.out
      have hJ3 : J ss (w2.alloc (.cells #[.int .i64 x.vni, .int .i64 x.mac] 106)) := hJ ss w2 _ none hJ2 (World.grownBy_alloc w2 _ none) (fun r e => by cases e)
      obtain ⟨fn, tmps, assign, body, hy, hR⟩ := hY ss (nmOf x) _ hJ3 hlen
      have hMl := (Below.heap_alloc w2 (.cells #[.int .i64 x.vni, .int .i64 x.mac] 106) M hM2.lt).trans hM2.obj
      have hIl := (Below.heap_alloc w2 (.cells #[.int .i64 x.vni, .int .i64 x.mac] 106) W.heap.size (Array.getElem?_eq_some_iff.1 hit2).1).trans hit2
      have hszl : W.heap.size ≤ (w2.alloc (.cells #[.int .i64 x.vni, .int .i64 x.mac] 106)).heap.size := by
        have := hgr.size
        simp
        omega
      unfold nmA nmV nmOf at hy
      unfold nameV Gu.val at *
      dsimp only at hy hen
      have HM2 := Lib.hid hM2
      have HMl := Lib.hid hMl
      have HIl := Lib.hid hIl
      have HV2 := Lib.hid hV2
      have HIt := Lib.hid hit
      clear hV hMr hit hit2 hM2 hJ2 hJ3 hgr hMl hIl hV2
      gi_wp2
      refine hR.mono ?_
      rintro e W3 (⟨rfl, hJ4, hk⟩ | ⟨rfl, hJx⟩)
      · gi_wp2
        go_roundw
        case rel => exact ⟨ss ++ [nmOf x], seen.push b, hk.same _ _ HIl.out rfl, HM2.out.kept ((hk.same M _ HMl.out rfl).trans HM2.out.obj.symm), HV2.out, hJ4, Nat.le_trans hszl hk.size⟩
        case measure =>
          unfold leftM
          rw [hk.same _ _ HIl.out rfl, HIt.out]
          exact hpush
      · gi_wp2
        refine bodyPost_ret (results_none rfl _ _ _) rfl ?_
        exact ⟨⟨_, rfl⟩, .inr ⟨_, trivial, hJx⟩⟩
end Go.Proofs.Ytmkoppbbenombaa
