/- What the functions over moves answer: rows, a law's comparing, marking and holding; the fault of a list. -/
import Derived.Test.YthilmonokhdjmaaMsM
import Derived.Test.YthilmonokhdjmaaRMv
import Derived.Test.YthilmonokhdjmaaApB
import Derived.Test.YthilmonokhdjmaaMg
namespace Go.Proofs.Ythilmonokhdjmaa
open Go.RowKit

theorem tyM : RowTy Try.prog 25 34 3 24 := by
  refine ⟨Try.underlying25, ?_, by decide, by decide⟩
  obtain ⟨i0, hi0, hz0, hz1, hz2⟩ := info_parts Mv.info
  exact ⟨i0, _, hi0, hz0, hz1, hz2, rfl⟩
structure WnO where
  mvs : List Mv
  code : Int
def woV (v : Value) (c : Int) : Value := .agg #[v, .int .i64 c]
/- a slice that lies within a row: the row itself, an empty one, or the row without its first elements -/
def SubR (v : Value) (n : Nat) (vo : Value) (no : Nat) : Prop :=
  (v = vo ∧ n = no) ∨ (n = 0 ∧ ∃ a c, v = .slice a 0 c) ∨ ∃ g k cap c, vo = .slice (some ⟨g, 0, none⟩) (k + n) cap ∧ no = k + n ∧ v = .slice (some ⟨g, k * 3, none⟩) n c
def Sees (v vo : Value) (no : Nat) (X : List Value) (l : List Mv) : Prop := ∀ (W : World) (B : Nat), W.ownsRow B 34 3 vo no X → SlAt W 3 v (l.map Mv.cl)
theorem SubR.form {v vo : Value} {n no B : Nat} {X : List Value} {W : World} (h : SubR v n vo no) (ho : W.ownsRow B 34 3 vo no X) : ∃ a c, v = .slice a n c := by
  rcases h with ⟨rfl, rfl⟩ | ⟨rfl, a, c, rfl⟩ | ⟨g, k, cap, c, _, _, rfl⟩
  · exact rown_form ho
  · exact ⟨a, c, rfl⟩
  · exact ⟨_, c, rfl⟩
def WoPost (r : WnO) (w : World) (x : Ending) (w' : World) : Prop :=
  ∃ v vo no X, x = .returned (woV v r.code) ∧ SubR v r.mvs.length vo no ∧ Sees v vo no X r.mvs ∧ w'.ownsRow w.heap.size 34 3 vo no X ∧ Below w.heap.size w w'
def woIll (c : Int) : WnO := ⟨[], c⟩
theorem WoPost.own {r : WnO} {w w' : World} {x : Ending} {v : Value} (hx : x = .returned (woV v r.code)) (ho : w'.ownsRow w.heap.size 34 3 v r.mvs.length (rcells Mv.cl r.mvs)) (hb : Below w.heap.size w w') : WoPost r w x w' :=
  ⟨v, v, _, _, hx, .inl ⟨rfl, rfl⟩, fun _ _ h => rows_of_own Mv.cl_len h, ho, hb⟩
theorem WoPost.ill {r : WnO} {c : Int} {w w' : World} {x : Ending} (hr : r = woIll c) (hx : x = .returned (woV (.slice none 0 0) c)) (hb : Below w.heap.size w w') : WoPost r w x w' := by
  subst hr
  exact WoPost.own hx (World.ownsRow_nil _ _ _ _) hb
/- an empty slice, wherever it lies -/
theorem WoPost.empty {c : Int} {w w' : World} {x : Ending} {a : Option Addr} {k : Nat} (hx : x = .returned (woV (.slice a 0 k) c)) (hb : Below w.heap.size w w') : WoPost ⟨[], c⟩ w x w' :=
  ⟨_, .slice none 0 0, 0, [], hx, .inr (.inl ⟨rfl, a, k, rfl⟩), fun _ _ _ => ⟨a, k, rfl, fun h => absurd rfl h⟩, World.ownsRow_nil _ _ _ _, hb⟩
/- a row without its first elements -/
theorem WoPost.tail {r : WnO} {w w' : World} {x : Ending} {g cap c : Nat} {pre : List Mv} (hx : x = .returned (woV (.slice (some ⟨g, pre.length * 3, none⟩) r.mvs.length c) r.code)) (ho : w'.ownsRow w.heap.size 34 3 (.slice (some ⟨g, 0, none⟩) (pre.length + r.mvs.length) cap) (pre.length + r.mvs.length) (rcells Mv.cl (pre ++ r.mvs))) (hb : Below w.heap.size w w') : WoPost r w x w' := by
  refine ⟨_, _, _, _, hx, .inr (.inr ⟨g, pre.length, cap, c, rfl, rfl, rfl⟩), fun W B h => ?_, ho, hb⟩
  have e : pre.length + r.mvs.length = (pre ++ r.mvs).length := by simp
  rw [e] at h
  obtain ⟨a', c', e1, hE⟩ := rows_of_own Mv.cl_len h
  injection e1 with e1 _ _
  subst e1
  refine ⟨_, c, by rw [List.length_map], fun hne => ?_⟩
  obtain ⟨b, off, e2, hb2, hEl⟩ := hE (fun e => hne (by
    have := congrArg List.length e
    simp at this
    rw [this.2]; rfl))
  injection e2 with e2
  injection e2 with e2 e3
  subst e2 e3
  refine ⟨g, pre.length * 3, rfl, hb2, fun i cs hi j u hj => ?_⟩
  have hi2 : ((pre ++ r.mvs).map Mv.cl)[pre.length + i]? = some cs := by
    rw [List.map_append, List.getElem?_append_right (by simp), ← hi]
    congr 1
    simp
  have := hEl (pre.length + i) cs hi2 j u hj
  rw [← this, Nat.add_mul, Nat.zero_add]
theorem fillW {W cur : World} {q B : Nat} {t : TypeId} {c0 c1 : Value} (N : Blk cur q t #[c0, c1]) (h : Below B W cur) (hq : B ≤ q) (v0 v1 : Value) :
    Blk ((cur.setCell ⟨q, 0, none⟩ v0).setCell ⟨q, 1, none⟩ v1) q t #[v0, v1] ∧ Below B W ((cur.setCell ⟨q, 0, none⟩ v0).setCell ⟨q, 1, none⟩ v1) := by
  have h2 := (N.set 0 v0).set 1 v1
  simp only [List.setIfInBounds_toArray, List.set_cons_zero, List.set_cons_succ] at h2
  exact ⟨h2, (h.setCell hq _).setCell hq _⟩
theorem blk_not_ownW {cur : World} {b B n sz : Nat} {t t' : TypeId} {cs : Array Value} {v : Value} {xs : List Value} (h : Blk cur b t cs) (ho : cur.ownsRow B t' sz v n xs) (hne : t ≠ t') : some b ≠ v.ownBlock := by
  rcases ho.2 with ⟨rfl, _⟩ | ⟨g, cap, cu, rfl, _, hg, _⟩
  · simp [Value.ownBlock]
  · intro e
    simp [Value.ownBlock] at e
    subst e
    unfold Blk at h
    rw [h] at hg
    simp at hg
    exact hne hg.2
/- a row stays where a block of another type is written -/
theorem rowW_set {cur : World} {q B n sz : Nat} {t t' : TypeId} {cs : Array Value} {v : Value} {xs : List Value} (ho : cur.ownsRow B t' sz v n xs) (h : Blk cur q t cs) (hne : t ≠ t') (j : Nat) (u : Value) : (cur.setCell ⟨q, j, none⟩ u).ownsRow B t' sz v n xs :=
  ho.kept (row := some q) (grownSet (World.grownBy.refl _ _)) (.inr (fun e => blk_not_ownW h ho hne e.symm))
theorem rowW_fill {cur : World} {q B n sz : Nat} {t t' : TypeId} {c0 c1 : Value} {v : Value} {xs : List Value} (ho : cur.ownsRow B t' sz v n xs) (h : Blk cur q t #[c0, c1]) (hne : t ≠ t') (v0 v1 : Value) : ((cur.setCell ⟨q, 0, none⟩ v0).setCell ⟨q, 1, none⟩ v1).ownsRow B t' sz v n xs :=
  rowW_set (rowW_set ho h hne 0 v0) (h.set 0 v0) hne 1 v1
def wCode (l : List Mv) : Int := if 400 < l.length then 2 else if mvsOk l = true then 0 else 1
theorem wCode_long {l : List Mv} (h : 400 < l.length) : wCode l = 2 := by rw [wCode, if_pos h]
theorem wCode_wrong {l : List Mv} (h : ¬ 400 < l.length) (h2 : mvsOk l = false) : wCode l = 1 := by rw [wCode, if_neg h, if_neg (by simp [h2])]
theorem wCode_ok {l : List Mv} (h : ¬ 400 < l.length) (h2 : mvsOk l = true) : wCode l = 0 := by rw [wCode, if_neg h, if_pos h2]
inductive WFaultWay (l : List Mv) (P : Bool) : Prop
  | long (h1 : 400 < l.length)
  | wrong (h1 : ¬ 400 < l.length) (h2 : mvsOk l = false)
  | arg (h1 : ¬ 400 < l.length) (h2 : mvsOk l = true) (h3 : P = false)
  | ok (h1 : ¬ 400 < l.length) (h2 : mvsOk l = true) (h3 : P = true) (h4 : l.length ≤ 30)
theorem wfault_way (l : List Mv) (P : Bool) : WFaultWay l P := by
  by_cases h1 : 400 < l.length
  · exact .long h1
  cases h2 : mvsOk l
  · exact .wrong h1 h2
  cases h3 : P
  · exact .arg h1 h2 rfl
  · exact .ok h1 h2 rfl (mvsOk_len h2)
/- the list kept by a test -/
def keepM (p : Mv → Bool) (l : List Mv) : List Mv := l.filter p
theorem keepM_succ (p : Mv → Bool) (l : List Mv) (i : Nat) (hi : i < l.length) : keepM p (l.take (i + 1)) = if p l[i] = true then keepM p (l.take i) ++ [l[i]] else keepM p (l.take i) := by
  rw [keepM, List.take_succ_eq_append_getElem hi, List.filter_append]
  by_cases h : p l[i] = true <;> simp [h, keepM]
theorem keepM_len (p : Mv → Bool) (l : List Mv) (i : Nat) : (keepM p (l.take i)).length ≤ l.length := by
  have h1 := List.length_filter_le p (l.take i)
  have h2 : (l.take i).length ≤ l.length := by rw [List.length_take]; omega
  unfold keepM; omega
theorem keepM_le (p : Mv → Bool) (l : List Mv) : (keepM p l).length ≤ l.length := List.length_filter_le _ _
def ofG (v m : Int) (x : Mv) : Bool := decide (x.vni = v) && decide (x.mac = m)
def lateG (now : Int) (x : Mv) : Bool := decide (now - 30 < x.tm)
def cntR (l : List Mv) (v m now : Int) : Int := if mvsOk l = true ∧ isTime now = true then ((l.filter fun x => ofG v m x && lateG now x).length : Int) else 0
def trimR (l : List Mv) (now : Int) : WnO := if 400 < l.length then woIll 2 else if mvsOk l = true ∧ isTime now = true then ⟨keepM (lateG now) l, 0⟩ else woIll 1
def dropR (l : List Mv) (v m : Int) : WnO := if 400 < l.length then woIll 2 else if mvsOk l = true then ⟨keepM (fun x => !ofG v m x) l, 0⟩ else woIll 1
def putW (l : List Mv) (x : Mv) : List Mv := (if 30 ≤ l.length then l.drop 1 else l) ++ [x]
def lastOk (l : List Mv) (x : Mv) : Bool := match l.getLast? with | none => true | some y => decide (y.tm ≤ x.tm)
def putR8 (l : List Mv) (x : Mv) : WnO := if 400 < l.length then woIll 2 else if mvsOk l = true ∧ x.right = true ∧ lastOk l x = true then ⟨putW l x, 0⟩ else woIll 1
theorem trimR_long {l : List Mv} {now : Int} (h : 400 < l.length) : trimR l now = woIll 2 := by rw [trimR, if_pos h]
theorem trimR_wrong {l : List Mv} {now : Int} (h : ¬ 400 < l.length) (h2 : mvsOk l = false) : trimR l now = woIll 1 := by rw [trimR, if_neg h, if_neg (by simp [h2])]
theorem trimR_arg {l : List Mv} {now : Int} (h : ¬ 400 < l.length) (h2 : isTime now = false) : trimR l now = woIll 1 := by rw [trimR, if_neg h, if_neg (by simp [h2])]
theorem trimR_ok {l : List Mv} {now : Int} (h : ¬ 400 < l.length) (h2 : mvsOk l = true) (h3 : isTime now = true) : trimR l now = ⟨keepM (lateG now) l, 0⟩ := by rw [trimR, if_neg h, if_pos ⟨h2, h3⟩]
theorem dropR_long {l : List Mv} {v m : Int} (h : 400 < l.length) : dropR l v m = woIll 2 := by rw [dropR, if_pos h]
theorem dropR_wrong {l : List Mv} {v m : Int} (h : ¬ 400 < l.length) (h2 : mvsOk l = false) : dropR l v m = woIll 1 := by rw [dropR, if_neg h, if_neg (by simp [h2])]
theorem dropR_ok {l : List Mv} {v m : Int} (h : ¬ 400 < l.length) (h2 : mvsOk l = true) : dropR l v m = ⟨keepM (fun x => !ofG v m x) l, 0⟩ := by rw [dropR, if_neg h, if_pos h2]
theorem trimR_len (l : List Mv) (now : Int) : (trimR l now).mvs.length ≤ 30 := by
  unfold trimR
  split
  · simp [woIll]
  · split
    · rename_i h
      exact Nat.le_trans (keepM_le _ l) (mvsOk_len h.1)
    · simp [woIll]
theorem dropR_len (l : List Mv) (v m : Int) : (dropR l v m).mvs.length ≤ 30 := by
  unfold dropR
  split
  · simp [woIll]
  · split
    · rename_i h
      exact Nat.le_trans (keepM_le _ l) (mvsOk_len h)
    · simp [woIll]
theorem putW_len (l : List Mv) (x : Mv) (h : l.length ≤ 30) : (putW l x).length ≤ 30 := by
  unfold putW
  split
  · simp; omega
  · simp; omega
theorem putR8_len (l : List Mv) (x : Mv) : (putR8 l x).mvs.length ≤ 30 := by
  unfold putR8
  split
  · simp [woIll]
  · split
    · rename_i h
      exact putW_len l x (mvsOk_len h.1)
    · simp [woIll]
theorem wtime_in {n : Int} (h : isTime n = true) : 0 ≤ n ∧ n ≤ 1000000 := by
  unfold isTime inR at h
  simpa using h
/- the laws' comparing, marking, holding -/
set_option maxHeartbeats 1000000 in
theorem woEq_same (a : List Mv) (v v' : Value) (c : Int) (w : World) (h : SlAt w 3 v (a.map Mv.cl)) (h' : SlAt w 3 v' (a.map Mv.cl)) (hn : a.length ≤ 1048576) :
    Calls Try.prog 23 #[woV v c, woV v' c] w fun e w' => e = .returned (.bool true) ∧ Below w.heap.size w w' := by
  have HE := Lib.hid (fun (W' : World) (hb : Below w.heap.size w W') => Mv.eqS_same a v v' W' (SlAt.kept h hb) (SlAt.kept h' hb) hn)
  obtain ⟨va, vc, rfl, _⟩ := h
  obtain ⟨wa, wc, rfl, _⟩ := h'
  rw [List.length_map] at *
  unfold woV
  have A0 := ((MemAt.start w).new 32 #[.slice va a.length vc, .int .i64 c]).new 32 #[.slice wa a.length wc, .int .i64 c]
  rw [World.size_alloc] at A0
  go_enter Try.func23, Try.ntmps23
  go_upto_region 1 with fail
  generalize (w.alloc (.cells #[.slice va a.length vc, .int .i64 c] 32)).alloc (.cells #[.slice wa a.length wc, .int .i64 c] 32) = W1 at *
  have c0 := A0.b0.cell
  have c1 := A0.b1.cell
  go_wp2_with fail
  refine (HE.out _ A0.bel).mono ?_
  rintro e w2 ⟨rfl, hb⟩
  replace A0 := A0.kept hb
  clear hb c0 c1
  have c0 := A0.b0.cell
  have c1 := A0.b1.cell
  go_wp2_with fail
  go_ret
  exact ⟨rfl, A0.bel⟩
/- what a marking of a slice within a row leaves -/
def SubMark (B : Nat) (v vo : Value) (no k n : Nat) (w : World) (e : Ending) (w' : World) : Prop :=
  e = .returned (.int .i64 ((k + 3 * n : Nat) : Int)) ∧ ∃ X, w'.ownsRow B 34 3 vo no X ∧ Sees v vo no X (Mv.marks k n) ∧ w.grownBy w' vo.ownBlock
set_option maxRecDepth 100000 in
set_option maxHeartbeats 4000000 in
theorem markNone_any (a : Option Addr) (c k : Nat) (w : World) : Calls Try.prog 24 #[.slice a 0 c, .int .i64 (k : Int)] w fun e w' => e = .returned (.int .i64 (k : Int)) ∧ w = w' := by
  go_enter Try.func24, Try.ntmps24
  go_wp2_with fail
  go_loopw [1, 5] (fun x u wr => x = .int .i64 (k : Int) ∧ u = .int .i64 0 ∧ Hid (wr = w)) (fun _ _ _ => 0)
  case atStart => exact ⟨rfl, rfl, Lib.hid rfl⟩
  case round =>
    obtain ⟨rfl, rfl, HW⟩ := hrel
    have hw := HW.out
    clear HW
    subst hw
    go_wp2_with fail
    go_ret
    exact ⟨rfl, rfl⟩
theorem RPart.skip {W : World} {B sz g cap n i : Nat} {t : TypeId} {zs : List Value} (h : W.ownsRow B t sz (.slice (some ⟨g, 0, none⟩) n cap) n zs) (f : Nat → List Value) (hf : ∀ m, m < i → ∀ j, j < sz → (f m)[j]? = zs[m * sz + j]?) : RPart W B t sz g cap n f i 0 :=
  ⟨zs, h, fun m hm j hj => (hf m hm j hj).symm, fun j hj => by omega⟩
set_option maxRecDepth 100000 in
set_option maxHeartbeats 4000000 in
theorem markTail_any (B g d n cap c k : Nat) (xs : List Value) (w : World) (h : w.ownsRow B 34 3 (.slice (some ⟨g, 0, none⟩) (d + n) cap) (d + n) xs) (h0 : 0 < k) (hk : k + 3 * n ≤ 1000000000) :
    Calls Try.prog 24 #[.slice (some ⟨g, d * 3, none⟩) n c, .int .i64 (k : Int)] w (SubMark B (.slice (some ⟨g, d * 3, none⟩) n c) (.slice (some ⟨g, 0, none⟩) (d + n) cap) (d + n) k n w) := by
  unfold SubMark
  obtain ⟨f, hf⟩ : ∃ f : Nat → List Value, f = fun m : Nat => if m < d then (xs.drop (m * 3)).take 3 else (Mv.mk1 ((k : Int) + 3 * ((m - d : Nat) : Int))).cl := ⟨_, rfl⟩
  have HFi : Hid (∀ i : Nat, f (d + i) = (Mv.mk1 ((k : Int) + 3 * (i : Int))).cl) := Lib.hid (fun i => by rw [hf]; dsimp only; rw [if_neg (by omega), Nat.add_sub_cancel_left])
  have HF : Hid (RPart w B 34 3 g cap (d + n) f (d + 0) 0) := Lib.hid (RPart.skip h f (fun m hm j hj => by
    rw [hf]; dsimp only
    rw [if_pos (by omega), List.getElem?_take, if_pos hj, List.getElem?_drop]))
  clear hf
  go_enter Try.func24, Try.ntmps24
  go_wp2_with fail
  go_loopw [1, 5] (fun x u wr => ∃ i : Nat, i ≤ n ∧ u = .int .i64 (i : Int) ∧ x = .int .i64 ((k : Int) + 3 * (i : Int)) ∧ Hid (RPart wr B 34 3 g cap (d + n) f (d + i) 0) ∧ Hid (w.grownBy wr (some g))) (fun _ u _ => n - (intOf u).toNat)
  case atStart => exact ⟨0, Nat.zero_le _, rfl, by simp, HF, Lib.hid (World.grownBy.refl _ _)⟩
  case round =>
    obtain ⟨i, hi, rfl, rfl, HF, HG⟩ := hrel
    by_cases hlt : i < n
    · have hl1 : (i : Int) < n := by omega
      have hdn : d + i < d + n := by omega
      obtain ⟨z0, c0⟩ := HF.out.cell 0 hdn (by omega)
      obtain ⟨z1, c1⟩ := HF.out.cell 1 hdn (by omega)
      obtain ⟨z2, c2⟩ := HF.out.cell 2 hdn (by omega)
      rw [Nat.add_zero] at c0
      rw [Nat.add_mul] at c0 c1 c2
      have fz := HF.out.frozen
      obtain ⟨q, hq⟩ : ∃ q : Int, q = (k : Int) + 3 * (i : Int) := ⟨_, rfl⟩
      have hfi := HFi.out i
      rw [← hq] at hfi ⊢
      have HQ := Lib.hid hq
      have hq0 : 0 < q := by omega
      have hq1 : q ≤ 1000000000 := by omega
      clear hq
      have HFI := Lib.hid hfi
      clear hfi
      have hw1 : IntKind.i64.wrap (q + 1) = q + 1 := by simp only [IntKind.wrap_i64]; omega
      have hw2 : IntKind.i64.wrap (q + 1 + 1) = q + 1 + 1 := by simp only [IntKind.wrap_i64]; omega
      have hw3 : IntKind.i64.wrap (q + 1 + 1 + 1) = q + 1 + 1 + 1 := by simp only [IntKind.wrap_i64]; omega
      have HN := Lib.hid (RPart.next (RPart.set (RPart.set (RPart.set HF.out hdn (by omega) (u := .int .i64 q) (by rw [HFI.out]; rfl)) hdn (by omega) (u := .int .i64 (q + 1)) (by rw [HFI.out]; rfl)) hdn (by omega) (u := .int .i64 (q + 1 + 1)) (by rw [HFI.out]; rfl)))
      rw [Nat.add_mul, Nat.add_zero] at HN
      have HGN := Lib.hid (grownSet (j := d * 3 + i * 3 + 2) (u := .int .i64 (q + 1 + 1)) (grownSet (j := d * 3 + i * 3 + 1) (u := .int .i64 (q + 1)) (grownSet (j := d * 3 + i * 3) (u := .int .i64 q) HG.out)))
      go_wp2_with fail
      go_roundw
      case rel => exact ⟨i + 1, by omega, by simp, by have := HQ.out; simp; omega, HN, HGN⟩
      case measure => simp [intOf]; omega
    · have hin : i = n := by omega
      subst hin
      obtain ⟨zs, hz1, hz2, _⟩ := HF.out
      have HZ1 := Lib.hid hz1
      have HS : Hid (Sees (.slice (some ⟨g, d * 3, none⟩) i c) (.slice (some ⟨g, 0, none⟩) (d + i) cap) (d + i) zs (Mv.marks k i)) := Lib.hid (fun W B' hW => by
        refine ⟨_, c, by rw [List.length_map, Mv.marks_len], fun _ => ⟨g, d * 3, rfl, (hW.lt g rfl).2, fun m cs hm j u hj => ?_⟩⟩
        have hmi : m < (Mv.marks k i).length := by have := (List.getElem?_eq_some_iff.1 hm).1; simpa using this
        have hcs : cs = (Mv.mk1 ((k : Int) + 3 * (m : Int))).cl := by rw [List.getElem?_map, List.getElem?_eq_getElem hmi, Mv.marks_at] at hm; simpa using hm.symm
        rw [Mv.marks_len] at hmi
        subst hcs
        have hj3 : j < 3 := by have := (List.getElem?_eq_some_iff.1 hj).1; simpa [Mv.cl] using this
        have h2 := hz2 (d + m) (by omega) j hj3
        rw [HFi.out m, hj, Nat.add_mul] at h2
        rw [hW.cellAt (d * 3 + m * 3 + j) (by omega)]
        exact h2)
      clear hz1 hz2
      go_wp2_with fail
      go_ret
      exact ⟨by simp, zs, HZ1.out, HS.out, HG.out⟩
theorem markSub_any (B : Nat) (v vo : Value) (no k n : Nat) (xs : List Value) (w : World) (hs : SubR v n vo no) (h : w.ownsRow B 34 3 vo no xs) (h0 : 0 < k) (hk : k + 3 * n ≤ 1000000000) :
    Calls Try.prog 24 #[v, .int .i64 (k : Int)] w (SubMark B v vo no k n w) := by
  rcases hs with ⟨rfl, rfl⟩ | ⟨rfl, a, c, rfl⟩ | ⟨g, d, cap, c, rfl, rfl, rfl⟩
  · refine (Mv.markS_any B v k n xs w h h0 hk).mono ?_
    rintro e w' ⟨he, ho, hg⟩
    rw [Mv.marks_len] at he ho
    exact ⟨he, _, ho, fun W B' hW => by
      have e : n = (Mv.marks k n).length := (Mv.marks_len k n).symm
      refine rows_of_own Mv.cl_len (B := B') (t := 34) ?_
      rw [← e]; exact hW, hg⟩
  · refine (markNone_any a c k w).mono ?_
    rintro e w' ⟨he, rfl⟩
    exact ⟨by rw [he]; simp, xs, h, fun _ _ _ => ⟨a, c, rfl, fun h => absurd rfl h⟩, World.grownBy.refl _ _⟩
  · exact markTail_any B g d n cap c k xs w h h0 hk
def WoMark (B : Nat) (v vo : Value) (no k n : Nat) (w : World) (e : Ending) (w' : World) : Prop :=
  e = .returned (.int .i64 ((k + 3 * n : Nat) : Int)) ∧ ∃ X, w'.ownsRow B 34 3 vo no X ∧ Sees v vo no X (Mv.marks k n) ∧ Below B w w' ∧ ∀ b t' vs, t' ≠ 34 → Blk w b t' vs → Blk w' b t' vs
set_option maxHeartbeats 1000000 in
theorem woMark_any (B : Nat) (v vo : Value) (c : Int) (no k n : Nat) (xs : List Value) (w : World) (hB : B ≤ w.heap.size) (hs : SubR v n vo no) (h : w.ownsRow B 34 3 vo no xs) (h0 : 0 < k) (hk : k + 3 * n ≤ 1000000000) :
    Calls Try.prog 25 #[woV v c, .int .i64 (k : Int)] w (WoMark B v vo no k n w) := by
  have HM := Lib.hid (fun (W' : World) (h : W'.ownsRow B 34 3 vo no xs) => markSub_any B v vo no k n xs W' hs h h0 (by omega))
  obtain ⟨va, vc, rfl⟩ := hs.form h
  unfold woV WoMark
  unfold SubMark at HM
  obtain ⟨K1, hK1⟩ : ∃ K : Int, K = ((k + 3 * n : Nat) : Int) := ⟨_, rfl⟩
  rw [← hK1] at HM ⊢
  clear hK1
  have X := Blk.new w 32 #[.slice va n vc, .int .i64 c]
  have O1 := h.alloc (.cells #[.slice va n vc, .int .i64 c] 32)
  have BB : Below B w (w.alloc (.cells #[.slice va n vc, .int .i64 c] 32)) := (Below.refl _ _).alloc hB _
  have KK : ∀ b t' vs, Blk w b t' vs → Blk (w.alloc (.cells #[.slice va n vc, .int .i64 c] 32)) b t' vs := fun _ _ _ h => h.alloc _
  go_enter Try.func25, Try.ntmps25
  go_upto_region 1 with fail
  generalize (w.alloc (.cells #[.slice va n vc, .int .i64 c] 32)) = W1 at *
  have HK := Lib.hid KK
  clear KK
  have hc := X.cell
  go_wp2_with fail
  refine (HM.out _ O1).mono ?_
  rintro e w2 ⟨rfl, X5, ho, hsee, hg⟩
  have hlow : ∀ q, vo.ownBlock = some q → B ≤ q := fun q hq => (O1.lt q hq).1
  replace BB := BB.grown hg (by have := BB.size; omega) hlow
  have HK2 : Hid (∀ b t' vs, t' ≠ 34 → Blk w b t' vs → Blk w2 b t' vs) := Lib.hid (fun b t' vs n1 hb => (HK.out b t' vs hb).grown hg (blk_not_ownW (HK.out b t' vs hb) O1 n1))
  have HO1 := Lib.hid ho
  have HSee := Lib.hid hsee
  have HBB := Lib.hid BB
  clear hg O1 hc HK hlow ho BB X hsee
  go_wp2_with fail
  go_ret
  exact ⟨rfl, X5, HO1.out, HSee.out, HBB.out, HK2.out⟩
set_option maxHeartbeats 1000000 in
theorem woHeld_any (v : Value) (c : Int) (k n : Nat) (w : World) (h : SlAt w 3 v ((Mv.marks k n).map Mv.cl)) (h0 : 0 < k) (hk : k + 3 * n ≤ 1000000000) :
    Calls Try.prog 26 #[woV v c, .int .i64 (k : Int)] w fun e w' => e = .returned (.int .i64 ((k + 3 * n : Nat) : Int)) ∧ Below w.heap.size w w' := by
  have HM := Lib.hid (fun (W' : World) (hb : Below w.heap.size w W') => Mv.heldS_any v k n W' (SlAt.kept h hb) h0 (by omega))
  obtain ⟨va, vc, rfl, _⟩ := h
  rw [List.length_map, Mv.marks_len] at *
  unfold woV
  obtain ⟨K1, hK1⟩ : ∃ K : Int, K = ((k + 3 * n : Nat) : Int) := ⟨_, rfl⟩
  have h1 : ¬ K1 < 0 := by omega
  rw [← hK1] at HM ⊢
  clear hK1
  have X := Blk.new w 32 #[.slice va n vc, .int .i64 c]
  have BB : Below w.heap.size w (w.alloc (.cells #[.slice va n vc, .int .i64 c] 32)) := (Below.refl _ _).alloc (Nat.le_refl _) _
  go_enter Try.func26, Try.ntmps26
  go_upto_region 1 with fail
  generalize (w.alloc (.cells #[.slice va n vc, .int .i64 c] 32)) = W1 at *
  have hc := X.cell
  go_wp2_with fail
  refine (HM.out _ BB).mono ?_
  rintro e w2 ⟨rfl, rfl⟩
  go_wp2_with fail
  go_ret
  exact ⟨rfl, BB⟩
/- a law's memory: rows of moves beyond B were written anew -/
theorem MemAt.markedW {W cur cur' : World} {B : Nat} {L : List (Nat × TypeId × Array Value)} {R R' : List RowQ} (h : MemAt W L R cur) (hbel : Below B cur cur') (hW : W.heap.size ≤ B) (hblk : ∀ b t' vs, t' ≠ 34 → Blk cur b t' vs → Blk cur' b t' vs)
    (hL : ∀ q ∈ L, q.2.1 ≠ 34) (hR : ∀ q ∈ R', q ∈ R ∧ ∀ k, q.v.ownBlock = some k → k < B) : MemAt W L R' cur' := by
  refine ⟨h.bel.trans (hbel.mono hW), fun q hq => hblk _ _ _ (hL q hq) (h.blk q hq), fun q hq => ?_⟩
  have ho := h.row q (hR q hq).1
  have hl := (hR q hq).2
  unfold RowQ.own at *
  refine ⟨ho.1, ?_⟩
  rcases ho.2 with e | ⟨g, cap, cu, e1, h2, h3, h4⟩
  · exact .inl e
  · exact .inr ⟨g, cap, cu, e1, h2, (hbel.block g (hl g (by rw [e1]; rfl))).trans h3, h4⟩
set_option maxHeartbeats 1000000 in
theorem specIll8_any (c : Int) (w : World) : Calls Try.prog 87 #[.int .i64 c] w fun x w' => x = .returned (woV (.slice none 0 0) c) ∧ Below w.heap.size w w' := by
  go_enter Try.func87, Try.ntmps87
  go_wp2
  refine bodyPost_ret (v := woV (.slice none 0 0) c) (by simp [results, Try.results87, go_sem, woV]) rfl ⟨rfl, ?_⟩
  go_grown
end Go.Proofs.Ythilmonokhdjmaa
