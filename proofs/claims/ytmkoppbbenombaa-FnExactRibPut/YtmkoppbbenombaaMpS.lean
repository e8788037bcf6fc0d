/- A map of held routes by slot: its entries, one by one. -/
import Derived.Test.YtmkoppbbenombaaHpM
import Derived.Test.YtmkoppbbenombaaB3
import Derived.Laws.AppendOwn
import Derived.MapKept
import Derived.WideKeyEntry
namespace Go.Proofs.Ytmkoppbbenombaa
open Go.RowKit

def slotV (h : Hd) : Value := .agg #[.int .i64 h.p, .int .i64 h.r.kind, .int .i64 h.r.vni, .int .i64 h.r.mac, .int .i64 0, .int .i64 h.r.org, .int .i64 0, .bool false]
instance sameDec (a b : Hd) : Decidable (same a b) := by unfold same; infer_instance
theorem slotV_same {a b : Hd} (h : same a b) : slotV a = slotV b := by
  obtain ⟨h1, h2, h3, h4, h5⟩ := h
  unfold slotV
  rw [h1, h2, h3, h4, h5]
theorem slot_stood : Try.prog.stoodInHeld 91 = false := by kernel_rfl
theorem rt_equalN (d : Nat) (k v m i o s k' v' m' i' o' s' : Int) (t t' : Bool) (w : World) :
    (Op.equalIn (d + 2) 35 (.agg #[.int .i64 k, .int .i64 v, .int .i64 m, .int .i64 i, .int .i64 o, .int .i64 s, .bool t]) (.agg #[.int .i64 k', .int .i64 v', .int .i64 m', .int .i64 i', .int .i64 o', .int .i64 s', .bool t'])).run Try.prog w =
      .ok (decide (k = k' ∧ v = v' ∧ m = m' ∧ i = i' ∧ o = o' ∧ s = s' ∧ t = t')) w := by
  have hf : Try.prog.underlying 35 = some (.struct (Try.prog.fieldsOf 35)) := by unfold Program.fieldsOf; rw [Try.underlying35]
  rw [run_equalIn_struct w (d + 1) 35 _ _ hf rt_stood]
  simp only [Program.fieldsOf, Try.underlying35, Op.eqFields, Sem.run_bind, Sem.run_ite, part, isAgg, run_underlying Try.underlying2, run_underlying Try.underlying4]
  by_cases h1 : k = k'
  by_cases h2 : v = v'
  by_cases h3 : m = m'
  by_cases h4 : i = i'
  by_cases h5 : o = o'
  by_cases h6 : s = s'
  all_goals simp [*, run_equalIn_int w _ 2 .i64 .i64 _ _ Try.underlying2, run_equalIn_bool w _ 4 _ _ Try.underlying4]
  by_cases h7 : t = t' <;> simp [h7]
theorem slot_equal (a b : Hd) (w : World) : (Op.equal 91 (slotV a) (slotV b)).run Try.prog w = .ok (decide (same a b)) w := by
  rw [show Op.equal 91 (slotV a) (slotV b) = Op.equalIn 10000 91 (slotV a) (slotV b) from rfl]
  have hf : Try.prog.underlying 91 = some (.struct (Try.prog.fieldsOf 91)) := by unfold Program.fieldsOf; rw [Try.underlying91]
  unfold slotV same
  rw [run_equalIn_struct w 9999 91 _ _ hf slot_stood]
  simp only [Program.fieldsOf, Try.underlying91, Op.eqFields, Sem.run_bind, Sem.run_ite, part, isAgg, run_underlying Try.underlying2, run_underlying Try.underlying35]
  have hr := rt_equalN 9997 a.r.kind a.r.vni a.r.mac 0 a.r.org 0 b.r.kind b.r.vni b.r.mac 0 b.r.org 0 false false
  simp only [Nat.reduceAdd] at hr
  by_cases h1 : a.p = b.p
  · by_cases h2 : a.r.kind = b.r.kind <;> by_cases h3 : a.r.vni = b.r.vni <;> by_cases h4 : a.r.mac = b.r.mac <;> by_cases h5 : a.r.org = b.r.org <;>
      simp only [h2, h3, h4, h5, and_true, and_false, decide_true, decide_false] at hr <;> simp [h1, h2, h3, h4, h5, run_equalIn_int w _ 2 .i64 .i64 _ _ Try.underlying2, hr]
  · simp [h1, run_equalIn_int w _ 2 .i64 .i64 _ _ Try.underlying2]
/- the entries: what is held, and when it came -/
def mkE (E : List (Hd × Nat)) : List MapEntry := E.map fun q => ⟨slotV q.1, q.1.val, q.2⟩
def seekS (x : Hd) : List (Hd × Nat) → Nat → Option (Nat × Value)
  | [], _ => none
  | q :: E, i => if same x q.1 then some (i, q.1.val) else seekS x E (i + 1)
theorem seekS_some {x : Hd} : ∀ {E : List (Hd × Nat)} {i j : Nat} {v : Value}, seekS x E i = some (j, v) → ∃ m q, j = i + m ∧ E[m]? = some q ∧ same x q.1 ∧ v = q.1.val := by
  intro E
  induction E with
  | nil => intro i j v h; cases h
  | cons q E ih =>
    intro i j v h
    unfold seekS at h
    by_cases e : same x q.1
    · rw [if_pos e] at h; injection h with h; injection h with h1 h2; subst h1 h2; exact ⟨0, q, rfl, rfl, e, rfl⟩
    · rw [if_neg e] at h
      obtain ⟨m, q', h1, h2, h3, h4⟩ := ih h
      exact ⟨m + 1, q', by omega, by simpa using h2, h3, h4⟩
theorem seekS_none {x : Hd} : ∀ {E : List (Hd × Nat)} {i : Nat}, seekS x E i = none → ∀ q ∈ E, ¬ same x q.1 := by
  intro E
  induction E with
  | nil => intro i _ q hq; cases hq
  | cons q E ih =>
    intro i h q' hq
    unfold seekS at h
    by_cases e : same x q.1
    · rw [if_pos e] at h; cases h
    · rw [if_neg e] at h
      rcases List.mem_cons.1 hq with rfl | hq
      · exact e
      · exact ih h q' hq
theorem find_askS (x : Hd) (W : World) (E : List (Hd × Nat)) : ∀ i, (Instr.findAsking 91 (slotV x) (mkE E) i).run Try.prog W = .ok (seekS x E i) W := by
  induction E with
  | nil => intro i; rfl
  | cons q E ih =>
    intro i
    simp only [mkE, List.map_cons, Instr.findAsking, Sem.run_bind, slot_equal, Result.andThen_ok, seekS]
    by_cases e : same x q.1
    · rw [if_pos e, decide_eq_true e]; rfl
    · rw [if_neg e, decide_eq_false e]; exact ih _
theorem now_noneS (x : Hd) (fs : Array Field) (q : Hd × Nat) (E : List (Hd × Nat)) : Instr.findNow (.struct fs) (slotV x) (mkE (q :: E)) 0 = none := by
  simp [mkE, Instr.findNow, Instr.sameNow]
theorem find_keyS (x : Hd) (W : World) (E : List (Hd × Nat)) : (Instr.findKey 91 (slotV x) (mkE E)).run Try.prog W = .ok (seekS x E 0) W := by
  unfold Instr.findKey
  simp only [Sem.run_bind, run_underlying Try.underlying91, Result.andThen_ok]
  match E with
  | [] => rfl
  | q :: E =>
    rw [now_noneS]
    exact find_askS x W (q :: E) 0
theorem check_slot (b : Bool) (p k v m o : Int) (W : World) : (Instr.checkKey b 10000 91 (.agg #[.int .i64 p, .int .i64 k, .int .i64 v, .int .i64 m, .int .i64 0, .int .i64 o, .int .i64 0, .bool false])).run Try.prog W = .ok () W := by kernel_rfl
theorem check_slotV (b : Bool) (x : Hd) (W : World) : (Instr.checkKey b 10000 91 (slotV x)).run Try.prog W = .ok () W := check_slot b _ _ _ _ _ W
theorem stays_slot (x : Hd) (W : World) : (Instr.keyThatStays (slotV x) (slotV x)).run Try.prog W = .ok (slotV x) W := by
  unfold slotV
  simp [Instr.keyThatStays, Instr.sameBits]
theorem mapS_type : Try.prog.underlying 88 = some (.map 91 77) := by kernel_rfl
abbrev setM (W : World) (M : Nat) (o : Obj) : World := { W with heap := W.heap.setIfInBounds M o }
structure MapS (W : World) (M : Nat) (E : List (Hd × Nat)) (clock : Nat) : Prop where
  obj : W.heap[M]? = some (.map (mkE E).toArray clock)
  born : ∀ q ∈ E, q.2 < clock
  nodup : (E.map (·.2)).Nodup
  dist : E.Pairwise fun a b => ¬ same a.1 b.1
theorem MapS.lt {W : World} {M clock : Nat} {E : List (Hd × Nat)} (h : MapS W M E clock) : M < W.heap.size := by
  rcases Nat.lt_or_ge M W.heap.size with hl | hl
  · exact hl
  · have := h.obj; rw [Array.getElem?_eq_none hl] at this; cases this
theorem MapS.kept {W W' : World} {M clock : Nat} {E : List (Hd × Nat)} (h : MapS W M E clock) (hb : W'.heap[M]? = W.heap[M]?) : MapS W' M E clock := ⟨hb.trans h.obj, h.born, h.nodup, h.dist⟩
theorem setM_at {W : World} {M : Nat} (o : Obj) (h : M < W.heap.size) : (setM W M o).heap[M]? = some o := by simp [h]
/- a new entry -/
theorem MapS.add {W : World} {M clock : Nat} {E : List (Hd × Nat)} {x : Hd} (h : MapS W M E clock) (hs : seekS x E 0 = none) :
    (Instr.mapUpdate 88 (.map (some M)) (slotV x) x.val).run Try.prog W = .ok () (setM W M (.map (mkE (E ++ [(x, clock)])).toArray (clock + 1))) ∧ MapS (setM W M (.map (mkE (E ++ [(x, clock)])).toArray (clock + 1))) M (E ++ [(x, clock)]) (clock + 1) := by
  have hp : (mkE E).toArray.push ⟨slotV x, x.val, clock⟩ = (mkE (E ++ [(x, clock)])).toArray := by simp [mkE]
  refine ⟨?_, setM_at _ h.lt, fun q hq => ?_, ?_, ?_⟩
  · simp [Instr.mapUpdate, run_underlying mapS_type, MapKept.run_getObj_map h.obj, check_slotV, find_keyS, hs, ← hp, MapKept.run_setObj_map _ h.obj, Result.andThen]
  · rcases List.mem_append.1 hq with hq | hq
    · have := h.born q hq; omega
    · simp at hq; subst hq; exact Nat.lt_succ_self _
  · rw [List.map_append, List.nodup_append]
    refine ⟨h.nodup, by simp, fun a ha b hb => ?_⟩
    simp at hb
    subst hb
    obtain ⟨q, hq, rfl⟩ := List.mem_map.1 ha
    have := h.born q hq
    omega
  · rw [List.pairwise_append]
    refine ⟨h.dist, by simp, fun a ha b hb => ?_⟩
    simp at hb
    subst hb
    exact fun e => seekS_none hs a ha (same_symm e)
/- an entry set anew -/
theorem MapS.put {W : World} {M clock i : Nat} {E : List (Hd × Nat)} {x y : Hd} {n : Nat} (h : MapS W M E clock) (hs : seekS x E 0 = some (i, y.val)) (hi : E[i]? = some (y, n)) (hxy : same x y) :
    (Instr.mapUpdate 88 (.map (some M)) (slotV x) x.val).run Try.prog W = .ok () (setM W M (.map (mkE (E.set i (x, n))).toArray clock)) ∧ MapS (setM W M (.map (mkE (E.set i (x, n))).toArray clock)) M (E.set i (x, n)) clock := by
  have hlt := (List.getElem?_eq_some_iff.1 hi).1
  have hge := (List.getElem?_eq_some_iff.1 hi).2
  have hg : (mkE E)[i]? = some ⟨slotV x, y.val, n⟩ := by unfold mkE; rw [List.getElem?_map, hi]; simp [slotV_same hxy]
  have hmod : (mkE E).modify i (fun e => { e with key := slotV x, val := x.val }) = mkE (E.set i (x, n)) := by
    unfold mkE
    apply List.ext_getElem?
    intro k
    rw [List.getElem?_modify, List.getElem?_map, List.getElem?_map, List.getElem?_set]
    by_cases e : i = k
    · subst e; simp [hlt, hge]
    · simp [e]
  refine ⟨?_, setM_at _ h.lt, fun q hq => ?_, ?_, ?_⟩
  · simp [Instr.mapUpdate, run_underlying mapS_type, MapKept.run_getObj_map h.obj, check_slotV, find_keyS, hs, hg, stays_slot, hmod, MapKept.run_setObj_map _ h.obj, Result.andThen]
  · rcases List.mem_or_eq_of_mem_set hq with hq | rfl
    · exact h.born q hq
    · exact h.born (y, n) (List.mem_of_getElem? hi)
  · have e : (E.set i (x, n)).map (·.2) = E.map (·.2) := by
      rw [List.map_set]
      apply List.ext_getElem?
      intro k
      rw [List.getElem?_set]
      by_cases e : i = k
      · subst e; simp [hlt, hge]
      · simp [e]
    rw [e]; exact h.nodup
  · rw [List.pairwise_iff_getElem]
    intro a b ha hb hab
    rw [List.length_set] at ha hb
    have hd := List.pairwise_iff_getElem.1 h.dist
    rw [List.getElem_set, List.getElem_set]
    by_cases e1 : i = a
    · subst e1
      rw [if_pos rfl, if_neg (by omega)]
      have := hd i b ha hb hab
      rw [hge] at this
      exact fun e => this (same_trans (same_symm hxy) e)
    · rw [if_neg e1]
      by_cases e2 : i = b
      · subst e2
        rw [if_pos rfl]
        have := hd a i ha hb hab
        rw [hge] at this
        exact fun e => this (same_trans e hxy)
      · rw [if_neg e2]; exact hd a b ha hb hab
theorem erase_map {α β : Type} (f : α → β) : ∀ (l : List α) (i : Nat), (l.map f).eraseIdx i = (l.eraseIdx i).map f := by
  intro l
  induction l with
  | nil => intro i; simp
  | cons x l ih =>
    intro i
    cases i with
    | zero => rfl
    | succ i => simp [List.eraseIdx_cons_succ, ih]
/- an entry struck -/
theorem MapS.drop {W : World} {M clock i : Nat} {E : List (Hd × Nat)} {x : Hd} {v : Value} (h : MapS W M E clock) (hs : seekS x E 0 = some (i, v)) (ty : TypeId) :
    (Builtin.delete_ #[88, 91] ty #[.map (some M), slotV x]).run Try.prog W = .ok (.tuple #[]) (setM W M (.map (mkE (E.eraseIdx i)).toArray clock)) ∧ MapS (setM W M (.map (mkE (E.eraseIdx i)).toArray clock)) M (E.eraseIdx i) clock := by
  obtain ⟨m, q, e1, hi, _, _⟩ := seekS_some hs
  rw [Nat.zero_add] at e1
  subst e1
  have hlt := (List.getElem?_eq_some_iff.1 hi).1
  have her : (mkE E).eraseIdx i = mkE (E.eraseIdx i) := erase_map _ _ _
  refine ⟨?_, setM_at _ h.lt, fun q hq => h.born q (List.mem_of_mem_eraseIdx hq), ?_, h.dist.sublist (List.eraseIdx_sublist _ _)⟩
  · simp [Builtin.delete_, run_underlying mapS_type, MapKept.run_getObj_map h.obj, check_slotV, find_keyS, hs, her, MapKept.run_setObj_map _ h.obj, Result.andThen]
  · rw [← erase_map]; exact h.nodup.sublist (List.eraseIdx_sublist _ _)
theorem zero_held (W : World) : (zeroValue 77).run Try.prog W = .ok (.agg #[.int .i64 0, .bool false, .int .i64 0, .int .i64 0, .int .i64 0, .int .i64 0, .int .i64 0, .int .i64 0, .bool false]) W := by kernel_rfl
/- an entry looked up -/
theorem MapS.look {W : World} {M clock : Nat} {E : List (Hd × Nat)} (h : MapS W M E clock) (x : Hd) :
    (Instr.lookup 88 (.map (some M)) (slotV x) true).run Try.prog W = .ok (match seekS x E 0 with | some (_, v) => .tuple #[v, .bool true] | none => .tuple #[.agg #[.int .i64 0, .bool false, .int .i64 0, .int .i64 0, .int .i64 0, .int .i64 0, .int .i64 0, .int .i64 0, .bool false], .bool false]) W := by
  cases hs : seekS x E 0 with
  | none => simp [Instr.lookup, run_underlying mapS_type, MapKept.run_getObj_map h.obj, check_slotV, find_keyS, hs, Result.andThen]
  | some p => simp [Instr.lookup, run_underlying mapS_type, MapKept.run_getObj_map h.obj, check_slotV, find_keyS, hs, Result.andThen]
end Go.Proofs.Ytmkoppbbenombaa
