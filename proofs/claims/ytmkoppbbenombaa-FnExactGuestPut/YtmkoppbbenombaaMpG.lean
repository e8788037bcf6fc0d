/- A map of guests by name: its entries, one by one. -/
import Derived.Test.YtmkoppbbenombaaMpS
import Derived.Test.YtmkoppbbenombaaGsM
namespace Go.Proofs.Ytmkoppbbenombaa
open Go.RowKit

def nameV (g : Gu) : Value := .agg #[.int .i64 g.vni, .int .i64 g.mac]
def sameG (a b : Gu) : Prop := a.vni = b.vni ∧ a.mac = b.mac
instance sameGDec (a b : Gu) : Decidable (sameG a b) := by unfold sameG; infer_instance
theorem sameG_symm {a b : Gu} (h : sameG a b) : sameG b a := ⟨h.1.symm, h.2.symm⟩
theorem sameG_trans {a b c : Gu} (h : sameG a b) (k : sameG b c) : sameG a c := ⟨h.1.trans k.1, h.2.trans k.2⟩
theorem nameV_same {a b : Gu} (h : sameG a b) : nameV a = nameV b := by
  obtain ⟨h1, h2⟩ := h
  unfold nameV
  rw [h1, h2]
theorem name_stood : Try.prog.stoodInHeld 106 = false := by kernel_rfl
theorem name_equal (a b : Gu) (w : World) : (Op.equal 106 (nameV a) (nameV b)).run Try.prog w = .ok (decide (sameG a b)) w := by
  rw [show Op.equal 106 (nameV a) (nameV b) = Op.equalIn 10000 106 (nameV a) (nameV b) from rfl]
  have hf : Try.prog.underlying 106 = some (.struct (Try.prog.fieldsOf 106)) := by unfold Program.fieldsOf; rw [Try.underlying106]
  unfold nameV sameG
  rw [run_equalIn_struct w 9999 106 _ _ hf name_stood]
  simp only [Program.fieldsOf, Try.underlying106, Op.eqFields, Sem.run_bind, Sem.run_ite, part, isAgg, run_underlying Try.underlying2]
  by_cases h1 : a.vni = b.vni
  · by_cases h2 : a.mac = b.mac <;> simp [h1, h2, run_equalIn_int w _ 2 .i64 .i64 _ _ Try.underlying2]
  · simp [h1, run_equalIn_int w _ 2 .i64 .i64 _ _ Try.underlying2]
/- the entries: what is held, and when it came -/
def mkG (E : List (Gu × Nat)) : List MapEntry := E.map fun q => ⟨nameV q.1, q.1.val, q.2⟩
def seekG (x : Gu) : List (Gu × Nat) → Nat → Option (Nat × Value)
  | [], _ => none
  | q :: E, i => if sameG x q.1 then some (i, q.1.val) else seekG x E (i + 1)
theorem seekG_some {x : Gu} : ∀ {E : List (Gu × Nat)} {i j : Nat} {v : Value}, seekG x E i = some (j, v) → ∃ m q, j = i + m ∧ E[m]? = some q ∧ sameG x q.1 ∧ v = q.1.val := by
  intro E
  induction E with
  | nil => intro i j v h; cases h
  | cons q E ih =>
    intro i j v h
    unfold seekG at h
    by_cases e : sameG x q.1
    · rw [if_pos e] at h; injection h with h; injection h with h1 h2; subst h1 h2; exact ⟨0, q, rfl, rfl, e, rfl⟩
    · rw [if_neg e] at h
      obtain ⟨m, q', h1, h2, h3, h4⟩ := ih h
      exact ⟨m + 1, q', by omega, by simpa using h2, h3, h4⟩
theorem seekG_none {x : Gu} : ∀ {E : List (Gu × Nat)} {i : Nat}, seekG x E i = none → ∀ q ∈ E, ¬ sameG x q.1 := by
  intro E
  induction E with
  | nil => intro i _ q hq; cases hq
  | cons q E ih =>
    intro i h q' hq
    unfold seekG at h
    by_cases e : sameG x q.1
    · rw [if_pos e] at h; cases h
    · rw [if_neg e] at h
      rcases List.mem_cons.1 hq with rfl | hq
      · exact e
      · exact ih h q' hq
theorem find_askG (x : Gu) (W : World) (E : List (Gu × Nat)) : ∀ i, (Instr.findAsking 106 (nameV x) (mkG E) i).run Try.prog W = .ok (seekG x E i) W := by
  induction E with
  | nil => intro i; rfl
  | cons q E ih =>
    intro i
    simp only [mkG, List.map_cons, Instr.findAsking, Sem.run_bind, name_equal, Result.andThen_ok, seekG]
    by_cases e : sameG x q.1
    · rw [if_pos e, decide_eq_true e]; rfl
    · rw [if_neg e, decide_eq_false e]; exact ih _
theorem now_noneG (x : Gu) (fs : Array Field) (q : Gu × Nat) (E : List (Gu × Nat)) : Instr.findNow (.struct fs) (nameV x) (mkG (q :: E)) 0 = none := by
  simp [mkG, Instr.findNow, Instr.sameNow]
theorem find_keyG (x : Gu) (W : World) (E : List (Gu × Nat)) : (Instr.findKey 106 (nameV x) (mkG E)).run Try.prog W = .ok (seekG x E 0) W := by
  unfold Instr.findKey
  simp only [Sem.run_bind, run_underlying Try.underlying106, Result.andThen_ok]
  match E with
  | [] => rfl
  | q :: E =>
    rw [now_noneG]
    exact find_askG x W (q :: E) 0
theorem check_name (b : Bool) (v m : Int) (W : World) : (Instr.checkKey b 10000 106 (.agg #[.int .i64 v, .int .i64 m])).run Try.prog W = .ok () W := by kernel_rfl
theorem check_nameV (b : Bool) (x : Gu) (W : World) : (Instr.checkKey b 10000 106 (nameV x)).run Try.prog W = .ok () W := check_name b _ _ W
theorem stays_name (x : Gu) (W : World) : (Instr.keyThatStays (nameV x) (nameV x)).run Try.prog W = .ok (nameV x) W := by
  unfold nameV
  simp [Instr.keyThatStays, Instr.sameBits]
theorem mapG_type : Try.prog.underlying 103 = some (.map 106 59) := by kernel_rfl
structure MapG (W : World) (M : Nat) (E : List (Gu × Nat)) (clock : Nat) : Prop where
  obj : W.heap[M]? = some (.map (mkG E).toArray clock)
  born : ∀ q ∈ E, q.2 < clock
  nodup : (E.map (·.2)).Nodup
  dist : E.Pairwise fun a b => ¬ sameG a.1 b.1
theorem MapG.lt {W : World} {M clock : Nat} {E : List (Gu × Nat)} (h : MapG W M E clock) : M < W.heap.size := by
  rcases Nat.lt_or_ge M W.heap.size with hl | hl
  · exact hl
  · have := h.obj; rw [Array.getElem?_eq_none hl] at this; cases this
theorem MapG.kept {W W' : World} {M clock : Nat} {E : List (Gu × Nat)} (h : MapG W M E clock) (hb : W'.heap[M]? = W.heap[M]?) : MapG W' M E clock := ⟨hb.trans h.obj, h.born, h.nodup, h.dist⟩
/- a new entry -/
theorem MapG.add {W : World} {M clock : Nat} {E : List (Gu × Nat)} {x : Gu} (h : MapG W M E clock) (hs : seekG x E 0 = none) :
    (Instr.mapUpdate 103 (.map (some M)) (nameV x) x.val).run Try.prog W = .ok () (setM W M (.map (mkG (E ++ [(x, clock)])).toArray (clock + 1))) ∧ MapG (setM W M (.map (mkG (E ++ [(x, clock)])).toArray (clock + 1))) M (E ++ [(x, clock)]) (clock + 1) := by
  have hp : (mkG E).toArray.push ⟨nameV x, x.val, clock⟩ = (mkG (E ++ [(x, clock)])).toArray := by simp [mkG]
  refine ⟨?_, setM_at _ h.lt, fun q hq => ?_, ?_, ?_⟩
  · simp [Instr.mapUpdate, run_underlying mapG_type, MapKept.run_getObj_map h.obj, check_nameV, find_keyG, hs, ← hp, MapKept.run_setObj_map _ h.obj, Result.andThen]
  · rcases List.mem_append.1 hq with hq | hq
    · have := h.born q hq; omega
    · simp at hq; subst hq; exact Nat.lt_succ_self _
  · rw [List.map_append, List.nodup_append]
    refine ⟨h.nodup, by simp, fun a ha b hb => ?_⟩
    simp at hb
    subst hb
    obtain ⟨q, hq, rfl⟩ := List.mem_map.1 ha
    have := h.born q hq
    omega
  · rw [List.pairwise_append]
    refine ⟨h.dist, by simp, fun a ha b hb => ?_⟩
    simp at hb
    subst hb
    exact fun e => seekG_none hs a ha (sameG_symm e)
/- an entry set anew -/
theorem MapG.put {W : World} {M clock i : Nat} {E : List (Gu × Nat)} {x y : Gu} {n : Nat} (h : MapG W M E clock) (hs : seekG x E 0 = some (i, y.val)) (hi : E[i]? = some (y, n)) (hxy : sameG x y) :
    (Instr.mapUpdate 103 (.map (some M)) (nameV x) x.val).run Try.prog W = .ok () (setM W M (.map (mkG (E.set i (x, n))).toArray clock)) ∧ MapG (setM W M (.map (mkG (E.set i (x, n))).toArray clock)) M (E.set i (x, n)) clock := by
  have hlt := (List.getElem?_eq_some_iff.1 hi).1
  have hge := (List.getElem?_eq_some_iff.1 hi).2
  have hg : (mkG E)[i]? = some ⟨nameV x, y.val, n⟩ := by unfold mkG; rw [List.getElem?_map, hi]; simp [nameV_same hxy]
  have hmod : (mkG E).modify i (fun e => { e with key := nameV x, val := x.val }) = mkG (E.set i (x, n)) := by
    unfold mkG
    apply List.ext_getElem?
    intro k
    rw [List.getElem?_modify, List.getElem?_map, List.getElem?_map, List.getElem?_set]
    by_cases e : i = k
    · subst e; simp [hlt, hge]
    · simp [e]
  refine ⟨?_, setM_at _ h.lt, fun q hq => ?_, ?_, ?_⟩
  · simp [Instr.mapUpdate, run_underlying mapG_type, MapKept.run_getObj_map h.obj, check_nameV, find_keyG, hs, hg, stays_name, hmod, MapKept.run_setObj_map _ h.obj, Result.andThen]
  · rcases List.mem_or_eq_of_mem_set hq with hq | rfl
    · exact h.born q hq
    · exact h.born (y, n) (List.mem_of_getElem? hi)
  · have e : (E.set i (x, n)).map (·.2) = E.map (·.2) := by
      rw [List.map_set]
      apply List.ext_getElem?
      intro k
      rw [List.getElem?_set]
      by_cases e : i = k
      · subst e; simp [hlt, hge]
      · simp [e]
    rw [e]; exact h.nodup
  · rw [List.pairwise_iff_getElem]
    intro a b ha hb hab
    rw [List.length_set] at ha hb
    have hd := List.pairwise_iff_getElem.1 h.dist
    rw [List.getElem_set, List.getElem_set]
    by_cases e1 : i = a
    · subst e1
      rw [if_pos rfl, if_neg (by omega)]
      have := hd i b ha hb hab
      rw [hge] at this
      exact fun e => this (sameG_trans (sameG_symm hxy) e)
    · rw [if_neg e1]
      by_cases e2 : i = b
      · subst e2
        rw [if_pos rfl]
        have := hd a i ha hb hab
        rw [hge] at this
        exact fun e => this (sameG_trans e hxy)
      · rw [if_neg e2]; exact hd a b ha hb hab
/- an entry struck -/
theorem MapG.drop {W : World} {M clock i : Nat} {E : List (Gu × Nat)} {x : Gu} {v : Value} (h : MapG W M E clock) (hs : seekG x E 0 = some (i, v)) (ty : TypeId) :
    (Builtin.delete_ #[103, 106] ty #[.map (some M), nameV x]).run Try.prog W = .ok (.tuple #[]) (setM W M (.map (mkG (E.eraseIdx i)).toArray clock)) ∧ MapG (setM W M (.map (mkG (E.eraseIdx i)).toArray clock)) M (E.eraseIdx i) clock := by
  obtain ⟨m, q, e1, hi, _, _⟩ := seekG_some hs
  rw [Nat.zero_add] at e1
  subst e1
  have hlt := (List.getElem?_eq_some_iff.1 hi).1
  have her : (mkG E).eraseIdx i = mkG (E.eraseIdx i) := erase_map _ _ _
  refine ⟨?_, setM_at _ h.lt, fun q hq => h.born q (List.mem_of_mem_eraseIdx hq), ?_, h.dist.sublist (List.eraseIdx_sublist _ _)⟩
  · simp [Builtin.delete_, run_underlying mapG_type, MapKept.run_getObj_map h.obj, check_nameV, find_keyG, hs, her, MapKept.run_setObj_map _ h.obj, Result.andThen]
  · rw [← erase_map]; exact h.nodup.sublist (List.eraseIdx_sublist _ _)
theorem zero_guest (W : World) : (zeroValue 59).run Try.prog W = .ok (.agg #[.int .i64 0, .int .i64 0, .int .i64 0, .int .i64 0, .int .i64 0, .int .i64 0, .bool false]) W := by kernel_rfl
/- an entry looked up -/
theorem MapG.look {W : World} {M clock : Nat} {E : List (Gu × Nat)} (h : MapG W M E clock) (x : Gu) :
    (Instr.lookup 103 (.map (some M)) (nameV x) true).run Try.prog W = .ok (match seekG x E 0 with | some (_, v) => .tuple #[v, .bool true] | none => .tuple #[.agg #[.int .i64 0, .int .i64 0, .int .i64 0, .int .i64 0, .int .i64 0, .int .i64 0, .bool false], .bool false]) W := by
  cases hs : seekG x E 0 with
  | none => simp [Instr.lookup, run_underlying mapG_type, MapKept.run_getObj_map h.obj, check_nameV, find_keyG, hs, Result.andThen]
  | some p => simp [Instr.lookup, run_underlying mapG_type, MapKept.run_getObj_map h.obj, check_nameV, find_keyG, hs, Result.andThen]
def pickG : Option (Nat × Value) → Value
  | some (_, v) => v
  | none => Gu.zero.val
theorem MapG.get {W : World} {M clock : Nat} {E : List (Gu × Nat)} (h : MapG W M E clock) (x : Gu) :
    (Instr.lookup 103 (.map (some M)) (nameV x) false).run Try.prog W = .ok (pickG (seekG x E 0)) W := by
  cases hs : seekG x E 0 with
  | none => simp [pickG, Instr.lookup, run_underlying mapG_type, MapKept.run_getObj_map h.obj, check_nameV, find_keyG, hs, Result.andThen, Gu.zero, Gu.val]
  | some p => simp [pickG, Instr.lookup, run_underlying mapG_type, MapKept.run_getObj_map h.obj, check_nameV, find_keyG, hs, Result.andThen]
end Go.Proofs.Ytmkoppbbenombaa
