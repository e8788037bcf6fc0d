/- A map of held routes by slot: its entries, one by one. -/
import Derived.Test.YthdldanfmdnlfaaHpM
import Derived.Test.YthdldanfmdnlfaaB3
import Derived.Laws.AppendOwn
import Derived.MapKept
import Derived.WideKeyEntry
namespace Go.Proofs.Ythdldanfmdnlfaa
open Go.RowKit

def slotV (h : Hd) : Value := .agg #[.int .i64 h.p, .int .i64 h.r.kind, .int .i64 h.r.vni, .int .i64 h.r.mac, .int .i64 0, .int .i64 h.r.org, .int .i64 0, .bool false]
instance sameDec (a b : Hd) : Decidable (same a b) := by unfold same; infer_instance
theorem slotV_same {a b : Hd} (h : same a b) : slotV a = slotV b := by
  obtain ⟨h1, h2, h3, h4, h5⟩ := h
  unfold slotV
  rw [h1, h2, h3, h4, h5]
theorem rt_equalN (d : Nat) (k v m i o s k' v' m' i' o' s' : Int) (t t' : Bool) (w : World) :
    (Op.equalIn (d + 2) 47 (.agg #[.int .i64 k, .int .i64 v, .int .i64 m, .int .i64 i, .int .i64 o, .int .i64 s, .bool t]) (.agg #[.int .i64 k', .int .i64 v', .int .i64 m', .int .i64 i', .int .i64 o', .int .i64 s', .bool t'])).run Try.prog w =
      .ok (decide (k = k' ∧ v = v' ∧ m = m' ∧ i = i' ∧ o = o' ∧ s = s' ∧ t = t')) w := by
  have hf : Try.prog.underlying 47 = some (.struct (Try.prog.fieldsOf 47)) := by unfold Program.fieldsOf; rw [Try.underlying47]
  rw [run_equalIn_struct w (d + 1) 47 _ _ hf rt_stood]
  simp only [Program.fieldsOf, Try.underlying47, Op.eqFields, Sem.run_bind, Sem.run_ite, part, isAgg, run_underlying Try.underlying2, run_underlying Try.underlying4]
  by_cases h1 : k = k'
  by_cases h2 : v = v'
  by_cases h3 : m = m'
  by_cases h4 : i = i'
  by_cases h5 : o = o'
  by_cases h6 : s = s'
  all_goals simp [*, run_equalIn_int w _ 2 .i64 .i64 _ _ Try.underlying2, run_equalIn_bool w _ 4 _ _ Try.underlying4]
  by_cases h7 : t = t' <;> simp [h7]
/- the entries: what is held, and when it came -/
def mkE (E : List (Hd × Nat)) : List MapEntry := E.map fun q => ⟨slotV q.1, q.1.val, q.2⟩
def seekS (x : Hd) : List (Hd × Nat) → Nat → Option (Nat × Value)
  | [], _ => none
  | q :: E, i => if same x q.1 then some (i, q.1.val) else seekS x E (i + 1)
theorem seekS_some {x : Hd} : ∀ {E : List (Hd × Nat)} {i j : Nat} {v : Value}, seekS x E i = some (j, v) → ∃ m q, j = i + m ∧ E[m]? = some q ∧ same x q.1 ∧ v = q.1.val := by
  intro E
  induction E with
  | nil => intro i j v h; cases h
  | cons q E ih =>
    intro i j v h
    unfold seekS at h
    by_cases e : same x q.1
    · rw [if_pos e] at h; injection h with h; injection h with h1 h2; subst h1 h2; exact ⟨0, q, rfl, rfl, e, rfl⟩
    · rw [if_neg e] at h
      obtain ⟨m, q', h1, h2, h3, h4⟩ := ih h
      exact ⟨m + 1, q', by omega, by simpa using h2, h3, h4⟩
theorem seekS_none {x : Hd} : ∀ {E : List (Hd × Nat)} {i : Nat}, seekS x E i = none → ∀ q ∈ E, ¬ same x q.1 := by
  intro E
  induction E with
  | nil => intro i _ q hq; cases hq
  | cons q E ih =>
    intro i h q' hq
    unfold seekS at h
    by_cases e : same x q.1
    · rw [if_pos e] at h; cases h
    · rw [if_neg e] at h
      rcases List.mem_cons.1 hq with rfl | hq
      · exact e
      · exact ih h q' hq
theorem now_noneS (x : Hd) (fs : Array Field) (q : Hd × Nat) (E : List (Hd × Nat)) : Instr.findNow (.struct fs) (slotV x) (mkE (q :: E)) 0 = none := by
  simp [mkE, Instr.findNow, Instr.sameNow]
theorem stays_slot (x : Hd) (W : World) : (Instr.keyThatStays (slotV x) (slotV x)).run Try.prog W = .ok (slotV x) W := by
  unfold slotV
  simp [Instr.keyThatStays, Instr.sameBits]
abbrev setM (W : World) (M : Nat) (o : Obj) : World := { W with heap := W.heap.setIfInBounds M o }
structure MapS (W : World) (M : Nat) (E : List (Hd × Nat)) (clock : Nat) : Prop where
  obj : W.heap[M]? = some (.map (mkE E).toArray clock)
  born : ∀ q ∈ E, q.2 < clock
  nodup : (E.map (·.2)).Nodup
  dist : E.Pairwise fun a b => ¬ same a.1 b.1
theorem MapS.lt {W : World} {M clock : Nat} {E : List (Hd × Nat)} (h : MapS W M E clock) : M < W.heap.size := by
  rcases Nat.lt_or_ge M W.heap.size with hl | hl
  · exact hl
  · have := h.obj; rw [Array.getElem?_eq_none hl] at this; cases this
theorem MapS.kept {W W' : World} {M clock : Nat} {E : List (Hd × Nat)} (h : MapS W M E clock) (hb : W'.heap[M]? = W.heap[M]?) : MapS W' M E clock := ⟨hb.trans h.obj, h.born, h.nodup, h.dist⟩
theorem setM_at {W : World} {M : Nat} (o : Obj) (h : M < W.heap.size) : (setM W M o).heap[M]? = some o := by simp [h]
/- a new entry -/
/- an entry set anew -/
theorem erase_map {α β : Type} (f : α → β) : ∀ (l : List α) (i : Nat), (l.map f).eraseIdx i = (l.eraseIdx i).map f := by
  intro l
  induction l with
  | nil => intro i; simp
  | cons x l ih =>
    intro i
    cases i with
    | zero => rfl
    | succ i => simp [List.eraseIdx_cons_succ, ih]
/- an entry struck -/
/- an entry looked up -/
end Go.Proofs.Ythdldanfmdnlfaa
