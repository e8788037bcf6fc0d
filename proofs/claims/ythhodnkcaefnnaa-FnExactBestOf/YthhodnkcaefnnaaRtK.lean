/- A map of slices of routes, keyed by routes, that a call makes and fills: its entries, its rows. -/
import Derived.Test.YthhodnkcaefnnaaRtI
import Derived.Test.YthhodnkcaefnnaaRtM
import Derived.Laws.AppendOwn
import Derived.MapKept
import Derived.WideKeyEntry
namespace Go.Proofs.Ythhodnkcaefnnaa
open Go.RowKit

theorem rt_ext (a b : Rt) : (a.kind = b.kind ∧ a.vni = b.vni ∧ a.mac = b.mac ∧ a.ip = b.ip ∧ a.org = b.org ∧ a.seq = b.seq ∧ a.st = b.st) ↔ a = b := by
  constructor
  · rintro ⟨h1, h2, h3, h4, h5, h6, h7⟩
    cases a; cases b; simp_all
  · rintro rfl; exact ⟨rfl, rfl, rfl, rfl, rfl, rfl, rfl⟩
instance rtDec (a b : Rt) : Decidable (a = b) := decidable_of_iff _ (rt_ext a b)
/- the entries, in the order in which they came -/
def mkEs : Nat → List (Rt × Value) → List MapEntry
  | _, [] => []
  | n, (k, v) :: X => ⟨k.val, v, n⟩ :: mkEs (n + 1) X
def seek (k : Rt) : List (Rt × Value) → Nat → Option (Nat × Value)
  | [], _ => none
  | (k', v) :: X, i => if k = k' then some (i, v) else seek k X (i + 1)
theorem mkEs_len (X : List (Rt × Value)) : ∀ n, (mkEs n X).length = X.length := by
  induction X with
  | nil => intro n; rfl
  | cons p X ih => intro n; simp [mkEs, ih]
theorem mkEs_get (X : List (Rt × Value)) : ∀ n i : Nat, (mkEs n X)[i]? = X[i]?.map fun p => (⟨p.1.val, p.2, n + i⟩ : MapEntry) := by
  induction X with
  | nil => intro n i; simp [mkEs]
  | cons p X ih =>
    intro n i
    cases i with
    | zero => simp [mkEs]
    | succ i => simp only [mkEs, List.getElem?_cons_succ, ih]; congr 1; funext q; congr 1; omega
theorem mkEs_push (X : List (Rt × Value)) (k : Rt) (v : Value) : ∀ n, mkEs n (X ++ [(k, v)]) = mkEs n X ++ [⟨k.val, v, n + X.length⟩] := by
  induction X with
  | nil => intro n; simp [mkEs]
  | cons p X ih => intro n; simp only [List.cons_append, mkEs, ih, List.length_cons]; congr 4; omega
theorem mkEs_set (X : List (Rt × Value)) (k : Rt) (v : Value) : ∀ n i v0, X[i]? = some (k, v0) → (mkEs n X).modify i (fun e => { e with val := v }) = mkEs n (X.set i (k, v)) := by
  induction X with
  | nil => intro n i v0 h; simp at h
  | cons p X ih =>
    intro n i v0 h
    cases i with
    | zero => simp at h; subst h; simp [mkEs]
    | succ i => simp at h; simp [mkEs, ih (n + 1) i v0 h]
theorem mkEs_same (X : List (Rt × Value)) (k : Rt) : ∀ n i v0, X[i]? = some (k, v0) → (mkEs n X).modify i (fun e => { e with key := k.val }) = mkEs n X := by
  induction X with
  | nil => intro n i v0 h; simp at h
  | cons p X ih =>
    intro n i v0 h
    cases i with
    | zero => simp at h; subst h; simp [mkEs]
    | succ i => simp at h; simp [mkEs, ih (n + 1) i v0 h]
theorem mkEs_born (X : List (Rt × Value)) : ∀ n i, i < X.length → (mkEs n X).findIdx? (fun e => ((e.born : Nat) : Int) == ((n + i : Nat) : Int)) = some i := by
  induction X with
  | nil => intro n i h; simp at h
  | cons p X ih =>
    intro n i h
    cases i with
    | zero => simp [mkEs, List.findIdx?_cons]
    | succ i =>
      have hne : (((n : Nat) : Int) == ((n + (i + 1) : Nat) : Int)) = false := by simp; omega
      have := ih (n + 1) i (by simpa using h)
      rw [show n + 1 + i = n + (i + 1) by omega] at this
      simp only [mkEs, List.findIdx?_cons, hne, this]; rfl
theorem seek_some {k : Rt} {X : List (Rt × Value)} : ∀ {i j : Nat} {v : Value}, seek k X i = some (j, v) → ∃ m, j = i + m ∧ X[m]? = some (k, v) := by
  induction X with
  | nil => intro i j v h; cases h
  | cons p X ih =>
    intro i j v h
    obtain ⟨k', v'⟩ := p
    unfold seek at h
    by_cases e : k = k'
    · rw [if_pos e] at h; injection h with h; injection h with h1 h2; subst e h1 h2; exact ⟨0, rfl, rfl⟩
    · rw [if_neg e] at h
      obtain ⟨m, h1, h2⟩ := ih h
      exact ⟨m + 1, by omega, by simpa using h2⟩
theorem seek_none {k : Rt} {X : List (Rt × Value)} : ∀ {i : Nat}, seek k X i = none → ∀ v, (k, v) ∉ X := by
  induction X with
  | nil => intro i _ v hv; cases hv
  | cons p X ih =>
    intro i h v hv
    obtain ⟨k', v'⟩ := p
    unfold seek at h
    by_cases e : k = k'
    · rw [if_pos e] at h; cases h
    · rw [if_neg e] at h
      rcases List.mem_cons.1 hv with h1 | h1
      · injection h1 with h1; exact e h1
      · exact ih h v h1
theorem rt_eq_run (a b : Rt) (W : World) : (Op.equal 25 a.val b.val).run Try.prog W = .ok (decide (a = b)) W := by
  rw [show Op.equal 25 a.val b.val = Op.equalIn 10000 25 a.val b.val from rfl]
  unfold Rt.val rtV
  rw [rt_equal]
  congr 1
  exact decide_eq_decide.2 (rt_ext a b)
theorem find_asking (k : Rt) (W : World) (X : List (Rt × Value)) : ∀ n i, (Instr.findAsking 25 k.val (mkEs n X) i).run Try.prog W = .ok (seek k X i) W := by
  induction X with
  | nil => intro n i; rfl
  | cons p X ih =>
    intro n i
    obtain ⟨k', v⟩ := p
    simp only [mkEs, Instr.findAsking, Sem.run_bind, rt_eq_run, Result.andThen_ok, seek]
    by_cases e : k = k'
    · rw [if_pos e, decide_eq_true e]; rfl
    · rw [if_neg e, decide_eq_false e]; exact ih _ _
theorem now_none (k : Rt) (fs : Array Field) (X : List (Rt × Value)) (p : Rt × Value) : Instr.findNow (.struct fs) k.val (mkEs 0 (p :: X)) 0 = none := by
  simp [mkEs, Instr.findNow, Instr.sameNow]
theorem find_key (k : Rt) (W : World) (X : List (Rt × Value)) : (Instr.findKey 25 k.val (mkEs 0 X)).run Try.prog W = .ok (seek k X 0) W := by
  unfold Instr.findKey
  simp only [Sem.run_bind, run_underlying Try.underlying25, Result.andThen_ok]
  match X with
  | [] => rfl
  | p :: X =>
    rw [now_none]
    exact find_asking k W (p :: X) 0 0
theorem check_key (b : Bool) (k v m i o s : Int) (t : Bool) (W : World) : (Instr.checkKey b 10000 25 (.agg #[.int .i64 k, .int .i64 v, .int .i64 m, .int .i64 i, .int .i64 o, .int .i64 s, .bool t])).run Try.prog W = .ok () W := by kernel_rfl
theorem check_rt (b : Bool) (k : Rt) (W : World) : (Instr.checkKey b 10000 25 k.val).run Try.prog W = .ok () W := check_key b _ _ _ _ _ _ _ W
theorem stays_rt (k : Rt) (W : World) : (Instr.keyThatStays k.val k.val).run Try.prog W = .ok k.val W := by
  unfold Rt.val rtV
  simp [Instr.keyThatStays, Instr.sameBits]
theorem zero_rts (W : World) : (zeroValue 35).run Try.prog W = .ok (.slice none 0 0) W := by kernel_rfl
theorem map_type : Try.prog.underlying 48 = some (.map 25 35) := by kernel_rfl

abbrev setB (W : World) (M : Nat) (o : Obj) : World := { W with heap := W.heap.setIfInBounds M o }
theorem entry_old {W : World} {M : Nat} {X : List (Rt × Value)} {k : Rt} {i : Nat} {v : Value} (h : W.heap[M]? = some (.map (mkEs 0 X).toArray X.length)) (hs : seek k X 0 = some (i, v)) :
    (Instr.mapEntry 48 (.map (some M)) k.val).run Try.prog W = .ok (.tuple #[v, .int .i64 i]) (setB W M (.map (mkEs 0 X).toArray X.length)) := by
  obtain ⟨m, e1, e2⟩ := seek_some hs
  rw [Nat.zero_add] at e1
  subst e1
  have hg : (mkEs 0 X)[i]? = some ⟨k.val, v, i⟩ := by rw [mkEs_get, e2]; simp
  have hm := mkEs_same X k 0 i v e2
  simp [Instr.mapEntry, run_underlying map_type, MapKept.run_getObj_map h, check_rt, find_key, hs, hg, stays_rt, hm, MapKept.run_setObj_map _ h, Result.andThen, goInt]
theorem entry_new {W : World} {M : Nat} {X : List (Rt × Value)} {k : Rt} (h : W.heap[M]? = some (.map (mkEs 0 X).toArray X.length)) (hs : seek k X 0 = none) :
    (Instr.mapEntry 48 (.map (some M)) k.val).run Try.prog W = .ok (.tuple #[.slice none 0 0, .int .i64 X.length]) (setB W M (.map (mkEs 0 (X ++ [(k, Value.slice none 0 0)])).toArray (X ++ [(k, Value.slice none 0 0)]).length)) := by
  have hp : (mkEs 0 X).toArray.push ⟨k.val, .slice none 0 0, X.length⟩ = (mkEs 0 (X ++ [(k, Value.slice none 0 0)])).toArray := by
    apply Array.ext'
    rw [mkEs_push]; simp
  simp [Instr.mapEntry, run_underlying map_type, MapKept.run_getObj_map h, check_rt, find_key, hs, ← hp, MapKept.run_setObj_map _ h, Result.andThen, goInt]
theorem entry_store {W : World} {M : Nat} {X : List (Rt × Value)} {k : Rt} {i : Nat} {v0 : Value} (h : W.heap[M]? = some (.map (mkEs 0 X).toArray X.length)) (hi : X[i]? = some (k, v0)) (v : Value) :
    (Instr.entryStore 48 (.map (some M)) (.int .i64 i) v).run Try.prog W = .ok () (setB W M (.map (mkEs 0 (X.set i (k, v))).toArray (X.set i (k, v)).length)) := by
  have hlt := (List.getElem?_eq_some_iff.1 hi).1
  have hidx : (mkEs 0 X).toArray.findIdx? (fun e => ((e.born : Nat) : Int) == ((i : Nat) : Int)) = some i := by
    rw [WideElems.findIdx_arr]
    have := mkEs_born X 0 i hlt
    rw [Nat.zero_add] at this
    exact this
  have hmod := mkEs_set X k v 0 i v0 hi
  simp [Instr.entryStore, MapKept.run_getObj_map h, asInt, asIntOf, hidx, hmod, MapKept.run_setObj_map _ h, Result.andThen]
theorem look_rt {W : World} {M : Nat} {X : List (Rt × Value)} (k : Rt) (h : W.heap[M]? = some (.map (mkEs 0 X).toArray X.length)) :
    (Instr.lookup 48 (.map (some M)) k.val false).run Try.prog W = .ok (match seek k X 0 with | some (_, v) => v | none => .slice none 0 0) W := by
  cases hs : seek k X 0 with
  | none => simp [Instr.lookup, run_underlying map_type, MapKept.run_getObj_map h, check_rt, find_key, hs, Result.andThen]
  | some p => simp [Instr.lookup, run_underlying map_type, MapKept.run_getObj_map h, check_rt, find_key, hs, Result.andThen]
end Go.Proofs.Ythhodnkcaefnnaa
