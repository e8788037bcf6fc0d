import Derived.Test.YtmkoppbbenombaaB1
import Derived.WideShapes
import Derived.ChangeArms
import Derived.OpenShut
import Derived.Test.YtmkoppbbenombaaB2
import Derived.Laws.StructEq
/- A struct that came in by value: its cells. -/
namespace Go.Proofs.Ytmkoppbbenombaa
open Go.RowKit Go.WideShapes Go.ChangeShapes

section
variable {H : Type} {enc : TypeId × Value → H} {P : Program} {w : World} {base : Nat} {sp : Nat → Bool} {held : Bool}
/- some reading of the cells of a field -/
def Reads (enc : TypeId × Value → H) (P : Program) (w : World) (base : Nat) (sp : Nat → Bool) (held : Bool) (t : TypeId) (cs : List Value) : Prop := ∃ n y, DataW.trod enc P w base sp held n t cs = some y
theorem struct_reads {t : TypeId} {fs : Array Field} {cs : List Value} (ht : P.underlying t = some (.struct fs)) (h : Reads enc P w base sp held t cs) :
    ∀ (i : Nat) (f : Field), fs[i]? = some f → Reads enc P w base sp held f.type ((cs.drop f.offset).take (P.cellsOf f.type)) := by
  obtain ⟨n, y, h⟩ := h
  obtain ⟨xs, m, _, _, _, hl, hf⟩ := DataW.trod_struct ht h
  intro i f hi
  have hlt : i < fs.size := (Array.getElem?_eq_some_iff.1 hi).1
  exact ⟨m, _, (hf i f hi).trans (List.getElem?_eq_getElem (by omega))⟩
theorem struct_open {r : Reach} {b0 : Nat} {t : TypeId} {fs : Array Field} {v : Value} {d : DataW H} {p : List MemPlace} (ht : P.underlying t = some (.struct fs)) (o : Value.okWide P w r b0 t v) (h : DataW.Trod enc P w base sp held t v d p) :
    ∃ cs : Array Value, v = .agg cs ∧ cs.size = P.cellsOf t ∧ ∀ (i : Nat) (f : Field), fs[i]? = some f → Reads enc P w base sp held f.type ((cs.toList.drop f.offset).take (P.cellsOf f.type)) := by
  obtain ⟨cs, rfl, hsz⟩ := okWide_struct ht o
  obtain ⟨n, hn⟩ := h
  exact ⟨cs, rfl, hsz, struct_reads ht ⟨n, _, hn⟩⟩
theorem take_one {cs : List Value} {off : Nat} {x : Value} (h : (cs.drop off).take 1 = [x]) : cs[off]? = some x := by
  have := congrArg (fun l : List Value => l[0]?) h
  simpa [List.getElem?_take, List.getElem?_drop] using this
theorem int_at {t : TypeId} {k : IntKind} {cs : List Value} {off : Nat} (ht : P.underlying t = some (.int k)) (hc : P.cellsOf t = 1) (h : Reads enc P w base sp held t ((cs.drop off).take (P.cellsOf t))) : ∃ a : Int, cs[off]? = some (.int k a) ∧ (Lit.int k a).wf = true := by
  obtain ⟨n, y, h⟩ := h
  rw [hc] at h
  obtain ⟨a, e, _, hw⟩ := DataW.trod_int ht h
  exact ⟨a, take_one e, hw⟩
theorem bool_at {t : TypeId} {cs : List Value} {off : Nat} (ht : P.underlying t = some .bool) (hc : P.cellsOf t = 1) (h : Reads enc P w base sp held t ((cs.drop off).take (P.cellsOf t))) : ∃ a : Bool, cs[off]? = some (.bool a) := by
  obtain ⟨n, y, h⟩ := h
  rw [hc] at h
  obtain ⟨a, e, _⟩ := DataW.trod_bool ht h
  exact ⟨a, take_one e⟩
theorem string_at {t : TypeId} {cs : List Value} {off : Nat} (ht : P.underlying t = some .string) (hc : P.cellsOf t = 1) (h : Reads enc P w base sp held t ((cs.drop off).take (P.cellsOf t))) : ∃ a : ByteArray, cs[off]? = some (.string a) ∧ a.size ≤ maxLen := by
  obtain ⟨n, y, h⟩ := h
  rw [hc] at h
  obtain ⟨a, e, _, hw⟩ := DataW.trod_string ht h
  exact ⟨a, take_one e, hw⟩
end
theorem arr4 {cs : Array Value} {a0 a1 a2 a3 : Value} (h : cs.size = 4) (e0 : cs.toList[0]? = some a0) (e1 : cs.toList[1]? = some a1) (e2 : cs.toList[2]? = some a2) (e3 : cs.toList[3]? = some a3) : cs = #[a0, a1, a2, a3] := by
  obtain ⟨l⟩ := cs
  match l, h with
  | [c0, c1, c2, c3], _ => simp at e0 e1 e2 e3; subst e0 e1 e2 e3; rfl
theorem arr5 {cs : Array Value} {a0 a1 a2 a3 a4 : Value} (h : cs.size = 5) (e0 : cs.toList[0]? = some a0) (e1 : cs.toList[1]? = some a1) (e2 : cs.toList[2]? = some a2) (e3 : cs.toList[3]? = some a3) (e4 : cs.toList[4]? = some a4) : cs = #[a0, a1, a2, a3, a4] := by
  obtain ⟨l⟩ := cs
  match l, h with
  | [c0, c1, c2, c3, c4], _ => simp at e0 e1 e2 e3 e4; subst e0 e1 e2 e3 e4; rfl
theorem arr7 {cs : Array Value} {a0 a1 a2 a3 a4 a5 a6 : Value} (h : cs.size = 7) (e0 : cs.toList[0]? = some a0) (e1 : cs.toList[1]? = some a1) (e2 : cs.toList[2]? = some a2) (e3 : cs.toList[3]? = some a3) (e4 : cs.toList[4]? = some a4) (e5 : cs.toList[5]? = some a5) (e6 : cs.toList[6]? = some a6) : cs = #[a0, a1, a2, a3, a4, a5, a6] := by
  obtain ⟨l⟩ := cs
  match l, h with
  | [c0, c1, c2, c3, c4, c5, c6], _ => simp at e0 e1 e2 e3 e4 e5 e6; subst e0 e1 e2 e3 e4 e5 e6; rfl
theorem cells_int : Try.prog.cellsOf 2 = 1 := by kernel_rfl
theorem cells_str : Try.prog.cellsOf 9 = 1 := by kernel_rfl
theorem cells_bool : Try.prog.cellsOf 4 = 1 := by kernel_rfl
end Go.Proofs.Ytmkoppbbenombaa

/- Routes: the value, when one is right, the model's and the program's tests. -/
namespace Go.Proofs.Ytmkoppbbenombaa
open Go.RowKit

structure Rt where
  kind : Int
  vni : Int
  mac : Int
  ip : Int
  org : Int
  seq : Int
  st : Bool
def Rt.cells (r : Rt) : Array Value := #[.int .i64 r.kind, .int .i64 r.vni, .int .i64 r.mac, .int .i64 r.ip, .int .i64 r.org, .int .i64 r.seq, .bool r.st]
def rtV (k v m i o s : Int) (t : Bool) : Value := .agg #[.int .i64 k, .int .i64 v, .int .i64 m, .int .i64 i, .int .i64 o, .int .i64 s, .bool t]
def Rt.val (r : Rt) : Value := rtV r.kind r.vni r.mac r.ip r.org r.seq r.st

def isHouse (n : Int) : Bool := inR n 1 4
def isTime (n : Int) : Bool := inR n 0 1000000
def macRight (m i s : Int) : Bool := ((isMac m && !isGroup m) && isIp i) && isTime s
def roomRight (m i s : Int) (t : Bool) : Bool := ((decide (m = 0) && decide (i = 0)) && decide (s = 0)) && !t
def rtRight (k v m i o s : Int) (t : Bool) : Bool := (isVni v && isHouse o) && (if k = 2 then macRight m i s else if k = 3 then roomRight m i s t else false)
theorem rtRight_wrong (k v m i o s : Int) (t : Bool) (h : (isVni v && isHouse o) = false) : rtRight k v m i o s t = false := by rw [rtRight, h]; rfl
theorem rtRight_mac (v m i o s : Int) (t : Bool) (h : (isVni v && isHouse o) = true) : rtRight 2 v m i o s t = macRight m i s := by rw [rtRight, h]; rfl
theorem rtRight_room (v m i o s : Int) (t : Bool) (h : (isVni v && isHouse o) = true) : rtRight 3 v m i o s t = roomRight m i s t := by rw [rtRight, h]; rfl
theorem rtRight_none (k v m i o s : Int) (t : Bool) (h : (isVni v && isHouse o) = true) (h2 : ¬ k = 2) (h3 : ¬ k = 3) : rtRight k v m i o s t = false := by rw [rtRight, h, if_neg h2, if_neg h3]; rfl

theorem implTime_any (n : Int) (w : World) : Calls Try.prog 104 #[.int .i64 n] w fun e w' => e = .returned (.bool (isTime n)) ∧ w = w' := by
  by_cases h1 : 0 ≤ n
  · have HR : Hid (isTime n = decide (n ≤ 1000000)) := Lib.hid (by rw [isTime, inR, decide_eq_true h1]; rfl)
    go_enter Try.func104, Try.ntmps104
    go_wp2
    go_ret
    exact ⟨bool_ret HR.out.symm, rfl⟩
  · have HR : Hid (isTime n = false) := Lib.hid (by rw [isTime, inR, decide_eq_false h1]; rfl)
    go_enter Try.func104, Try.ntmps104
    go_wp2
    go_ret
    exact ⟨bool_ret HR.out.symm, rfl⟩
theorem implHouse_any (n : Int) (w : World) : Calls Try.prog 130 #[.int .i64 n] w fun e w' => e = .returned (.bool (isHouse n)) ∧ w = w' := by
  by_cases h1 : 1 ≤ n
  · have HR : Hid (isHouse n = decide (n ≤ 4)) := Lib.hid (by rw [isHouse, inR, decide_eq_true h1]; rfl)
    go_enter Try.func130, Try.ntmps130
    go_wp2
    go_ret
    exact ⟨bool_ret HR.out.symm, rfl⟩
  · have HR : Hid (isHouse n = false) := Lib.hid (by rw [isHouse, inR, decide_eq_false h1]; rfl)
    go_enter Try.func130, Try.ntmps130
    go_wp2
    go_ret
    exact ⟨bool_ret HR.out.symm, rfl⟩
theorem implSingle_any (n : Int) (w : World) : Calls Try.prog 124 #[.int .i64 n] w fun e w' => e = .returned (.bool (isMac n && !isGroup n)) ∧ Below w.heap.size w w' := by
  cases h1 : isMac n
  · go_enter Try.func124, Try.ntmps124
    go_wp2_with (go_at_call 145; refine (implMac_any _ _).mono ?_; rintro e w' ⟨rfl, rfl⟩)
    go_ret
    exact ⟨rfl, Below.refl _ _⟩
  · go_enter Try.func124, Try.ntmps124
    go_wp2_with (first | (go_at_call 145; refine (implMac_any _ _).mono ?_; rintro e w' ⟨rfl, rfl⟩) | (go_at_call 146; refine (implIsGroup_any _ _).mono ?_; rintro e w1 ⟨rfl, hb1⟩))
    go_ret
    exact ⟨rfl, hb1⟩
end Go.Proofs.Ytmkoppbbenombaa

/- RouteRight, of the model and of the program; two routes held equal. -/
namespace Go.Proofs.Ytmkoppbbenombaa
open Go.RowKit

theorem specGroup_b (n : Int) (w : World) : Calls Try.prog 109 #[.int .i64 n] w fun e w' => e = .returned (.bool (isGroup n)) ∧ w = w' := specIsGroup_any n w
/- the ways through RouteRight -/
inductive RtWay (k v m i o s : Int) (t : Bool) : Prop
  | vni (h1 : isVni v = false) (hr : Hid (rtRight k v m i o s t = false))
  | house (h1 : isVni v = true) (h2 : isHouse o = false) (hr : Hid (rtRight k v m i o s t = false))
  | kind (h1 : isVni v = true) (h2 : isHouse o = true) (h3 : ¬ k = 2) (h4 : ¬ k = 3) (hr : Hid (rtRight k v m i o s t = false))
  | mac (h1 : isVni v = true) (h2 : isHouse o = true) (h3 : k = 2) (h4 : isMac m = false) (hr : Hid (rtRight k v m i o s t = false))
  | group (h1 : isVni v = true) (h2 : isHouse o = true) (h3 : k = 2) (h4 : isMac m = true) (h5 : isGroup m = true) (hr : Hid (rtRight k v m i o s t = false))
  | ip (h1 : isVni v = true) (h2 : isHouse o = true) (h3 : k = 2) (h4 : isMac m = true) (h5 : isGroup m = false) (h6 : isIp i = false) (hr : Hid (rtRight k v m i o s t = false))
  | time (h1 : isVni v = true) (h2 : isHouse o = true) (h3 : k = 2) (h4 : isMac m = true) (h5 : isGroup m = false) (h6 : isIp i = true) (hr : Hid (rtRight k v m i o s t = isTime s))
  | rmac (h1 : isVni v = true) (h2 : isHouse o = true) (h3 : k = 3) (h4 : ¬ m = 0) (hr : Hid (rtRight k v m i o s t = false))
  | rip (h1 : isVni v = true) (h2 : isHouse o = true) (h3 : k = 3) (h4 : m = 0) (h5 : ¬ i = 0) (hr : Hid (rtRight k v m i o s t = false))
  | rseq (h1 : isVni v = true) (h2 : isHouse o = true) (h3 : k = 3) (h4 : m = 0) (h5 : i = 0) (h6 : ¬ s = 0) (hr : Hid (rtRight k v m i o s t = false))
  | rst (h1 : isVni v = true) (h2 : isHouse o = true) (h3 : k = 3) (h4 : m = 0) (h5 : i = 0) (h6 : s = 0) (hr : Hid (rtRight k v m i o s t = !t))
theorem rt_way (k v m i o s : Int) (t : Bool) : RtWay k v m i o s t := by
  cases h1 : isVni v
  · exact .vni h1 (Lib.hid (by rw [rtRight, h1]; rfl))
  cases h2 : isHouse o
  · exact .house h1 h2 (Lib.hid (by rw [rtRight, h1, h2]; rfl))
  by_cases h3 : k = 2
  · have e : rtRight k v m i o s t = macRight m i s := by rw [rtRight, h1, h2, if_pos h3]; rfl
    cases h4 : isMac m
    · exact .mac h1 h2 h3 h4 (Lib.hid (by rw [e, macRight, h4]; rfl))
    cases h5 : isGroup m
    · cases h6 : isIp i
      · exact .ip h1 h2 h3 h4 h5 h6 (Lib.hid (by rw [e, macRight, h4, h5, h6]; rfl))
      · exact .time h1 h2 h3 h4 h5 h6 (Lib.hid (by rw [e, macRight, h4, h5, h6]; rfl))
    · exact .group h1 h2 h3 h4 h5 (Lib.hid (by rw [e, macRight, h4, h5]; rfl))
  by_cases h4 : k = 3
  · have e : rtRight k v m i o s t = roomRight m i s t := by rw [rtRight, h1, h2, if_neg h3, if_pos h4]; rfl
    by_cases h5 : m = 0
    · by_cases h6 : i = 0
      · by_cases h7 : s = 0
        · exact .rst h1 h2 h4 h5 h6 h7 (Lib.hid (by rw [e, roomRight, decide_eq_true h5, decide_eq_true h6, decide_eq_true h7]; rfl))
        · exact .rseq h1 h2 h4 h5 h6 h7 (Lib.hid (by rw [e, roomRight, decide_eq_true h5, decide_eq_true h6, decide_eq_false h7]; rfl))
      · exact .rip h1 h2 h4 h5 h6 (Lib.hid (by rw [e, roomRight, decide_eq_true h5, decide_eq_false h6]; rfl))
    · exact .rmac h1 h2 h4 h5 (Lib.hid (by rw [e, roomRight, decide_eq_false h5]; rfl))
  · exact .kind h1 h2 h3 h4 (Lib.hid (by rw [rtRight, h1, h2, if_neg h3, if_neg h4]; rfl))

set_option maxHeartbeats 1000000 in
theorem specRouteRight_any (k v m i o s : Int) (t : Bool) (w : World) :
    Calls Try.prog 63 #[rtV k v m i o s t] w fun e w' => e = .returned (.bool (rtRight k v m i o s t)) ∧ Below w.heap.size w w' := by
  have hw := rt_way k v m i o s t
  unfold rtV
  rcases hw with ⟨h1, hr⟩ | ⟨h1, h2, hr⟩ | ⟨h1, h2, h3, h4, hr⟩ | ⟨h1, h2, h3, h4, hr⟩ | ⟨h1, h2, h3, h4, h5, hr⟩ | ⟨h1, h2, h3, h4, h5, h6, hr⟩ | ⟨h1, h2, h3, h4, h5, h6, hr⟩ | ⟨h1, h2, h3, h4, hr⟩ | ⟨h1, h2, h3, h4, h5, hr⟩ | ⟨h1, h2, h3, h4, h5, h6, hr⟩ | ⟨h1, h2, h3, h4, h5, h6, hr⟩
  all_goals
    try unfold isHouse at h2
    try unfold isTime at hr
    go_enter Try.func63, Try.ntmps63
    go_wp2_with (first | (go_at_call 83; refine (specVni_any _ _).mono ?_; rintro e w' ⟨rfl, rfl⟩) | (go_at_call 107; refine (specIs_any _ _ _ _).mono ?_; rintro e w' ⟨rfl, rfl⟩) | (go_at_call 108; refine (specMac_any _ _).mono ?_; rintro e w' ⟨rfl, rfl⟩) | (go_at_call 109; refine (specGroup_b _ _).mono ?_; rintro e w' ⟨rfl, rfl⟩) | (go_at_call 110; refine (specIp_any _ _).mono ?_; rintro e w' ⟨rfl, rfl⟩))
    go_ret
    refine ⟨bool_ret hr.out.symm, ?_⟩
    go_grown
end Go.Proofs.Ytmkoppbbenombaa

/- The program's RouteRight; two routes held equal. -/
namespace Go.Proofs.Ytmkoppbbenombaa
open Go.RowKit

theorem rt_stood : Try.prog.stoodInHeld 35 = false := by kernel_rfl
theorem rt_equal (k v m i o s k' v' m' i' o' s' : Int) (t t' : Bool) (w : World) :
    (Op.equalIn 10000 35 (.agg #[.int .i64 k, .int .i64 v, .int .i64 m, .int .i64 i, .int .i64 o, .int .i64 s, .bool t]) (.agg #[.int .i64 k', .int .i64 v', .int .i64 m', .int .i64 i', .int .i64 o', .int .i64 s', .bool t'])).run Try.prog w =
      .ok (decide (k = k' ∧ v = v' ∧ m = m' ∧ i = i' ∧ o = o' ∧ s = s' ∧ t = t')) w := by
  have hf : Try.prog.underlying 35 = some (.struct (Try.prog.fieldsOf 35)) := by unfold Program.fieldsOf; rw [Try.underlying35]
  rw [run_equalIn_struct w 9999 35 _ _ hf rt_stood]
  simp only [Program.fieldsOf, Try.underlying35, Op.eqFields, Sem.run_bind, Sem.run_ite, part, isAgg, run_underlying Try.underlying2, run_underlying Try.underlying4]
  by_cases h1 : k = k'
  by_cases h2 : v = v'
  by_cases h3 : m = m'
  by_cases h4 : i = i'
  by_cases h5 : o = o'
  by_cases h6 : s = s'
  all_goals simp [*, run_equalIn_int w _ 2 .i64 .i64 _ _ Try.underlying2, run_equalIn_bool w _ 4 _ _ Try.underlying4]
  by_cases h7 : t = t' <;> simp [h7]

/- the ways through the program's RouteRight -/
inductive RtWayI (k v m i o s : Int) (t : Bool) : Prop
  | vni (h1 : isVni v = false) (hr : Hid (rtRight k v m i o s t = false))
  | house (h1 : isVni v = true) (h2 : isHouse o = false) (hr : Hid (rtRight k v m i o s t = false))
  | kind (h1 : isVni v = true) (h2 : isHouse o = true) (h3 : ¬ k = 2) (h4 : ¬ k = 3) (hr : Hid (rtRight k v m i o s t = false))
  | single (h1 : isVni v = true) (h2 : isHouse o = true) (h3 : k = 2) (h4 : (isMac m && !isGroup m) = false) (hr : Hid (rtRight k v m i o s t = false))
  | ip (h1 : isVni v = true) (h2 : isHouse o = true) (h3 : k = 2) (h4 : (isMac m && !isGroup m) = true) (h6 : isIp i = false) (hr : Hid (rtRight k v m i o s t = false))
  | time (h1 : isVni v = true) (h2 : isHouse o = true) (h3 : k = 2) (h4 : (isMac m && !isGroup m) = true) (h6 : isIp i = true) (hr : Hid (rtRight k v m i o s t = isTime s))
  | room (h1 : isVni v = true) (h2 : isHouse o = true) (h3 : k = 3) (hr : Hid (rtRight k v m i o s t = (decide (m = 0) && (decide (i = 0) && (decide (s = 0) && !t)))))
theorem rt_wayI (k v m i o s : Int) (t : Bool) : RtWayI k v m i o s t := by
  cases h1 : isVni v
  · exact .vni h1 (Lib.hid (by rw [rtRight, h1]; rfl))
  cases h2 : isHouse o
  · exact .house h1 h2 (Lib.hid (by rw [rtRight, h1, h2]; rfl))
  by_cases h3 : k = 2
  · have e : rtRight k v m i o s t = macRight m i s := by rw [rtRight, h1, h2, if_pos h3]; rfl
    cases h4 : (isMac m && !isGroup m)
    · exact .single h1 h2 h3 h4 (Lib.hid (by rw [e, macRight, h4]; rfl))
    · cases h6 : isIp i
      · exact .ip h1 h2 h3 h4 h6 (Lib.hid (by rw [e, macRight, h4, h6]; rfl))
      · exact .time h1 h2 h3 h4 h6 (Lib.hid (by rw [e, macRight, h4, h6]; rfl))
  by_cases h4 : k = 3
  · have e : rtRight k v m i o s t = roomRight m i s t := by rw [rtRight, h1, h2, if_neg h3, if_pos h4]; rfl
    exact .room h1 h2 h4 (Lib.hid (by rw [e, roomRight, Bool.and_assoc, Bool.and_assoc]))
  · exact .kind h1 h2 h3 h4 (Lib.hid (by rw [rtRight, h1, h2, if_neg h3, if_neg h4]; rfl))

set_option maxHeartbeats 2000000 in
theorem implRouteRight_any (k v m i o s : Int) (t : Bool) (w : World) :
    Calls Try.prog 112 #[rtV k v m i o s t] w fun e w' => e = .returned (.bool (rtRight k v m i o s t)) ∧ Below w.heap.size w w' := by
  have hq := rt_equal 3 v m i o s 3 v 0 0 o 0 t false
  simp only [true_and] at hq
  have hw := rt_wayI k v m i o s t
  unfold rtV
  rcases hw with ⟨h1, hr⟩ | ⟨h1, h2, hr⟩ | ⟨h1, h2, h3, h4, hr⟩ | ⟨h1, h2, h3, h4, hr⟩ | ⟨h1, h2, h3, h4, h6, hr⟩ | ⟨h1, h2, h3, h4, h6, hr⟩ | ⟨h1, h2, h3, hr⟩
  all_goals
    go_enter Try.func112, Try.ntmps112
    go_wp2_with (first | (go_at_call 85; refine (implVni_any _ _).mono ?_; rintro e w' ⟨rfl, rfl⟩) | (go_at_call 130; refine (implHouse_any _ _).mono ?_; rintro e w' ⟨rfl, rfl⟩) | (go_at_call 104; refine (implTime_any _ _).mono ?_; rintro e w' ⟨rfl, rfl⟩) | (go_at_call 125; refine (implIp_any _ _).mono ?_; rintro e w' ⟨rfl, rfl⟩) | (go_at_call 124; refine (implSingle_any _ _).mono ?_; rintro e w1 ⟨rfl, hb1⟩; have hc : ∀ o, w1.cell? ⟨w.heap.size, o, none⟩ = _ := fun o => hb1.cell (p := ⟨w.heap.size, o, none⟩) (by simp); have HB : Hid (Below w.heap.size w w1) := Lib.hid (((Below.refl _ _).alloc (Nat.le_refl _) _).trans (hb1.mono (by simp))); clear hb1))
    go_ret
    refine ⟨bool_ret hr.out.symm, ?_⟩
    first | exact HB.out | go_grown
end Go.Proofs.Ytmkoppbbenombaa

/- A law's own route turned into the program's; two equal routes are found equal; KeyOf; Better. -/
namespace Go.Proofs.Ytmkoppbbenombaa
open Go.RowKit

set_option maxHeartbeats 1000000 in
theorem toRoute_any (k v m i o s : Int) (t : Bool) (w : World) :
    Calls Try.prog 21 #[rtV k v m i o s t] w fun e w' => e = .returned (rtV k v m i o s t) ∧ Below w.heap.size w w' := by
  unfold rtV
  go_enter Try.func21, Try.ntmps21
  go_wp2
  refine bodyPost_ret (v := rtV k v m i o s t) (by simp [results, Try.results21, go_sem, rtV]) rfl ⟨rfl, ?_⟩
  go_grown
set_option maxHeartbeats 1000000 in
theorem eqRoute_same (k v m i o s : Int) (t : Bool) (w : World) :
    Calls Try.prog 82 #[rtV k v m i o s t, rtV k v m i o s t] w fun e w' => e = .returned (.bool true) ∧ Below w.heap.size w w' := by
  unfold rtV
  go_enter Try.func82, Try.ntmps82
  go_wp2
  go_ret
  refine ⟨rfl, ?_⟩
  go_grown
set_option maxHeartbeats 1000000 in
theorem specKeyOf_any (k v m i o s : Int) (t : Bool) (w : World) :
    Calls Try.prog 120 #[rtV k v m i o s t] w fun e w' => e = .returned (rtV k v m 0 o 0 false) ∧ Below w.heap.size w w' := by
  unfold rtV
  go_enter Try.func120, Try.ntmps120
  go_wp2
  refine bodyPost_ret (v := rtV k v m 0 o 0 false) (by simp [results, Try.results120, go_sem, rtV]) rfl ⟨rfl, ?_⟩
  go_grown
set_option maxHeartbeats 1000000 in
theorem implKeyOf_any (k v m i o s : Int) (t : Bool) (w : World) :
    Calls Try.prog 115 #[rtV k v m i o s t] w fun e w' => e = .returned (rtV k v m 0 o 0 false) ∧ Below w.heap.size w w' := by
  unfold rtV
  go_enter Try.func115, Try.ntmps115
  go_wp2
  refine bodyPost_ret (v := rtV k v m 0 o 0 false) (by simp [results, Try.results115, go_sem, rtV]) rfl ⟨rfl, ?_⟩
  go_grown
end Go.Proofs.Ytmkoppbbenombaa

/- Better: of the model. -/
namespace Go.Proofs.Ytmkoppbbenombaa
open Go.RowKit

def Rt.right (r : Rt) : Bool := rtRight r.kind r.vni r.mac r.ip r.org r.seq r.st
def rank (a b : Rt) : Bool := if a.st = b.st then (if a.seq = b.seq then decide (a.org < b.org) else decide (b.seq < a.seq)) else a.st
def betterB (a b : Rt) : Bool := a.right && (b.right && (decide (a.kind = 2) && (decide (b.kind = 2) && (decide (a.vni = b.vni) && (decide (a.mac = b.mac) && rank a b)))))
theorem rank_st {a b : Rt} (h : ¬ a.st = b.st) : rank a b = a.st := if_neg h
theorem rank_seq {a b : Rt} (h : a.st = b.st) (h2 : ¬ a.seq = b.seq) : rank a b = decide (b.seq < a.seq) := by rw [rank, if_pos h, if_neg h2]
theorem rank_org {a b : Rt} (h : a.st = b.st) (h2 : a.seq = b.seq) : rank a b = decide (a.org < b.org) := by rw [rank, if_pos h, if_pos h2]

theorem specRight_any (r : Rt) (w : World) : Calls Try.prog 63 #[r.val] w fun e w' => e = .returned (.bool r.right) ∧ Below w.heap.size w w' := specRouteRight_any _ _ _ _ _ _ _ w
theorem implRight_any (r : Rt) (w : World) : Calls Try.prog 112 #[r.val] w fun e w' => e = .returned (.bool r.right) ∧ Below w.heap.size w w' := implRouteRight_any _ _ _ _ _ _ _ w

/- the ways through Better -/
inductive BtWay (a b : Rt) (ra rb r q : Bool) : Prop
  | ra (h1 : ra = false) (hr : Hid (r = false))
  | rb (h1 : ra = true) (h2 : rb = false) (hr : Hid (r = false))
  | ka (h1 : ra = true) (h2 : rb = true) (h3 : ¬ a.kind = 2) (hr : Hid (r = false))
  | kb (h1 : ra = true) (h2 : rb = true) (h3 : a.kind = 2) (h4 : ¬ b.kind = 2) (hr : Hid (r = false))
  | vni (h1 : ra = true) (h2 : rb = true) (h3 : a.kind = 2) (h4 : b.kind = 2) (h5 : ¬ a.vni = b.vni) (hr : Hid (r = false))
  | mac (h1 : ra = true) (h2 : rb = true) (h3 : a.kind = 2) (h4 : b.kind = 2) (h5 : a.vni = b.vni) (h6 : ¬ a.mac = b.mac) (hr : Hid (r = false))
  | rank (h1 : ra = true) (h2 : rb = true) (h3 : a.kind = 2) (h4 : b.kind = 2) (h5 : a.vni = b.vni) (h6 : a.mac = b.mac) (hr : Hid (r = q))
theorem bt_way (a b : Rt) : BtWay a b a.right b.right (betterB a b) (rank a b) := by
  have e : betterB a b = (a.right && (b.right && (decide (a.kind = 2) && (decide (b.kind = 2) && (decide (a.vni = b.vni) && (decide (a.mac = b.mac) && rank a b)))))) := rfl
  generalize betterB a b = r at *
  generalize rank a b = q at *
  generalize a.right = ra at *
  generalize b.right = rb at *
  cases ra
  · exact .ra rfl (Lib.hid e)
  cases rb
  · exact .rb rfl rfl (Lib.hid e)
  by_cases h3 : a.kind = 2
  case neg => exact .ka rfl rfl h3 (Lib.hid (by rw [e, decide_eq_false h3]; rfl))
  by_cases h4 : b.kind = 2
  case neg => exact .kb rfl rfl h3 h4 (Lib.hid (by rw [e, decide_eq_true h3, decide_eq_false h4]; rfl))
  by_cases h5 : a.vni = b.vni
  case neg => exact .vni rfl rfl h3 h4 h5 (Lib.hid (by rw [e, decide_eq_true h3, decide_eq_true h4, decide_eq_false h5]; rfl))
  by_cases h6 : a.mac = b.mac
  case neg => exact .mac rfl rfl h3 h4 h5 h6 (Lib.hid (by rw [e, decide_eq_true h3, decide_eq_true h4, decide_eq_true h5, decide_eq_false h6]; rfl))
  exact .rank rfl rfl h3 h4 h5 h6 (Lib.hid (by rw [e, decide_eq_true h3, decide_eq_true h4, decide_eq_true h5, decide_eq_true h6]; rfl))

end Go.Proofs.Ytmkoppbbenombaa
