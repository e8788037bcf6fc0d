/- BestOf, of the program. -/
import Derived.Test.YthhodnkcaefnnaaRtV
import Derived.OwnWalk
namespace Go.Proofs.Ythhodnkcaefnnaa
open Go.RowKit

theorem wpList_append_src {P : Program} (w : World) {ops : Array Oper} {rest : List Oper} {o : Oper} {a : Act} {Q : Exit → Act → World → Prop} (hgd : o.guard = none) (s x : Operand) (t : TypeId)
    (ho : o.op = Op.call { callee := Callee.builtin Builtin.append, args := #[s, x], argTypes := #[t, t] })
    (base : Nat) (e : TypeId) (i : TypeInfo) (z : Value) (size bytes : Nat) (ht : P.underlying t = some (.slice e)) (hi : P.info? e = some i) (hz : i.zero = some z)
    (hsize : i.size = size) (hby : i.bytes = bytes) (hzs : z.cells.size = size) (hsz : 0 < size)
    (v : Value) (n : Nat) (xs : List Value) (hs : a.eval s = v) (hown : w.ownsRow base e size v n xs)
    (ao : Option Addr) (m c : Nat) (news : List Value) (hx : a.eval x = .slice ao m c) (hl : news.length = m * size) (hnone : ao = none → m = 0 ∧ c = 0) (hnews : ∀ ad, ao = some ad → ∀ j u, news[j]? = some u → w.cell? (ad.add j) = some u) (h1 : ∀ u ∈ news, u.oneCell' = true)
    (h63 : n + m ≤ maxLen) (hbytes : (n + m) * bytes ≤ 140737488355328) (hbase : base ≤ w.heap.size)
    (h : ∀ v' w', w'.ownsRow base e size v' (n + m) (xs ++ news) → w.grownBy w' v.ownBlock → wpList P ops Q rest (a.put o.dst v') w') :
    wpList P ops Q (o :: rest) a w := by
  cases ao with
  | some ad => exact wpList_append_own_at w hgd s x t ho base e i z size bytes ht hi hz hsize hby hzs hsz v n xs hs hown ad m c news hx hl (hnews ad rfl) h1 h63 hbytes hbase (fun v' w' a1 a2 _ _ => h v' w' a1 a2)
  | none =>
    obtain ⟨rfl, rfl⟩ := hnone rfl
    have hnews : news = [] := List.eq_nil_of_length_eq_zero (by simpa using hl)
    subst hnews
    refine wpList_plain hgd fun K hK' => ?_
    have hrun := run_append_owned_none (P := P) w base t o.type e i size ht hi _ n xs hown
    unfold Oper.wp
    simp [execOp, ho, resolve, invoke, builtin, hs, hx, hrun, Result.andThen]
    exact hK' _ _ (h v w (by simpa using hown) (World.grownBy.refl _ _))

/- the houses' lists, one behind the other -/
def keyOfG (v m : Int) (h : Int) : Rt := ⟨2, v, m, 0, h, 0, false⟩
def upTo (L : List Rt) (v m : Int) : Nat → List Rt
  | 0 => []
  | i + 1 => upTo L v m i ++ grp L (keyOfG v m ((i : Int) + 1))
theorem grp_house (L : List Rt) (v m h : Int) : grp L (keyOfG v m h) = ofHouse (guestQ v m L) h := by
  unfold grp ofHouse guestQ
  rw [List.filter_filter]
  congr 1
  funext r
  unfold hasR keyOfG Rt.key
  by_cases e1 : r.kind = 2 <;> by_cases e2 : r.vni = v <;> by_cases e3 : r.mac = m <;> by_cases e4 : r.org = h <;> simp [e1, e2, e3, e4]
theorem upTo_four (L : List Rt) (v m : Int) : upTo L v m 4 = byHouse (guestQ v m L) := by
  simp only [upTo, grp_house, List.nil_append]
  rw [byHouse, List.append_assoc, List.append_assoc]
  rfl
theorem upTo_len (L : List Rt) (v m : Int) : ∀ i, (upTo L v m i).length ≤ i * L.length := by
  intro i
  induction i with
  | zero => simp [upTo]
  | succ i ih =>
    rw [upTo, List.length_append, Nat.succ_mul]
    have := grp_len L (keyOfG v m ((i : Int) + 1))
    omega
theorem upTo_has (L : List Rt) (v m : Int) : ∀ r ∈ upTo L v m 4, hasR v m r = true := by
  intro r hr
  rw [upTo_four, mem_byHouse guest_org] at hr
  exact (List.mem_filter.1 hr).2
/- a row that is owned, read as a slice of routes -/
theorem owned_rts {W : World} {B : Nat} {t : TypeId} {v : Value} {l : List Rt} (h : W.ownsRow B t 7 v l.length (cellsL l)) : RtsAt W v l := by
  obtain ⟨hl, ⟨rfl, h0⟩ | ⟨g, cap, cur, rfl, hb, hh, hn, hm, hz, ht⟩⟩ := h
  · have e : l = [] := List.eq_nil_of_length_eq_zero h0
    subst e
    exact ⟨none, 0, rfl, fun h => absurd rfl h⟩
  · have ho : W.ownsRow B t 7 (.slice (some ⟨g, 0, none⟩) l.length cap) l.length (cellsL l) := ⟨hl, .inr ⟨g, cap, cur, rfl, hb, hh, hn, hm, hz, ht⟩⟩
    refine ⟨some ⟨g, 0, none⟩, cap, by simp, fun _ => ⟨g, 0, rfl, (ho.lt g rfl).2, fun i cs hi j u hj => ?_⟩⟩
    have hir : i < l.length := by have := (List.getElem?_eq_some_iff.1 hi).1; simpa using this
    have hcs : cs = (l[i]).cl := by rw [List.getElem?_map, List.getElem?_eq_getElem hir] at hi; simpa using hi.symm
    subst hcs
    have hj7 : j < 7 := by have := (List.getElem?_eq_some_iff.1 hj).1; simpa [Rt.cl] using this
    rw [Nat.zero_add, ho.cellAt (i * 7 + j) (by omega), ← hj]
    have key : ∀ (l : List Rt) (i : Nat) (hi : i < l.length), (cellsL l)[i * 7 + j]? = (l[i]).cl[j]? := by
      intro l
      induction l with
      | nil => intro i hi; simp at hi
      | cons r l ih =>
        intro i hi
        cases i with
        | zero =>
          rw [cellsL, List.flatMap_cons, List.getElem?_append_left (by simp [Rt.cl]; omega)]; simp
        | succ i =>
          rw [cellsL, List.flatMap_cons, List.getElem?_append_right (by simp [Rt.cl]; omega)]
          have e : (i + 1) * 7 + j - r.cl.length = i * 7 + j := by simp [Rt.cl]; omega
          rw [e]
          exact ih i (by simpa using hi)
    exact key l i hir
theorem cellsL_one (l : List Rt) : ∀ u ∈ cellsL l, u.oneCell' = true := by
  intro u hu
  obtain ⟨r, _, hr⟩ := List.mem_flatMap.1 hu
  exact cl_one r u hr
theorem cellsL_len (l : List Rt) : (cellsL l).length = l.length * 7 := by
  induction l with
  | nil => rfl
  | cons r l ih => rw [cellsL, List.flatMap_cons, List.length_append]; rw [cellsL] at ih; rw [ih]; simp [Rt.cl]; omega
theorem cellsL_app (a b : List Rt) : cellsL (a ++ b) = cellsL a ++ cellsL b := by simp [cellsL]
set_option maxHeartbeats 1000000 in
theorem keyAt_any (v m h : Int) (w : World) : Calls Try.prog 41 #[gnV v m, .int .i64 h] w fun e w' => e = .returned (keyOfG v m h).val ∧ Below w.heap.size w w' := by
  unfold gnV
  go_enter Try.func41, Try.ntmps41
  go_wp2
  refine bodyPost_ret (v := (keyOfG v m h).val) (by simp [results, Try.results41, go_sem, Rt.val, rtV, keyOfG]) rfl ⟨rfl, ?_⟩
  go_grown
/- what a look-up finds: the group's slice -/
theorem MapRt.look {W : World} {M B : Nat} {X : List (Rt × Value)} {L : List Rt} (h : MapRt W M B X L) (k : Rt) :
    ∃ ao c, (Instr.lookup 48 (.map (some M)) k.val false).run Try.prog W = .ok (.slice ao (grp L k).length c) W ∧ (ao = none → (grp L k).length = 0 ∧ c = 0) ∧ ∀ ad, ao = some ad → ∀ j u, (cellsL (grp L k))[j]? = some u → W.cell? (ad.add j) = some u := by
  have hl := look_rt k h.obj
  cases hs : seek k X 0 with
  | none =>
    rw [hs] at hl
    have e := grp_none h.all (seek_none hs)
    refine ⟨none, 0, by rw [e]; exact hl, fun _ => ⟨by rw [e]; rfl, rfl⟩, fun ad h => by cases h⟩
  | some p =>
    obtain ⟨i, v⟩ := p
    rw [hs] at hl
    obtain ⟨m, _, e2⟩ := seek_some hs
    have ho := h.rows m k v e2
    have ho' := ho
    obtain ⟨_, ⟨rfl, h0⟩ | ⟨g, cap, cur, rfl, _⟩⟩ := ho
    · refine ⟨none, 0, by rw [h0]; exact hl, fun _ => ⟨h0, rfl⟩, fun ad h => by cases h⟩
    · exact ⟨some ⟨g, 0, none⟩, cap, hl, (fun h => by cases h), fun ad e j u hj => by injection e with e; subst e; exact ho'.cells rfl j u hj⟩
end Go.Proofs.Ythhodnkcaefnnaa
