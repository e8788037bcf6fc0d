/- PipeHear: what it answers; cutting and appending as equations; a law's memory written. -/
import Derived.Test.YtfmhccmaeonbhaaPpW
import Derived.Deep.QuietTactic
import Derived.BigQuiet
namespace Go.Proofs.Ytfmhccmaeonbhaa
open Go.RowKit

/- behind the epochs: what is left to do -/
def hearB (e p b i : Int) (l : List ByteArray) (f : Bool) (xn xa : Int) (xt : ByteArray) : Po :=
  if b < xa ∧ xa ≤ b + l.length then (if xn = i + 1 then ⟨e, p, xa, xn, l.drop (xa - b).toNat, [xt], f, 0⟩ else ⟨e, p, xa, i, l.drop (xa - b).toNat, [], f, 0⟩)
  else (if xn = i + 1 then ⟨e, p, b, xn, l, [xt], f, 0⟩ else ⟨e, p, b, i, l, [], f, 0⟩)
def hearIn (e p b i : Int) (l : List ByteArray) (xe xc xn xa : Int) (xt : ByteArray) : Po :=
  if xe < p then ⟨e, p, b, i, l, [], false, 0⟩
  else if p < xe then (if xc = e then hearB e xe 0 0 [] true xn xa xt else ⟨e, xe, 0, 0, [], [], true, 0⟩)
  else (if xc = e then hearB e p b i l false xn xa xt else ⟨e, p, b, i, l, [], false, 0⟩)
def hearR (e p b i : Int) (l : List ByteArray) (xe xc xn xa : Int) (xt : ByteArray) : Po :=
  if ppRight e p b i l = true ∧ pkRight xe xc xn xa xt = true then hearIn e p b i l xe xc xn xa xt else poIll 1
theorem hearB_small (e p b i : Int) (l : List ByteArray) (f : Bool) (xn xa : Int) (xt : ByteArray) (h : l.length ≤ 60) : (hearB e p b i l f xn xa xt).l.length + (hearB e p b i l f xn xa xt).m.length ≤ 100 := by
  unfold hearB
  split <;> split <;> simp <;> omega
theorem hearR_small (e p b i : Int) (l : List ByteArray) (xe xc xn xa : Int) (xt : ByteArray) : (hearR e p b i l xe xc xn xa xt).l.length + (hearR e p b i l xe xc xn xa xt).m.length ≤ 100 := by
  unfold hearR
  split
  · rename_i h
    have hl := (ppRight_more h.1).2.2.1
    unfold hearIn
    split
    · simp; omega
    · split
      · split
        · exact hearB_small _ _ _ _ _ _ _ _ _ (by simp)
        · simp
      · split
        · exact hearB_small _ _ _ _ _ _ _ _ _ hl
        · simp; omega
  · simp [poIll]
section
variable {W cur : World} {L : List (Nat × TypeId × Array Value)} {R : List (Nat × Value × List ByteArray)}
theorem LawAt.set {q : Nat} {t : TypeId} {cs : Array Value} (h : LawAt W ((q, t, cs) :: L) R cur) (hq : W.heap.size ≤ q) (hne : ∀ x ∈ L, x.1 ≠ q) (ht : t ≠ 9) (i : Nat) (v : Value) : LawAt W ((q, t, cs.setIfInBounds i v) :: L) R (cur.setCell ⟨q, i, none⟩ v) := by
  refine ⟨h.bel.setCell hq v, fun x hx => ?_, fun x hx => ownsRow_setCell_other (h.row x hx) (fun e => blk_not_own h.b0 (h.row x hx) ht e.symm) v⟩
  rcases List.mem_cons.1 hx with rfl | hx
  · exact h.b0.set i v
  · exact (h.blk x (.tail _ hx)).far (hne x hx)
theorem LawAt.drewN (h : LawAt W L R cur) (n : Nat) : LawAt W L R (cur.drewN n) := ⟨below_drewN h.bel n, h.blk, h.row⟩
theorem LawAt.alloc (h : LawAt W L R cur) (o : Obj) : LawAt W L R (cur.alloc o) := h.kept ((Below.refl _ cur).alloc (Nat.le_refl _) o)
/- the result's block, written as a whole -/
theorem LawAt.last {b : Nat} {cs : Array Value} (h : LawAt W L R cur) (Z : Blk cur b 33 cs) (hb : W.heap.size ≤ b) (v0 v1 v2 v3 v4 v5 v6 v7 : Value) :
    Below W.heap.size W ((((((((cur.setCell ⟨b, 0, none⟩ v0).setCell ⟨b, 1, none⟩ v1).setCell ⟨b, 2, none⟩ v2).setCell ⟨b, 3, none⟩ v3).setCell ⟨b, 4, none⟩ v4).setCell ⟨b, 5, none⟩ v5).setCell ⟨b, 6, none⟩ v6).setCell ⟨b, 7, none⟩ v7) ∧
    ∀ q ∈ R, ((((((((cur.setCell ⟨b, 0, none⟩ v0).setCell ⟨b, 1, none⟩ v1).setCell ⟨b, 2, none⟩ v2).setCell ⟨b, 3, none⟩ v3).setCell ⟨b, 4, none⟩ v4).setCell ⟨b, 5, none⟩ v5).setCell ⟨b, 6, none⟩ v6).setCell ⟨b, 7, none⟩ v7).ownsRow q.1 9 1 q.2.1 q.2.2.length (strsV q.2.2) :=
  ⟨set8 h.bel hb _ _ _ _ _ _ _ _, fun q hq => own_set8 Z (h.row q hq) (by decide) _ _ _ _ _ _ _ _⟩
end
theorem cutL_run (a : Option Addr) (n cap k : Nat) (x : Int) (hx : x = (k : Int)) (hk : k ≤ n) (W : World) :
    (Instr.slice 29 (.slice a n cap) (some (.int .i64 x)) none none).run Try.prog W = .ok (sliced a k n cap 1) W := by
  subst hx
  rw [run_slice_l (P := Try.prog) W 29 a n cap under_strs .i64 k (by omega) (by omega), size_str]
  simp [Result.andThen]
theorem cutL_at {W : World} {a : Option Addr} {n cap : Nat} {l : List ByteArray} (h : StsAt W (.slice a n cap) l) (k : Nat) (hk : k ≤ l.length) (hn : n = l.length) : StsAt W (sliced a k n cap 1) (l.drop k) ∧ ∃ a' c', sliced a k n cap 1 = .slice a' (l.drop k).length c' := by
  subst hn
  obtain ⟨a', cap', e, h1, h2, h3, h4⟩ := h
  injection e with e1 e2 e3
  subst e1 e3
  unfold sliced
  refine ⟨⟨_, cap - k, by rw [List.length_drop], by rw [List.length_drop]; omega, by omega, fun hn => ?_, fun hne => ?_⟩, _, _, by rw [List.length_drop]⟩
  · by_cases e : cap = k
    · omega
    · rw [if_neg e] at hn
      have := h3 (by simpa using hn)
      omega
  · have hlt : k < l.length := by
      rcases Nat.lt_or_ge k l.length with h | h
      · exact h
      · exact absurd (List.drop_of_length_le h) hne
    obtain ⟨b, off, rfl, hb, hc⟩ := h4 (fun e => by rw [e] at hlt; simp at hlt)
    rw [if_neg (by omega)]
    refine ⟨b, off + k, ?_, hb, fun i hi => ?_⟩
    · simp only [Option.map_some, Nat.mul_one, Addr.add_lit]
    · rw [List.getElem_drop, Nat.add_assoc]
      exact hc (k + i) (by rw [List.length_drop] at hi; omega)
/- 'append([]string{}, x...)' as an equation -/
theorem run_append_strs (w : World) (B : Nat) (v : Value) (l0 l1 : List ByteArray) (hown : w.ownsRow B 9 1 v l0.length (strsV l0)) (ao : Option Addr) (c : Nat) (h : StsAt w (.slice ao l1.length c) l1) (h0 : l0.length ≤ 1100000) (h1 : l1.length ≤ 1100000) (hB : B ≤ w.heap.size) (ty : TypeId) :
    ∃ a' c' n' w', (Builtin.append_ #[29, 29] ty #[v, .slice ao l1.length c]).run Try.prog w = .ok (.slice a' n' c') w' ∧ n' = (l0 ++ l1).length ∧ w'.ownsRow B 9 1 (.slice a' n' c') n' (strsV (l0 ++ l1)) ∧ w.grownBy w' v.ownBlock := by
  obtain ⟨i0, hi0, hz0, hz1, hz2⟩ := info_parts info_str
  have hl : l0.length + l1.length = (l0 ++ l1).length := by simp
  cases ao with
  | some ad =>
    obtain ⟨v', w', hrun, ho, hg, _⟩ := run_append_own (P := Try.prog) w B 29 ty 9 i0 (.string ⟨#[]⟩) 1 16 Try.underlying29 hi0 hz0 hz1 hz2 rfl (by decide) v l0.length (strsV l0) hown ad l1.length c (strsV l1) (by simp [strsV]) (h.cells.2 ad rfl) (strsV_one l1) (by unfold maxLen; omega) (by omega) hB
    rw [hl, ← strsV_app] at ho
    obtain ⟨a', c', rfl⟩ := own_form ho
    exact ⟨a', c', _, w', hrun, rfl, ho, hg⟩
  | none =>
    obtain ⟨e1, rfl⟩ := h.cells.1 rfl
    obtain rfl : l1 = [] := List.eq_nil_of_length_eq_zero e1
    have hrun := run_append_owned_none (P := Try.prog) w B 29 ty 9 i0 1 Try.underlying29 hi0 v l0.length (strsV l0) hown
    obtain ⟨a', c', rfl⟩ := own_form hown
    exact ⟨a', c', _, w, hrun, by simp, by rw [List.append_nil]; exact hown, World.grownBy.refl _ _⟩
end Go.Proofs.Ytfmhccmaeonbhaa
