/- Held routes: the model's order. -/
import Derived.Test.YthdldanfmdnlfaaHd
namespace Go.Proofs.Ythdldanfmdnlfaa
open Go.RowKit

section
variable {cur W : World} {q b B : Nat} {t t' : TypeId} {vs : Array Value} {c0 c1 c2 c3 c4 c5 c6 : Value}
theorem Blk.fill7 (N : Blk cur q t #[c0, c1, c2, c3, c4, c5, c6]) (v0 v1 v2 v3 v4 v5 v6 : Value) :
    Blk (((((((cur.setCell ⟨q, 0, none⟩ v0).setCell ⟨q, 1, none⟩ v1).setCell ⟨q, 2, none⟩ v2).setCell ⟨q, 3, none⟩ v3).setCell ⟨q, 4, none⟩ v4).setCell ⟨q, 5, none⟩ v5).setCell ⟨q, 6, none⟩ v6) q t #[v0, v1, v2, v3, v4, v5, v6] := by
  have h := ((((((N.set 0 v0).set 1 v1).set 2 v2).set 3 v3).set 4 v4).set 5 v5).set 6 v6
  simp only [List.setIfInBounds_toArray, List.set_cons_zero, List.set_cons_succ] at h
  exact h
theorem Blk.far7 (h : Blk cur b t vs) (hne : b ≠ q) (v0 v1 v2 v3 v4 v5 v6 : Value) :
    Blk (((((((cur.setCell ⟨q, 0, none⟩ v0).setCell ⟨q, 1, none⟩ v1).setCell ⟨q, 2, none⟩ v2).setCell ⟨q, 3, none⟩ v3).setCell ⟨q, 4, none⟩ v4).setCell ⟨q, 5, none⟩ v5).setCell ⟨q, 6, none⟩ v6) b t vs :=
  ((((((h.far hne).far hne).far hne).far hne).far hne).far hne).far hne
theorem below7 (h : Below B W cur) (hq : B ≤ q) (v0 v1 v2 v3 v4 v5 v6 : Value) :
    Below B W (((((((cur.setCell ⟨q, 0, none⟩ v0).setCell ⟨q, 1, none⟩ v1).setCell ⟨q, 2, none⟩ v2).setCell ⟨q, 3, none⟩ v3).setCell ⟨q, 4, none⟩ v4).setCell ⟨q, 5, none⟩ v5).setCell ⟨q, 6, none⟩ v6) :=
  ((((((h.setCell hq _).setCell hq _).setCell hq _).setCell hq _).setCell hq _).setCell hq _).setCell hq _
/- a block more, and its name -/
theorem pack1 (cur : World) (cs : Array Value) (t : TypeId) : ∃ Wn q, cur.alloc (.cells cs t) = Wn ∧ cur.heap.size = q ∧ Blk Wn q t cs ∧ Below cur.heap.size cur Wn ∧ (∀ b t' vs, Blk cur b t' vs → Blk Wn b t' vs ∧ b ≠ q) :=
  ⟨_, _, rfl, rfl, Blk.new _ _ _, (Below.refl _ _).alloc (Nat.le_refl _) _, fun _ _ _ h => ⟨h.alloc _, Nat.ne_of_lt h.lt⟩⟩
end
/- the ways through the model's order -/
inductive LessWay (p p' k k' v v' m m' o o' : Int) (R : Bool) : Prop
  | peer (h1 : ¬ p = p') (hr : Hid (R = decide (p < p')))
  | kind (h1 : p = p') (h2 : ¬ k = k') (hr : Hid (R = decide (k < k')))
  | vni (h1 : p = p') (h2 : k = k') (h3 : ¬ v = v') (hr : Hid (R = decide (v < v')))
  | mac (h1 : p = p') (h2 : k = k') (h3 : v = v') (h4 : ¬ m = m') (hr : Hid (R = decide (m < m')))
  | org (h1 : p = p') (h2 : k = k') (h3 : v = v') (h4 : m = m') (hr : Hid (R = decide (o < o')))
theorem less_way (a b : Hd) : LessWay a.p b.p a.r.kind b.r.kind a.r.vni b.r.vni a.r.mac b.r.mac a.r.org b.r.org (lessH a b) := by
  by_cases h1 : a.p = b.p
  · by_cases h2 : a.r.kind = b.r.kind
    · by_cases h3 : a.r.vni = b.r.vni
      · by_cases h4 : a.r.mac = b.r.mac
        · exact .org h1 h2 h3 h4 (Lib.hid (by simp [lessH, h1, h2, h3, h4]))
        · exact .mac h1 h2 h3 h4 (Lib.hid (by simp [lessH, h1, h2, h3, h4]))
      · exact .vni h1 h2 h3 (Lib.hid (by simp [lessH, h1, h2, h3]))
    · exact .kind h1 h2 (Lib.hid (by simp [lessH, h1, h2]))
  · exact .peer h1 (Lib.hid (by simp [lessH, h1]))
end Go.Proofs.Ythdldanfmdnlfaa
