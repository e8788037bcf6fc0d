/- The heap of held routes in firstHeap, as the texts of chapter 7 ask it: no two of the same slot. -/
import Derived.Test.YtmkoppbbenombaaFeH
namespace Go.Proofs.Ytmkoppbbenombaa
open Go.RowKit

abbrev HpAt (W : World) (B hb : Nat) (es : List Hd) (a : Option Addr) (c : Nat) : Prop := FhH W B hb es a c
abbrev Hp2 (w w' : World) (hb : Nat) (v v' : Value) : Prop := Fk2 w w' hb v v'
theorem ta_held (v : Value) (w : World) : (Instr.typeAssert (.iface 77 v) 20 77 true).run Try.prog w = .ok (.tuple #[v, .bool true]) w := taH v w
theorem step_run_app {P : Program} {ops : Array Oper} {o : Oper} {a : Act} {w : World} {K : Act → World → Prop} {Q : Exit → Act → World → Prop} {E : Prop}
    (hg : o.guard = none) (s x : Operand) (t : TypeId) (hop : o.op = Op.call { callee := Callee.builtin Builtin.append, args := #[s, x], argTypes := #[t, t] })
    (v u r : Value) (w' : World) (hs : a.eval s = v) (hx : a.eval x = u) (hrun : (Builtin.append_ #[t, t] o.type #[v, u]).run P w = .ok r w') (hK : K (a.put o.dst r) w') :
    if Region.wanted o (yielded ops a.tmps) = true then Oper.wp P o a w K Q else E := stepAppH hg s x t hop v u r w' hs hx hrun hK
theorem hG_gH (l : List Hd) (k : Nat) : hG ordHd l k = gH l k := rfl
theorem dist_pw {l : List Hd} : Dist l ↔ l.Pairwise fun a b => ¬ same a b := by
  rw [List.pairwise_iff_getElem]
  constructor
  · intro h i j hi hj hij
    have := h i j hi hj (by omega)
    rw [gH_eq hi, gH_eq hj] at this
    exact this
  · intro h i j hi hj hne
    rw [gH_eq hi, gH_eq hj]
    rcases Nat.lt_or_gt_of_ne hne with e | e
    · exact h i j hi hj e
    · exact fun s => h j i hj hi e (same_symm s)
theorem dist_perm {l l' : List Hd} (h : l.Perm l') (d : Dist l) : Dist l' := dist_pw.2 (h.pairwise (dist_pw.1 d) (fun h s => h (same_symm s)))
theorem dist_snoc {es : List Hd} {x : Hd} (h : Dist es) (hx : ∀ y ∈ es, ¬ same y x) : Dist (es ++ [x]) := by
  rw [dist_pw, List.pairwise_append]
  exact ⟨dist_pw.1 h, by simp, fun a ha b hb => by simp at hb; subst hb; exact hx a ha⟩
def PushPost (B hb : Nat) (es : List Hd) (x : Hd) (a : Option Addr) (c : Nat) (w : World) (e : Ending) (w' : World) : Prop :=
  (∃ v, e = .returned v) ∧ ∃ es' a' c', HpAt w' B hb es' a' c' ∧ es'.length = es.length + 1 ∧ HeapOk es' es'.length ∧ (∀ y, y ∈ es' ↔ y ∈ es ∨ y = x) ∧ Dist es' ∧ Hp2 w w' hb (.slice a es.length c) (.slice a' es'.length c')
theorem hpPush_any (B hb : Nat) (es : List Hd) (c : Nat) (a : Option Addr) (x : Hd) (w : World) (H : HpAt w B hb es a c) (hn : es.length ≤ 900000) (hB : B ≤ w.heap.size) (hO : HeapOk es es.length) (hD : Dist (es ++ [x])) :
    Calls Try.prog 117 #[.iface 122 (.pointer (some ⟨hb, 0, none⟩)), .iface 77 x.val] w (PushPost B hb es x a c w) :=
  (fhPushH_any B hb es c a x w H hn hB hO).mono fun e w' ⟨hv, es', a', c', h1, h2, h3, h4, h5⟩ =>
    ⟨hv, es', a', c', h1, h2, h3, fun y => by rw [← h4.mem_iff]; simp, dist_perm h4 hD, h5⟩
def PopsPost (B hb : Nat) (es : List Hd) (a : Option Addr) (c : Nat) (w : World) (e : Ending) (w' : World) : Prop :=
  e = .returned (.iface 77 (gH es 0).val) ∧ ∃ es' a' c', HpAt w' B hb es' a' c' ∧ es'.length = es.length - 1 ∧ HeapOk es' es'.length ∧ (∀ y, y ∈ es' ↔ y ∈ es ∧ ¬ same y (gH es 0)) ∧ Dist es' ∧ Hp2 w w' hb (.slice a es.length c) (.slice a' es'.length c')
theorem hpPop_any (B hb : Nat) (es : List Hd) (c : Nat) (a : Option Addr) (w : World) (H : HpAt w B hb es a c) (hn : es.length ≤ 900000) (h0 : 0 < es.length) (hO : HeapOk es es.length) (hD : Dist es) :
    Calls Try.prog 119 #[.iface 122 (.pointer (some ⟨hb, 0, none⟩))] w (PopsPost B hb es a c w) :=
  (fhPopH_any B hb es c a w H hn h0 hO).mono fun e w' ⟨hv, es', a', c', h1, h2, h3, h4, h5⟩ => by
    rw [hG_gH] at hv h4
    have hd := dist_perm h4.symm hD
    rw [dist_pw, List.pairwise_append] at hd
    refine ⟨hv, es', a', c', h1, h2, h3, fun y => ?_, dist_pw.2 hd.1, h5⟩
    constructor
    · intro hy
      exact ⟨h4.mem_iff.1 (List.mem_append.2 (.inl hy)), hd.2.2 y hy _ (by simp)⟩
    · rintro ⟨hy, hn⟩
      rcases List.mem_append.1 (h4.mem_iff.2 hy) with h | h
      · exact h
      · simp at h
        subst h
        exact absurd ⟨rfl, rfl, rfl, rfl, rfl⟩ hn
theorem hpLen_any (hb n c : Nat) (a : Option Addr) (f : Value) (w : World) (h : Blk w hb 120 #[.slice a n c, f]) : Calls Try.prog 118 #[.pointer (some ⟨hb, 0, none⟩)] w fun e w' => e = .returned (.int .i64 (n : Int)) ∧ w = w' := fhLenH_any hb n c a f w h
end Go.Proofs.Ytmkoppbbenombaa
