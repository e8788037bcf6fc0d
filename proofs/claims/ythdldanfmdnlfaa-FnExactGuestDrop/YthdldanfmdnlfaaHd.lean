/- Held routes: the value, the order of a table, the comparison (the program's, the model's). -/
import Derived.Test.YthdldanfmdnlfaaB4
import Derived.Test.YthdldanfmdnlfaaB3
import Derived.Deep.RegionHeld3
import Derived.Deep.CutRange
namespace Go.Proofs.Ythdldanfmdnlfaa
open Go.RowKit

structure Hd where
  p : Int
  s : Bool
  r : Rt
def Hd.cl (h : Hd) : List Value := [.int .i64 h.p, .bool h.s, .int .i64 h.r.kind, .int .i64 h.r.vni, .int .i64 h.r.mac, .int .i64 h.r.ip, .int .i64 h.r.org, .int .i64 h.r.seq, .bool h.r.st]
def Hd.ar (h : Hd) : Array Value := #[.int .i64 h.p, .bool h.s, .int .i64 h.r.kind, .int .i64 h.r.vni, .int .i64 h.r.mac, .int .i64 h.r.ip, .int .i64 h.r.org, .int .i64 h.r.seq, .bool h.r.st]
def Hd.val (h : Hd) : Value := .agg #[.int .i64 h.p, .bool h.s, .int .i64 h.r.kind, .int .i64 h.r.vni, .int .i64 h.r.mac, .int .i64 h.r.ip, .int .i64 h.r.org, .int .i64 h.r.seq, .bool h.r.st]
def lessH (a b : Hd) : Bool :=
  if a.p ≠ b.p then decide (a.p < b.p) else if a.r.kind ≠ b.r.kind then decide (a.r.kind < b.r.kind) else if a.r.vni ≠ b.r.vni then decide (a.r.vni < b.r.vni)
  else if a.r.mac ≠ b.r.mac then decide (a.r.mac < b.r.mac) else decide (a.r.org < b.r.org)
def cmpI (x y : Int) : Int := if x < y then -1 else if y < x then 1 else 0
def orL : List Int → Int
  | [] => 0
  | x :: t => if x = 0 then orL t else x
def cmp5 (a b : Hd) : List Int := [cmpI a.p b.p, cmpI a.r.kind b.r.kind, cmpI a.r.vni b.r.vni, cmpI a.r.mac b.r.mac, cmpI a.r.org b.r.org]
def cmpH (a b : Hd) : Int := orL (cmp5 a b)
theorem cmpI_zero (x y : Int) : cmpI x y = 0 ↔ x = y := by unfold cmpI; split <;> (try split) <;> omega
theorem cmpI_neg (x y : Int) : cmpI x y < 0 ↔ x < y := by unfold cmpI; split <;> (try split) <;> omega
theorem cmpH_neg (a b : Hd) : cmpH a b < 0 ↔ lessH a b = true := by
  unfold cmpH cmp5 lessH
  simp only [orL, cmpI_zero, ne_eq, ite_not]
  by_cases h1 : a.p = b.p
  · by_cases h2 : a.r.kind = b.r.kind
    · by_cases h3 : a.r.vni = b.r.vni
      · by_cases h4 : a.r.mac = b.r.mac
        · by_cases h5 : a.r.org = b.r.org
          · simp [h1, h2, h3, h4, h5]
          · simp [h1, h2, h3, h4, h5, cmpI_neg]
        · simp [h1, h2, h3, h4, cmpI_neg]
      · simp [h1, h2, h3, cmpI_neg]
    · simp [h1, h2, cmpI_neg]
  · simp [h1, cmpI_neg]
theorem cmpH_not (a b : Hd) : decide (0 ≤ cmpH a b) = !(lessH a b) := by
  have := cmpH_neg a b
  cases h : lessH a b
  · rw [h] at this; simp at this ⊢; omega
  · rw [h] at this; simp at this ⊢; omega

theorem isNaN_any (x : Int) (w : World) : Calls Try.prog 66 #[.int .i64 x] w fun e w' => e = .returned (.bool false) ∧ w = w' := by
  go_enter Try.func66, Try.ntmps66
  go_wp2
  go_ret
  exact ⟨by simp, rfl⟩
theorem compare_any (x y : Int) (w : World) : Calls Try.prog 61 #[.int .i64 x, .int .i64 y] w fun e w' => e = .returned (.int .i64 (cmpI x y)) ∧ w = w' := by
  by_cases h1 : x < y
  · have HR : Hid (cmpI x y = -1) := Lib.hid (by rw [cmpI, if_pos h1])
    go_enter Try.func61, Try.ntmps61
    go_wp2_with (go_at_call 66; refine (isNaN_any _ _).mono ?_; rintro e w' ⟨rfl, rfl⟩)
    go_ret
    exact ⟨i64_ret HR.out.symm, rfl⟩
  · by_cases h2 : y < x
    · have HR : Hid (cmpI x y = 1) := Lib.hid (by rw [cmpI, if_neg h1, if_pos h2])
      go_enter Try.func61, Try.ntmps61
      go_wp2_with (go_at_call 66; refine (isNaN_any _ _).mono ?_; rintro e w' ⟨rfl, rfl⟩)
      go_ret
      exact ⟨i64_ret HR.out.symm, rfl⟩
    · have HR : Hid (cmpI x y = 0) := Lib.hid (by rw [cmpI, if_neg h1, if_neg h2])
      go_enter Try.func61, Try.ntmps61
      go_wp2_with (go_at_call 66; refine (isNaN_any _ _).mono ?_; rintro e w' ⟨rfl, rfl⟩)
      go_ret
      exact ⟨i64_ret HR.out.symm, rfl⟩
theorem orL_skip (l : List Int) : ∀ i : Nat, (∀ k, k < i → ∀ h : k < l.length, l[k] = 0) → orL l = orL (l.drop i) := by
  induction l with
  | nil => intro i _; simp
  | cons x l ih =>
    intro i h
    cases i with
    | zero => rfl
    | succ i =>
      have h0 := h 0 (by omega) (by simp)
      simp at h0
      rw [orL, if_pos h0, List.drop_succ_cons]
      exact ih i (fun k hk hl => by have := h (k + 1) (by omega) (by simpa using hl); simpa using this)
theorem orInt_any (g cap : Nat) (l : List Int) (w : World) (h : ∀ i (hi : i < l.length), w.cell? ⟨g, i, none⟩ = some (.int .i64 l[i])) (hn : l.length ≤ 100) :
    Calls Try.prog 60 #[.slice (some ⟨g, 0, none⟩) l.length cap] w fun e w' => e = .returned (.int .i64 (orL l)) ∧ w = w' := by
  have HC := Lib.hid h
  have HS := Lib.hid (orL_skip l)
  have HG := Lib.hid (fun (i : Nat) (hi : i < l.length) => (show orL (l.drop i) = if l[i] = 0 then orL (l.drop (i + 1)) else l[i] by rw [List.drop_eq_getElem_cons hi]; rfl))
  have HE : Hid (orL (l.drop l.length) = 0) := Lib.hid (by simp [orL])
  clear h
  obtain ⟨n, hnn⟩ : ∃ n, n = l.length := ⟨_, rfl⟩
  rw [← hnn] at hn HE ⊢
  have HN := Lib.hid hnn
  clear hnn
  go_enter Try.func60, Try.ntmps60
  go_wp2_with fail
  go_loopw [8, 5] (fun u _ wr => ∃ i : Nat, i ≤ n ∧ u = .int .i64 (i : Int) ∧ Hid (∀ k, k < i → ∀ h : k < l.length, l[k] = 0) ∧ Hid (wr = w)) (fun u _ _ => n - (intOf u).toNat)
  case atStart => exact ⟨0, Nat.zero_le _, rfl, Lib.hid (fun k hk => by omega), Lib.hid rfl⟩
  case round =>
    obtain ⟨i, hi, rfl, HZ, HW⟩ := hrel
    have hw := HW.out
    clear HW
    subst hw
    by_cases hlt : i < n
    · have hir : i < l.length := by rw [← HN.out]; exact hlt
      have hl1 : (i : Int) < n := by omega
      have hc := HC.out i hir
      have HG1 := Lib.hid (HG.out i hir)
      have HZ1 : Hid (l[i] = 0 → ∀ k, k < i + 1 → ∀ h : k < l.length, l[k] = 0) := Lib.hid (fun h0 k hk h => by
        by_cases e : k = i
        · subst e; exact h0
        · exact HZ.out k (by omega) h)
      have HS1 := Lib.hid (HS.out i HZ.out)
      generalize l[i] = x at hc HG1 HZ1
      by_cases hz : x = 0
      · subst hz
        go_wp2_with fail
        go_roundw
        case rel => exact ⟨i + 1, by omega, by simp, Lib.hid (HZ1.out rfl), Lib.hid trivial⟩
        case measure => simp [intOf]; omega
      · have HR : Hid (orL l = x) := Lib.hid (by rw [HS1.out, HG1.out, if_neg hz])
        go_wp2_with fail
        go_ret
        exact ⟨i64_ret HR.out.symm, rfl⟩
    · have hin : i = n := by omega
      subst hin
      have HR : Hid (orL l = 0) := Lib.hid (by rw [HS.out i HZ.out, HE.out])
      go_wp2_with fail
      go_ret
      exact ⟨i64_ret HR.out.symm, rfl⟩
def hdV (p : Int) (s : Bool) (k v m i o q : Int) (t : Bool) : Value := .agg #[.int .i64 p, .bool s, .int .i64 k, .int .i64 v, .int .i64 m, .int .i64 i, .int .i64 o, .int .i64 q, .bool t]
def hdA (p : Int) (s : Bool) (k v m i o q : Int) (t : Bool) : Array Value := #[.int .i64 p, .bool s, .int .i64 k, .int .i64 v, .int .i64 m, .int .i64 i, .int .i64 o, .int .i64 q, .bool t]
theorem five_lit (w : World) (x0 x1 x2 x3 x4 : Int) (t : TypeId) : ∀ i (hi : i < [x0, x1, x2, x3, x4].length), (w.alloc (.cells #[.int .i64 x0, .int .i64 x1, .int .i64 x2, .int .i64 x3, .int .i64 x4] t)).cell? ⟨w.heap.size, i, none⟩ = some (.int .i64 ([x0, x1, x2, x3, x4][i])) := by
  intro i hi
  rw [(Blk.new w t _).cell]
  have hi' : i < 5 := hi
  match i, hi' with
  | 0, _ => rfl
  | 1, _ => rfl
  | 2, _ => rfl
  | 3, _ => rfl
  | 4, _ => rfl
end Go.Proofs.Ythdldanfmdnlfaa
