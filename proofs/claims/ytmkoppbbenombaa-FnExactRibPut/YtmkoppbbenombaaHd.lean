/- Held routes: the value, the order of a table, the comparison (the program's, the model's). -/
import Derived.Test.YtmkoppbbenombaaB4
import Derived.Test.YtmkoppbbenombaaB3
import Derived.Deep.RegionHeld3
import Derived.Deep.CutRange
namespace Go.Proofs.Ytmkoppbbenombaa
open Go.RowKit

structure Hd where
  p : Int
  s : Bool
  r : Rt
def Hd.cl (h : Hd) : List Value := [.int .i64 h.p, .bool h.s, .int .i64 h.r.kind, .int .i64 h.r.vni, .int .i64 h.r.mac, .int .i64 h.r.ip, .int .i64 h.r.org, .int .i64 h.r.seq, .bool h.r.st]
def Hd.ar (h : Hd) : Array Value := #[.int .i64 h.p, .bool h.s, .int .i64 h.r.kind, .int .i64 h.r.vni, .int .i64 h.r.mac, .int .i64 h.r.ip, .int .i64 h.r.org, .int .i64 h.r.seq, .bool h.r.st]
def Hd.val (h : Hd) : Value := .agg #[.int .i64 h.p, .bool h.s, .int .i64 h.r.kind, .int .i64 h.r.vni, .int .i64 h.r.mac, .int .i64 h.r.ip, .int .i64 h.r.org, .int .i64 h.r.seq, .bool h.r.st]
def lessH (a b : Hd) : Bool :=
  if a.p ≠ b.p then decide (a.p < b.p) else if a.r.kind ≠ b.r.kind then decide (a.r.kind < b.r.kind) else if a.r.vni ≠ b.r.vni then decide (a.r.vni < b.r.vni)
  else if a.r.mac ≠ b.r.mac then decide (a.r.mac < b.r.mac) else decide (a.r.org < b.r.org)
def cmpI (x y : Int) : Int := if x < y then -1 else if y < x then 1 else 0
def orL : List Int → Int
  | [] => 0
  | x :: t => if x = 0 then orL t else x
def cmp5 (a b : Hd) : List Int := [cmpI a.p b.p, cmpI a.r.kind b.r.kind, cmpI a.r.vni b.r.vni, cmpI a.r.mac b.r.mac, cmpI a.r.org b.r.org]
def cmpH (a b : Hd) : Int := orL (cmp5 a b)
theorem cmpI_zero (x y : Int) : cmpI x y = 0 ↔ x = y := by unfold cmpI; split <;> (try split) <;> omega
theorem cmpI_neg (x y : Int) : cmpI x y < 0 ↔ x < y := by unfold cmpI; split <;> (try split) <;> omega
theorem cmpH_neg (a b : Hd) : cmpH a b < 0 ↔ lessH a b = true := by
  unfold cmpH cmp5 lessH
  simp only [orL, cmpI_zero, ne_eq, ite_not]
  by_cases h1 : a.p = b.p
  · by_cases h2 : a.r.kind = b.r.kind
    · by_cases h3 : a.r.vni = b.r.vni
      · by_cases h4 : a.r.mac = b.r.mac
        · by_cases h5 : a.r.org = b.r.org
          · simp [h1, h2, h3, h4, h5]
          · simp [h1, h2, h3, h4, h5, cmpI_neg]
        · simp [h1, h2, h3, h4, cmpI_neg]
      · simp [h1, h2, h3, cmpI_neg]
    · simp [h1, h2, cmpI_neg]
  · simp [h1, cmpI_neg]
theorem cmpH_not (a b : Hd) : decide (0 ≤ cmpH a b) = !(lessH a b) := by
  have := cmpH_neg a b
  cases h : lessH a b
  · rw [h] at this; simp at this ⊢; omega
  · rw [h] at this; simp at this ⊢; omega

theorem isNaN_any (x : Int) (w : World) : Calls Try.prog 131 #[.int .i64 x] w fun e w' => e = .returned (.bool false) ∧ w = w' := by
  go_enter Try.func131, Try.ntmps131
  go_wp2
  go_ret
  exact ⟨by simp, rfl⟩
theorem compare_any (x y : Int) (w : World) : Calls Try.prog 114 #[.int .i64 x, .int .i64 y] w fun e w' => e = .returned (.int .i64 (cmpI x y)) ∧ w = w' := by
  by_cases h1 : x < y
  · have HR : Hid (cmpI x y = -1) := Lib.hid (by rw [cmpI, if_pos h1])
    go_enter Try.func114, Try.ntmps114
    go_wp2_with (go_at_call 131; refine (isNaN_any _ _).mono ?_; rintro e w' ⟨rfl, rfl⟩)
    go_ret
    exact ⟨i64_ret HR.out.symm, rfl⟩
  · by_cases h2 : y < x
    · have HR : Hid (cmpI x y = 1) := Lib.hid (by rw [cmpI, if_neg h1, if_pos h2])
      go_enter Try.func114, Try.ntmps114
      go_wp2_with (go_at_call 131; refine (isNaN_any _ _).mono ?_; rintro e w' ⟨rfl, rfl⟩)
      go_ret
      exact ⟨i64_ret HR.out.symm, rfl⟩
    · have HR : Hid (cmpI x y = 0) := Lib.hid (by rw [cmpI, if_neg h1, if_neg h2])
      go_enter Try.func114, Try.ntmps114
      go_wp2_with (go_at_call 131; refine (isNaN_any _ _).mono ?_; rintro e w' ⟨rfl, rfl⟩)
      go_ret
      exact ⟨i64_ret HR.out.symm, rfl⟩
theorem orL_skip (l : List Int) : ∀ i : Nat, (∀ k, k < i → ∀ h : k < l.length, l[k] = 0) → orL l = orL (l.drop i) := by
  induction l with
  | nil => intro i _; simp
  | cons x l ih =>
    intro i h
    cases i with
    | zero => rfl
    | succ i =>
      have h0 := h 0 (by omega) (by simp)
      simp at h0
      rw [orL, if_pos h0, List.drop_succ_cons]
      exact ih i (fun k hk hl => by have := h (k + 1) (by omega) (by simpa using hl); simpa using this)
theorem orInt_any (g cap : Nat) (l : List Int) (w : World) (h : ∀ i (hi : i < l.length), w.cell? ⟨g, i, none⟩ = some (.int .i64 l[i])) (hn : l.length ≤ 100) :
    Calls Try.prog 113 #[.slice (some ⟨g, 0, none⟩) l.length cap] w fun e w' => e = .returned (.int .i64 (orL l)) ∧ w = w' := by
  have HC := Lib.hid h
  have HS := Lib.hid (orL_skip l)
  have HG := Lib.hid (fun (i : Nat) (hi : i < l.length) => (show orL (l.drop i) = if l[i] = 0 then orL (l.drop (i + 1)) else l[i] by rw [List.drop_eq_getElem_cons hi]; rfl))
  have HE : Hid (orL (l.drop l.length) = 0) := Lib.hid (by simp [orL])
  clear h
  obtain ⟨n, hnn⟩ : ∃ n, n = l.length := ⟨_, rfl⟩
  rw [← hnn] at hn HE ⊢
  have HN := Lib.hid hnn
  clear hnn
  go_enter Try.func113, Try.ntmps113
  go_wp2_with fail
  go_loopw [8, 5] (fun u _ wr => ∃ i : Nat, i ≤ n ∧ u = .int .i64 (i : Int) ∧ Hid (∀ k, k < i → ∀ h : k < l.length, l[k] = 0) ∧ Hid (wr = w)) (fun u _ _ => n - (intOf u).toNat)
  case atStart => exact ⟨0, Nat.zero_le _, rfl, Lib.hid (fun k hk => by omega), Lib.hid rfl⟩
  case round =>
    obtain ⟨i, hi, rfl, HZ, HW⟩ := hrel
    have hw := HW.out
    clear HW
    subst hw
    by_cases hlt : i < n
    · have hir : i < l.length := by rw [← HN.out]; exact hlt
      have hl1 : (i : Int) < n := by omega
      have hc := HC.out i hir
      have HG1 := Lib.hid (HG.out i hir)
      have HZ1 : Hid (l[i] = 0 → ∀ k, k < i + 1 → ∀ h : k < l.length, l[k] = 0) := Lib.hid (fun h0 k hk h => by
        by_cases e : k = i
        · subst e; exact h0
        · exact HZ.out k (by omega) h)
      have HS1 := Lib.hid (HS.out i HZ.out)
      generalize l[i] = x at hc HG1 HZ1
      by_cases hz : x = 0
      · subst hz
        go_wp2_with fail
        go_roundw
        case rel => exact ⟨i + 1, by omega, by simp, Lib.hid (HZ1.out rfl), Lib.hid trivial⟩
        case measure => simp [intOf]; omega
      · have HR : Hid (orL l = x) := Lib.hid (by rw [HS1.out, HG1.out, if_neg hz])
        go_wp2_with fail
        go_ret
        exact ⟨i64_ret HR.out.symm, rfl⟩
    · have hin : i = n := by omega
      subst hin
      have HR : Hid (orL l = 0) := Lib.hid (by rw [HS.out i HZ.out, HE.out])
      go_wp2_with fail
      go_ret
      exact ⟨i64_ret HR.out.symm, rfl⟩
def hdV (p : Int) (s : Bool) (k v m i o q : Int) (t : Bool) : Value := .agg #[.int .i64 p, .bool s, .int .i64 k, .int .i64 v, .int .i64 m, .int .i64 i, .int .i64 o, .int .i64 q, .bool t]
def hdA (p : Int) (s : Bool) (k v m i o q : Int) (t : Bool) : Array Value := #[.int .i64 p, .bool s, .int .i64 k, .int .i64 v, .int .i64 m, .int .i64 i, .int .i64 o, .int .i64 q, .bool t]
theorem five_lit (w : World) (x0 x1 x2 x3 x4 : Int) (t : TypeId) : ∀ i (hi : i < [x0, x1, x2, x3, x4].length), (w.alloc (.cells #[.int .i64 x0, .int .i64 x1, .int .i64 x2, .int .i64 x3, .int .i64 x4] t)).cell? ⟨w.heap.size, i, none⟩ = some (.int .i64 ([x0, x1, x2, x3, x4][i])) := by
  intro i hi
  rw [(Blk.new w t _).cell]
  have hi' : i < 5 := hi
  match i, hi' with
  | 0, _ => rfl
  | 1, _ => rfl
  | 2, _ => rfl
  | 3, _ => rfl
  | 4, _ => rfl
set_option maxHeartbeats 2000000 in
theorem compareHeld_any (a b : Hd) (w : World) : Calls Try.prog 68 #[a.val, b.val] w fun e w' => e = .returned (.int .i64 (cmpH a b)) ∧ Below w.heap.size w w' := by
  have HR : Hid (orL (cmp5 a b) = cmpH a b) := Lib.hid rfl
  unfold cmp5 at HR
  obtain ⟨p, s, ⟨k, v, m, i, o, q, t⟩⟩ := a
  obtain ⟨p', s', ⟨k', v', m', i', o', q', t'⟩⟩ := b
  generalize cmpH _ _ = R at *
  unfold Hd.val
  dsimp only at *
  have HO := Lib.hid (fun (W : World) => five_lit W (cmpI p p') (cmpI k k') (cmpI v v') (cmpI m m') (cmpI o o') 3)
  have HC := Lib.hid (fun g => orInt_any g 5 [cmpI p p', cmpI k k', cmpI v v', cmpI m m', cmpI o o'])
  have A1 := Blk.new w 77 #[.int .i64 p, .bool s, .int .i64 k, .int .i64 v, .int .i64 m, .int .i64 i, .int .i64 o, .int .i64 q, .bool t]
  have A2 := Blk.new (w.alloc (.cells #[.int .i64 p, .bool s, .int .i64 k, .int .i64 v, .int .i64 m, .int .i64 i, .int .i64 o, .int .i64 q, .bool t] 77)) 77 #[.int .i64 p', .bool s', .int .i64 k', .int .i64 v', .int .i64 m', .int .i64 i', .int .i64 o', .int .i64 q', .bool t']
  have S0 := And.intro (A1.alloc (.cells #[.int .i64 p', .bool s', .int .i64 k', .int .i64 v', .int .i64 m', .int .i64 i', .int .i64 o', .int .i64 q', .bool t'] 77)) (And.intro A2 (((Below.refl w.heap.size w).alloc (Nat.le_refl _) (.cells #[.int .i64 p, .bool s, .int .i64 k, .int .i64 v, .int .i64 m, .int .i64 i, .int .i64 o, .int .i64 q, .bool t] 77)).alloc (by simp) (.cells #[.int .i64 p', .bool s', .int .i64 k', .int .i64 v', .int .i64 m', .int .i64 i', .int .i64 o', .int .i64 q', .bool t'] 77)))
  rw [World.size_alloc] at S0
  clear A1 A2
  go_enter Try.func68, Try.ntmps68
  go_upto_region 1 with fail
  generalize (w.alloc (.cells #[.int .i64 p, .bool s, .int .i64 k, .int .i64 v, .int .i64 m, .int .i64 i, .int .i64 o, .int .i64 q, .bool t] 77)).alloc (.cells #[.int .i64 p', .bool s', .int .i64 k', .int .i64 v', .int .i64 m', .int .i64 i', .int .i64 o', .int .i64 q', .bool t'] 77) = W2 at S0 ⊢
  replace S0 := (show Blk W2.drew _ _ _ ∧ Blk W2.drew _ _ _ ∧ Below w.heap.size w W2.drew from ⟨S0.1, S0.2.1, S0.2.2.drew⟩)
  go_wp2_with fail
  refine wp_region_held_drew (S := fun W' => Blk W' w.heap.size 77 _ ∧ Blk W' (w.heap.size + 1) 77 _ ∧ Below w.heap.size w W') (by kernel_rfl) S0 (fun hHeld => ?_)
  clear hHeld
  refine wpAnyH_take (i := 0) (oi := { dst := some 5, op := Op.fieldAddr 77 (Operand.tmp 2) 0, type := 0, pos := "l06_rib.go:42", after := #[], guard := none }) (v := ?vva1) rfl (by kernel_rfl) (by kernel_rfl) (by kernel_rfl) (fun _ _ _ h => h) (Or.inl ⟨by rfl, ?hya1⟩) S0 ?resta1
  case hya1 => (intro w hSw; go_simp <;> with_reducible rfl)
  try simp only [Act.put, List.setIfInBounds_toArray, List.set_cons_zero, List.set_cons_succ]
  refine wpAnyH_take (i := 1) (oi := { dst := some 6, op := Op.load 2 (Operand.tmp 5), type := 2, pos := "l06_rib.go:42", after := #[{ on := 0, ground := Ground.data }], guard := none }) (v := ?vva2) rfl (by kernel_rfl) (by kernel_rfl) (by kernel_rfl) (fun _ _ _ h => h) (Or.inl ⟨by rfl, ?hya2⟩) S0 ?resta2
  case hya2 => (intro w hSw; have hc1 := hSw.1.cell; have hc2 := hSw.2.1.cell;go_simp <;> with_reducible rfl)
  try simp only [Act.put, List.setIfInBounds_toArray, List.set_cons_zero, List.set_cons_succ]
  refine wpAnyH_take (i := 2) (oi := { dst := some 7, op := Op.fieldAddr 77 (Operand.tmp 3) 0, type := 0, pos := "l06_rib.go:42", after := #[], guard := none }) (v := ?vva3) rfl (by kernel_rfl) (by kernel_rfl) (by kernel_rfl) (fun _ _ _ h => h) (Or.inl ⟨by rfl, ?hya3⟩) S0 ?resta3
  case hya3 => (intro w hSw; go_simp <;> with_reducible rfl)
  try simp only [Act.put, List.setIfInBounds_toArray, List.set_cons_zero, List.set_cons_succ]
  refine wpAnyH_take (i := 3) (oi := { dst := some 8, op := Op.load 2 (Operand.tmp 7), type := 2, pos := "l06_rib.go:42", after := #[{ on := 2, ground := Ground.data }], guard := none }) (v := ?vva4) rfl (by kernel_rfl) (by kernel_rfl) (by kernel_rfl) (fun _ _ _ h => h) (Or.inl ⟨by rfl, ?hya4⟩) S0 ?resta4
  case hya4 => (intro w hSw; have hc1 := hSw.1.cell; have hc2 := hSw.2.1.cell;go_simp <;> with_reducible rfl)
  try simp only [Act.put, List.setIfInBounds_toArray, List.set_cons_zero, List.set_cons_succ]
  refine wpAnyH_take (i := 5) (oi := { dst := some 10, op := Op.fieldAddr 77 (Operand.tmp 2) 2, type := 0, pos := "l06_rib.go:42", after := #[], guard := none }) (v := ?vva5) rfl (by kernel_rfl) (by kernel_rfl) (by kernel_rfl) (fun _ _ _ h => h) (Or.inl ⟨by rfl, ?hya5⟩) S0 ?resta5
  case hya5 => (intro w hSw; go_simp <;> with_reducible rfl)
  try simp only [Act.put, List.setIfInBounds_toArray, List.set_cons_zero, List.set_cons_succ]
  refine wpAnyH_take (i := 6) (oi := { dst := some 11, op := Op.fieldAddr 35 (Operand.tmp 10) 0, type := 0, pos := "l06_rib.go:42", after := #[{ on := 5, ground := Ground.data }], guard := none }) (v := ?vva6) rfl (by kernel_rfl) (by kernel_rfl) (by kernel_rfl) (fun _ _ _ h => h) (Or.inl ⟨by rfl, ?hya6⟩) S0 ?resta6
  case hya6 => (intro w hSw; go_simp <;> with_reducible rfl)
  try simp only [Act.put, List.setIfInBounds_toArray, List.set_cons_zero, List.set_cons_succ]
  refine wpAnyH_take (i := 7) (oi := { dst := some 12, op := Op.load 2 (Operand.tmp 11), type := 2, pos := "l06_rib.go:42", after := #[{ on := 6, ground := Ground.data }], guard := none }) (v := ?vva7) rfl (by kernel_rfl) (by kernel_rfl) (by kernel_rfl) (fun _ _ _ h => h) (Or.inl ⟨by rfl, ?hya7⟩) S0 ?resta7
  case hya7 => (intro w hSw; have hc1 := hSw.1.cell; have hc2 := hSw.2.1.cell;go_simp <;> with_reducible rfl)
  try simp only [Act.put, List.setIfInBounds_toArray, List.set_cons_zero, List.set_cons_succ]
  refine wpAnyH_take (i := 8) (oi := { dst := some 13, op := Op.fieldAddr 77 (Operand.tmp 3) 2, type := 0, pos := "l06_rib.go:42", after := #[], guard := none }) (v := ?vva8) rfl (by kernel_rfl) (by kernel_rfl) (by kernel_rfl) (fun _ _ _ h => h) (Or.inl ⟨by rfl, ?hya8⟩) S0 ?resta8
  case hya8 => (intro w hSw; go_simp <;> with_reducible rfl)
  try simp only [Act.put, List.setIfInBounds_toArray, List.set_cons_zero, List.set_cons_succ]
  refine wpAnyH_take (i := 9) (oi := { dst := some 14, op := Op.fieldAddr 35 (Operand.tmp 13) 0, type := 0, pos := "l06_rib.go:42", after := #[{ on := 8, ground := Ground.data }], guard := none }) (v := ?vva9) rfl (by kernel_rfl) (by kernel_rfl) (by kernel_rfl) (fun _ _ _ h => h) (Or.inl ⟨by rfl, ?hya9⟩) S0 ?resta9
  case hya9 => (intro w hSw; go_simp <;> with_reducible rfl)
  try simp only [Act.put, List.setIfInBounds_toArray, List.set_cons_zero, List.set_cons_succ]
  refine wpAnyH_take (i := 10) (oi := { dst := some 15, op := Op.load 2 (Operand.tmp 14), type := 2, pos := "l06_rib.go:42", after := #[{ on := 9, ground := Ground.data }], guard := none }) (v := ?vva10) rfl (by kernel_rfl) (by kernel_rfl) (by kernel_rfl) (fun _ _ _ h => h) (Or.inl ⟨by rfl, ?hya10⟩) S0 ?resta10
  case hya10 => (intro w hSw; have hc1 := hSw.1.cell; have hc2 := hSw.2.1.cell;go_simp <;> with_reducible rfl)
  try simp only [Act.put, List.setIfInBounds_toArray, List.set_cons_zero, List.set_cons_succ]
  refine wpAnyH_take (i := 12) (oi := { dst := some 17, op := Op.fieldAddr 77 (Operand.tmp 2) 2, type := 0, pos := "l06_rib.go:42", after := #[], guard := none }) (v := ?vva11) rfl (by kernel_rfl) (by kernel_rfl) (by kernel_rfl) (fun _ _ _ h => h) (Or.inl ⟨by rfl, ?hya11⟩) S0 ?resta11
  case hya11 => (intro w hSw; go_simp <;> with_reducible rfl)
  try simp only [Act.put, List.setIfInBounds_toArray, List.set_cons_zero, List.set_cons_succ]
  refine wpAnyH_take (i := 13) (oi := { dst := some 18, op := Op.fieldAddr 35 (Operand.tmp 17) 1, type := 0, pos := "l06_rib.go:42", after := #[{ on := 12, ground := Ground.data }], guard := none }) (v := ?vva12) rfl (by kernel_rfl) (by kernel_rfl) (by kernel_rfl) (fun _ _ _ h => h) (Or.inl ⟨by rfl, ?hya12⟩) S0 ?resta12
  case hya12 => (intro w hSw; go_simp <;> with_reducible rfl)
  try simp only [Act.put, List.setIfInBounds_toArray, List.set_cons_zero, List.set_cons_succ]
  refine wpAnyH_take (i := 14) (oi := { dst := some 19, op := Op.load 2 (Operand.tmp 18), type := 2, pos := "l06_rib.go:42", after := #[{ on := 13, ground := Ground.data }], guard := none }) (v := ?vva13) rfl (by kernel_rfl) (by kernel_rfl) (by kernel_rfl) (fun _ _ _ h => h) (Or.inl ⟨by rfl, ?hya13⟩) S0 ?resta13
  case hya13 => (intro w hSw; have hc1 := hSw.1.cell; have hc2 := hSw.2.1.cell;go_simp <;> with_reducible rfl)
  try simp only [Act.put, List.setIfInBounds_toArray, List.set_cons_zero, List.set_cons_succ]
  refine wpAnyH_take (i := 15) (oi := { dst := some 20, op := Op.fieldAddr 77 (Operand.tmp 3) 2, type := 0, pos := "l06_rib.go:42", after := #[], guard := none }) (v := ?vva14) rfl (by kernel_rfl) (by kernel_rfl) (by kernel_rfl) (fun _ _ _ h => h) (Or.inl ⟨by rfl, ?hya14⟩) S0 ?resta14
  case hya14 => (intro w hSw; go_simp <;> with_reducible rfl)
  try simp only [Act.put, List.setIfInBounds_toArray, List.set_cons_zero, List.set_cons_succ]
  refine wpAnyH_take (i := 16) (oi := { dst := some 21, op := Op.fieldAddr 35 (Operand.tmp 20) 1, type := 0, pos := "l06_rib.go:42", after := #[{ on := 15, ground := Ground.data }], guard := none }) (v := ?vva15) rfl (by kernel_rfl) (by kernel_rfl) (by kernel_rfl) (fun _ _ _ h => h) (Or.inl ⟨by rfl, ?hya15⟩) S0 ?resta15
  case hya15 => (intro w hSw; go_simp <;> with_reducible rfl)
  try simp only [Act.put, List.setIfInBounds_toArray, List.set_cons_zero, List.set_cons_succ]
  refine wpAnyH_take (i := 17) (oi := { dst := some 22, op := Op.load 2 (Operand.tmp 21), type := 2, pos := "l06_rib.go:42", after := #[{ on := 16, ground := Ground.data }], guard := none }) (v := ?vva16) rfl (by kernel_rfl) (by kernel_rfl) (by kernel_rfl) (fun _ _ _ h => h) (Or.inl ⟨by rfl, ?hya16⟩) S0 ?resta16
  case hya16 => (intro w hSw; have hc1 := hSw.1.cell; have hc2 := hSw.2.1.cell;go_simp <;> with_reducible rfl)
  try simp only [Act.put, List.setIfInBounds_toArray, List.set_cons_zero, List.set_cons_succ]
  refine wpAnyH_take (i := 19) (oi := { dst := some 24, op := Op.fieldAddr 77 (Operand.tmp 2) 2, type := 0, pos := "l06_rib.go:42", after := #[], guard := none }) (v := ?vva17) rfl (by kernel_rfl) (by kernel_rfl) (by kernel_rfl) (fun _ _ _ h => h) (Or.inl ⟨by rfl, ?hya17⟩) S0 ?resta17
  case hya17 => (intro w hSw; go_simp <;> with_reducible rfl)
  try simp only [Act.put, List.setIfInBounds_toArray, List.set_cons_zero, List.set_cons_succ]
  refine wpAnyH_take (i := 20) (oi := { dst := some 25, op := Op.fieldAddr 35 (Operand.tmp 24) 2, type := 0, pos := "l06_rib.go:42", after := #[{ on := 19, ground := Ground.data }], guard := none }) (v := ?vva18) rfl (by kernel_rfl) (by kernel_rfl) (by kernel_rfl) (fun _ _ _ h => h) (Or.inl ⟨by rfl, ?hya18⟩) S0 ?resta18
  case hya18 => (intro w hSw; go_simp <;> with_reducible rfl)
  try simp only [Act.put, List.setIfInBounds_toArray, List.set_cons_zero, List.set_cons_succ]
  refine wpAnyH_take (i := 21) (oi := { dst := some 26, op := Op.load 2 (Operand.tmp 25), type := 2, pos := "l06_rib.go:42", after := #[{ on := 20, ground := Ground.data }], guard := none }) (v := ?vva19) rfl (by kernel_rfl) (by kernel_rfl) (by kernel_rfl) (fun _ _ _ h => h) (Or.inl ⟨by rfl, ?hya19⟩) S0 ?resta19
  case hya19 => (intro w hSw; have hc1 := hSw.1.cell; have hc2 := hSw.2.1.cell;go_simp <;> with_reducible rfl)
  try simp only [Act.put, List.setIfInBounds_toArray, List.set_cons_zero, List.set_cons_succ]
  refine wpAnyH_take (i := 22) (oi := { dst := some 27, op := Op.fieldAddr 77 (Operand.tmp 3) 2, type := 0, pos := "l06_rib.go:42", after := #[], guard := none }) (v := ?vva20) rfl (by kernel_rfl) (by kernel_rfl) (by kernel_rfl) (fun _ _ _ h => h) (Or.inl ⟨by rfl, ?hya20⟩) S0 ?resta20
  case hya20 => (intro w hSw; go_simp <;> with_reducible rfl)
  try simp only [Act.put, List.setIfInBounds_toArray, List.set_cons_zero, List.set_cons_succ]
  refine wpAnyH_take (i := 23) (oi := { dst := some 28, op := Op.fieldAddr 35 (Operand.tmp 27) 2, type := 0, pos := "l06_rib.go:42", after := #[{ on := 22, ground := Ground.data }], guard := none }) (v := ?vva21) rfl (by kernel_rfl) (by kernel_rfl) (by kernel_rfl) (fun _ _ _ h => h) (Or.inl ⟨by rfl, ?hya21⟩) S0 ?resta21
  case hya21 => (intro w hSw; go_simp <;> with_reducible rfl)
  try simp only [Act.put, List.setIfInBounds_toArray, List.set_cons_zero, List.set_cons_succ]
  refine wpAnyH_take (i := 24) (oi := { dst := some 29, op := Op.load 2 (Operand.tmp 28), type := 2, pos := "l06_rib.go:42", after := #[{ on := 23, ground := Ground.data }], guard := none }) (v := ?vva22) rfl (by kernel_rfl) (by kernel_rfl) (by kernel_rfl) (fun _ _ _ h => h) (Or.inl ⟨by rfl, ?hya22⟩) S0 ?resta22
  case hya22 => (intro w hSw; have hc1 := hSw.1.cell; have hc2 := hSw.2.1.cell;go_simp <;> with_reducible rfl)
  try simp only [Act.put, List.setIfInBounds_toArray, List.set_cons_zero, List.set_cons_succ]
  refine wpAnyH_take (i := 26) (oi := { dst := some 31, op := Op.fieldAddr 77 (Operand.tmp 2) 2, type := 0, pos := "l06_rib.go:42", after := #[], guard := none }) (v := ?vva23) rfl (by kernel_rfl) (by kernel_rfl) (by kernel_rfl) (fun _ _ _ h => h) (Or.inl ⟨by rfl, ?hya23⟩) S0 ?resta23
  case hya23 => (intro w hSw; go_simp <;> with_reducible rfl)
  try simp only [Act.put, List.setIfInBounds_toArray, List.set_cons_zero, List.set_cons_succ]
  refine wpAnyH_take (i := 27) (oi := { dst := some 32, op := Op.fieldAddr 35 (Operand.tmp 31) 4, type := 0, pos := "l06_rib.go:42", after := #[{ on := 26, ground := Ground.data }], guard := none }) (v := ?vva24) rfl (by kernel_rfl) (by kernel_rfl) (by kernel_rfl) (fun _ _ _ h => h) (Or.inl ⟨by rfl, ?hya24⟩) S0 ?resta24
  case hya24 => (intro w hSw; go_simp <;> with_reducible rfl)
  try simp only [Act.put, List.setIfInBounds_toArray, List.set_cons_zero, List.set_cons_succ]
  refine wpAnyH_take (i := 28) (oi := { dst := some 33, op := Op.load 2 (Operand.tmp 32), type := 2, pos := "l06_rib.go:42", after := #[{ on := 27, ground := Ground.data }], guard := none }) (v := ?vva25) rfl (by kernel_rfl) (by kernel_rfl) (by kernel_rfl) (fun _ _ _ h => h) (Or.inl ⟨by rfl, ?hya25⟩) S0 ?resta25
  case hya25 => (intro w hSw; have hc1 := hSw.1.cell; have hc2 := hSw.2.1.cell;go_simp <;> with_reducible rfl)
  try simp only [Act.put, List.setIfInBounds_toArray, List.set_cons_zero, List.set_cons_succ]
  refine wpAnyH_take (i := 29) (oi := { dst := some 34, op := Op.fieldAddr 77 (Operand.tmp 3) 2, type := 0, pos := "l06_rib.go:42", after := #[], guard := none }) (v := ?vva26) rfl (by kernel_rfl) (by kernel_rfl) (by kernel_rfl) (fun _ _ _ h => h) (Or.inl ⟨by rfl, ?hya26⟩) S0 ?resta26
  case hya26 => (intro w hSw; go_simp <;> with_reducible rfl)
  try simp only [Act.put, List.setIfInBounds_toArray, List.set_cons_zero, List.set_cons_succ]
  refine wpAnyH_take (i := 30) (oi := { dst := some 35, op := Op.fieldAddr 35 (Operand.tmp 34) 4, type := 0, pos := "l06_rib.go:42", after := #[{ on := 29, ground := Ground.data }], guard := none }) (v := ?vva27) rfl (by kernel_rfl) (by kernel_rfl) (by kernel_rfl) (fun _ _ _ h => h) (Or.inl ⟨by rfl, ?hya27⟩) S0 ?resta27
  case hya27 => (intro w hSw; go_simp <;> with_reducible rfl)
  try simp only [Act.put, List.setIfInBounds_toArray, List.set_cons_zero, List.set_cons_succ]
  refine wpAnyH_take (i := 31) (oi := { dst := some 36, op := Op.load 2 (Operand.tmp 35), type := 2, pos := "l06_rib.go:42", after := #[{ on := 30, ground := Ground.data }], guard := none }) (v := ?vva28) rfl (by kernel_rfl) (by kernel_rfl) (by kernel_rfl) (fun _ _ _ h => h) (Or.inl ⟨by rfl, ?hya28⟩) S0 ?resta28
  case hya28 => (intro w hSw; have hc1 := hSw.1.cell; have hc2 := hSw.2.1.cell;go_simp <;> with_reducible rfl)
  try simp only [Act.put, List.setIfInBounds_toArray, List.set_cons_zero, List.set_cons_succ]
  refine wpAnyH_ready (rs := [4]) (by kernel_rfl) (by simp) ?_
  refine AllReadyH.cons (o := { dst := some 9, op := Op.call { callee := Callee.value (Operand.func 114), args := #[Operand.tmp 6, Operand.tmp 8], argTypes := #[2, 2] }, type := 3, pos := "l06_rib.go:43", after := #[{ on := 1, ground := Ground.data }, { on := 3, ground := Ground.data }], guard := none }) rfl (fun K hK => ?_) AllReadyH.nil
  go_simp
  refine (compare_any _ _ _).mono ?_
  rintro e w1 ⟨rfl, rfl⟩
  refine hK.out _ _ S0 (fun hHeld => ?_)
  clear hK K hHeld
  try simp only [Act.put, List.setIfInBounds_toArray, List.set_cons_zero, List.set_cons_succ]
  refine wpAnyH_ready (rs := [11]) (by kernel_rfl) (by simp) ?_
  refine AllReadyH.cons (o := { dst := some 16, op := Op.call { callee := Callee.value (Operand.func 114), args := #[Operand.tmp 12, Operand.tmp 15], argTypes := #[2, 2] }, type := 3, pos := "l06_rib.go:44", after := #[{ on := 7, ground := Ground.data }, { on := 10, ground := Ground.data }, { on := 4, ground := Ground.chain }], guard := none }) rfl (fun K hK => ?_) AllReadyH.nil
  go_simp
  refine (compare_any _ _ _).mono ?_
  rintro e w1 ⟨rfl, rfl⟩
  refine hK.out _ _ S0 (fun hHeld => ?_)
  clear hK K hHeld
  try simp only [Act.put, List.setIfInBounds_toArray, List.set_cons_zero, List.set_cons_succ]
  refine wpAnyH_ready (rs := [18]) (by kernel_rfl) (by simp) ?_
  refine AllReadyH.cons (o := { dst := some 23, op := Op.call { callee := Callee.value (Operand.func 114), args := #[Operand.tmp 19, Operand.tmp 22], argTypes := #[2, 2] }, type := 3, pos := "l06_rib.go:45", after := #[{ on := 14, ground := Ground.data }, { on := 17, ground := Ground.data }, { on := 11, ground := Ground.chain }], guard := none }) rfl (fun K hK => ?_) AllReadyH.nil
  go_simp
  refine (compare_any _ _ _).mono ?_
  rintro e w1 ⟨rfl, rfl⟩
  refine hK.out _ _ S0 (fun hHeld => ?_)
  clear hK K hHeld
  try simp only [Act.put, List.setIfInBounds_toArray, List.set_cons_zero, List.set_cons_succ]
  refine wpAnyH_ready (rs := [25]) (by kernel_rfl) (by simp) ?_
  refine AllReadyH.cons (o := { dst := some 30, op := Op.call { callee := Callee.value (Operand.func 114), args := #[Operand.tmp 26, Operand.tmp 29], argTypes := #[2, 2] }, type := 3, pos := "l06_rib.go:46", after := #[{ on := 21, ground := Ground.data }, { on := 24, ground := Ground.data }, { on := 18, ground := Ground.chain }], guard := none }) rfl (fun K hK => ?_) AllReadyH.nil
  go_simp
  refine (compare_any _ _ _).mono ?_
  rintro e w1 ⟨rfl, rfl⟩
  refine hK.out _ _ S0 (fun hHeld => ?_)
  clear hK K hHeld
  try simp only [Act.put, List.setIfInBounds_toArray, List.set_cons_zero, List.set_cons_succ]
  refine wpAnyH_ready (rs := [32]) (by kernel_rfl) (by simp) ?_
  refine AllReadyH.cons (o := { dst := some 37, op := Op.call { callee := Callee.value (Operand.func 114), args := #[Operand.tmp 33, Operand.tmp 36], argTypes := #[2, 2] }, type := 3, pos := "l06_rib.go:47", after := #[{ on := 28, ground := Ground.data }, { on := 31, ground := Ground.data }, { on := 25, ground := Ground.chain }], guard := none }) rfl (fun K hK => ?_) AllReadyH.nil
  go_simp
  refine (compare_any _ _ _).mono ?_
  rintro e w1 ⟨rfl, rfl⟩
  refine hK.out _ _ S0 (fun hHeld => ?_)
  clear hK K hHeld
  try simp only [Act.put, List.setIfInBounds_toArray, List.set_cons_zero, List.set_cons_succ]
  refine wpAnyH_ready (rs := [33]) (by kernel_rfl) (by simp) ?_
  refine AllReadyH.cons (o := { dst := some 38, op := Op.buildSlice 135 5 #[(0, Operand.tmp 9), (1, Operand.tmp 16), (2, Operand.tmp 23), (3, Operand.tmp 30), (4, Operand.tmp 37)], type := 135, pos := "l06_rib.go:42", after := #[{ on := 4, ground := Ground.data }, { on := 11, ground := Ground.data }, { on := 18, ground := Ground.data }, { on := 25, ground := Ground.data }, { on := 32, ground := Ground.data }], guard := none }) rfl (fun K hK => ?_) AllReadyH.nil
  go_simp
  have hL := HO.out W2.drew
  replace S0 := And.intro (S0.1.alloc (.cells #[.int .i64 (cmpI p p'), .int .i64 (cmpI k k'), .int .i64 (cmpI v v'), .int .i64 (cmpI m m'), .int .i64 (cmpI o o')] 3)) (And.intro (S0.2.1.alloc (.cells #[.int .i64 (cmpI p p'), .int .i64 (cmpI k k'), .int .i64 (cmpI v v'), .int .i64 (cmpI m m'), .int .i64 (cmpI o o')] 3)) (S0.2.2.alloc S0.2.2.size (.cells #[.int .i64 (cmpI p p'), .int .i64 (cmpI k k'), .int .i64 (cmpI v v'), .int .i64 (cmpI m m'), .int .i64 (cmpI o o')] 3)))
  refine hK.out _ _ S0 (fun hHeld => ?_)
  clear hK K hHeld
  try simp only [Act.put, List.setIfInBounds_toArray, List.set_cons_zero, List.set_cons_succ]
  refine wpAnyH_ready (rs := [34]) (by kernel_rfl) (by simp) ?_
  refine AllReadyH.cons (o := { dst := some 39, op := Op.call { callee := Callee.value (Operand.func 113), args := #[Operand.tmp 38], argTypes := #[135] }, type := 3, pos := "l06_rib.go:42", after := #[{ on := 33, ground := Ground.data }, { on := 32, ground := Ground.chain }], guard := none }) rfl (fun K hK => ?_) AllReadyH.nil
  go_simp
  refine (HC.out _ _ hL (by simp)).mono ?_
  rintro e w1 ⟨rfl, rfl⟩
  refine hK.out _ _ S0 (fun hHeld => ?_)
  clear hK K hHeld
  try simp only [Act.put, List.setIfInBounds_toArray, List.set_cons_zero, List.set_cons_succ]
  refine wpAnyH_take (i := 35) (oi := { dst := some 4, op := Op.assign (Operand.tmp 39), type := 3, pos := "l06_rib.go:42", after := #[{ on := 34, ground := Ground.data }, { on := 34, ground := Ground.chain }, { on := 0, ground := Ground.phase }, { on := 1, ground := Ground.phase }, { on := 2, ground := Ground.phase }, { on := 3, ground := Ground.phase }, { on := 4, ground := Ground.phase }, { on := 5, ground := Ground.phase }, { on := 6, ground := Ground.phase }, { on := 7, ground := Ground.phase }, { on := 8, ground := Ground.phase }, { on := 9, ground := Ground.phase }, { on := 10, ground := Ground.phase }, { on := 11, ground := Ground.phase }, { on := 12, ground := Ground.phase }, { on := 13, ground := Ground.phase }, { on := 14, ground := Ground.phase }, { on := 15, ground := Ground.phase }, { on := 16, ground := Ground.phase }, { on := 17, ground := Ground.phase }, { on := 18, ground := Ground.phase }, { on := 19, ground := Ground.phase }, { on := 20, ground := Ground.phase }, { on := 21, ground := Ground.phase }, { on := 22, ground := Ground.phase }, { on := 23, ground := Ground.phase }, { on := 24, ground := Ground.phase }, { on := 25, ground := Ground.phase }, { on := 26, ground := Ground.phase }, { on := 27, ground := Ground.phase }, { on := 28, ground := Ground.phase }, { on := 29, ground := Ground.phase }, { on := 30, ground := Ground.phase }, { on := 31, ground := Ground.phase }, { on := 32, ground := Ground.phase }, { on := 33, ground := Ground.phase }, { on := 34, ground := Ground.phase }], guard := none }) (v := ?vva29) rfl (by kernel_rfl) (by kernel_rfl) (by kernel_rfl) (fun _ _ _ h => h) (Or.inl ⟨by rfl, ?hya29⟩) S0 ?resta29
  case hya29 => (intro w hSw; go_simp <;> with_reducible rfl)
  try simp only [Act.put, List.setIfInBounds_toArray, List.set_cons_zero, List.set_cons_succ]
  refine wpAnyH_done (by kernel_rfl) ?_ _
  go_wp2_with fail
  go_ret
  exact ⟨i64_ret HR.out, S0.2.2⟩
end Go.Proofs.Ytmkoppbbenombaa
