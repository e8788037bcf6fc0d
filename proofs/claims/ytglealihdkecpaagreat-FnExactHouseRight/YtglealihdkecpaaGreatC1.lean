import Derived.Test.YtglealihdkecpaaGreatFmI
import Derived.Test.YtglealihdkecpaaGreatHsP
import Derived.Test.YtglealihdkecpaaGreatRbR
import Derived.Test.YtglealihdkecpaaGreatGu
import Derived.Test.YtglealihdkecpaaGreatMv
import Derived.Test.YtglealihdkecpaaGreatFz
/- slices.ContainsFunc of a list of int64, with the program's own closure. -/
namespace Go.Proofs.YtglealihdkecpaaGreat
open Go.RowKit

set_option maxRecDepth 100000 in
set_option maxHeartbeats 2000000 in
theorem indexFI_any (p : Int → Bool) (l : List Int) (v : Value) (w : World) (h : SlAt w 1 v (l.map clI)) (hn : l.length ≤ 1048576) (hp : ∀ (i : Nat) (hi : i < l.length) (W : World), Below w.heap.size w W → Calls Tryz.prog 110 #[.int .i64 l[i]] W fun e w' => e = .returned (.bool (p l[i])) ∧ Below W.heap.size W w') :
    Calls Tryz.prog 162 #[v, .func (.func 110) #[] #[]] w fun e w' => ∃ k : Int, e = .returned (.int .i64 k) ∧ Hid (decide (0 ≤ k) = l.any p) ∧ Below w.heap.size w w' := by
  obtain ⟨a, cap, rfl, h⟩ := h
  rw [List.length_map] at *
  have HH := Lib.hid h
  have HP := Lib.hid hp
  clear h hp
  have HY := Lib.hid (fun (i : Nat) (hi : i < l.length) (h : p l[i] = true) => (show l.any p = true from List.any_eq_true.2 ⟨_, List.getElem_mem hi, h⟩))
  have HNo := Lib.hid (fun (h : ∀ i (hi : i < l.length), p l[i] = false) => (show l.any p = false from by
    rw [List.any_eq_false]
    intro x hx
    obtain ⟨i, hi, rfl⟩ := List.getElem_of_mem hx
    rw [h i hi]
    decide))
  generalize l.any p = R at *
  obtain ⟨n, hnn⟩ : ∃ n, n = l.length := ⟨_, rfl⟩
  rw [← hnn] at hn ⊢
  have HN := Lib.hid hnn
  clear hnn
  go_enter Tryz.func162, Tryz.ntmps162
  go_wp2_with fail
  go_loopw [8, 5] (fun u _ wr => ∃ i : Nat, i ≤ n ∧ u = .int .i64 (i : Int) ∧ Hid (∀ k (hk : k < l.length), k < i → p l[k] = false) ∧ Hid (Below w.heap.size w wr)) (fun u _ _ => n - (intOf u).toNat)
  case atStart => exact ⟨0, Nat.zero_le _, rfl, Lib.hid (fun k _ hk => by omega), Lib.hid (Below.refl _ _)⟩
  case round =>
    obtain ⟨i, hi, rfl, HK, HB⟩ := hrel
    by_cases hlt : i < n
    · have hir : i < l.length := by rw [← HN.out]; exact hlt
      have hne : l.map clI ≠ [] := fun e => by
        have := congrArg List.length e
        rw [List.length_map, ← HN.out] at this
        simp at this; omega
      obtain ⟨b, off, ha, hb, HE⟩ := HH.out hne
      subst ha
      have hl1 : (i : Int) < n := by omega
      have p0 : wr.cell? ⟨b, off + i, none⟩ = some (.int .i64 l[i]) := by
        have := (fun i cs hi j u hj => (HB.out.cell (p := ⟨b, off + i * 1 + j, none⟩) hb).trans (HE i cs hi j u hj) : Elems wr b off 1 (l.map clI)) i (clI l[i]) (by rw [List.getElem?_map, List.getElem?_eq_getElem hir]; rfl) 0 _ rfl
        simpa using this
      have HQ := Lib.hid (HP.out i hir wr HB.out)
      have HYi := Lib.hid (HY.out i hir)
      have HKs := Lib.hid (fun (e : p l[i] = false) (k : Nat) (hk : k < l.length) (hki : k < i + 1) => (show p l[k] = false from by
        by_cases h : k = i
        · subst h; exact e
        · exact HK.out k hk (by omega)))
      clear HE
      generalize p l[i] = r at *
      generalize l[i] = y at *
      cases r
      · go_wp2_with fail
        refine HQ.out.mono ?_
        rintro e w1 ⟨rfl, hb1⟩
        have HB1 : Hid (Below w.heap.size w w1) := Lib.hid (HB.out.trans (hb1.mono HB.out.size))
        clear hb1 p0
        go_wp2_with fail
        go_roundw
        case rel => exact ⟨i + 1, by omega, by simp, Lib.hid (HKs.out (by first | trivial | rfl)), HB1⟩
        case measure => simp [intOf]; omega
      · go_wp2_with fail
        refine HQ.out.mono ?_
        rintro e w1 ⟨rfl, hb1⟩
        have HB1 : Hid (Below w.heap.size w w1) := Lib.hid (HB.out.trans (hb1.mono HB.out.size))
        clear hb1 p0
        go_wp2_with fail
        go_ret
        exact ⟨_, rfl, Lib.hid (by rw [HYi.out (by first | trivial | rfl)]; exact decide_eq_true (by omega)), HB1.out⟩
    · have hin : i = n := by omega
      subst hin
      go_wp2_with fail
      go_ret
      exact ⟨_, rfl, Lib.hid (by rw [HNo.out (fun k hk => HK.out k hk (by rw [HN.out]; exact hk))]; decide), HB.out⟩
set_option maxRecDepth 100000 in
set_option maxHeartbeats 1000000 in
theorem containsFI_any (p : Int → Bool) (l : List Int) (v : Value) (w : World) (h : SlAt w 1 v (l.map clI)) (hn : l.length ≤ 1048576) (hp : ∀ (i : Nat) (hi : i < l.length) (W : World), Below w.heap.size w W → Calls Tryz.prog 110 #[.int .i64 l[i]] W fun e w' => e = .returned (.bool (p l[i])) ∧ Below W.heap.size W w') :
    Calls Tryz.prog 109 #[v, .func (.func 110) #[] #[]] w fun e w' => e = .returned (.bool (l.any p)) ∧ Below w.heap.size w w' := by
  have HQ := Lib.hid (indexFI_any p l v w h hn hp)
  obtain ⟨a, cap, rfl, _⟩ := h
  clear hp
  rw [List.length_map] at *
  generalize l.any p = R at *
  go_enter Tryz.func109, Tryz.ntmps109
  go_wp2_with fail
  refine HQ.out.mono ?_
  rintro e w1 ⟨k, rfl, hk, hb⟩
  have HB := Lib.hid hb
  clear hb
  by_cases h0 : 0 ≤ k
  · go_wp2_with fail
    go_ret
    exact ⟨bool_ret (by first | exact hk.out | (have h2 := hk.out; rw [decide_eq_true h0] at h2; exact h2)), HB.out⟩
  · go_wp2_with fail
    go_ret
    exact ⟨bool_ret (by first | exact hk.out | (have h2 := hk.out; rw [decide_eq_false (show ¬ 0 ≤ k by omega)] at h2; exact h2)), HB.out⟩
end Go.Proofs.YtglealihdkecpaaGreat

/- slices.ContainsFunc of a list of impl.Pipe, with the program's own closure. -/
namespace Go.Proofs.YtglealihdkecpaaGreat
open Go.RowKit

set_option maxRecDepth 100000 in
set_option maxHeartbeats 2000000 in
theorem indexFP_any (p : Pi → Bool) (q : Nat) (l : List Pi) (v : Value) (w : World) (h : SlAt w 5 v (l.map Pi.cl)) (hn : l.length ≤ 1048576) (hp : ∀ (i : Nat) (hi : i < l.length) (W : World), Below w.heap.size w W → Calls Tryz.prog 112 #[(l[i]).val, .pointer (some ⟨q, 0, none⟩)] W fun e w' => e = .returned (.bool (p l[i])) ∧ Below W.heap.size W w') :
    Calls Tryz.prog 163 #[v, .func (.func 112) #[] #[.pointer (some ⟨q, 0, none⟩)]] w fun e w' => ∃ k : Int, e = .returned (.int .i64 k) ∧ Hid (decide (0 ≤ k) = l.any p) ∧ Below w.heap.size w w' := by
  obtain ⟨a, cap, rfl, h⟩ := h
  rw [List.length_map] at *
  have HH := Lib.hid h
  have HP := Lib.hid hp
  clear h hp
  have HY := Lib.hid (fun (i : Nat) (hi : i < l.length) (h : p l[i] = true) => (show l.any p = true from List.any_eq_true.2 ⟨_, List.getElem_mem hi, h⟩))
  have HNo := Lib.hid (fun (h : ∀ i (hi : i < l.length), p l[i] = false) => (show l.any p = false from by
    rw [List.any_eq_false]
    intro x hx
    obtain ⟨i, hi, rfl⟩ := List.getElem_of_mem hx
    rw [h i hi]
    decide))
  generalize l.any p = R at *
  obtain ⟨n, hnn⟩ : ∃ n, n = l.length := ⟨_, rfl⟩
  rw [← hnn] at hn ⊢
  have HN := Lib.hid hnn
  clear hnn
  go_enter Tryz.func163, Tryz.ntmps163
  go_wp2_with fail
  go_loopw [8, 5] (fun u _ wr => ∃ i : Nat, i ≤ n ∧ u = .int .i64 (i : Int) ∧ Hid (∀ k (hk : k < l.length), k < i → p l[k] = false) ∧ Hid (Below w.heap.size w wr)) (fun u _ _ => n - (intOf u).toNat)
  case atStart => exact ⟨0, Nat.zero_le _, rfl, Lib.hid (fun k _ hk => by omega), Lib.hid (Below.refl _ _)⟩
  case round =>
    obtain ⟨i, hi, rfl, HK, HB⟩ := hrel
    by_cases hlt : i < n
    · have hir : i < l.length := by rw [← HN.out]; exact hlt
      have hne : l.map Pi.cl ≠ [] := fun e => by
        have := congrArg List.length e
        rw [List.length_map, ← HN.out] at this
        simp at this; omega
      obtain ⟨b, off, ha, hb, HE⟩ := HH.out hne
      subst ha
      have hl1 : (i : Int) < n := by omega
      obtain ⟨p0, p1, p2, p3, p4⟩ := Elems.pi (show Elems wr b off 5 (l.map Pi.cl) from fun i cs hi j u hj => (HB.out.cell (p := ⟨b, off + i * 5 + j, none⟩) hb).trans (HE i cs hi j u hj)) i hir
      have HQ := Lib.hid (HP.out i hir wr HB.out)
      unfold Pi.val ppV at HQ
      have HYi := Lib.hid (HY.out i hir)
      have HKs := Lib.hid (fun (e : p l[i] = false) (k : Nat) (hk : k < l.length) (hki : k < i + 1) => (show p l[k] = false from by
        by_cases h : k = i
        · subst h; exact e
        · exact HK.out k hk (by omega)))
      clear HE
      generalize p l[i] = r at *
      generalize l[i] = y at *
      cases r
      · go_wp2_with fail
        refine HQ.out.mono ?_
        rintro e w1 ⟨rfl, hb1⟩
        have HB1 : Hid (Below w.heap.size w w1) := Lib.hid (HB.out.trans (hb1.mono HB.out.size))
        clear hb1 p0 p1 p2 p3 p4
        go_wp2_with fail
        go_roundw
        case rel => exact ⟨i + 1, by omega, by simp, Lib.hid (HKs.out (by first | trivial | rfl)), HB1⟩
        case measure => simp [intOf]; omega
      · go_wp2_with fail
        refine HQ.out.mono ?_
        rintro e w1 ⟨rfl, hb1⟩
        have HB1 : Hid (Below w.heap.size w w1) := Lib.hid (HB.out.trans (hb1.mono HB.out.size))
        clear hb1 p0 p1 p2 p3 p4
        go_wp2_with fail
        go_ret
        exact ⟨_, rfl, Lib.hid (by rw [HYi.out (by first | trivial | rfl)]; exact decide_eq_true (by omega)), HB1.out⟩
    · have hin : i = n := by omega
      subst hin
      go_wp2_with fail
      go_ret
      exact ⟨_, rfl, Lib.hid (by rw [HNo.out (fun k hk => HK.out k hk (by rw [HN.out]; exact hk))]; decide), HB.out⟩
set_option maxRecDepth 100000 in
set_option maxHeartbeats 1000000 in
theorem containsFP_any (p : Pi → Bool) (q : Nat) (l : List Pi) (v : Value) (w : World) (h : SlAt w 5 v (l.map Pi.cl)) (hn : l.length ≤ 1048576) (hp : ∀ (i : Nat) (hi : i < l.length) (W : World), Below w.heap.size w W → Calls Tryz.prog 112 #[(l[i]).val, .pointer (some ⟨q, 0, none⟩)] W fun e w' => e = .returned (.bool (p l[i])) ∧ Below W.heap.size W w') :
    Calls Tryz.prog 111 #[v, .func (.func 112) #[] #[.pointer (some ⟨q, 0, none⟩)]] w fun e w' => e = .returned (.bool (l.any p)) ∧ Below w.heap.size w w' := by
  have HQ := Lib.hid (indexFP_any p q l v w h hn hp)
  obtain ⟨a, cap, rfl, _⟩ := h
  clear hp
  rw [List.length_map] at *
  generalize l.any p = R at *
  go_enter Tryz.func111, Tryz.ntmps111
  go_wp2_with fail
  refine HQ.out.mono ?_
  rintro e w1 ⟨k, rfl, hk, hb⟩
  have HB := Lib.hid hb
  clear hb
  by_cases h0 : 0 ≤ k
  · go_wp2_with fail
    go_ret
    exact ⟨bool_ret (by first | exact hk.out | (have h2 := hk.out; rw [decide_eq_true h0] at h2; exact h2)), HB.out⟩
  · go_wp2_with fail
    go_ret
    exact ⟨bool_ret (by first | exact hk.out | (have h2 := hk.out; rw [decide_eq_false (show ¬ 0 ≤ k by omega)] at h2; exact h2)), HB.out⟩
end Go.Proofs.YtglealihdkecpaaGreat

/- slices.ContainsFunc of a list of impl.Held, with the program's own closure. -/
namespace Go.Proofs.YtglealihdkecpaaGreat
open Go.RowKit

set_option maxRecDepth 100000 in
set_option maxHeartbeats 2000000 in
theorem indexFH_any (p : Hd → Bool) (q : Nat) (l : List Hd) (v : Value) (w : World) (h : SlAt w 9 v (l.map Hd.cl)) (hn : l.length ≤ 1048576) (hp : ∀ (i : Nat) (hi : i < l.length) (W : World), Below w.heap.size w W → Calls Tryz.prog 116 #[(l[i]).val, .pointer (some ⟨q, 0, none⟩)] W fun e w' => e = .returned (.bool (p l[i])) ∧ Below W.heap.size W w') :
    Calls Tryz.prog 169 #[v, .func (.func 116) #[] #[.pointer (some ⟨q, 0, none⟩)]] w fun e w' => ∃ k : Int, e = .returned (.int .i64 k) ∧ Hid (decide (0 ≤ k) = l.any p) ∧ Below w.heap.size w w' := by
  obtain ⟨a, cap, rfl, h⟩ := h
  rw [List.length_map] at *
  have HH := Lib.hid h
  have HP := Lib.hid hp
  clear h hp
  have HY := Lib.hid (fun (i : Nat) (hi : i < l.length) (h : p l[i] = true) => (show l.any p = true from List.any_eq_true.2 ⟨_, List.getElem_mem hi, h⟩))
  have HNo := Lib.hid (fun (h : ∀ i (hi : i < l.length), p l[i] = false) => (show l.any p = false from by
    rw [List.any_eq_false]
    intro x hx
    obtain ⟨i, hi, rfl⟩ := List.getElem_of_mem hx
    rw [h i hi]
    decide))
  generalize l.any p = R at *
  obtain ⟨n, hnn⟩ : ∃ n, n = l.length := ⟨_, rfl⟩
  rw [← hnn] at hn ⊢
  have HN := Lib.hid hnn
  clear hnn
  go_enter Tryz.func169, Tryz.ntmps169
  go_wp2_with fail
  go_loopw [8, 5] (fun u _ wr => ∃ i : Nat, i ≤ n ∧ u = .int .i64 (i : Int) ∧ Hid (∀ k (hk : k < l.length), k < i → p l[k] = false) ∧ Hid (Below w.heap.size w wr)) (fun u _ _ => n - (intOf u).toNat)
  case atStart => exact ⟨0, Nat.zero_le _, rfl, Lib.hid (fun k _ hk => by omega), Lib.hid (Below.refl _ _)⟩
  case round =>
    obtain ⟨i, hi, rfl, HK, HB⟩ := hrel
    by_cases hlt : i < n
    · have hir : i < l.length := by rw [← HN.out]; exact hlt
      have hne : l.map Hd.cl ≠ [] := fun e => by
        have := congrArg List.length e
        rw [List.length_map, ← HN.out] at this
        simp at this; omega
      obtain ⟨b, off, ha, hb, HE⟩ := HH.out hne
      subst ha
      have hl1 : (i : Int) < n := by omega
      obtain ⟨p0, p1, p2, p3, p4, p5, p6, p7, p8⟩ := Elems.hd (show Elems wr b off 9 (l.map Hd.cl) from fun i cs hi j u hj => (HB.out.cell (p := ⟨b, off + i * 9 + j, none⟩) hb).trans (HE i cs hi j u hj)) i hir
      have HQ := Lib.hid (HP.out i hir wr HB.out)
      unfold Hd.val at HQ
      have HYi := Lib.hid (HY.out i hir)
      have HKs := Lib.hid (fun (e : p l[i] = false) (k : Nat) (hk : k < l.length) (hki : k < i + 1) => (show p l[k] = false from by
        by_cases h : k = i
        · subst h; exact e
        · exact HK.out k hk (by omega)))
      clear HE
      generalize p l[i] = r at *
      generalize l[i] = y at *
      cases r
      · go_wp2_with fail
        refine HQ.out.mono ?_
        rintro e w1 ⟨rfl, hb1⟩
        have HB1 : Hid (Below w.heap.size w w1) := Lib.hid (HB.out.trans (hb1.mono HB.out.size))
        clear hb1 p0 p1 p2 p3 p4 p5 p6 p7 p8
        go_wp2_with fail
        go_roundw
        case rel => exact ⟨i + 1, by omega, by simp, Lib.hid (HKs.out (by first | trivial | rfl)), HB1⟩
        case measure => simp [intOf]; omega
      · go_wp2_with fail
        refine HQ.out.mono ?_
        rintro e w1 ⟨rfl, hb1⟩
        have HB1 : Hid (Below w.heap.size w w1) := Lib.hid (HB.out.trans (hb1.mono HB.out.size))
        clear hb1 p0 p1 p2 p3 p4 p5 p6 p7 p8
        go_wp2_with fail
        go_ret
        exact ⟨_, rfl, Lib.hid (by rw [HYi.out (by first | trivial | rfl)]; exact decide_eq_true (by omega)), HB1.out⟩
    · have hin : i = n := by omega
      subst hin
      go_wp2_with fail
      go_ret
      exact ⟨_, rfl, Lib.hid (by rw [HNo.out (fun k hk => HK.out k hk (by rw [HN.out]; exact hk))]; decide), HB.out⟩
set_option maxRecDepth 100000 in
set_option maxHeartbeats 1000000 in
theorem containsFH_any (p : Hd → Bool) (q : Nat) (l : List Hd) (v : Value) (w : World) (h : SlAt w 9 v (l.map Hd.cl)) (hn : l.length ≤ 1048576) (hp : ∀ (i : Nat) (hi : i < l.length) (W : World), Below w.heap.size w W → Calls Tryz.prog 116 #[(l[i]).val, .pointer (some ⟨q, 0, none⟩)] W fun e w' => e = .returned (.bool (p l[i])) ∧ Below W.heap.size W w') :
    Calls Tryz.prog 115 #[v, .func (.func 116) #[] #[.pointer (some ⟨q, 0, none⟩)]] w fun e w' => e = .returned (.bool (l.any p)) ∧ Below w.heap.size w w' := by
  have HQ := Lib.hid (indexFH_any p q l v w h hn hp)
  obtain ⟨a, cap, rfl, _⟩ := h
  clear hp
  rw [List.length_map] at *
  generalize l.any p = R at *
  go_enter Tryz.func115, Tryz.ntmps115
  go_wp2_with fail
  refine HQ.out.mono ?_
  rintro e w1 ⟨k, rfl, hk, hb⟩
  have HB := Lib.hid hb
  clear hb
  by_cases h0 : 0 ≤ k
  · go_wp2_with fail
    go_ret
    exact ⟨bool_ret (by first | exact hk.out | (have h2 := hk.out; rw [decide_eq_true h0] at h2; exact h2)), HB.out⟩
  · go_wp2_with fail
    go_ret
    exact ⟨bool_ret (by first | exact hk.out | (have h2 := hk.out; rw [decide_eq_false (show ¬ 0 ≤ k by omega)] at h2; exact h2)), HB.out⟩
end Go.Proofs.YtglealihdkecpaaGreat

/- slices.ContainsFunc of a list of impl.Guest, with the program's own closure. -/
namespace Go.Proofs.YtglealihdkecpaaGreat
open Go.RowKit

set_option maxRecDepth 100000 in
set_option maxHeartbeats 2000000 in
theorem indexFG_any (p : Gu → Bool) (q : Nat) (l : List Gu) (v : Value) (w : World) (h : SlAt w 7 v (l.map Gu.cl)) (hn : l.length ≤ 1048576) (hp : ∀ (i : Nat) (hi : i < l.length) (W : World), Below w.heap.size w W → Calls Tryz.prog 119 #[(l[i]).val, .pointer (some ⟨q, 0, none⟩)] W fun e w' => e = .returned (.bool (p l[i])) ∧ Below W.heap.size W w') :
    Calls Tryz.prog 172 #[v, .func (.func 119) #[] #[.pointer (some ⟨q, 0, none⟩)]] w fun e w' => ∃ k : Int, e = .returned (.int .i64 k) ∧ Hid (decide (0 ≤ k) = l.any p) ∧ Below w.heap.size w w' := by
  obtain ⟨a, cap, rfl, h⟩ := h
  rw [List.length_map] at *
  have HH := Lib.hid h
  have HP := Lib.hid hp
  clear h hp
  have HY := Lib.hid (fun (i : Nat) (hi : i < l.length) (h : p l[i] = true) => (show l.any p = true from List.any_eq_true.2 ⟨_, List.getElem_mem hi, h⟩))
  have HNo := Lib.hid (fun (h : ∀ i (hi : i < l.length), p l[i] = false) => (show l.any p = false from by
    rw [List.any_eq_false]
    intro x hx
    obtain ⟨i, hi, rfl⟩ := List.getElem_of_mem hx
    rw [h i hi]
    decide))
  generalize l.any p = R at *
  obtain ⟨n, hnn⟩ : ∃ n, n = l.length := ⟨_, rfl⟩
  rw [← hnn] at hn ⊢
  have HN := Lib.hid hnn
  clear hnn
  go_enter Tryz.func172, Tryz.ntmps172
  go_wp2_with fail
  go_loopw [8, 5] (fun u _ wr => ∃ i : Nat, i ≤ n ∧ u = .int .i64 (i : Int) ∧ Hid (∀ k (hk : k < l.length), k < i → p l[k] = false) ∧ Hid (Below w.heap.size w wr)) (fun u _ _ => n - (intOf u).toNat)
  case atStart => exact ⟨0, Nat.zero_le _, rfl, Lib.hid (fun k _ hk => by omega), Lib.hid (Below.refl _ _)⟩
  case round =>
    obtain ⟨i, hi, rfl, HK, HB⟩ := hrel
    by_cases hlt : i < n
    · have hir : i < l.length := by rw [← HN.out]; exact hlt
      have hne : l.map Gu.cl ≠ [] := fun e => by
        have := congrArg List.length e
        rw [List.length_map, ← HN.out] at this
        simp at this; omega
      obtain ⟨b, off, ha, hb, HE⟩ := HH.out hne
      subst ha
      have hl1 : (i : Int) < n := by omega
      obtain ⟨p0, p1, p2, p3, p4, p5, p6⟩ := Elems.gu (show Elems wr b off 7 (l.map Gu.cl) from fun i cs hi j u hj => (HB.out.cell (p := ⟨b, off + i * 7 + j, none⟩) hb).trans (HE i cs hi j u hj)) i hir
      have HQ := Lib.hid (HP.out i hir wr HB.out)
      unfold Gu.val at HQ
      have HYi := Lib.hid (HY.out i hir)
      have HKs := Lib.hid (fun (e : p l[i] = false) (k : Nat) (hk : k < l.length) (hki : k < i + 1) => (show p l[k] = false from by
        by_cases h : k = i
        · subst h; exact e
        · exact HK.out k hk (by omega)))
      clear HE
      generalize p l[i] = r at *
      generalize l[i] = y at *
      cases r
      · go_wp2_with fail
        refine HQ.out.mono ?_
        rintro e w1 ⟨rfl, hb1⟩
        have HB1 : Hid (Below w.heap.size w w1) := Lib.hid (HB.out.trans (hb1.mono HB.out.size))
        clear hb1 p0 p1 p2 p3 p4 p5 p6
        go_wp2_with fail
        go_roundw
        case rel => exact ⟨i + 1, by omega, by simp, Lib.hid (HKs.out (by first | trivial | rfl)), HB1⟩
        case measure => simp [intOf]; omega
      · go_wp2_with fail
        refine HQ.out.mono ?_
        rintro e w1 ⟨rfl, hb1⟩
        have HB1 : Hid (Below w.heap.size w w1) := Lib.hid (HB.out.trans (hb1.mono HB.out.size))
        clear hb1 p0 p1 p2 p3 p4 p5 p6
        go_wp2_with fail
        go_ret
        exact ⟨_, rfl, Lib.hid (by rw [HYi.out (by first | trivial | rfl)]; exact decide_eq_true (by omega)), HB1.out⟩
    · have hin : i = n := by omega
      subst hin
      go_wp2_with fail
      go_ret
      exact ⟨_, rfl, Lib.hid (by rw [HNo.out (fun k hk => HK.out k hk (by rw [HN.out]; exact hk))]; decide), HB.out⟩
set_option maxRecDepth 100000 in
set_option maxHeartbeats 1000000 in
theorem containsFG_any (p : Gu → Bool) (q : Nat) (l : List Gu) (v : Value) (w : World) (h : SlAt w 7 v (l.map Gu.cl)) (hn : l.length ≤ 1048576) (hp : ∀ (i : Nat) (hi : i < l.length) (W : World), Below w.heap.size w W → Calls Tryz.prog 119 #[(l[i]).val, .pointer (some ⟨q, 0, none⟩)] W fun e w' => e = .returned (.bool (p l[i])) ∧ Below W.heap.size W w') :
    Calls Tryz.prog 118 #[v, .func (.func 119) #[] #[.pointer (some ⟨q, 0, none⟩)]] w fun e w' => e = .returned (.bool (l.any p)) ∧ Below w.heap.size w w' := by
  have HQ := Lib.hid (indexFG_any p q l v w h hn hp)
  obtain ⟨a, cap, rfl, _⟩ := h
  clear hp
  rw [List.length_map] at *
  generalize l.any p = R at *
  go_enter Tryz.func118, Tryz.ntmps118
  go_wp2_with fail
  refine HQ.out.mono ?_
  rintro e w1 ⟨k, rfl, hk, hb⟩
  have HB := Lib.hid hb
  clear hb
  by_cases h0 : 0 ≤ k
  · go_wp2_with fail
    go_ret
    exact ⟨bool_ret (by first | exact hk.out | (have h2 := hk.out; rw [decide_eq_true h0] at h2; exact h2)), HB.out⟩
  · go_wp2_with fail
    go_ret
    exact ⟨bool_ret (by first | exact hk.out | (have h2 := hk.out; rw [decide_eq_false (show ¬ 0 ≤ k by omega)] at h2; exact h2)), HB.out⟩
end Go.Proofs.YtglealihdkecpaaGreat

/- slices.ContainsFunc of a list of impl.Went, with the program's own closure. -/
namespace Go.Proofs.YtglealihdkecpaaGreat
open Go.RowKit

set_option maxRecDepth 100000 in
set_option maxHeartbeats 2000000 in
theorem indexFM_any (p : Mv → Bool) (q : Nat) (l : List Mv) (v : Value) (w : World) (h : SlAt w 3 v (l.map Mv.cl)) (hn : l.length ≤ 1048576) (hp : ∀ (i : Nat) (hi : i < l.length) (W : World), Below w.heap.size w W → Calls Tryz.prog 123 #[(l[i]).val, .pointer (some ⟨q, 0, none⟩)] W fun e w' => e = .returned (.bool (p l[i])) ∧ Below W.heap.size W w') :
    Calls Tryz.prog 174 #[v, .func (.func 123) #[] #[.pointer (some ⟨q, 0, none⟩)]] w fun e w' => ∃ k : Int, e = .returned (.int .i64 k) ∧ Hid (decide (0 ≤ k) = l.any p) ∧ Below w.heap.size w w' := by
  obtain ⟨a, cap, rfl, h⟩ := h
  rw [List.length_map] at *
  have HH := Lib.hid h
  have HP := Lib.hid hp
  clear h hp
  have HY := Lib.hid (fun (i : Nat) (hi : i < l.length) (h : p l[i] = true) => (show l.any p = true from List.any_eq_true.2 ⟨_, List.getElem_mem hi, h⟩))
  have HNo := Lib.hid (fun (h : ∀ i (hi : i < l.length), p l[i] = false) => (show l.any p = false from by
    rw [List.any_eq_false]
    intro x hx
    obtain ⟨i, hi, rfl⟩ := List.getElem_of_mem hx
    rw [h i hi]
    decide))
  generalize l.any p = R at *
  obtain ⟨n, hnn⟩ : ∃ n, n = l.length := ⟨_, rfl⟩
  rw [← hnn] at hn ⊢
  have HN := Lib.hid hnn
  clear hnn
  go_enter Tryz.func174, Tryz.ntmps174
  go_wp2_with fail
  go_loopw [8, 5] (fun u _ wr => ∃ i : Nat, i ≤ n ∧ u = .int .i64 (i : Int) ∧ Hid (∀ k (hk : k < l.length), k < i → p l[k] = false) ∧ Hid (Below w.heap.size w wr)) (fun u _ _ => n - (intOf u).toNat)
  case atStart => exact ⟨0, Nat.zero_le _, rfl, Lib.hid (fun k _ hk => by omega), Lib.hid (Below.refl _ _)⟩
  case round =>
    obtain ⟨i, hi, rfl, HK, HB⟩ := hrel
    by_cases hlt : i < n
    · have hir : i < l.length := by rw [← HN.out]; exact hlt
      have hne : l.map Mv.cl ≠ [] := fun e => by
        have := congrArg List.length e
        rw [List.length_map, ← HN.out] at this
        simp at this; omega
      obtain ⟨b, off, ha, hb, HE⟩ := HH.out hne
      subst ha
      have hl1 : (i : Int) < n := by omega
      obtain ⟨p0, p1, p2⟩ := Elems.mv (show Elems wr b off 3 (l.map Mv.cl) from fun i cs hi j u hj => (HB.out.cell (p := ⟨b, off + i * 3 + j, none⟩) hb).trans (HE i cs hi j u hj)) i hir
      have HQ := Lib.hid (HP.out i hir wr HB.out)
      unfold Mv.val at HQ
      have HYi := Lib.hid (HY.out i hir)
      have HKs := Lib.hid (fun (e : p l[i] = false) (k : Nat) (hk : k < l.length) (hki : k < i + 1) => (show p l[k] = false from by
        by_cases h : k = i
        · subst h; exact e
        · exact HK.out k hk (by omega)))
      clear HE
      generalize p l[i] = r at *
      generalize l[i] = y at *
      cases r
      · go_wp2_with fail
        refine HQ.out.mono ?_
        rintro e w1 ⟨rfl, hb1⟩
        have HB1 : Hid (Below w.heap.size w w1) := Lib.hid (HB.out.trans (hb1.mono HB.out.size))
        clear hb1 p0 p1 p2
        go_wp2_with fail
        go_roundw
        case rel => exact ⟨i + 1, by omega, by simp, Lib.hid (HKs.out (by first | trivial | rfl)), HB1⟩
        case measure => simp [intOf]; omega
      · go_wp2_with fail
        refine HQ.out.mono ?_
        rintro e w1 ⟨rfl, hb1⟩
        have HB1 : Hid (Below w.heap.size w w1) := Lib.hid (HB.out.trans (hb1.mono HB.out.size))
        clear hb1 p0 p1 p2
        go_wp2_with fail
        go_ret
        exact ⟨_, rfl, Lib.hid (by rw [HYi.out (by first | trivial | rfl)]; exact decide_eq_true (by omega)), HB1.out⟩
    · have hin : i = n := by omega
      subst hin
      go_wp2_with fail
      go_ret
      exact ⟨_, rfl, Lib.hid (by rw [HNo.out (fun k hk => HK.out k hk (by rw [HN.out]; exact hk))]; decide), HB.out⟩
set_option maxRecDepth 100000 in
set_option maxHeartbeats 1000000 in
theorem containsFM_any (p : Mv → Bool) (q : Nat) (l : List Mv) (v : Value) (w : World) (h : SlAt w 3 v (l.map Mv.cl)) (hn : l.length ≤ 1048576) (hp : ∀ (i : Nat) (hi : i < l.length) (W : World), Below w.heap.size w W → Calls Tryz.prog 123 #[(l[i]).val, .pointer (some ⟨q, 0, none⟩)] W fun e w' => e = .returned (.bool (p l[i])) ∧ Below W.heap.size W w') :
    Calls Tryz.prog 122 #[v, .func (.func 123) #[] #[.pointer (some ⟨q, 0, none⟩)]] w fun e w' => e = .returned (.bool (l.any p)) ∧ Below w.heap.size w w' := by
  have HQ := Lib.hid (indexFM_any p q l v w h hn hp)
  obtain ⟨a, cap, rfl, _⟩ := h
  clear hp
  rw [List.length_map] at *
  generalize l.any p = R at *
  go_enter Tryz.func122, Tryz.ntmps122
  go_wp2_with fail
  refine HQ.out.mono ?_
  rintro e w1 ⟨k, rfl, hk, hb⟩
  have HB := Lib.hid hb
  clear hb
  by_cases h0 : 0 ≤ k
  · go_wp2_with fail
    go_ret
    exact ⟨bool_ret (by first | exact hk.out | (have h2 := hk.out; rw [decide_eq_true h0] at h2; exact h2)), HB.out⟩
  · go_wp2_with fail
    go_ret
    exact ⟨bool_ret (by first | exact hk.out | (have h2 := hk.out; rw [decide_eq_false (show ¬ 0 ≤ k by omega)] at h2; exact h2)), HB.out⟩
end Go.Proofs.YtglealihdkecpaaGreat

/- slices.ContainsFunc of a list of impl.Frozen, with the program's own closure. -/
namespace Go.Proofs.YtglealihdkecpaaGreat
open Go.RowKit

set_option maxRecDepth 100000 in
set_option maxHeartbeats 2000000 in
theorem indexFF_any (p : Fz → Bool) (q : Nat) (l : List Fz) (v : Value) (w : World) (h : SlAt w 4 v (l.map Fz.cl)) (hn : l.length ≤ 1048576) (hp : ∀ (i : Nat) (hi : i < l.length) (W : World), Below w.heap.size w W → Calls Tryz.prog 128 #[(l[i]).val, .pointer (some ⟨q, 0, none⟩)] W fun e w' => e = .returned (.bool (p l[i])) ∧ Below W.heap.size W w') :
    Calls Tryz.prog 177 #[v, .func (.func 128) #[] #[.pointer (some ⟨q, 0, none⟩)]] w fun e w' => ∃ k : Int, e = .returned (.int .i64 k) ∧ Hid (decide (0 ≤ k) = l.any p) ∧ Below w.heap.size w w' := by
  obtain ⟨a, cap, rfl, h⟩ := h
  rw [List.length_map] at *
  have HH := Lib.hid h
  have HP := Lib.hid hp
  clear h hp
  have HY := Lib.hid (fun (i : Nat) (hi : i < l.length) (h : p l[i] = true) => (show l.any p = true from List.any_eq_true.2 ⟨_, List.getElem_mem hi, h⟩))
  have HNo := Lib.hid (fun (h : ∀ i (hi : i < l.length), p l[i] = false) => (show l.any p = false from by
    rw [List.any_eq_false]
    intro x hx
    obtain ⟨i, hi, rfl⟩ := List.getElem_of_mem hx
    rw [h i hi]
    decide))
  generalize l.any p = R at *
  obtain ⟨n, hnn⟩ : ∃ n, n = l.length := ⟨_, rfl⟩
  rw [← hnn] at hn ⊢
  have HN := Lib.hid hnn
  clear hnn
  go_enter Tryz.func177, Tryz.ntmps177
  go_wp2_with fail
  go_loopw [8, 5] (fun u _ wr => ∃ i : Nat, i ≤ n ∧ u = .int .i64 (i : Int) ∧ Hid (∀ k (hk : k < l.length), k < i → p l[k] = false) ∧ Hid (Below w.heap.size w wr)) (fun u _ _ => n - (intOf u).toNat)
  case atStart => exact ⟨0, Nat.zero_le _, rfl, Lib.hid (fun k _ hk => by omega), Lib.hid (Below.refl _ _)⟩
  case round =>
    obtain ⟨i, hi, rfl, HK, HB⟩ := hrel
    by_cases hlt : i < n
    · have hir : i < l.length := by rw [← HN.out]; exact hlt
      have hne : l.map Fz.cl ≠ [] := fun e => by
        have := congrArg List.length e
        rw [List.length_map, ← HN.out] at this
        simp at this; omega
      obtain ⟨b, off, ha, hb, HE⟩ := HH.out hne
      subst ha
      have hl1 : (i : Int) < n := by omega
      obtain ⟨p0, p1, p2, p3⟩ := Elems.fz (show Elems wr b off 4 (l.map Fz.cl) from fun i cs hi j u hj => (HB.out.cell (p := ⟨b, off + i * 4 + j, none⟩) hb).trans (HE i cs hi j u hj)) i hir
      have HQ := Lib.hid (HP.out i hir wr HB.out)
      unfold Fz.val at HQ
      have HYi := Lib.hid (HY.out i hir)
      have HKs := Lib.hid (fun (e : p l[i] = false) (k : Nat) (hk : k < l.length) (hki : k < i + 1) => (show p l[k] = false from by
        by_cases h : k = i
        · subst h; exact e
        · exact HK.out k hk (by omega)))
      clear HE
      generalize p l[i] = r at *
      generalize l[i] = y at *
      cases r
      · go_wp2_with fail
        refine HQ.out.mono ?_
        rintro e w1 ⟨rfl, hb1⟩
        have HB1 : Hid (Below w.heap.size w w1) := Lib.hid (HB.out.trans (hb1.mono HB.out.size))
        clear hb1 p0 p1 p2 p3
        go_wp2_with fail
        go_roundw
        case rel => exact ⟨i + 1, by omega, by simp, Lib.hid (HKs.out (by first | trivial | rfl)), HB1⟩
        case measure => simp [intOf]; omega
      · go_wp2_with fail
        refine HQ.out.mono ?_
        rintro e w1 ⟨rfl, hb1⟩
        have HB1 : Hid (Below w.heap.size w w1) := Lib.hid (HB.out.trans (hb1.mono HB.out.size))
        clear hb1 p0 p1 p2 p3
        go_wp2_with fail
        go_ret
        exact ⟨_, rfl, Lib.hid (by rw [HYi.out (by first | trivial | rfl)]; exact decide_eq_true (by omega)), HB1.out⟩
    · have hin : i = n := by omega
      subst hin
      go_wp2_with fail
      go_ret
      exact ⟨_, rfl, Lib.hid (by rw [HNo.out (fun k hk => HK.out k hk (by rw [HN.out]; exact hk))]; decide), HB.out⟩
set_option maxRecDepth 100000 in
set_option maxHeartbeats 1000000 in
theorem containsFF_any (p : Fz → Bool) (q : Nat) (l : List Fz) (v : Value) (w : World) (h : SlAt w 4 v (l.map Fz.cl)) (hn : l.length ≤ 1048576) (hp : ∀ (i : Nat) (hi : i < l.length) (W : World), Below w.heap.size w W → Calls Tryz.prog 128 #[(l[i]).val, .pointer (some ⟨q, 0, none⟩)] W fun e w' => e = .returned (.bool (p l[i])) ∧ Below W.heap.size W w') :
    Calls Tryz.prog 127 #[v, .func (.func 128) #[] #[.pointer (some ⟨q, 0, none⟩)]] w fun e w' => e = .returned (.bool (l.any p)) ∧ Below w.heap.size w w' := by
  have HQ := Lib.hid (indexFF_any p q l v w h hn hp)
  obtain ⟨a, cap, rfl, _⟩ := h
  clear hp
  rw [List.length_map] at *
  generalize l.any p = R at *
  go_enter Tryz.func127, Tryz.ntmps127
  go_wp2_with fail
  refine HQ.out.mono ?_
  rintro e w1 ⟨k, rfl, hk, hb⟩
  have HB := Lib.hid hb
  clear hb
  by_cases h0 : 0 ≤ k
  · go_wp2_with fail
    go_ret
    exact ⟨bool_ret (by first | exact hk.out | (have h2 := hk.out; rw [decide_eq_true h0] at h2; exact h2)), HB.out⟩
  · go_wp2_with fail
    go_ret
    exact ⟨bool_ret (by first | exact hk.out | (have h2 := hk.out; rw [decide_eq_false (show ¬ 0 ≤ k by omega)] at h2; exact h2)), HB.out⟩
end Go.Proofs.YtglealihdkecpaaGreat
