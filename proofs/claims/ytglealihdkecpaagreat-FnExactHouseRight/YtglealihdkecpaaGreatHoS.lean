/- HouseRight, of the model: doors, frozen guests. -/
import Derived.Test.YtglealihdkecpaaGreatHoM
import Derived.Test.YtglealihdkecpaaGreatFmI
import Derived.Test.YtglealihdkecpaaGreatGu
namespace Go.Proofs.YtglealihdkecpaaGreat
open Go.RowKit

theorem doorsOk_yes {l : List Int} (h : l.length = 4) (hy : ∀ i (hi : i < l.length), (decide (l[i] = 0) || isVni l[i]) = true) : doorsOk l = true := by
  unfold doorsOk
  rw [decide_eq_true h, Bool.true_and, List.all_eq_true]
  intro x hx
  obtain ⟨i, hi, rfl⟩ := List.getElem_of_mem hx
  exact hy i hi
theorem doorsOk_no {l : List Int} {i : Nat} (hi : i < l.length) (hn : (decide (l[i] = 0) || isVni l[i]) = false) : doorsOk l = false := by
  unfold doorsOk
  rw [Bool.and_eq_false_iff]
  right
  rw [List.all_eq_false]
  exact ⟨l[i], List.getElem_mem hi, by rw [hn]; decide⟩
set_option maxRecDepth 100000 in
set_option maxHeartbeats 2000000 in
theorem specDoors_any (l : List Int) (v : Value) (w : World) (h : SlAt w 1 v (l.map clI)) (hn : l.length ≤ 1048576) :
    Calls Tryz.prog 45 #[v] w fun e w' => e = .returned (.bool (doorsOk l)) ∧ Below w.heap.size w w' := by
  obtain ⟨a, cap, rfl, h⟩ := h
  rw [List.length_map] at *
  have HH := Lib.hid h
  clear h
  have HY := Lib.hid (fun (h : l.length = 4) hy => doorsOk_yes h hy)
  have HNo := Lib.hid (fun (i : Nat) (hi : i < l.length) hn => doorsOk_no hi hn)
  have HL := Lib.hid (fun (h : l.length ≠ 4) => (show doorsOk l = false by unfold doorsOk; rw [decide_eq_false h]; rfl))
  generalize doorsOk l = R at *
  obtain ⟨n, hnn⟩ : ∃ n, n = l.length := ⟨_, rfl⟩
  rw [← hnn] at hn ⊢
  have HN := Lib.hid hnn
  clear hnn
  by_cases h4 : n = 4
  · subst h4
    go_enter Tryz.func45, Tryz.ntmps45
    go_wp2_with fail
    go_loopw [3] (fun u wr => ∃ i : Nat, i ≤ 4 ∧ u = .int .i64 (i : Int) ∧ Hid (∀ k (hk : k < l.length), k < i → (decide (l[k] = 0) || isVni l[k]) = true) ∧ Hid (Below w.heap.size w wr)) (fun u _ => 4 - (intOf u).toNat)
    case atStart => exact ⟨0, Nat.zero_le _, rfl, Lib.hid (fun k _ hk => by omega), Lib.hid (Below.refl _ _)⟩
    case round =>
      obtain ⟨i, hi, rfl, HK, HB⟩ := hrel
      by_cases hlt : i < 4
      · have hir : i < l.length := by rw [← HN.out]; exact hlt
        have hne : l.map clI ≠ [] := fun e => by
          have := congrArg List.length e
          rw [List.length_map, ← HN.out] at this
          simp at this
        obtain ⟨b, off, ha, hb, HE⟩ := HH.out hne
        subst ha
        have hl1 : (i : Int) < 4 := by omega
        have p0 : wr.cell? ⟨b, off + i, none⟩ = some (.int .i64 l[i]) := by
          have := (Elems.below HE HB.out hb) i (clI l[i]) (by rw [List.getElem?_map, List.getElem?_eq_getElem hir]; rfl) 0 _ rfl
          simpa using this
        have HKs := Lib.hid (fun (e : (decide (l[i] = 0) || isVni l[i]) = true) (k : Nat) (hk : k < l.length) (hki : k < i + 1) => (show (decide (l[k] = 0) || isVni l[k]) = true from by
          by_cases h : k = i
          · subst h; exact e
          · exact HK.out k hk (by omega)))
        have HNi := Lib.hid (HNo.out i hir)
        clear HE
        generalize l[i] = y at *
        by_cases h0 : y = 0
        · subst h0
          go_wp2_with fail
          go_roundw
          case rel => exact ⟨i + 1, by omega, by simp, Lib.hid (HKs.out rfl), HB⟩
          case measure => simp [intOf]; omega
        · have hX1 : decide (y = 0) = false := decide_eq_false h0
          have hX2 : (y == 0) = false := by simpa using h0
          cases hv : isVni y
          · go_wp2_with (go_at_call 88; refine (specVni_any _ _).mono ?_; rw [hv]; rintro e w' ⟨rfl, rfl⟩)
            go_ret
            exact ⟨bool_ret (HNi.out (by rw [hv, hX1]; rfl)).symm, HB.out⟩
          · go_wp2_with (go_at_call 88; refine (specVni_any _ _).mono ?_; rw [hv]; rintro e w' ⟨rfl, rfl⟩)
            go_roundw
            case rel => exact ⟨i + 1, by omega, by simp, Lib.hid (HKs.out (by rw [hv]; simp)), HB⟩
            case measure => simp [intOf]; omega
      · have hin : i = 4 := by omega
        subst hin
        have HR := Lib.hid (HY.out HN.out.symm (fun k hk => HK.out k hk (by rw [HN.out]; exact hk)))
        go_wp2_with fail
        go_ret
        exact ⟨bool_ret HR.out.symm, HB.out⟩
  · have hX0 : ¬ (n : Int) = 4 := by omega
    have hX1 : decide ((n : Int) = 4) = false := decide_eq_false hX0
    have hX2 : ((n : Int) == 4) = false := by simpa using hX0
    have HR := Lib.hid (HL.out (fun e => h4 (HN.out.trans e)))
    go_enter Tryz.func45, Tryz.ntmps45
    go_wp2_with fail
    go_ret
    exact ⟨bool_ret HR.out.symm, Below.refl _ _⟩
theorem lessF_cases {a b : Fz} : lessF a b = true ↔ a.vni < b.vni ∨ (a.vni = b.vni ∧ a.mac < b.mac) := by
  unfold lessF
  by_cases h : a.vni = b.vni
  · rw [if_pos h]; simp [h]
  · rw [if_neg h]; simp; omega
theorem lessF_not {a b : Fz} : lessF a b = false ↔ b.vni < a.vni ∨ (a.vni = b.vni ∧ b.mac ≤ a.mac) := by
  unfold lessF
  by_cases h : a.vni = b.vni
  · rw [if_pos h]; simp [h]
  · rw [if_neg h]; simp; omega
/- what a frozen guest of a list says, as the model's walk asks it -/
inductive FzWay (l : List Fz) (i : Nat) (h : Fz) : Prop
  | vni (h1 : isVni h.vni = false) (hr : Hid (frozOk l = false))
  | mac (h1 : isVni h.vni = true) (h2 : isMac h.mac = false) (hr : Hid (frozOk l = false))
  | group (h1 : isVni h.vni = true) (h2 : isMac h.mac = true) (h3 : isGroup h.mac = true) (hr : Hid (frozOk l = false))
  | house (h1 : isVni h.vni = true) (h2 : isMac h.mac = true) (h3 : isGroup h.mac = false) (h4 : inR h.house 0 4 = false) (hr : Hid (frozOk l = false))
  | door (h1 : isVni h.vni = true) (h2 : isMac h.mac = true) (h3 : isGroup h.mac = false) (h4 : inR h.house 0 4 = true) (h5 : inR h.door 0 4 = false) (hr : Hid (frozOk l = false))
  | ok (h1 : isVni h.vni = true) (h2 : isMac h.mac = true) (h3 : isGroup h.mac = false) (h4 : inR h.house 0 4 = true) (h5 : inR h.door 0 4 = true) (hr : Hid (LkWay Fz.right lessF 8 l i h))
theorem fz_way (l : List Fz) (i : Nat) (hi : i < l.length) : FzWay l i l[i] := by
  have hw := lk_way Fz.right lessF 8 l i hi
  have hb : (l[i]).right = false → frozOk l = false := fun h => listOk_no hi (okAtX_bad hi h)
  have hd : (l[i]).right = (isVni (l[i]).vni && ((isMac (l[i]).mac && !isGroup (l[i]).mac) && (inR (l[i]).house 0 4 && inR (l[i]).door 0 4))) := rfl
  cases h1 : isVni (l[i]).vni
  · exact .vni h1 (Lib.hid (hb (by rw [hd, h1]; rfl)))
  cases h2 : isMac (l[i]).mac
  · exact .mac h1 h2 (Lib.hid (hb (by rw [hd, h1, h2]; rfl)))
  cases h3 : isGroup (l[i]).mac
  · cases h4 : inR (l[i]).house 0 4
    · exact .house h1 h2 h3 h4 (Lib.hid (hb (by rw [hd, h1, h2, h3, h4]; rfl)))
    cases h5 : inR (l[i]).door 0 4
    · exact .door h1 h2 h3 h4 h5 (Lib.hid (hb (by rw [hd, h1, h2, h3, h4, h5]; rfl)))
    · exact .ok h1 h2 h3 h4 h5 (Lib.hid hw)
  · exact .group h1 h2 h3 (Lib.hid (hb (by rw [hd, h1, h2, h3]; rfl)))
set_option maxRecDepth 100000 in
set_option maxHeartbeats 8000000 in
theorem specFrozen_any (l : List Fz) (v : Value) (w : World) (h : FzsAt w v l) (hn : l.length ≤ 1048576) :
    Calls Tryz.prog 49 #[v] w fun e w' => e = .returned (.bool (frozOk l)) ∧ Below w.heap.size w w' := by
  obtain ⟨a, cap, rfl, h⟩ := h
  rw [List.length_map] at *
  have HH := Lib.hid h
  clear h
  have HW := Lib.hid (fun i hi => fz_way l i hi)
  have HY := Lib.hid (fun (h : l.length ≤ 8) hy => (show frozOk l = true from listOk_yes (R := Fz.right) (L := lessF) h hy))
  have HL := Lib.hid (fun (h : 8 < l.length) => (show frozOk l = false from listOk_long (R := Fz.right) (L := lessF) h))
  have HLn : Hid (listOk Fz.right lessF 8 l = frozOk l) := Lib.hid rfl
  obtain ⟨n, hnn⟩ : ∃ n, n = l.length := ⟨_, rfl⟩
  rw [← hnn] at hn HY HL ⊢
  have HN := Lib.hid hnn
  clear hnn
  by_cases hlong : 8 < n
  · have HR := Lib.hid (HL.out hlong)
    have hg : (8 : Int) < (n : Int) := by omega
    go_enter Tryz.func49, Tryz.ntmps49
    go_wp2_with fail
    go_ret
    exact ⟨bool_ret HR.out.symm, Below.refl _ _⟩
  have hg : ¬ (8 : Int) < (n : Int) := by omega
  clear HL
  go_enter Tryz.func49, Tryz.ntmps49
  go_wp2_with fail
  go_loopw [3, 4] (fun u _ wr => ∃ i : Nat, i ≤ n ∧ u = .int .i64 (i : Int) ∧ Hid (∀ k, k < i → okAtX Fz.right lessF l k = true) ∧ Hid (Below w.heap.size w wr)) (fun u _ _ => n - (intOf u).toNat)
  case atStart => exact ⟨0, Nat.zero_le _, rfl, Lib.hid (fun k hk => by omega), Lib.hid (Below.refl _ _)⟩
  case round =>
    obtain ⟨i, hi, rfl, HK, HB⟩ := hrel
    by_cases hlt : i < n
    · have hne : l.map Fz.cl ≠ [] := fun e => by
        have := congrArg List.length e
        rw [List.length_map, ← HN.out] at this
        simp at this; omega
      obtain ⟨b, off, ha, hb, HE⟩ := HH.out hne
      subst ha
      have hir : i < l.length := by rw [← HN.out]; exact hlt
      have hl1 : (i : Int) < n := by omega
      have hway := HW.out i hir
      obtain ⟨p0, p1, p2, p3⟩ := (Elems.below HE HB.out hb).fz i hir
      have HEl := Lib.hid (fun (W' : World) (hS : Below w.heap.size w W') => (Elems.below HE hS hb))
      have S0 : Blk (wr.alloc (.cells (l[i]).ar 85)) wr.heap.size 85 (l[i]).ar ∧ Below w.heap.size w (wr.alloc (.cells (l[i]).ar 85)) := ⟨Blk.new _ _ _, HB.out.alloc HB.out.size _⟩
      unfold Fz.ar at S0
      clear HE HW
      generalize l[i] = y at *
      go_upto_region 7 with fail
      generalize (wr.alloc (.cells #[.int .i64 y.vni, .int .i64 y.mac, .int .i64 y.house, .int .i64 y.door] 85)) = W6 at S0 ⊢
      clear p0 p1 p2 p3
      have hc := S0.1.cell
      have HB6 := Lib.hid S0.2
      rcases hway with ⟨h1, hr⟩ | ⟨h1, h2, hr⟩ | ⟨h1, h2, h3, hr⟩ | ⟨h1, h2, h3, h4, hr⟩ | ⟨h1, h2, h3, h4, h5, hr⟩ | ⟨h1, h2, h3, h4, h5, hw⟩
      · go_wp2_with (first | (go_at_call 88; refine (specVni_any _ _).mono ?_; rw [h1]; rintro e w' ⟨rfl, rfl⟩))
        go_ret
        exact ⟨bool_ret hr.out.symm, HB6.out⟩
      · go_wp2_with (first | (go_at_call 88; refine (specVni_any _ _).mono ?_; rw [h1]; rintro e w' ⟨rfl, rfl⟩) | (go_at_call 102; refine (specMac_any _ _).mono ?_; rw [h2]; rintro e w' ⟨rfl, rfl⟩))
        go_ret
        exact ⟨bool_ret hr.out.symm, HB6.out⟩
      · go_wp2_with (first | (go_at_call 88; refine (specVni_any _ _).mono ?_; rw [h1]; rintro e w' ⟨rfl, rfl⟩) | (go_at_call 102; refine (specMac_any _ _).mono ?_; rw [h2]; rintro e w' ⟨rfl, rfl⟩) | (go_at_call 103; refine (specIsGroup_any _ _).mono ?_; rw [h3]; rintro e w' ⟨rfl, rfl⟩))
        go_ret
        exact ⟨bool_ret hr.out.symm, HB6.out⟩
      · go_wp2_with (first | (go_at_call 88; refine (specVni_any _ _).mono ?_; rw [h1]; rintro e w' ⟨rfl, rfl⟩) | (go_at_call 102; refine (specMac_any _ _).mono ?_; rw [h2]; rintro e w' ⟨rfl, rfl⟩) | (go_at_call 103; refine (specIsGroup_any _ _).mono ?_; rw [h3]; rintro e w' ⟨rfl, rfl⟩) | (go_at_call 44; refine (specIs_any _ _ _ _).mono ?_; rw [h4]; rintro e w' ⟨rfl, rfl⟩))
        go_ret
        exact ⟨bool_ret hr.out.symm, HB6.out⟩
      · go_wp2_with (first | (go_at_call 88; refine (specVni_any _ _).mono ?_; rw [h1]; rintro e w' ⟨rfl, rfl⟩) | (go_at_call 102; refine (specMac_any _ _).mono ?_; rw [h2]; rintro e w' ⟨rfl, rfl⟩) | (go_at_call 103; refine (specIsGroup_any _ _).mono ?_; rw [h3]; rintro e w' ⟨rfl, rfl⟩) | (go_at_call 44; refine (specIs_any _ _ _ _).mono ?_; (first | rw [h4] | rw [h5]); rintro e w' ⟨rfl, rfl⟩))
        go_ret
        exact ⟨bool_ret hr.out.symm, HB6.out⟩
      · go_upto_region 9 with (first | (go_at_call 88; refine (specVni_any _ _).mono ?_; rw [h1]; rintro e w' ⟨rfl, rfl⟩) | (go_at_call 102; refine (specMac_any _ _).mono ?_; rw [h2]; rintro e w' ⟨rfl, rfl⟩) | (go_at_call 103; refine (specIsGroup_any _ _).mono ?_; rw [h3]; rintro e w' ⟨rfl, rfl⟩) | (go_at_call 44; refine (specIs_any _ _ _ _).mono ?_; (first | rw [h4] | rw [h5]); rintro e w' ⟨rfl, rfl⟩))
        have hyr : Hid (y.right = true) := Lib.hid (by unfold Fz.right fzRight; rw [h1, h2, h3, h4, h5]; rfl)
        clear hc h1 h2 h3 h4 h5 HB6
        replace S0 := (show Blk W6.drew _ _ _ ∧ Below w.heap.size w W6.drew from ⟨S0.1.drew, S0.2.drew⟩)
        have hlk := hw.out
        clear hw
        rcases hlk with ⟨g1, hr⟩ | ⟨g1, h3, hr⟩ | ⟨g1, j, h3, x, hj, hx, h4, hr⟩ | ⟨g1, j, h3, x, hj, hx, h4, hr⟩
        · exact absurd hyr.out (by rw [g1]; decide)
        · subst h3
          refine wp_region_held_drew (S := fun W' => Blk W' wr.heap.size 85 #[.int .i64 y.vni, .int .i64 y.mac, .int .i64 y.house, .int .i64 y.door] ∧ Below w.heap.size w W') (by kernel_rfl) S0 (fun hHeld => ?_)
          clear hHeld
          refine wpAnyH_take (i := 0) (oi := { dst := some 45, op := Op.move (Operand.tmp 3), type := 3, pos := "l09_house.go:17", after := #[], guard := none }) (v := ?vva1) rfl (by kernel_rfl) (by kernel_rfl) (by kernel_rfl) (fun _ _ _ h => h) (Or.inl ⟨by rfl, ?hya1⟩) S0 ?resta1
          case hya1 => (intro w hSw; have hc := hSw.1.cell;go_simp <;> with_reducible rfl)
          try simp only [Act.put, List.setIfInBounds_toArray, List.set_cons_zero, List.set_cons_succ]
          refine wpAnyH_take (i := 1) (oi := { dst := some 46, op := Op.binOp BinOp.gtr 3 (Operand.tmp 45) (Operand.const (Value.int IntKind.i64 0)) 3, type := 4, pos := "l09_house.go:17", after := #[{ on := 0, ground := Ground.data }], guard := none }) (v := ?vva2) rfl (by kernel_rfl) (by kernel_rfl) (by kernel_rfl) (fun _ _ _ h => h) (Or.inl ⟨by rfl, ?hya2⟩) S0 ?resta2
          case hya2 => (intro w hSw; have hc := hSw.1.cell;go_simp <;> with_reducible rfl)
          try simp only [Act.put, List.setIfInBounds_toArray, List.set_cons_zero, List.set_cons_succ]
          refine wpAnyH_take (i := 2) (oi := { dst := some 47, op := Op.move (Operand.tmp 46), type := 4, pos := "l09_house.go:17", after := #[{ on := 1, ground := Ground.data }], guard := none }) (v := ?vva3) rfl (by kernel_rfl) (by kernel_rfl) (by kernel_rfl) (fun _ _ _ h => h) (Or.inl ⟨by rfl, ?hya3⟩) S0 ?resta3
          case hya3 => (intro w hSw; have hc := hSw.1.cell;go_simp <;> with_reducible rfl)
          try simp only [Act.put, List.setIfInBounds_toArray, List.set_cons_zero, List.set_cons_succ]
          refine wpAnyH_take (i := 3) (oi := { dst := some 48, op := Op.move (Operand.tmp 0), type := 36, pos := "l09_house.go:17", after := #[{ on := 2, ground := Ground.guard }], guard := some (2, true) }) (v := undef) rfl (by kernel_rfl) (by kernel_rfl) (by kernel_rfl) (fun _ _ _ h => h) (Or.inr ⟨by rfl, rfl⟩) S0 ?_
          try simp only [Act.put, List.setIfInBounds_toArray, List.set_cons_zero, List.set_cons_succ]
          refine wpAnyH_take (i := 4) (oi := { dst := some 49, op := Op.move (Operand.tmp 3), type := 3, pos := "l09_house.go:17", after := #[{ on := 2, ground := Ground.guard }], guard := some (2, true) }) (v := undef) rfl (by kernel_rfl) (by kernel_rfl) (by kernel_rfl) (fun _ _ _ h => h) (Or.inr ⟨by rfl, rfl⟩) S0 ?_
          try simp only [Act.put, List.setIfInBounds_toArray, List.set_cons_zero, List.set_cons_succ]
          refine wpAnyH_take (i := 5) (oi := { dst := some 50, op := Op.binOp BinOp.sub 3 (Operand.tmp 49) (Operand.const (Value.int IntKind.i64 1)) 3, type := 3, pos := "l09_house.go:17", after := #[{ on := 4, ground := Ground.data }, { on := 2, ground := Ground.guard }], guard := some (2, true) }) (v := undef) rfl (by kernel_rfl) (by kernel_rfl) (by kernel_rfl) (fun _ _ _ h => h) (Or.inr ⟨by rfl, rfl⟩) S0 ?_
          try simp only [Act.put, List.setIfInBounds_toArray, List.set_cons_zero, List.set_cons_succ]
          refine wpAnyH_take (i := 6) (oi := { dst := some 51, op := Op.indexAddr 36 (Operand.tmp 48) (Operand.tmp 50), type := 0, pos := "l09_house.go:17", after := #[{ on := 3, ground := Ground.data }, { on := 5, ground := Ground.data }, { on := 2, ground := Ground.guard }], guard := some (2, true) }) (v := undef) rfl (by kernel_rfl) (by kernel_rfl) (by kernel_rfl) (fun _ _ _ h => h) (Or.inr ⟨by rfl, rfl⟩) S0 ?_
          try simp only [Act.put, List.setIfInBounds_toArray, List.set_cons_zero, List.set_cons_succ]
          refine wpAnyH_take (i := 7) (oi := { dst := some 52, op := Op.fieldAddr 85 (Operand.tmp 51) 0, type := 0, pos := "l09_house.go:17", after := #[{ on := 6, ground := Ground.data }, { on := 2, ground := Ground.guard }], guard := some (2, true) }) (v := undef) rfl (by kernel_rfl) (by kernel_rfl) (by kernel_rfl) (fun _ _ _ h => h) (Or.inr ⟨by rfl, rfl⟩) S0 ?_
          try simp only [Act.put, List.setIfInBounds_toArray, List.set_cons_zero, List.set_cons_succ]
          refine wpAnyH_take (i := 8) (oi := { dst := some 53, op := Op.load 2 (Operand.tmp 52), type := 2, pos := "l09_house.go:17", after := #[{ on := 7, ground := Ground.data }, { on := 2, ground := Ground.guard }], guard := some (2, true) }) (v := undef) rfl (by kernel_rfl) (by kernel_rfl) (by kernel_rfl) (fun _ _ _ h => h) (Or.inr ⟨by rfl, rfl⟩) S0 ?_
          try simp only [Act.put, List.setIfInBounds_toArray, List.set_cons_zero, List.set_cons_succ]
          refine wpAnyH_take (i := 9) (oi := { dst := some 54, op := Op.fieldAddr 85 (Operand.tmp 4) 0, type := 0, pos := "l09_house.go:17", after := #[{ on := 2, ground := Ground.guard }], guard := some (2, true) }) (v := undef) rfl (by kernel_rfl) (by kernel_rfl) (by kernel_rfl) (fun _ _ _ h => h) (Or.inr ⟨by rfl, rfl⟩) S0 ?_
          try simp only [Act.put, List.setIfInBounds_toArray, List.set_cons_zero, List.set_cons_succ]
          refine wpAnyH_take (i := 10) (oi := { dst := some 55, op := Op.load 2 (Operand.tmp 54), type := 2, pos := "l09_house.go:17", after := #[{ on := 9, ground := Ground.data }, { on := 2, ground := Ground.guard }], guard := some (2, true) }) (v := undef) rfl (by kernel_rfl) (by kernel_rfl) (by kernel_rfl) (fun _ _ _ h => h) (Or.inr ⟨by rfl, rfl⟩) S0 ?_
          try simp only [Act.put, List.setIfInBounds_toArray, List.set_cons_zero, List.set_cons_succ]
          refine wpAnyH_take (i := 11) (oi := { dst := some 56, op := Op.binOp BinOp.gtr 2 (Operand.tmp 53) (Operand.tmp 55) 2, type := 4, pos := "l09_house.go:17", after := #[{ on := 8, ground := Ground.data }, { on := 10, ground := Ground.data }, { on := 2, ground := Ground.guard }], guard := some (2, true) }) (v := undef) rfl (by kernel_rfl) (by kernel_rfl) (by kernel_rfl) (fun _ _ _ h => h) (Or.inr ⟨by rfl, rfl⟩) S0 ?_
          try simp only [Act.put, List.setIfInBounds_toArray, List.set_cons_zero, List.set_cons_succ]
          refine wpAnyH_take (i := 12) (oi := { dst := some 57, op := Op.move (Operand.tmp 56), type := 4, pos := "l09_house.go:17", after := #[{ on := 11, ground := Ground.data }, { on := 2, ground := Ground.chain }, { on := 2, ground := Ground.guard }], guard := some (2, true) }) (v := undef) rfl (by kernel_rfl) (by kernel_rfl) (by kernel_rfl) (fun _ _ _ h => h) (Or.inr ⟨by rfl, rfl⟩) S0 ?_
          try simp only [Act.put, List.setIfInBounds_toArray, List.set_cons_zero, List.set_cons_succ]
          refine wpAnyH_take (i := 13) (oi := { dst := some 58, op := Op.move (Operand.tmp 0), type := 36, pos := "l09_house.go:17", after := #[{ on := 12, ground := Ground.guard }], guard := some (12, false) }) (v := undef) rfl (by kernel_rfl) (by kernel_rfl) (by kernel_rfl) (fun _ _ _ h => h) (Or.inr ⟨by rfl, rfl⟩) S0 ?_
          try simp only [Act.put, List.setIfInBounds_toArray, List.set_cons_zero, List.set_cons_succ]
          refine wpAnyH_take (i := 14) (oi := { dst := some 59, op := Op.move (Operand.tmp 3), type := 3, pos := "l09_house.go:17", after := #[{ on := 12, ground := Ground.guard }], guard := some (12, false) }) (v := undef) rfl (by kernel_rfl) (by kernel_rfl) (by kernel_rfl) (fun _ _ _ h => h) (Or.inr ⟨by rfl, rfl⟩) S0 ?_
          try simp only [Act.put, List.setIfInBounds_toArray, List.set_cons_zero, List.set_cons_succ]
          refine wpAnyH_take (i := 15) (oi := { dst := some 60, op := Op.binOp BinOp.sub 3 (Operand.tmp 59) (Operand.const (Value.int IntKind.i64 1)) 3, type := 3, pos := "l09_house.go:17", after := #[{ on := 14, ground := Ground.data }, { on := 12, ground := Ground.guard }], guard := some (12, false) }) (v := undef) rfl (by kernel_rfl) (by kernel_rfl) (by kernel_rfl) (fun _ _ _ h => h) (Or.inr ⟨by rfl, rfl⟩) S0 ?_
          try simp only [Act.put, List.setIfInBounds_toArray, List.set_cons_zero, List.set_cons_succ]
          refine wpAnyH_take (i := 16) (oi := { dst := some 61, op := Op.indexAddr 36 (Operand.tmp 58) (Operand.tmp 60), type := 0, pos := "l09_house.go:17", after := #[{ on := 13, ground := Ground.data }, { on := 15, ground := Ground.data }, { on := 12, ground := Ground.guard }], guard := some (12, false) }) (v := undef) rfl (by kernel_rfl) (by kernel_rfl) (by kernel_rfl) (fun _ _ _ h => h) (Or.inr ⟨by rfl, rfl⟩) S0 ?_
          try simp only [Act.put, List.setIfInBounds_toArray, List.set_cons_zero, List.set_cons_succ]
          refine wpAnyH_take (i := 17) (oi := { dst := some 62, op := Op.fieldAddr 85 (Operand.tmp 61) 0, type := 0, pos := "l09_house.go:17", after := #[{ on := 16, ground := Ground.data }, { on := 12, ground := Ground.guard }], guard := some (12, false) }) (v := undef) rfl (by kernel_rfl) (by kernel_rfl) (by kernel_rfl) (fun _ _ _ h => h) (Or.inr ⟨by rfl, rfl⟩) S0 ?_
          try simp only [Act.put, List.setIfInBounds_toArray, List.set_cons_zero, List.set_cons_succ]
          refine wpAnyH_take (i := 18) (oi := { dst := some 63, op := Op.load 2 (Operand.tmp 62), type := 2, pos := "l09_house.go:17", after := #[{ on := 17, ground := Ground.data }, { on := 12, ground := Ground.guard }], guard := some (12, false) }) (v := undef) rfl (by kernel_rfl) (by kernel_rfl) (by kernel_rfl) (fun _ _ _ h => h) (Or.inr ⟨by rfl, rfl⟩) S0 ?_
          try simp only [Act.put, List.setIfInBounds_toArray, List.set_cons_zero, List.set_cons_succ]
          refine wpAnyH_take (i := 19) (oi := { dst := some 64, op := Op.fieldAddr 85 (Operand.tmp 4) 0, type := 0, pos := "l09_house.go:17", after := #[{ on := 12, ground := Ground.guard }], guard := some (12, false) }) (v := undef) rfl (by kernel_rfl) (by kernel_rfl) (by kernel_rfl) (fun _ _ _ h => h) (Or.inr ⟨by rfl, rfl⟩) S0 ?_
          try simp only [Act.put, List.setIfInBounds_toArray, List.set_cons_zero, List.set_cons_succ]
          refine wpAnyH_take (i := 20) (oi := { dst := some 65, op := Op.load 2 (Operand.tmp 64), type := 2, pos := "l09_house.go:17", after := #[{ on := 19, ground := Ground.data }, { on := 12, ground := Ground.guard }], guard := some (12, false) }) (v := undef) rfl (by kernel_rfl) (by kernel_rfl) (by kernel_rfl) (fun _ _ _ h => h) (Or.inr ⟨by rfl, rfl⟩) S0 ?_
          try simp only [Act.put, List.setIfInBounds_toArray, List.set_cons_zero, List.set_cons_succ]
          refine wpAnyH_take (i := 21) (oi := { dst := some 66, op := Op.binOp BinOp.eql 2 (Operand.tmp 63) (Operand.tmp 65) 2, type := 4, pos := "l09_house.go:17", after := #[{ on := 18, ground := Ground.data }, { on := 20, ground := Ground.data }, { on := 12, ground := Ground.guard }], guard := some (12, false) }) (v := undef) rfl (by kernel_rfl) (by kernel_rfl) (by kernel_rfl) (fun _ _ _ h => h) (Or.inr ⟨by rfl, rfl⟩) S0 ?_
          try simp only [Act.put, List.setIfInBounds_toArray, List.set_cons_zero, List.set_cons_succ]
          refine wpAnyH_take (i := 22) (oi := { dst := some 67, op := Op.move (Operand.tmp 66), type := 4, pos := "l09_house.go:17", after := #[{ on := 21, ground := Ground.data }, { on := 12, ground := Ground.chain }, { on := 12, ground := Ground.guard }], guard := some (12, false) }) (v := undef) rfl (by kernel_rfl) (by kernel_rfl) (by kernel_rfl) (fun _ _ _ h => h) (Or.inr ⟨by rfl, rfl⟩) S0 ?_
          try simp only [Act.put, List.setIfInBounds_toArray, List.set_cons_zero, List.set_cons_succ]
          refine wpAnyH_take (i := 23) (oi := { dst := some 68, op := Op.move (Operand.tmp 0), type := 36, pos := "l09_house.go:17", after := #[{ on := 22, ground := Ground.guard }], guard := some (22, true) }) (v := undef) rfl (by kernel_rfl) (by kernel_rfl) (by kernel_rfl) (fun _ _ _ h => h) (Or.inr ⟨by rfl, rfl⟩) S0 ?_
          try simp only [Act.put, List.setIfInBounds_toArray, List.set_cons_zero, List.set_cons_succ]
          refine wpAnyH_take (i := 24) (oi := { dst := some 69, op := Op.move (Operand.tmp 3), type := 3, pos := "l09_house.go:17", after := #[{ on := 22, ground := Ground.guard }], guard := some (22, true) }) (v := undef) rfl (by kernel_rfl) (by kernel_rfl) (by kernel_rfl) (fun _ _ _ h => h) (Or.inr ⟨by rfl, rfl⟩) S0 ?_
          try simp only [Act.put, List.setIfInBounds_toArray, List.set_cons_zero, List.set_cons_succ]
          refine wpAnyH_take (i := 25) (oi := { dst := some 70, op := Op.binOp BinOp.sub 3 (Operand.tmp 69) (Operand.const (Value.int IntKind.i64 1)) 3, type := 3, pos := "l09_house.go:17", after := #[{ on := 24, ground := Ground.data }, { on := 22, ground := Ground.guard }], guard := some (22, true) }) (v := undef) rfl (by kernel_rfl) (by kernel_rfl) (by kernel_rfl) (fun _ _ _ h => h) (Or.inr ⟨by rfl, rfl⟩) S0 ?_
          try simp only [Act.put, List.setIfInBounds_toArray, List.set_cons_zero, List.set_cons_succ]
          refine wpAnyH_take (i := 26) (oi := { dst := some 71, op := Op.indexAddr 36 (Operand.tmp 68) (Operand.tmp 70), type := 0, pos := "l09_house.go:17", after := #[{ on := 23, ground := Ground.data }, { on := 25, ground := Ground.data }, { on := 22, ground := Ground.guard }], guard := some (22, true) }) (v := undef) rfl (by kernel_rfl) (by kernel_rfl) (by kernel_rfl) (fun _ _ _ h => h) (Or.inr ⟨by rfl, rfl⟩) S0 ?_
          try simp only [Act.put, List.setIfInBounds_toArray, List.set_cons_zero, List.set_cons_succ]
          refine wpAnyH_take (i := 27) (oi := { dst := some 72, op := Op.fieldAddr 85 (Operand.tmp 71) 1, type := 0, pos := "l09_house.go:17", after := #[{ on := 26, ground := Ground.data }, { on := 22, ground := Ground.guard }], guard := some (22, true) }) (v := undef) rfl (by kernel_rfl) (by kernel_rfl) (by kernel_rfl) (fun _ _ _ h => h) (Or.inr ⟨by rfl, rfl⟩) S0 ?_
          try simp only [Act.put, List.setIfInBounds_toArray, List.set_cons_zero, List.set_cons_succ]
          refine wpAnyH_take (i := 28) (oi := { dst := some 73, op := Op.load 2 (Operand.tmp 72), type := 2, pos := "l09_house.go:17", after := #[{ on := 27, ground := Ground.data }, { on := 22, ground := Ground.guard }], guard := some (22, true) }) (v := undef) rfl (by kernel_rfl) (by kernel_rfl) (by kernel_rfl) (fun _ _ _ h => h) (Or.inr ⟨by rfl, rfl⟩) S0 ?_
          try simp only [Act.put, List.setIfInBounds_toArray, List.set_cons_zero, List.set_cons_succ]
          refine wpAnyH_take (i := 29) (oi := { dst := some 74, op := Op.fieldAddr 85 (Operand.tmp 4) 1, type := 0, pos := "l09_house.go:17", after := #[{ on := 22, ground := Ground.guard }], guard := some (22, true) }) (v := undef) rfl (by kernel_rfl) (by kernel_rfl) (by kernel_rfl) (fun _ _ _ h => h) (Or.inr ⟨by rfl, rfl⟩) S0 ?_
          try simp only [Act.put, List.setIfInBounds_toArray, List.set_cons_zero, List.set_cons_succ]
          refine wpAnyH_take (i := 30) (oi := { dst := some 75, op := Op.load 2 (Operand.tmp 74), type := 2, pos := "l09_house.go:17", after := #[{ on := 29, ground := Ground.data }, { on := 22, ground := Ground.guard }], guard := some (22, true) }) (v := undef) rfl (by kernel_rfl) (by kernel_rfl) (by kernel_rfl) (fun _ _ _ h => h) (Or.inr ⟨by rfl, rfl⟩) S0 ?_
          try simp only [Act.put, List.setIfInBounds_toArray, List.set_cons_zero, List.set_cons_succ]
          refine wpAnyH_take (i := 31) (oi := { dst := some 76, op := Op.binOp BinOp.geq 2 (Operand.tmp 73) (Operand.tmp 75) 2, type := 4, pos := "l09_house.go:17", after := #[{ on := 28, ground := Ground.data }, { on := 30, ground := Ground.data }, { on := 22, ground := Ground.guard }], guard := some (22, true) }) (v := undef) rfl (by kernel_rfl) (by kernel_rfl) (by kernel_rfl) (fun _ _ _ h => h) (Or.inr ⟨by rfl, rfl⟩) S0 ?_
          try simp only [Act.put, List.setIfInBounds_toArray, List.set_cons_zero, List.set_cons_succ]
          refine wpAnyH_take (i := 32) (oi := { dst := some 77, op := Op.pick (Operand.tmp 67) (Operand.tmp 76) (Operand.const (Value.bool false)), type := 4, pos := "l09_house.go:17", after := #[{ on := 22, ground := Ground.data }, { on := 31, ground := Ground.data }, { on := 12, ground := Ground.guard }], guard := some (12, false) }) (v := undef) rfl (by kernel_rfl) (by kernel_rfl) (by kernel_rfl) (fun _ _ _ h => h) (Or.inr ⟨by rfl, rfl⟩) S0 ?_
          try simp only [Act.put, List.setIfInBounds_toArray, List.set_cons_zero, List.set_cons_succ]
          refine wpAnyH_take (i := 33) (oi := { dst := some 78, op := Op.pick (Operand.tmp 57) (Operand.const (Value.bool true)) (Operand.tmp 77), type := 4, pos := "l09_house.go:17", after := #[{ on := 12, ground := Ground.data }, { on := 32, ground := Ground.data }, { on := 2, ground := Ground.guard }], guard := some (2, true) }) (v := undef) rfl (by kernel_rfl) (by kernel_rfl) (by kernel_rfl) (fun _ _ _ h => h) (Or.inr ⟨by rfl, rfl⟩) S0 ?_
          try simp only [Act.put, List.setIfInBounds_toArray, List.set_cons_zero, List.set_cons_succ]
          refine wpAnyH_take (i := 34) (oi := { dst := some 79, op := Op.pick (Operand.tmp 47) (Operand.tmp 78) (Operand.const (Value.bool false)), type := 4, pos := "l09_house.go:17", after := #[{ on := 2, ground := Ground.data }, { on := 33, ground := Ground.data }], guard := none }) (v := ?vva35) rfl (by kernel_rfl) (by kernel_rfl) (by kernel_rfl) (fun _ _ _ h => h) (Or.inl ⟨by rfl, ?hya35⟩) S0 ?resta35
          case hya35 => (intro w hSw; have hc := hSw.1.cell;go_simp <;> with_reducible rfl)
          try simp only [Act.put, List.setIfInBounds_toArray, List.set_cons_zero, List.set_cons_succ]
          refine wpAnyH_done (by kernel_rfl) ?_ _
          all_goals
            have HBn := Lib.hid S0.2
            clear S0
            go_wp2_with fail
            go_roundw
            case rel => exact ⟨1, by omega, by simp, Lib.hid (fun k hk => by have e : k = 0 := (by omega); subst e; exact hr.out), HBn⟩
            case measure => simp [intOf]; omega
        · have hle := lessF_cases.1 h4
          have HEj := Lib.hid (fun (W' : World) (hS : Below w.heap.size w W') => (HEl.out W' hS).fz j hj)
          rw [hx.out] at HEj
          subst h3
          have hj0 : (0 : Int) < (j : Int) + 1 := by omega
          have hjn : j < n := by omega
          have hj1 : IntKind.i64.wrap (j : Int) = (j : Int) := by simp only [IntKind.wrap_i64]; omega
          rw [Int.natCast_add] at *
          clear hx
          rcases hle with hle | ⟨hle, hlm⟩
          · have hX1 : ¬ y.vni < x.vni := by omega
            have hX2 : ¬ x.vni = y.vni := by omega
            have hX3 : (x.vni == y.vni) = false := by simpa using hX2
            have hX4 : decide (x.vni = y.vni) = false := decide_eq_false hX2
            refine wp_region_held_drew (S := fun W' => Blk W' wr.heap.size 85 #[.int .i64 y.vni, .int .i64 y.mac, .int .i64 y.house, .int .i64 y.door] ∧ Below w.heap.size w W') (by kernel_rfl) S0 (fun hHeld => ?_)
            clear hHeld
            refine wpAnyH_take (i := 0) (oi := { dst := some 45, op := Op.move (Operand.tmp 3), type := 3, pos := "l09_house.go:17", after := #[], guard := none }) (v := ?vvb1) rfl (by kernel_rfl) (by kernel_rfl) (by kernel_rfl) (fun _ _ _ h => h) (Or.inl ⟨by rfl, ?hyb1⟩) S0 ?restb1
            case hyb1 => (intro w hSw; have hc := hSw.1.cell; obtain ⟨q0, q1, q2, q3⟩ := HEj.out _ hSw.2;go_simp <;> with_reducible rfl)
            try simp only [Act.put, List.setIfInBounds_toArray, List.set_cons_zero, List.set_cons_succ]
            refine wpAnyH_take (i := 1) (oi := { dst := some 46, op := Op.binOp BinOp.gtr 3 (Operand.tmp 45) (Operand.const (Value.int IntKind.i64 0)) 3, type := 4, pos := "l09_house.go:17", after := #[{ on := 0, ground := Ground.data }], guard := none }) (v := ?vvb2) rfl (by kernel_rfl) (by kernel_rfl) (by kernel_rfl) (fun _ _ _ h => h) (Or.inl ⟨by rfl, ?hyb2⟩) S0 ?restb2
            case hyb2 => (intro w hSw; have hc := hSw.1.cell; obtain ⟨q0, q1, q2, q3⟩ := HEj.out _ hSw.2;go_simp <;> with_reducible rfl)
            try simp only [Act.put, List.setIfInBounds_toArray, List.set_cons_zero, List.set_cons_succ]
            refine wpAnyH_take (i := 2) (oi := { dst := some 47, op := Op.move (Operand.tmp 46), type := 4, pos := "l09_house.go:17", after := #[{ on := 1, ground := Ground.data }], guard := none }) (v := ?vvb3) rfl (by kernel_rfl) (by kernel_rfl) (by kernel_rfl) (fun _ _ _ h => h) (Or.inl ⟨by rfl, ?hyb3⟩) S0 ?restb3
            case hyb3 => (intro w hSw; have hc := hSw.1.cell; obtain ⟨q0, q1, q2, q3⟩ := HEj.out _ hSw.2;go_simp <;> with_reducible rfl)
            try simp only [Act.put, List.setIfInBounds_toArray, List.set_cons_zero, List.set_cons_succ]
            refine wpAnyH_take (i := 3) (oi := { dst := some 48, op := Op.move (Operand.tmp 0), type := 36, pos := "l09_house.go:17", after := #[{ on := 2, ground := Ground.guard }], guard := some (2, true) }) (v := ?vvb4) rfl (by kernel_rfl) (by kernel_rfl) (by kernel_rfl) (fun _ _ _ h => h) (Or.inl ⟨by rfl, ?hyb4⟩) S0 ?restb4
            case hyb4 => (intro w hSw; have hc := hSw.1.cell; obtain ⟨q0, q1, q2, q3⟩ := HEj.out _ hSw.2;go_simp <;> with_reducible rfl)
            try simp only [Act.put, List.setIfInBounds_toArray, List.set_cons_zero, List.set_cons_succ]
            refine wpAnyH_take (i := 4) (oi := { dst := some 49, op := Op.move (Operand.tmp 3), type := 3, pos := "l09_house.go:17", after := #[{ on := 2, ground := Ground.guard }], guard := some (2, true) }) (v := ?vvb5) rfl (by kernel_rfl) (by kernel_rfl) (by kernel_rfl) (fun _ _ _ h => h) (Or.inl ⟨by rfl, ?hyb5⟩) S0 ?restb5
            case hyb5 => (intro w hSw; have hc := hSw.1.cell; obtain ⟨q0, q1, q2, q3⟩ := HEj.out _ hSw.2;go_simp <;> with_reducible rfl)
            try simp only [Act.put, List.setIfInBounds_toArray, List.set_cons_zero, List.set_cons_succ]
            refine wpAnyH_take (i := 5) (oi := { dst := some 50, op := Op.binOp BinOp.sub 3 (Operand.tmp 49) (Operand.const (Value.int IntKind.i64 1)) 3, type := 3, pos := "l09_house.go:17", after := #[{ on := 4, ground := Ground.data }, { on := 2, ground := Ground.guard }], guard := some (2, true) }) (v := ?vvb6) rfl (by kernel_rfl) (by kernel_rfl) (by kernel_rfl) (fun _ _ _ h => h) (Or.inl ⟨by rfl, ?hyb6⟩) S0 ?restb6
            case hyb6 => (intro w hSw; have hc := hSw.1.cell; obtain ⟨q0, q1, q2, q3⟩ := HEj.out _ hSw.2;go_simp <;> with_reducible rfl)
            try simp only [Act.put, List.setIfInBounds_toArray, List.set_cons_zero, List.set_cons_succ]
            refine wpAnyH_take (i := 6) (oi := { dst := some 51, op := Op.indexAddr 36 (Operand.tmp 48) (Operand.tmp 50), type := 0, pos := "l09_house.go:17", after := #[{ on := 3, ground := Ground.data }, { on := 5, ground := Ground.data }, { on := 2, ground := Ground.guard }], guard := some (2, true) }) (v := ?vvb7) rfl (by kernel_rfl) (by kernel_rfl) (by kernel_rfl) (fun _ _ _ h => h) (Or.inl ⟨by rfl, ?hyb7⟩) S0 ?restb7
            case hyb7 => (intro w hSw; have hc := hSw.1.cell; obtain ⟨q0, q1, q2, q3⟩ := HEj.out _ hSw.2;go_simp <;> with_reducible rfl)
            try simp only [Act.put, List.setIfInBounds_toArray, List.set_cons_zero, List.set_cons_succ]
            refine wpAnyH_take (i := 7) (oi := { dst := some 52, op := Op.fieldAddr 85 (Operand.tmp 51) 0, type := 0, pos := "l09_house.go:17", after := #[{ on := 6, ground := Ground.data }, { on := 2, ground := Ground.guard }], guard := some (2, true) }) (v := ?vvb8) rfl (by kernel_rfl) (by kernel_rfl) (by kernel_rfl) (fun _ _ _ h => h) (Or.inl ⟨by rfl, ?hyb8⟩) S0 ?restb8
            case hyb8 => (intro w hSw; have hc := hSw.1.cell; obtain ⟨q0, q1, q2, q3⟩ := HEj.out _ hSw.2;go_simp <;> with_reducible rfl)
            try simp only [Act.put, List.setIfInBounds_toArray, List.set_cons_zero, List.set_cons_succ]
            refine wpAnyH_take (i := 8) (oi := { dst := some 53, op := Op.load 2 (Operand.tmp 52), type := 2, pos := "l09_house.go:17", after := #[{ on := 7, ground := Ground.data }, { on := 2, ground := Ground.guard }], guard := some (2, true) }) (v := ?vvb9) rfl (by kernel_rfl) (by kernel_rfl) (by kernel_rfl) (fun _ _ _ h => h) (Or.inl ⟨by rfl, ?hyb9⟩) S0 ?restb9
            case hyb9 => (intro w hSw; have hc := hSw.1.cell; obtain ⟨q0, q1, q2, q3⟩ := HEj.out _ hSw.2;go_simp <;> with_reducible rfl)
            try simp only [Act.put, List.setIfInBounds_toArray, List.set_cons_zero, List.set_cons_succ]
            refine wpAnyH_take (i := 9) (oi := { dst := some 54, op := Op.fieldAddr 85 (Operand.tmp 4) 0, type := 0, pos := "l09_house.go:17", after := #[{ on := 2, ground := Ground.guard }], guard := some (2, true) }) (v := ?vvb10) rfl (by kernel_rfl) (by kernel_rfl) (by kernel_rfl) (fun _ _ _ h => h) (Or.inl ⟨by rfl, ?hyb10⟩) S0 ?restb10
            case hyb10 => (intro w hSw; have hc := hSw.1.cell; obtain ⟨q0, q1, q2, q3⟩ := HEj.out _ hSw.2;go_simp <;> with_reducible rfl)
            try simp only [Act.put, List.setIfInBounds_toArray, List.set_cons_zero, List.set_cons_succ]
            refine wpAnyH_take (i := 10) (oi := { dst := some 55, op := Op.load 2 (Operand.tmp 54), type := 2, pos := "l09_house.go:17", after := #[{ on := 9, ground := Ground.data }, { on := 2, ground := Ground.guard }], guard := some (2, true) }) (v := ?vvb11) rfl (by kernel_rfl) (by kernel_rfl) (by kernel_rfl) (fun _ _ _ h => h) (Or.inl ⟨by rfl, ?hyb11⟩) S0 ?restb11
            case hyb11 => (intro w hSw; have hc := hSw.1.cell; obtain ⟨q0, q1, q2, q3⟩ := HEj.out _ hSw.2;go_simp <;> with_reducible rfl)
            try simp only [Act.put, List.setIfInBounds_toArray, List.set_cons_zero, List.set_cons_succ]
            refine wpAnyH_take (i := 11) (oi := { dst := some 56, op := Op.binOp BinOp.gtr 2 (Operand.tmp 53) (Operand.tmp 55) 2, type := 4, pos := "l09_house.go:17", after := #[{ on := 8, ground := Ground.data }, { on := 10, ground := Ground.data }, { on := 2, ground := Ground.guard }], guard := some (2, true) }) (v := ?vvb12) rfl (by kernel_rfl) (by kernel_rfl) (by kernel_rfl) (fun _ _ _ h => h) (Or.inl ⟨by rfl, ?hyb12⟩) S0 ?restb12
            case hyb12 => (intro w hSw; have hc := hSw.1.cell; obtain ⟨q0, q1, q2, q3⟩ := HEj.out _ hSw.2;go_simp <;> with_reducible rfl)
            try simp only [Act.put, List.setIfInBounds_toArray, List.set_cons_zero, List.set_cons_succ]
            refine wpAnyH_take (i := 12) (oi := { dst := some 57, op := Op.move (Operand.tmp 56), type := 4, pos := "l09_house.go:17", after := #[{ on := 11, ground := Ground.data }, { on := 2, ground := Ground.chain }, { on := 2, ground := Ground.guard }], guard := some (2, true) }) (v := ?vvb13) rfl (by kernel_rfl) (by kernel_rfl) (by kernel_rfl) (fun _ _ _ h => h) (Or.inl ⟨by rfl, ?hyb13⟩) S0 ?restb13
            case hyb13 => (intro w hSw; have hc := hSw.1.cell; obtain ⟨q0, q1, q2, q3⟩ := HEj.out _ hSw.2;go_simp <;> with_reducible rfl)
            try simp only [Act.put, List.setIfInBounds_toArray, List.set_cons_zero, List.set_cons_succ]
            refine wpAnyH_take (i := 13) (oi := { dst := some 58, op := Op.move (Operand.tmp 0), type := 36, pos := "l09_house.go:17", after := #[{ on := 12, ground := Ground.guard }], guard := some (12, false) }) (v := ?vvb14) rfl (by kernel_rfl) (by kernel_rfl) (by kernel_rfl) (fun _ _ _ h => h) (Or.inl ⟨by rfl, ?hyb14⟩) S0 ?restb14
            case hyb14 => (intro w hSw; have hc := hSw.1.cell; obtain ⟨q0, q1, q2, q3⟩ := HEj.out _ hSw.2;go_simp <;> with_reducible rfl)
            try simp only [Act.put, List.setIfInBounds_toArray, List.set_cons_zero, List.set_cons_succ]
            refine wpAnyH_take (i := 14) (oi := { dst := some 59, op := Op.move (Operand.tmp 3), type := 3, pos := "l09_house.go:17", after := #[{ on := 12, ground := Ground.guard }], guard := some (12, false) }) (v := ?vvb15) rfl (by kernel_rfl) (by kernel_rfl) (by kernel_rfl) (fun _ _ _ h => h) (Or.inl ⟨by rfl, ?hyb15⟩) S0 ?restb15
            case hyb15 => (intro w hSw; have hc := hSw.1.cell; obtain ⟨q0, q1, q2, q3⟩ := HEj.out _ hSw.2;go_simp <;> with_reducible rfl)
            try simp only [Act.put, List.setIfInBounds_toArray, List.set_cons_zero, List.set_cons_succ]
            refine wpAnyH_take (i := 15) (oi := { dst := some 60, op := Op.binOp BinOp.sub 3 (Operand.tmp 59) (Operand.const (Value.int IntKind.i64 1)) 3, type := 3, pos := "l09_house.go:17", after := #[{ on := 14, ground := Ground.data }, { on := 12, ground := Ground.guard }], guard := some (12, false) }) (v := ?vvb16) rfl (by kernel_rfl) (by kernel_rfl) (by kernel_rfl) (fun _ _ _ h => h) (Or.inl ⟨by rfl, ?hyb16⟩) S0 ?restb16
            case hyb16 => (intro w hSw; have hc := hSw.1.cell; obtain ⟨q0, q1, q2, q3⟩ := HEj.out _ hSw.2;go_simp <;> with_reducible rfl)
            try simp only [Act.put, List.setIfInBounds_toArray, List.set_cons_zero, List.set_cons_succ]
            refine wpAnyH_take (i := 16) (oi := { dst := some 61, op := Op.indexAddr 36 (Operand.tmp 58) (Operand.tmp 60), type := 0, pos := "l09_house.go:17", after := #[{ on := 13, ground := Ground.data }, { on := 15, ground := Ground.data }, { on := 12, ground := Ground.guard }], guard := some (12, false) }) (v := ?vvb17) rfl (by kernel_rfl) (by kernel_rfl) (by kernel_rfl) (fun _ _ _ h => h) (Or.inl ⟨by rfl, ?hyb17⟩) S0 ?restb17
            case hyb17 => (intro w hSw; have hc := hSw.1.cell; obtain ⟨q0, q1, q2, q3⟩ := HEj.out _ hSw.2;go_simp <;> with_reducible rfl)
            try simp only [Act.put, List.setIfInBounds_toArray, List.set_cons_zero, List.set_cons_succ]
            refine wpAnyH_take (i := 17) (oi := { dst := some 62, op := Op.fieldAddr 85 (Operand.tmp 61) 0, type := 0, pos := "l09_house.go:17", after := #[{ on := 16, ground := Ground.data }, { on := 12, ground := Ground.guard }], guard := some (12, false) }) (v := ?vvb18) rfl (by kernel_rfl) (by kernel_rfl) (by kernel_rfl) (fun _ _ _ h => h) (Or.inl ⟨by rfl, ?hyb18⟩) S0 ?restb18
            case hyb18 => (intro w hSw; have hc := hSw.1.cell; obtain ⟨q0, q1, q2, q3⟩ := HEj.out _ hSw.2;go_simp <;> with_reducible rfl)
            try simp only [Act.put, List.setIfInBounds_toArray, List.set_cons_zero, List.set_cons_succ]
            refine wpAnyH_take (i := 18) (oi := { dst := some 63, op := Op.load 2 (Operand.tmp 62), type := 2, pos := "l09_house.go:17", after := #[{ on := 17, ground := Ground.data }, { on := 12, ground := Ground.guard }], guard := some (12, false) }) (v := ?vvb19) rfl (by kernel_rfl) (by kernel_rfl) (by kernel_rfl) (fun _ _ _ h => h) (Or.inl ⟨by rfl, ?hyb19⟩) S0 ?restb19
            case hyb19 => (intro w hSw; have hc := hSw.1.cell; obtain ⟨q0, q1, q2, q3⟩ := HEj.out _ hSw.2;go_simp <;> with_reducible rfl)
            try simp only [Act.put, List.setIfInBounds_toArray, List.set_cons_zero, List.set_cons_succ]
            refine wpAnyH_take (i := 19) (oi := { dst := some 64, op := Op.fieldAddr 85 (Operand.tmp 4) 0, type := 0, pos := "l09_house.go:17", after := #[{ on := 12, ground := Ground.guard }], guard := some (12, false) }) (v := ?vvb20) rfl (by kernel_rfl) (by kernel_rfl) (by kernel_rfl) (fun _ _ _ h => h) (Or.inl ⟨by rfl, ?hyb20⟩) S0 ?restb20
            case hyb20 => (intro w hSw; have hc := hSw.1.cell; obtain ⟨q0, q1, q2, q3⟩ := HEj.out _ hSw.2;go_simp <;> with_reducible rfl)
            try simp only [Act.put, List.setIfInBounds_toArray, List.set_cons_zero, List.set_cons_succ]
            refine wpAnyH_take (i := 20) (oi := { dst := some 65, op := Op.load 2 (Operand.tmp 64), type := 2, pos := "l09_house.go:17", after := #[{ on := 19, ground := Ground.data }, { on := 12, ground := Ground.guard }], guard := some (12, false) }) (v := ?vvb21) rfl (by kernel_rfl) (by kernel_rfl) (by kernel_rfl) (fun _ _ _ h => h) (Or.inl ⟨by rfl, ?hyb21⟩) S0 ?restb21
            case hyb21 => (intro w hSw; have hc := hSw.1.cell; obtain ⟨q0, q1, q2, q3⟩ := HEj.out _ hSw.2;go_simp <;> with_reducible rfl)
            try simp only [Act.put, List.setIfInBounds_toArray, List.set_cons_zero, List.set_cons_succ]
            refine wpAnyH_take (i := 21) (oi := { dst := some 66, op := Op.binOp BinOp.eql 2 (Operand.tmp 63) (Operand.tmp 65) 2, type := 4, pos := "l09_house.go:17", after := #[{ on := 18, ground := Ground.data }, { on := 20, ground := Ground.data }, { on := 12, ground := Ground.guard }], guard := some (12, false) }) (v := ?vvb22) rfl (by kernel_rfl) (by kernel_rfl) (by kernel_rfl) (fun _ _ _ h => h) (Or.inl ⟨by rfl, ?hyb22⟩) S0 ?restb22
            case hyb22 => (intro w hSw; have hc := hSw.1.cell; obtain ⟨q0, q1, q2, q3⟩ := HEj.out _ hSw.2;go_simp <;> with_reducible rfl)
            try simp only [Act.put, List.setIfInBounds_toArray, List.set_cons_zero, List.set_cons_succ]
            refine wpAnyH_take (i := 22) (oi := { dst := some 67, op := Op.move (Operand.tmp 66), type := 4, pos := "l09_house.go:17", after := #[{ on := 21, ground := Ground.data }, { on := 12, ground := Ground.chain }, { on := 12, ground := Ground.guard }], guard := some (12, false) }) (v := ?vvb23) rfl (by kernel_rfl) (by kernel_rfl) (by kernel_rfl) (fun _ _ _ h => h) (Or.inl ⟨by rfl, ?hyb23⟩) S0 ?restb23
            case hyb23 => (intro w hSw; have hc := hSw.1.cell; obtain ⟨q0, q1, q2, q3⟩ := HEj.out _ hSw.2;go_simp <;> with_reducible rfl)
            try simp only [Act.put, List.setIfInBounds_toArray, List.set_cons_zero, List.set_cons_succ]
            refine wpAnyH_take (i := 23) (oi := { dst := some 68, op := Op.move (Operand.tmp 0), type := 36, pos := "l09_house.go:17", after := #[{ on := 22, ground := Ground.guard }], guard := some (22, true) }) (v := undef) rfl (by kernel_rfl) (by kernel_rfl) (by kernel_rfl) (fun _ _ _ h => h) (Or.inr ⟨by rfl, rfl⟩) S0 ?_
            try simp only [Act.put, List.setIfInBounds_toArray, List.set_cons_zero, List.set_cons_succ]
            refine wpAnyH_take (i := 24) (oi := { dst := some 69, op := Op.move (Operand.tmp 3), type := 3, pos := "l09_house.go:17", after := #[{ on := 22, ground := Ground.guard }], guard := some (22, true) }) (v := undef) rfl (by kernel_rfl) (by kernel_rfl) (by kernel_rfl) (fun _ _ _ h => h) (Or.inr ⟨by rfl, rfl⟩) S0 ?_
            try simp only [Act.put, List.setIfInBounds_toArray, List.set_cons_zero, List.set_cons_succ]
            refine wpAnyH_take (i := 25) (oi := { dst := some 70, op := Op.binOp BinOp.sub 3 (Operand.tmp 69) (Operand.const (Value.int IntKind.i64 1)) 3, type := 3, pos := "l09_house.go:17", after := #[{ on := 24, ground := Ground.data }, { on := 22, ground := Ground.guard }], guard := some (22, true) }) (v := undef) rfl (by kernel_rfl) (by kernel_rfl) (by kernel_rfl) (fun _ _ _ h => h) (Or.inr ⟨by rfl, rfl⟩) S0 ?_
            try simp only [Act.put, List.setIfInBounds_toArray, List.set_cons_zero, List.set_cons_succ]
            refine wpAnyH_take (i := 26) (oi := { dst := some 71, op := Op.indexAddr 36 (Operand.tmp 68) (Operand.tmp 70), type := 0, pos := "l09_house.go:17", after := #[{ on := 23, ground := Ground.data }, { on := 25, ground := Ground.data }, { on := 22, ground := Ground.guard }], guard := some (22, true) }) (v := undef) rfl (by kernel_rfl) (by kernel_rfl) (by kernel_rfl) (fun _ _ _ h => h) (Or.inr ⟨by rfl, rfl⟩) S0 ?_
            try simp only [Act.put, List.setIfInBounds_toArray, List.set_cons_zero, List.set_cons_succ]
            refine wpAnyH_take (i := 27) (oi := { dst := some 72, op := Op.fieldAddr 85 (Operand.tmp 71) 1, type := 0, pos := "l09_house.go:17", after := #[{ on := 26, ground := Ground.data }, { on := 22, ground := Ground.guard }], guard := some (22, true) }) (v := undef) rfl (by kernel_rfl) (by kernel_rfl) (by kernel_rfl) (fun _ _ _ h => h) (Or.inr ⟨by rfl, rfl⟩) S0 ?_
            try simp only [Act.put, List.setIfInBounds_toArray, List.set_cons_zero, List.set_cons_succ]
            refine wpAnyH_take (i := 28) (oi := { dst := some 73, op := Op.load 2 (Operand.tmp 72), type := 2, pos := "l09_house.go:17", after := #[{ on := 27, ground := Ground.data }, { on := 22, ground := Ground.guard }], guard := some (22, true) }) (v := undef) rfl (by kernel_rfl) (by kernel_rfl) (by kernel_rfl) (fun _ _ _ h => h) (Or.inr ⟨by rfl, rfl⟩) S0 ?_
            try simp only [Act.put, List.setIfInBounds_toArray, List.set_cons_zero, List.set_cons_succ]
            refine wpAnyH_take (i := 29) (oi := { dst := some 74, op := Op.fieldAddr 85 (Operand.tmp 4) 1, type := 0, pos := "l09_house.go:17", after := #[{ on := 22, ground := Ground.guard }], guard := some (22, true) }) (v := undef) rfl (by kernel_rfl) (by kernel_rfl) (by kernel_rfl) (fun _ _ _ h => h) (Or.inr ⟨by rfl, rfl⟩) S0 ?_
            try simp only [Act.put, List.setIfInBounds_toArray, List.set_cons_zero, List.set_cons_succ]
            refine wpAnyH_take (i := 30) (oi := { dst := some 75, op := Op.load 2 (Operand.tmp 74), type := 2, pos := "l09_house.go:17", after := #[{ on := 29, ground := Ground.data }, { on := 22, ground := Ground.guard }], guard := some (22, true) }) (v := undef) rfl (by kernel_rfl) (by kernel_rfl) (by kernel_rfl) (fun _ _ _ h => h) (Or.inr ⟨by rfl, rfl⟩) S0 ?_
            try simp only [Act.put, List.setIfInBounds_toArray, List.set_cons_zero, List.set_cons_succ]
            refine wpAnyH_take (i := 31) (oi := { dst := some 76, op := Op.binOp BinOp.geq 2 (Operand.tmp 73) (Operand.tmp 75) 2, type := 4, pos := "l09_house.go:17", after := #[{ on := 28, ground := Ground.data }, { on := 30, ground := Ground.data }, { on := 22, ground := Ground.guard }], guard := some (22, true) }) (v := undef) rfl (by kernel_rfl) (by kernel_rfl) (by kernel_rfl) (fun _ _ _ h => h) (Or.inr ⟨by rfl, rfl⟩) S0 ?_
            try simp only [Act.put, List.setIfInBounds_toArray, List.set_cons_zero, List.set_cons_succ]
            refine wpAnyH_take (i := 32) (oi := { dst := some 77, op := Op.pick (Operand.tmp 67) (Operand.tmp 76) (Operand.const (Value.bool false)), type := 4, pos := "l09_house.go:17", after := #[{ on := 22, ground := Ground.data }, { on := 31, ground := Ground.data }, { on := 12, ground := Ground.guard }], guard := some (12, false) }) (v := ?vvb33) rfl (by kernel_rfl) (by kernel_rfl) (by kernel_rfl) (fun _ _ _ h => h) (Or.inl ⟨by rfl, ?hyb33⟩) S0 ?restb33
            case hyb33 => (intro w hSw; have hc := hSw.1.cell; obtain ⟨q0, q1, q2, q3⟩ := HEj.out _ hSw.2;go_simp <;> with_reducible rfl)
            try simp only [Act.put, List.setIfInBounds_toArray, List.set_cons_zero, List.set_cons_succ]
            refine wpAnyH_take (i := 33) (oi := { dst := some 78, op := Op.pick (Operand.tmp 57) (Operand.const (Value.bool true)) (Operand.tmp 77), type := 4, pos := "l09_house.go:17", after := #[{ on := 12, ground := Ground.data }, { on := 32, ground := Ground.data }, { on := 2, ground := Ground.guard }], guard := some (2, true) }) (v := ?vvb34) rfl (by kernel_rfl) (by kernel_rfl) (by kernel_rfl) (fun _ _ _ h => h) (Or.inl ⟨by rfl, ?hyb34⟩) S0 ?restb34
            case hyb34 => (intro w hSw; have hc := hSw.1.cell; obtain ⟨q0, q1, q2, q3⟩ := HEj.out _ hSw.2;go_simp <;> with_reducible rfl)
            try simp only [Act.put, List.setIfInBounds_toArray, List.set_cons_zero, List.set_cons_succ]
            refine wpAnyH_take (i := 34) (oi := { dst := some 79, op := Op.pick (Operand.tmp 47) (Operand.tmp 78) (Operand.const (Value.bool false)), type := 4, pos := "l09_house.go:17", after := #[{ on := 2, ground := Ground.data }, { on := 33, ground := Ground.data }], guard := none }) (v := ?vvb35) rfl (by kernel_rfl) (by kernel_rfl) (by kernel_rfl) (fun _ _ _ h => h) (Or.inl ⟨by rfl, ?hyb35⟩) S0 ?restb35
            case hyb35 => (intro w hSw; have hc := hSw.1.cell; obtain ⟨q0, q1, q2, q3⟩ := HEj.out _ hSw.2;go_simp <;> with_reducible rfl)
            try simp only [Act.put, List.setIfInBounds_toArray, List.set_cons_zero, List.set_cons_succ]
            refine wpAnyH_done (by kernel_rfl) ?_ _
            all_goals
              have HBn := Lib.hid S0.2
              clear S0
              go_wp2_with fail
              go_roundw
              case rel => exact ⟨j + 1 + 1, by omega, by simp, Lib.hid (fun k hk => by
                by_cases e : k = j + 1
                · subst e; exact hr.out
                · exact HK.out k (by omega)), HBn⟩
              case measure => simp [intOf]; omega
          · obtain ⟨xv, xm, xh, xd⟩ := x
            dsimp only at *
            subst hle
            have hX1 : ¬ y.mac ≤ xm := by omega
            refine wp_region_held_drew (S := fun W' => Blk W' wr.heap.size 85 #[.int .i64 y.vni, .int .i64 y.mac, .int .i64 y.house, .int .i64 y.door] ∧ Below w.heap.size w W') (by kernel_rfl) S0 (fun hHeld => ?_)
            clear hHeld
            refine wpAnyH_take (i := 0) (oi := { dst := some 45, op := Op.move (Operand.tmp 3), type := 3, pos := "l09_house.go:17", after := #[], guard := none }) (v := ?vvc1) rfl (by kernel_rfl) (by kernel_rfl) (by kernel_rfl) (fun _ _ _ h => h) (Or.inl ⟨by rfl, ?hyc1⟩) S0 ?restc1
            case hyc1 => (intro w hSw; have hc := hSw.1.cell; obtain ⟨q0, q1, q2, q3⟩ := HEj.out _ hSw.2;go_simp <;> with_reducible rfl)
            try simp only [Act.put, List.setIfInBounds_toArray, List.set_cons_zero, List.set_cons_succ]
            refine wpAnyH_take (i := 1) (oi := { dst := some 46, op := Op.binOp BinOp.gtr 3 (Operand.tmp 45) (Operand.const (Value.int IntKind.i64 0)) 3, type := 4, pos := "l09_house.go:17", after := #[{ on := 0, ground := Ground.data }], guard := none }) (v := ?vvc2) rfl (by kernel_rfl) (by kernel_rfl) (by kernel_rfl) (fun _ _ _ h => h) (Or.inl ⟨by rfl, ?hyc2⟩) S0 ?restc2
            case hyc2 => (intro w hSw; have hc := hSw.1.cell; obtain ⟨q0, q1, q2, q3⟩ := HEj.out _ hSw.2;go_simp <;> with_reducible rfl)
            try simp only [Act.put, List.setIfInBounds_toArray, List.set_cons_zero, List.set_cons_succ]
            refine wpAnyH_take (i := 2) (oi := { dst := some 47, op := Op.move (Operand.tmp 46), type := 4, pos := "l09_house.go:17", after := #[{ on := 1, ground := Ground.data }], guard := none }) (v := ?vvc3) rfl (by kernel_rfl) (by kernel_rfl) (by kernel_rfl) (fun _ _ _ h => h) (Or.inl ⟨by rfl, ?hyc3⟩) S0 ?restc3
            case hyc3 => (intro w hSw; have hc := hSw.1.cell; obtain ⟨q0, q1, q2, q3⟩ := HEj.out _ hSw.2;go_simp <;> with_reducible rfl)
            try simp only [Act.put, List.setIfInBounds_toArray, List.set_cons_zero, List.set_cons_succ]
            refine wpAnyH_take (i := 3) (oi := { dst := some 48, op := Op.move (Operand.tmp 0), type := 36, pos := "l09_house.go:17", after := #[{ on := 2, ground := Ground.guard }], guard := some (2, true) }) (v := ?vvc4) rfl (by kernel_rfl) (by kernel_rfl) (by kernel_rfl) (fun _ _ _ h => h) (Or.inl ⟨by rfl, ?hyc4⟩) S0 ?restc4
            case hyc4 => (intro w hSw; have hc := hSw.1.cell; obtain ⟨q0, q1, q2, q3⟩ := HEj.out _ hSw.2;go_simp <;> with_reducible rfl)
            try simp only [Act.put, List.setIfInBounds_toArray, List.set_cons_zero, List.set_cons_succ]
            refine wpAnyH_take (i := 4) (oi := { dst := some 49, op := Op.move (Operand.tmp 3), type := 3, pos := "l09_house.go:17", after := #[{ on := 2, ground := Ground.guard }], guard := some (2, true) }) (v := ?vvc5) rfl (by kernel_rfl) (by kernel_rfl) (by kernel_rfl) (fun _ _ _ h => h) (Or.inl ⟨by rfl, ?hyc5⟩) S0 ?restc5
            case hyc5 => (intro w hSw; have hc := hSw.1.cell; obtain ⟨q0, q1, q2, q3⟩ := HEj.out _ hSw.2;go_simp <;> with_reducible rfl)
            try simp only [Act.put, List.setIfInBounds_toArray, List.set_cons_zero, List.set_cons_succ]
            refine wpAnyH_take (i := 5) (oi := { dst := some 50, op := Op.binOp BinOp.sub 3 (Operand.tmp 49) (Operand.const (Value.int IntKind.i64 1)) 3, type := 3, pos := "l09_house.go:17", after := #[{ on := 4, ground := Ground.data }, { on := 2, ground := Ground.guard }], guard := some (2, true) }) (v := ?vvc6) rfl (by kernel_rfl) (by kernel_rfl) (by kernel_rfl) (fun _ _ _ h => h) (Or.inl ⟨by rfl, ?hyc6⟩) S0 ?restc6
            case hyc6 => (intro w hSw; have hc := hSw.1.cell; obtain ⟨q0, q1, q2, q3⟩ := HEj.out _ hSw.2;go_simp <;> with_reducible rfl)
            try simp only [Act.put, List.setIfInBounds_toArray, List.set_cons_zero, List.set_cons_succ]
            refine wpAnyH_take (i := 6) (oi := { dst := some 51, op := Op.indexAddr 36 (Operand.tmp 48) (Operand.tmp 50), type := 0, pos := "l09_house.go:17", after := #[{ on := 3, ground := Ground.data }, { on := 5, ground := Ground.data }, { on := 2, ground := Ground.guard }], guard := some (2, true) }) (v := ?vvc7) rfl (by kernel_rfl) (by kernel_rfl) (by kernel_rfl) (fun _ _ _ h => h) (Or.inl ⟨by rfl, ?hyc7⟩) S0 ?restc7
            case hyc7 => (intro w hSw; have hc := hSw.1.cell; obtain ⟨q0, q1, q2, q3⟩ := HEj.out _ hSw.2;go_simp <;> with_reducible rfl)
            try simp only [Act.put, List.setIfInBounds_toArray, List.set_cons_zero, List.set_cons_succ]
            refine wpAnyH_take (i := 7) (oi := { dst := some 52, op := Op.fieldAddr 85 (Operand.tmp 51) 0, type := 0, pos := "l09_house.go:17", after := #[{ on := 6, ground := Ground.data }, { on := 2, ground := Ground.guard }], guard := some (2, true) }) (v := ?vvc8) rfl (by kernel_rfl) (by kernel_rfl) (by kernel_rfl) (fun _ _ _ h => h) (Or.inl ⟨by rfl, ?hyc8⟩) S0 ?restc8
            case hyc8 => (intro w hSw; have hc := hSw.1.cell; obtain ⟨q0, q1, q2, q3⟩ := HEj.out _ hSw.2;go_simp <;> with_reducible rfl)
            try simp only [Act.put, List.setIfInBounds_toArray, List.set_cons_zero, List.set_cons_succ]
            refine wpAnyH_take (i := 8) (oi := { dst := some 53, op := Op.load 2 (Operand.tmp 52), type := 2, pos := "l09_house.go:17", after := #[{ on := 7, ground := Ground.data }, { on := 2, ground := Ground.guard }], guard := some (2, true) }) (v := ?vvc9) rfl (by kernel_rfl) (by kernel_rfl) (by kernel_rfl) (fun _ _ _ h => h) (Or.inl ⟨by rfl, ?hyc9⟩) S0 ?restc9
            case hyc9 => (intro w hSw; have hc := hSw.1.cell; obtain ⟨q0, q1, q2, q3⟩ := HEj.out _ hSw.2;go_simp <;> with_reducible rfl)
            try simp only [Act.put, List.setIfInBounds_toArray, List.set_cons_zero, List.set_cons_succ]
            refine wpAnyH_take (i := 9) (oi := { dst := some 54, op := Op.fieldAddr 85 (Operand.tmp 4) 0, type := 0, pos := "l09_house.go:17", after := #[{ on := 2, ground := Ground.guard }], guard := some (2, true) }) (v := ?vvc10) rfl (by kernel_rfl) (by kernel_rfl) (by kernel_rfl) (fun _ _ _ h => h) (Or.inl ⟨by rfl, ?hyc10⟩) S0 ?restc10
            case hyc10 => (intro w hSw; have hc := hSw.1.cell; obtain ⟨q0, q1, q2, q3⟩ := HEj.out _ hSw.2;go_simp <;> with_reducible rfl)
            try simp only [Act.put, List.setIfInBounds_toArray, List.set_cons_zero, List.set_cons_succ]
            refine wpAnyH_take (i := 10) (oi := { dst := some 55, op := Op.load 2 (Operand.tmp 54), type := 2, pos := "l09_house.go:17", after := #[{ on := 9, ground := Ground.data }, { on := 2, ground := Ground.guard }], guard := some (2, true) }) (v := ?vvc11) rfl (by kernel_rfl) (by kernel_rfl) (by kernel_rfl) (fun _ _ _ h => h) (Or.inl ⟨by rfl, ?hyc11⟩) S0 ?restc11
            case hyc11 => (intro w hSw; have hc := hSw.1.cell; obtain ⟨q0, q1, q2, q3⟩ := HEj.out _ hSw.2;go_simp <;> with_reducible rfl)
            try simp only [Act.put, List.setIfInBounds_toArray, List.set_cons_zero, List.set_cons_succ]
            refine wpAnyH_take (i := 11) (oi := { dst := some 56, op := Op.binOp BinOp.gtr 2 (Operand.tmp 53) (Operand.tmp 55) 2, type := 4, pos := "l09_house.go:17", after := #[{ on := 8, ground := Ground.data }, { on := 10, ground := Ground.data }, { on := 2, ground := Ground.guard }], guard := some (2, true) }) (v := ?vvc12) rfl (by kernel_rfl) (by kernel_rfl) (by kernel_rfl) (fun _ _ _ h => h) (Or.inl ⟨by rfl, ?hyc12⟩) S0 ?restc12
            case hyc12 => (intro w hSw; have hc := hSw.1.cell; obtain ⟨q0, q1, q2, q3⟩ := HEj.out _ hSw.2;go_simp <;> with_reducible rfl)
            try simp only [Act.put, List.setIfInBounds_toArray, List.set_cons_zero, List.set_cons_succ]
            refine wpAnyH_take (i := 12) (oi := { dst := some 57, op := Op.move (Operand.tmp 56), type := 4, pos := "l09_house.go:17", after := #[{ on := 11, ground := Ground.data }, { on := 2, ground := Ground.chain }, { on := 2, ground := Ground.guard }], guard := some (2, true) }) (v := ?vvc13) rfl (by kernel_rfl) (by kernel_rfl) (by kernel_rfl) (fun _ _ _ h => h) (Or.inl ⟨by rfl, ?hyc13⟩) S0 ?restc13
            case hyc13 => (intro w hSw; have hc := hSw.1.cell; obtain ⟨q0, q1, q2, q3⟩ := HEj.out _ hSw.2;go_simp <;> with_reducible rfl)
            try simp only [Act.put, List.setIfInBounds_toArray, List.set_cons_zero, List.set_cons_succ]
            refine wpAnyH_take (i := 13) (oi := { dst := some 58, op := Op.move (Operand.tmp 0), type := 36, pos := "l09_house.go:17", after := #[{ on := 12, ground := Ground.guard }], guard := some (12, false) }) (v := ?vvc14) rfl (by kernel_rfl) (by kernel_rfl) (by kernel_rfl) (fun _ _ _ h => h) (Or.inl ⟨by rfl, ?hyc14⟩) S0 ?restc14
            case hyc14 => (intro w hSw; have hc := hSw.1.cell; obtain ⟨q0, q1, q2, q3⟩ := HEj.out _ hSw.2;go_simp <;> with_reducible rfl)
            try simp only [Act.put, List.setIfInBounds_toArray, List.set_cons_zero, List.set_cons_succ]
            refine wpAnyH_take (i := 14) (oi := { dst := some 59, op := Op.move (Operand.tmp 3), type := 3, pos := "l09_house.go:17", after := #[{ on := 12, ground := Ground.guard }], guard := some (12, false) }) (v := ?vvc15) rfl (by kernel_rfl) (by kernel_rfl) (by kernel_rfl) (fun _ _ _ h => h) (Or.inl ⟨by rfl, ?hyc15⟩) S0 ?restc15
            case hyc15 => (intro w hSw; have hc := hSw.1.cell; obtain ⟨q0, q1, q2, q3⟩ := HEj.out _ hSw.2;go_simp <;> with_reducible rfl)
            try simp only [Act.put, List.setIfInBounds_toArray, List.set_cons_zero, List.set_cons_succ]
            refine wpAnyH_take (i := 15) (oi := { dst := some 60, op := Op.binOp BinOp.sub 3 (Operand.tmp 59) (Operand.const (Value.int IntKind.i64 1)) 3, type := 3, pos := "l09_house.go:17", after := #[{ on := 14, ground := Ground.data }, { on := 12, ground := Ground.guard }], guard := some (12, false) }) (v := ?vvc16) rfl (by kernel_rfl) (by kernel_rfl) (by kernel_rfl) (fun _ _ _ h => h) (Or.inl ⟨by rfl, ?hyc16⟩) S0 ?restc16
            case hyc16 => (intro w hSw; have hc := hSw.1.cell; obtain ⟨q0, q1, q2, q3⟩ := HEj.out _ hSw.2;go_simp <;> with_reducible rfl)
            try simp only [Act.put, List.setIfInBounds_toArray, List.set_cons_zero, List.set_cons_succ]
            refine wpAnyH_take (i := 16) (oi := { dst := some 61, op := Op.indexAddr 36 (Operand.tmp 58) (Operand.tmp 60), type := 0, pos := "l09_house.go:17", after := #[{ on := 13, ground := Ground.data }, { on := 15, ground := Ground.data }, { on := 12, ground := Ground.guard }], guard := some (12, false) }) (v := ?vvc17) rfl (by kernel_rfl) (by kernel_rfl) (by kernel_rfl) (fun _ _ _ h => h) (Or.inl ⟨by rfl, ?hyc17⟩) S0 ?restc17
            case hyc17 => (intro w hSw; have hc := hSw.1.cell; obtain ⟨q0, q1, q2, q3⟩ := HEj.out _ hSw.2;go_simp <;> with_reducible rfl)
            try simp only [Act.put, List.setIfInBounds_toArray, List.set_cons_zero, List.set_cons_succ]
            refine wpAnyH_take (i := 17) (oi := { dst := some 62, op := Op.fieldAddr 85 (Operand.tmp 61) 0, type := 0, pos := "l09_house.go:17", after := #[{ on := 16, ground := Ground.data }, { on := 12, ground := Ground.guard }], guard := some (12, false) }) (v := ?vvc18) rfl (by kernel_rfl) (by kernel_rfl) (by kernel_rfl) (fun _ _ _ h => h) (Or.inl ⟨by rfl, ?hyc18⟩) S0 ?restc18
            case hyc18 => (intro w hSw; have hc := hSw.1.cell; obtain ⟨q0, q1, q2, q3⟩ := HEj.out _ hSw.2;go_simp <;> with_reducible rfl)
            try simp only [Act.put, List.setIfInBounds_toArray, List.set_cons_zero, List.set_cons_succ]
            refine wpAnyH_take (i := 18) (oi := { dst := some 63, op := Op.load 2 (Operand.tmp 62), type := 2, pos := "l09_house.go:17", after := #[{ on := 17, ground := Ground.data }, { on := 12, ground := Ground.guard }], guard := some (12, false) }) (v := ?vvc19) rfl (by kernel_rfl) (by kernel_rfl) (by kernel_rfl) (fun _ _ _ h => h) (Or.inl ⟨by rfl, ?hyc19⟩) S0 ?restc19
            case hyc19 => (intro w hSw; have hc := hSw.1.cell; obtain ⟨q0, q1, q2, q3⟩ := HEj.out _ hSw.2;go_simp <;> with_reducible rfl)
            try simp only [Act.put, List.setIfInBounds_toArray, List.set_cons_zero, List.set_cons_succ]
            refine wpAnyH_take (i := 19) (oi := { dst := some 64, op := Op.fieldAddr 85 (Operand.tmp 4) 0, type := 0, pos := "l09_house.go:17", after := #[{ on := 12, ground := Ground.guard }], guard := some (12, false) }) (v := ?vvc20) rfl (by kernel_rfl) (by kernel_rfl) (by kernel_rfl) (fun _ _ _ h => h) (Or.inl ⟨by rfl, ?hyc20⟩) S0 ?restc20
            case hyc20 => (intro w hSw; have hc := hSw.1.cell; obtain ⟨q0, q1, q2, q3⟩ := HEj.out _ hSw.2;go_simp <;> with_reducible rfl)
            try simp only [Act.put, List.setIfInBounds_toArray, List.set_cons_zero, List.set_cons_succ]
            refine wpAnyH_take (i := 20) (oi := { dst := some 65, op := Op.load 2 (Operand.tmp 64), type := 2, pos := "l09_house.go:17", after := #[{ on := 19, ground := Ground.data }, { on := 12, ground := Ground.guard }], guard := some (12, false) }) (v := ?vvc21) rfl (by kernel_rfl) (by kernel_rfl) (by kernel_rfl) (fun _ _ _ h => h) (Or.inl ⟨by rfl, ?hyc21⟩) S0 ?restc21
            case hyc21 => (intro w hSw; have hc := hSw.1.cell; obtain ⟨q0, q1, q2, q3⟩ := HEj.out _ hSw.2;go_simp <;> with_reducible rfl)
            try simp only [Act.put, List.setIfInBounds_toArray, List.set_cons_zero, List.set_cons_succ]
            refine wpAnyH_take (i := 21) (oi := { dst := some 66, op := Op.binOp BinOp.eql 2 (Operand.tmp 63) (Operand.tmp 65) 2, type := 4, pos := "l09_house.go:17", after := #[{ on := 18, ground := Ground.data }, { on := 20, ground := Ground.data }, { on := 12, ground := Ground.guard }], guard := some (12, false) }) (v := ?vvc22) rfl (by kernel_rfl) (by kernel_rfl) (by kernel_rfl) (fun _ _ _ h => h) (Or.inl ⟨by rfl, ?hyc22⟩) S0 ?restc22
            case hyc22 => (intro w hSw; have hc := hSw.1.cell; obtain ⟨q0, q1, q2, q3⟩ := HEj.out _ hSw.2;go_simp <;> with_reducible rfl)
            try simp only [Act.put, List.setIfInBounds_toArray, List.set_cons_zero, List.set_cons_succ]
            refine wpAnyH_take (i := 22) (oi := { dst := some 67, op := Op.move (Operand.tmp 66), type := 4, pos := "l09_house.go:17", after := #[{ on := 21, ground := Ground.data }, { on := 12, ground := Ground.chain }, { on := 12, ground := Ground.guard }], guard := some (12, false) }) (v := ?vvc23) rfl (by kernel_rfl) (by kernel_rfl) (by kernel_rfl) (fun _ _ _ h => h) (Or.inl ⟨by rfl, ?hyc23⟩) S0 ?restc23
            case hyc23 => (intro w hSw; have hc := hSw.1.cell; obtain ⟨q0, q1, q2, q3⟩ := HEj.out _ hSw.2;go_simp <;> with_reducible rfl)
            try simp only [Act.put, List.setIfInBounds_toArray, List.set_cons_zero, List.set_cons_succ]
            refine wpAnyH_take (i := 23) (oi := { dst := some 68, op := Op.move (Operand.tmp 0), type := 36, pos := "l09_house.go:17", after := #[{ on := 22, ground := Ground.guard }], guard := some (22, true) }) (v := ?vvc24) rfl (by kernel_rfl) (by kernel_rfl) (by kernel_rfl) (fun _ _ _ h => h) (Or.inl ⟨by rfl, ?hyc24⟩) S0 ?restc24
            case hyc24 => (intro w hSw; have hc := hSw.1.cell; obtain ⟨q0, q1, q2, q3⟩ := HEj.out _ hSw.2;go_simp <;> with_reducible rfl)
            try simp only [Act.put, List.setIfInBounds_toArray, List.set_cons_zero, List.set_cons_succ]
            refine wpAnyH_take (i := 24) (oi := { dst := some 69, op := Op.move (Operand.tmp 3), type := 3, pos := "l09_house.go:17", after := #[{ on := 22, ground := Ground.guard }], guard := some (22, true) }) (v := ?vvc25) rfl (by kernel_rfl) (by kernel_rfl) (by kernel_rfl) (fun _ _ _ h => h) (Or.inl ⟨by rfl, ?hyc25⟩) S0 ?restc25
            case hyc25 => (intro w hSw; have hc := hSw.1.cell; obtain ⟨q0, q1, q2, q3⟩ := HEj.out _ hSw.2;go_simp <;> with_reducible rfl)
            try simp only [Act.put, List.setIfInBounds_toArray, List.set_cons_zero, List.set_cons_succ]
            refine wpAnyH_take (i := 25) (oi := { dst := some 70, op := Op.binOp BinOp.sub 3 (Operand.tmp 69) (Operand.const (Value.int IntKind.i64 1)) 3, type := 3, pos := "l09_house.go:17", after := #[{ on := 24, ground := Ground.data }, { on := 22, ground := Ground.guard }], guard := some (22, true) }) (v := ?vvc26) rfl (by kernel_rfl) (by kernel_rfl) (by kernel_rfl) (fun _ _ _ h => h) (Or.inl ⟨by rfl, ?hyc26⟩) S0 ?restc26
            case hyc26 => (intro w hSw; have hc := hSw.1.cell; obtain ⟨q0, q1, q2, q3⟩ := HEj.out _ hSw.2;go_simp <;> with_reducible rfl)
            try simp only [Act.put, List.setIfInBounds_toArray, List.set_cons_zero, List.set_cons_succ]
            refine wpAnyH_take (i := 26) (oi := { dst := some 71, op := Op.indexAddr 36 (Operand.tmp 68) (Operand.tmp 70), type := 0, pos := "l09_house.go:17", after := #[{ on := 23, ground := Ground.data }, { on := 25, ground := Ground.data }, { on := 22, ground := Ground.guard }], guard := some (22, true) }) (v := ?vvc27) rfl (by kernel_rfl) (by kernel_rfl) (by kernel_rfl) (fun _ _ _ h => h) (Or.inl ⟨by rfl, ?hyc27⟩) S0 ?restc27
            case hyc27 => (intro w hSw; have hc := hSw.1.cell; obtain ⟨q0, q1, q2, q3⟩ := HEj.out _ hSw.2;go_simp <;> with_reducible rfl)
            try simp only [Act.put, List.setIfInBounds_toArray, List.set_cons_zero, List.set_cons_succ]
            refine wpAnyH_take (i := 27) (oi := { dst := some 72, op := Op.fieldAddr 85 (Operand.tmp 71) 1, type := 0, pos := "l09_house.go:17", after := #[{ on := 26, ground := Ground.data }, { on := 22, ground := Ground.guard }], guard := some (22, true) }) (v := ?vvc28) rfl (by kernel_rfl) (by kernel_rfl) (by kernel_rfl) (fun _ _ _ h => h) (Or.inl ⟨by rfl, ?hyc28⟩) S0 ?restc28
            case hyc28 => (intro w hSw; have hc := hSw.1.cell; obtain ⟨q0, q1, q2, q3⟩ := HEj.out _ hSw.2;go_simp <;> with_reducible rfl)
            try simp only [Act.put, List.setIfInBounds_toArray, List.set_cons_zero, List.set_cons_succ]
            refine wpAnyH_take (i := 28) (oi := { dst := some 73, op := Op.load 2 (Operand.tmp 72), type := 2, pos := "l09_house.go:17", after := #[{ on := 27, ground := Ground.data }, { on := 22, ground := Ground.guard }], guard := some (22, true) }) (v := ?vvc29) rfl (by kernel_rfl) (by kernel_rfl) (by kernel_rfl) (fun _ _ _ h => h) (Or.inl ⟨by rfl, ?hyc29⟩) S0 ?restc29
            case hyc29 => (intro w hSw; have hc := hSw.1.cell; obtain ⟨q0, q1, q2, q3⟩ := HEj.out _ hSw.2;go_simp <;> with_reducible rfl)
            try simp only [Act.put, List.setIfInBounds_toArray, List.set_cons_zero, List.set_cons_succ]
            refine wpAnyH_take (i := 29) (oi := { dst := some 74, op := Op.fieldAddr 85 (Operand.tmp 4) 1, type := 0, pos := "l09_house.go:17", after := #[{ on := 22, ground := Ground.guard }], guard := some (22, true) }) (v := ?vvc30) rfl (by kernel_rfl) (by kernel_rfl) (by kernel_rfl) (fun _ _ _ h => h) (Or.inl ⟨by rfl, ?hyc30⟩) S0 ?restc30
            case hyc30 => (intro w hSw; have hc := hSw.1.cell; obtain ⟨q0, q1, q2, q3⟩ := HEj.out _ hSw.2;go_simp <;> with_reducible rfl)
            try simp only [Act.put, List.setIfInBounds_toArray, List.set_cons_zero, List.set_cons_succ]
            refine wpAnyH_take (i := 30) (oi := { dst := some 75, op := Op.load 2 (Operand.tmp 74), type := 2, pos := "l09_house.go:17", after := #[{ on := 29, ground := Ground.data }, { on := 22, ground := Ground.guard }], guard := some (22, true) }) (v := ?vvc31) rfl (by kernel_rfl) (by kernel_rfl) (by kernel_rfl) (fun _ _ _ h => h) (Or.inl ⟨by rfl, ?hyc31⟩) S0 ?restc31
            case hyc31 => (intro w hSw; have hc := hSw.1.cell; obtain ⟨q0, q1, q2, q3⟩ := HEj.out _ hSw.2;go_simp <;> with_reducible rfl)
            try simp only [Act.put, List.setIfInBounds_toArray, List.set_cons_zero, List.set_cons_succ]
            refine wpAnyH_take (i := 31) (oi := { dst := some 76, op := Op.binOp BinOp.geq 2 (Operand.tmp 73) (Operand.tmp 75) 2, type := 4, pos := "l09_house.go:17", after := #[{ on := 28, ground := Ground.data }, { on := 30, ground := Ground.data }, { on := 22, ground := Ground.guard }], guard := some (22, true) }) (v := ?vvc32) rfl (by kernel_rfl) (by kernel_rfl) (by kernel_rfl) (fun _ _ _ h => h) (Or.inl ⟨by rfl, ?hyc32⟩) S0 ?restc32
            case hyc32 => (intro w hSw; have hc := hSw.1.cell; obtain ⟨q0, q1, q2, q3⟩ := HEj.out _ hSw.2;go_simp <;> with_reducible rfl)
            try simp only [Act.put, List.setIfInBounds_toArray, List.set_cons_zero, List.set_cons_succ]
            refine wpAnyH_take (i := 32) (oi := { dst := some 77, op := Op.pick (Operand.tmp 67) (Operand.tmp 76) (Operand.const (Value.bool false)), type := 4, pos := "l09_house.go:17", after := #[{ on := 22, ground := Ground.data }, { on := 31, ground := Ground.data }, { on := 12, ground := Ground.guard }], guard := some (12, false) }) (v := ?vvc33) rfl (by kernel_rfl) (by kernel_rfl) (by kernel_rfl) (fun _ _ _ h => h) (Or.inl ⟨by rfl, ?hyc33⟩) S0 ?restc33
            case hyc33 => (intro w hSw; have hc := hSw.1.cell; obtain ⟨q0, q1, q2, q3⟩ := HEj.out _ hSw.2;go_simp <;> with_reducible rfl)
            try simp only [Act.put, List.setIfInBounds_toArray, List.set_cons_zero, List.set_cons_succ]
            refine wpAnyH_take (i := 33) (oi := { dst := some 78, op := Op.pick (Operand.tmp 57) (Operand.const (Value.bool true)) (Operand.tmp 77), type := 4, pos := "l09_house.go:17", after := #[{ on := 12, ground := Ground.data }, { on := 32, ground := Ground.data }, { on := 2, ground := Ground.guard }], guard := some (2, true) }) (v := ?vvc34) rfl (by kernel_rfl) (by kernel_rfl) (by kernel_rfl) (fun _ _ _ h => h) (Or.inl ⟨by rfl, ?hyc34⟩) S0 ?restc34
            case hyc34 => (intro w hSw; have hc := hSw.1.cell; obtain ⟨q0, q1, q2, q3⟩ := HEj.out _ hSw.2;go_simp <;> with_reducible rfl)
            try simp only [Act.put, List.setIfInBounds_toArray, List.set_cons_zero, List.set_cons_succ]
            refine wpAnyH_take (i := 34) (oi := { dst := some 79, op := Op.pick (Operand.tmp 47) (Operand.tmp 78) (Operand.const (Value.bool false)), type := 4, pos := "l09_house.go:17", after := #[{ on := 2, ground := Ground.data }, { on := 33, ground := Ground.data }], guard := none }) (v := ?vvc35) rfl (by kernel_rfl) (by kernel_rfl) (by kernel_rfl) (fun _ _ _ h => h) (Or.inl ⟨by rfl, ?hyc35⟩) S0 ?restc35
            case hyc35 => (intro w hSw; have hc := hSw.1.cell; obtain ⟨q0, q1, q2, q3⟩ := HEj.out _ hSw.2;go_simp <;> with_reducible rfl)
            try simp only [Act.put, List.setIfInBounds_toArray, List.set_cons_zero, List.set_cons_succ]
            refine wpAnyH_done (by kernel_rfl) ?_ _
            all_goals
              have HBn := Lib.hid S0.2
              clear S0
              go_wp2_with fail
              go_roundw
              case rel => exact ⟨j + 1 + 1, by omega, by simp, Lib.hid (fun k hk => by
                by_cases e : k = j + 1
                · subst e; exact hr.out
                · exact HK.out k (by omega)), HBn⟩
              case measure => simp [intOf]; omega
        · have hle := lessF_not.1 h4
          have HEj := Lib.hid (fun (W' : World) (hS : Below w.heap.size w W') => (HEl.out W' hS).fz j hj)
          rw [hx.out] at HEj
          subst h3
          have hj0 : (0 : Int) < (j : Int) + 1 := by omega
          have hjn : j < n := by omega
          have hj1 : IntKind.i64.wrap (j : Int) = (j : Int) := by simp only [IntKind.wrap_i64]; omega
          rw [Int.natCast_add] at *
          clear hx
          rcases hle with hle | ⟨hle, hlm⟩
          · skip
            refine wp_region_held_drew (S := fun W' => Blk W' wr.heap.size 85 #[.int .i64 y.vni, .int .i64 y.mac, .int .i64 y.house, .int .i64 y.door] ∧ Below w.heap.size w W') (by kernel_rfl) S0 (fun hHeld => ?_)
            clear hHeld
            refine wpAnyH_take (i := 0) (oi := { dst := some 45, op := Op.move (Operand.tmp 3), type := 3, pos := "l09_house.go:17", after := #[], guard := none }) (v := ?vvd1) rfl (by kernel_rfl) (by kernel_rfl) (by kernel_rfl) (fun _ _ _ h => h) (Or.inl ⟨by rfl, ?hyd1⟩) S0 ?restd1
            case hyd1 => (intro w hSw; have hc := hSw.1.cell; obtain ⟨q0, q1, q2, q3⟩ := HEj.out _ hSw.2;go_simp <;> with_reducible rfl)
            try simp only [Act.put, List.setIfInBounds_toArray, List.set_cons_zero, List.set_cons_succ]
            refine wpAnyH_take (i := 1) (oi := { dst := some 46, op := Op.binOp BinOp.gtr 3 (Operand.tmp 45) (Operand.const (Value.int IntKind.i64 0)) 3, type := 4, pos := "l09_house.go:17", after := #[{ on := 0, ground := Ground.data }], guard := none }) (v := ?vvd2) rfl (by kernel_rfl) (by kernel_rfl) (by kernel_rfl) (fun _ _ _ h => h) (Or.inl ⟨by rfl, ?hyd2⟩) S0 ?restd2
            case hyd2 => (intro w hSw; have hc := hSw.1.cell; obtain ⟨q0, q1, q2, q3⟩ := HEj.out _ hSw.2;go_simp <;> with_reducible rfl)
            try simp only [Act.put, List.setIfInBounds_toArray, List.set_cons_zero, List.set_cons_succ]
            refine wpAnyH_take (i := 2) (oi := { dst := some 47, op := Op.move (Operand.tmp 46), type := 4, pos := "l09_house.go:17", after := #[{ on := 1, ground := Ground.data }], guard := none }) (v := ?vvd3) rfl (by kernel_rfl) (by kernel_rfl) (by kernel_rfl) (fun _ _ _ h => h) (Or.inl ⟨by rfl, ?hyd3⟩) S0 ?restd3
            case hyd3 => (intro w hSw; have hc := hSw.1.cell; obtain ⟨q0, q1, q2, q3⟩ := HEj.out _ hSw.2;go_simp <;> with_reducible rfl)
            try simp only [Act.put, List.setIfInBounds_toArray, List.set_cons_zero, List.set_cons_succ]
            refine wpAnyH_take (i := 3) (oi := { dst := some 48, op := Op.move (Operand.tmp 0), type := 36, pos := "l09_house.go:17", after := #[{ on := 2, ground := Ground.guard }], guard := some (2, true) }) (v := ?vvd4) rfl (by kernel_rfl) (by kernel_rfl) (by kernel_rfl) (fun _ _ _ h => h) (Or.inl ⟨by rfl, ?hyd4⟩) S0 ?restd4
            case hyd4 => (intro w hSw; have hc := hSw.1.cell; obtain ⟨q0, q1, q2, q3⟩ := HEj.out _ hSw.2;go_simp <;> with_reducible rfl)
            try simp only [Act.put, List.setIfInBounds_toArray, List.set_cons_zero, List.set_cons_succ]
            refine wpAnyH_take (i := 4) (oi := { dst := some 49, op := Op.move (Operand.tmp 3), type := 3, pos := "l09_house.go:17", after := #[{ on := 2, ground := Ground.guard }], guard := some (2, true) }) (v := ?vvd5) rfl (by kernel_rfl) (by kernel_rfl) (by kernel_rfl) (fun _ _ _ h => h) (Or.inl ⟨by rfl, ?hyd5⟩) S0 ?restd5
            case hyd5 => (intro w hSw; have hc := hSw.1.cell; obtain ⟨q0, q1, q2, q3⟩ := HEj.out _ hSw.2;go_simp <;> with_reducible rfl)
            try simp only [Act.put, List.setIfInBounds_toArray, List.set_cons_zero, List.set_cons_succ]
            refine wpAnyH_take (i := 5) (oi := { dst := some 50, op := Op.binOp BinOp.sub 3 (Operand.tmp 49) (Operand.const (Value.int IntKind.i64 1)) 3, type := 3, pos := "l09_house.go:17", after := #[{ on := 4, ground := Ground.data }, { on := 2, ground := Ground.guard }], guard := some (2, true) }) (v := ?vvd6) rfl (by kernel_rfl) (by kernel_rfl) (by kernel_rfl) (fun _ _ _ h => h) (Or.inl ⟨by rfl, ?hyd6⟩) S0 ?restd6
            case hyd6 => (intro w hSw; have hc := hSw.1.cell; obtain ⟨q0, q1, q2, q3⟩ := HEj.out _ hSw.2;go_simp <;> with_reducible rfl)
            try simp only [Act.put, List.setIfInBounds_toArray, List.set_cons_zero, List.set_cons_succ]
            refine wpAnyH_take (i := 6) (oi := { dst := some 51, op := Op.indexAddr 36 (Operand.tmp 48) (Operand.tmp 50), type := 0, pos := "l09_house.go:17", after := #[{ on := 3, ground := Ground.data }, { on := 5, ground := Ground.data }, { on := 2, ground := Ground.guard }], guard := some (2, true) }) (v := ?vvd7) rfl (by kernel_rfl) (by kernel_rfl) (by kernel_rfl) (fun _ _ _ h => h) (Or.inl ⟨by rfl, ?hyd7⟩) S0 ?restd7
            case hyd7 => (intro w hSw; have hc := hSw.1.cell; obtain ⟨q0, q1, q2, q3⟩ := HEj.out _ hSw.2;go_simp <;> with_reducible rfl)
            try simp only [Act.put, List.setIfInBounds_toArray, List.set_cons_zero, List.set_cons_succ]
            refine wpAnyH_take (i := 7) (oi := { dst := some 52, op := Op.fieldAddr 85 (Operand.tmp 51) 0, type := 0, pos := "l09_house.go:17", after := #[{ on := 6, ground := Ground.data }, { on := 2, ground := Ground.guard }], guard := some (2, true) }) (v := ?vvd8) rfl (by kernel_rfl) (by kernel_rfl) (by kernel_rfl) (fun _ _ _ h => h) (Or.inl ⟨by rfl, ?hyd8⟩) S0 ?restd8
            case hyd8 => (intro w hSw; have hc := hSw.1.cell; obtain ⟨q0, q1, q2, q3⟩ := HEj.out _ hSw.2;go_simp <;> with_reducible rfl)
            try simp only [Act.put, List.setIfInBounds_toArray, List.set_cons_zero, List.set_cons_succ]
            refine wpAnyH_take (i := 8) (oi := { dst := some 53, op := Op.load 2 (Operand.tmp 52), type := 2, pos := "l09_house.go:17", after := #[{ on := 7, ground := Ground.data }, { on := 2, ground := Ground.guard }], guard := some (2, true) }) (v := ?vvd9) rfl (by kernel_rfl) (by kernel_rfl) (by kernel_rfl) (fun _ _ _ h => h) (Or.inl ⟨by rfl, ?hyd9⟩) S0 ?restd9
            case hyd9 => (intro w hSw; have hc := hSw.1.cell; obtain ⟨q0, q1, q2, q3⟩ := HEj.out _ hSw.2;go_simp <;> with_reducible rfl)
            try simp only [Act.put, List.setIfInBounds_toArray, List.set_cons_zero, List.set_cons_succ]
            refine wpAnyH_take (i := 9) (oi := { dst := some 54, op := Op.fieldAddr 85 (Operand.tmp 4) 0, type := 0, pos := "l09_house.go:17", after := #[{ on := 2, ground := Ground.guard }], guard := some (2, true) }) (v := ?vvd10) rfl (by kernel_rfl) (by kernel_rfl) (by kernel_rfl) (fun _ _ _ h => h) (Or.inl ⟨by rfl, ?hyd10⟩) S0 ?restd10
            case hyd10 => (intro w hSw; have hc := hSw.1.cell; obtain ⟨q0, q1, q2, q3⟩ := HEj.out _ hSw.2;go_simp <;> with_reducible rfl)
            try simp only [Act.put, List.setIfInBounds_toArray, List.set_cons_zero, List.set_cons_succ]
            refine wpAnyH_take (i := 10) (oi := { dst := some 55, op := Op.load 2 (Operand.tmp 54), type := 2, pos := "l09_house.go:17", after := #[{ on := 9, ground := Ground.data }, { on := 2, ground := Ground.guard }], guard := some (2, true) }) (v := ?vvd11) rfl (by kernel_rfl) (by kernel_rfl) (by kernel_rfl) (fun _ _ _ h => h) (Or.inl ⟨by rfl, ?hyd11⟩) S0 ?restd11
            case hyd11 => (intro w hSw; have hc := hSw.1.cell; obtain ⟨q0, q1, q2, q3⟩ := HEj.out _ hSw.2;go_simp <;> with_reducible rfl)
            try simp only [Act.put, List.setIfInBounds_toArray, List.set_cons_zero, List.set_cons_succ]
            refine wpAnyH_take (i := 11) (oi := { dst := some 56, op := Op.binOp BinOp.gtr 2 (Operand.tmp 53) (Operand.tmp 55) 2, type := 4, pos := "l09_house.go:17", after := #[{ on := 8, ground := Ground.data }, { on := 10, ground := Ground.data }, { on := 2, ground := Ground.guard }], guard := some (2, true) }) (v := ?vvd12) rfl (by kernel_rfl) (by kernel_rfl) (by kernel_rfl) (fun _ _ _ h => h) (Or.inl ⟨by rfl, ?hyd12⟩) S0 ?restd12
            case hyd12 => (intro w hSw; have hc := hSw.1.cell; obtain ⟨q0, q1, q2, q3⟩ := HEj.out _ hSw.2;go_simp <;> with_reducible rfl)
            try simp only [Act.put, List.setIfInBounds_toArray, List.set_cons_zero, List.set_cons_succ]
            refine wpAnyH_take (i := 12) (oi := { dst := some 57, op := Op.move (Operand.tmp 56), type := 4, pos := "l09_house.go:17", after := #[{ on := 11, ground := Ground.data }, { on := 2, ground := Ground.chain }, { on := 2, ground := Ground.guard }], guard := some (2, true) }) (v := ?vvd13) rfl (by kernel_rfl) (by kernel_rfl) (by kernel_rfl) (fun _ _ _ h => h) (Or.inl ⟨by rfl, ?hyd13⟩) S0 ?restd13
            case hyd13 => (intro w hSw; have hc := hSw.1.cell; obtain ⟨q0, q1, q2, q3⟩ := HEj.out _ hSw.2;go_simp <;> with_reducible rfl)
            try simp only [Act.put, List.setIfInBounds_toArray, List.set_cons_zero, List.set_cons_succ]
            refine wpAnyH_take (i := 13) (oi := { dst := some 58, op := Op.move (Operand.tmp 0), type := 36, pos := "l09_house.go:17", after := #[{ on := 12, ground := Ground.guard }], guard := some (12, false) }) (v := undef) rfl (by kernel_rfl) (by kernel_rfl) (by kernel_rfl) (fun _ _ _ h => h) (Or.inr ⟨by rfl, rfl⟩) S0 ?_
            try simp only [Act.put, List.setIfInBounds_toArray, List.set_cons_zero, List.set_cons_succ]
            refine wpAnyH_take (i := 14) (oi := { dst := some 59, op := Op.move (Operand.tmp 3), type := 3, pos := "l09_house.go:17", after := #[{ on := 12, ground := Ground.guard }], guard := some (12, false) }) (v := undef) rfl (by kernel_rfl) (by kernel_rfl) (by kernel_rfl) (fun _ _ _ h => h) (Or.inr ⟨by rfl, rfl⟩) S0 ?_
            try simp only [Act.put, List.setIfInBounds_toArray, List.set_cons_zero, List.set_cons_succ]
            refine wpAnyH_take (i := 15) (oi := { dst := some 60, op := Op.binOp BinOp.sub 3 (Operand.tmp 59) (Operand.const (Value.int IntKind.i64 1)) 3, type := 3, pos := "l09_house.go:17", after := #[{ on := 14, ground := Ground.data }, { on := 12, ground := Ground.guard }], guard := some (12, false) }) (v := undef) rfl (by kernel_rfl) (by kernel_rfl) (by kernel_rfl) (fun _ _ _ h => h) (Or.inr ⟨by rfl, rfl⟩) S0 ?_
            try simp only [Act.put, List.setIfInBounds_toArray, List.set_cons_zero, List.set_cons_succ]
            refine wpAnyH_take (i := 16) (oi := { dst := some 61, op := Op.indexAddr 36 (Operand.tmp 58) (Operand.tmp 60), type := 0, pos := "l09_house.go:17", after := #[{ on := 13, ground := Ground.data }, { on := 15, ground := Ground.data }, { on := 12, ground := Ground.guard }], guard := some (12, false) }) (v := undef) rfl (by kernel_rfl) (by kernel_rfl) (by kernel_rfl) (fun _ _ _ h => h) (Or.inr ⟨by rfl, rfl⟩) S0 ?_
            try simp only [Act.put, List.setIfInBounds_toArray, List.set_cons_zero, List.set_cons_succ]
            refine wpAnyH_take (i := 17) (oi := { dst := some 62, op := Op.fieldAddr 85 (Operand.tmp 61) 0, type := 0, pos := "l09_house.go:17", after := #[{ on := 16, ground := Ground.data }, { on := 12, ground := Ground.guard }], guard := some (12, false) }) (v := undef) rfl (by kernel_rfl) (by kernel_rfl) (by kernel_rfl) (fun _ _ _ h => h) (Or.inr ⟨by rfl, rfl⟩) S0 ?_
            try simp only [Act.put, List.setIfInBounds_toArray, List.set_cons_zero, List.set_cons_succ]
            refine wpAnyH_take (i := 18) (oi := { dst := some 63, op := Op.load 2 (Operand.tmp 62), type := 2, pos := "l09_house.go:17", after := #[{ on := 17, ground := Ground.data }, { on := 12, ground := Ground.guard }], guard := some (12, false) }) (v := undef) rfl (by kernel_rfl) (by kernel_rfl) (by kernel_rfl) (fun _ _ _ h => h) (Or.inr ⟨by rfl, rfl⟩) S0 ?_
            try simp only [Act.put, List.setIfInBounds_toArray, List.set_cons_zero, List.set_cons_succ]
            refine wpAnyH_take (i := 19) (oi := { dst := some 64, op := Op.fieldAddr 85 (Operand.tmp 4) 0, type := 0, pos := "l09_house.go:17", after := #[{ on := 12, ground := Ground.guard }], guard := some (12, false) }) (v := undef) rfl (by kernel_rfl) (by kernel_rfl) (by kernel_rfl) (fun _ _ _ h => h) (Or.inr ⟨by rfl, rfl⟩) S0 ?_
            try simp only [Act.put, List.setIfInBounds_toArray, List.set_cons_zero, List.set_cons_succ]
            refine wpAnyH_take (i := 20) (oi := { dst := some 65, op := Op.load 2 (Operand.tmp 64), type := 2, pos := "l09_house.go:17", after := #[{ on := 19, ground := Ground.data }, { on := 12, ground := Ground.guard }], guard := some (12, false) }) (v := undef) rfl (by kernel_rfl) (by kernel_rfl) (by kernel_rfl) (fun _ _ _ h => h) (Or.inr ⟨by rfl, rfl⟩) S0 ?_
            try simp only [Act.put, List.setIfInBounds_toArray, List.set_cons_zero, List.set_cons_succ]
            refine wpAnyH_take (i := 21) (oi := { dst := some 66, op := Op.binOp BinOp.eql 2 (Operand.tmp 63) (Operand.tmp 65) 2, type := 4, pos := "l09_house.go:17", after := #[{ on := 18, ground := Ground.data }, { on := 20, ground := Ground.data }, { on := 12, ground := Ground.guard }], guard := some (12, false) }) (v := undef) rfl (by kernel_rfl) (by kernel_rfl) (by kernel_rfl) (fun _ _ _ h => h) (Or.inr ⟨by rfl, rfl⟩) S0 ?_
            try simp only [Act.put, List.setIfInBounds_toArray, List.set_cons_zero, List.set_cons_succ]
            refine wpAnyH_take (i := 22) (oi := { dst := some 67, op := Op.move (Operand.tmp 66), type := 4, pos := "l09_house.go:17", after := #[{ on := 21, ground := Ground.data }, { on := 12, ground := Ground.chain }, { on := 12, ground := Ground.guard }], guard := some (12, false) }) (v := undef) rfl (by kernel_rfl) (by kernel_rfl) (by kernel_rfl) (fun _ _ _ h => h) (Or.inr ⟨by rfl, rfl⟩) S0 ?_
            try simp only [Act.put, List.setIfInBounds_toArray, List.set_cons_zero, List.set_cons_succ]
            refine wpAnyH_take (i := 23) (oi := { dst := some 68, op := Op.move (Operand.tmp 0), type := 36, pos := "l09_house.go:17", after := #[{ on := 22, ground := Ground.guard }], guard := some (22, true) }) (v := undef) rfl (by kernel_rfl) (by kernel_rfl) (by kernel_rfl) (fun _ _ _ h => h) (Or.inr ⟨by rfl, rfl⟩) S0 ?_
            try simp only [Act.put, List.setIfInBounds_toArray, List.set_cons_zero, List.set_cons_succ]
            refine wpAnyH_take (i := 24) (oi := { dst := some 69, op := Op.move (Operand.tmp 3), type := 3, pos := "l09_house.go:17", after := #[{ on := 22, ground := Ground.guard }], guard := some (22, true) }) (v := undef) rfl (by kernel_rfl) (by kernel_rfl) (by kernel_rfl) (fun _ _ _ h => h) (Or.inr ⟨by rfl, rfl⟩) S0 ?_
            try simp only [Act.put, List.setIfInBounds_toArray, List.set_cons_zero, List.set_cons_succ]
            refine wpAnyH_take (i := 25) (oi := { dst := some 70, op := Op.binOp BinOp.sub 3 (Operand.tmp 69) (Operand.const (Value.int IntKind.i64 1)) 3, type := 3, pos := "l09_house.go:17", after := #[{ on := 24, ground := Ground.data }, { on := 22, ground := Ground.guard }], guard := some (22, true) }) (v := undef) rfl (by kernel_rfl) (by kernel_rfl) (by kernel_rfl) (fun _ _ _ h => h) (Or.inr ⟨by rfl, rfl⟩) S0 ?_
            try simp only [Act.put, List.setIfInBounds_toArray, List.set_cons_zero, List.set_cons_succ]
            refine wpAnyH_take (i := 26) (oi := { dst := some 71, op := Op.indexAddr 36 (Operand.tmp 68) (Operand.tmp 70), type := 0, pos := "l09_house.go:17", after := #[{ on := 23, ground := Ground.data }, { on := 25, ground := Ground.data }, { on := 22, ground := Ground.guard }], guard := some (22, true) }) (v := undef) rfl (by kernel_rfl) (by kernel_rfl) (by kernel_rfl) (fun _ _ _ h => h) (Or.inr ⟨by rfl, rfl⟩) S0 ?_
            try simp only [Act.put, List.setIfInBounds_toArray, List.set_cons_zero, List.set_cons_succ]
            refine wpAnyH_take (i := 27) (oi := { dst := some 72, op := Op.fieldAddr 85 (Operand.tmp 71) 1, type := 0, pos := "l09_house.go:17", after := #[{ on := 26, ground := Ground.data }, { on := 22, ground := Ground.guard }], guard := some (22, true) }) (v := undef) rfl (by kernel_rfl) (by kernel_rfl) (by kernel_rfl) (fun _ _ _ h => h) (Or.inr ⟨by rfl, rfl⟩) S0 ?_
            try simp only [Act.put, List.setIfInBounds_toArray, List.set_cons_zero, List.set_cons_succ]
            refine wpAnyH_take (i := 28) (oi := { dst := some 73, op := Op.load 2 (Operand.tmp 72), type := 2, pos := "l09_house.go:17", after := #[{ on := 27, ground := Ground.data }, { on := 22, ground := Ground.guard }], guard := some (22, true) }) (v := undef) rfl (by kernel_rfl) (by kernel_rfl) (by kernel_rfl) (fun _ _ _ h => h) (Or.inr ⟨by rfl, rfl⟩) S0 ?_
            try simp only [Act.put, List.setIfInBounds_toArray, List.set_cons_zero, List.set_cons_succ]
            refine wpAnyH_take (i := 29) (oi := { dst := some 74, op := Op.fieldAddr 85 (Operand.tmp 4) 1, type := 0, pos := "l09_house.go:17", after := #[{ on := 22, ground := Ground.guard }], guard := some (22, true) }) (v := undef) rfl (by kernel_rfl) (by kernel_rfl) (by kernel_rfl) (fun _ _ _ h => h) (Or.inr ⟨by rfl, rfl⟩) S0 ?_
            try simp only [Act.put, List.setIfInBounds_toArray, List.set_cons_zero, List.set_cons_succ]
            refine wpAnyH_take (i := 30) (oi := { dst := some 75, op := Op.load 2 (Operand.tmp 74), type := 2, pos := "l09_house.go:17", after := #[{ on := 29, ground := Ground.data }, { on := 22, ground := Ground.guard }], guard := some (22, true) }) (v := undef) rfl (by kernel_rfl) (by kernel_rfl) (by kernel_rfl) (fun _ _ _ h => h) (Or.inr ⟨by rfl, rfl⟩) S0 ?_
            try simp only [Act.put, List.setIfInBounds_toArray, List.set_cons_zero, List.set_cons_succ]
            refine wpAnyH_take (i := 31) (oi := { dst := some 76, op := Op.binOp BinOp.geq 2 (Operand.tmp 73) (Operand.tmp 75) 2, type := 4, pos := "l09_house.go:17", after := #[{ on := 28, ground := Ground.data }, { on := 30, ground := Ground.data }, { on := 22, ground := Ground.guard }], guard := some (22, true) }) (v := undef) rfl (by kernel_rfl) (by kernel_rfl) (by kernel_rfl) (fun _ _ _ h => h) (Or.inr ⟨by rfl, rfl⟩) S0 ?_
            try simp only [Act.put, List.setIfInBounds_toArray, List.set_cons_zero, List.set_cons_succ]
            refine wpAnyH_take (i := 32) (oi := { dst := some 77, op := Op.pick (Operand.tmp 67) (Operand.tmp 76) (Operand.const (Value.bool false)), type := 4, pos := "l09_house.go:17", after := #[{ on := 22, ground := Ground.data }, { on := 31, ground := Ground.data }, { on := 12, ground := Ground.guard }], guard := some (12, false) }) (v := undef) rfl (by kernel_rfl) (by kernel_rfl) (by kernel_rfl) (fun _ _ _ h => h) (Or.inr ⟨by rfl, rfl⟩) S0 ?_
            try simp only [Act.put, List.setIfInBounds_toArray, List.set_cons_zero, List.set_cons_succ]
            refine wpAnyH_take (i := 33) (oi := { dst := some 78, op := Op.pick (Operand.tmp 57) (Operand.const (Value.bool true)) (Operand.tmp 77), type := 4, pos := "l09_house.go:17", after := #[{ on := 12, ground := Ground.data }, { on := 32, ground := Ground.data }, { on := 2, ground := Ground.guard }], guard := some (2, true) }) (v := ?vvd34) rfl (by kernel_rfl) (by kernel_rfl) (by kernel_rfl) (fun _ _ _ h => h) (Or.inl ⟨by rfl, ?hyd34⟩) S0 ?restd34
            case hyd34 => (intro w hSw; have hc := hSw.1.cell; obtain ⟨q0, q1, q2, q3⟩ := HEj.out _ hSw.2;go_simp <;> with_reducible rfl)
            try simp only [Act.put, List.setIfInBounds_toArray, List.set_cons_zero, List.set_cons_succ]
            refine wpAnyH_take (i := 34) (oi := { dst := some 79, op := Op.pick (Operand.tmp 47) (Operand.tmp 78) (Operand.const (Value.bool false)), type := 4, pos := "l09_house.go:17", after := #[{ on := 2, ground := Ground.data }, { on := 33, ground := Ground.data }], guard := none }) (v := ?vvd35) rfl (by kernel_rfl) (by kernel_rfl) (by kernel_rfl) (fun _ _ _ h => h) (Or.inl ⟨by rfl, ?hyd35⟩) S0 ?restd35
            case hyd35 => (intro w hSw; have hc := hSw.1.cell; obtain ⟨q0, q1, q2, q3⟩ := HEj.out _ hSw.2;go_simp <;> with_reducible rfl)
            try simp only [Act.put, List.setIfInBounds_toArray, List.set_cons_zero, List.set_cons_succ]
            refine wpAnyH_done (by kernel_rfl) ?_ _
            all_goals
              have HBn := Lib.hid S0.2
              clear S0
              go_wp2_with fail
              go_ret
              exact ⟨bool_ret (by rw [← HLn.out]; exact hr.out.symm), HBn.out⟩
          · obtain ⟨xv, xm, xh, xd⟩ := x
            dsimp only at *
            subst hle
            refine wp_region_held_drew (S := fun W' => Blk W' wr.heap.size 85 #[.int .i64 y.vni, .int .i64 y.mac, .int .i64 y.house, .int .i64 y.door] ∧ Below w.heap.size w W') (by kernel_rfl) S0 (fun hHeld => ?_)
            clear hHeld
            refine wpAnyH_take (i := 0) (oi := { dst := some 45, op := Op.move (Operand.tmp 3), type := 3, pos := "l09_house.go:17", after := #[], guard := none }) (v := ?vve1) rfl (by kernel_rfl) (by kernel_rfl) (by kernel_rfl) (fun _ _ _ h => h) (Or.inl ⟨by rfl, ?hye1⟩) S0 ?reste1
            case hye1 => (intro w hSw; have hc := hSw.1.cell; obtain ⟨q0, q1, q2, q3⟩ := HEj.out _ hSw.2;go_simp <;> with_reducible rfl)
            try simp only [Act.put, List.setIfInBounds_toArray, List.set_cons_zero, List.set_cons_succ]
            refine wpAnyH_take (i := 1) (oi := { dst := some 46, op := Op.binOp BinOp.gtr 3 (Operand.tmp 45) (Operand.const (Value.int IntKind.i64 0)) 3, type := 4, pos := "l09_house.go:17", after := #[{ on := 0, ground := Ground.data }], guard := none }) (v := ?vve2) rfl (by kernel_rfl) (by kernel_rfl) (by kernel_rfl) (fun _ _ _ h => h) (Or.inl ⟨by rfl, ?hye2⟩) S0 ?reste2
            case hye2 => (intro w hSw; have hc := hSw.1.cell; obtain ⟨q0, q1, q2, q3⟩ := HEj.out _ hSw.2;go_simp <;> with_reducible rfl)
            try simp only [Act.put, List.setIfInBounds_toArray, List.set_cons_zero, List.set_cons_succ]
            refine wpAnyH_take (i := 2) (oi := { dst := some 47, op := Op.move (Operand.tmp 46), type := 4, pos := "l09_house.go:17", after := #[{ on := 1, ground := Ground.data }], guard := none }) (v := ?vve3) rfl (by kernel_rfl) (by kernel_rfl) (by kernel_rfl) (fun _ _ _ h => h) (Or.inl ⟨by rfl, ?hye3⟩) S0 ?reste3
            case hye3 => (intro w hSw; have hc := hSw.1.cell; obtain ⟨q0, q1, q2, q3⟩ := HEj.out _ hSw.2;go_simp <;> with_reducible rfl)
            try simp only [Act.put, List.setIfInBounds_toArray, List.set_cons_zero, List.set_cons_succ]
            refine wpAnyH_take (i := 3) (oi := { dst := some 48, op := Op.move (Operand.tmp 0), type := 36, pos := "l09_house.go:17", after := #[{ on := 2, ground := Ground.guard }], guard := some (2, true) }) (v := ?vve4) rfl (by kernel_rfl) (by kernel_rfl) (by kernel_rfl) (fun _ _ _ h => h) (Or.inl ⟨by rfl, ?hye4⟩) S0 ?reste4
            case hye4 => (intro w hSw; have hc := hSw.1.cell; obtain ⟨q0, q1, q2, q3⟩ := HEj.out _ hSw.2;go_simp <;> with_reducible rfl)
            try simp only [Act.put, List.setIfInBounds_toArray, List.set_cons_zero, List.set_cons_succ]
            refine wpAnyH_take (i := 4) (oi := { dst := some 49, op := Op.move (Operand.tmp 3), type := 3, pos := "l09_house.go:17", after := #[{ on := 2, ground := Ground.guard }], guard := some (2, true) }) (v := ?vve5) rfl (by kernel_rfl) (by kernel_rfl) (by kernel_rfl) (fun _ _ _ h => h) (Or.inl ⟨by rfl, ?hye5⟩) S0 ?reste5
            case hye5 => (intro w hSw; have hc := hSw.1.cell; obtain ⟨q0, q1, q2, q3⟩ := HEj.out _ hSw.2;go_simp <;> with_reducible rfl)
            try simp only [Act.put, List.setIfInBounds_toArray, List.set_cons_zero, List.set_cons_succ]
            refine wpAnyH_take (i := 5) (oi := { dst := some 50, op := Op.binOp BinOp.sub 3 (Operand.tmp 49) (Operand.const (Value.int IntKind.i64 1)) 3, type := 3, pos := "l09_house.go:17", after := #[{ on := 4, ground := Ground.data }, { on := 2, ground := Ground.guard }], guard := some (2, true) }) (v := ?vve6) rfl (by kernel_rfl) (by kernel_rfl) (by kernel_rfl) (fun _ _ _ h => h) (Or.inl ⟨by rfl, ?hye6⟩) S0 ?reste6
            case hye6 => (intro w hSw; have hc := hSw.1.cell; obtain ⟨q0, q1, q2, q3⟩ := HEj.out _ hSw.2;go_simp <;> with_reducible rfl)
            try simp only [Act.put, List.setIfInBounds_toArray, List.set_cons_zero, List.set_cons_succ]
            refine wpAnyH_take (i := 6) (oi := { dst := some 51, op := Op.indexAddr 36 (Operand.tmp 48) (Operand.tmp 50), type := 0, pos := "l09_house.go:17", after := #[{ on := 3, ground := Ground.data }, { on := 5, ground := Ground.data }, { on := 2, ground := Ground.guard }], guard := some (2, true) }) (v := ?vve7) rfl (by kernel_rfl) (by kernel_rfl) (by kernel_rfl) (fun _ _ _ h => h) (Or.inl ⟨by rfl, ?hye7⟩) S0 ?reste7
            case hye7 => (intro w hSw; have hc := hSw.1.cell; obtain ⟨q0, q1, q2, q3⟩ := HEj.out _ hSw.2;go_simp <;> with_reducible rfl)
            try simp only [Act.put, List.setIfInBounds_toArray, List.set_cons_zero, List.set_cons_succ]
            refine wpAnyH_take (i := 7) (oi := { dst := some 52, op := Op.fieldAddr 85 (Operand.tmp 51) 0, type := 0, pos := "l09_house.go:17", after := #[{ on := 6, ground := Ground.data }, { on := 2, ground := Ground.guard }], guard := some (2, true) }) (v := ?vve8) rfl (by kernel_rfl) (by kernel_rfl) (by kernel_rfl) (fun _ _ _ h => h) (Or.inl ⟨by rfl, ?hye8⟩) S0 ?reste8
            case hye8 => (intro w hSw; have hc := hSw.1.cell; obtain ⟨q0, q1, q2, q3⟩ := HEj.out _ hSw.2;go_simp <;> with_reducible rfl)
            try simp only [Act.put, List.setIfInBounds_toArray, List.set_cons_zero, List.set_cons_succ]
            refine wpAnyH_take (i := 8) (oi := { dst := some 53, op := Op.load 2 (Operand.tmp 52), type := 2, pos := "l09_house.go:17", after := #[{ on := 7, ground := Ground.data }, { on := 2, ground := Ground.guard }], guard := some (2, true) }) (v := ?vve9) rfl (by kernel_rfl) (by kernel_rfl) (by kernel_rfl) (fun _ _ _ h => h) (Or.inl ⟨by rfl, ?hye9⟩) S0 ?reste9
            case hye9 => (intro w hSw; have hc := hSw.1.cell; obtain ⟨q0, q1, q2, q3⟩ := HEj.out _ hSw.2;go_simp <;> with_reducible rfl)
            try simp only [Act.put, List.setIfInBounds_toArray, List.set_cons_zero, List.set_cons_succ]
            refine wpAnyH_take (i := 9) (oi := { dst := some 54, op := Op.fieldAddr 85 (Operand.tmp 4) 0, type := 0, pos := "l09_house.go:17", after := #[{ on := 2, ground := Ground.guard }], guard := some (2, true) }) (v := ?vve10) rfl (by kernel_rfl) (by kernel_rfl) (by kernel_rfl) (fun _ _ _ h => h) (Or.inl ⟨by rfl, ?hye10⟩) S0 ?reste10
            case hye10 => (intro w hSw; have hc := hSw.1.cell; obtain ⟨q0, q1, q2, q3⟩ := HEj.out _ hSw.2;go_simp <;> with_reducible rfl)
            try simp only [Act.put, List.setIfInBounds_toArray, List.set_cons_zero, List.set_cons_succ]
            refine wpAnyH_take (i := 10) (oi := { dst := some 55, op := Op.load 2 (Operand.tmp 54), type := 2, pos := "l09_house.go:17", after := #[{ on := 9, ground := Ground.data }, { on := 2, ground := Ground.guard }], guard := some (2, true) }) (v := ?vve11) rfl (by kernel_rfl) (by kernel_rfl) (by kernel_rfl) (fun _ _ _ h => h) (Or.inl ⟨by rfl, ?hye11⟩) S0 ?reste11
            case hye11 => (intro w hSw; have hc := hSw.1.cell; obtain ⟨q0, q1, q2, q3⟩ := HEj.out _ hSw.2;go_simp <;> with_reducible rfl)
            try simp only [Act.put, List.setIfInBounds_toArray, List.set_cons_zero, List.set_cons_succ]
            refine wpAnyH_take (i := 11) (oi := { dst := some 56, op := Op.binOp BinOp.gtr 2 (Operand.tmp 53) (Operand.tmp 55) 2, type := 4, pos := "l09_house.go:17", after := #[{ on := 8, ground := Ground.data }, { on := 10, ground := Ground.data }, { on := 2, ground := Ground.guard }], guard := some (2, true) }) (v := ?vve12) rfl (by kernel_rfl) (by kernel_rfl) (by kernel_rfl) (fun _ _ _ h => h) (Or.inl ⟨by rfl, ?hye12⟩) S0 ?reste12
            case hye12 => (intro w hSw; have hc := hSw.1.cell; obtain ⟨q0, q1, q2, q3⟩ := HEj.out _ hSw.2;go_simp <;> with_reducible rfl)
            try simp only [Act.put, List.setIfInBounds_toArray, List.set_cons_zero, List.set_cons_succ]
            refine wpAnyH_take (i := 12) (oi := { dst := some 57, op := Op.move (Operand.tmp 56), type := 4, pos := "l09_house.go:17", after := #[{ on := 11, ground := Ground.data }, { on := 2, ground := Ground.chain }, { on := 2, ground := Ground.guard }], guard := some (2, true) }) (v := ?vve13) rfl (by kernel_rfl) (by kernel_rfl) (by kernel_rfl) (fun _ _ _ h => h) (Or.inl ⟨by rfl, ?hye13⟩) S0 ?reste13
            case hye13 => (intro w hSw; have hc := hSw.1.cell; obtain ⟨q0, q1, q2, q3⟩ := HEj.out _ hSw.2;go_simp <;> with_reducible rfl)
            try simp only [Act.put, List.setIfInBounds_toArray, List.set_cons_zero, List.set_cons_succ]
            refine wpAnyH_take (i := 13) (oi := { dst := some 58, op := Op.move (Operand.tmp 0), type := 36, pos := "l09_house.go:17", after := #[{ on := 12, ground := Ground.guard }], guard := some (12, false) }) (v := ?vve14) rfl (by kernel_rfl) (by kernel_rfl) (by kernel_rfl) (fun _ _ _ h => h) (Or.inl ⟨by rfl, ?hye14⟩) S0 ?reste14
            case hye14 => (intro w hSw; have hc := hSw.1.cell; obtain ⟨q0, q1, q2, q3⟩ := HEj.out _ hSw.2;go_simp <;> with_reducible rfl)
            try simp only [Act.put, List.setIfInBounds_toArray, List.set_cons_zero, List.set_cons_succ]
            refine wpAnyH_take (i := 14) (oi := { dst := some 59, op := Op.move (Operand.tmp 3), type := 3, pos := "l09_house.go:17", after := #[{ on := 12, ground := Ground.guard }], guard := some (12, false) }) (v := ?vve15) rfl (by kernel_rfl) (by kernel_rfl) (by kernel_rfl) (fun _ _ _ h => h) (Or.inl ⟨by rfl, ?hye15⟩) S0 ?reste15
            case hye15 => (intro w hSw; have hc := hSw.1.cell; obtain ⟨q0, q1, q2, q3⟩ := HEj.out _ hSw.2;go_simp <;> with_reducible rfl)
            try simp only [Act.put, List.setIfInBounds_toArray, List.set_cons_zero, List.set_cons_succ]
            refine wpAnyH_take (i := 15) (oi := { dst := some 60, op := Op.binOp BinOp.sub 3 (Operand.tmp 59) (Operand.const (Value.int IntKind.i64 1)) 3, type := 3, pos := "l09_house.go:17", after := #[{ on := 14, ground := Ground.data }, { on := 12, ground := Ground.guard }], guard := some (12, false) }) (v := ?vve16) rfl (by kernel_rfl) (by kernel_rfl) (by kernel_rfl) (fun _ _ _ h => h) (Or.inl ⟨by rfl, ?hye16⟩) S0 ?reste16
            case hye16 => (intro w hSw; have hc := hSw.1.cell; obtain ⟨q0, q1, q2, q3⟩ := HEj.out _ hSw.2;go_simp <;> with_reducible rfl)
            try simp only [Act.put, List.setIfInBounds_toArray, List.set_cons_zero, List.set_cons_succ]
            refine wpAnyH_take (i := 16) (oi := { dst := some 61, op := Op.indexAddr 36 (Operand.tmp 58) (Operand.tmp 60), type := 0, pos := "l09_house.go:17", after := #[{ on := 13, ground := Ground.data }, { on := 15, ground := Ground.data }, { on := 12, ground := Ground.guard }], guard := some (12, false) }) (v := ?vve17) rfl (by kernel_rfl) (by kernel_rfl) (by kernel_rfl) (fun _ _ _ h => h) (Or.inl ⟨by rfl, ?hye17⟩) S0 ?reste17
            case hye17 => (intro w hSw; have hc := hSw.1.cell; obtain ⟨q0, q1, q2, q3⟩ := HEj.out _ hSw.2;go_simp <;> with_reducible rfl)
            try simp only [Act.put, List.setIfInBounds_toArray, List.set_cons_zero, List.set_cons_succ]
            refine wpAnyH_take (i := 17) (oi := { dst := some 62, op := Op.fieldAddr 85 (Operand.tmp 61) 0, type := 0, pos := "l09_house.go:17", after := #[{ on := 16, ground := Ground.data }, { on := 12, ground := Ground.guard }], guard := some (12, false) }) (v := ?vve18) rfl (by kernel_rfl) (by kernel_rfl) (by kernel_rfl) (fun _ _ _ h => h) (Or.inl ⟨by rfl, ?hye18⟩) S0 ?reste18
            case hye18 => (intro w hSw; have hc := hSw.1.cell; obtain ⟨q0, q1, q2, q3⟩ := HEj.out _ hSw.2;go_simp <;> with_reducible rfl)
            try simp only [Act.put, List.setIfInBounds_toArray, List.set_cons_zero, List.set_cons_succ]
            refine wpAnyH_take (i := 18) (oi := { dst := some 63, op := Op.load 2 (Operand.tmp 62), type := 2, pos := "l09_house.go:17", after := #[{ on := 17, ground := Ground.data }, { on := 12, ground := Ground.guard }], guard := some (12, false) }) (v := ?vve19) rfl (by kernel_rfl) (by kernel_rfl) (by kernel_rfl) (fun _ _ _ h => h) (Or.inl ⟨by rfl, ?hye19⟩) S0 ?reste19
            case hye19 => (intro w hSw; have hc := hSw.1.cell; obtain ⟨q0, q1, q2, q3⟩ := HEj.out _ hSw.2;go_simp <;> with_reducible rfl)
            try simp only [Act.put, List.setIfInBounds_toArray, List.set_cons_zero, List.set_cons_succ]
            refine wpAnyH_take (i := 19) (oi := { dst := some 64, op := Op.fieldAddr 85 (Operand.tmp 4) 0, type := 0, pos := "l09_house.go:17", after := #[{ on := 12, ground := Ground.guard }], guard := some (12, false) }) (v := ?vve20) rfl (by kernel_rfl) (by kernel_rfl) (by kernel_rfl) (fun _ _ _ h => h) (Or.inl ⟨by rfl, ?hye20⟩) S0 ?reste20
            case hye20 => (intro w hSw; have hc := hSw.1.cell; obtain ⟨q0, q1, q2, q3⟩ := HEj.out _ hSw.2;go_simp <;> with_reducible rfl)
            try simp only [Act.put, List.setIfInBounds_toArray, List.set_cons_zero, List.set_cons_succ]
            refine wpAnyH_take (i := 20) (oi := { dst := some 65, op := Op.load 2 (Operand.tmp 64), type := 2, pos := "l09_house.go:17", after := #[{ on := 19, ground := Ground.data }, { on := 12, ground := Ground.guard }], guard := some (12, false) }) (v := ?vve21) rfl (by kernel_rfl) (by kernel_rfl) (by kernel_rfl) (fun _ _ _ h => h) (Or.inl ⟨by rfl, ?hye21⟩) S0 ?reste21
            case hye21 => (intro w hSw; have hc := hSw.1.cell; obtain ⟨q0, q1, q2, q3⟩ := HEj.out _ hSw.2;go_simp <;> with_reducible rfl)
            try simp only [Act.put, List.setIfInBounds_toArray, List.set_cons_zero, List.set_cons_succ]
            refine wpAnyH_take (i := 21) (oi := { dst := some 66, op := Op.binOp BinOp.eql 2 (Operand.tmp 63) (Operand.tmp 65) 2, type := 4, pos := "l09_house.go:17", after := #[{ on := 18, ground := Ground.data }, { on := 20, ground := Ground.data }, { on := 12, ground := Ground.guard }], guard := some (12, false) }) (v := ?vve22) rfl (by kernel_rfl) (by kernel_rfl) (by kernel_rfl) (fun _ _ _ h => h) (Or.inl ⟨by rfl, ?hye22⟩) S0 ?reste22
            case hye22 => (intro w hSw; have hc := hSw.1.cell; obtain ⟨q0, q1, q2, q3⟩ := HEj.out _ hSw.2;go_simp <;> with_reducible rfl)
            try simp only [Act.put, List.setIfInBounds_toArray, List.set_cons_zero, List.set_cons_succ]
            refine wpAnyH_take (i := 22) (oi := { dst := some 67, op := Op.move (Operand.tmp 66), type := 4, pos := "l09_house.go:17", after := #[{ on := 21, ground := Ground.data }, { on := 12, ground := Ground.chain }, { on := 12, ground := Ground.guard }], guard := some (12, false) }) (v := ?vve23) rfl (by kernel_rfl) (by kernel_rfl) (by kernel_rfl) (fun _ _ _ h => h) (Or.inl ⟨by rfl, ?hye23⟩) S0 ?reste23
            case hye23 => (intro w hSw; have hc := hSw.1.cell; obtain ⟨q0, q1, q2, q3⟩ := HEj.out _ hSw.2;go_simp <;> with_reducible rfl)
            try simp only [Act.put, List.setIfInBounds_toArray, List.set_cons_zero, List.set_cons_succ]
            refine wpAnyH_take (i := 23) (oi := { dst := some 68, op := Op.move (Operand.tmp 0), type := 36, pos := "l09_house.go:17", after := #[{ on := 22, ground := Ground.guard }], guard := some (22, true) }) (v := ?vve24) rfl (by kernel_rfl) (by kernel_rfl) (by kernel_rfl) (fun _ _ _ h => h) (Or.inl ⟨by rfl, ?hye24⟩) S0 ?reste24
            case hye24 => (intro w hSw; have hc := hSw.1.cell; obtain ⟨q0, q1, q2, q3⟩ := HEj.out _ hSw.2;go_simp <;> with_reducible rfl)
            try simp only [Act.put, List.setIfInBounds_toArray, List.set_cons_zero, List.set_cons_succ]
            refine wpAnyH_take (i := 24) (oi := { dst := some 69, op := Op.move (Operand.tmp 3), type := 3, pos := "l09_house.go:17", after := #[{ on := 22, ground := Ground.guard }], guard := some (22, true) }) (v := ?vve25) rfl (by kernel_rfl) (by kernel_rfl) (by kernel_rfl) (fun _ _ _ h => h) (Or.inl ⟨by rfl, ?hye25⟩) S0 ?reste25
            case hye25 => (intro w hSw; have hc := hSw.1.cell; obtain ⟨q0, q1, q2, q3⟩ := HEj.out _ hSw.2;go_simp <;> with_reducible rfl)
            try simp only [Act.put, List.setIfInBounds_toArray, List.set_cons_zero, List.set_cons_succ]
            refine wpAnyH_take (i := 25) (oi := { dst := some 70, op := Op.binOp BinOp.sub 3 (Operand.tmp 69) (Operand.const (Value.int IntKind.i64 1)) 3, type := 3, pos := "l09_house.go:17", after := #[{ on := 24, ground := Ground.data }, { on := 22, ground := Ground.guard }], guard := some (22, true) }) (v := ?vve26) rfl (by kernel_rfl) (by kernel_rfl) (by kernel_rfl) (fun _ _ _ h => h) (Or.inl ⟨by rfl, ?hye26⟩) S0 ?reste26
            case hye26 => (intro w hSw; have hc := hSw.1.cell; obtain ⟨q0, q1, q2, q3⟩ := HEj.out _ hSw.2;go_simp <;> with_reducible rfl)
            try simp only [Act.put, List.setIfInBounds_toArray, List.set_cons_zero, List.set_cons_succ]
            refine wpAnyH_take (i := 26) (oi := { dst := some 71, op := Op.indexAddr 36 (Operand.tmp 68) (Operand.tmp 70), type := 0, pos := "l09_house.go:17", after := #[{ on := 23, ground := Ground.data }, { on := 25, ground := Ground.data }, { on := 22, ground := Ground.guard }], guard := some (22, true) }) (v := ?vve27) rfl (by kernel_rfl) (by kernel_rfl) (by kernel_rfl) (fun _ _ _ h => h) (Or.inl ⟨by rfl, ?hye27⟩) S0 ?reste27
            case hye27 => (intro w hSw; have hc := hSw.1.cell; obtain ⟨q0, q1, q2, q3⟩ := HEj.out _ hSw.2;go_simp <;> with_reducible rfl)
            try simp only [Act.put, List.setIfInBounds_toArray, List.set_cons_zero, List.set_cons_succ]
            refine wpAnyH_take (i := 27) (oi := { dst := some 72, op := Op.fieldAddr 85 (Operand.tmp 71) 1, type := 0, pos := "l09_house.go:17", after := #[{ on := 26, ground := Ground.data }, { on := 22, ground := Ground.guard }], guard := some (22, true) }) (v := ?vve28) rfl (by kernel_rfl) (by kernel_rfl) (by kernel_rfl) (fun _ _ _ h => h) (Or.inl ⟨by rfl, ?hye28⟩) S0 ?reste28
            case hye28 => (intro w hSw; have hc := hSw.1.cell; obtain ⟨q0, q1, q2, q3⟩ := HEj.out _ hSw.2;go_simp <;> with_reducible rfl)
            try simp only [Act.put, List.setIfInBounds_toArray, List.set_cons_zero, List.set_cons_succ]
            refine wpAnyH_take (i := 28) (oi := { dst := some 73, op := Op.load 2 (Operand.tmp 72), type := 2, pos := "l09_house.go:17", after := #[{ on := 27, ground := Ground.data }, { on := 22, ground := Ground.guard }], guard := some (22, true) }) (v := ?vve29) rfl (by kernel_rfl) (by kernel_rfl) (by kernel_rfl) (fun _ _ _ h => h) (Or.inl ⟨by rfl, ?hye29⟩) S0 ?reste29
            case hye29 => (intro w hSw; have hc := hSw.1.cell; obtain ⟨q0, q1, q2, q3⟩ := HEj.out _ hSw.2;go_simp <;> with_reducible rfl)
            try simp only [Act.put, List.setIfInBounds_toArray, List.set_cons_zero, List.set_cons_succ]
            refine wpAnyH_take (i := 29) (oi := { dst := some 74, op := Op.fieldAddr 85 (Operand.tmp 4) 1, type := 0, pos := "l09_house.go:17", after := #[{ on := 22, ground := Ground.guard }], guard := some (22, true) }) (v := ?vve30) rfl (by kernel_rfl) (by kernel_rfl) (by kernel_rfl) (fun _ _ _ h => h) (Or.inl ⟨by rfl, ?hye30⟩) S0 ?reste30
            case hye30 => (intro w hSw; have hc := hSw.1.cell; obtain ⟨q0, q1, q2, q3⟩ := HEj.out _ hSw.2;go_simp <;> with_reducible rfl)
            try simp only [Act.put, List.setIfInBounds_toArray, List.set_cons_zero, List.set_cons_succ]
            refine wpAnyH_take (i := 30) (oi := { dst := some 75, op := Op.load 2 (Operand.tmp 74), type := 2, pos := "l09_house.go:17", after := #[{ on := 29, ground := Ground.data }, { on := 22, ground := Ground.guard }], guard := some (22, true) }) (v := ?vve31) rfl (by kernel_rfl) (by kernel_rfl) (by kernel_rfl) (fun _ _ _ h => h) (Or.inl ⟨by rfl, ?hye31⟩) S0 ?reste31
            case hye31 => (intro w hSw; have hc := hSw.1.cell; obtain ⟨q0, q1, q2, q3⟩ := HEj.out _ hSw.2;go_simp <;> with_reducible rfl)
            try simp only [Act.put, List.setIfInBounds_toArray, List.set_cons_zero, List.set_cons_succ]
            refine wpAnyH_take (i := 31) (oi := { dst := some 76, op := Op.binOp BinOp.geq 2 (Operand.tmp 73) (Operand.tmp 75) 2, type := 4, pos := "l09_house.go:17", after := #[{ on := 28, ground := Ground.data }, { on := 30, ground := Ground.data }, { on := 22, ground := Ground.guard }], guard := some (22, true) }) (v := ?vve32) rfl (by kernel_rfl) (by kernel_rfl) (by kernel_rfl) (fun _ _ _ h => h) (Or.inl ⟨by rfl, ?hye32⟩) S0 ?reste32
            case hye32 => (intro w hSw; have hc := hSw.1.cell; obtain ⟨q0, q1, q2, q3⟩ := HEj.out _ hSw.2;go_simp <;> with_reducible rfl)
            try simp only [Act.put, List.setIfInBounds_toArray, List.set_cons_zero, List.set_cons_succ]
            refine wpAnyH_take (i := 32) (oi := { dst := some 77, op := Op.pick (Operand.tmp 67) (Operand.tmp 76) (Operand.const (Value.bool false)), type := 4, pos := "l09_house.go:17", after := #[{ on := 22, ground := Ground.data }, { on := 31, ground := Ground.data }, { on := 12, ground := Ground.guard }], guard := some (12, false) }) (v := ?vve33) rfl (by kernel_rfl) (by kernel_rfl) (by kernel_rfl) (fun _ _ _ h => h) (Or.inl ⟨by rfl, ?hye33⟩) S0 ?reste33
            case hye33 => (intro w hSw; have hc := hSw.1.cell; obtain ⟨q0, q1, q2, q3⟩ := HEj.out _ hSw.2;go_simp <;> with_reducible rfl)
            try simp only [Act.put, List.setIfInBounds_toArray, List.set_cons_zero, List.set_cons_succ]
            refine wpAnyH_take (i := 33) (oi := { dst := some 78, op := Op.pick (Operand.tmp 57) (Operand.const (Value.bool true)) (Operand.tmp 77), type := 4, pos := "l09_house.go:17", after := #[{ on := 12, ground := Ground.data }, { on := 32, ground := Ground.data }, { on := 2, ground := Ground.guard }], guard := some (2, true) }) (v := ?vve34) rfl (by kernel_rfl) (by kernel_rfl) (by kernel_rfl) (fun _ _ _ h => h) (Or.inl ⟨by rfl, ?hye34⟩) S0 ?reste34
            case hye34 => (intro w hSw; have hc := hSw.1.cell; obtain ⟨q0, q1, q2, q3⟩ := HEj.out _ hSw.2;go_simp <;> with_reducible rfl)
            try simp only [Act.put, List.setIfInBounds_toArray, List.set_cons_zero, List.set_cons_succ]
            refine wpAnyH_take (i := 34) (oi := { dst := some 79, op := Op.pick (Operand.tmp 47) (Operand.tmp 78) (Operand.const (Value.bool false)), type := 4, pos := "l09_house.go:17", after := #[{ on := 2, ground := Ground.data }, { on := 33, ground := Ground.data }], guard := none }) (v := ?vve35) rfl (by kernel_rfl) (by kernel_rfl) (by kernel_rfl) (fun _ _ _ h => h) (Or.inl ⟨by rfl, ?hye35⟩) S0 ?reste35
            case hye35 => (intro w hSw; have hc := hSw.1.cell; obtain ⟨q0, q1, q2, q3⟩ := HEj.out _ hSw.2;go_simp <;> with_reducible rfl)
            try simp only [Act.put, List.setIfInBounds_toArray, List.set_cons_zero, List.set_cons_succ]
            refine wpAnyH_done (by kernel_rfl) ?_ _
            all_goals
              have HBn := Lib.hid S0.2
              clear S0
              go_wp2_with fail
              go_ret
              exact ⟨bool_ret (by rw [← HLn.out]; exact hr.out.symm), HBn.out⟩
    · have : i = n := by omega
      subst this
      have HR := Lib.hid (HY.out (by omega) (fun k hk => HK.out k (by have := HN.out; omega)))
      go_wp2_with fail
      go_ret
      exact ⟨bool_ret HR.out.symm, HB.out⟩
end Go.Proofs.YtglealihdkecpaaGreat
