/- The law's lwGuestRow, lwGuests; the mathematics of FnGuests. -/
import Derived.Test.YthilmonokhdjmaaGdW
import Derived.Test.YthilmonokhdjmaaGpW
import Derived.Test.YthilmonokhdjmaaAgI
import Derived.Test.YthilmonokhdjmaaAgQ
import Derived.Deep.RegionHeld3
namespace Go.Proofs.Ythilmonokhdjmaa
open Go.RowKit

set_option maxRecDepth 100000 in
set_option maxHeartbeats 4000000 in
theorem lwGuestRow_any (a : List Gu) (v v' : Value) (w : World) (h : GusAt w v a) (h' : GusAt w v' a) (hn : a.length ≤ 1000) :
    Calls Try.prog 55 #[v, v'] w fun e w' => e = .returned (.bool true) ∧ Below w.heap.size w w' := by
  obtain ⟨va, vc, rfl, h⟩ := h
  obtain ⟨wa, wc, rfl, h'⟩ := h'
  rw [List.length_map] at *
  have HH := Lib.hid h
  have HH' := Lib.hid h'
  clear h h'
  obtain ⟨n, hnn⟩ : ∃ n, n = a.length := ⟨_, rfl⟩
  rw [← hnn] at hn ⊢
  have HN := Lib.hid hnn
  clear hnn
  go_enter Try.func55, Try.ntmps55
  go_wp2_with fail
  go_loopw [5] (fun u wr => ∃ i : Nat, i ≤ n ∧ u = .int .i64 (i : Int) ∧ Hid (Below w.heap.size w wr)) (fun u _ => n - (intOf u).toNat)
  case atStart => exact ⟨0, Nat.zero_le _, rfl, Lib.hid (Below.refl _ _)⟩
  case round =>
    obtain ⟨i, hi, rfl, HB⟩ := hrel
    by_cases hlt : i < n
    · have hne : a.map Gu.cl ≠ [] := fun e => by
        have := congrArg List.length e
        rw [List.length_map, ← HN.out] at this
        simp at this; omega
      obtain ⟨b, off, ha, hb, HE⟩ := HH.out hne
      obtain ⟨b', off', ha', hb', HE'⟩ := HH'.out hne
      subst ha ha'
      have hir : i < a.length := by rw [← HN.out]; exact hlt
      have hl1 : (i : Int) < n := by omega
      have HC := Lib.hid (fun (W' : World) (hS : Below w.heap.size w W') => (Elems.below HE hS hb).gu i hir)
      have HC' := Lib.hid (fun (W' : World) (hS : Below w.heap.size w W') => (Elems.below HE' hS hb').gu i hir)
      have S0 : Below w.heap.size w wr.drew := HB.out.drew
      clear HE HE'
      generalize a[i] = y at *
      obtain ⟨y0, y1, y2, y3, y4, y5, y6⟩ := y
      dsimp only at HC HC'
      go_upto_region 6 with fail
      refine wp_region_held_drew (S := fun W' => Below w.heap.size w W') (by kernel_rfl) S0 (fun hHeld => ?_)
      clear hHeld
      refine wpAnyH_take (i := 0) (oi := { dst := some 17, op := Op.move (Operand.tmp 0), type := 56, pos := "laws.go:441", after := #[], guard := none }) (v := ?vva1) rfl (by kernel_rfl) (by kernel_rfl) (by kernel_rfl) (fun _ _ _ h => h) (Or.inl ⟨by rfl, ?hya1⟩) S0 ?resta1
      case hya1 => (intro w hSw; obtain ⟨p0, p1, p2, p3, p4, p5, p6⟩ := HC.out _ hSw; obtain ⟨q0, q1, q2, q3, q4, q5, q6⟩ := HC'.out _ hSw;go_simp <;> with_reducible rfl)
      try simp only [Act.put, List.setIfInBounds_toArray, List.set_cons_zero, List.set_cons_succ]
      refine wpAnyH_take (i := 1) (oi := { dst := some 18, op := Op.move (Operand.tmp 5), type := 3, pos := "laws.go:441", after := #[], guard := none }) (v := ?vva2) rfl (by kernel_rfl) (by kernel_rfl) (by kernel_rfl) (fun _ _ _ h => h) (Or.inl ⟨by rfl, ?hya2⟩) S0 ?resta2
      case hya2 => (intro w hSw; obtain ⟨p0, p1, p2, p3, p4, p5, p6⟩ := HC.out _ hSw; obtain ⟨q0, q1, q2, q3, q4, q5, q6⟩ := HC'.out _ hSw;go_simp <;> with_reducible rfl)
      try simp only [Act.put, List.setIfInBounds_toArray, List.set_cons_zero, List.set_cons_succ]
      refine wpAnyH_take (i := 2) (oi := { dst := some 19, op := Op.indexAddr 56 (Operand.tmp 17) (Operand.tmp 18), type := 0, pos := "laws.go:441", after := #[{ on := 0, ground := Ground.data }, { on := 1, ground := Ground.data }], guard := none }) (v := ?vva3) rfl (by kernel_rfl) (by kernel_rfl) (by kernel_rfl) (fun _ _ _ h => h) (Or.inl ⟨by rfl, ?hya3⟩) S0 ?resta3
      case hya3 => (intro w hSw; obtain ⟨p0, p1, p2, p3, p4, p5, p6⟩ := HC.out _ hSw; obtain ⟨q0, q1, q2, q3, q4, q5, q6⟩ := HC'.out _ hSw;go_simp <;> with_reducible rfl)
      try simp only [Act.put, List.setIfInBounds_toArray, List.set_cons_zero, List.set_cons_succ]
      refine wpAnyH_take (i := 3) (oi := { dst := some 20, op := Op.load 58 (Operand.tmp 19), type := 58, pos := "laws.go:441", after := #[{ on := 2, ground := Ground.data }], guard := none }) (v := ?vva4) rfl (by kernel_rfl) (by kernel_rfl) (by kernel_rfl) (fun _ _ _ h => h) (Or.inl ⟨by rfl, ?hya4⟩) S0 ?resta4
      case hya4 => (intro w hSw; obtain ⟨p0, p1, p2, p3, p4, p5, p6⟩ := HC.out _ hSw; obtain ⟨q0, q1, q2, q3, q4, q5, q6⟩ := HC'.out _ hSw;go_simp <;> with_reducible rfl)
      try simp only [Act.put, List.setIfInBounds_toArray, List.set_cons_zero, List.set_cons_succ]
      refine wpAnyH_take (i := 4) (oi := { dst := some 21, op := Op.move (Operand.tmp 1), type := 56, pos := "laws.go:441", after := #[], guard := none }) (v := ?vva5) rfl (by kernel_rfl) (by kernel_rfl) (by kernel_rfl) (fun _ _ _ h => h) (Or.inl ⟨by rfl, ?hya5⟩) S0 ?resta5
      case hya5 => (intro w hSw; obtain ⟨p0, p1, p2, p3, p4, p5, p6⟩ := HC.out _ hSw; obtain ⟨q0, q1, q2, q3, q4, q5, q6⟩ := HC'.out _ hSw;go_simp <;> with_reducible rfl)
      try simp only [Act.put, List.setIfInBounds_toArray, List.set_cons_zero, List.set_cons_succ]
      refine wpAnyH_take (i := 5) (oi := { dst := some 22, op := Op.move (Operand.tmp 5), type := 3, pos := "laws.go:441", after := #[], guard := none }) (v := ?vva6) rfl (by kernel_rfl) (by kernel_rfl) (by kernel_rfl) (fun _ _ _ h => h) (Or.inl ⟨by rfl, ?hya6⟩) S0 ?resta6
      case hya6 => (intro w hSw; obtain ⟨p0, p1, p2, p3, p4, p5, p6⟩ := HC.out _ hSw; obtain ⟨q0, q1, q2, q3, q4, q5, q6⟩ := HC'.out _ hSw;go_simp <;> with_reducible rfl)
      try simp only [Act.put, List.setIfInBounds_toArray, List.set_cons_zero, List.set_cons_succ]
      refine wpAnyH_take (i := 6) (oi := { dst := some 23, op := Op.indexAddr 56 (Operand.tmp 21) (Operand.tmp 22), type := 0, pos := "laws.go:441", after := #[{ on := 4, ground := Ground.data }, { on := 5, ground := Ground.data }], guard := none }) (v := ?vva7) rfl (by kernel_rfl) (by kernel_rfl) (by kernel_rfl) (fun _ _ _ h => h) (Or.inl ⟨by rfl, ?hya7⟩) S0 ?resta7
      case hya7 => (intro w hSw; obtain ⟨p0, p1, p2, p3, p4, p5, p6⟩ := HC.out _ hSw; obtain ⟨q0, q1, q2, q3, q4, q5, q6⟩ := HC'.out _ hSw;go_simp <;> with_reducible rfl)
      try simp only [Act.put, List.setIfInBounds_toArray, List.set_cons_zero, List.set_cons_succ]
      refine wpAnyH_take (i := 7) (oi := { dst := some 24, op := Op.load 58 (Operand.tmp 23), type := 58, pos := "laws.go:441", after := #[{ on := 6, ground := Ground.data }], guard := none }) (v := ?vva8) rfl (by kernel_rfl) (by kernel_rfl) (by kernel_rfl) (fun _ _ _ h => h) (Or.inl ⟨by rfl, ?hya8⟩) S0 ?resta8
      case hya8 => (intro w hSw; obtain ⟨p0, p1, p2, p3, p4, p5, p6⟩ := HC.out _ hSw; obtain ⟨q0, q1, q2, q3, q4, q5, q6⟩ := HC'.out _ hSw;go_simp <;> with_reducible rfl)
      try simp only [Act.put, List.setIfInBounds_toArray, List.set_cons_zero, List.set_cons_succ]
      refine wpAnyH_take (i := 8) (oi := { dst := some 25, op := Op.binOp BinOp.neq 58 (Operand.tmp 20) (Operand.tmp 24) 58, type := 4, pos := "laws.go:441", after := #[{ on := 3, ground := Ground.data }, { on := 7, ground := Ground.data }], guard := none }) (v := ?vva9) rfl (by kernel_rfl) (by kernel_rfl) (by kernel_rfl) (fun _ _ _ h => h) (Or.inl ⟨by rfl, ?hya9⟩) S0 ?resta9
      case hya9 => (intro w hSw; obtain ⟨p0, p1, p2, p3, p4, p5, p6⟩ := HC.out _ hSw; obtain ⟨q0, q1, q2, q3, q4, q5, q6⟩ := HC'.out _ hSw;go_simp <;> with_reducible rfl)
      try simp only [Act.put, List.setIfInBounds_toArray, List.set_cons_zero, List.set_cons_succ]
      refine wpAnyH_done (by kernel_rfl) ?_ _
      go_wp2_with fail
      go_roundw
      case rel => exact ⟨i + 1, by omega, by simp, Lib.hid S0⟩
      case measure => simp [intOf]; omega
    · have : i = n := by omega
      subst this
      go_wp2_with fail
      go_ret
      exact ⟨rfl, HB.out⟩
set_option maxRecDepth 100000 in
set_option maxHeartbeats 4000000 in
theorem lwGuests_any (a b : List Gu) (c : Int) (v v' t t' : Value) (w : World) (h : GusAt w v a) (h' : GusAt w v' a) (k : GusAt w t b) (k' : GusAt w t' b) (hn : a.length ≤ 1000) (hm : b.length ≤ 1000) (hok : c = 0 → gusOk a = true) :
    Calls Try.prog 45 #[goV v t c, goV v' t' c] w fun e w' => e = .returned (.bool true) ∧ Below w.heap.size w w' := by
  have HRt := Lib.hid (fun (W' : World) (hb : Below w.heap.size w W') => specGuestsRight_any a v W' (SlAt.kept h hb) (by omega))
  have HR1 := Lib.hid (fun (W' : World) (hb : Below w.heap.size w W') => lwGuestRow_any a v v' W' (SlAt.kept h hb) (SlAt.kept h' hb) hn)
  have HR2 := Lib.hid (fun (W' : World) (hb : Below w.heap.size w W') => lwGuestRow_any b t t' W' (SlAt.kept k hb) (SlAt.kept k' hb) hm)
  unfold GrPost at HRt
  have HOk := Lib.hid hok
  clear h h' k k' hok
  unfold goV
  have A0 := ((MemAt.start w).new 62 #[v, t, .int .i64 c]).new 62 #[v', t', .int .i64 c]
  rw [World.size_alloc] at A0
  go_enter Try.func45, Try.ntmps45
  go_upto_region 1 with fail
  generalize (w.alloc (.cells #[v, t, .int .i64 c] 62)).alloc (.cells #[v', t', .int .i64 c] 62) = W1 at *
  have c0 := A0.b0.cell
  have c1 := A0.b1.cell
  go_wp2_with fail
  refine (HR1.out _ A0.bel).mono ?_
  rintro e w2 ⟨rfl, hb⟩
  replace A0 := A0.kept hb
  clear hb c0 c1
  have c0 := A0.b0.cell
  have c1 := A0.b1.cell
  go_wp2_with fail
  refine (HR2.out _ A0.bel).mono ?_
  rintro e w3 ⟨rfl, hb⟩
  replace A0 := A0.kept hb
  clear hb c0 c1
  have c0 := A0.b0.cell
  have c1 := A0.b1.cell
  by_cases hc0 : c = 0
  · subst hc0
    have HB := Lib.hid A0.bel
    have HRx := Lib.hid (HRt.out _ A0.bel)
    rw [HOk.out rfl] at HRx
    clear A0 HRt HOk
    go_wp2_with (go_at_call 54; refine HRx.out.mono ?_; rintro e w4 ⟨rfl, hb2⟩; have HB2 := Lib.hid (HB.out.trans (hb2.mono HB.out.size)); clear hb2)
    go_ret
    exact ⟨rfl, HB2.out⟩
  · have HB := Lib.hid A0.bel
    clear A0 HRt HOk
    go_wp2_with fail
    go_ret
    exact ⟨rfl, HB.out⟩
theorem okAtG_pw {l : List Gu} (h8 : l.length ≤ 8) (hr : ∀ x ∈ l, x.right = true) (hp : l.Pairwise LtG) : gusOk l = true := by
  refine gusOk_yes h8 (fun i hi => ?_)
  have h1 := hr _ (List.getElem_mem hi)
  cases i with
  | zero => rw [okAtG_zero hi]; exact h1
  | succ j =>
    have h2 := (lessG_iff _ _).2 (List.pairwise_iff_getElem.1 hp j (j + 1) (by omega) hi (by omega))
    rw [okAtG_succ hi, h1, h2]; rfl
theorem gusOk_sub {l l' : List Gu} (h : gusOk l = true) (hs : l'.Sublist l) : gusOk l' = true :=
  okAtG_pw (Nat.le_trans hs.length_le (gusOk_len h)) (fun _ hx => gusOk_mem h (hs.subset hx)) ((gusOk_pw h).sublist hs)
/- two sorted lists with the same members are one -/
theorem sortedG_eq : ∀ {a b : List Gu}, a.Pairwise LtG → b.Pairwise LtG → (∀ y, y ∈ a ↔ y ∈ b) → a = b := by
  intro a
  induction a with
  | nil =>
    intro b _ _ h
    cases b with
    | nil => rfl
    | cons y b => have := (h y).2 (by simp); cases this
  | cons x a ih =>
    intro b ha hb h
    cases b with
    | nil => have := (h x).1 (by simp); cases this
    | cons y b =>
      rw [List.pairwise_cons] at ha hb
      have exy : x = y := by
        rcases List.mem_cons.1 ((h x).1 (by simp)) with e | e
        · exact e
        · rcases List.mem_cons.1 ((h y).2 (by simp)) with e2 | e2
          · exact e2.symm
          · exact absurd (ltG_trans (ha.1 y e2) (hb.1 x e)) (ltG_irrefl _)
      subst exy
      rw [ih ha.2 hb.2 (fun z => ?_)]
      constructor
      · intro hz
        rcases List.mem_cons.1 ((h z).1 (by simp [hz])) with e | e
        · subst e; exact absurd (ha.1 z hz) (ltG_irrefl z)
        · exact e
      · intro hz
        rcases List.mem_cons.1 ((h z).2 (by simp [hz])) with e | e
        · subst e; exact absurd (hb.1 z hz) (ltG_irrefl z)
        · exact e
/- an element put where one like it was: no longer -/
theorem insL_hit_len (x : Gu) : ∀ {l : List Gu}, l.Pairwise LtG → (∃ y ∈ l, sameG x y) → (insL LtG x l).length = l.length := by
  intro l
  induction l with
  | nil => rintro _ ⟨y, hy, _⟩; cases hy
  | cons z l ih =>
    rintro hp ⟨y, hy, hs⟩
    rw [List.pairwise_cons] at hp
    unfold insL
    by_cases h1 : LtG z x
    · rw [if_pos h1]
      have hyl : y ∈ l := by
        rcases List.mem_cons.1 hy with rfl | hy
        · exact absurd (sameG_symm hs) (ltG_not_same h1)
        · exact hy
      simp [ih hp.2 ⟨y, hyl, hs⟩]
    · rw [if_neg h1]
      by_cases h2 : LtG x z
      · rw [if_pos h2]
        rcases List.mem_cons.1 hy with rfl | hyl
        · exact absurd hs (ltG_not_same h2)
        · exact absurd hs (ltG_not_same (ltG_trans h2 (hp.1 y hyl)))
      · rw [if_neg h2]; simp
theorem gput_ok {l : List Gu} {g : Gu} (h : (gputR l g).code = 0) : gusOk (gputR l g).gus = true ∧ g ∈ (gputR l g).gus := by
  by_cases h1 : 400 < l.length
  · rw [gputR_long h1] at h; exact absurd h (by decide)
  cases h2 : gusOk l
  · rw [gputR_wrong h1 h2] at h; exact absurd h (by decide)
  cases h3 : g.right
  · rw [gputR_arg h1 h3] at h; exact absurd h (by decide)
  rw [gputR_ok h1 h2 h3] at h ⊢
  have hp := gusOk_pw h2
  have hm := insL_mem ordG g l hp
  have hpw := insL_pw ordG g l hp
  have hr : ∀ x ∈ insL LtG g l, x.right = true := fun x hx => by
    rcases (hm x).1 hx with rfl | ⟨hx, _⟩
    · exact h3
    · exact gusOk_mem h2 hx
  by_cases hit : ∃ y ∈ l, sameG g y
  · rw [putG_hit hit]
    exact ⟨okAtG_pw (by rw [insL_hit_len g hp hit]; exact gusOk_len h2) hr hpw, (hm g).2 (.inl rfl)⟩
  · by_cases h8 : 8 ≤ l.length
    · rw [putG_full h8 hit] at h; exact absurd h (by decide)
    · rw [putG_new h8]
      exact ⟨okAtG_pw (by have := insL_len (lt := LtG) g l; dsimp only; omega) hr hpw, (hm g).2 (.inl rfl)⟩
theorem gput_at {l : List Gu} {g : Gu} (h : (gputR l g).code = 0) : gaOf (gputR l g).gus g.vni g.mac = g := by
  obtain ⟨h1, h2⟩ := gput_ok h
  rw [gaOf, if_pos h1]
  obtain ⟨i, hi, e⟩ := List.getElem_of_mem h2
  have hp := gusOk_pw h1
  rw [atG_found i hi (fun k hk hkl hs => ?_) (by rw [e]; exact isG_true.2 ⟨rfl, rfl⟩), e]
  have := List.pairwise_iff_getElem.1 hp k i hkl hi hk
  rw [e] at this
  exact ltG_not_same this (isG_true.1 hs)
/- what a drop leaves -/
structure GdOk (d : List Gu) (v m : Int) (y : GsO) : Prop where
  right : gusOk d = true
  ok : gusOk y.gus = true
  at' : gaOf y.gus v m = Gu.zero
  len : y.gus.length + 1 = d.length
  one : ∃ x, y.gone = [x] ∧ (gputR y.gus x).gus = d
theorem gdrop_ok {d : List Gu} {v m : Int} (h : (gdropR d v m).code = 0) : GdOk d v m (gdropR d v m) := by
  by_cases h1 : 400 < d.length
  · rw [gdropR_long h1] at h; exact absurd h (by decide)
  cases h2 : gusOk d
  · rw [gdropR_wrong h1 h2] at h; exact absurd h (by decide)
  rw [gdropR_ok h1 h2] at h ⊢
  have hp := gusOk_pw h2
  have h8 := gusOk_len h2
  by_cases hh : hitG (keyG v m) d = []
  · rw [dropIn_none hh] at h; exact absurd h (by decide)
  obtain ⟨x, hx⟩ := List.exists_mem_of_ne_nil _ hh
  have hxm : x ∈ d ∧ sameG (keyG v m) x := by
    unfold hitG at hx
    rw [List.mem_filter] at hx
    exact ⟨hx.1, by simpa using hx.2⟩
  have h1x := hitG_one hp hxm.1 hxm.2
  rw [dropIn_some h1x]
  have hsub : (leaveG (keyG v m) d).Sublist d := List.filter_sublist
  have hlen : (leaveG (keyG v m) d).length + 1 = d.length := by
    have hs : ∀ k : List Gu, (k.filter fun h => decide (¬ sameG (keyG v m) h)).length + (k.filter fun h => decide (sameG (keyG v m) h)).length = k.length := by
      intro k
      induction k with
      | nil => rfl
      | cons z k ih =>
        rw [List.filter_cons, List.filter_cons]
        by_cases e : sameG (keyG v m) z <;> simp [e] at ih ⊢ <;> omega
    have h4 := hs d
    have h5 : (d.filter fun h => decide (sameG (keyG v m) h)).length = 1 := by
      have : (hitG (keyG v m) d).length = 1 := by rw [h1x]; rfl
      exact this
    rw [h5] at h4
    exact h4
  have hml : ∀ z, z ∈ leaveG (keyG v m) d ↔ z ∈ d ∧ ¬ sameG (keyG v m) z := fun z => by unfold leaveG; rw [List.mem_filter]; simp
  have hok := gusOk_sub h2 hsub
  refine ⟨h2, hok, ?_, hlen, x, rfl, ?_⟩
  · dsimp only
    rw [gaOf, if_pos hok, atG_none]
    intro k hk hkl hs
    have hz := (hml _).1 (List.getElem_mem hkl)
    have := isG_true.1 hs
    exact hz.2 ⟨this.1.symm, this.2.symm⟩
  · dsimp only
    have hl7 : ¬ 8 ≤ (leaveG (keyG v m) d).length := by omega
    rw [gputR_ok (by omega) hok (gusOk_mem h2 hxm.1), putG_new hl7]
    dsimp only
    refine sortedG_eq (insL_pw ordG x _ (leaveG_pw hp)) hp (fun z => ?_)
    rw [insL_mem ordG x _ (leaveG_pw hp) z, hml z]
    constructor
    · rintro (rfl | ⟨⟨h, _⟩, _⟩)
      · exact hxm.1
      · exact h
    · intro hz
      by_cases hs : sameG (keyG v m) z
      · left
        have : z ∈ hitG (keyG v m) d := by unfold hitG; rw [List.mem_filter]; exact ⟨hz, by simpa using hs⟩
        rw [h1x] at this
        simpa using this
      · exact .inr ⟨⟨hz, hs⟩, fun e => hs (sameG_trans hxm.2 e)⟩
/- what grew old -/
theorem gage_gone {a : List Gu} {now : Int} (x : Gu) (hx : x ∈ (ageR a now).gone) : x.st = false ∧ x.seen < now - 200 ∧ 0 ≤ now ∧ now ≤ 1000000 := by
  by_cases h1 : 400 < a.length
  · rw [ageR_long h1] at hx; cases hx
  cases h2 : gusOk a
  · rw [ageR_wrong h1 h2] at hx; cases hx
  cases h3 : isTime now
  · rw [ageR_arg h1 h3] at hx; cases hx
  rw [ageR_ok h1 h2 h3] at hx
  have ht := time_in h3
  unfold goneL2 at hx
  rw [List.mem_filter] at hx
  have := hx.2
  unfold oldG at this
  simp at this
  exact ⟨this.1, this.2, ht.1, ht.2⟩
theorem gage_ok {a : List Gu} {now : Int} (h : (ageR a now).code = 0) : gusOk (ageR a now).gus = true ∧ (ageR a now).gus.length + (ageR a now).gone.length = a.length := by
  by_cases h1 : 400 < a.length
  · rw [ageR_long h1] at h; exact absurd h (by decide)
  cases h2 : gusOk a
  · rw [ageR_wrong h1 h2] at h; exact absurd h (by decide)
  cases h3 : isTime now
  · rw [ageR_arg h1 h3] at h; exact absurd h (by decide)
  rw [ageR_ok h1 h2 h3]
  refine ⟨gusOk_sub h2 List.filter_sublist, ?_⟩
  dsimp only
  unfold stayL goneL2
  have hs : ∀ k : List Gu, (k.filter fun g => !oldG now g).length + (k.filter fun g => oldG now g).length = k.length := by
    intro k
    induction k with
    | nil => rfl
    | cons z k ih =>
      rw [List.filter_cons, List.filter_cons]
      cases oldG now z <;> simp <;> omega
  exact hs a
end Go.Proofs.Ythilmonokhdjmaa
