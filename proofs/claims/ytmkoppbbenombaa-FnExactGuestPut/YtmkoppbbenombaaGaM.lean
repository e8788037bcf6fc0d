/- byNames; GuestAt, of the model and of the program. -/
import Derived.Test.YtmkoppbbenombaaMpG
import Derived.Test.YtmkoppbbenombaaGsR
import Derived.Test.YtmkoppbbenombaaRw
import Derived.Maps.OwnOps
namespace Go.Proofs.Ytmkoppbbenombaa
open Go.RowKit

def LtG (a b : Gu) : Prop := a.vni < b.vni ∨ (a.vni = b.vni ∧ a.mac < b.mac)
theorem lessG_iff (a b : Gu) : lessG a b = true ↔ LtG a b := by
  unfold lessG LtG
  by_cases h : a.vni = b.vni
  · simp [h]
  · simp [h]
theorem ltG_trans {a b c : Gu} (h : LtG a b) (k : LtG b c) : LtG a c := by
  unfold LtG at *
  omega
theorem ltG_irrefl (a : Gu) : ¬ LtG a a := by
  unfold LtG
  omega
theorem ltG_not_same {a b : Gu} (h : LtG a b) : ¬ sameG a b := by
  unfold LtG at h
  unfold sameG
  omega
theorem gusOk_at {l : List Gu} (h : gusOk l = true) (i : Nat) (hi : i < l.length) : okAtG l i = true := by
  unfold gusOk at h
  rw [Bool.and_eq_true] at h
  exact List.all_eq_true.1 h.2 i (List.mem_range.2 hi)
theorem gusOk_next {l : List Gu} (h : gusOk l = true) (j : Nat) (hj : j + 1 < l.length) : LtG l[j] l[j + 1] := by
  have := gusOk_at h (j + 1) hj
  rw [okAtG_succ hj, Bool.and_eq_true] at this
  exact (lessG_iff _ _).1 this.2
theorem gusOk_pw {l : List Gu} (h : gusOk l = true) : l.Pairwise LtG := by
  rw [List.pairwise_iff_getElem]
  intro i j hi hj hij
  obtain ⟨d, rfl⟩ : ∃ d, j = i + 1 + d := ⟨j - (i + 1), by omega⟩
  clear hij
  induction d with
  | zero => exact gusOk_next h i hj
  | succ d ih => exact ltG_trans (ih (by omega)) (gusOk_next h (i + 1 + d) hj)
theorem gusOk_mem {l : List Gu} (h : gusOk l = true) {g : Gu} (hg : g ∈ l) : g.right = true := by
  obtain ⟨i, hi, rfl⟩ := List.getElem_of_mem hg
  have := gusOk_at h i hi
  cases hr : (l[i]).right
  · rw [okAtG_gu hi hr] at this; cases this
  · rfl
theorem seekG_of {x : Gu} : ∀ {E : List (Gu × Nat)} {i : Nat}, (∀ q ∈ E, ¬ sameG x q.1) → seekG x E i = none := by
  intro E
  induction E with
  | nil => intro i _; rfl
  | cons q E ih =>
    intro i h
    unfold seekG
    rw [if_neg (h q (by simp))]
    exact ih (fun q' hq => h q' (by simp [hq]))
theorem zipA_snoc {α : Type} (l : List α) (i : Nat) (hi : i < l.length) : (l.take (i + 1)).zipIdx = (l.take i).zipIdx ++ [(l[i], i)] := by
  rw [List.take_succ_eq_append_getElem hi, List.zipIdx_append]
  simp [Nat.min_eq_left (Nat.le_of_lt hi)]
theorem zipA_mem {α : Type} {l : List α} {q : α × Nat} (h : q ∈ l.zipIdx) : q.1 ∈ l := by
  have := List.mem_zipIdx h
  obtain ⟨_, _, h3⟩ := this
  rw [h3]; exact List.getElem_mem _
theorem zipG_new {l : List Gu} (hl : l.Pairwise LtG) (i : Nat) (hi : i < l.length) : seekG l[i] (l.take i).zipIdx 0 = none := by
  refine seekG_of (fun q hq => ?_)
  obtain ⟨k, hk, e⟩ := List.getElem_of_mem (zipA_mem hq)
  rw [List.length_take] at hk
  rw [List.getElem_take] at e
  rw [← e]
  have := List.pairwise_iff_getElem.1 hl k i (by omega) hi (by omega)
  exact fun s => ltG_not_same this (sameG_symm s)
def BnPost (l : List Gu) (w : World) (e : Ending) (w' : World) : Prop := ∃ M, e = .returned (.map (some M)) ∧ w.heap.size ≤ M ∧ MapG w' M l.zipIdx l.length ∧ Below w.heap.size w w'
theorem Blk.setA {W : World} {b M : Nat} {t : TypeId} {vs : Array Value} (h : Blk W b t vs) (hne : b ≠ M) (o : Obj) : Blk (setM W M o) b t vs := by
  unfold Blk at h ⊢
  simp only [Array.getElem?_setIfInBounds]
  rw [if_neg (fun e => hne e.symm)]
  exact h
theorem below_setA {W cur : World} {B M : Nat} (h : Below B W cur) (hB : B ≤ M) (o : Obj) : Below B W (setM cur M o) :=
  ⟨h.os, h.tape, h.output, by have := h.size; simp; exact this, fun k hk => by
    simp only [Array.getElem?_setIfInBounds]
    rw [if_neg (by omega)]
    exact h.block k hk⟩
theorem mapG_made {w : World} : MapG (w.alloc (.map #[] 0)) w.heap.size (([] : List Gu).zipIdx) 0 := by
  refine ⟨?_, (fun q hq => by simp at hq), by simp, by simp⟩
  have := heap_alloc_new w (.map #[] 0)
  simpa [mkG] using this
set_option maxRecDepth 100000 in
set_option maxHeartbeats 4000000 in
theorem byNames_any (l : List Gu) (v : Value) (w : World) (h : GusAt w v l) (hn : l.length ≤ 8) (hl : l.Pairwise LtG) :
    Calls Try.prog 94 #[v] w (BnPost l w) := by
  unfold BnPost
  have HSk := Lib.hid (fun (i : Nat) (hi : i < l.length) => zipG_new hl i hi)
  have HZs := Lib.hid (fun (i : Nat) (hi : i < l.length) => zipA_snoc l i hi)
  obtain ⟨a, cap, rfl, h⟩ := h
  rw [List.length_map] at *
  have HH := Lib.hid h
  have HZ : Hid (l.zipIdx = (l.take l.length).zipIdx) := Lib.hid (by rw [List.take_length])
  clear h hl
  have hmm := @run_makeMap Try.prog
  have HM0 : Hid (MapG (w.alloc (.map #[] 0)) w.heap.size (l.take 0).zipIdx 0) := Lib.hid (by rw [List.take_zero]; exact mapG_made)
  obtain ⟨n, hnn⟩ : ∃ n, n = l.length := ⟨_, rfl⟩
  rw [← hnn] at hn HZ ⊢
  have HN := Lib.hid hnn
  clear hnn
  go_enter Try.func94, Try.ntmps94
  go_wp2_with fail
  go_loopw [9, 5] (fun u _ wr => ∃ i : Nat, i ≤ n ∧ u = .int .i64 (i : Int) ∧ Hid (MapG wr w.heap.size (l.take i).zipIdx i) ∧ Hid (Below w.heap.size w wr)) (fun u _ _ => n - (intOf u).toNat)
  case atStart => exact ⟨0, Nat.zero_le _, rfl, HM0, Lib.hid ((Below.refl _ _).alloc (Nat.le_refl _) _)⟩
  case round =>
    clear hmm HM0
    obtain ⟨i, hi, rfl, HM, HB⟩ := hrel
    by_cases hlt : i < n
    · have hir : i < l.length := by rw [← HN.out]; exact hlt
      have hne : l.map Gu.cl ≠ [] := fun e => by
        have := congrArg List.length e
        rw [List.length_map, ← HN.out] at this
        simp at this; omega
      obtain ⟨b, off, ha, hb, HE⟩ := HH.out hne
      subst ha
      have hl1 : (i : Int) < n := by omega
      obtain ⟨p0, p1, p2, p3, p4, p5, p6⟩ := (Elems.below HE HB.out hb).gu i hir
      have HSi := Lib.hid (HSk.out i hir)
      have HZi := Lib.hid (HZs.out i hir)
      have HSl := Lib.hid (nameOf_any l[i])
      have S0 : Blk (wr.alloc (.cells (l[i]).ar 59)) wr.heap.size 59 (l[i]).ar ∧ Below w.heap.size w (wr.alloc (.cells (l[i]).ar 59)) := ⟨Blk.new _ _ _, HB.out.alloc HB.out.size _⟩
      have M0 : MapG (wr.alloc (.cells (l[i]).ar 59)) w.heap.size (l.take i).zipIdx i := HM.out.kept (Below.heap_alloc _ _ _ HM.out.lt)
      have hMq : w.heap.size ≠ wr.heap.size := Nat.ne_of_lt HM.out.lt
      unfold Gu.ar at S0 M0
      unfold Gu.val nmV at HSl
      clear HE HM HB
      generalize l[i] = x at *
      generalize (l.take i).zipIdx = E at *
      go_upto_region 5 with fail
      generalize (wr.alloc (.cells #[.int .i64 x.vni, .int .i64 x.mac, .int .i64 x.ip, .int .i64 x.door, .int .i64 x.seq, .int .i64 x.seen, .bool x.st] 59)) = W6 at *
      generalize wr.heap.size = q at *
      clear p0 p1 p2 p3 p4 p5 p6
      replace S0 := (show Blk W6.drew _ _ _ ∧ Below w.heap.size w W6.drew from ⟨S0.1.drew, S0.2.drew⟩)
      replace M0 : MapG W6.drew w.heap.size E i := M0.kept rfl
      go_wp2_with fail
      refine wp_region_held_drew (S := fun W' => Blk W' q 59 #[.int .i64 x.vni, .int .i64 x.mac, .int .i64 x.ip, .int .i64 x.door, .int .i64 x.seq, .int .i64 x.seen, .bool x.st] ∧ Below w.heap.size w W') (by kernel_rfl) S0 (fun hHeld => ?_)
      clear hHeld
      refine wpAnyH_take (i := 0) (oi := { dst := some 13, op := Op.move (Operand.tmp 3), type := 103, pos := "l07_local.go:47", after := #[], guard := none }) (v := ?vva1) rfl (by kernel_rfl) (by kernel_rfl) (by kernel_rfl) (fun _ _ _ h => h) (Or.inl ⟨by rfl, ?hya1⟩) S0 ?resta1
      case hya1 => (intro w hSw; go_simp <;> with_reducible rfl)
      try simp only [Act.put, List.setIfInBounds_toArray, List.set_cons_zero, List.set_cons_succ]
      refine wpAnyH_take (i := 1) (oi := { dst := some 14, op := Op.load 59 (Operand.tmp 5), type := 59, pos := "l07_local.go:47", after := #[], guard := none }) (v := ?vva2) rfl (by kernel_rfl) (by kernel_rfl) (by kernel_rfl) (fun _ _ _ h => h) (Or.inl ⟨by rfl, ?hya2⟩) S0 ?resta2
      case hya2 => (intro w hSw; have hc1 := hSw.1.cell;go_simp <;> with_reducible rfl)
      try simp only [Act.put, List.setIfInBounds_toArray, List.set_cons_zero, List.set_cons_succ]
      refine wpAnyH_take (i := 3) (oi := { dst := some 16, op := Op.load 59 (Operand.tmp 5), type := 59, pos := "l07_local.go:47", after := #[], guard := none }) (v := ?vva3) rfl (by kernel_rfl) (by kernel_rfl) (by kernel_rfl) (fun _ _ _ h => h) (Or.inl ⟨by rfl, ?hya3⟩) S0 ?resta3
      case hya3 => (intro w hSw; have hc1 := hSw.1.cell;go_simp <;> with_reducible rfl)
      try simp only [Act.put, List.setIfInBounds_toArray, List.set_cons_zero, List.set_cons_succ]
      refine wpAnyH_ready (rs := [2]) (by kernel_rfl) (by simp) ?_
      refine AllReadyH.cons (o := { dst := some 15, op := Op.call { callee := Callee.value (Operand.func 98), args := #[Operand.tmp 14], argTypes := #[59] }, type := 106, pos := "l07_local.go:47", after := #[{ on := 1, ground := Ground.data }], guard := none }) rfl (fun K hK => ?_) AllReadyH.nil
      go_simp
      refine (HSl.out _).mono ?_
      rintro e w1 ⟨rfl, hb1⟩
      replace S0 := (show Blk w1 _ _ _ ∧ Below w.heap.size w w1 from ⟨S0.1.kept hb1, S0.2.trans (hb1.mono S0.2.size)⟩)
      replace M0 : MapG w1 w.heap.size E i := M0.kept (hb1.block _ M0.lt)
      have hmu := (M0.add HSi.out).1
      have HM1 := Lib.hid (M0.add HSi.out).2
      unfold nameV Gu.val at hmu
      clear hb1
      refine hK.out _ _ S0 (fun hHeld => ?_)
      clear hK K hHeld
      try simp only [Act.put, List.setIfInBounds_toArray, List.set_cons_zero, List.set_cons_succ]
      refine wpAnyH_ready (rs := [4]) (by kernel_rfl) (by simp) ?_
      refine AllReadyH.cons (o := { dst := none, op := Op.mapUpdate 103 (Operand.tmp 13) (Operand.tmp 15) (Operand.tmp 16), type := 0, pos := "l07_local.go:47", after := #[{ on := 0, ground := Ground.data }, { on := 2, ground := Ground.data }, { on := 3, ground := Ground.data }, { on := 2, ground := Ground.chain }, { on := 0, ground := Ground.phase }, { on := 1, ground := Ground.phase }, { on := 2, ground := Ground.phase }, { on := 3, ground := Ground.phase }], guard := none }) rfl (fun K hK => ?_) AllReadyH.nil
      go_simp
      replace S0 := And.intro (S0.1.setA hMq.symm (.map (mkG (E ++ [(x, i)])).toArray (i + 1))) (below_setA S0.2 (Nat.le_refl _) (.map (mkG (E ++ [(x, i)])).toArray (i + 1)))
      refine hK.out _ _ S0 (fun hHeld => ?_)
      clear hK K hHeld
      try simp only [Act.put, List.setIfInBounds_toArray, List.set_cons_zero, List.set_cons_succ]
      refine wpAnyH_done (by kernel_rfl) ?_ _
      go_wp2_with fail
      go_roundw
      case rel => exact ⟨i + 1, by omega, by simp, by rw [HZi.out]; exact HM1, Lib.hid S0.2⟩
      case measure => simp [intOf]; omega
    · have hin : i = n := by omega
      subst hin
      go_wp2_with fail
      go_ret
      exact ⟨_, rfl, Nat.le_refl _, by rw [HZ.out]; exact HM.out, HB.out⟩
def isG (v m : Int) (g : Gu) : Bool := decide (g.vni = v) && decide (g.mac = m)
def atG (l : List Gu) (v m : Int) : Gu := (l.find? (isG v m)).getD Gu.zero
def gaOf (l : List Gu) (v m : Int) : Gu := if gusOk l = true then atG l v m else Gu.zero
theorem isG_true {v m : Int} {g : Gu} : isG v m g = true ↔ g.vni = v ∧ g.mac = m := by simp [isG]
theorem atG_found {l : List Gu} {v m : Int} (i : Nat) (hi : i < l.length) (hno : ∀ k, k < i → ∀ h : k < l.length, ¬ isG v m l[k] = true) (h1 : isG v m l[i] = true) : atG l v m = l[i] := by
  unfold atG
  have : l.find? (isG v m) = some l[i] := by
    rw [List.find?_eq_some_iff_getElem]
    refine ⟨h1, i, hi, rfl, fun j hj => ?_⟩
    simpa using hno j hj (by omega)
  rw [this]; rfl
theorem atG_none {l : List Gu} {v m : Int} (hno : ∀ k, k < l.length → ∀ h : k < l.length, ¬ isG v m l[k] = true) : atG l v m = Gu.zero := by
  unfold atG
  have : l.find? (isG v m) = none := by
    rw [List.find?_eq_none]
    intro x hx
    obtain ⟨k, hk, rfl⟩ := List.getElem_of_mem hx
    exact hno k hk hk
  rw [this]; rfl
theorem seek_at (x : Gu) (l : List Gu) : ∀ n i, pickG (seekG x (l.zipIdx n) i) = (atG l x.vni x.mac).val := by
  induction l with
  | nil => intro n i; rfl
  | cons a l ih =>
    intro n i
    rw [List.zipIdx_cons]
    unfold seekG atG
    by_cases h : sameG x a
    · have hg : isG x.vni x.mac a = true := isG_true.2 ⟨h.1.symm, h.2.symm⟩
      simp only [if_pos h, List.find?_cons, hg, Option.getD_some, pickG]
    · have hg : isG x.vni x.mac a = false := by
        cases e : isG x.vni x.mac a
        · rfl
        · have := isG_true.1 e; exact absurd ⟨this.1.symm, this.2.symm⟩ h
      simp only [if_neg h, List.find?_cons, hg]
      exact ih (n + 1) (i + 1)
theorem Blk.fillG {W cur : World} {q B : Nat} {t : TypeId} {c0 c1 c2 c3 c4 c5 c6 : Value} (N : Blk cur q t #[c0, c1, c2, c3, c4, c5, c6]) (h : Below B W cur) (hq : B ≤ q) (v0 v1 v2 v3 v4 v5 v6 : Value) :
    Blk (((((((cur.setCell ⟨q, 0, none⟩ v0).setCell ⟨q, 1, none⟩ v1).setCell ⟨q, 2, none⟩ v2).setCell ⟨q, 3, none⟩ v3).setCell ⟨q, 4, none⟩ v4).setCell ⟨q, 5, none⟩ v5).setCell ⟨q, 6, none⟩ v6) q t #[v0, v1, v2, v3, v4, v5, v6] ∧
    Below B W (((((((cur.setCell ⟨q, 0, none⟩ v0).setCell ⟨q, 1, none⟩ v1).setCell ⟨q, 2, none⟩ v2).setCell ⟨q, 3, none⟩ v3).setCell ⟨q, 4, none⟩ v4).setCell ⟨q, 5, none⟩ v5).setCell ⟨q, 6, none⟩ v6) :=
  ⟨N.fill7 _ _ _ _ _ _ _, below7 h hq _ _ _ _ _ _ _⟩
set_option maxRecDepth 100000 in
set_option maxHeartbeats 4000000 in
theorem specAtIn_any (l : List Gu) (val : Value) (v m : Int) (w : World) (h : GusAt w val l) (hn : l.length ≤ 8) :
    Calls Try.prog 93 #[val, .int .i64 v, .int .i64 m] w fun e w' => e = .returned (atG l v m).val ∧ Below w.heap.size w w' := by
  have HNo := Lib.hid (fun hno => atG_none (l := l) (v := v) (m := m) hno)
  have HFo := Lib.hid (fun (i : Nat) (hi : i < l.length) hno h1 => atG_found (l := l) (v := v) (m := m) i hi hno h1)
  have X0 := Blk.new w 59 #[.int .i64 0, .int .i64 0, .int .i64 0, .int .i64 0, .int .i64 0, .int .i64 0, .bool false]
  have HB0 : Below w.heap.size w (w.alloc (.cells #[.int .i64 0, .int .i64 0, .int .i64 0, .int .i64 0, .int .i64 0, .int .i64 0, .bool false] 59)) := (Below.refl _ _).alloc (Nat.le_refl _) _
  obtain ⟨a, cap, rfl, h⟩ := h
  rw [List.length_map] at *
  have HH := Lib.hid h
  clear h
  generalize atG l v m = R at *
  obtain ⟨n, hnn⟩ : ∃ n, n = l.length := ⟨_, rfl⟩
  rw [← hnn] at hn ⊢
  have HN := Lib.hid hnn
  clear hnn
  go_enter Try.func93, Try.ntmps93
  go_upto_region 1 with fail
  generalize w.alloc (.cells #[.int .i64 0, .int .i64 0, .int .i64 0, .int .i64 0, .int .i64 0, .int .i64 0, .bool false] 59) = w0 at *
  go_wp2_with fail
  go_loopw [7] (fun u wr => ∃ i : Nat, i ≤ n ∧ u = .int .i64 (i : Int) ∧ Hid (∀ k, k < i → ∀ h : k < l.length, ¬ isG v m l[k] = true) ∧ Hid (wr = w0)) (fun u _ => n - (intOf u).toNat)
  case atStart => exact ⟨0, Nat.zero_le _, rfl, Lib.hid (fun k hk => by omega), Lib.hid rfl⟩
  case round =>
    obtain ⟨i, hi, rfl, HK, HW⟩ := hrel
    have hw := HW.out
    clear HW
    subst hw
    by_cases hlt : i < n
    · have hne : l.map Gu.cl ≠ [] := fun e => by
        have := congrArg List.length e
        rw [List.length_map, ← HN.out] at this
        simp at this; omega
      obtain ⟨b, off, ha, hb, HE⟩ := HH.out hne
      subst ha
      have hir : i < l.length := by rw [← HN.out]; exact hlt
      have hl1 : (i : Int) < n := by omega
      obtain ⟨p0, p1, p2, p3, p4, p5, p6⟩ := (Elems.below HE HB0 hb).gu i hir
      have HR := Lib.hid (fun h1 => HFo.out i hir HK.out h1)
      have HS := Lib.hid (fun (hx : ¬ isG v m l[i] = true) => (show ∀ k, k < i + 1 → ∀ h : k < l.length, ¬ isG v m l[k] = true from fun k hk h => by
        by_cases e : k = i
        · subst e; exact hx
        · exact HK.out k (by omega) h))
      have hd := @isG_true v m l[i]
      clear HE
      generalize l[i] = y at *
      by_cases h1 : y.vni = v
      · by_cases h2 : y.mac = m
        · have HR1 := Lib.hid (HR.out (hd.2 ⟨h1, h2⟩))
          have hf := X0.frozen
          have hc := X0.cell
          clear HR HS hd
          go_wp2_with fail
          have HY := Lib.hid (X0.fillG HB0 (Nat.le_refl _) (.int .i64 v) (.int .i64 m) (.int .i64 y.ip) (.int .i64 y.door) (.int .i64 y.seq) (.int .i64 y.seen) (.bool y.st))
          generalize (((((((wr.setCell ⟨w.heap.size, 0, none⟩ (.int .i64 v)).setCell ⟨w.heap.size, 1, none⟩ (.int .i64 m)).setCell ⟨w.heap.size, 2, none⟩ (.int .i64 y.ip)).setCell ⟨w.heap.size, 3, none⟩ (.int .i64 y.door)).setCell ⟨w.heap.size, 4, none⟩ (.int .i64 y.seq)).setCell ⟨w.heap.size, 5, none⟩ (.int .i64 y.seen)).setCell ⟨w.heap.size, 6, none⟩ (.bool y.st)) = w9 at *
          have hc9 := HY.out.1.cell
          refine bodyPost_ret (v := .agg #[.int .i64 v, .int .i64 m, .int .i64 y.ip, .int .i64 y.door, .int .i64 y.seq, .int .i64 y.seen, .bool y.st]) (by simp [results, Try.results93, go_sem, hc9]) rfl ⟨by rw [HR1.out, Gu.val, h1, h2], HY.out.2⟩
        · have HS1 := Lib.hid (HS.out (fun e => h2 (hd.1 e).2))
          clear HR HS hd
          go_wp2_with fail
          go_roundw
          case rel => exact ⟨i + 1, by omega, by simp, HS1, Lib.hid trivial⟩
          case measure => simp [intOf]; omega
      · have HS1 := Lib.hid (HS.out (fun e => h1 (hd.1 e).1))
        clear HR HS hd
        go_wp2_with fail
        go_roundw
        case rel => exact ⟨i + 1, by omega, by simp, HS1, Lib.hid trivial⟩
        case measure => simp [intOf]; omega
    · have hin : i = n := by omega
      subst hin
      have HR1 := Lib.hid (HNo.out (fun k hk => HK.out k (by rw [HN.out]; exact hk)))
      have hf := X0.frozen
      have hc := X0.cell
      go_wp2_with fail
      have HY := Lib.hid (X0.fillG HB0 (Nat.le_refl _) (.int .i64 0) (.int .i64 0) (.int .i64 0) (.int .i64 0) (.int .i64 0) (.int .i64 0) (.bool false))
      generalize (((((((wr.setCell ⟨w.heap.size, 0, none⟩ (.int .i64 0)).setCell ⟨w.heap.size, 1, none⟩ (.int .i64 0)).setCell ⟨w.heap.size, 2, none⟩ (.int .i64 0)).setCell ⟨w.heap.size, 3, none⟩ (.int .i64 0)).setCell ⟨w.heap.size, 4, none⟩ (.int .i64 0)).setCell ⟨w.heap.size, 5, none⟩ (.int .i64 0)).setCell ⟨w.heap.size, 6, none⟩ (.bool false)) = w9 at *
      have hc9 := HY.out.1.cell
      refine bodyPost_ret (v := .agg #[.int .i64 0, .int .i64 0, .int .i64 0, .int .i64 0, .int .i64 0, .int .i64 0, .bool false]) (by simp [results, Try.results93, go_sem, hc9]) rfl ⟨by rw [HR1.out]; rfl, HY.out.2⟩
set_option maxRecDepth 100000 in
set_option maxHeartbeats 4000000 in
theorem specGuestAt_any (l : List Gu) (val : Value) (v m : Int) (w : World) (h : GusAt w val l) (hn : l.length ≤ 1048576) :
    Calls Try.prog 48 #[val, .int .i64 v, .int .i64 m] w fun e w' => e = .returned (gaOf l v m).val ∧ Below w.heap.size w w' := by
  have HG := Lib.hid (fun (W' : World) (hb : Below w.heap.size w W') => specGuestsRight_any l val W' (SlAt.kept h hb) hn)
  have HA := Lib.hid (fun (h8 : l.length ≤ 8) (W' : World) (hb : Below w.heap.size w W') => specAtIn_any l val v m W' (SlAt.kept h hb) h8)
  have HZ1 : Hid (gusOk l = true → gaOf l v m = atG l v m) := Lib.hid (fun h => by rw [gaOf, if_pos h])
  have HZ2 : Hid (gusOk l = false → gaOf l v m = Gu.zero) := Lib.hid (fun h => by rw [gaOf, if_neg (by simp [h])])
  have HL := Lib.hid (fun (h : gusOk l = true) => gusOk_len h)

  have X0 := Blk.new w 59 #[.int .i64 0, .int .i64 0, .int .i64 0, .int .i64 0, .int .i64 0, .int .i64 0, .bool false]
  have HB0 : Below w.heap.size w (w.alloc (.cells #[.int .i64 0, .int .i64 0, .int .i64 0, .int .i64 0, .int .i64 0, .int .i64 0, .bool false] 59)) := (Below.refl _ _).alloc (Nat.le_refl _) _
  unfold GrPost at HG
  obtain ⟨a, cap, rfl, _⟩ := h
  rw [List.length_map] at *
  generalize gusOk l = G at *
  generalize gaOf l v m = R at *
  generalize atG l v m = A at *
  cases G
  · have HR1 := Lib.hid (HZ2.out rfl)
    go_enter Try.func48, Try.ntmps48
    go_upto_region 1 with fail
    generalize w.alloc (.cells #[.int .i64 0, .int .i64 0, .int .i64 0, .int .i64 0, .int .i64 0, .int .i64 0, .bool false] 59) = w0 at *
    go_wp2_with fail
    refine (HG.out _ HB0).mono ?_
    rintro e w1 ⟨rfl, hb1⟩
    replace X0 := X0.kept hb1
    have HB1 := HB0.trans (hb1.mono HB0.size)
    have hf := X0.frozen
    have hc := X0.cell
    clear hb1
    go_wp2_with fail
    have HY := Lib.hid (X0.fillG HB1 (Nat.le_refl _) (.int .i64 0) (.int .i64 0) (.int .i64 0) (.int .i64 0) (.int .i64 0) (.int .i64 0) (.bool false))
    generalize (((((((w1.setCell ⟨w.heap.size, 0, none⟩ (.int .i64 0)).setCell ⟨w.heap.size, 1, none⟩ (.int .i64 0)).setCell ⟨w.heap.size, 2, none⟩ (.int .i64 0)).setCell ⟨w.heap.size, 3, none⟩ (.int .i64 0)).setCell ⟨w.heap.size, 4, none⟩ (.int .i64 0)).setCell ⟨w.heap.size, 5, none⟩ (.int .i64 0)).setCell ⟨w.heap.size, 6, none⟩ (.bool false)) = w9 at *
    have hc9 := HY.out.1.cell
    refine bodyPost_ret (v := .agg #[.int .i64 0, .int .i64 0, .int .i64 0, .int .i64 0, .int .i64 0, .int .i64 0, .bool false]) (by simp [results, Try.results48, go_sem, hc9]) rfl ⟨by rw [HR1.out]; rfl, HY.out.2⟩
  · have HR1 := Lib.hid (HZ1.out rfl)
    have HL8 := HL.out rfl
    go_enter Try.func48, Try.ntmps48
    go_upto_region 1 with fail
    generalize w.alloc (.cells #[.int .i64 0, .int .i64 0, .int .i64 0, .int .i64 0, .int .i64 0, .int .i64 0, .bool false] 59) = w0 at *
    go_wp2_with fail
    refine (HG.out _ HB0).mono ?_
    rintro e w1 ⟨rfl, hb1⟩
    replace X0 := X0.kept hb1
    have HB1 := HB0.trans (hb1.mono HB0.size)
    clear hb1
    go_wp2_with fail
    refine (HA.out HL8 _ HB1).mono ?_
    rintro e w2 ⟨rfl, hb2⟩
    replace X0 := X0.kept hb2
    have HB2 := HB1.trans (hb2.mono HB1.size)
    have hf := X0.frozen
    have hc := X0.cell
    clear hb2
    unfold Gu.val
    go_wp2_with fail
    have HY := Lib.hid (X0.fillG HB2 (Nat.le_refl _) (.int .i64 A.vni) (.int .i64 A.mac) (.int .i64 A.ip) (.int .i64 A.door) (.int .i64 A.seq) (.int .i64 A.seen) (.bool A.st))
    generalize (((((((w2.setCell ⟨w.heap.size, 0, none⟩ (.int .i64 A.vni)).setCell ⟨w.heap.size, 1, none⟩ (.int .i64 A.mac)).setCell ⟨w.heap.size, 2, none⟩ (.int .i64 A.ip)).setCell ⟨w.heap.size, 3, none⟩ (.int .i64 A.door)).setCell ⟨w.heap.size, 4, none⟩ (.int .i64 A.seq)).setCell ⟨w.heap.size, 5, none⟩ (.int .i64 A.seen)).setCell ⟨w.heap.size, 6, none⟩ (.bool A.st)) = w9 at *
    have hc9 := HY.out.1.cell
    refine bodyPost_ret (v := .agg #[.int .i64 A.vni, .int .i64 A.mac, .int .i64 A.ip, .int .i64 A.door, .int .i64 A.seq, .int .i64 A.seen, .bool A.st]) (by simp [results, Try.results48, go_sem, hc9]) rfl ⟨by rw [HR1.out]; rfl, HY.out.2⟩
set_option maxRecDepth 100000 in
set_option maxHeartbeats 4000000 in
theorem implGuestAt_any (l : List Gu) (val : Value) (v m : Int) (w : World) (h : GusAt w val l) (hn : l.length ≤ 1048576) :
    Calls Try.prog 49 #[val, .int .i64 v, .int .i64 m] w fun e w' => e = .returned (gaOf l v m).val ∧ Below w.heap.size w w' := by
  have HG := Lib.hid (fun (W' : World) (hb : Below w.heap.size w W') => implGuestsRight_any l val W' (SlAt.kept h hb) hn)
  have HA := Lib.hid (fun (h8 : l.length ≤ 8) (hp : l.Pairwise LtG) (W' : World) (hb : Below w.heap.size w W') => byNames_any l val W' (SlAt.kept h hb) h8 hp)
  have HZ1 : Hid (gusOk l = true → gaOf l v m = atG l v m) := Lib.hid (fun h => by rw [gaOf, if_pos h])
  have HZ2 : Hid (gusOk l = false → gaOf l v m = Gu.zero) := Lib.hid (fun h => by rw [gaOf, if_neg (by simp [h])])
  have HL := Lib.hid (fun (h : gusOk l = true) => gusOk_len h)
  have HP := Lib.hid (fun (h : gusOk l = true) => gusOk_pw h)
  have HAt : Hid (pickG (seekG ⟨v, m, 0, 0, 0, 0, false⟩ l.zipIdx 0) = (atG l v m).val) := Lib.hid (seek_at ⟨v, m, 0, 0, 0, 0, false⟩ l 0 0)
  unfold BnPost at HA
  have X0 := Blk.new w 59 #[.int .i64 0, .int .i64 0, .int .i64 0, .int .i64 0, .int .i64 0, .int .i64 0, .bool false]
  have HB0 : Below w.heap.size w (w.alloc (.cells #[.int .i64 0, .int .i64 0, .int .i64 0, .int .i64 0, .int .i64 0, .int .i64 0, .bool false] 59)) := (Below.refl _ _).alloc (Nat.le_refl _) _
  unfold GrPost at HG
  obtain ⟨a, cap, rfl, _⟩ := h
  rw [List.length_map] at *
  generalize gusOk l = G at *
  generalize gaOf l v m = R at *
  generalize atG l v m = A at *
  cases G
  · have HR1 := Lib.hid (HZ2.out rfl)
    go_enter Try.func49, Try.ntmps49
    go_upto_region 1 with fail
    generalize w.alloc (.cells #[.int .i64 0, .int .i64 0, .int .i64 0, .int .i64 0, .int .i64 0, .int .i64 0, .bool false] 59) = w0 at *
    go_wp2_with fail
    refine (HG.out _ HB0).mono ?_
    rintro e w1 ⟨rfl, hb1⟩
    replace X0 := X0.kept hb1
    have HB1 := HB0.trans (hb1.mono HB0.size)
    have hf := X0.frozen
    have hc := X0.cell
    clear hb1
    go_wp2_with fail
    have HY := Lib.hid (X0.fillG HB1 (Nat.le_refl _) (.int .i64 0) (.int .i64 0) (.int .i64 0) (.int .i64 0) (.int .i64 0) (.int .i64 0) (.bool false))
    generalize (((((((w1.setCell ⟨w.heap.size, 0, none⟩ (.int .i64 0)).setCell ⟨w.heap.size, 1, none⟩ (.int .i64 0)).setCell ⟨w.heap.size, 2, none⟩ (.int .i64 0)).setCell ⟨w.heap.size, 3, none⟩ (.int .i64 0)).setCell ⟨w.heap.size, 4, none⟩ (.int .i64 0)).setCell ⟨w.heap.size, 5, none⟩ (.int .i64 0)).setCell ⟨w.heap.size, 6, none⟩ (.bool false)) = w9 at *
    have hc9 := HY.out.1.cell
    refine bodyPost_ret (v := .agg #[.int .i64 0, .int .i64 0, .int .i64 0, .int .i64 0, .int .i64 0, .int .i64 0, .bool false]) (by simp [results, Try.results49, go_sem, hc9]) rfl ⟨by rw [HR1.out]; rfl, HY.out.2⟩
  · have HR1 := Lib.hid (HZ1.out rfl)
    have HL8 := HL.out rfl
    have HPW := Lib.hid (HP.out rfl)
    clear HP
    go_enter Try.func49, Try.ntmps49
    go_upto_region 1 with fail
    generalize w.alloc (.cells #[.int .i64 0, .int .i64 0, .int .i64 0, .int .i64 0, .int .i64 0, .int .i64 0, .bool false] 59) = w0 at *
    go_wp2_with fail
    refine (HG.out _ HB0).mono ?_
    rintro e w1 ⟨rfl, hb1⟩
    replace X0 := X0.kept hb1
    have HB1 := HB0.trans (hb1.mono HB0.size)
    clear hb1
    go_wp2_with fail
    refine (HA.out HL8 HPW.out _ HB1).mono ?_
    rintro e w2 ⟨M, rfl, hM, HM, hb2⟩
    replace X0 := X0.kept hb2
    have HB2 := HB1.trans (hb2.mono HB1.size)
    have hf := X0.frozen
    have hc := X0.cell
    have hlk := HM.get ⟨v, m, 0, 0, 0, 0, false⟩
    rw [HAt.out] at hlk
    unfold nameV Gu.val at hlk
    dsimp only at hlk
    clear hb2 HAt
    go_wp2_with fail
    have HY := Lib.hid (X0.fillG HB2 (Nat.le_refl _) (.int .i64 A.vni) (.int .i64 A.mac) (.int .i64 A.ip) (.int .i64 A.door) (.int .i64 A.seq) (.int .i64 A.seen) (.bool A.st))
    generalize (((((((w2.setCell ⟨w.heap.size, 0, none⟩ (.int .i64 A.vni)).setCell ⟨w.heap.size, 1, none⟩ (.int .i64 A.mac)).setCell ⟨w.heap.size, 2, none⟩ (.int .i64 A.ip)).setCell ⟨w.heap.size, 3, none⟩ (.int .i64 A.door)).setCell ⟨w.heap.size, 4, none⟩ (.int .i64 A.seq)).setCell ⟨w.heap.size, 5, none⟩ (.int .i64 A.seen)).setCell ⟨w.heap.size, 6, none⟩ (.bool A.st)) = w9 at *
    have hc9 := HY.out.1.cell
    refine bodyPost_ret (v := .agg #[.int .i64 A.vni, .int .i64 A.mac, .int .i64 A.ip, .int .i64 A.door, .int .i64 A.seq, .int .i64 A.seen, .bool A.st]) (by simp [results, Try.results49, go_sem, hc9]) rfl ⟨by rw [HR1.out]; rfl, HY.out.2⟩
end Go.Proofs.Ytmkoppbbenombaa
