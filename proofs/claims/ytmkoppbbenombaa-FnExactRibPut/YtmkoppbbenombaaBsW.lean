/- slotOf, bySlots. -/
import Derived.Test.YtmkoppbbenombaaInW
import Derived.Test.YtmkoppbbenombaaRbI
import Derived.Maps.OwnOps
namespace Go.Proofs.Ytmkoppbbenombaa
open Go.RowKit

theorem fill8 {W cur : World} {q B : Nat} {t : TypeId} {c0 c1 c2 c3 c4 c5 c6 c7 : Value} (N : Blk cur q t #[c0, c1, c2, c3, c4, c5, c6, c7]) (h : Below B W cur) (hq : B ≤ q) (v0 v1 v2 v3 v4 v5 v6 v7 : Value) :
    Blk ((((((((cur.setCell ⟨q, 0, none⟩ v0).setCell ⟨q, 1, none⟩ v1).setCell ⟨q, 2, none⟩ v2).setCell ⟨q, 3, none⟩ v3).setCell ⟨q, 4, none⟩ v4).setCell ⟨q, 5, none⟩ v5).setCell ⟨q, 6, none⟩ v6).setCell ⟨q, 7, none⟩ v7) q t #[v0, v1, v2, v3, v4, v5, v6, v7] ∧
    Below B W ((((((((cur.setCell ⟨q, 0, none⟩ v0).setCell ⟨q, 1, none⟩ v1).setCell ⟨q, 2, none⟩ v2).setCell ⟨q, 3, none⟩ v3).setCell ⟨q, 4, none⟩ v4).setCell ⟨q, 5, none⟩ v5).setCell ⟨q, 6, none⟩ v6).setCell ⟨q, 7, none⟩ v7) := by
  have h2 := (((((((N.set 0 v0).set 1 v1).set 2 v2).set 3 v3).set 4 v4).set 5 v5).set 6 v6).set 7 v7
  simp only [List.setIfInBounds_toArray, List.set_cons_zero, List.set_cons_succ] at h2
  exact ⟨h2, (((((((h.setCell hq _).setCell hq _).setCell hq _).setCell hq _).setCell hq _).setCell hq _).setCell hq _).setCell hq _⟩
set_option maxHeartbeats 2000000 in
theorem slotOf_any (x : Hd) (w : World) : Calls Try.prog 74 #[x.val] w fun e w' => e = .returned (slotV x) ∧ Below w.heap.size w w' := by
  have HK := Lib.hid (implKeyOf_any x.r.kind x.r.vni x.r.mac x.r.ip x.r.org x.r.seq x.r.st)
  unfold rtV at HK
  have X0 := Blk.new w 77 x.ar
  have N0 := Blk.new (w.alloc (.cells x.ar 77)) 91 #[.int .i64 0, .int .i64 0, .int .i64 0, .int .i64 0, .int .i64 0, .int .i64 0, .int .i64 0, .bool false]
  rw [World.size_alloc] at N0
  have S0 := And.intro (X0.alloc (.cells #[.int .i64 0, .int .i64 0, .int .i64 0, .int .i64 0, .int .i64 0, .int .i64 0, .int .i64 0, .bool false] 91)) (((Below.refl w.heap.size w).alloc (Nat.le_refl _) (.cells x.ar 77)).alloc (by simp) (.cells #[.int .i64 0, .int .i64 0, .int .i64 0, .int .i64 0, .int .i64 0, .int .i64 0, .int .i64 0, .bool false] 91))
  unfold Hd.ar at S0 N0
  unfold Hd.val slotV
  clear X0
  go_enter Try.func74, Try.ntmps74
  go_upto_region 1 with fail
  generalize (w.alloc (.cells #[.int .i64 x.p, .bool x.s, .int .i64 x.r.kind, .int .i64 x.r.vni, .int .i64 x.r.mac, .int .i64 x.r.ip, .int .i64 x.r.org, .int .i64 x.r.seq, .bool x.r.st] 77)).alloc (.cells #[.int .i64 0, .int .i64 0, .int .i64 0, .int .i64 0, .int .i64 0, .int .i64 0, .int .i64 0, .bool false] 91) = W2 at *
  replace S0 := (show Blk W2.drew _ _ _ ∧ Below w.heap.size w W2.drew from ⟨S0.1.drew, S0.2.drew⟩)
  replace N0 : Blk W2.drew _ _ _ := N0
  go_wp2_with fail
  refine wp_region_held_drew (S := fun W' => Blk W' w.heap.size 77 #[.int .i64 x.p, .bool x.s, .int .i64 x.r.kind, .int .i64 x.r.vni, .int .i64 x.r.mac, .int .i64 x.r.ip, .int .i64 x.r.org, .int .i64 x.r.seq, .bool x.r.st] ∧ Below w.heap.size w W') (by kernel_rfl) S0 (fun hHeld => ?_)
  clear hHeld
  refine wpAnyH_take (i := 0) (oi := { dst := some 3, op := Op.fieldAddr 77 (Operand.tmp 1) 0, type := 0, pos := "l06_rib.go:37", after := #[], guard := none }) (v := ?vva1) rfl (by kernel_rfl) (by kernel_rfl) (by kernel_rfl) (fun _ _ _ h => h) (Or.inl ⟨by rfl, ?hya1⟩) S0 ?resta1
  case hya1 => (intro w hSw; go_simp <;> with_reducible rfl)
  try simp only [Act.put, List.setIfInBounds_toArray, List.set_cons_zero, List.set_cons_succ]
  refine wpAnyH_take (i := 1) (oi := { dst := some 4, op := Op.load 2 (Operand.tmp 3), type := 2, pos := "l06_rib.go:37", after := #[{ on := 0, ground := Ground.data }], guard := none }) (v := ?vva2) rfl (by kernel_rfl) (by kernel_rfl) (by kernel_rfl) (fun _ _ _ h => h) (Or.inl ⟨by rfl, ?hya2⟩) S0 ?resta2
  case hya2 => (intro w hSw; have hc1 := hSw.1.cell;go_simp <;> with_reducible rfl)
  try simp only [Act.put, List.setIfInBounds_toArray, List.set_cons_zero, List.set_cons_succ]
  refine wpAnyH_take (i := 2) (oi := { dst := some 5, op := Op.fieldAddr 77 (Operand.tmp 1) 2, type := 0, pos := "l06_rib.go:37", after := #[], guard := none }) (v := ?vva3) rfl (by kernel_rfl) (by kernel_rfl) (by kernel_rfl) (fun _ _ _ h => h) (Or.inl ⟨by rfl, ?hya3⟩) S0 ?resta3
  case hya3 => (intro w hSw; go_simp <;> with_reducible rfl)
  try simp only [Act.put, List.setIfInBounds_toArray, List.set_cons_zero, List.set_cons_succ]
  refine wpAnyH_take (i := 3) (oi := { dst := some 6, op := Op.load 35 (Operand.tmp 5), type := 35, pos := "l06_rib.go:37", after := #[{ on := 2, ground := Ground.data }], guard := none }) (v := ?vva4) rfl (by kernel_rfl) (by kernel_rfl) (by kernel_rfl) (fun _ _ _ h => h) (Or.inl ⟨by rfl, ?hya4⟩) S0 ?resta4
  case hya4 => (intro w hSw; have hc1 := hSw.1.cell;go_simp <;> with_reducible rfl)
  try simp only [Act.put, List.setIfInBounds_toArray, List.set_cons_zero, List.set_cons_succ]
  refine wpAnyH_ready (rs := [4]) (by kernel_rfl) (by simp) ?_
  refine AllReadyH.cons (o := { dst := some 7, op := Op.call { callee := Callee.value (Operand.func 115), args := #[Operand.tmp 6], argTypes := #[35] }, type := 35, pos := "l06_rib.go:37", after := #[{ on := 3, ground := Ground.data }], guard := none }) rfl (fun K hK => ?_) AllReadyH.nil
  go_simp
  refine (HK.out _).mono ?_
  rintro e w1 ⟨rfl, hb1⟩
  replace N0 := N0.kept hb1
  replace S0 := (show Blk w1 _ _ _ ∧ Below w.heap.size w w1 from ⟨S0.1.kept hb1, S0.2.trans (hb1.mono S0.2.size)⟩)
  have hcN := N0.cell
  have hfN := N0.frozen
  clear hb1
  refine hK.out _ _ S0 (fun hHeld => ?_)
  clear hK K hHeld
  try simp only [Act.put, List.setIfInBounds_toArray, List.set_cons_zero, List.set_cons_succ]
  refine wpAnyH_take (i := 5) (oi := { dst := some 8, op := Op.build 91 #[(0, Operand.tmp 4), (1, Operand.tmp 7)], type := 91, pos := "l06_rib.go:37", after := #[{ on := 1, ground := Ground.data }, { on := 4, ground := Ground.data }], guard := none }) (v := ?vva5) rfl (by kernel_rfl) (by kernel_rfl) (by kernel_rfl) (fun _ _ _ h => h) (Or.inl ⟨by rfl, ?hya5⟩) S0 ?resta5
  case hya5 => (intro w hSw; go_simp <;> with_reducible rfl)
  try simp only [Act.put, List.setIfInBounds_toArray, List.set_cons_zero, List.set_cons_succ]
  refine wpAnyH_ready (rs := [6]) (by kernel_rfl) (by simp) ?_
  refine AllReadyH.cons (o := { dst := none, op := Op.store 91 (Operand.tmp 2) (Operand.tmp 8), type := 0, pos := "l06_rib.go:37", after := #[{ on := 5, ground := Ground.data }, { on := 4, ground := Ground.chain }, { on := 0, ground := Ground.phase }, { on := 1, ground := Ground.phase }, { on := 2, ground := Ground.phase }, { on := 3, ground := Ground.phase }, { on := 4, ground := Ground.phase }, { on := 5, ground := Ground.phase }], guard := none }) rfl (fun K hK => ?_) AllReadyH.nil
  go_simp
  have F8 := fill8 N0 S0.2 (by omega) (.int .i64 x.p) (.int .i64 x.r.kind) (.int .i64 x.r.vni) (.int .i64 x.r.mac) (.int .i64 0) (.int .i64 x.r.org) (.int .i64 0) (.bool false)
  replace S0 := And.intro (((((((((S0.1.far (b' := w.heap.size + 1) (i := 0) (v := .int .i64 x.p) (by omega)).far (b' := w.heap.size + 1) (i := 1) (v := .int .i64 x.r.kind) (by omega)).far (b' := w.heap.size + 1) (i := 2) (v := .int .i64 x.r.vni) (by omega)).far (b' := w.heap.size + 1) (i := 3) (v := .int .i64 x.r.mac) (by omega)).far (b' := w.heap.size + 1) (i := 4) (v := .int .i64 0) (by omega)).far (b' := w.heap.size + 1) (i := 5) (v := .int .i64 x.r.org) (by omega)).far (b' := w.heap.size + 1) (i := 6) (v := .int .i64 0) (by omega)).far (b' := w.heap.size + 1) (i := 7) (v := .bool false) (by omega))) F8.2
  clear hcN hfN
  refine hK.out _ _ S0 (fun hHeld => ?_)
  clear hK K hHeld
  try simp only [Act.put, List.setIfInBounds_toArray, List.set_cons_zero, List.set_cons_succ]
  refine wpAnyH_done (by kernel_rfl) ?_ _
  go_wp2_with fail
  have HY := Lib.hid F8
  clear F8 S0 N0
  obtain ⟨W9, hW9⟩ : ∃ X, X = (((((((w1.setCell ⟨w.heap.size + 1, 0, none⟩ (.int .i64 x.p)).setCell ⟨w.heap.size + 1, 1, none⟩ (.int .i64 x.r.kind)).setCell ⟨w.heap.size + 1, 2, none⟩ (.int .i64 x.r.vni)).setCell ⟨w.heap.size + 1, 3, none⟩ (.int .i64 x.r.mac)).setCell ⟨w.heap.size + 1, 4, none⟩ (.int .i64 0)).setCell ⟨w.heap.size + 1, 5, none⟩ (.int .i64 x.r.org)).setCell ⟨w.heap.size + 1, 6, none⟩ (.int .i64 0)).setCell ⟨w.heap.size + 1, 7, none⟩ (.bool false) := ⟨_, rfl⟩
  rw [← hW9] at HY ⊢
  clear hW9
  have hc9 := HY.out.1.cell
  refine bodyPost_ret (v := .agg #[.int .i64 x.p, .int .i64 x.r.kind, .int .i64 x.r.vni, .int .i64 x.r.mac, .int .i64 0, .int .i64 x.r.org, .int .i64 0, .bool false]) (by simp [results, Try.results74, go_sem, hc9]) rfl ⟨rfl, HY.out.2⟩
theorem seekS_of {x : Hd} : ∀ {E : List (Hd × Nat)} {i : Nat}, (∀ q ∈ E, ¬ same x q.1) → seekS x E i = none := by
  intro E
  induction E with
  | nil => intro i _; rfl
  | cons q E ih =>
    intro i h
    unfold seekS
    rw [if_neg (h q (by simp))]
    exact ih (fun q' hq => h q' (by simp [hq]))
theorem zip_snoc (l : List Hd) (i : Nat) (hi : i < l.length) : (l.take (i + 1)).zipIdx = (l.take i).zipIdx ++ [(l[i], i)] := by
  rw [List.take_succ_eq_append_getElem hi, List.zipIdx_append]
  simp [Nat.min_eq_left (Nat.le_of_lt hi)]
theorem zip_mem {l : List Hd} {q : Hd × Nat} (h : q ∈ l.zipIdx) : q.1 ∈ l := by
  have := List.mem_zipIdx h
  obtain ⟨_, _, h3⟩ := this
  rw [h3]; exact List.getElem_mem _
theorem zip_new {l : List Hd} (hl : l.Pairwise LtH) (i : Nat) (hi : i < l.length) : seekS l[i] (l.take i).zipIdx 0 = none := by
  refine seekS_of (fun q hq => ?_)
  obtain ⟨k, hk, e⟩ := List.getElem_of_mem (zip_mem hq)
  rw [List.length_take] at hk
  rw [List.getElem_take] at e
  rw [← e]
  have := List.pairwise_iff_getElem.1 hl k i (by omega) hi (by omega)
  exact fun s => lt_not_same this (same_symm s)
def BsPost (l : List Hd) (w : World) (e : Ending) (w' : World) : Prop := ∃ M, e = .returned (.map (some M)) ∧ w.heap.size ≤ M ∧ MapS w' M l.zipIdx l.length ∧ Below w.heap.size w w'
theorem Blk.setB {W : World} {b M : Nat} {t : TypeId} {vs : Array Value} (h : Blk W b t vs) (hne : b ≠ M) (o : Obj) : Blk (setM W M o) b t vs := by
  unfold Blk at h ⊢
  simp only [Array.getElem?_setIfInBounds]
  rw [if_neg (fun e => hne e.symm)]
  exact h
theorem below_setB {W cur : World} {B M : Nat} (h : Below B W cur) (hB : B ≤ M) (o : Obj) : Below B W (setM cur M o) :=
  ⟨h.os, h.tape, h.output, by have := h.size; simp; exact this, fun k hk => by
    simp only [Array.getElem?_setIfInBounds]
    rw [if_neg (by omega)]
    exact h.block k hk⟩
theorem map_made {w : World} : MapS (w.alloc (.map #[] 0)) w.heap.size (([] : List Hd).zipIdx) 0 := by
  refine ⟨?_, (fun q hq => by simp at hq), by simp, by simp⟩
  have := heap_alloc_new w (.map #[] 0)
  simpa [mkE] using this
set_option maxRecDepth 100000 in
set_option maxHeartbeats 4000000 in
theorem bySlots_any (l : List Hd) (v : Value) (w : World) (h : HdsAt w v l) (hn : l.length ≤ 60) (hl : l.Pairwise LtH) :
    Calls Try.prog 73 #[v] w (BsPost l w) := by
  unfold BsPost
  have HSk := Lib.hid (fun (i : Nat) (hi : i < l.length) => zip_new hl i hi)
  have HZs := Lib.hid (fun (i : Nat) (hi : i < l.length) => zip_snoc l i hi)
  obtain ⟨a, cap, rfl, h⟩ := h
  rw [List.length_map] at *
  have HH := Lib.hid h
  have HZ : Hid (l.zipIdx = (l.take l.length).zipIdx) := Lib.hid (by rw [List.take_length])
  clear h hl
  have hmm := @run_makeMap Try.prog
  have HM0 : Hid (MapS (w.alloc (.map #[] 0)) w.heap.size (l.take 0).zipIdx 0) := Lib.hid (by rw [List.take_zero]; exact map_made)
  obtain ⟨n, hnn⟩ : ∃ n, n = l.length := ⟨_, rfl⟩
  rw [← hnn] at hn HZ ⊢
  have HN := Lib.hid hnn
  clear hnn
  go_enter Try.func73, Try.ntmps73
  go_wp2_with fail
  go_loopw [9, 5] (fun u _ wr => ∃ i : Nat, i ≤ n ∧ u = .int .i64 (i : Int) ∧ Hid (MapS wr w.heap.size (l.take i).zipIdx i) ∧ Hid (Below w.heap.size w wr)) (fun u _ _ => n - (intOf u).toNat)
  case atStart => exact ⟨0, Nat.zero_le _, rfl, HM0, Lib.hid ((Below.refl _ _).alloc (Nat.le_refl _) _)⟩
  case round =>
    clear hmm HM0
    obtain ⟨i, hi, rfl, HM, HB⟩ := hrel
    by_cases hlt : i < n
    · have hir : i < l.length := by rw [← HN.out]; exact hlt
      have hne : l.map Hd.cl ≠ [] := fun e => by
        have := congrArg List.length e
        rw [List.length_map, ← HN.out] at this
        simp at this; omega
      obtain ⟨b, off, ha, hb, HE⟩ := HH.out hne
      subst ha
      have hl1 : (i : Int) < n := by omega
      obtain ⟨p0, p1, p2, p3, p4, p5, p6, p7, p8⟩ := (elemsB HE HB.out hb).hd i hir
      have HSi := Lib.hid (HSk.out i hir)
      have HZi := Lib.hid (HZs.out i hir)
      have HSl := Lib.hid (slotOf_any l[i])
      have S0 : Blk (wr.alloc (.cells (l[i]).ar 77)) wr.heap.size 77 (l[i]).ar ∧ Below w.heap.size w (wr.alloc (.cells (l[i]).ar 77)) := ⟨Blk.new _ _ _, HB.out.alloc HB.out.size _⟩
      have M0 : MapS (wr.alloc (.cells (l[i]).ar 77)) w.heap.size (l.take i).zipIdx i := HM.out.kept (Below.heap_alloc _ _ _ HM.out.lt)
      have hMq : w.heap.size ≠ wr.heap.size := Nat.ne_of_lt HM.out.lt
      unfold Hd.ar at S0 M0
      unfold Hd.val at HSl
      clear HE HM HB
      generalize l[i] = x at *
      generalize (l.take i).zipIdx = E at *
      go_upto_region 5 with fail
      generalize (wr.alloc (.cells #[.int .i64 x.p, .bool x.s, .int .i64 x.r.kind, .int .i64 x.r.vni, .int .i64 x.r.mac, .int .i64 x.r.ip, .int .i64 x.r.org, .int .i64 x.r.seq, .bool x.r.st] 77)) = W6 at *
      generalize wr.heap.size = q at *
      clear p0 p1 p2 p3 p4 p5 p6 p7 p8
      replace S0 := (show Blk W6.drew _ _ _ ∧ Below w.heap.size w W6.drew from ⟨S0.1.drew, S0.2.drew⟩)
      replace M0 : MapS W6.drew w.heap.size E i := M0.kept rfl
      go_wp2_with fail
      refine wp_region_held_drew (S := fun W' => Blk W' q 77 #[.int .i64 x.p, .bool x.s, .int .i64 x.r.kind, .int .i64 x.r.vni, .int .i64 x.r.mac, .int .i64 x.r.ip, .int .i64 x.r.org, .int .i64 x.r.seq, .bool x.r.st] ∧ Below w.heap.size w W') (by kernel_rfl) S0 (fun hHeld => ?_)
      clear hHeld
      refine wpAnyH_take (i := 0) (oi := { dst := some 13, op := Op.move (Operand.tmp 3), type := 88, pos := "l06_rib.go:88", after := #[], guard := none }) (v := ?vva1) rfl (by kernel_rfl) (by kernel_rfl) (by kernel_rfl) (fun _ _ _ h => h) (Or.inl ⟨by rfl, ?hya1⟩) S0 ?resta1
      case hya1 => (intro w hSw; go_simp <;> with_reducible rfl)
      try simp only [Act.put, List.setIfInBounds_toArray, List.set_cons_zero, List.set_cons_succ]
      refine wpAnyH_take (i := 1) (oi := { dst := some 14, op := Op.load 77 (Operand.tmp 5), type := 77, pos := "l06_rib.go:88", after := #[], guard := none }) (v := ?vva2) rfl (by kernel_rfl) (by kernel_rfl) (by kernel_rfl) (fun _ _ _ h => h) (Or.inl ⟨by rfl, ?hya2⟩) S0 ?resta2
      case hya2 => (intro w hSw; have hc1 := hSw.1.cell;go_simp <;> with_reducible rfl)
      try simp only [Act.put, List.setIfInBounds_toArray, List.set_cons_zero, List.set_cons_succ]
      refine wpAnyH_take (i := 3) (oi := { dst := some 16, op := Op.load 77 (Operand.tmp 5), type := 77, pos := "l06_rib.go:88", after := #[], guard := none }) (v := ?vva3) rfl (by kernel_rfl) (by kernel_rfl) (by kernel_rfl) (fun _ _ _ h => h) (Or.inl ⟨by rfl, ?hya3⟩) S0 ?resta3
      case hya3 => (intro w hSw; have hc1 := hSw.1.cell;go_simp <;> with_reducible rfl)
      try simp only [Act.put, List.setIfInBounds_toArray, List.set_cons_zero, List.set_cons_succ]
      refine wpAnyH_ready (rs := [2]) (by kernel_rfl) (by simp) ?_
      refine AllReadyH.cons (o := { dst := some 15, op := Op.call { callee := Callee.value (Operand.func 74), args := #[Operand.tmp 14], argTypes := #[77] }, type := 91, pos := "l06_rib.go:88", after := #[{ on := 1, ground := Ground.data }], guard := none }) rfl (fun K hK => ?_) AllReadyH.nil
      go_simp
      refine (HSl.out _).mono ?_
      rintro e w1 ⟨rfl, hb1⟩
      replace S0 := (show Blk w1 _ _ _ ∧ Below w.heap.size w w1 from ⟨S0.1.kept hb1, S0.2.trans (hb1.mono S0.2.size)⟩)
      replace M0 : MapS w1 w.heap.size E i := M0.kept (hb1.block _ M0.lt)
      have hmu := (M0.add HSi.out).1
      have HM1 := Lib.hid (M0.add HSi.out).2
      unfold Hd.val at hmu
      clear hb1
      refine hK.out _ _ S0 (fun hHeld => ?_)
      clear hK K hHeld
      try simp only [Act.put, List.setIfInBounds_toArray, List.set_cons_zero, List.set_cons_succ]
      refine wpAnyH_ready (rs := [4]) (by kernel_rfl) (by simp) ?_
      refine AllReadyH.cons (o := { dst := none, op := Op.mapUpdate 88 (Operand.tmp 13) (Operand.tmp 15) (Operand.tmp 16), type := 0, pos := "l06_rib.go:88", after := #[{ on := 0, ground := Ground.data }, { on := 2, ground := Ground.data }, { on := 3, ground := Ground.data }, { on := 2, ground := Ground.chain }, { on := 0, ground := Ground.phase }, { on := 1, ground := Ground.phase }, { on := 2, ground := Ground.phase }, { on := 3, ground := Ground.phase }], guard := none }) rfl (fun K hK => ?_) AllReadyH.nil
      go_simp
      replace S0 := And.intro (S0.1.setB hMq.symm (.map (mkE (E ++ [(x, i)])).toArray (i + 1))) (below_setB S0.2 (Nat.le_refl _) (.map (mkE (E ++ [(x, i)])).toArray (i + 1)))
      refine hK.out _ _ S0 (fun hHeld => ?_)
      clear hK K hHeld
      try simp only [Act.put, List.setIfInBounds_toArray, List.set_cons_zero, List.set_cons_succ]
      refine wpAnyH_done (by kernel_rfl) ?_ _
      go_wp2_with fail
      go_roundw
      case rel => exact ⟨i + 1, by omega, by simp, by rw [HZi.out]; exact HM1, Lib.hid S0.2⟩
      case measure => simp [intOf]; omega
    · have hin : i = n := by omega
      subst hin
      go_wp2_with fail
      go_ret
      exact ⟨_, rfl, Nat.le_refl _, by rw [HZ.out]; exact HM.out, HB.out⟩
end Go.Proofs.Ytmkoppbbenombaa
