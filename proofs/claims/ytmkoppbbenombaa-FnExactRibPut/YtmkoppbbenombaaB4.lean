import Derived.Test.YtmkoppbbenombaaB1
import Derived.Deep.RegionHeld
import Derived.Handy
import Derived.Test.YtmkoppbbenombaaB3
import Derived.Deep.Slices
import Derived.Deep.RegionHeld3
import Derived.OwnWalk
/- A block of memory that is known as a whole: its cells, its type; what leaves it as it was. -/
namespace Go.Proofs.Ytmkoppbbenombaa
open Go.RowKit

def Blk (W : World) (b : Nat) (t : TypeId) (vs : Array Value) : Prop := W.heap[b]? = some (.cells vs t (0, 0))
section
variable {W W' : World} {b : Nat} {t : TypeId} {vs : Array Value}
theorem Blk.lt (h : Blk W b t vs) : b < W.heap.size := by
  rcases Nat.lt_or_ge b W.heap.size with hl | hl
  · exact hl
  · unfold Blk at h; rw [Array.getElem?_eq_none hl] at h; cases h
theorem Blk.cell (h : Blk W b t vs) (o : Nat) : W.cell? ⟨b, o, none⟩ = vs[o]? := by unfold Blk at h; simp [World.cell?, h]
theorem Blk.frozen (h : Blk W b t vs) (o : Nat) : W.frozen? ⟨b, o, none⟩ = false := by unfold Blk at h; simp [World.frozen?, h]
theorem Blk.below {B : Nat} (h : Blk W b t vs) (hb : Below B W W') (hg : b < B) : Blk W' b t vs := (hb.block b hg).trans h
theorem Blk.kept (h : Blk W b t vs) (hb : Below W.heap.size W W') : Blk W' b t vs := (hb.block b h.lt).trans h
theorem Blk.grown {row : Option Nat} (h : Blk W b t vs) (hb : W.grownBy W' row) (hg : some b ≠ row) : Blk W' b t vs := (hb.block b h.lt hg).trans h
theorem Blk.alloc (h : Blk W b t vs) (o : Obj) : Blk (W.alloc o) b t vs := (Below.heap_alloc W o b h.lt).trans h
theorem Blk.drew (h : Blk W b t vs) : Blk W.drew b t vs := h
theorem Blk.new (W : World) (t : TypeId) (vs : Array Value) : Blk (W.alloc (.cells vs t)) W.heap.size t vs := heap_alloc_new W _
theorem Blk.set (h : Blk W b t vs) (i : Nat) (v : Value) : Blk (W.setCell ⟨b, i, none⟩ v) b t (vs.setIfInBounds i v) := heap_setCell_same W b i _ _ _ h
theorem Blk.far {b' i : Nat} {v : Value} (h : Blk W b t vs) (hne : b ≠ b') : Blk (W.setCell ⟨b', i, none⟩ v) b t vs := (Below.heap_setCell W _ _ b hne).trans h
end
theorem below_grown' {w w' : World} {row : Option Nat} (h : Below w.heap.size w w') : w.grownBy w' row := ⟨h.os, h.tape, h.output, h.size, fun k hk _ => h.block k hk⟩
end Go.Proofs.Ytmkoppbbenombaa

/- Slices whose elements are structs of several cells: read, kept. -/
namespace Go.Proofs.Ytmkoppbbenombaa
open Go.RowKit Go.WideShapes Go.ChangeShapes

/- the elements lie one behind the other, sz cells each -/
def Elems (W : World) (b off sz : Nat) (vs : List (List Value)) : Prop := ∀ i cs, vs[i]? = some cs → ∀ j u, cs[j]? = some u → W.cell? ⟨b, off + i * sz + j, none⟩ = some u
def SlAt (W : World) (sz : Nat) (v : Value) (vs : List (List Value)) : Prop := ∃ a cap, v = .slice a vs.length cap ∧ (vs ≠ [] → ∃ b off, a = some ⟨b, off, none⟩ ∧ b < W.heap.size ∧ Elems W b off sz vs)
theorem Elems.kept {W W' : World} {b off sz : Nat} {vs : List (List Value)} (h : Elems W b off sz vs) (hb : Below W.heap.size W W') (hl : b < W.heap.size) : Elems W' b off sz vs :=
  fun i cs hi j u hj => (hb.cell (p := ⟨b, off + i * sz + j, none⟩) hl).trans (h i cs hi j u hj)
theorem SlAt.kept {W W' : World} {sz : Nat} {v : Value} {vs : List (List Value)} (h : SlAt W sz v vs) (hb : Below W.heap.size W W') : SlAt W' sz v vs := by
  obtain ⟨a, cap, rfl, h⟩ := h
  refine ⟨a, cap, rfl, fun hne => ?_⟩
  obtain ⟨b, off, e, hl, he⟩ := h hne
  exact ⟨b, off, e, Nat.lt_of_lt_of_le hl hb.size, he.kept hb hl⟩
theorem SlAt.alloc {W : World} {sz : Nat} {v : Value} {vs : List (List Value)} (h : SlAt W sz v vs) (o : Obj) : SlAt (W.alloc o) sz v vs := h.kept ((Below.refl _ _).alloc (Nat.le_refl _) o)

section
variable {H : Type} {enc : TypeId × Value → H} {P : Program} {w : World} {base : Nat} {sp : Nat → Bool} {held : Bool}
/- an argument that is a slice of structs: its elements, each with a reading of its cells -/
theorem slice_open {r : Reach} {b0 : Nat} {t e : TypeId} {v : Value} {d : DataW H} {p : List MemPlace} (sz : Nat) (hs0 : 0 < sz) (ht : P.underlying t = some (.slice e)) (hsz : P.cellsOf e = sz) (o : Value.okWide P w r b0 t v) (h : DataW.Trod enc P w base sp held t v d p) :
    ∃ vs : List (List Value), SlAt w sz v vs ∧ vs.length ≤ maxLen ∧ ∀ cs ∈ vs, cs.length = sz ∧ Reads enc P w base sp held e cs := by
  obtain ⟨a0, len, cap, rfl⟩ := okWide_slice ht o
  obtain ⟨fuel, hf⟩ := h
  rcases Deep.open_slice ht hf with ⟨h0, _⟩ | ⟨a, len', cap', m, n, D, Pl, hcs, hb, hl, hm, hmm, _, hx⟩
  · injection h0 with h0
    injection h0 with _ h1 _
    subst h1
    exact ⟨[], ⟨a0, cap, rfl, fun h => absurd rfl h⟩, Nat.zero_le _, fun cs h => by cases h⟩
  · injection hcs with hcs
    injection hcs with h1 h2 h3
    subst h1 h2 h3
    have hlm : len ≤ m := by rw [hmm]; split <;> omega
    rw [hsz] at hx
    obtain ⟨V, hV⟩ := Deep.choose_lt (α := List Value) (p := fun i cs => w.cells? base (a.add (i * sz)) sz = some cs ∧ DataW.trod enc P w base sp held n e cs = some (D i, Pl i)) (fun i (hi : i < len) => hx i (by omega))
    refine ⟨(List.range len).map V, ⟨some a, cap, by simp, fun hne => ?_⟩, by simp; omega, fun cs hc => ?_⟩
    · have hpos : 0 < len := by
        rcases Nat.eq_zero_or_pos len with h | h
        · subst h; exact absurd rfl hne
        · exact h
      have hcell : ∀ i, i < len → ∀ j, j < sz → w.cell? ((a.add (i * sz)).add j) = (V i)[j]? := fun i hi => (World.cells?_some (hV i hi).1).2.2
      have hlen : ∀ i, i < len → (V i).length = sz := fun i hi => (World.cells?_some (hV i hi).1).2.1
      have h00 : w.cell? a = some ((V 0)[0]'(by rw [hlen 0 hpos]; exact hs0)) := by
        have := hcell 0 hpos 0 hs0
        rw [List.getElem?_eq_getElem (by rw [hlen 0 hpos]; exact hs0)] at this
        simpa [Addr.add] using this
      have hsp := World.cell?_spot h00
      obtain ⟨b, off, spot⟩ := a
      dsimp only at hsp
      subst hsp
      refine ⟨b, off, rfl, World.block_lt_of_cell? w _ h00, fun i cs hi j u hj => ?_⟩
      have hi' : i < len := by
        have := (List.getElem?_eq_some_iff.1 hi).1
        simpa using this
      have hcs : cs = V i := by
        rw [List.getElem?_map, List.getElem?_range hi'] at hi
        simpa using hi.symm
      subst hcs
      have hj' : j < sz := by have := (List.getElem?_eq_some_iff.1 hj).1; rw [hlen i hi'] at this; exact this
      rw [← hj, ← hcell i hi' j hj']
      simp only [Addr.add]
      by_cases h1 : i * sz = 0
      · by_cases h2 : j = 0
        · simp [h1, h2]
        · simp [h1, h2]
      · by_cases h2 : j = 0
        · simp [h1, h2]
        · simp [h1, h2]
    · obtain ⟨i, hi, rfl⟩ := List.mem_map.1 hc
      obtain ⟨h1, h2⟩ := hV i (by simpa using hi)
      obtain ⟨_, hlen, _⟩ := World.cells?_some h1
      exact ⟨hlen, n, _, h2⟩
end
end Go.Proofs.Ytmkoppbbenombaa

/- Slices of routes: a law's own turned into the program's; two that hold the same are found equal. -/
namespace Go.Proofs.Ytmkoppbbenombaa
open Go.RowKit

def Rt.cl (r : Rt) : List Value := [.int .i64 r.kind, .int .i64 r.vni, .int .i64 r.mac, .int .i64 r.ip, .int .i64 r.org, .int .i64 r.seq, .bool r.st]
abbrev RtsAt (W : World) (v : Value) (rs : List Rt) : Prop := SlAt W 7 v (rs.map Rt.cl)
/- the cells of one of them -/
theorem Elems.rt {W : World} {b off : Nat} {rs : List Rt} (h : Elems W b off 7 (rs.map Rt.cl)) (i : Nat) (hi : i < rs.length) :
    W.cell? ⟨b, off + i * 7, none⟩ = some (.int .i64 (rs[i]).kind) ∧ W.cell? ⟨b, off + i * 7 + 1, none⟩ = some (.int .i64 (rs[i]).vni) ∧ W.cell? ⟨b, off + i * 7 + 2, none⟩ = some (.int .i64 (rs[i]).mac) ∧
    W.cell? ⟨b, off + i * 7 + 3, none⟩ = some (.int .i64 (rs[i]).ip) ∧ W.cell? ⟨b, off + i * 7 + 4, none⟩ = some (.int .i64 (rs[i]).org) ∧ W.cell? ⟨b, off + i * 7 + 5, none⟩ = some (.int .i64 (rs[i]).seq) ∧ W.cell? ⟨b, off + i * 7 + 6, none⟩ = some (.bool (rs[i]).st) := by
  have k := h i (rs[i]).cl (by rw [List.getElem?_map, List.getElem?_eq_getElem hi]; rfl)
  exact ⟨k 0 _ rfl, k 1 _ rfl, k 2 _ rfl, k 3 _ rfl, k 4 _ rfl, k 5 _ rfl, k 6 _ rfl⟩
theorem Elems.below {W W' : World} {b off sz B : Nat} {vs : List (List Value)} (h : Elems W b off sz vs) (hb : Below B W W') (hl : b < B) : Elems W' b off sz vs :=
  fun i cs hi j u hj => (hb.cell (p := ⟨b, off + i * sz + j, none⟩) hl).trans (h i cs hi j u hj)
set_option maxHeartbeats 2000000 in
theorem eqRouteS_same (rs : List Rt) (v v' : Value) (w : World) (h : RtsAt w v rs) (h' : RtsAt w v' rs) (hn : rs.length ≤ 1048576) :
    Calls Try.prog 35 #[v, v'] w fun e w' => e = .returned (.bool true) ∧ Below w.heap.size w w' := by
  obtain ⟨a, cap, rfl, h⟩ := h
  obtain ⟨a', cap', rfl, h'⟩ := h'
  rw [List.length_map] at *
  have HH := Lib.hid h
  have HH' := Lib.hid h'
  clear h h'
  obtain ⟨n, hnn⟩ : ∃ n, n = rs.length := ⟨_, rfl⟩
  rw [← hnn] at hn ⊢
  have HN := Lib.hid hnn
  clear hnn
  go_enter Try.func35, Try.ntmps35
  go_wp2_with fail
  go_loopw [5] (fun u wr => ∃ i : Nat, i ≤ n ∧ u = .int .i64 (i : Int) ∧ Hid (Below w.heap.size w wr)) (fun u _ => n - (intOf u).toNat)
  case atStart => exact ⟨0, Nat.zero_le _, rfl, Lib.hid (Below.refl _ _)⟩
  case round =>
    obtain ⟨i, hi, rfl, HB⟩ := hrel
    by_cases hlt : i < n
    · have hne : rs.map Rt.cl ≠ [] := fun e => by
        have := congrArg List.length e
        rw [List.length_map, ← HN.out] at this
        simp at this; omega
      obtain ⟨b, off, ha, hb, HE⟩ := HH.out hne
      obtain ⟨b', off', ha', hb', HE'⟩ := HH'.out hne
      subst ha ha'
      have hir : i < rs.length := by rw [← HN.out]; exact hlt
      have hl1 : (i : Int) < n := by omega
      have HQ := Lib.hid (eqRoute_same (rs[i]).kind (rs[i]).vni (rs[i]).mac (rs[i]).ip (rs[i]).org (rs[i]).seq (rs[i]).st)
      have S0 : Below w.heap.size w wr.drew := HB.out.drew
      go_wp2_with fail
      refine wp_region_held_drew (S := fun W' => Below w.heap.size w W') (by kernel_rfl) S0 (fun hHeld => ?_)
      clear hHeld
      refine wpAnyH_take (i := 0) (oi := { dst := some 17, op := Op.move (Operand.tmp 0), type := 31, pos := "exact.go:377", after := #[], guard := none }) (v := ?vva1) rfl (by kernel_rfl) (by kernel_rfl) (by kernel_rfl) (fun _ _ _ h => h) (Or.inl ⟨by rfl, ?hya1⟩) S0 ?resta1
      case hya1 => (intro w hSw; go_simp <;> with_reducible rfl)
      try simp only [Act.put, List.setIfInBounds_toArray, List.set_cons_zero, List.set_cons_succ]
      refine wpAnyH_take (i := 1) (oi := { dst := some 18, op := Op.move (Operand.tmp 5), type := 3, pos := "exact.go:377", after := #[], guard := none }) (v := ?vva2) rfl (by kernel_rfl) (by kernel_rfl) (by kernel_rfl) (fun _ _ _ h => h) (Or.inl ⟨by rfl, ?hya2⟩) S0 ?resta2
      case hya2 => (intro w hSw; go_simp <;> with_reducible rfl)
      try simp only [Act.put, List.setIfInBounds_toArray, List.set_cons_zero, List.set_cons_succ]
      refine wpAnyH_take (i := 2) (oi := { dst := some 19, op := Op.indexAddr 31 (Operand.tmp 17) (Operand.tmp 18), type := 0, pos := "exact.go:377", after := #[{ on := 0, ground := Ground.data }, { on := 1, ground := Ground.data }], guard := none }) (v := ?vva3) rfl (by kernel_rfl) (by kernel_rfl) (by kernel_rfl) (fun _ _ _ h => h) (Or.inl ⟨by rfl, ?hya3⟩) S0 ?resta3
      case hya3 => (intro w hSw; go_simp <;> with_reducible rfl)
      try simp only [Act.put, List.setIfInBounds_toArray, List.set_cons_zero, List.set_cons_succ]
      refine wpAnyH_take (i := 3) (oi := { dst := some 20, op := Op.load 35 (Operand.tmp 19), type := 35, pos := "exact.go:377", after := #[{ on := 2, ground := Ground.data }], guard := none }) (v := ?vva4) rfl (by kernel_rfl) (by kernel_rfl) (by kernel_rfl) (fun _ _ _ h => h) (Or.inl ⟨by rfl, ?hya4⟩) S0 ?resta4
      case hya4 => (intro w hSw; obtain ⟨p0, p1, p2, p3, p4, p5, p6⟩ := (HE.below hSw hb).rt i hir; obtain ⟨q0, q1, q2, q3, q4, q5, q6⟩ := (HE'.below hSw hb').rt i hir;go_simp <;> with_reducible rfl)
      try simp only [Act.put, List.setIfInBounds_toArray, List.set_cons_zero, List.set_cons_succ]
      refine wpAnyH_take (i := 4) (oi := { dst := some 21, op := Op.move (Operand.tmp 1), type := 31, pos := "exact.go:377", after := #[], guard := none }) (v := ?vva5) rfl (by kernel_rfl) (by kernel_rfl) (by kernel_rfl) (fun _ _ _ h => h) (Or.inl ⟨by rfl, ?hya5⟩) S0 ?resta5
      case hya5 => (intro w hSw; go_simp <;> with_reducible rfl)
      try simp only [Act.put, List.setIfInBounds_toArray, List.set_cons_zero, List.set_cons_succ]
      refine wpAnyH_take (i := 5) (oi := { dst := some 22, op := Op.move (Operand.tmp 5), type := 3, pos := "exact.go:377", after := #[], guard := none }) (v := ?vva6) rfl (by kernel_rfl) (by kernel_rfl) (by kernel_rfl) (fun _ _ _ h => h) (Or.inl ⟨by rfl, ?hya6⟩) S0 ?resta6
      case hya6 => (intro w hSw; go_simp <;> with_reducible rfl)
      try simp only [Act.put, List.setIfInBounds_toArray, List.set_cons_zero, List.set_cons_succ]
      refine wpAnyH_take (i := 6) (oi := { dst := some 23, op := Op.indexAddr 31 (Operand.tmp 21) (Operand.tmp 22), type := 0, pos := "exact.go:377", after := #[{ on := 4, ground := Ground.data }, { on := 5, ground := Ground.data }], guard := none }) (v := ?vva7) rfl (by kernel_rfl) (by kernel_rfl) (by kernel_rfl) (fun _ _ _ h => h) (Or.inl ⟨by rfl, ?hya7⟩) S0 ?resta7
      case hya7 => (intro w hSw; go_simp <;> with_reducible rfl)
      try simp only [Act.put, List.setIfInBounds_toArray, List.set_cons_zero, List.set_cons_succ]
      refine wpAnyH_take (i := 7) (oi := { dst := some 24, op := Op.load 35 (Operand.tmp 23), type := 35, pos := "exact.go:377", after := #[{ on := 6, ground := Ground.data }], guard := none }) (v := ?vva8) rfl (by kernel_rfl) (by kernel_rfl) (by kernel_rfl) (fun _ _ _ h => h) (Or.inl ⟨by rfl, ?hya8⟩) S0 ?resta8
      case hya8 => (intro w hSw; obtain ⟨p0, p1, p2, p3, p4, p5, p6⟩ := (HE.below hSw hb).rt i hir; obtain ⟨q0, q1, q2, q3, q4, q5, q6⟩ := (HE'.below hSw hb').rt i hir;go_simp <;> with_reducible rfl)
      try simp only [Act.put, List.setIfInBounds_toArray, List.set_cons_zero, List.set_cons_succ]
      refine wpAnyH_ready (rs := [8]) (by kernel_rfl) (by simp) ?_
      refine AllReadyH.cons (o := { dst := some 25, op := Op.call { callee := Callee.value (Operand.func 82), args := #[Operand.tmp 20, Operand.tmp 24], argTypes := #[35, 35] }, type := 4, pos := "exact.go:377", after := #[{ on := 3, ground := Ground.data }, { on := 7, ground := Ground.data }], guard := none }) rfl (fun K hK => ?_) AllReadyH.nil
      go_simp
      refine (HQ.out _).mono ?_
      rintro e w1 ⟨rfl, hb1⟩
      replace S0 := S0.trans (hb1.mono S0.size)
      clear hb1
      refine hK.out _ _ S0 (fun hHeld => ?_)
      clear hK K hHeld
      try simp only [Act.put, List.setIfInBounds_toArray, List.set_cons_zero, List.set_cons_succ]
      refine wpAnyH_take (i := 9) (oi := { dst := some 26, op := Op.unOp UnOp.not 4 (Operand.tmp 25), type := 4, pos := "exact.go:377", after := #[{ on := 8, ground := Ground.data }], guard := none }) (v := ?vva9) rfl (by kernel_rfl) (by kernel_rfl) (by kernel_rfl) (fun _ _ _ h => h) (Or.inl ⟨by rfl, ?hya9⟩) S0 ?resta9
      case hya9 => (intro w hSw; go_simp <;> with_reducible rfl)
      try simp only [Act.put, List.setIfInBounds_toArray, List.set_cons_zero, List.set_cons_succ]
      refine wpAnyH_done (by kernel_rfl) ?_ _
      go_wp2_with fail
      go_roundw
      case rel => exact ⟨i + 1, by omega, by simp, Lib.hid S0⟩
      case measure => simp [intOf]; omega
    · have : i = n := by omega
      subst this
      go_wp2_with fail
      go_ret
      exact ⟨rfl, HB.out⟩

/- a row of routes that is being filled: the first i are there -/
def Filling (W : World) (g n : Nat) (t : TypeId) (rs : List Rt) (i : Nat) : Prop := ∃ cur, Blk W g t cur ∧ cur.size = n * 7 ∧ ∀ k, k < i → ∀ (hk : k < rs.length) j, j < 7 → cur[k * 7 + j]? = (rs[k]).cl[j]?
theorem Filling.kept {W W' : World} {g n i : Nat} {t : TypeId} {rs : List Rt} (h : Filling W g n t rs i) (hb : Below W.heap.size W W') : Filling W' g n t rs i := by
  obtain ⟨cur, h1, h2, h3⟩ := h
  exact ⟨cur, h1.kept hb, h2, h3⟩
theorem Filling.cell {W : World} {g n i : Nat} {t : TypeId} {rs : List Rt} (h : Filling W g n t rs i) (hi : i < n) (j : Nat) (hj : j < 7) : ∃ z, W.cell? ⟨g, i * 7 + j, none⟩ = some z := by
  obtain ⟨cur, h1, h2, h3⟩ := h
  rw [h1.cell]
  exact ⟨cur[i * 7 + j]'(by omega), Array.getElem?_eq_getElem _⟩
theorem Filling.frozen {W : World} {g n i : Nat} {t : TypeId} {rs : List Rt} (h : Filling W g n t rs i) (o : Nat) : W.frozen? ⟨g, o, none⟩ = false := by
  obtain ⟨cur, h1, _⟩ := h
  exact h1.frozen o
theorem Filling.lt {W : World} {g n i : Nat} {t : TypeId} {rs : List Rt} (h : Filling W g n t rs i) : g < W.heap.size := by
  obtain ⟨cur, h1, _⟩ := h
  exact h1.lt
theorem Filling.step {W : World} {g n i : Nat} {t : TypeId} {rs : List Rt} (h : Filling W g n t rs i) (hi : i < n) (hr : i < rs.length) :
    Filling (((((((W.setCell ⟨g, i * 7, none⟩ (.int .i64 (rs[i]).kind)).setCell ⟨g, i * 7 + 1, none⟩ (.int .i64 (rs[i]).vni)).setCell ⟨g, i * 7 + 2, none⟩ (.int .i64 (rs[i]).mac)).setCell ⟨g, i * 7 + 3, none⟩ (.int .i64 (rs[i]).ip)).setCell ⟨g, i * 7 + 4, none⟩ (.int .i64 (rs[i]).org)).setCell ⟨g, i * 7 + 5, none⟩ (.int .i64 (rs[i]).seq)).setCell ⟨g, i * 7 + 6, none⟩ (.bool (rs[i]).st)) g n t rs (i + 1) := by
  obtain ⟨cur, h1, h2, h3⟩ := h
  refine ⟨_, ((((((h1.set _ _).set _ _).set _ _).set _ _).set _ _).set _ _).set _ _, by simp [h2], fun k hk hkr j hj => ?_⟩
  by_cases hki : k = i
  · subst hki
    have hc : j = 0 ∨ j = 1 ∨ j = 2 ∨ j = 3 ∨ j = 4 ∨ j = 5 ∨ j = 6 := by omega
    rcases hc with rfl | rfl | rfl | rfl | rfl | rfl | rfl
    all_goals
      simp only [Array.getElem?_setIfInBounds, Array.size_setIfInBounds, h2]
      simp [Rt.cl]
      try omega
  · rw [← h3 k (by omega) hkr j hj]
    rw [Array.getElem?_setIfInBounds_ne (by omega), Array.getElem?_setIfInBounds_ne (by omega), Array.getElem?_setIfInBounds_ne (by omega), Array.getElem?_setIfInBounds_ne (by omega), Array.getElem?_setIfInBounds_ne (by omega), Array.getElem?_setIfInBounds_ne (by omega), Array.getElem?_setIfInBounds_ne (by omega)]
theorem Filling.done {W : World} {g n : Nat} {t : TypeId} {rs : List Rt} (h : Filling W g n t rs n) (hn : rs.length = n) : RtsAt W (.slice (some ⟨g, 0, none⟩) n n) rs := by
  obtain ⟨cur, h1, h2, h3⟩ := h
  refine ⟨some ⟨g, 0, none⟩, n, by rw [List.length_map, hn], fun _ => ⟨g, 0, rfl, h1.lt, fun i cs hi j u hj => ?_⟩⟩
  have hir : i < rs.length := by have := (List.getElem?_eq_some_iff.1 hi).1; simpa using this
  have hcs : cs = (rs[i]).cl := by rw [List.getElem?_map, List.getElem?_eq_getElem hir] at hi; simpa using hi.symm
  subst hcs
  have hj7 : j < 7 := by have := (List.getElem?_eq_some_iff.1 hj).1; simpa [Rt.cl] using this
  rw [h1.cell, Nat.zero_add, h3 i (by omega) hir j hj7, hj]
end Go.Proofs.Ytmkoppbbenombaa

/- A law's own slice of routes turned into the program's. -/
namespace Go.Proofs.Ytmkoppbbenombaa
open Go.RowKit

theorem info_rt : (Try.prog.info? 35).map (fun i => (i.zero, i.size, i.bytes)) = some (some (.agg #[.int .i64 0, .int .i64 0, .int .i64 0, .int .i64 0, .int .i64 0, .int .i64 0, .bool false]), 7, 56) := by kernel_rfl
theorem made_fills {w w' : World} {n : Nat} {t : TypeId} {rs : List Rt} {z : List Value} (h : w'.ownsRow w.heap.size t 7 (.slice (some ⟨w.heap.size, 0, none⟩) n n) n z) : Filling w' w.heap.size n t rs 0 := by
  obtain ⟨_, ⟨h1, _⟩ | ⟨g, cap, cur, hv, _, hh, _, _, hz, _⟩⟩ := h
  · cases h1
  · injection hv with h1 _ h2
    injection h1 with h1
    injection h1 with h1
    subst h1 h2
    exact ⟨cur, hh, hz, fun k hk => by omega⟩
def RtsPost (rs : List Rt) (w : World) (e : Ending) (w' : World) : Prop := ∃ v, e = .returned v ∧ RtsAt w' v rs ∧ Below w.heap.size w w'
end Go.Proofs.Ytmkoppbbenombaa
