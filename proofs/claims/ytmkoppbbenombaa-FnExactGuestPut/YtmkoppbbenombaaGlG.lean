/- guestList. -/
import Derived.Test.YtmkoppbbenombaaSoG
namespace Go.Proofs.Ytmkoppbbenombaa
open Go.RowKit

theorem ltN_nm (a b : Gu) : LtN (nmOf a) (nmOf b) ↔ LtG a b := Iff.rfl
theorem ltN_irrefl (x : Nm) : ¬ LtN x x := by unfold LtN; omega
theorem sortedN_eq : ∀ {a b : List Nm}, a.Pairwise LtN → b.Pairwise LtN → (∀ y, y ∈ a ↔ y ∈ b) → a = b := by
  intro a
  induction a with
  | nil =>
    intro b _ _ h
    cases b with
    | nil => rfl
    | cons y b => exact absurd ((h y).2 (by simp)) (by simp)
  | cons x a ih =>
    intro b ha hb h
    obtain ⟨hx, ha⟩ := List.pairwise_cons.1 ha
    cases b with
    | nil => exact absurd ((h x).1 (by simp)) (by simp)
    | cons y b =>
      obtain ⟨hy, hb'⟩ := List.pairwise_cons.1 hb
      have hxy : x = y := by
        have h1 := (h x).1 (by simp)
        have h2 := (h y).2 (by simp)
        rcases List.mem_cons.1 h1 with e | h1
        · exact e
        · rcases List.mem_cons.1 h2 with e | h2
          · exact e.symm
          · exact absurd (LtN.trans (hy x h1) (hx y h2)) (ltN_irrefl _)
      subst hxy
      have hab : a = b := ih ha hb' (fun z => by
        constructor
        · intro hz
          rcases List.mem_cons.1 ((h z).1 (List.mem_cons_of_mem _ hz)) with e | k
          · subst e; exact absurd (hx z hz) (ltN_irrefl _)
          · exact k
        · intro hz
          rcases List.mem_cons.1 ((h z).2 (List.mem_cons_of_mem _ hz)) with e | k
          · subst e; exact absurd (hy z hz) (ltN_irrefl _)
          · exact k)
      rw [hab]
theorem names_eq {E : List (Gu × Nat)} {l : List Gu} {xs : List Nm} (hl : l.Pairwise LtG) (hmem : ∀ y, y ∈ l ↔ ∃ b, (y, b) ∈ E) (hs : xs.Pairwise LtN) (hx : ∀ x, x ∈ xs ↔ ∃ q ∈ E, nmOf q.1 = x) : xs = l.map nmOf := by
  refine sortedN_eq hs (List.pairwise_map.2 (hl.imp (fun h => h))) (fun x => ?_)
  rw [hx x, List.mem_map]
  constructor
  · rintro ⟨q, hq, e⟩; exact ⟨q.1, (hmem q.1).2 ⟨q.2, hq⟩, e⟩
  · rintro ⟨y, hy, e⟩
    obtain ⟨b, hb⟩ := (hmem y).1 hy
    exact ⟨(y, b), hb, e⟩
theorem same_eqG {l : List Gu} (hl : l.Pairwise LtG) {a b : Gu} (ha : a ∈ l) (hb : b ∈ l) (hs : sameG a b) : a = b := by
  obtain ⟨i, hi, rfl⟩ := List.getElem_of_mem ha
  obtain ⟨j, hj, rfl⟩ := List.getElem_of_mem hb
  have hp := List.pairwise_iff_getElem.1 hl
  rcases Nat.lt_trichotomy i j with h | h | h
  · exact absurd hs (ltG_not_same (hp i j hi hj h))
  · subst h; rfl
  · exact absurd (sameG_symm hs) (ltG_not_same (hp j i hj hi h))
theorem look_at {E : List (Gu × Nat)} {l : List Gu} (hl : l.Pairwise LtG) (hmem : ∀ y, y ∈ l ↔ ∃ b, (y, b) ∈ E) (g : Gu) (hg : g ∈ l) : pickG (seekG ⟨g.vni, g.mac, 0, 0, 0, 0, false⟩ E 0) = g.val := by
  cases hs : seekG ⟨g.vni, g.mac, 0, 0, 0, 0, false⟩ E 0 with
  | none =>
    obtain ⟨b, hb⟩ := (hmem g).1 hg
    exact absurd ⟨rfl, rfl⟩ (seekG_none hs _ hb)
  | some p =>
    obtain ⟨i, v⟩ := p
    obtain ⟨m, q, _, hq, hsm, rfl⟩ := seekG_some hs
    have hql : q.1 ∈ l := (hmem q.1).2 ⟨q.2, List.mem_of_getElem? hq⟩
    have : q.1 = g := same_eqG hl hql hg ⟨hsm.1.symm, hsm.2.symm⟩
    rw [this]; rfl
/- the loop's memory -/
structure GlAt (w wr : World) (M clock : Nat) (E : List (Gu × Nat)) (g cap : Nat) (l : List Gu) (y : Value) (out : List Gu) : Prop where
  nms : wr.ownsRow w.heap.size 106 2 (.slice (some ⟨g, 0, none⟩) l.length cap) l.length (rcells Nm.cl (l.map nmOf))
  row : wr.ownsRow w.heap.size 59 7 y out.length (rcells Gu.cl out)
  map : MapG wr M E clock
  bel : Below w.heap.size w wr
  low : M < w.heap.size
section
variable {w wr w5 : World} {M clock g cap : Nat} {E : List (Gu × Nat)} {l out : List Gu} {y : Value} {x : Gu} {o : Obj} {a5 : Option Addr} {n5 c5 : Nat}
theorem GlAt.kept (h : GlAt w wr M clock E g cap l y out) (hb : Below wr.heap.size wr w5) : GlAt w w5 M clock E g cap l y out :=
  ⟨rown_below h.nms hb, rown_below h.row hb, h.map.kept (hb.block _ h.map.lt), h.bel.trans (hb.mono h.bel.size), h.low⟩
theorem GlAt.alloc (h : GlAt w wr M clock E g cap l y out) (o : Obj) : GlAt w (wr.alloc o) M clock E g cap l y out := h.kept ((Below.refl _ _).alloc (Nat.le_refl _) o)
theorem rows_apart {W : World} {B B' n n' sz sz' : Nat} {t t' : TypeId} {v v' : Value} {xs xs' : List Value} (h : W.ownsRow B t sz v n xs) (k : W.ownsRow B' t' sz' v' n' xs') (hne : t ≠ t') : v.ownBlock = none ∨ v.ownBlock ≠ v'.ownBlock := by
  rcases h.2 with ⟨rfl, _⟩ | ⟨g, cap, cu, rfl, _, hg, _⟩
  · exact .inl rfl
  · refine .inr (fun e => ?_)
    rcases k.2 with ⟨rfl, _⟩ | ⟨g', cap', cu', rfl, _, hg', _⟩
    · simp [Value.ownBlock] at e
    · simp [Value.ownBlock] at e
      subst e
      rw [hg] at hg'
      simp at hg'
      exact hne hg'.2
theorem GlAt.app (h : GlAt w wr M clock E g cap l y out) (hn5 : n5 = (out ++ [x]).length) (ho : w5.ownsRow w.heap.size 59 7 (.slice a5 n5 c5) n5 (rcells Gu.cl (out ++ [x]))) (hg : (wr.alloc o).grownBy w5 y.ownBlock) : GlAt w w5 M clock E g cap l (.slice a5 n5 c5) (out ++ [x]) := by
  have ha := h.alloc o
  refine ⟨ha.nms.kept hg (rows_apart ha.nms ha.row (by decide)), by rw [← hn5]; exact ho, ha.map.kept (hg.block _ ha.map.lt (fun e => ?_)), app_below h.bel h.bel.size h.row hg, h.low⟩
  have := (ha.row.lt _ e.symm).1
  have := h.low
  omega
end
set_option maxRecDepth 100000 in
set_option maxHeartbeats 4000000 in
theorem guestList_any (M clock : Nat) (E : List (Gu × Nat)) (l : List Gu) (w : World) (hM : MapG w M E clock) (hE : E.length ≤ 12) (hl : l.Pairwise LtG) (hmem : ∀ y, y ∈ l ↔ ∃ b, (y, b) ∈ E) (hl12 : l.length ≤ 12) :
    Calls Try.prog 99 #[.map (some M)] w (RowPost Gu.cl 59 7 l w) := by
  unfold RowPost
  have HKf := Lib.hid (keysFn_any M w)
  have hMw : MapG (w.alloc (.cells #[.map (some M)] 103)) M E clock := hM.kept (Below.heap_alloc _ _ _ hM.lt)
  have HSo := Lib.hid (sortedFunc_any w.heap.size M clock E hE (w.alloc (.cells #[.map (some M)] 103)) (by simp) (by rw [(Blk.new w _ _).cell]; rfl) hMw)
  have HLk := Lib.hid (fun (g : Gu) (hg : g ∈ l) => look_at hl hmem g hg)
  have HNm := Lib.hid (fun (xs : List Nm) hs hx => names_eq (xs := xs) hl hmem hs hx)
  have HMlt := hM.lt
  have HM := Lib.hid hMw
  have HB0 : Hid (Below w.heap.size w (w.alloc (.cells #[.map (some M)] 103))) := Lib.hid ((Below.refl _ _).alloc (Nat.le_refl _) _)
  unfold SortPost at HSo
  clear hM hMw hmem hl
  go_enter Try.func99, Try.ntmps99
  go_wp2_with fail
  refine HKf.out.mono ?_
  rintro e w1 ⟨rfl, rfl⟩
  go_wp2_with fail
  refine HSo.out.mono ?_
  rintro e w2 ⟨v, xs, rfl, ⟨hs, hx⟩, ho, hb⟩
  have hxs := HNm.out xs hs hx
  subst hxs
  have hM2 := HM.out.kept (hb.block _ HM.out.lt)
  have hb2 := HB0.out.trans (hb.mono (by simp))
  have ho2 := rown_mono (B' := w.heap.size) ho (by simp)
  rw [List.length_map] at ho2
  clear HKf HSo HNm HM HB0 ho hb hs hx
  by_cases hnil : l.length = 0
  · have hl0 : l = [] := List.eq_nil_of_length_eq_zero hnil
    subst hl0
    obtain ⟨va, vc, rfl⟩ := rown_form ho2
    have HB := Lib.hid hb2
    clear ho2 hM2
    go_wp2_with fail
    go_loopw [10, 3, 5] (fun u y _ wr => u = .int .i64 0 ∧ y = .slice none 0 0 ∧ Hid (wr = w2)) (fun _ _ _ _ => 0)
    case atStart => exact ⟨rfl, rfl, Lib.hid rfl⟩
    case round =>
      obtain ⟨rfl, rfl, HW⟩ := hrel
      have hw := HW.out
      clear HW
      subst hw
      go_wp2_with fail
      go_ret
      exact ⟨_, rfl, World.ownsRow_nil _ _ _ _, HB.out⟩
  · obtain ⟨g, cap, rfl⟩ : ∃ g cap, v = .slice (some ⟨g, 0, none⟩) l.length cap := by
      rcases ho2.2 with ⟨_, h0⟩ | ⟨g, cap, cur, e, _⟩
      · exact absurd h0 hnil
      · exact ⟨g, cap, e⟩
    have HS0 : Hid (GlAt w w2 M clock E g cap l (.slice none 0 0) (l.take 0)) := Lib.hid ⟨ho2, World.ownsRow_nil _ _ _ _, hM2, hb2, HMlt⟩
    have HNk : Hid (∀ (W : World) (y : Value) (out : List Gu), GlAt w W M clock E g cap l y out → NmRow W w.heap.size g cap l.length (fun k => (l.map nmOf).getD k (0, 0))) := Lib.hid (fun W y out h => by
      have h2 := h.nms
      have e : l.length = (l.map nmOf).length := by rw [List.length_map]
      rw [e] at h2
      have := nmRow_of h2
      rwa [List.length_map] at this)
    clear ho2 hM2 hb2
    obtain ⟨n, hnn⟩ : ∃ n, n = l.length := ⟨_, rfl⟩
    rw [← hnn] at HNk hl12
    have HN := Lib.hid hnn
    have HNS : Hid (∀ W y out, GlAt w W M clock E g cap l y out → True) := Lib.hid (fun _ _ _ _ => trivial)
    rw [← hnn]
    clear hnn HNS hnil
    go_wp2_with fail
    go_loopw [10, 3, 5] (fun u y _ wr => ∃ i : Nat, i ≤ n ∧ u = .int .i64 (i : Int) ∧ Hid (GlAt w wr M clock E g cap l y (l.take i))) (fun u _ _ _ => n - (intOf u).toNat)
    case atStart => exact ⟨0, Nat.zero_le _, rfl, HS0⟩
    case round =>
      clear HS0
      obtain ⟨i, hi, rfl, HS⟩ := hrel
      by_cases hlt : i < n
      · have hir : i < l.length := by rw [← HN.out]; exact hlt
        have hl1 : (i : Int) < n := by omega
        have HR := HNk.out _ _ _ HS.out
        have p0 := HR.c0 hlt
        have p1 := HR.c1 hlt
        have hgd : (l.map nmOf).getD i (0, 0) = ((l[i]).vni, (l[i]).mac) := by simp [List.getD, List.getElem?_eq_getElem hir, nmOf]
        rw [hgd] at p0 p1
        dsimp only at p0 p1
        have hlk := HLk.out l[i] (List.getElem_mem hir)
        have HTk : Hid (l.take (i + 1) = l.take i ++ [l[i]]) := Lib.hid (List.take_succ_eq_append_getElem hir)
        have hpl : (l.take i).length ≤ 12 := by rw [List.length_take]; omega
        have XA := Blk.new wr 106 #[.int .i64 (l[i]).vni, .int .i64 (l[i]).mac]
        have SA := HS.out.alloc (.cells #[.int .i64 (l[i]).vni, .int .i64 (l[i]).mac] 106)
        clear HR HS hgd
        generalize l[i] = x at *
        generalize l.take i = pre at *
        have hget := SA.map.get ⟨x.vni, x.mac, 0, 0, 0, 0, false⟩
        rw [hlk] at hget
        unfold nameV Gu.val at hget
        dsimp only at hget
        obtain ⟨ya, yc, rfl⟩ := rown_form SA.row
        go_upto_region 5 with fail
        generalize (wr.alloc (.cells #[.int .i64 x.vni, .int .i64 x.mac] 106)) = W6 at *
        clear p0 p1 hlk
        have hc := XA.cell
        have hsz1 := SA.bel.size
        go_wp2_with (at_builtin; refine wpList_append_row Gu.cl_len Gu.cl_one1 tyG _ rfl _ _ rfl w.heap.size _ pre x rfl (SA.row.alloc _) ⟨W6.heap.size, 0, none⟩ rfl (lit_cells W6 _ _ x rfl) (by omega) (by simp; omega) ?_; intro a' c' n' w5 HN5 hown5 hg5; have HS5 := Lib.hid (SA.app HN5.out hown5 hg5); clear hown5 hg5)
        go_roundw
        case rel => exact ⟨i + 1, by omega, by simp, by rw [HTk.out]; exact HS5⟩
        case measure => simp [intOf]; omega
      · have hin : i = n := by omega
        subst hin
        have HZ : Hid (l.take i = l) := Lib.hid (List.take_of_length_le (by rw [← HN.out]; exact Nat.le_refl _))
        rw [HZ.out] at HS
        obtain ⟨ya, yc, rfl⟩ := rown_form HS.out.row
        go_wp2_with fail
        go_ret
        exact ⟨_, rfl, HS.out.row, HS.out.bel⟩
end Go.Proofs.Ytmkoppbbenombaa
