/- What the functions over tables answer: two found equal, marked, held; a law's memory round it. -/
import Derived.Test.YtmkoppbbenombaaRbT
import Derived.Test.YtmkoppbbenombaaMg
namespace Go.Proofs.Ytmkoppbbenombaa
open Go.RowKit

set_option maxHeartbeats 1000000 in
theorem roEq_same (a b : List Hd) (x y : List Rt) (v v' t t' : Value) (c : Int) (w : World) (hab : a = b) (hxy : x = y) (h : SlAt w 9 v (a.map Hd.cl)) (h' : SlAt w 9 v' (b.map Hd.cl)) (k : SlAt w 7 t (x.map Rt.cl)) (k' : SlAt w 7 t' (y.map Rt.cl)) (hn : a.length ≤ 1048576) (hm : x.length ≤ 1048576) :
    Calls Try.prog 23 #[roV v t c, roV v' t' c] w fun e w' => e = .returned (.bool true) ∧ Below w.heap.size w w' := by
  subst hab hxy
  have HE := Lib.hid (fun (W' : World) (hb : Below w.heap.size w W') => Hd.eqS_same a v v' W' (SlAt.kept h hb) (SlAt.kept h' hb) hn)
  have HR := Lib.hid (fun (W' : World) (hb : Below w.heap.size w W') => Rt.eqS_same x t t' W' (SlAt.kept k hb) (SlAt.kept k' hb) hm)
  obtain ⟨va, vc, rfl, _⟩ := h
  obtain ⟨wa, wc, rfl, _⟩ := h'
  obtain ⟨ta, tc, rfl, _⟩ := k
  obtain ⟨ua, uc, rfl, _⟩ := k'
  rw [List.length_map, List.length_map] at *
  unfold roV
  have A0 := ((MemAt.start w).new 33 #[.slice va a.length vc, .slice ta x.length tc, .int .i64 c]).new 33 #[.slice wa a.length wc, .slice ua x.length uc, .int .i64 c]
  rw [World.size_alloc] at A0
  go_enter Try.func23, Try.ntmps23
  go_upto_region 1 with fail
  generalize (w.alloc (.cells #[.slice va a.length vc, .slice ta x.length tc, .int .i64 c] 33)).alloc (.cells #[.slice wa a.length wc, .slice ua x.length uc, .int .i64 c] 33) = W1 at *
  have c0 := A0.b0.cell
  have c1 := A0.b1.cell
  go_wp2_with fail
  refine (HE.out _ A0.bel).mono ?_
  rintro e w2 ⟨rfl, hb⟩
  replace A0 := A0.kept hb
  clear hb c0 c1
  have c0 := A0.b0.cell
  have c1 := A0.b1.cell
  go_wp2_with fail
  refine (HR.out _ A0.bel).mono ?_
  rintro e w3 ⟨rfl, hb⟩
  replace A0 := A0.kept hb
  clear hb c0 c1
  have c0 := A0.b0.cell
  have c1 := A0.b1.cell
  go_wp2_with fail
  go_ret
  exact ⟨rfl, A0.bel⟩
def RoMark (B : Nat) (v t : Value) (k n m : Nat) (w : World) (e : Ending) (w' : World) : Prop :=
  e = .returned (.int .i64 ((k + 9 * n + 7 * m : Nat) : Int)) ∧ w'.ownsRow B 77 9 v (Hd.marks k n).length (rcells Hd.cl (Hd.marks k n)) ∧ w'.ownsRow B 35 7 t (Rt.marks (k + 9 * n) m).length (rcells Rt.cl (Rt.marks (k + 9 * n) m)) ∧ Below B w w' ∧ ∀ b t' vs, t' ≠ 77 → t' ≠ 35 → Blk w b t' vs → Blk w' b t' vs
set_option maxHeartbeats 1000000 in
theorem roMark_any (B : Nat) (v t : Value) (c : Int) (k n m : Nat) (xs ys : List Value) (w : World) (hB : B ≤ w.heap.size) (h : w.ownsRow B 77 9 v n xs) (h' : w.ownsRow B 35 7 t m ys) (ha : v.ownBlock = none ∨ v.ownBlock ≠ t.ownBlock) (h0 : 0 < k) (hk : k + 9 * n + 7 * m ≤ 1000000000) :
    Calls Try.prog 25 #[roV v t c, .int .i64 (k : Int)] w (RoMark B v t k n m w) := by
  have ha' := rapart_symm ha
  obtain ⟨va, vc, rfl⟩ := rown_form h
  obtain ⟨ta, tc, rfl⟩ := rown_form h'
  unfold roV RoMark
  have HM := Lib.hid (fun (W' : World) (h : W'.ownsRow B 77 9 (.slice va n vc) n xs) => Hd.markS_any B (.slice va n vc) k n xs W' h h0 (by omega))
  have HR := Lib.hid (fun (W' : World) (h : W'.ownsRow B 35 7 (.slice ta m tc) m ys) => Rt.markS_any B (.slice ta m tc) (k + 9 * n) m ys W' h (by omega) (by omega))
  unfold MarkPost at HM HR
  rw [Hd.marks_len] at *
  rw [Rt.marks_len] at *
  obtain ⟨K1, hK1⟩ : ∃ K : Int, K = ((k + 9 * n : Nat) : Int) := ⟨_, rfl⟩
  rw [← hK1] at HM HR
  clear hK1
  generalize rcells Hd.cl (Hd.marks k n) = C at *
  generalize rcells Rt.cl (Rt.marks (k + 9 * n) m) = E at *
  have X := Blk.new w 33 #[.slice va n vc, .slice ta m tc, .int .i64 c]
  have O1 := h.alloc (.cells #[.slice va n vc, .slice ta m tc, .int .i64 c] 33)
  have O2 := h'.alloc (.cells #[.slice va n vc, .slice ta m tc, .int .i64 c] 33)
  have BB : Below B w (w.alloc (.cells #[.slice va n vc, .slice ta m tc, .int .i64 c] 33)) := (Below.refl _ _).alloc hB _
  have KK : ∀ b t' vs, Blk w b t' vs → Blk (w.alloc (.cells #[.slice va n vc, .slice ta m tc, .int .i64 c] 33)) b t' vs := fun _ _ _ h => h.alloc _
  go_enter Try.func25, Try.ntmps25
  go_upto_region 1 with fail
  generalize (w.alloc (.cells #[.slice va n vc, .slice ta m tc, .int .i64 c] 33)) = W1 at *
  have HK := Lib.hid KK
  clear KK
  have hc := X.cell
  go_wp2_with fail
  refine (HM.out _ O1).mono ?_
  rintro e w2 ⟨rfl, ho, hg⟩
  replace X := X.grown hg (blk_not_own1 X O1 (by decide))
  have hlow : ∀ q, (Value.slice va n vc).ownBlock = some q → B ≤ q := fun q hq => (O1.lt q hq).1
  replace BB := BB.grown hg (by have := BB.size; omega) hlow
  replace O2 := O2.kept hg ha'
  have HK2 : Hid (∀ b t' vs, t' ≠ 77 → t' ≠ 35 → Blk w b t' vs → Blk w2 b t' vs) := Lib.hid (fun b t' vs n1 n2 hb => (HK.out b t' vs hb).grown hg (blk_not_own1 (HK.out b t' vs hb) O1 n1))
  clear hg O1 hc HK hlow
  have hc := X.cell
  go_wp2_with fail
  refine (HR.out _ O2).mono ?_
  rintro e w3 ⟨rfl, ho2, hg⟩
  replace ho := ho.kept hg ha
  have hlow : ∀ q, (Value.slice ta m tc).ownBlock = some q → B ≤ q := fun q hq => (O2.lt q hq).1
  replace BB := BB.grown hg (by have := BB.size; omega) hlow
  have HK3 : Hid (∀ b t' vs, t' ≠ 77 → t' ≠ 35 → Blk w b t' vs → Blk w3 b t' vs) := Lib.hid (fun b t' vs n1 n2 hb => (HK2.out b t' vs n1 n2 hb).grown hg (blk_not_own1 (HK2.out b t' vs n1 n2 hb) O2 n2))
  have HO1 := Lib.hid ho
  have HO2 := Lib.hid ho2
  have HBB := Lib.hid BB
  clear hg O2 hc HK2 ho ho2 BB X hlow
  go_wp2_with fail
  go_ret
  exact ⟨rfl, HO1.out, HO2.out, HBB.out, HK3.out⟩
set_option maxHeartbeats 1000000 in
theorem roHeld_any (v t : Value) (c : Int) (k n m : Nat) (w : World) (h : SlAt w 9 v ((Hd.marks k n).map Hd.cl)) (h' : SlAt w 7 t ((Rt.marks (k + 9 * n) m).map Rt.cl)) (h0 : 0 < k) (hk : k + 9 * n + 7 * m ≤ 1000000000) :
    Calls Try.prog 26 #[roV v t c, .int .i64 (k : Int)] w fun e w' => e = .returned (.int .i64 ((k + 9 * n + 7 * m : Nat) : Int)) ∧ Below w.heap.size w w' := by
  have HM := Lib.hid (fun (W' : World) (hb : Below w.heap.size w W') => Hd.heldS_any v k n W' (SlAt.kept h hb) h0 (by omega))
  have HR := Lib.hid (fun (W' : World) (hb : Below w.heap.size w W') => Rt.heldS_any t (k + 9 * n) m W' (SlAt.kept h' hb) (by omega) (by omega))
  obtain ⟨va, vc, rfl, _⟩ := h
  obtain ⟨ta, tc, rfl, _⟩ := h'
  rw [List.length_map, List.length_map, Hd.marks_len, Rt.marks_len] at *
  unfold roV
  obtain ⟨K1, hK1⟩ : ∃ K : Int, K = ((k + 9 * n : Nat) : Int) := ⟨_, rfl⟩
  obtain ⟨K2, hK2⟩ : ∃ K : Int, K = ((k + 9 * n + 7 * m : Nat) : Int) := ⟨_, rfl⟩
  have h1 : ¬ K1 < 0 := by omega
  have h2 : ¬ K2 < 0 := by omega
  rw [← hK1] at HM HR
  rw [← hK2] at HR ⊢
  clear hK1 hK2
  have X := Blk.new w 33 #[.slice va n vc, .slice ta m tc, .int .i64 c]
  have BB : Below w.heap.size w (w.alloc (.cells #[.slice va n vc, .slice ta m tc, .int .i64 c] 33)) := (Below.refl _ _).alloc (Nat.le_refl _) _
  go_enter Try.func26, Try.ntmps26
  go_upto_region 1 with fail
  generalize (w.alloc (.cells #[.slice va n vc, .slice ta m tc, .int .i64 c] 33)) = W1 at *
  have hc := X.cell
  go_wp2_with fail
  refine (HM.out _ BB).mono ?_
  rintro e w2 ⟨rfl, rfl⟩
  go_wp2_with fail
  refine (HR.out _ BB).mono ?_
  rintro e w3 ⟨rfl, rfl⟩
  go_wp2_with fail
  go_ret
  exact ⟨rfl, BB⟩
/- a law's memory: rows beyond B were written anew -/
theorem MemAt.marked2 {W cur cur' : World} {B : Nat} {L : List (Nat × TypeId × Array Value)} {R R' : List RowQ} (h : MemAt W L R cur) (hbel : Below B cur cur') (hW : W.heap.size ≤ B) (hblk : ∀ b t' vs, t' ≠ 77 → t' ≠ 35 → Blk cur b t' vs → Blk cur' b t' vs)
    (hL : ∀ q ∈ L, q.2.1 ≠ 77 ∧ q.2.1 ≠ 35) (hR : ∀ q ∈ R', q ∈ R ∧ ∀ k, q.v.ownBlock = some k → k < B) : MemAt W L R' cur' := by
  refine ⟨h.bel.trans (hbel.mono hW), fun q hq => hblk _ _ _ (hL q hq).1 (hL q hq).2 (h.blk q hq), fun q hq => ?_⟩
  have ho := h.row q (hR q hq).1
  have hl := (hR q hq).2
  unfold RowQ.own at *
  refine ⟨ho.1, ?_⟩
  rcases ho.2 with e | ⟨g, cap, cu, e1, h2, h3, h4⟩
  · exact .inl e
  · exact .inr ⟨g, cap, cu, e1, h2, (hbel.block g (hl g (by rw [e1]; rfl))).trans h3, h4⟩
end Go.Proofs.Ytmkoppbbenombaa
