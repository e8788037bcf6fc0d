/- The memory of a law at work: blocks known as a whole, rows of strings that were made; what keeps them. -/
import Derived.Test.YtfmhccmaeonbhaaPpL
namespace Go.Proofs.Ytfmhccmaeonbhaa
open Go.RowKit

structure LawAt (W : World) (L : List (Nat × TypeId × Array Value)) (R : List (Nat × Value × List ByteArray)) (cur : World) : Prop where
  bel : Below W.heap.size W cur
  blk : ∀ q ∈ L, Blk cur q.1 q.2.1 q.2.2
  row : ∀ q ∈ R, cur.ownsRow q.1 9 1 q.2.1 q.2.2.length (strsV q.2.2)
section
variable {W cur cur' : World} {L : List (Nat × TypeId × Array Value)} {R : List (Nat × Value × List ByteArray)}
theorem LawAt.kept (h : LawAt W L R cur) (hb : Below cur.heap.size cur cur') : LawAt W L R cur' :=
  ⟨h.bel.trans (hb.mono h.bel.size), fun q hq => (h.blk q hq).kept hb, fun q hq => own_below (h.row q hq) hb⟩
theorem LawAt.drew (h : LawAt W L R cur) : LawAt W L R cur.drew := ⟨h.bel.drew, h.blk, h.row⟩
theorem LawAt.new (h : LawAt W L R cur) (t : TypeId) (cs : Array Value) : LawAt W ((cur.heap.size, t, cs) :: L) R (cur.alloc (.cells cs t)) := by
  have k := h.kept ((Below.refl _ cur).alloc (Nat.le_refl _) (.cells cs t))
  refine ⟨k.bel, fun q hq => ?_, k.row⟩
  rcases List.mem_cons.1 hq with rfl | hq
  · exact Blk.new _ _ _
  · exact k.blk q hq
theorem LawAt.own (h : LawAt W L R cur) {B : Nat} {v : Value} {l : List ByteArray} (ho : cur.ownsRow B 9 1 v l.length (strsV l)) : LawAt W L ((B, v, l) :: R) cur := by
  refine ⟨h.bel, h.blk, fun q hq => ?_⟩
  rcases List.mem_cons.1 hq with rfl | hq
  · exact ho
  · exact h.row q hq
theorem LawAt.start (W : World) : LawAt W [] [] W := ⟨Below.refl _ _, (fun q hq => by cases hq), (fun q hq => by cases hq)⟩
theorem LawAt.b (h : LawAt W L R cur) (b : Nat) (t : TypeId) (cs : Array Value) (hm : (b, t, cs) ∈ L) : Blk cur b t cs := h.blk _ hm
theorem LawAt.r (h : LawAt W L R cur) (B : Nat) (v : Value) (l : List ByteArray) (hm : (B, v, l) ∈ R) : cur.ownsRow B 9 1 v l.length (strsV l) := h.row _ hm
theorem LawAt.b0 {b : Nat} {t : TypeId} {cs : Array Value} (h : LawAt W ((b, t, cs) :: L) R cur) : Blk cur b t cs := h.blk _ (.head _)
theorem LawAt.r0 {B : Nat} {v : Value} {l : List ByteArray} (h : LawAt W L ((B, v, l) :: R) cur) : cur.ownsRow B 9 1 v l.length (strsV l) := h.row _ (.head _)
theorem LawAt.b1 {x0 : Nat × TypeId × Array Value} {b : Nat} {t : TypeId} {cs : Array Value} (h : LawAt W (x0 :: (b, t, cs) :: L) R cur) : Blk cur b t cs := h.blk _ (.tail _ (.head _))
theorem LawAt.r1 {x0 : Nat × Value × List ByteArray} {B : Nat} {v : Value} {l : List ByteArray} (h : LawAt W L (x0 :: (B, v, l) :: R) cur) : cur.ownsRow B 9 1 v l.length (strsV l) := h.row _ (.tail _ (.head _))
theorem LawAt.b2 {x0 x1 : Nat × TypeId × Array Value} {b : Nat} {t : TypeId} {cs : Array Value} (h : LawAt W (x0 :: x1 :: (b, t, cs) :: L) R cur) : Blk cur b t cs := h.blk _ (.tail _ (.tail _ (.head _)))
theorem LawAt.r2 {x0 x1 : Nat × Value × List ByteArray} {B : Nat} {v : Value} {l : List ByteArray} (h : LawAt W L (x0 :: x1 :: (B, v, l) :: R) cur) : cur.ownsRow B 9 1 v l.length (strsV l) := h.row _ (.tail _ (.tail _ (.head _)))
theorem LawAt.b3 {x0 x1 x2 : Nat × TypeId × Array Value} {b : Nat} {t : TypeId} {cs : Array Value} (h : LawAt W (x0 :: x1 :: x2 :: (b, t, cs) :: L) R cur) : Blk cur b t cs := h.blk _ (.tail _ (.tail _ (.tail _ (.head _))))
theorem LawAt.r3 {x0 x1 x2 : Nat × Value × List ByteArray} {B : Nat} {v : Value} {l : List ByteArray} (h : LawAt W L (x0 :: x1 :: x2 :: (B, v, l) :: R) cur) : cur.ownsRow B 9 1 v l.length (strsV l) := h.row _ (.tail _ (.tail _ (.tail _ (.head _))))
theorem LawAt.b4 {x0 x1 x2 x3 : Nat × TypeId × Array Value} {b : Nat} {t : TypeId} {cs : Array Value} (h : LawAt W (x0 :: x1 :: x2 :: x3 :: (b, t, cs) :: L) R cur) : Blk cur b t cs := h.blk _ (.tail _ (.tail _ (.tail _ (.tail _ (.head _)))))
theorem LawAt.r4 {x0 x1 x2 x3 : Nat × Value × List ByteArray} {B : Nat} {v : Value} {l : List ByteArray} (h : LawAt W L (x0 :: x1 :: x2 :: x3 :: (B, v, l) :: R) cur) : cur.ownsRow B 9 1 v l.length (strsV l) := h.row _ (.tail _ (.tail _ (.tail _ (.tail _ (.head _)))))
theorem LawAt.r5 {x0 x1 x2 x3 x4 : Nat × Value × List ByteArray} {B : Nat} {v : Value} {l : List ByteArray} (h : LawAt W L (x0 :: x1 :: x2 :: x3 :: x4 :: (B, v, l) :: R) cur) : cur.ownsRow B 9 1 v l.length (strsV l) := h.row _ (.tail _ (.tail _ (.tail _ (.tail _ (.tail _ (.head _))))))
theorem LawAt.b5 {x0 x1 x2 x3 x4 : Nat × TypeId × Array Value} {b : Nat} {t : TypeId} {cs : Array Value} (h : LawAt W (x0 :: x1 :: x2 :: x3 :: x4 :: (b, t, cs) :: L) R cur) : Blk cur b t cs := h.blk _ (.tail _ (.tail _ (.tail _ (.tail _ (.tail _ (.head _))))))
theorem LawAt.r6 {x0 x1 x2 x3 x4 x5 : Nat × Value × List ByteArray} {B : Nat} {v : Value} {l : List ByteArray} (h : LawAt W L (x0 :: x1 :: x2 :: x3 :: x4 :: x5 :: (B, v, l) :: R) cur) : cur.ownsRow B 9 1 v l.length (strsV l) := h.row _ (.tail _ (.tail _ (.tail _ (.tail _ (.tail _ (.tail _ (.head _)))))))
theorem LawAt.b6 {x0 x1 x2 x3 x4 x5 : Nat × TypeId × Array Value} {b : Nat} {t : TypeId} {cs : Array Value} (h : LawAt W (x0 :: x1 :: x2 :: x3 :: x4 :: x5 :: (b, t, cs) :: L) R cur) : Blk cur b t cs := h.blk _ (.tail _ (.tail _ (.tail _ (.tail _ (.tail _ (.tail _ (.head _)))))))
theorem LawAt.r7 {x0 x1 x2 x3 x4 x5 x6 : Nat × Value × List ByteArray} {B : Nat} {v : Value} {l : List ByteArray} (h : LawAt W L (x0 :: x1 :: x2 :: x3 :: x4 :: x5 :: x6 :: (B, v, l) :: R) cur) : cur.ownsRow B 9 1 v l.length (strsV l) := h.row _ (.tail _ (.tail _ (.tail _ (.tail _ (.tail _ (.tail _ (.tail _ (.head _))))))))
theorem LawAt.b7 {x0 x1 x2 x3 x4 x5 x6 : Nat × TypeId × Array Value} {b : Nat} {t : TypeId} {cs : Array Value} (h : LawAt W (x0 :: x1 :: x2 :: x3 :: x4 :: x5 :: x6 :: (b, t, cs) :: L) R cur) : Blk cur b t cs := h.blk _ (.tail _ (.tail _ (.tail _ (.tail _ (.tail _ (.tail _ (.tail _ (.head _))))))))
theorem LawAt.sub {L' : List (Nat × TypeId × Array Value)} {R' : List (Nat × Value × List ByteArray)} (h : LawAt W L R cur) (hL : ∀ q ∈ L', q ∈ L) (hR : ∀ q ∈ R', q ∈ R) : LawAt W L' R' cur := ⟨h.bel, fun q hq => h.blk q (hL q hq), fun q hq => h.row q (hR q hq)⟩
/- one row was written anew -/
theorem LawAt.marked {v : Value} {B : Nat} {l l' : List ByteArray} {R' : List (Nat × Value × List ByteArray)} (h : LawAt W L R cur) (hv : cur.ownsRow B 9 1 v l.length (strsV l)) (hB : W.heap.size ≤ B) (hg : cur.grownBy cur' v.ownBlock)
    (ho : cur'.ownsRow B 9 1 v l'.length (strsV l')) (hL : ∀ q ∈ L, q.2.1 ≠ 9) (hR : ∀ q ∈ R', q ∈ R ∧ (q.2.1.ownBlock = none ∨ q.2.1.ownBlock ≠ v.ownBlock)) : LawAt W L ((B, v, l') :: R') cur' := by
  refine ⟨h.bel.grown hg h.bel.size (fun k hk => Nat.le_trans hB (hv.lt k hk).1), fun q hq => (h.blk q hq).grown hg (blk_not_own (h.blk q hq) hv (hL q hq)), fun q hq => ?_⟩
  rcases List.mem_cons.1 hq with rfl | hq
  · exact ho
  · exact (h.row q (hR q hq).1).kept hg (hR q hq).2
end
theorem LawAt.low {W cur : World} {L : List (Nat × TypeId × Array Value)} {R : List (Nat × Value × List ByteArray)} (h : LawAt W L R cur) : ∀ q ∈ R, ∀ k, q.2.1.ownBlock = some k → k < cur.heap.size := fun q hq k hk => ((h.row q hq).lt k hk).2
theorem own_belowB {W W' : World} {B B0 n sz : Nat} {t : TypeId} {v : Value} {xs : List Value} (h : W.ownsRow B0 t sz v n xs) (hb : Below B W W') (hl : ∀ k, v.ownBlock = some k → k < B) : W'.ownsRow B0 t sz v n xs := by
  refine ⟨h.1, ?_⟩
  rcases h.2 with h | ⟨g, cap, cur, rfl, h2, h3, h4⟩
  · exact .inl h
  · exact .inr ⟨g, cap, cur, rfl, h2, (hb.block g (hl g rfl)).trans h3, h4⟩
/- rows beyond B were written anew -/
theorem LawAt.marked2 {W cur cur' : World} {B : Nat} {L : List (Nat × TypeId × Array Value)} {R R' : List (Nat × Value × List ByteArray)} (h : LawAt W L R cur) (hbel : Below B cur cur') (hW : W.heap.size ≤ B) (hblk : ∀ b t vs, t ≠ 9 → Blk cur b t vs → Blk cur' b t vs)
    (hL : ∀ q ∈ L, q.2.1 ≠ 9) (hR : ∀ q ∈ R', q ∈ R ∧ ∀ k, q.2.1.ownBlock = some k → k < B) : LawAt W L R' cur' :=
  ⟨h.bel.trans (hbel.mono hW), fun q hq => hblk _ _ _ (hL q hq) (h.blk q hq), fun q hq => own_belowB (h.row q (hR q hq).1) hbel (hR q hq).2⟩
theorem apart_symm {v v' : Value} (h : v'.ownBlock = none ∨ v'.ownBlock ≠ v.ownBlock) : v.ownBlock = none ∨ v.ownBlock ≠ v'.ownBlock := by
  rcases h with h | h
  · rw [h]
    cases v.ownBlock with
    | none => exact .inl rfl
    | some k => exact .inr (by simp)
  · exact .inr (fun e => h e.symm)
/- the row of a law's own copy, marked: beside it four others -/
theorem LawAt.markedX {W cur cur' : World} {L : List (Nat × TypeId × Array Value)} {B B0 B1 B2 B3 : Nat} {v v0 v1 v2 v3 : Value} {l l' l0 l1 l2 l3 : List ByteArray}
    (h : LawAt W L [(B0, v0, l0), (B1, v1, l1), (B, v, l), (B2, v2, l2), (B3, v3, l3)] cur) (hB : ∀ k, v.ownBlock = some k → W.heap.size ≤ k) (hg : cur.grownBy cur' v.ownBlock)
    (ho : cur'.ownsRow B 9 1 v l'.length (strsV l')) (hL : ∀ q ∈ L, q.2.1 ≠ 9) (a1 : v1.ownBlock = none ∨ v1.ownBlock ≠ v.ownBlock) (a0 : v0.ownBlock = none ∨ v0.ownBlock ≠ v.ownBlock) (a2 : v2.ownBlock = none ∨ v2.ownBlock ≠ v.ownBlock) (a3 : v3.ownBlock = none ∨ v3.ownBlock ≠ v.ownBlock) :
    LawAt W L [(B, v, l'), (B0, v0, l0), (B1, v1, l1), (B2, v2, l2), (B3, v3, l3)] cur' := by
  refine ⟨h.bel.grown hg h.bel.size hB, fun q hq => (h.blk q hq).grown hg (blk_not_own (h.blk q hq) h.r2 (hL q hq)), fun q hq => ?_⟩
  simp only [List.mem_cons, List.not_mem_nil, or_false] at hq
  rcases hq with rfl | rfl | rfl | rfl | rfl
  · exact ho
  · exact h.r0.kept hg a0
  · exact h.r1.kept hg a1
  · exact h.r3.kept hg a2
  · exact h.r4.kept hg a3
theorem own_form {W : World} {B n sz : Nat} {t : TypeId} {v : Value} {xs : List Value} (h : W.ownsRow B t sz v n xs) : ∃ a c, v = .slice a n c := by
  rcases h.2 with ⟨rfl, rfl⟩ | ⟨g, cap, cur, rfl, _⟩
  · exact ⟨_, _, rfl⟩
  · exact ⟨_, _, rfl⟩

/- what the functions over pipes answer -/
structure Po where
  e : Int
  p : Int
  b : Int
  i : Int
  l : List ByteArray
  m : List ByteArray
  f : Bool
  c : Int
def PoPost (r : Po) (w : World) (x : Ending) (w' : World) : Prop :=
  ∃ v t, x = .returned (poV r.e r.p r.b r.i v t r.f r.c) ∧ w'.ownsRow w.heap.size 9 1 v r.l.length (strsV r.l) ∧ w'.ownsRow w.heap.size 9 1 t r.m.length (strsV r.m) ∧ (v.ownBlock = none ∨ v.ownBlock ≠ t.ownBlock) ∧ Below w.heap.size w w'
def poIll (c : Int) : Po := ⟨0, 0, 0, 0, [], [], false, c⟩
theorem PoPost.plain {r : Po} {w w' : World} {x : Ending} (hl : r.l = []) (hm : r.m = []) (hx : x = .returned (poV r.e r.p r.b r.i (.slice none 0 0) (.slice none 0 0) r.f r.c)) (hb : Below w.heap.size w w') : PoPost r w x w' := by
  refine ⟨_, _, hx, ?_, ?_, .inl rfl, hb⟩
  · rw [hl]; exact World.ownsRow_nil _ _ _ _
  · rw [hm]; exact World.ownsRow_nil _ _ _ _
theorem specIll_any (c : Int) (w : World) : Calls Try.prog 62 #[.int .i64 c] w fun x w' => x = .returned (poV 0 0 0 0 (.slice none 0 0) (.slice none 0 0) false c) ∧ Below w.heap.size w w' := by
  go_enter Try.func62, Try.ntmps62
  go_wp2
  refine bodyPost_ret (v := poV 0 0 0 0 (.slice none 0 0) (.slice none 0 0) false c) (by simp [results, Try.results62, go_sem, poV]) rfl ⟨rfl, ?_⟩
  go_grown
def newR (e : Int) : Po := if isEpoch e then ⟨e, 0, 0, 0, [], [], false, 0⟩ else poIll 1
theorem newR_small (e : Int) : (newR e).l.length + (newR e).m.length ≤ 100 := by
  unfold newR
  split <;> simp [poIll]
theorem specPipeNew_any (e : Int) (w : World) : Calls Try.prog 18 #[.int .i64 e] w (PoPost (newR e) w) := by
  cases h : isEpoch e
  · have HR : Hid (newR e = poIll 1) := Lib.hid (by simp [newR, h])
    have HI := Lib.hid (specIll_any 1)
    unfold poV at HI
    go_enter Try.func18, Try.ntmps18
    go_wp2_with (first | (go_at_call 57; refine (specEpoch_any _ _).mono ?_; rintro e w' ⟨rfl, rfl⟩))
    refine (HI.out _).mono ?_
    rintro x w1 ⟨rfl, hb1⟩
    have X := (Blk.new w 33 #[.int .i64 0, .int .i64 0, .int .i64 0, .int .i64 0, .slice none 0 0, .slice none 0 0, .bool false, .int .i64 0]).kept hb1
    have hc := X.cell
    have hf := X.frozen
    have HB : Hid (Below w.heap.size w w1) := Lib.hid ((bel1 _ _).trans (hb1.mono (by simp)))
    clear hb1
    go_wp2_with fail
    refine bodyPost_ret (v := poV 0 0 0 0 (.slice none 0 0) (.slice none 0 0) false 1) (by simp [results, Try.results18, go_sem, poV, *]) rfl ?_
    refine PoPost.plain (by rw [HR.out]; rfl) (by rw [HR.out]; rfl) (by rw [HR.out]; rfl) ?_
    exact (((((((HB.out.setCell (Nat.le_refl _) _).setCell (Nat.le_refl _) _).setCell (Nat.le_refl _) _).setCell (Nat.le_refl _) _).setCell (Nat.le_refl _) _).setCell (Nat.le_refl _) _).setCell (Nat.le_refl _) _).setCell (Nat.le_refl _) _
  · have HR : Hid (newR e = ⟨e, 0, 0, 0, [], [], false, 0⟩) := Lib.hid (by simp [newR, h])
    go_enter Try.func18, Try.ntmps18
    go_wp2_with (first | (go_at_call 57; refine (specEpoch_any _ _).mono ?_; rintro e w' ⟨rfl, rfl⟩))
    refine bodyPost_ret (v := poV e 0 0 0 (.slice none 0 0) (.slice none 0 0) false 0) (by simp [results, Try.results18, go_sem, poV]) rfl ?_
    refine PoPost.plain (by rw [HR.out]) (by rw [HR.out]) (by rw [HR.out]) ?_
    go_grown
theorem implPipeNew_any (e : Int) (w : World) : Calls Try.prog 19 #[.int .i64 e] w (PoPost (newR e) w) := by
  cases h : isEpoch e
  · have HR : Hid (newR e = poIll 1) := Lib.hid (by simp [newR, h])
    go_enter Try.func19, Try.ntmps19
    go_wp2_with (first | (go_at_call 59; refine (implEpoch_any _ _).mono ?_; rintro e w' ⟨rfl, rfl⟩))
    refine bodyPost_ret (v := poV 0 0 0 0 (.slice none 0 0) (.slice none 0 0) false 1) (by simp [results, Try.results19, go_sem, poV]) rfl ?_
    refine PoPost.plain (by rw [HR.out]; rfl) (by rw [HR.out]; rfl) (by rw [HR.out]; rfl) ?_
    go_grown
  · have HR : Hid (newR e = ⟨e, 0, 0, 0, [], [], false, 0⟩) := Lib.hid (by simp [newR, h])
    go_enter Try.func19, Try.ntmps19
    go_wp2_with (first | (go_at_call 59; refine (implEpoch_any _ _).mono ?_; rintro e w' ⟨rfl, rfl⟩))
    refine bodyPost_ret (v := poV e 0 0 0 (.slice none 0 0) (.slice none 0 0) false 0) (by simp [results, Try.results19, go_sem, poV]) rfl ?_
    refine PoPost.plain (by rw [HR.out]) (by rw [HR.out]) (by rw [HR.out]) ?_
    go_grown
end Go.Proofs.Ytfmhccmaeonbhaa
