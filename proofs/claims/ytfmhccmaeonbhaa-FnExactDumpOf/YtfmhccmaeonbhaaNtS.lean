/- Notes: a law's own note opened, and turned into the program's. -/
import Derived.Test.YtfmhccmaeonbhaaNtR
import Derived.Test.YtfmhccmaeonbhaaB7
import Derived.Deep.CutRange
namespace Go.Proofs.Ytfmhccmaeonbhaa
open Go.RowKit

theorem sub_at {cs : List Value} {o n j : Nat} {x : Value} (h : ((cs.drop o).take n)[j]? = some x) : cs[o + j]? = some x := by
  rw [List.getElem?_take] at h
  split at h
  · rwa [List.getElem?_drop] at h
  · cases h
theorem arr8 {cs : Array Value} {a0 a1 a2 a3 a4 a5 a6 a7 : Value} (h : cs.size = 8) (e0 : cs.toList[0]? = some a0) (e1 : cs.toList[1 + 0]? = some a1) (e2 : cs.toList[1 + 1]? = some a2) (e3 : cs.toList[1 + 2]? = some a3) (e4 : cs.toList[1 + 3]? = some a4) (e5 : cs.toList[1 + 4]? = some a5) (e6 : cs.toList[1 + 5]? = some a6) (e7 : cs.toList[1 + 6]? = some a7) : cs = #[a0, a1, a2, a3, a4, a5, a6, a7] := by
  obtain ⟨l⟩ := cs
  match l, h with
  | [c0, c1, c2, c3, c4, c5, c6, c7], _ => simp at e0 e1 e2 e3 e4 e5 e6 e7; subst e0 e1 e2 e3 e4 e5 e6 e7; rfl
theorem cells_lnote : Try.prog.cellsOf 73 = 8 := by kernel_rfl
set_option maxRecDepth 100000 in
theorem note_open {H : Type} {enc : TypeId × Value → H} {w : World} {base : Nat} {sp : Nat → Bool} {held : Bool} {r : Reach} {b0 : Nat} {v : Value} {d : DataW H} {p : List MemPlace} (o : Value.okWide Try.prog w r b0 73 v) (h : DataW.Trod enc Try.prog w base sp held 73 v d p) : ∃ K x, v = ntV K x := by
  obtain ⟨cs, rfl, hsz, hf⟩ := struct_open Try.underlying73 o h
  obtain ⟨a0, e0, _⟩ := int_at Try.underlying2 cells_int (hf 0 _ rfl)
  have hg := struct_reads Try.underlying67 (hf 1 _ rfl)
  obtain ⟨a1, e1, _⟩ := int_at Try.underlying2 cells_int (hg 0 _ rfl)
  obtain ⟨a2, e2, _⟩ := int_at Try.underlying2 cells_int (hg 1 _ rfl)
  obtain ⟨a3, e3, _⟩ := int_at Try.underlying2 cells_int (hg 2 _ rfl)
  obtain ⟨a4, e4, _⟩ := int_at Try.underlying2 cells_int (hg 3 _ rfl)
  obtain ⟨a5, e5, _⟩ := int_at Try.underlying2 cells_int (hg 4 _ rfl)
  obtain ⟨a6, e6, _⟩ := int_at Try.underlying2 cells_int (hg 5 _ rfl)
  obtain ⟨a7, e7⟩ := bool_at Try.underlying4 cells_bool (hg 6 _ rfl)
  obtain rfl := arr8 (hsz.trans cells_lnote) e0 (sub_at e1) (sub_at e2) (sub_at e3) (sub_at e4) (sub_at e5) (sub_at e6) (sub_at e7)
  exact ⟨a0, ⟨a1, a2, a3, a4, a5, a6, a7⟩, rfl⟩
set_option maxHeartbeats 2000000 in
theorem toNote_any (K : Int) (r : Rt) (w : World) : Calls Try.prog 55 #[ntV K r] w fun e w' => e = .returned (ntV K r) ∧ Below w.heap.size w w' := by
  have HT := Lib.hid (toRoute_any r.kind r.vni r.mac r.ip r.org r.seq r.st)
  unfold ntV rtV at *
  go_enter Try.func55, Try.ntmps55
  go_wp2_with fail
  refine (HT.out _).mono ?_
  rintro e w1 ⟨rfl, hb1⟩
  obtain ⟨B1, h1⟩ : ∃ q, q = w.heap.size + 1 := ⟨_, rfl⟩
  obtain ⟨B2, h2⟩ : ∃ q, q = w.heap.size + 1 + 1 := ⟨_, rfl⟩
  have Y : Blk w1 B1 76 #[.int .i64 0, .int .i64 0, .int .i64 0, .int .i64 0, .int .i64 0, .int .i64 0, .int .i64 0, .bool false] := by
    refine Blk.kept ?_ hb1
    refine Blk.alloc ?_ _
    have := Blk.new (w.alloc (.cells #[.int .i64 K, .int .i64 r.kind, .int .i64 r.vni, .int .i64 r.mac, .int .i64 r.ip, .int .i64 r.org, .int .i64 r.seq, .bool r.st] 73)) 76 #[.int .i64 0, .int .i64 0, .int .i64 0, .int .i64 0, .int .i64 0, .int .i64 0, .int .i64 0, .bool false]
    subst h1
    simpa using this
  have X : Blk w1 B2 76 #[.int .i64 K, .int .i64 0, .int .i64 0, .int .i64 0, .int .i64 0, .int .i64 0, .int .i64 0, .bool false] := by
    refine Blk.kept ?_ hb1
    have := Blk.new ((w.alloc (.cells #[.int .i64 K, .int .i64 r.kind, .int .i64 r.vni, .int .i64 r.mac, .int .i64 r.ip, .int .i64 r.org, .int .i64 r.seq, .bool r.st] 73)).alloc (.cells #[.int .i64 0, .int .i64 0, .int .i64 0, .int .i64 0, .int .i64 0, .int .i64 0, .int .i64 0, .bool false] 76)) 76 #[.int .i64 K, .int .i64 0, .int .i64 0, .int .i64 0, .int .i64 0, .int .i64 0, .int .i64 0, .bool false]
    subst h2
    simpa using this
  have HB : Hid (Below w.heap.size w w1) := Lib.hid (by
    refine Below.trans ?_ (hb1.mono (by simp; omega))
    go_grown)
  have hw1 : w.heap.size ≤ B1 := by omega
  have hw2 : w.heap.size ≤ B2 := by omega
  have h12 : B1 ≠ B2 := by omega
  clear hb1
  rw [← h2, ← h1]
  clear h1 h2
  have cX := X.cell
  have fX := X.frozen
  go_upto_region 4 with fail
  obtain ⟨W2, hW2⟩ : ∃ W, W = ((((((w1.setCell ⟨B2, 1, none⟩ (.int .i64 r.kind)).setCell ⟨B2, 2, none⟩ (.int .i64 r.vni)).setCell ⟨B2, 3, none⟩ (.int .i64 r.mac)).setCell ⟨B2, 4, none⟩ (.int .i64 r.ip)).setCell ⟨B2, 5, none⟩ (.int .i64 r.org)).setCell ⟨B2, 6, none⟩ (.int .i64 r.seq)).setCell ⟨B2, 7, none⟩ (.bool r.st) := ⟨_, rfl⟩
  rw [← hW2]
  replace X : Blk W2 B2 76 #[.int .i64 K, .int .i64 r.kind, .int .i64 r.vni, .int .i64 r.mac, .int .i64 r.ip, .int .i64 r.org, .int .i64 r.seq, .bool r.st] := by
    have := (((((((X.set 1 (.int .i64 r.kind)).set 2 (.int .i64 r.vni)).set 3 (.int .i64 r.mac)).set 4 (.int .i64 r.ip)).set 5 (.int .i64 r.org)).set 6 (.int .i64 r.seq)).set 7 (.bool r.st))
    subst hW2
    simpa using this
  replace Y : Blk W2 B1 76 #[.int .i64 0, .int .i64 0, .int .i64 0, .int .i64 0, .int .i64 0, .int .i64 0, .int .i64 0, .bool false] := by
    subst hW2
    exact ((((((Y.far h12).far h12).far h12).far h12).far h12).far h12).far h12
  replace HB : Hid (Below w.heap.size w W2) := Lib.hid (by
    subst hW2
    exact ((((((HB.out.setCell hw2 _).setCell hw2 _).setCell hw2 _).setCell hw2 _).setCell hw2 _).setCell hw2 _).setCell hw2 _)
  clear hW2 cX fX
  have cX := X.cell
  have cY := Y.cell
  have fY := Y.frozen
  go_wp2_with fail
  refine bodyPost_ret (v := ntV K r) (by simp [results, Try.results55, go_sem, ntV, *]) rfl ⟨rfl, ?_⟩
  exact (((((((HB.out.setCell hw1 _).setCell hw1 _).setCell hw1 _).setCell hw1 _).setCell hw1 _).setCell hw1 _).setCell hw1 _).setCell hw1 _
end Go.Proofs.Ytfmhccmaeonbhaa
