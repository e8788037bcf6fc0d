/- Slices of strings: two that hold the same are found equal; a law's own turned into the program's; its size; marks set and held. -/
import Derived.Test.YtglealihdkecpaaGreatStr
import Derived.Deep.RegionHeld3
import Derived.Deep.QuietTactic
import Derived.BigQuiet
namespace Go.Proofs.YtglealihdkecpaaGreat
open Go.RowKit

theorem below_drewN {B : Nat} {a w : World} (h : Below B a w) (n : Nat) : Below B a (w.drewN n) := ⟨h.os, h.tape, h.output, h.size, h.block⟩
set_option maxHeartbeats 1000000 in
theorem eqStringS_same (l : List ByteArray) (v v' : Value) (w : World) (h : StsAt w v l) (h' : StsAt w v' l) :
    Calls Tryz.prog 178 #[v, v'] w fun e w' => e = .returned (.bool true) ∧ Below w.heap.size w w' := by
  have hn := h.len_le
  obtain ⟨a, cap, rfl, _, _, _, h⟩ := h
  obtain ⟨a', cap', rfl, _, _, _, h'⟩ := h'
  have HH := Lib.hid h
  have HH' := Lib.hid h'
  clear h h'
  obtain ⟨n, hnn⟩ : ∃ n, n = l.length := ⟨_, rfl⟩
  rw [← hnn] at hn ⊢
  have HN := Lib.hid hnn
  clear hnn
  go_enter Tryz.func178, Tryz.ntmps178
  go_wp2_with fail
  go_loopw [5] (fun u wr => ∃ i : Nat, i ≤ n ∧ u = .int .i64 (i : Int) ∧ Hid (Below w.heap.size w wr)) (fun u _ => n - (intOf u).toNat)
  case atStart => exact ⟨0, Nat.zero_le _, rfl, Lib.hid (Below.refl _ _)⟩
  case round =>
    obtain ⟨i, hi, rfl, HB⟩ := hrel
    by_cases hlt : i < n
    · have hir : i < l.length := by rw [← HN.out]; exact hlt
      have hne : l ≠ [] := fun e => by rw [e] at hir; simp at hir
      obtain ⟨b, off, ha, hb, HE⟩ := HH.out hne
      obtain ⟨b', off', ha', hb', HE'⟩ := HH'.out hne
      subst ha ha'
      have hl1 : (i : Int) < n := by omega
      have p0 := (HB.out.cell (p := ⟨b, off + i, none⟩) hb).trans (HE i hir)
      have q0 := (HB.out.cell (p := ⟨b', off' + i, none⟩) hb').trans (HE' i hir)
      clear HE HE'
      generalize l[i] = s at p0 q0
      go_wp2_with fail
      go_quiet (fail)
      go_wp2_with fail
      go_roundw
      case rel => exact ⟨i + 1, by omega, by simp, Lib.hid (below_drewN HB.out nq)⟩
      case measure => simp [intOf]; omega
    · have : i = n := by omega
      subst this
      go_wp2_with fail
      go_ret
      exact ⟨rfl, HB.out⟩

theorem info_str : (Tryz.prog.info? 9).map (fun i => (i.zero, i.size, i.bytes)) = some (some (.string ⟨#[]⟩), 1, 16) := by kernel_rfl
/- a slice of strings that the call has made -/
def StsPost (l : List ByteArray) (w : World) (e : Ending) (w' : World) : Prop := ∃ v, e = .returned v ∧ w'.ownsRow w.heap.size 9 1 v l.length (strsV l) ∧ Below w.heap.size w w'
/- a row that is being filled -/
def StsFill (W : World) (B g n : Nat) (l : List ByteArray) (i : Nat) : Prop := ∃ zs, W.ownsRow B 9 1 (.slice (some ⟨g, 0, none⟩) n n) n zs ∧ ∀ k, k < i → ∀ h : k < l.length, zs[k]? = some (.string l[k])
theorem StsFill.step {W : World} {B g n i : Nat} {l : List ByteArray} (h : StsFill W B g n l i) (hi : i < n) (hl : i < l.length) : StsFill (W.setCell ⟨g, i, none⟩ (.string l[i])) B g n l (i + 1) := by
  obtain ⟨zs, h1, h2⟩ := h
  refine ⟨_, (h1.stored i (.string l[i])).1, fun k hk hkl => ?_⟩
  by_cases e : k = i
  · subst e; rw [List.getElem?_set_self (by rw [h1.1]; omega)]
  · rw [List.getElem?_set_ne (by omega)]; exact h2 k (by omega) hkl
theorem StsFill.cell {W : World} {B g n i : Nat} {l : List ByteArray} (h : StsFill W B g n l i) (hi : i < n) : (∃ z, W.cell? ⟨g, i, none⟩ = some z) ∧ W.frozen? ⟨g, i, none⟩ = false := by
  obtain ⟨zs, h1, h2⟩ := h
  refine ⟨⟨zs[i]'(by rw [h1.1]; omega), ?_⟩, h1.frozenAt i⟩
  rw [h1.cellAt i (by omega), List.getElem?_eq_getElem (by rw [h1.1]; omega)]
theorem StsFill.done {W : World} {B g n : Nat} {l : List ByteArray} (h : StsFill W B g n l n) (hn : l.length = n) : W.ownsRow B 9 1 (.slice (some ⟨g, 0, none⟩) n n) l.length (strsV l) := by
  obtain ⟨zs, h1, h2⟩ := h
  have : zs = strsV l := by
    apply List.ext_getElem?
    intro k
    by_cases hk : k < l.length
    · rw [h2 k (by omega) hk]; simp [strsV, hk]
    · rw [List.getElem?_eq_none (by rw [h1.1]; omega), List.getElem?_eq_none (by simp [strsV]; omega)]
  rw [← this, hn]
  exact h1
set_option maxHeartbeats 1000000 in
theorem toStringS_any (l : List ByteArray) (v : Value) (w : World) (h : StsAt w v l) (hn : l.length ≤ 1048576) :
    Calls Tryz.prog 160 #[v] w (StsPost l w) := by
  obtain ⟨i0, hi0, hz0, hz1, hz2⟩ := info_parts info_str
  obtain ⟨a, cap, rfl, _, _, _, h⟩ := h
  have HH := Lib.hid h
  clear h
  obtain ⟨n, hnn⟩ : ∃ n, n = l.length := ⟨_, rfl⟩
  rw [← hnn] at hn ⊢
  have HN := Lib.hid hnn
  clear hnn
  go_enter Tryz.func160, Tryz.ntmps160
  go_wp2_with (refine wpList_make_full _ rfl _ _ 79 rfl w.heap.size 9 i0 _ 1 Tryz.underlying79 hi0 hz0 hz1 .i64 .i64 _ _ n rfl rfl rfl rfl (by rw [hz2]; omega) (by unfold maxLen; omega) (Nat.le_refl _) ?_; intro w0 hown hg0; have HF : Hid (StsFill w0 w.heap.size w.heap.size n l 0) := Lib.hid ⟨_, hown, fun k hk => by omega⟩; have HB0 : Hid (Below w.heap.size w w0) := Lib.hid ((Below.refl _ _).grown hg0 (Nat.le_refl _) (fun k hk => by cases hk)); clear hown hg0)
  go_loopw [4] (fun u wr => ∃ i : Nat, i ≤ n ∧ u = .int .i64 (i : Int) ∧ Hid (StsFill wr w.heap.size w.heap.size n l i) ∧ Hid (Below w.heap.size w wr)) (fun u _ => n - (intOf u).toNat)
  case atStart => exact ⟨0, Nat.zero_le _, rfl, HF, HB0⟩
  case round =>
    obtain ⟨i, hi, rfl, HF, HB⟩ := hrel
    by_cases hlt : i < n
    · have hir : i < l.length := by rw [← HN.out]; exact hlt
      have hne : l ≠ [] := fun e => by rw [e] at hir; simp at hir
      obtain ⟨b, off, ha, hb, HE⟩ := HH.out hne
      subst ha
      have hl1 : (i : Int) < n := by omega
      have p0 := (HB.out.cell (p := ⟨b, off + i, none⟩) hb).trans (HE i hir)
      obtain ⟨⟨z, c0⟩, f0⟩ := HF.out.cell hlt
      have HF2 := Lib.hid (HF.out.step hlt hir)
      have HB2 : Hid (Below w.heap.size w (wr.setCell ⟨w.heap.size, i, none⟩ (.string l[i]))) := Lib.hid (HB.out.setCell (Nat.le_refl _) _)
      clear HE HF HB
      generalize l[i] = s at p0 HF2 HB2
      go_wp2_with fail
      go_roundw
      case rel => exact ⟨i + 1, by omega, by simp, HF2, HB2⟩
      case measure => simp [intOf]; omega
    · have hin : i = n := by omega
      subst hin
      go_wp2_with fail
      go_ret
      exact ⟨_, rfl, HF.out.done HN.out.symm, HB.out⟩
/- the size, as long as it is not too great -/
def SzPost (l : List ByteArray) (w : World) (e : Ending) (w' : World) : Prop := ∃ x : Int, e = .returned (.int .i64 x) ∧ (0 ≤ x → l.length ≤ 1048576 ∧ ∀ s ∈ l, s.size ≤ 1048576) ∧ x ≤ 1048576 ∧ w = w'
theorem mem_take {l : List ByteArray} {i : Nat} (h : i < l.length) {s : ByteArray} (hs : s ∈ l.take (i + 1)) : s ∈ l.take i ∨ s = l[i] := by
  rw [List.take_succ_eq_append_getElem h, List.mem_append, List.mem_singleton] at hs
  exact hs
set_option maxHeartbeats 1000000 in
theorem szStringS_any (l : List ByteArray) (v : Value) (L : Int) (w : World) (h : StsAt w v l) (hb : ∀ s ∈ l, s.size ≤ maxLen) (h0 : 0 ≤ L) (h1 : L ≤ 1048576) :
    Calls Tryz.prog 158 #[v, .int .i64 L] w (SzPost l w) := by
  have hn := h.len_le
  obtain ⟨a, cap, rfl, _, _, _, h⟩ := h
  have HH := Lib.hid h
  have HS := Lib.hid hb
  clear h hb
  obtain ⟨n, hnn⟩ : ∃ n, n = l.length := ⟨_, rfl⟩
  rw [← hnn] at hn ⊢
  have HN := Lib.hid hnn
  clear hnn
  by_cases hbig : L < (n : Int)
  · have hw : IntKind.i64.wrap (L - (n : Int)) = L - (n : Int) := by simp only [IntKind.wrap_i64]; omega
    have hneg : (L - (n : Int) : Int) < 0 := by omega
    go_enter Tryz.func158, Tryz.ntmps158
    go_wp2
    go_ret
    exact ⟨-1, rfl, fun h => absurd h (by omega), by omega, rfl⟩
  · have hneg : ¬ (L - (n : Int) : Int) < 0 := by omega
    go_enter Tryz.func158, Tryz.ntmps158
    go_wp2
    go_loopw [1, 5] (fun x u wr => ∃ (i : Nat) (X : Int), i ≤ n ∧ u = .int .i64 (i : Int) ∧ x = .int .i64 X ∧ 0 ≤ X ∧ X ≤ 1048576 ∧ Hid (∀ s ∈ l.take i, s.size ≤ 1048576) ∧ Hid (wr = w)) (fun _ u _ => n - (intOf u).toNat)
    case atStart => exact ⟨0, _, Nat.zero_le _, rfl, rfl, by omega, by omega, Lib.hid (fun s hs => by simp at hs), Lib.hid rfl⟩
    case round =>
      obtain ⟨i, X, hi, rfl, rfl, hX0, hX1, HT, HW⟩ := hrel
      have hw := HW.out
      clear HW
      subst hw
      by_cases hlt : i < n
      · have hir : i < l.length := by rw [← HN.out]; exact hlt
        have hne : l ≠ [] := fun e => by rw [e] at hir; simp at hir
        obtain ⟨b, off, ha, hb, HE⟩ := HH.out hne
        subst ha
        have hl1 : (i : Int) < n := by omega
        have p0 := HE i hir
        have hs := HS.out l[i] (List.getElem_mem hir)
        have HM : Hid (l[i].size ≤ 1048576 → ∀ s ∈ l.take (i + 1), s.size ≤ 1048576) := Lib.hid (fun h s hs => by
          rcases mem_take hir hs with h2 | rfl
          · exact HT.out s h2
          · exact h)
        clear HE
        generalize l[i] = s at p0 hs HM
        unfold maxLen at hs
        by_cases hsm : X < (s.size : Int)
        · have hneg2 : (X - (s.size : Int) : Int) < 0 := by omega
          go_wp2_with fail
          go_ret
          exact ⟨-1, rfl, fun h => absurd h (by omega), by omega, rfl⟩
        · have hneg2 : ¬ (X - (s.size : Int) : Int) < 0 := by omega
          go_wp2_with fail
          go_roundw
          case rel => exact ⟨i + 1, X - s.size, by omega, by simp, rfl, by omega, by omega, Lib.hid (HM.out (by omega)), Lib.hid trivial⟩
          case measure => simp [intOf]; omega
      · have hin : i = n := by omega
        subst hin
        go_wp2_with fail
        go_ret
        refine ⟨X, rfl, fun _ => ⟨by have := HN.out; omega, fun s hs => HT.out s ?_⟩, by omega, rfl⟩
        rw [List.take_of_length_le (by rw [HN.out]; exact Nat.le_refl _)]
        exact hs
end Go.Proofs.YtglealihdkecpaaGreat
