/- Marks: a number's text; set into a slice of strings, and held there. -/
import Derived.Test.YtglealihdkecpaaGreatStsQ
namespace Go.Proofs.YtglealihdkecpaaGreat
open Go.RowKit

/- the digits of a number, ahead of what is there -/
def mtD (k : Nat) (acc : List UInt8) : List UInt8 := if k = 0 then acc else mtD (k / 10) (UInt8.ofNat (48 + k % 10) :: acc)
termination_by k
decreasing_by omega
theorem mtD_zero (acc : List UInt8) : mtD 0 acc = acc := by rw [mtD, if_pos rfl]
theorem mtD_step (k : Nat) (acc : List UInt8) (h : k ≠ 0) : mtD k acc = mtD (k / 10) (UInt8.ofNat (48 + k % 10) :: acc) := by rw [mtD, if_neg h]
def mt (k : Nat) : ByteArray := strOf (109 :: mtD k [])
def marks (k n : Nat) : List ByteArray := (List.range n).map fun i => mt (k + i)
theorem marks_len (k n : Nat) : (marks k n).length = n := by simp [marks]
theorem marks_at (k n i : Nat) (h : i < (marks k n).length) : (marks k n)[i] = mt (k + i) := by simp [marks]
set_option maxHeartbeats 1000000 in
theorem markText_any (k : Nat) (w : World) (h0 : 0 < k) (hk : k ≤ 1000000000000) :
    Calls Tryz.prog 190 #[.int .i64 (k : Int)] w fun e w' => e = .returned (.string (mt k)) ∧ Below w.heap.size w w' := by
  have hi0 : ¬ (k : Int) ≤ 0 := by omega
  go_enter Tryz.func190, Tryz.ntmps190
  go_wp2_with fail
  go_loopw [0, 3] (fun x y wr => ∃ (j : Nat) (acc : List UInt8), j + acc.length ≤ k ∧ x = .int .i64 (j : Int) ∧ y = .string (strOf acc) ∧ Hid (mtD j acc = mtD k []) ∧ Hid (Below w.heap.size w wr)) (fun x _ _ => (intOf x).toNat)
  case atStart => exact ⟨k, [], by simp, rfl, rfl, Lib.hid rfl, Lib.hid (Below.refl _ _)⟩
  case round =>
    obtain ⟨j, acc, hj, rfl, rfl, HM, HB⟩ := hrel
    by_cases hz : j = 0
    · subst hz
      have HR : Hid (mt k = ⟨#[109]⟩ ++ strOf acc) := Lib.hid (by
        rw [mt, ← HM.out, mtD_zero, app_strOf, strOf_list]; rfl)
      have hsz : (strOf acc).size = acc.length := strOf_size acc
      have hc : ¬ 9223372036854775807 < 1 + (strOf acc).size := by omega
      generalize strOf acc = A at *
      clear HM hsz
      go_wp2_with fail
      go_ret
      exact ⟨str_ret HR.out.symm, HB.out⟩
    · have hpos : (0 : Int) < (j : Int) := by omega
      have hd : ((j / 10 : Nat) : Int) = (j : Int) / 10 := by omega
      have HM2 : Hid (mtD (j / 10) (UInt8.ofNat (48 + j % 10) :: acc) = mtD k []) := Lib.hid (by rw [← HM.out, mtD_step j acc hz])
      have hb : Value.int .u8 (48 + (j : Int) % 10) = byteV (UInt8.ofNat (48 + j % 10)) := byte_of _ _ (by omega) (by omega)
      have hcv := fun W : World => own_string (P := Tryz.prog) (l := [UInt8.ofNat (48 + j % 10)]) 212 9 (World.ownsRow_lit (base := 0) (e := 5) (size := 1) W #[byteV (UInt8.ofNat (48 + j % 10))] 1 (Nat.zero_le _) (by unfold maxLen; omega) rfl) Tryz.underlying212 Tryz.underlying5 Tryz.underlying9
      rw [← hb] at hcv
      have HA : Hid (strOf [UInt8.ofNat (48 + j % 10)] ++ strOf acc = strOf (UInt8.ofNat (48 + j % 10) :: acc)) := Lib.hid (by rw [app_strOf, strOf_list, strOf_list]; rfl)
      have hs1 : (strOf [UInt8.ofNat (48 + j % 10)]).size = 1 := strOf_size _
      have hs2 : (strOf acc).size = acc.length := strOf_size acc
      have hc : ¬ 9223372036854775807 < (strOf [UInt8.ofNat (48 + j % 10)]).size + (strOf acc).size := by omega
      generalize UInt8.ofNat (48 + j % 10) = c at *
      generalize strOf [c] = C at *
      clear hs1 hs2 hb
      go_wp2_with fail
      go_roundw
      case rel => exact ⟨j / 10, c :: acc, by simp; omega, by rw [hd], by rw [HA.out], HM2, Lib.hid (HB.out.alloc HB.out.size _)⟩
      case measure => simp [intOf]; omega

/- a row into which marks are being set: the first i are there -/
def MkFill (W : World) (B g cap n k : Nat) (i : Nat) : Prop := ∃ zs, W.ownsRow B 9 1 (.slice (some ⟨g, 0, none⟩) n cap) n zs ∧ ∀ m, m < i → zs[m]? = some (.string (mt (k + m)))
theorem MkFill.step {W : World} {B g cap n k i : Nat} (h : MkFill W B g cap n k i) (hi : i < n) : MkFill (W.setCell ⟨g, i, none⟩ (.string (mt (k + i)))) B g cap n k (i + 1) := by
  obtain ⟨zs, h1, h2⟩ := h
  refine ⟨_, (h1.stored i (.string (mt (k + i)))).1, fun m hm => ?_⟩
  by_cases e : m = i
  · subst e; rw [List.getElem?_set_self (by rw [h1.1]; omega)]
  · rw [List.getElem?_set_ne (by omega)]; exact h2 m (by omega)
theorem MkFill.cell {W : World} {B g cap n k i : Nat} (h : MkFill W B g cap n k i) (hi : i < n) : (∃ z, W.cell? ⟨g, i, none⟩ = some z) ∧ W.frozen? ⟨g, i, none⟩ = false := by
  obtain ⟨zs, h1, h2⟩ := h
  refine ⟨⟨zs[i]'(by rw [h1.1]; omega), ?_⟩, h1.frozenAt i⟩
  rw [h1.cellAt i (by omega), List.getElem?_eq_getElem (by rw [h1.1]; omega)]
theorem MkFill.below {W W' : World} {B g cap n k i : Nat} (h : MkFill W B g cap n k i) (hb : Below W.heap.size W W') : MkFill W' B g cap n k i := by
  obtain ⟨zs, h1, h2⟩ := h
  exact ⟨zs, own_below h1 hb, h2⟩
theorem MkFill.done {W : World} {B g cap n k : Nat} (h : MkFill W B g cap n k n) : W.ownsRow B 9 1 (.slice (some ⟨g, 0, none⟩) n cap) (marks k n).length (strsV (marks k n)) := by
  obtain ⟨zs, h1, h2⟩ := h
  have : zs = strsV (marks k n) := by
    apply List.ext_getElem?
    intro m
    by_cases hm : m < n
    · rw [h2 m hm]; simp [strsV, marks, hm]
    · rw [List.getElem?_eq_none (by rw [h1.1]; omega), List.getElem?_eq_none (by simp [strsV, marks]; omega)]
  rw [← this, marks_len]
  exact h1
theorem grownS_trans {a b c : World} {row : Option Nat} (h : a.grownBy b row) (h' : b.grownBy c row) : a.grownBy c row :=
  ⟨h'.os.trans h.os, h'.tape.trans h.tape, h'.output.trans h.output, Nat.le_trans h.size h'.size, fun k hk hr => (h'.block k (Nat.lt_of_lt_of_le hk h.size) hr).trans (h.block k hk hr)⟩
def MkPost (B : Nat) (v : Value) (k n : Nat) (w : World) (e : Ending) (w' : World) : Prop :=
  e = .returned (.int .i64 ((k + n : Nat) : Int)) ∧ w'.ownsRow B 9 1 v (marks k n).length (strsV (marks k n)) ∧ w.grownBy w' v.ownBlock
set_option maxHeartbeats 1000000 in
theorem markStringS_any (B : Nat) (v : Value) (k n : Nat) (xs : List Value) (w : World) (h : w.ownsRow B 9 1 v n xs) (h0 : 0 < k) (hk : k + n ≤ 1000000000) :
    Calls Tryz.prog 156 #[v, .int .i64 (k : Int)] w (MkPost B v k n w) := by
  have HO := h
  obtain ⟨hl, ⟨rfl, rfl⟩ | ⟨g, cap, cur, rfl, hb, hh, hn, hm, hz, ht⟩⟩ := h
  · clear HO
    go_enter Tryz.func156, Tryz.ntmps156
    go_wp2_with fail
    go_loopw [1, 5] (fun x u wr => x = .int .i64 (k : Int) ∧ u = .int .i64 0 ∧ Hid (wr = w)) (fun _ _ _ => 0)
    case atStart => exact ⟨rfl, rfl, Lib.hid rfl⟩
    case round =>
      obtain ⟨rfl, rfl, HW⟩ := hrel
      have hw := HW.out
      clear HW
      subst hw
      go_wp2_with fail
      go_ret
      exact ⟨rfl, World.ownsRow_nil _ _ _ _, World.grownBy.refl _ _⟩
  · have HF : Hid (MkFill w B g cap n k 0) := Lib.hid ⟨xs, HO, fun m hm => by omega⟩
    clear HO hl hh hz ht hm hb
    go_enter Tryz.func156, Tryz.ntmps156
    go_wp2_with fail
    go_loopw [1, 5] (fun x u wr => ∃ i : Nat, i ≤ n ∧ u = .int .i64 (i : Int) ∧ x = .int .i64 ((k : Int) + (i : Int)) ∧ Hid (MkFill wr B g cap n k i) ∧ Hid (w.grownBy wr (some g))) (fun _ u _ => n - (intOf u).toNat)
    case atStart => exact ⟨0, Nat.zero_le _, rfl, by simp, HF, Lib.hid (World.grownBy.refl _ _)⟩
    case round =>
      obtain ⟨i, hi, rfl, rfl, HF, HG⟩ := hrel
      by_cases hlt : i < n
      · have hl1 : (i : Int) < n := by omega
        have HT := Lib.hid (fun w => markText_any (k + i) w (by omega) (by omega))
        rw [Int.natCast_add] at HT
        go_wp2_with fail
        refine (HT.out _).mono ?_
        rintro e w1 ⟨rfl, hb1⟩
        have HF1 := HF.out.below hb1
        obtain ⟨⟨z, c0⟩, f0⟩ := HF1.cell hlt
        have HF2 := Lib.hid (HF1.step hlt)
        have HG2 : Hid (w.grownBy (w1.setCell ⟨g, i, none⟩ (.string (mt (k + i)))) (some g)) := Lib.hid (grownS_trans (grownS_trans HG.out (below_grown' hb1)) (by
          obtain ⟨zs, h1, _⟩ := HF1
          exact (h1.stored i _).2))
        clear HF HG HF1 hb1
        generalize mt (k + i) = s at HF2 HG2
        go_wp2_with fail
        go_roundw
        case rel => exact ⟨i + 1, by omega, by simp, by simp; omega, HF2, HG2⟩
        case measure => simp [intOf]; omega
      · have hin : i = n := by omega
        subst hin
        go_wp2_with fail
        go_ret
        exact ⟨by simp, HF.out.done, HG.out⟩
set_option maxHeartbeats 1000000 in
theorem heldStringS_any (v : Value) (k n : Nat) (w : World) (h : StsAt w v (marks k n)) (h0 : 0 < k) (hk : k + n ≤ 1000000000) :
    Calls Tryz.prog 179 #[v, .int .i64 (k : Int)] w fun e w' => e = .returned (.int .i64 ((k + n : Nat) : Int)) ∧ Below w.heap.size w w' := by
  obtain ⟨a, cap, rfl, _, _, _, h⟩ := h
  have HH := Lib.hid h
  clear h
  rw [marks_len]
  go_enter Tryz.func179, Tryz.ntmps179
  go_wp2_with fail
  go_loopw [1, 5] (fun x u wr => ∃ i : Nat, i ≤ n ∧ u = .int .i64 (i : Int) ∧ x = .int .i64 ((k : Int) + (i : Int)) ∧ Hid (Below w.heap.size w wr)) (fun _ u _ => n - (intOf u).toNat)
  case atStart => exact ⟨0, Nat.zero_le _, rfl, by simp, Lib.hid (Below.refl _ _)⟩
  case round =>
    obtain ⟨i, hi, rfl, rfl, HB⟩ := hrel
    by_cases hlt : i < n
    · have hir : i < (marks k n).length := by rw [marks_len]; exact hlt
      have hne : marks k n ≠ [] := fun e => by rw [e] at hir; simp at hir
      obtain ⟨b, off, ha, hb, HE⟩ := HH.out hne
      subst ha
      have hl1 : (i : Int) < n := by omega
      have HT := Lib.hid (fun w => markText_any (k + i) w (by omega) (by omega))
      rw [Int.natCast_add] at HT
      have HC := Lib.hid (HE i hir)
      rw [marks_at] at HC
      generalize mt (k + i) = s at HT HC
      clear HE
      have S0 : Below w.heap.size w wr.drew := HB.out.drew
      go_wp2_with fail
      refine wp_region_held_drew (S := fun W' => Below w.heap.size w W') (by kernel_rfl) S0 (fun hHeld => ?_)
      clear hHeld
      refine wpAnyH_take (i := 0) (oi := { dst := some 12, op := Op.move (Operand.tmp 0), type := 79, pos := "exact.go:487", after := #[], guard := none }) (v := ?vva1) rfl (by kernel_rfl) (by kernel_rfl) (by kernel_rfl) (fun _ _ _ h => h) (Or.inl ⟨by rfl, ?hya1⟩) S0 ?resta1
      case hya1 => (intro w hSw; have p0 := (hSw.cell (p := ⟨b, off + i, none⟩) hb).trans HC.out;go_simp <;> with_reducible rfl)
      try simp only [Act.put, List.setIfInBounds_toArray, List.set_cons_zero, List.set_cons_succ]
      refine wpAnyH_take (i := 1) (oi := { dst := some 13, op := Op.move (Operand.tmp 5), type := 3, pos := "exact.go:487", after := #[], guard := none }) (v := ?vva2) rfl (by kernel_rfl) (by kernel_rfl) (by kernel_rfl) (fun _ _ _ h => h) (Or.inl ⟨by rfl, ?hya2⟩) S0 ?resta2
      case hya2 => (intro w hSw; have p0 := (hSw.cell (p := ⟨b, off + i, none⟩) hb).trans HC.out;go_simp <;> with_reducible rfl)
      try simp only [Act.put, List.setIfInBounds_toArray, List.set_cons_zero, List.set_cons_succ]
      refine wpAnyH_take (i := 2) (oi := { dst := some 14, op := Op.indexAddr 79 (Operand.tmp 12) (Operand.tmp 13), type := 0, pos := "exact.go:487", after := #[{ on := 0, ground := Ground.data }, { on := 1, ground := Ground.data }], guard := none }) (v := ?vva3) rfl (by kernel_rfl) (by kernel_rfl) (by kernel_rfl) (fun _ _ _ h => h) (Or.inl ⟨by rfl, ?hya3⟩) S0 ?resta3
      case hya3 => (intro w hSw; have p0 := (hSw.cell (p := ⟨b, off + i, none⟩) hb).trans HC.out;go_simp <;> with_reducible rfl)
      try simp only [Act.put, List.setIfInBounds_toArray, List.set_cons_zero, List.set_cons_succ]
      refine wpAnyH_take (i := 3) (oi := { dst := some 15, op := Op.load 9 (Operand.tmp 14), type := 9, pos := "exact.go:487", after := #[{ on := 2, ground := Ground.data }], guard := none }) (v := ?vva4) rfl (by kernel_rfl) (by kernel_rfl) (by kernel_rfl) (fun _ _ _ h => h) (Or.inl ⟨by rfl, ?hya4⟩) S0 ?resta4
      case hya4 => (intro w hSw; have p0 := (hSw.cell (p := ⟨b, off + i, none⟩) hb).trans HC.out;go_simp <;> with_reducible rfl)
      try simp only [Act.put, List.setIfInBounds_toArray, List.set_cons_zero, List.set_cons_succ]
      refine wpAnyH_take (i := 4) (oi := { dst := some 16, op := Op.move (Operand.tmp 1), type := 3, pos := "exact.go:487", after := #[], guard := none }) (v := ?vva5) rfl (by kernel_rfl) (by kernel_rfl) (by kernel_rfl) (fun _ _ _ h => h) (Or.inl ⟨by rfl, ?hya5⟩) S0 ?resta5
      case hya5 => (intro w hSw; have p0 := (hSw.cell (p := ⟨b, off + i, none⟩) hb).trans HC.out;go_simp <;> with_reducible rfl)
      try simp only [Act.put, List.setIfInBounds_toArray, List.set_cons_zero, List.set_cons_succ]
      refine wpAnyH_ready (rs := [5]) (by kernel_rfl) (by simp) ?_
      refine AllReadyH.cons (o := { dst := some 17, op := Op.call { callee := Callee.value (Operand.func 190), args := #[Operand.tmp 16], argTypes := #[3] }, type := 9, pos := "exact.go:487", after := #[{ on := 4, ground := Ground.data }], guard := none }) rfl (fun K hK => ?_) AllReadyH.nil
      go_simp
      refine (HT.out _).mono ?_
      rintro e w1 ⟨rfl, hb1⟩
      replace S0 := S0.trans (hb1.mono S0.size)
      clear hb1
      refine hK.out _ _ S0 (fun hHeld => ?_)
      clear hK K hHeld
      try simp only [Act.put, List.setIfInBounds_toArray, List.set_cons_zero, List.set_cons_succ]
      refine wpAnyH_take (i := 6) (oi := { dst := some 18, op := Op.binOp BinOp.neq 9 (Operand.tmp 15) (Operand.tmp 17) 9, type := 4, pos := "exact.go:487", after := #[{ on := 3, ground := Ground.data }, { on := 5, ground := Ground.data }], guard := none }) (v := ?vva6) rfl (by kernel_rfl) (by kernel_rfl) (by kernel_rfl) (fun _ _ _ h => h) (Or.inl ⟨by rfl, ?hya6⟩) S0 ?resta6
      case hya6 => (intro w hSw; have p0 := (hSw.cell (p := ⟨b, off + i, none⟩) hb).trans HC.out;go_simp <;> with_reducible rfl)
      try simp only [Act.put, List.setIfInBounds_toArray, List.set_cons_zero, List.set_cons_succ]
      refine wpAnyH_done (by kernel_rfl) ?_ _
      go_wp2_with fail
      go_roundw
      case rel => exact ⟨i + 1, by omega, by simp, by simp; omega, Lib.hid S0⟩
      case measure => simp [intOf]; omega
    · have : i = n := by omega
      subst this
      go_wp2_with fail
      go_ret
      exact ⟨by simp, HB.out⟩
end Go.Proofs.YtglealihdkecpaaGreat
