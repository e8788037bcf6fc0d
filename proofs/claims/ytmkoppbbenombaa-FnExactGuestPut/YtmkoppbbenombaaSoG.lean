/- slices.Collect, SortFunc at nil, SortedFunc over the keys of a map of guests. -/
import Derived.Test.YtmkoppbbenombaaKsA
namespace Go.Proofs.Ytmkoppbbenombaa
open Go.RowKit

def SeqPost (E : List (Gu × Nat)) (w : World) (e : Ending) (w' : World) : Prop := ∃ v xs, e = .returned v ∧ KeysOf E xs ∧ w'.ownsRow w.heap.size 106 2 v xs.length (rcells Nm.cl xs) ∧ Below w.heap.size w w'
theorem appendSeq_any (Bm M clock : Nat) (E : List (Gu × Nat)) (hE : E.length ≤ 1000) (w : World) (hlt : Bm < w.heap.size) (hBm : w.cell? ⟨Bm, 0, none⟩ = some (.map (some M))) (hM : MapG w M E clock) :
    Calls Try.prog 157 #[.slice none 0 0, .func (.func 149) #[] #[.pointer (some ⟨Bm, 0, none⟩)]] w (SeqPost E w) :=
  callsIn_wide.1 (appendSeq_in Fence.wide 5 trivial trivial rfl (by omega) Bm M clock E hE w hlt hBm hM)
theorem collect_any (Bm M clock : Nat) (E : List (Gu × Nat)) (hE : E.length ≤ 1000) (w : World) (hlt : Bm < w.heap.size) (hBm : w.cell? ⟨Bm, 0, none⟩ = some (.map (some M))) (hM : MapG w M E clock) :
    Calls Try.prog 147 #[.func (.func 149) #[] #[.pointer (some ⟨Bm, 0, none⟩)]] w (SeqPost E w) := by
  have HA := Lib.hid (appendSeq_any Bm M clock E hE w hlt hBm hM)
  unfold SeqPost at *
  clear hBm hM
  go_enter Try.func147, Try.ntmps147
  go_wp2_with fail
  refine HA.out.mono ?_
  rintro e w1 ⟨v, xs, rfl, hk, ho, hb⟩
  have HK := Lib.hid hk
  have HO := Lib.hid ho
  have HB := Lib.hid hb
  clear hk ho hb
  go_wp2_with fail
  go_ret
  exact ⟨v, xs, rfl, HK.out, HO.out, HB.out⟩
theorem keysFn_any (M : Nat) (w : World) :
    Calls Try.prog 129 #[.map (some M)] w fun e w' => e = .returned (.func (.func 149) #[] #[.pointer (some ⟨w.heap.size, 0, none⟩)]) ∧ w' = w.alloc (.cells #[.map (some M)] 103) := by
  have hmf : ∀ (fn : Fn) (first cap : Array Value) (w : World), (Instr.makeFunc fn first cap).run Try.prog w = .ok (.func fn first cap) w := fun _ _ _ _ => rfl
  go_enter Try.func129, Try.ntmps129
  go_wp2
  go_ret
  exact ⟨rfl, rfl⟩
theorem insNil_any (w : World) : Calls Try.prog 162 #[.slice none 0 0, .int .i64 0, .int .i64 0, .func (.func 127) #[] #[]] w fun e w' => (∃ v, e = .returned v) ∧ w = w' := by
  go_enter Try.func162, Try.ntmps162
  go_wp2_with fail
  go_loopw [8, 9] (fun u _ wr => u = .int .i64 1 ∧ Hid (wr = w)) (fun _ _ _ => 0)
  case atStart => exact ⟨rfl, Lib.hid rfl⟩
  case round =>
    obtain ⟨rfl, HW⟩ := hrel
    have hw := HW.out
    clear HW
    subst hw
    go_wp2_with fail
    go_end0
    exact ⟨⟨_, rfl⟩, rfl⟩
set_option maxRecDepth 100000 in
set_option maxHeartbeats 4000000 in
theorem pdqNil_any (lim : Int) (w : World) : Calls Try.prog 158 #[.slice none 0 0, .int .i64 0, .int .i64 0, .int .i64 lim, .func (.func 127) #[] #[]] w fun e w' => (∃ v, e = .returned v) ∧ w = w' := by
  have HI := Lib.hid (insNil_any w)
  go_enter Try.func158, Try.ntmps158
  go_wp2_with fail
  go_loopw [1, 2, 3, 10, 11] (fun a b c x y wr => a = .int .i64 0 ∧ b = .int .i64 0 ∧ c = .int .i64 lim ∧ x = .bool true ∧ y = .bool true ∧ Hid (wr = w)) (fun _ _ _ _ _ _ => 0)
  case atStart => exact ⟨rfl, rfl, rfl, rfl, rfl, Lib.hid rfl⟩
  case round =>
    obtain ⟨rfl, rfl, rfl, rfl, rfl, HW⟩ := hrel
    have hw2 := HW.out
    clear HW
    subst hw2
    go_wp2_with fail
    refine HI.out.mono ?_
    rintro e w1 ⟨⟨v, rfl⟩, rfl⟩
    go_wp2_with fail
    refine bodyPost_ret (results_none rfl _ _ _) rfl ?_
    exact ⟨⟨_, rfl⟩, rfl⟩
set_option maxRecDepth 100000 in
set_option maxHeartbeats 4000000 in
theorem sortNil_any (w : World) : Calls Try.prog 148 #[.slice none 0 0, .func (.func 127) #[] #[]] w fun e w' => (∃ v, e = .returned v) ∧ w = w' := by
  have HI := Lib.hid (fun (lim : Int) => pdqNil_any lim w)
  have HL := Lib.hid (bitsLen_any 0 w (by omega))
  simp only [Int.natCast_zero] at HL
  go_enter Try.func148, Try.ntmps148
  go_wp2_with fail
  refine HL.out.mono ?_
  rintro e w1 ⟨⟨lim, rfl⟩, rfl⟩
  go_wp2_with fail
  refine (HI.out lim).mono ?_
  rintro e w1 ⟨⟨v, rfl⟩, rfl⟩
  go_wp2_with fail
  go_end0
  exact ⟨⟨_, rfl⟩, rfl⟩
/- what SortedFunc answers -/
def SortPost (E : List (Gu × Nat)) (w : World) (e : Ending) (w' : World) : Prop := ∃ v xs, e = .returned v ∧ (xs.Pairwise LtN ∧ ∀ x, x ∈ xs ↔ ∃ q ∈ E, nmOf q.1 = x) ∧ w'.ownsRow w.heap.size 106 2 v xs.length (rcells Nm.cl xs) ∧ Below w.heap.size w w'
theorem up_pw {n : Nat} {s : Nat → Nm} (h : UpN n s) : ((List.range n).map s).Pairwise LtN := by
  rw [List.pairwise_iff_getElem]
  intro i j hi hj hij
  simp at hi hj
  simpa using h i j hij hj
theorem set_mem {n : Nat} {s0 s : Nat → Nm} (h : SetN n s0 s) (x : Nm) : x ∈ (List.range n).map s ↔ ∃ k, k < n ∧ s0 k = x := by
  rw [← h.mem x]
  simp
theorem setN_of {xs : List Nm} (h : xs.Nodup) : SetN xs.length (fun k => xs.getD k (0, 0)) (fun k => xs.getD k (0, 0)) := by
  refine ⟨fun a b ha hb hne e => ?_, fun z => Iff.rfl⟩
  have h1 : xs.getD a (0, 0) = xs[a] := by simp [List.getD, List.getElem?_eq_getElem ha]
  have h2 : xs.getD b (0, 0) = xs[b] := by simp [List.getD, List.getElem?_eq_getElem hb]
  rw [h1, h2] at e
  have hp := List.pairwise_iff_getElem.1 h
  rcases Nat.lt_trichotomy a b with k | k | k
  · exact hp a b ha hb k e
  · exact hne k
  · exact hp b a hb ha k e.symm
theorem getD_mem {xs : List Nm} (x : Nm) : (∃ k, k < xs.length ∧ xs.getD k (0, 0) = x) ↔ x ∈ xs := by
  constructor
  · rintro ⟨k, hk, rfl⟩
    have h1 : xs.getD k (0, 0) = xs[k] := by simp [List.getD, List.getElem?_eq_getElem hk]
    rw [h1]; exact List.getElem_mem hk
  · intro h
    obtain ⟨k, hk, e⟩ := List.getElem_of_mem h
    exact ⟨k, hk, by simp [List.getD, List.getElem?_eq_getElem hk, e]⟩
theorem keys_len {E : List (Gu × Nat)} {xs : List Nm} (h : KeysOf E xs) : xs.length ≤ E.length := by
  have hs : xs ⊆ E.map (fun q => nmOf q.1) := fun x hx => by
    obtain ⟨q, hq, e⟩ := (h.2 x).1 hx
    exact List.mem_map.2 ⟨q, hq, e⟩
  have := h.1.length_le_of_subset hs
  simpa using this
set_option maxRecDepth 100000 in
set_option maxHeartbeats 4000000 in
theorem sortedFunc_any (Bm M clock : Nat) (E : List (Gu × Nat)) (hE : E.length ≤ 12) (w : World) (hlt : Bm < w.heap.size) (hBm : w.cell? ⟨Bm, 0, none⟩ = some (.map (some M))) (hM : MapG w M E clock) :
    Calls Try.prog 128 #[.func (.func 149) #[] #[.pointer (some ⟨Bm, 0, none⟩)], .func (.func 127) #[] #[]] w (SortPost E w) := by
  have HA := Lib.hid (collect_any Bm M clock E (by omega) w hlt hBm hM)
  unfold SeqPost at HA
  unfold SortPost
  clear hBm hM
  go_enter Try.func128, Try.ntmps128
  go_wp2_with fail
  refine HA.out.mono ?_
  rintro e w1 ⟨v, xs, rfl, hk, ho, hb⟩
  have hl := keys_len hk
  have HO := Lib.hid ho
  have HB := Lib.hid hb
  have HK := Lib.hid hk
  rcases ho.2 with ⟨rfl, h0⟩ | ⟨g, cap, cur, rfl, hg, _⟩
  · have hnil : xs = [] := List.eq_nil_of_length_eq_zero h0
    subst hnil
    have HS := Lib.hid (sortNil_any w1)
    clear ho hb hk
    go_wp2_with fail
    refine HS.out.mono ?_
    rintro e w2 ⟨⟨u, rfl⟩, rfl⟩
    go_wp2_with fail
    go_ret
    exact ⟨_, [], rfl, ⟨List.Pairwise.nil, HK.out.2⟩, HO.out, HB.out⟩
  · have HS := Lib.hid (sortFunc_any w.heap.size g cap xs.length _ w1 (nmRow_of ho) (by omega) (setN_of hk.1))
    unfold InsPost at HS
    have HG := Lib.hid hg
    clear ho hb hk hg
    go_wp2_with fail
    refine HS.out.mono ?_
    rintro e w2 ⟨⟨u, rfl⟩, s, h1, h2, h3, h4⟩
    have HO2 := Lib.hid h1.own
    have HP2 := Lib.hid (up_pw h2)
    have HM2 := Lib.hid (fun x => (set_mem h3 x).trans (getD_mem x))
    have HB2 := Lib.hid (HB.out.grown h4 HB.out.size (fun k e => by cases e; exact HG.out))
    clear h1 h2 h3 h4
    go_wp2_with fail
    go_ret
    refine ⟨_, (List.range xs.length).map s, rfl, ⟨HP2.out, fun x => (HM2.out x).trans (HK.out.2 x)⟩, ?_, HB2.out⟩
    have : ((List.range xs.length).map s).length = xs.length := by simp
    rw [this]
    exact HO2.out
end Go.Proofs.Ytmkoppbbenombaa
