/- Slices of strings: cut with three indexes, copied (the program's, the model's), appended to. -/
import Derived.Test.YtfmhccmaeonbhaaPpR
import Derived.Test.YtfmhccmaeonbhaaClone
import Derived.ArgAppend
import Derived.Maps.AppendAt
import Derived.Laws.AppendOwnNone
namespace Go.Proofs.Ytfmhccmaeonbhaa
open Go.RowKit

theorem wpList_append_any {P : Program} (w : World) {ops : Array Oper} {rest : List Oper} {o : Oper} {a : Act} {Q : Exit → Act → World → Prop} (hgd : o.guard = none) (s x : Operand) (t : TypeId)
    (ho : o.op = Op.call { callee := Callee.builtin Builtin.append, args := #[s, x], argTypes := #[t, t] })
    (base : Nat) (e : TypeId) (i : TypeInfo) (z : Value) (size bytes : Nat) (ht : P.underlying t = some (.slice e)) (hi : P.info? e = some i) (hz : i.zero = some z)
    (hsize : i.size = size) (hby : i.bytes = bytes) (hzs : z.cells.size = size) (hsz : 0 < size)
    (v : Value) (n : Nat) (xs : List Value) (hs : a.eval s = v) (hown : w.ownsRow base e size v n xs)
    (ao : Option Addr) (m c : Nat) (news : List Value) (hx : a.eval x = .slice ao m c) (hl : news.length = m * size) (hnone : ao = none → m = 0 ∧ c = 0) (hnews : ∀ ad, ao = some ad → ∀ j u, news[j]? = some u → w.cell? (ad.add j) = some u) (h1 : ∀ u ∈ news, u.oneCell' = true)
    (h63 : n + m ≤ maxLen) (hbytes : (n + m) * bytes ≤ 140737488355328) (hbase : base ≤ w.heap.size)
    (h : ∀ v' w', w'.ownsRow base e size v' (n + m) (xs ++ news) → w.grownBy w' v.ownBlock → wpList P ops Q rest (a.put o.dst v') w') :
    wpList P ops Q (o :: rest) a w := by
  cases ao with
  | some ad => exact wpList_append_own_at w hgd s x t ho base e i z size bytes ht hi hz hsize hby hzs hsz v n xs hs hown ad m c news hx hl (hnews ad rfl) h1 h63 hbytes hbase (fun v' w' a1 a2 _ _ => h v' w' a1 a2)
  | none =>
    obtain ⟨rfl, rfl⟩ := hnone rfl
    have hnews : news = [] := List.eq_nil_of_length_eq_zero (by simpa using hl)
    subst hnews
    refine wpList_plain hgd fun K hK' => ?_
    have hrun := run_append_owned_none (P := P) w base t o.type e i size ht hi _ n xs hown
    unfold Oper.wp
    simp [execOp, ho, resolve, invoke, builtin, hs, hx, hrun, Result.andThen]
    exact hK' _ _ (h v w (by simpa using hown) (World.grownBy.refl _ _))
theorem strsV_one (l : List ByteArray) : ∀ u ∈ strsV l, u.oneCell' = true := by
  intro u hu
  obtain ⟨s, _, rfl⟩ := List.mem_map.1 hu
  rfl
theorem strsV_len (l : List ByteArray) : (strsV l).length = l.length := by simp [strsV]
theorem strsV_app (a b : List ByteArray) : strsV (a ++ b) = strsV a ++ strsV b := by simp [strsV]
theorem str_oneCell (s : ByteArray) : ∀ u ∈ [Value.string s], u.oneCell' = true := by
  intro u hu; simp at hu; subst hu; rfl
/- the cells of a slice of strings, as append asks for them -/
theorem StsAt.cells {W : World} {a : Option Addr} {n cap : Nat} {l : List ByteArray} (h : StsAt W (.slice a n cap) l) : (a = none → l.length = 0 ∧ cap = 0) ∧ ∀ ad, a = some ad → ∀ j u, (strsV l)[j]? = some u → W.cell? (ad.add j) = some u := by
  obtain ⟨a', cap', e, h1, h2, h3, h4⟩ := h
  injection e with e1 e2 e3
  subst e1 e3
  refine ⟨fun h => ⟨by have := h3 h; omega, h3 h⟩, fun ad hadd j u hj => ?_⟩
  have hjl : j < l.length := by have := (List.getElem?_eq_some_iff.1 hj).1; simpa [strsV] using this
  obtain ⟨b, off, e4, _, hc⟩ := h4 (fun e => by rw [e] at hjl; simp at hjl)
  rw [hadd] at e4
  injection e4 with e4
  subst e4
  have := hc j hjl
  have hu : u = .string l[j] := by simp [strsV, hjl] at hj; exact hj.symm
  rw [hu, ← this]
  unfold Addr.add
  split
  · rename_i h0; simp [h0]
  · rfl
/- 'append(v, x...)' of strings onto a row that the call owns -/
theorem wpList_append_strs (w : World) {ops : Array Oper} {rest : List Oper} {o : Oper} {a : Act} {Q : Exit → Act → World → Prop} (hgd : o.guard = none) (s x : Operand)
    (ho : o.op = Op.call { callee := Callee.builtin Builtin.append, args := #[s, x], argTypes := #[29, 29] })
    (B : Nat) (v : Value) (l0 l1 : List ByteArray) (hs : a.eval s = v) (hown : w.ownsRow B 9 1 v l0.length (strsV l0))
    (ao : Option Addr) (c : Nat) (hx : a.eval x = .slice ao l1.length c) (h : StsAt w (.slice ao l1.length c) l1) (h0 : l0.length ≤ 1100000) (h1 : l1.length ≤ 1100000) (hB : B ≤ w.heap.size)
    (K : ∀ a' c' n' w', Hid (n' = (l0 ++ l1).length) → w'.ownsRow B 9 1 (.slice a' n' c') n' (strsV (l0 ++ l1)) → w.grownBy w' v.ownBlock → wpList Try.prog ops Q rest (a.put o.dst (.slice a' n' c')) w') :
    wpList Try.prog ops Q (o :: rest) a w := by
  obtain ⟨i0, hi0, hz0, hz1, hz2⟩ := info_parts info_str
  refine wpList_append_any w hgd s x 29 ho B 9 i0 (.string ⟨#[]⟩) 1 16 Try.underlying29 hi0 hz0 hz1 hz2 rfl (by decide) v l0.length (strsV l0) hs hown ao l1.length c (strsV l1) hx (by simp [strsV]) h.cells.1 h.cells.2 (strsV_one l1) (by unfold maxLen; omega) (by omega) hB ?_
  intro v' w' hown' hg
  have hl : l0.length + l1.length = (l0 ++ l1).length := by simp
  rw [hl, ← strsV_app] at hown'
  obtain ⟨a', c', rfl⟩ := own_form hown'
  exact K a' c' _ w' (Lib.hid rfl) hown' hg
/- 'append(v, s)' onto a slice without room: a new row -/
theorem wpList_append_full (w : World) {ops : Array Oper} {rest : List Oper} {o : Oper} {a : Act} {Q : Exit → Act → World → Prop} (hgd : o.guard = none) (s x : Operand)
    (ho : o.op = Op.call { callee := Callee.builtin Builtin.append, args := #[s, x], argTypes := #[29, 29] })
    (l0 : List ByteArray) (t : ByteArray) (ao : Option Addr) (hs : a.eval s = .slice ao l0.length l0.length) (h : StsAt w (.slice ao l0.length l0.length) l0)
    (ad : Addr) (hx : a.eval x = .slice (some ad) 1 1) (hc : w.cell? ad = some (.string t)) (h0 : l0.length ≤ 1100000)
    (K : ∀ a' c' n' w', Hid (n' = (l0 ++ [t]).length) → w'.ownsRow w.heap.size 9 1 (.slice a' n' c') n' (strsV (l0 ++ [t])) → w.grownBy w' none → wpList Try.prog ops Q rest (a.put o.dst (.slice a' n' c')) w') :
    wpList Try.prog ops Q (o :: rest) a w := by
  obtain ⟨i0, hi0, hz0, hz1, hz2⟩ := info_parts info_str
  refine wpList_append_grows w hgd s x 29 ho 9 i0 (.string ⟨#[]⟩) 1 16 Try.underlying29 hi0 hz0 hz1 hz2 rfl (by decide) ao l0.length l0.length (strsV l0) hs (fun e => ⟨(h.cells.1 e).1, (h.cells.1 e).2⟩) (by simp [strsV]) h.cells.2 ad 1 1 [.string t] hx rfl (fun j u hj => ?_) (str_oneCell t) (by omega) (by unfold maxLen; omega) (by omega) ?_
  · match j, hj with
    | 0, hj => simp at hj; subst hj; simpa [Addr.add] using hc
  · intro v' w' hown' hg
    have hl : l0.length + 1 = (l0 ++ [t]).length := by simp
    have hv : strsV l0 ++ [.string t] = strsV (l0 ++ [t]) := by simp [strsV]
    rw [hl, hv] at hown'
    obtain ⟨a', c', rfl⟩ := own_form hown'
    exact K a' c' _ w' (Lib.hid rfl) hown' hg
theorem elem_str : Try.prog.elem 29 = 9 := by kernel_rfl
theorem under_strs : Try.prog.underlying 29 = some (.slice (Try.prog.elem 29)) := by rw [elem_str]; exact Try.underlying29
theorem size_str (W : World) : (sizeOf (Try.prog.elem 29)).run Try.prog W = .ok 1 W := by
  obtain ⟨i0, hi0, hz0, hz1, hz2⟩ := info_parts info_str
  rw [elem_str]
  simp [sizeOf, typeInfo, hi0, hz1]
theorem cut_run (a : Option Addr) (n cap k : Nat) (hk : k ≤ n) (hc : n ≤ cap) (W : World) :
    (Instr.slice 29 (.slice a n cap) (some (.int .i64 (k : Int))) (some (.int .i64 (n : Int))) (some (.int .i64 (n : Int)))).run Try.prog W = .ok (sliced a k n n 1) W := by
  rw [run_slice_lhm (P := Try.prog) W 29 a n cap under_strs .i64 .i64 .i64 k n n (by omega) (by omega) (by omega) (by omega), size_str]
  simp [Result.andThen]
theorem cut_at {W : World} {a : Option Addr} {n cap : Nat} {l : List ByteArray} (h : StsAt W (.slice a n cap) l) (k : Nat) (hk : k ≤ l.length) (hn : n = l.length) : StsAt W (sliced a k n n 1) (l.drop k) ∧ ∃ a', sliced a k n n 1 = .slice a' (l.length - k) (l.length - k) := by
  subst hn
  obtain ⟨a', cap', e, h1, h2, h3, h4⟩ := h
  injection e with e1 e2 e3
  subst e1 e3
  unfold sliced
  refine ⟨⟨_, l.length - k, by rw [List.length_drop], by rw [List.length_drop]; exact Nat.le_refl _, by omega, fun hn => ?_, fun hne => ?_⟩, _, rfl⟩
  · by_cases e : l.length = k
    · omega
    · rw [if_neg e] at hn
      have := h3 (by simpa using hn)
      omega
  · have hlt : k < l.length := by
      rcases Nat.lt_or_ge k l.length with h | h
      · exact h
      · exact absurd (List.drop_of_length_le h) hne
    obtain ⟨b, off, rfl, hb, hc⟩ := h4 (fun e => by rw [e] at hlt; simp at hlt)
    rw [if_neg (by omega)]
    refine ⟨b, off + k, ?_, hb, fun i hi => ?_⟩
    · simp only [Option.map_some, Nat.mul_one, Addr.add_lit]
    · rw [List.getElem_drop, Nat.add_assoc]
      exact hc (k + i) (by rw [List.length_drop] at hi; omega)
def CutPost (l : List ByteArray) (k : Nat) (w : World) (x : Ending) (w' : World) : Prop := ∃ a, x = .returned (.slice a (l.length - k) (l.length - k)) ∧ StsAt w (.slice a (l.length - k) (l.length - k)) (l.drop k) ∧ w = w'
theorem cutFrom_any (v : Value) (l : List ByteArray) (k : Nat) (w : World) (h : StsAt w v l) (hk : k ≤ l.length) :
    Calls Try.prog 78 #[v, .int .i64 (k : Int)] w (CutPost l k w) := by
  obtain ⟨a, cap, rfl⟩ := h.form
  have hc : l.length ≤ cap := by
    obtain ⟨a', cap', e, h1, _⟩ := h
    injection e with e1 e2 e3
    omega
  have hrun := cut_run a l.length cap k hk hc
  obtain ⟨hs, a', he⟩ := cut_at h k hk rfl
  rw [he] at hrun hs
  have HS := Lib.hid hs
  clear hs he h
  go_enter Try.func78, Try.ntmps78
  go_wp2
  go_ret
  exact ⟨a', rfl, HS.out, rfl⟩
theorem take_succ (l : List ByteArray) (k : Nat) (h : k < l.length) : l.take (k + 1) = l.take k ++ [l[k]] := List.take_succ_eq_append_getElem h
/- behind 'append(v, s)' of one string -/
theorem app_str {B : Nat} {v v' : Value} {pre : List ByteArray} {s : ByteArray} {w wr w1 : World} {o : Obj} (hbel : Below B w wr) (hB : B ≤ wr.heap.size) (hown : wr.ownsRow B 9 1 v pre.length (strsV pre))
    (h1 : w1.ownsRow B 9 1 v' (pre.length + 1) (strsV pre ++ [.string s])) (hg : (wr.alloc o).grownBy w1 v.ownBlock) :
    w1.ownsRow B 9 1 v' (pre ++ [s]).length (strsV (pre ++ [s])) ∧ Below B w w1 := by
  refine ⟨?_, ?_⟩
  · rw [List.length_append, strsV_app]; exact h1
  · exact (hbel.alloc hB o).grown hg (by simp; omega) (fun k hk => (hown.lt k hk).1)
set_option maxHeartbeats 1000000 in
theorem copied_any (v : Value) (l : List ByteArray) (w : World) (h : StsAt w v l) (hn : l.length ≤ 1000) (hs : ∀ s ∈ l, s.size ≤ 1048576) :
    Calls Try.prog 77 #[v] w (StsPost l w) := by
  obtain ⟨i0, hi0, hz0, hz1, hz2⟩ := info_parts info_str
  obtain ⟨a, cap, rfl, _, _, _, h⟩ := h
  have HH := Lib.hid h
  have HS := Lib.hid hs
  clear h hs
  obtain ⟨n, hnn⟩ : ∃ n, n = l.length := ⟨_, rfl⟩
  rw [← hnn] at hn ⊢
  have HN := Lib.hid hnn
  clear hnn
  go_enter Try.func77, Try.ntmps77
  go_wp2_with fail
  go_loopw [8, 3, 5] (fun u v _ wr => ∃ k : Nat, k ≤ n ∧ u = .int .i64 (k : Int) ∧ Hid (wr.ownsRow w.heap.size 9 1 v (l.take k).length (strsV (l.take k))) ∧ Hid (Below w.heap.size w wr)) (fun u _ _ _ => n - (intOf u).toNat)
  case atStart => exact ⟨0, Nat.zero_le _, rfl, Lib.hid (World.ownsRow_nil _ _ _ _), Lib.hid (Below.refl _ _)⟩
  case round =>
    obtain ⟨k, hk, rfl, HO, HB⟩ := hrel
    by_cases hlt : k < n
    · have hir : k < l.length := by rw [← HN.out]; exact hlt
      have hne : l ≠ [] := fun e => by rw [e] at hir; simp at hir
      obtain ⟨b, off, ha, hb, HE⟩ := HH.out hne
      subst ha
      have hl1 : (k : Int) < n := by omega
      have p0 := (HB.out.cell (p := ⟨b, off + k, none⟩) hb).trans (HE k hir)
      have hsz := HS.out l[k] (List.getElem_mem hir)
      have HT := Lib.hid (take_succ l k hir)
      have hlen : (l.take k).length ≤ 1000 := by rw [List.length_take]; omega
      clear HE
      generalize l[k] = s at p0 HT hsz
      generalize l.take k = pre at HO HT hlen
      have HC := Lib.hid (fun w => clone_any s w (by omega))
      clear hsz
      go_wp2_with fail
      refine (HC.out _).mono ?_
      rintro x w1 ⟨rfl, hb1⟩
      have hown := own_below HO.out hb1
      replace HB : Hid (Below w.heap.size w w1) := Lib.hid (HB.out.trans (hb1.mono HB.out.size))
      clear hb1 HO p0
      have hsz1 := HB.out.size
      go_wp2_with (at_builtin; refine wpList_append_own _ rfl _ _ 29 rfl w.heap.size 9 i0 (.string ⟨#[]⟩) 1 16 Try.underlying29 hi0 hz0 hz1 hz2 rfl (by decide) _ _ _ rfl (hown.alloc _) ⟨w1.heap.size, 0, none⟩ 1 1 [.string s] rfl rfl (one_cell _ _ _) (str_oneCell _) (by unfold maxLen; omega) (by omega) (by simp; omega) ?_; intro v' w2 hown' hg _; have R := app_str HB.out hsz1 hown hown' hg; obtain ⟨g', cap', rfl⟩ := own_form hown'; have HR1 := Lib.hid R.1; have HR2 := Lib.hid R.2; clear hown' hg hown hsz1 R)
      go_roundw
      case rel => exact ⟨k + 1, by omega, by simp, by rw [HT.out]; exact HR1, HR2⟩
      case measure => simp [intOf]; omega
    · have hin : k = n := by omega
      subst hin
      rw [List.take_of_length_le (by rw [HN.out]; exact Nat.le_refl _)] at HO
      go_wp2_with fail
      go_ret
      exact ⟨_, rfl, HO.out, HB.out⟩
end Go.Proofs.Ytfmhccmaeonbhaa
