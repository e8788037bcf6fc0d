/- The program's WentCount and WentTrim; slices.Clone of moves. -/
import Derived.Test.YthilmonokhdjmaaExI
import Derived.Test.YthilmonokhdjmaaCuM
import Derived.Laws.Cover3
namespace Go.Proofs.Ythilmonokhdjmaa
open Go.RowKit

def exNp (q : Mv → Bool) (l : List Mv) : Nat := (l.filter fun x => !q x).length
theorem len_two (p q : Mv → Bool) (l : List Mv) : (keepM p l).length - exNp q (keepM p l) = (keepM (fun x => p x && q x) l).length ∧ exNp q (keepM p l) ≤ (keepM p l).length := by
  refine ⟨?_, List.length_filter_le _ _⟩
  have h : ∀ k : List Mv, k.length = (k.filter q).length + (k.filter fun x => !q x).length := by
    intro k
    induction k with
    | nil => rfl
    | cons x k ih =>
      rw [List.filter_cons, List.filter_cons]
      cases q x <;> simp <;> omega
  have h1 := h (keepM p l)
  have h2 : keepM (fun x => p x && q x) l = (keepM p l).filter q := by
    unfold keepM
    rw [List.filter_filter]
    congr 1
    funext x
    exact Bool.and_comm _ _
  unfold exNp
  rw [h2]
  omega
theorem cnt_own (l : List Mv) (v m now : Int) : ((keepM (ofG v m) l).length : Int) - (exN (keepM (ofG v m) l) now : Nat) = (cntL (cntP v m now) l : Nat) ∧ exN (keepM (ofG v m) l) now ≤ (keepM (ofG v m) l).length := by
  have h := len_two (ofG v m) (lateG now) l
  unfold exNp at h
  unfold cntL exN
  have e : keepM (cntP v m now) l = keepM (fun x => ofG v m x && lateG now x) l := rfl
  rw [e]
  omega
theorem mvs_pw {l : List Mv} (h : mvsOk l = true) : l.Pairwise fun a b => a.tm ≤ b.tm := by
  rw [List.pairwise_iff_getElem]
  intro i j hi hj hij
  induction j with
  | zero => omega
  | succ j ih =>
    have h1 := mvsOk_at h (j + 1) hj
    rw [okAtM_succ hj, Bool.and_eq_true] at h1
    have h2 := of_decide_eq_true h1.2
    by_cases e : i = j
    · subst e; exact h2
    · exact Int.le_trans (ih (by omega) (by omega)) h2
theorem keep_drop (now : Int) : ∀ {l : List Mv}, (l.Pairwise fun a b => a.tm ≤ b.tm) → keepM (lateG now) l = l.drop (exN l now) := by
  intro l
  induction l with
  | nil => intro _; rfl
  | cons x l ih =>
    intro h
    rw [List.pairwise_cons] at h
    cases hx : lateG now x
    · have e1 : keepM (lateG now) (x :: l) = keepM (lateG now) l := by unfold keepM; rw [List.filter_cons, hx]; simp
      have e2 : exN (x :: l) now = exN l now + 1 := by unfold exN; rw [List.filter_cons, hx]; simp
      rw [e1, e2, ih h.2]
      rfl
    · have hall : ∀ y ∈ x :: l, lateG now y = true := by
        intro y hy
        rcases List.mem_cons.1 hy with rfl | hy
        · exact hx
        · have := h.1 y hy
          unfold lateG at *
          simp at *
          omega
      have e2 : exN (x :: l) now = 0 := by
        unfold exN
        rw [List.filter_eq_nil_iff.2 (fun y hy => by rw [hall y hy]; simp)]
        rfl
      rw [e2]
      unfold keepM
      rw [List.filter_eq_self.2 hall]
      rfl
theorem elemW : Try.prog.elem 25 = 34 := by kernel_rfl
theorem underW : Try.prog.underlying 25 = some (.slice (Try.prog.elem 25)) := by rw [elemW]; exact Try.underlying25
theorem sizeW (W : World) : (sizeOf (Try.prog.elem 25)).run Try.prog W = .ok 3 W := by
  obtain ⟨i0, z, hi0, hz0, hz1, hz2⟩ := tyM.info
  rw [elemW]
  simp [sizeOf, typeInfo, hi0, hz1]
theorem cutLW (a : Option Addr) (n cap k : Nat) (hk : k ≤ n) (W : World) : (Instr.slice 25 (.slice a n cap) (some (.int .i64 (k : Int))) none none).run Try.prog W = .ok (sliced a k n cap 3) W := by
  rw [run_slice_l (P := Try.prog) W 25 a n cap underW .i64 k (by omega) (by omega), sizeW]
  simp [Result.andThen]
theorem eqNilW (a : Option Addr) (n c : Nat) (W : World) : (binOp .eql 25 (.slice a n c) (.slice none 0 0)).run Try.prog W = .ok (.bool a.isNone) W := by
  simp only [binOp]
  simp [run_equal_slice_nil W 25 34 a n c Try.underlying25]
set_option maxRecDepth 100000 in
set_option maxHeartbeats 4000000 in
theorem cloneW_any (l : List Mv) (v : Value) (w : World) (h : MvsAt w v l) (hn : NilOk v) (hl : l.length ≤ 1000000) :
    Calls Try.prog 90 #[v] w (RowPost Mv.cl 34 3 l w) := by
  unfold RowPost
  have hs := h
  obtain ⟨a, cap, rfl, _⟩ := h
  rw [List.length_map] at *
  cases a with
  | none =>
    have e1 : l = [] := List.eq_nil_of_length_eq_zero (hn _ _ rfl).1
    subst e1
    have hnil := eqNilW none 0 cap
    rw [Option.isNone_none] at hnil
    go_enter Try.func90, Try.ntmps90
    go_wp2_with fail
    go_ret
    exact ⟨_, rfl, World.ownsRow_nil _ _ _ _, Below.refl _ _⟩
  | some ad =>
    have HO0 := Lib.hid (World.ownsRow_lit (base := w.heap.size) (e := 34) (size := 3) w #[] 0 (by simp) (Nat.zero_le _) rfl)
    have HB0 : Hid (Below w.heap.size w (w.alloc (.cells #[] 34))) := Lib.hid ((Below.refl _ _).alloc (Nat.le_refl _) _)
    have HS := Lib.hid (SlAt.kept hs HB0.out)
    have HNil := Lib.hid hn
    have hnil := eqNilW (some ad) l.length cap
    rw [Option.isNone_some] at hnil
    clear hs hn
    go_enter Try.func90, Try.ntmps90
    go_wp2_with (at_builtin; refine wpList_append_slice Mv.cl_len Mv.cl_one1 tyM _ rfl _ _ rfl w.heap.size _ [] l rfl HO0.out (some ad) cap rfl HNil.out HS.out (by simp; omega) (by simp) ?_; intro a' c' n' w5 HN5 hown5 hg5; have HO5 := Lib.hid hown5; have HB5 : Hid (Below w.heap.size w w5) := Lib.hid (HB0.out.grown hg5 (by simp) (fun k hk => (HO0.out.lt k hk).1)); clear hown5 hg5)
    go_ret
    have hl5 := HN5.out
    rw [List.nil_append] at hl5 HO5
    rw [hl5] at HO5 ⊢
    exact ⟨_, rfl, HO5.out, HB5.out⟩
set_option maxRecDepth 100000 in
set_option maxHeartbeats 8000000 in
theorem implWentCount_any (l : List Mv) (v0 : Value) (v m now : Int) (w : World) (h : MvsAt w v0 l) (hnb : l.length ≤ 1048576) :
    Calls Try.prog 28 #[v0, .int .i64 v, .int .i64 m, .int .i64 now] w fun e w' => e = .returned (.int .i64 (cntR l v m now)) ∧ Below w.heap.size w w' := by
  have HRR := Lib.hid (implWentRight_any l v0 w h hnb)
  have HP := Lib.hid (implTime_any now)
  have HL := Lib.hid (fun (h : mvsOk l = true) => mvsOk_len h)
  have HTi := Lib.hid (fun h => wtime_in (n := now) h)
  have HNo := Lib.hid (fun h => cntR_no (l := l) (v := v) (m := m) (now := now) h)
  have HYes := Lib.hid (fun h h2 => cntR_yes (l := l) (v := v) (m := m) (now := now) h h2)
  have HPa := Lib.hid (fun (h30 : l.length ≤ 30) (q : Nat) (W' : World) (hb : Below w.heap.size w W') (hq : Blk W' q 118 #[.int .i64 v, .int .i64 m]) => partedM_any l v0 v m q W' (SlAt.kept h hb) h30 hq)
  have HMb := Lib.hid (madeBy_any v m)
  have HCn := Lib.hid (cnt_own l v m now)
  have HKl := keepM_le (ofG v m) l
  unfold PaPostM at HPa
  unfold MrPost at HRR
  obtain ⟨a, cap, rfl, _⟩ := h
  rw [List.length_map] at *
  generalize cntR l v m now = R at *
  cases h1 : mvsOk l
  · have HR := Lib.hid (HNo.out (.inl h1))
    rw [h1] at HRR
    clear HNo HYes HL HTi h1 HPa HCn HKl
    go_enter Try.func28, Try.ntmps28
    go_wp2_with (first | (go_at_call 18; refine HRR.out.mono ?_; rintro e w1 ⟨rfl, hb1⟩; have HB := Lib.hid hb1; clear hb1) | (go_at_call 85; refine (HP.out _).mono ?_; rintro e w2 ⟨rfl, rfl⟩))
    go_ret
    exact ⟨i64_ret (by rw [HR.out]), HB.out⟩
  cases h2 : isTime now
  · have HR := Lib.hid (HNo.out (.inr h2))
    rw [h1] at HRR
    rw [h2] at HP
    clear HNo HYes HL HTi h1 h2 HPa HCn HKl
    go_enter Try.func28, Try.ntmps28
    go_wp2_with (first | (go_at_call 18; refine HRR.out.mono ?_; rintro e w1 ⟨rfl, hb1⟩; have HB := Lib.hid hb1; clear hb1) | (go_at_call 85; refine (HP.out _).mono ?_; rintro e w2 ⟨rfl, rfl⟩))
    go_ret
    exact ⟨i64_ret (by rw [HR.out]), HB.out⟩
  · have HR := Lib.hid (HYes.out h1 h2)
    obtain ⟨ht0, ht1⟩ := HTi.out h2
    have h30 := HL.out h1
    have HPx := Lib.hid (HPa.out h30)
    have HEx := Lib.hid (fun (K : List Mv) (hk : K.length ≤ 30) (x : Value) (W' : World) (B : Nat) (h : W'.ownsRow B 34 3 x K.length (rcells Mv.cl K)) => expired_any K x now W' (rows_of_own Mv.cl_len h) hk ht0 ht1)
    rw [h1] at HRR
    rw [h2] at HP
    rw [HR.out]
    clear HNo HYes HL HTi h1 h2 HPa HR
    generalize ((cntL (cntP v m now) l : Nat) : Int) = R at *
    generalize keepM (ofG v m) l = G at *
    generalize keepM (fun x => !ofG v m x) l = K at *
    have hg30 : G.length ≤ 30 := by omega
    have HEg := Lib.hid (HEx.out G hg30)
    have hR := HCn.out
    generalize exN G now = ex at *
    have hwr : IntKind.i64.wrap ((G.length : Int) - (ex : Int)) = (G.length : Int) - (ex : Int) := by simp only [IntKind.wrap_i64]; omega
    have HRx := Lib.hid hR.1
    clear hR HCn HEx HKl h30
    go_enter Try.func28, Try.ntmps28
    go_wp2_with (first | (go_at_call 18; refine HRR.out.mono ?_; rintro e w1 ⟨rfl, hb1⟩; have HB := Lib.hid hb1; clear hb1) | (go_at_call 85; refine (HP.out _).mono ?_; rintro e w2 ⟨rfl, rfl⟩) | (go_at_call 95; refine (HMb.out _).mono ?_; rintro e w3 ⟨rfl, Q3, hb3⟩; have HB3 := Lib.hid (HB.out.trans (hb3.mono HB.out.size)); have HQ3 := Lib.hid Q3; clear hb3 Q3) | (go_at_call 94; refine (HPx.out _ _ HB3.out HQ3.out).mono ?_; rintro e w4 ⟨y, t, rfl, HT⟩; have HB4 := Lib.hid (HB3.out.trans (HT.bel.mono HB3.out.size)); have HO4 := Lib.hid HT.rb; obtain ⟨ya, yc, rfl⟩ := rown_form HT.ra; obtain ⟨ta, tc, rfl⟩ := rown_form HT.rb; clear HT) | (go_at_call 96; refine (HEg.out _ _ _ HO4.out).mono ?_; rintro e w5 ⟨rfl, hb5⟩; have HB5 := Lib.hid (HB4.out.trans (hb5.mono HB4.out.size)); clear hb5))
    go_ret
    exact ⟨i64_ret HRx.out, HB5.out⟩
set_option maxRecDepth 100000 in
set_option maxHeartbeats 8000000 in
theorem implWentTrim_any (l : List Mv) (v0 : Value) (now : Int) (w : World) (h : MvsAt w v0 l) (hc : NcOk v0) (hnb : l.length ≤ 1048576) :
    Calls Try.prog 30 #[v0, .int .i64 now] w (WoPost (trimR l now) w) := by
  have X0 := Blk.new w 32 #[.slice none 0 0, .int .i64 0]
  have HB0 : Below w.heap.size w (w.alloc (.cells #[.slice none 0 0, .int .i64 0] 32)) := (Below.refl _ _).alloc (Nat.le_refl _) _
  have HF := Lib.hid (fun (W' : World) (hb : Below w.heap.size w W') => listFaultW_any l v0 W' (SlAt.kept h hb) hnb)
  have HP := Lib.hid (implTime_any now)
  have HW := wfault_way l (isTime now)
  have HLg := Lib.hid (fun h1 => trimR_long (l := l) (now := now) h1)
  have HWr := Lib.hid (fun h1 h2 => trimR_wrong (l := l) (now := now) h1 h2)
  have HAr := Lib.hid (fun h1 h3 => trimR_arg (l := l) (now := now) h1 h3)
  have HOk := Lib.hid (fun h1 h2 h3 => trimR_ok (l := l) (now := now) h1 h2 h3)
  have HTi := Lib.hid (fun h => wtime_in (n := now) h)
  have HEx := Lib.hid (fun (h30 : l.length ≤ 30) (h0 : 0 ≤ now) (h1 : now ≤ 1000000) (W' : World) (hb : Below w.heap.size w W') => expired_any l v0 now W' (SlAt.kept h hb) h30 h0 h1)
  have HKd := Lib.hid (fun (h : mvsOk l = true) => keep_drop now (mvs_pw h))
  have hexl := exN_len l now
  have HSl := Lib.hid (fun (W' : World) (hb : Below w.heap.size w W') => SlAt.kept h hb)
  obtain ⟨a, cap, rfl, h⟩ := h
  rw [List.length_map] at *
  have hle := (hc _ _ _ rfl).2
  have HNc := Lib.hid hc
  clear h hc
  generalize trimR l now = S at *
  rcases HW with ⟨h1⟩ | ⟨h1, h2⟩ | ⟨h1, h2, h3⟩ | ⟨h1, h2, h3, h4⟩
  · have HR := Lib.hid (HLg.out h1)
    rw [wCode_long h1] at HF
    clear HSl HEx HKd hexl hle HNc
    generalize l.length = n at *
    clear HLg HWr HAr HOk
    go_enter Try.func30, Try.ntmps30
    go_upto_region 1 with fail
    generalize w.alloc (.cells #[.slice none 0 0, .int .i64 0] 32) = w0 at *
    go_wp2_with fail
    refine (HF.out _ HB0).mono ?_
    rintro x w1 ⟨rfl, hb1⟩
    have X1 := X0.kept hb1
    have HB1 := HB0.trans (hb1.mono HB0.size)
    have hc := X1.cell
    have hf := X1.frozen
    clear hb1
    go_wp2_with fail
    have HY := Lib.hid (fillW X1 HB1 (Nat.le_refl _) (.slice none 0 0) (.int .i64 2))
    generalize ((w1.setCell ⟨w.heap.size, 0, none⟩ (.slice none 0 0)).setCell ⟨w.heap.size, 1, none⟩ (.int .i64 2)) = w2 at *
    have hc9 := HY.out.1.cell
    refine bodyPost_ret (v := woV (.slice none 0 0) 2) (by simp [results, Try.results30, go_sem, woV, hc9]) rfl ?_
    exact WoPost.ill HR.out rfl HY.out.2
  · have HR := Lib.hid (HWr.out h1 h2)
    rw [wCode_wrong h1 h2] at HF
    clear HSl HEx HKd hexl hle HNc
    generalize l.length = n at *
    clear HLg HWr HAr HOk
    go_enter Try.func30, Try.ntmps30
    go_upto_region 1 with fail
    generalize w.alloc (.cells #[.slice none 0 0, .int .i64 0] 32) = w0 at *
    go_wp2_with fail
    refine (HF.out _ HB0).mono ?_
    rintro x w1 ⟨rfl, hb1⟩
    have X1 := X0.kept hb1
    have HB1 := HB0.trans (hb1.mono HB0.size)
    have hc := X1.cell
    have hf := X1.frozen
    clear hb1
    go_wp2_with fail
    have HY := Lib.hid (fillW X1 HB1 (Nat.le_refl _) (.slice none 0 0) (.int .i64 1))
    generalize ((w1.setCell ⟨w.heap.size, 0, none⟩ (.slice none 0 0)).setCell ⟨w.heap.size, 1, none⟩ (.int .i64 1)) = w2 at *
    have hc9 := HY.out.1.cell
    refine bodyPost_ret (v := woV (.slice none 0 0) 1) (by simp [results, Try.results30, go_sem, woV, hc9]) rfl ?_
    exact WoPost.ill HR.out rfl HY.out.2
  · have HR := Lib.hid (HAr.out h1 h3)
    rw [wCode_ok h1 h2] at HF
    rw [h3] at HP
    clear HSl HEx HKd hexl hle HNc
    generalize l.length = n at *
    clear HLg HWr HAr HOk h2 h3
    go_enter Try.func30, Try.ntmps30
    go_upto_region 1 with fail
    generalize w.alloc (.cells #[.slice none 0 0, .int .i64 0] 32) = w0 at *
    go_wp2_with fail
    refine (HF.out _ HB0).mono ?_
    rintro x w1 ⟨rfl, hb1⟩
    have X1 := X0.kept hb1
    have HB1 := HB0.trans (hb1.mono HB0.size)
    have hc := X1.cell
    have hf := X1.frozen
    clear hb1
    go_wp2_with (go_at_call 85; refine (HP.out _).mono ?_; rintro x w4 ⟨rfl, rfl⟩)
    have HY := Lib.hid (fillW X1 HB1 (Nat.le_refl _) (.slice none 0 0) (.int .i64 1))
    generalize ((w1.setCell ⟨w.heap.size, 0, none⟩ (.slice none 0 0)).setCell ⟨w.heap.size, 1, none⟩ (.int .i64 1)) = w2 at *
    have hc9 := HY.out.1.cell
    refine bodyPost_ret (v := woV (.slice none 0 0) 1) (by simp [results, Try.results30, go_sem, woV, hc9]) rfl ?_
    exact WoPost.ill HR.out rfl HY.out.2
  · have HR := Lib.hid (HOk.out h1 h2 h3)
    obtain ⟨ht0, ht1⟩ := HTi.out h3
    have HEg := Lib.hid (HEx.out h4 ht0 ht1)
    have HKe := Lib.hid (HKd.out h2)
    rw [wCode_ok h1 h2] at HF
    rw [h3] at HP
    rw [HKe.out] at HR
    generalize exN l now = ex at *
    have HCl := Lib.hid (fun (W' : World) (x : Value) (h : MvsAt W' x (l.drop ex)) (hn : NilOk x) => cloneW_any (l.drop ex) x W' h hn (by rw [List.length_drop]; omega))
    have HSd := Lib.hid (fun (W' : World) (hb : Below w.heap.size w W') => cut_drop (HSl.out W' hb) HNc.out ex hexl)
    have hrun := fun (W : World) => cutLW a l.length cap ex hexl W
    unfold RowPost at HCl
    clear HLg HWr HAr HOk HSl HEx HKd HKe h2 h3 HNc
    generalize l.drop ex = D at *
    generalize l.length = n at *
    go_enter Try.func30, Try.ntmps30
    go_upto_region 1 with fail
    generalize w.alloc (.cells #[.slice none 0 0, .int .i64 0] 32) = w0 at *
    go_wp2_with fail
    refine (HF.out _ HB0).mono ?_
    rintro x w1 ⟨rfl, hb1⟩
    have X1 := X0.kept hb1
    have HB1 := HB0.trans (hb1.mono HB0.size)
    obtain ⟨a2, e2, sl2, nl2⟩ := HSd.out _ HB1
    rw [e2] at hrun
    have HSl2 := Lib.hid sl2
    have HNl2 := Lib.hid nl2
    clear hb1 e2 sl2 nl2 HSd
    go_wp2_with (first | (go_at_call 85; refine (HP.out _).mono ?_; rintro x w4 ⟨rfl, rfl⟩) | (go_at_call 96; refine (HEg.out _ HB1).mono ?_; rintro x w2 ⟨rfl, hb2⟩; have X2 := X1.kept hb2; have HB2 := HB1.trans (hb2.mono HB1.size); have HSl3 := Lib.hid (SlAt.kept HSl2.out hb2); clear hb2))
    refine (HCl.out _ _ HSl3.out HNl2.out).mono ?_
    rintro x w3 ⟨y, rfl, ho3, hb3⟩
    have X3 := X2.kept hb3
    have HB3 := HB2.trans (hb3.mono HB2.size)
    have HO3 := Lib.hid (rown_mono (B' := w.heap.size) ho3 HB2.size)
    have hc := X3.cell
    have hf := X3.frozen
    obtain ⟨ya, yc, rfl⟩ := rown_form ho3
    clear ho3 hb3
    go_wp2_with fail
    have HY2 := Lib.hid (fillW X3 HB3 (Nat.le_refl _) (.slice ya D.length yc) (.int .i64 0))
    have HO4 := Lib.hid (rowW_fill HO3.out X3 (by decide) (.slice ya D.length yc) (.int .i64 0))
    generalize ((w3.setCell ⟨w.heap.size, 0, none⟩ (.slice ya D.length yc)).setCell ⟨w.heap.size, 1, none⟩ (.int .i64 0)) = w9 at *
    have hc9 := HY2.out.1.cell
    refine bodyPost_ret (v := woV (.slice ya D.length yc) 0) (by simp [results, Try.results30, go_sem, woV, hc9]) rfl ?_
    rw [HR.out]
    exact WoPost.own (r := ⟨D, 0⟩) rfl HO4.out HY2.out.2
end Go.Proofs.Ythilmonokhdjmaa
