/- RibStale, of the model and of the program. -/
import Derived.Test.YtmkoppbbenombaaRbI
import Derived.Test.YtmkoppbbenombaaApR
import Derived.Test.YtmkoppbbenombaaRHd
import Derived.Test.YtmkoppbbenombaaRRt
namespace Go.Proofs.Ytmkoppbbenombaa
open Go.RowKit

/- what the functions over tables answer -/
structure Ro where
  rib : List Hd
  gone : List Rt
  code : Int
def roV (v t : Value) (c : Int) : Value := .agg #[v, t, .int .i64 c]
def RoPost (r : Ro) (w : World) (x : Ending) (w' : World) : Prop :=
  ∃ v t, x = .returned (roV v t r.code) ∧ w'.ownsRow w.heap.size 77 9 v r.rib.length (rcells Hd.cl r.rib) ∧ w'.ownsRow w.heap.size 35 7 t r.gone.length (rcells Rt.cl r.gone) ∧ (v.ownBlock = none ∨ v.ownBlock ≠ t.ownBlock) ∧ Below w.heap.size w w'
def roIll (c : Int) : Ro := ⟨[], [], c⟩
theorem RoPost.ill {r : Ro} {c : Int} {w w' : World} {x : Ending} (hr : r = roIll c) (hx : x = .returned (roV (.slice none 0 0) (.slice none 0 0) c)) (hb : Below w.heap.size w w') : RoPost r w x w' := by
  subst hr
  exact ⟨_, _, hx, World.ownsRow_nil _ _ _ _, World.ownsRow_nil _ _ _ _, .inl rfl, hb⟩
def faultOf (l : List Hd) (p : Int) : Int := if 400 < l.length then 2 else if ribOk l = true then (if inR p 1 9 = true then 0 else 1) else 1
inductive FaultWay (l : List Hd) (p : Int) (R P : Bool) (c : Int) : Prop
  | long (h1 : 400 < l.length) (hc : c = 2)
  | wrong (h1 : ¬ 400 < l.length) (h2 : R = false) (hc : c = 1)
  | peer (h1 : ¬ 400 < l.length) (h2 : R = true) (h3 : P = false) (hc : c = 1)
  | ok (h1 : ¬ 400 < l.length) (h2 : R = true) (h3 : P = true) (hn : l.length ≤ 60) (hc : c = 0)
theorem ribOk_le {l : List Hd} (h : ribOk l = true) : l.length ≤ 60 := by
  unfold ribOk at h
  rw [Bool.and_eq_true] at h
  exact of_decide_eq_true h.1
theorem fault_way (l : List Hd) (p : Int) : FaultWay l p (ribOk l) (inR p 1 9) (faultOf l p) := by
  by_cases h1 : 400 < l.length
  · exact .long h1 (by rw [faultOf, if_pos h1])
  cases h2 : ribOk l
  · exact .wrong h1 rfl (by rw [faultOf, if_neg h1, if_neg (by simp [h2])])
  cases h3 : inR p 1 9
  · exact .peer h1 rfl rfl (by rw [faultOf, if_neg h1, if_pos h2, if_neg (by simp [h3])])
  · exact .ok h1 rfl rfl (ribOk_le h2) (by rw [faultOf, if_neg h1, if_pos h2, if_pos h3])
set_option maxHeartbeats 1000000 in
set_option maxRecDepth 100000 in
set_option maxHeartbeats 4000000 in
theorem listFault_any (l : List Hd) (v : Value) (w : World) (h : HdsAt w v l) (hn : l.length ≤ 1048576) :
    Calls Try.prog 121 #[v, .func (.func 18) #[] #[]] w fun e w' => e = .returned (.int .i64 (if 400 < l.length then 2 else if ribOk l = true then 0 else 1)) ∧ Below w.heap.size w w' := by
  have HRR := Lib.hid (implRibRight_any l v w h hn)
  unfold RrPost at HRR
  obtain ⟨a, cap, rfl, _⟩ := h
  rw [List.length_map] at *
  generalize ribOk l = R at *
  generalize l.length = n at *
  by_cases h1 : 400 < n
  · rw [if_pos h1]
    have hg : (400 : Int) < (n : Int) := by omega
    go_enter Try.func121, Try.ntmps121
    go_wp2_with fail
    go_ret
    exact ⟨rfl, Below.refl _ _⟩
  · rw [if_neg h1]
    have hg : ¬ (400 : Int) < (n : Int) := by omega
    cases R
    all_goals
      go_enter Try.func121, Try.ntmps121
      go_wp2_with fail
      refine HRR.out.mono ?_
      rintro e w1 ⟨rfl, hb1⟩
      have HB := Lib.hid hb1
      clear hb1
      go_wp2_with fail
      go_ret
      exact ⟨rfl, HB.out⟩
set_option maxRecDepth 100000 in
set_option maxHeartbeats 4000000 in
theorem implFault_any (l : List Hd) (v : Value) (p : Int) (w : World) (h : HdsAt w v l) (hn : l.length ≤ 1048576) :
    Calls Try.prog 79 #[v, .int .i64 p] w fun e w' => e = .returned (.int .i64 (faultOf l p)) ∧ Below w.heap.size w w' := by
  have hmf : ∀ (fn : Fn) (first cap : Array Value) (w : World), (Instr.makeFunc fn first cap).run Try.prog w = .ok (.func fn first cap) w := fun _ _ _ _ => rfl
  have HLF := Lib.hid (listFault_any l v w h hn)
  have HP := Lib.hid (implPeer_any p)
  have HW := fault_way l p
  obtain ⟨a, cap, rfl, _⟩ := h
  rw [List.length_map] at *
  generalize ribOk l = R at *
  generalize inR p 1 9 = PP at *
  generalize faultOf l p = c at *
  obtain ⟨n, hnn⟩ : ∃ n, n = l.length := ⟨_, rfl⟩
  rcases HW with ⟨h1, rfl⟩ | ⟨h1, rfl, rfl⟩ | ⟨h1, rfl, rfl, rfl⟩ | ⟨h1, rfl, rfl, h4, rfl⟩
  · rw [if_pos h1] at HLF
    rw [← hnn] at HLF h1 ⊢
    clear hnn
    go_enter Try.func79, Try.ntmps79
    go_wp2_with fail
    refine HLF.out.mono ?_
    rintro e w1 ⟨rfl, hb1⟩
    have HB := Lib.hid hb1
    clear hb1
    go_wp2_with fail
    go_ret
    exact ⟨rfl, HB.out⟩
  all_goals
    rw [if_neg (by omega)] at HLF
    simp only [if_true, Bool.false_eq_true, if_false] at HLF
    rw [← hnn] at HLF h1 ⊢
    clear hnn
    go_enter Try.func79, Try.ntmps79
    go_wp2_with fail
    refine HLF.out.mono ?_
    rintro e w1 ⟨rfl, hb1⟩
    have HB := Lib.hid hb1
    clear hb1
    go_wp2_with (go_at_call 111; refine (HP.out _).mono ?_; rintro e w2 ⟨rfl, rfl⟩)
    go_ret
    exact ⟨rfl, HB.out⟩
theorem specIll6_any (c : Int) (w : World) : Calls Try.prog 70 #[.int .i64 c] w fun x w' => x = .returned (roV (.slice none 0 0) (.slice none 0 0) c) ∧ Below w.heap.size w w' := by
  go_enter Try.func70, Try.ntmps70
  go_wp2
  refine bodyPost_ret (v := roV (.slice none 0 0) (.slice none 0 0) c) (by simp [results, Try.results70, go_sem, roV]) rfl ⟨rfl, ?_⟩
  go_grown
/- a list of which the first i elements are turned -/
def updTo (f : Hd → Hd) (l : List Hd) (i : Nat) : List Hd := (l.take i).map f ++ l.drop i
theorem updTo_len (f : Hd → Hd) (l : List Hd) (i : Nat) : (updTo f l i).length = l.length := by
  unfold updTo; rw [List.length_append, List.length_map, List.length_take, List.length_drop]; omega
theorem updTo_get (f : Hd → Hd) (l : List Hd) (i : Nat) (hi : i < l.length) (h : i < (updTo f l i).length) : (updTo f l i)[i] = l[i] := by
  have k : (updTo f l i)[i]? = some l[i] := by
    unfold updTo
    rw [List.getElem?_append_right (by simp; omega)]
    have e : i - ((l.take i).map f).length = 0 := by simp; omega
    rw [e, List.getElem?_drop, Nat.add_zero, List.getElem?_eq_getElem hi]
  rw [List.getElem?_eq_getElem h] at k
  exact Option.some.inj k
theorem updTo_succ (f : Hd → Hd) (l : List Hd) (i : Nat) (hi : i < l.length) : updTo f l (i + 1) = (updTo f l i).set i (f l[i]) := by
  unfold updTo
  rw [List.set_append_right _ _ (by simp; omega), List.take_succ_eq_append_getElem hi, List.map_append, List.append_assoc]
  congr 1
  have e : i - ((l.take i).map f).length = 0 := by simp; omega
  rw [e, List.drop_eq_getElem_cons hi]
  rfl
theorem updTo_all (f : Hd → Hd) (l : List Hd) : updTo f l l.length = l.map f := by simp [updTo]
theorem rcells_set {α : Type} {cl : α → List Value} {sz : Nat} (hl : ∀ a, (cl a).length = sz) (L : List α) (i : Nat) (hi : i < L.length) (j : Nat) (hj : j < sz) (u : Value) (x : α) (hx : cl x = (cl L[i]).set j u) : (rcells cl L).set (i * sz + j) u = rcells cl (L.set i x) := by
  apply List.ext_getElem?
  intro o
  by_cases ho : o < L.length * sz
  · have h0 : 0 < sz := by omega
    have ed : o = o / sz * sz + o % sz := by rw [Nat.mul_comm]; exact (Nat.div_add_mod o sz).symm
    have hd : o / sz < L.length := by rw [Nat.div_lt_iff_lt_mul h0]; exact ho
    have hr := Nat.mod_lt o h0
    have hlt : i * sz + j < (rcells cl L).length := by rw [rcells_len hl]; have := Nat.mul_le_mul_right sz (show i + 1 ≤ L.length from hi); rw [Nat.succ_mul] at this; omega
    have hR := rcells_at hl (L.set i x) (o / sz) (by simpa using hd) (o % sz) hr
    rw [← ed] at hR
    have hL := rcells_at hl L (o / sz) hd (o % sz) hr
    rw [← ed] at hL
    rw [hR]
    by_cases e : o / sz = i
    · subst e
      rw [List.getElem_set_self, hx]
      by_cases e2 : o % sz = j
      · subst e2
        rw [← ed] at hlt ⊢
        rw [List.getElem?_set_self hlt, List.getElem?_set_self (by rw [hl]; exact hr)]
      · have hne : o / sz * sz + j ≠ o := fun e3 => e2 (by omega)
        rw [List.getElem?_set_ne hne, List.getElem?_set_ne (Ne.symm e2), hL]
    · have hne : i * sz + j ≠ o := fun e3 => e (by rw [← e3, Nat.mul_comm, Nat.mul_add_div h0, Nat.div_eq_of_lt hj, Nat.add_zero])
      rw [List.getElem?_set_ne hne, hL, List.getElem_set_ne (Ne.symm e)]
  · rw [List.getElem?_eq_none (by rw [List.length_set, rcells_len hl]; omega), List.getElem?_eq_none (by rw [rcells_len hl, List.length_set]; omega)]
def stH (p : Int) (h : Hd) : Hd := ⟨h.p, h.s || (h.p == p), h.r⟩
def staleR (l : List Hd) (p : Int) : Ro := if faultOf l p = 0 then ⟨l.map (stH p), [], 0⟩ else roIll (faultOf l p)
set_option maxRecDepth 100000 in
set_option maxHeartbeats 4000000 in
theorem specStaleIn_any (l : List Hd) (v : Value) (p : Int) (w : World) (h : HdsAt w v l) (hnil : NilOk v) (hn : l.length ≤ 60) :
    Calls Try.prog 78 #[v, .int .i64 p] w (RowPost Hd.cl 77 9 (l.map (stH p)) w) := by
  unfold RowPost
  have HL := Lib.hid h
  obtain ⟨a, cap, rfl, _⟩ := h
  rw [List.length_map] at *
  have HG := Lib.hid (fun (i : Nat) (hi : i < l.length) (h : i < (updTo (stH p) l i).length) => updTo_get (stH p) l i hi h)
  have HSc := Lib.hid (fun (i : Nat) (hi : i < l.length) => updTo_succ (stH p) l i hi)
  have HUl := Lib.hid (fun (i : Nat) => updTo_len (stH p) l i)
  have HZ : Hid (updTo (stH p) l l.length = l.map (stH p)) := Lib.hid (updTo_all _ _)
  have HZ0 : Hid (updTo (stH p) l 0 = l) := Lib.hid (by simp [updTo])
  have HlM : Hid ((l.map (stH p)).length = l.length) := Lib.hid (by simp)
  generalize l.map (stH p) = D at *
  obtain ⟨n, hnn⟩ : ∃ n, n = l.length := ⟨_, rfl⟩
  have HN := Lib.hid hnn
  clear hnn
  go_enter Try.func78, Try.ntmps78
  go_wp2_with (at_builtin; refine wpList_append_slice Hd.cl_len Hd.cl_one1 tyH _ rfl _ _ rfl w.heap.size _ [] l rfl (World.ownsRow_lit (base := w.heap.size) (e := 77) (size := 9) w #[] 0 (by simp) (Nat.zero_le _) rfl) a cap rfl hnil (SlAt.alloc HL.out _) (by simp; omega) (by simp) ?_; intro a' c' n' w5 HN5 hown5 hg5; have HO5 := Lib.hid hown5; have HB5 : Hid (Below w.heap.size w w5) := Lib.hid (((Below.refl _ w).alloc (Nat.le_refl _) _).grown hg5 (by simp) (fun k hk => by cases hk; exact Nat.le_refl _)); clear hown5 hg5)
  have hn5 : n' = n := by have := HN5.out; have := HN.out; simp at *; omega
  rw [List.nil_append] at HO5
  rw [hn5] at HO5 ⊢
  clear HN5 hn5 hnil
  go_wp2_with fail
  go_loopw [6] (fun u wr => ∃ i : Nat, i ≤ n ∧ u = .int .i64 (i : Int) ∧ Hid (wr.ownsRow w.heap.size 77 9 (.slice a' n c') n (rcells Hd.cl (updTo (stH p) l i))) ∧ Hid (Below w.heap.size w wr)) (fun u _ => n - (intOf u).toNat)
  case atStart => exact ⟨0, Nat.zero_le _, rfl, by rw [HZ0.out]; exact HO5, HB5⟩
  case round =>
    obtain ⟨i, hi, rfl, HO, HB⟩ := hrel
    by_cases hlt : i < n
    · have hir : i < l.length := by rw [← HN.out]; exact hlt
      have hl1 : (i : Int) < n := by omega
      obtain ⟨g, hg⟩ : ∃ g, a' = some ⟨g, 0, none⟩ := by
        rcases HO.out.2 with ⟨e, _⟩ | ⟨g, cp, cu, e, _⟩
        · injection e with _ e2 _; omega
        · injection e with e1 _ _; exact ⟨g, e1⟩
      subst hg
      have hul : i < (updTo (stH p) l i).length := by rw [HUl.out]; exact hir
      have HE := (rows_of_own (cl := Hd.cl) Hd.cl_len (l := updTo (stH p) l i) (by rw [HUl.out, ← HN.out]; exact HO.out))
      obtain ⟨_, _, hsl, hE⟩ := HE
      injection hsl with e1 e2 e3
      obtain ⟨b, off, e4, hb, hEl⟩ := hE (fun e => by have := congrArg List.length e; simp at this; rw [this] at hul; simp at hul)
      subst e1
      injection e4 with e4
      injection e4 with e4 e5
      subst e4 e5
      have HC := hEl.hd i hul
      rw [HG.out i hir hul] at HC
      simp only [Nat.zero_add] at HC
      have hfr := HO.out.frozenAt
      have hgB : w.heap.size ≤ g := (HO.out.lt g rfl).1
      have HNX := Lib.hid (fun (u : Bool) (hu : (stH p l[i]).s = u) => (show (wr.setCell ⟨g, i * 9 + 1, none⟩ (.bool u)).ownsRow w.heap.size 77 9 (.slice (some ⟨g, 0, none⟩) n c') n (rcells Hd.cl (updTo (stH p) l (i + 1))) from by
        have := (HO.out.stored (i * 9 + 1) (.bool u)).1
        rw [rcells_set Hd.cl_len (updTo (stH p) l i) i hul 1 (by omega) (.bool u) (stH p l[i]) (by rw [HG.out i hir hul, ← hu]; rfl)] at this
        rw [HSc.out i hir]
        exact this))
      have HBX := Lib.hid (fun (u : Bool) => HB.out.setCell (p := ⟨g, i * 9 + 1, none⟩) hgB (.bool u))
      clear hEl hE HO HB HO5 hul e2 e3
      obtain ⟨p0, p1, p2, p3, p4, p5, p6, p7, p8⟩ := HC
      generalize l[i] = x at *
      obtain ⟨xp, xs, xr⟩ := x
      cases xs
      all_goals
        dsimp only at *
        go_wp2_with fail
        go_roundw
        case rel => exact ⟨i + 1, by omega, by simp, Lib.hid (HNX.out _ (by simp [stH])), Lib.hid (HBX.out _)⟩
        case measure => simp [intOf]; omega
    · have hin : i = n := by omega
      subst hin
      go_wp2_with fail
      go_ret
      refine ⟨_, rfl, ?_, HB.out⟩
      have := HO.out
      rw [HlM.out, ← HZ.out, ← HN.out]
      exact this
end Go.Proofs.Ytmkoppbbenombaa
