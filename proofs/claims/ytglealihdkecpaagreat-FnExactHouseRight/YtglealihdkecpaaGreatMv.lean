/- Moves of guests: the value, when one is right (the model's), a law's own turned and found equal, a law's own opened. -/
import Derived.Test.YtglealihdkecpaaGreatGu
namespace Go.Proofs.YtglealihdkecpaaGreat
open Go.RowKit Go.WideShapes Go.ChangeShapes

structure Mv where
  vni : Int
  mac : Int
  tm : Int
def Mv.cl (g : Mv) : List Value := [.int .i64 g.vni, .int .i64 g.mac, .int .i64 g.tm]
def Mv.ar (g : Mv) : Array Value := #[.int .i64 g.vni, .int .i64 g.mac, .int .i64 g.tm]
def Mv.val (g : Mv) : Value := .agg #[.int .i64 g.vni, .int .i64 g.mac, .int .i64 g.tm]
def mvRight (v m t : Int) : Bool := isVni v && (isMac m && isTime t)
def Mv.right (g : Mv) : Bool := mvRight g.vni g.mac g.tm
/- the ways through the test -/
inductive MvWay (v m t : Int) : Prop
  | vni (h1 : isVni v = false) (hr : Hid (mvRight v m t = false))
  | mac (h1 : isVni v = true) (h2 : isMac m = false) (hr : Hid (mvRight v m t = false))
  | time (h1 : isVni v = true) (h2 : isMac m = true) (hr : Hid (mvRight v m t = isTime t))
theorem mv_way (v m t : Int) : MvWay v m t := by
  cases h1 : isVni v
  · exact .vni h1 (Lib.hid (by rw [mvRight, h1]; rfl))
  cases h2 : isMac m
  · exact .mac h1 h2 (Lib.hid (by rw [mvRight, h1, h2]; rfl))
  · exact .time h1 h2 (Lib.hid (by rw [mvRight, h1, h2]; simp))
set_option maxHeartbeats 1000000 in
theorem specWent_any (g : Mv) (w : World) : Calls Tryz.prog 101 #[g.val] w fun e w' => e = .returned (.bool g.right) ∧ Below w.heap.size w w' := by
  have hw := mv_way g.vni g.mac g.tm
  unfold Mv.right
  obtain ⟨v, m, t⟩ := g
  unfold Mv.val
  dsimp only at *
  rcases hw with ⟨h1, hr⟩ | ⟨h1, h2, hr⟩ | ⟨h1, h2, hr⟩
  all_goals
    go_enter Tryz.func101, Tryz.ntmps101
    go_wp2_with (first | (go_at_call 88; refine (specVni_any _ _).mono ?_; rintro e w' ⟨rfl, rfl⟩) | (go_at_call 102; refine (specMac_any _ _).mono ?_; rintro e w' ⟨rfl, rfl⟩) | (go_at_call 43; refine (specTime_any _ _).mono ?_; rintro e w' ⟨rfl, rfl⟩))
    go_ret
    refine ⟨bool_ret hr.out.symm, ?_⟩
    go_grown
set_option maxHeartbeats 1000000 in
theorem toWent_any (g : Mv) (w : World) : Calls Tryz.prog 107 #[g.val] w fun e w' => e = .returned g.val ∧ Below w.heap.size w w' := by
  obtain ⟨v, m, t⟩ := g
  unfold Mv.val
  dsimp only
  go_enter Tryz.func107, Tryz.ntmps107
  go_wp2
  refine bodyPost_ret (v := .agg #[.int .i64 v, .int .i64 m, .int .i64 t]) (by simp [results, Tryz.results107, go_sem]) rfl ⟨rfl, ?_⟩
  go_grown
set_option maxHeartbeats 1000000 in
theorem eqWent_same (g : Mv) (w : World) : Calls Tryz.prog 132 #[g.val, g.val] w fun e w' => e = .returned (.bool true) ∧ Below w.heap.size w w' := by
  obtain ⟨v, m, t⟩ := g
  unfold Mv.val
  dsimp only
  go_enter Tryz.func132, Tryz.ntmps132
  go_wp2
  go_ret
  refine ⟨rfl, ?_⟩
  go_grown
abbrev MvsAt (W : World) (v : Value) (l : List Mv) : Prop := SlAt W 3 v (l.map Mv.cl)
theorem Elems.mv {W : World} {b off : Nat} {l : List Mv} (h : Elems W b off 3 (l.map Mv.cl)) (i : Nat) (hi : i < l.length) :
    W.cell? ⟨b, off + i * 3, none⟩ = some (.int .i64 (l[i]).vni) ∧ W.cell? ⟨b, off + i * 3 + 1, none⟩ = some (.int .i64 (l[i]).mac) ∧ W.cell? ⟨b, off + i * 3 + 2, none⟩ = some (.int .i64 (l[i]).tm) := by
  have k := h i (l[i]).cl (by rw [List.getElem?_map, List.getElem?_eq_getElem hi]; rfl)
  exact ⟨k 0 _ rfl, k 1 _ rfl, k 2 _ rfl⟩
theorem cells_went : Tryz.prog.cellsOf 137 = 3 := by kernel_rfl
theorem arr3m {cs : Array Value} {a0 a1 a2 : Value} (h : cs.size = 3) (e0 : cs.toList[0]? = some a0) (e1 : cs.toList[1]? = some a1) (e2 : cs.toList[2]? = some a2) : cs = #[a0, a1, a2] := by
  obtain ⟨cs⟩ := cs
  match cs, h with
  | [c0, c1, c2], _ => simp at e0 e1 e2; subst e0 e1 e2; rfl
theorem lst3m {cs : List Value} {a0 a1 a2 : Value} (h : cs.length = 3) (e0 : cs[0]? = some a0) (e1 : cs[1]? = some a1) (e2 : cs[2]? = some a2) : cs = [a0, a1, a2] := by
  match cs, h with
  | [c0, c1, c2], _ => simp at e0 e1 e2; subst e0 e1 e2; rfl
set_option maxRecDepth 100000 in
theorem went_open {H : Type} {enc : TypeId × Value → H} {w : World} {base : Nat} {sp : Nat → Bool} {held : Bool} {r : Reach} {b0 : Nat} {v : Value} {d : DataW H} {p : List MemPlace} (o : Value.okWide Tryz.prog w r b0 137 v) (h : DataW.Trod enc Tryz.prog w base sp held 137 v d p) : ∃ x : Mv, v = x.val := by
  obtain ⟨cs, rfl, hsz, hf⟩ := struct_open Tryz.underlying137 o h
  obtain ⟨a0, e0, _⟩ := int_at Tryz.underlying2 cells_int (hf 0 _ rfl)
  obtain ⟨a1, e1, _⟩ := int_at Tryz.underlying2 cells_int (hf 1 _ rfl)
  obtain ⟨a2, e2, _⟩ := int_at Tryz.underlying2 cells_int (hf 2 _ rfl)
  obtain rfl := arr3m (hsz.trans cells_went) e0 e1 e2
  exact ⟨⟨a0, a1, a2⟩, rfl⟩
set_option maxRecDepth 100000 in
theorem wents_of {H : Type} {enc : TypeId × Value → H} {w : World} {base : Nat} {sp : Nat → Bool} {held : Bool} (vs : List (List Value)) (h : ∀ cs ∈ vs, cs.length = 3 ∧ Reads enc Tryz.prog w base sp held 137 cs) : ∃ l : List Mv, vs = l.map Mv.cl := by
  induction vs with
  | nil => exact ⟨[], rfl⟩
  | cons cs vs ih =>
    obtain ⟨l, hrs⟩ := ih (fun c hc => h c (by simp [hc]))
    obtain ⟨hl, hr⟩ := h cs (by simp)
    have hf := struct_reads Tryz.underlying137 hr
    obtain ⟨a0, e0, _⟩ := int_at Tryz.underlying2 cells_int (hf 0 _ rfl)
    obtain ⟨a1, e1, _⟩ := int_at Tryz.underlying2 cells_int (hf 1 _ rfl)
    obtain ⟨a2, e2, _⟩ := int_at Tryz.underlying2 cells_int (hf 2 _ rfl)
    have hcs := lst3m hl e0 e1 e2
    exact ⟨⟨a0, a1, a2⟩ :: l, by rw [hcs, hrs]; rfl⟩
set_option maxRecDepth 100000 in
theorem wents_open {H : Type} {enc : TypeId × Value → H} {w : World} {base : Nat} {sp : Nat → Bool} {held : Bool} {r : Reach} {b0 : Nat} {v : Value} {d : DataW H} {p : List MemPlace} (o : Value.okWide Tryz.prog w r b0 26 v) (h : DataW.Trod enc Tryz.prog w base sp held 26 v d p) :
    ∃ l : List Mv, SlAt w 3 v (l.map Mv.cl) ∧ l.length ≤ maxLen ∧ ∃ a c, v = .slice a l.length c := by
  obtain ⟨vs, hsl, hml, hrd⟩ := slice_open 3 (by omega) Tryz.underlying26 cells_went o h
  obtain ⟨l, rfl⟩ := wents_of vs hrd
  rw [List.length_map] at hml
  refine ⟨l, hsl, hml, ?_⟩
  obtain ⟨a, c, e, _⟩ := hsl
  exact ⟨a, c, by rw [e, List.length_map]⟩
end Go.Proofs.YtglealihdkecpaaGreat
