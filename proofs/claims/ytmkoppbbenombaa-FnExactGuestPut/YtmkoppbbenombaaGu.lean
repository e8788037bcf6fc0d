/- Guests: the value, when one is right (the model's, the program's), a law's own turned and found equal, a law's own opened. -/
import Derived.Test.YtmkoppbbenombaaB4
import Derived.Test.YtmkoppbbenombaaB4
import Derived.Test.YtmkoppbbenombaaB3
import Derived.Test.YtmkoppbbenombaaB3
import Derived.Test.YtmkoppbbenombaaB4
import Derived.Deep.RegionHeld3
import Derived.Deep.CutRange
namespace Go.Proofs.Ytmkoppbbenombaa
open Go.RowKit Go.WideShapes Go.ChangeShapes

structure Gu where
  vni : Int
  mac : Int
  ip : Int
  door : Int
  seq : Int
  seen : Int
  st : Bool
def Gu.cl (g : Gu) : List Value := [.int .i64 g.vni, .int .i64 g.mac, .int .i64 g.ip, .int .i64 g.door, .int .i64 g.seq, .int .i64 g.seen, .bool g.st]
def Gu.ar (g : Gu) : Array Value := #[.int .i64 g.vni, .int .i64 g.mac, .int .i64 g.ip, .int .i64 g.door, .int .i64 g.seq, .int .i64 g.seen, .bool g.st]
def Gu.val (g : Gu) : Value := .agg #[.int .i64 g.vni, .int .i64 g.mac, .int .i64 g.ip, .int .i64 g.door, .int .i64 g.seq, .int .i64 g.seen, .bool g.st]
def Gu.zero : Gu := ⟨0, 0, 0, 0, 0, 0, false⟩
def guRight (v m i d s e : Int) : Bool := isVni v && ((isMac m && !isGroup m) && (isIp i && (inR d 1 4 && (isTime s && isTime e))))
def Gu.right (g : Gu) : Bool := guRight g.vni g.mac g.ip g.door g.seq g.seen
theorem specTime_any (n : Int) (w : World) : Calls Try.prog 102 #[.int .i64 n] w fun e w' => e = .returned (.bool (isTime n)) ∧ w = w' := by
  unfold isTime
  go_enter Try.func102, Try.ntmps102
  go_wp2_with (go_at_call 107; refine (specIs_any _ _ _ _).mono ?_; rintro e w' ⟨rfl, rfl⟩)
  go_ret
  exact ⟨rfl, rfl⟩
theorem implDoor_any (n : Int) (w : World) : Calls Try.prog 126 #[.int .i64 n] w fun e w' => e = .returned (.bool (inR n 1 4)) ∧ w = w' := by
  by_cases h1 : 1 ≤ n
  · have HR : Hid (inR n 1 4 = decide (n ≤ 4)) := Lib.hid (by rw [inR, decide_eq_true h1]; rfl)
    go_enter Try.func126, Try.ntmps126
    go_wp2
    go_ret
    exact ⟨bool_ret HR.out.symm, rfl⟩
  · have HR : Hid (inR n 1 4 = false) := Lib.hid (by rw [inR, decide_eq_false h1]; rfl)
    go_enter Try.func126, Try.ntmps126
    go_wp2
    go_ret
    exact ⟨bool_ret HR.out.symm, rfl⟩
/- the ways through the model's test -/
inductive GuWay (v m i d s e : Int) : Prop
  | vni (h1 : isVni v = false) (hr : Hid (guRight v m i d s e = false))
  | mac (h1 : isVni v = true) (h2 : isMac m = false) (hr : Hid (guRight v m i d s e = false))
  | group (h1 : isVni v = true) (h2 : isMac m = true) (h3 : isGroup m = true) (hr : Hid (guRight v m i d s e = false))
  | ip (h1 : isVni v = true) (h2 : isMac m = true) (h3 : isGroup m = false) (h4 : isIp i = false) (hr : Hid (guRight v m i d s e = false))
  | door (h1 : isVni v = true) (h2 : isMac m = true) (h3 : isGroup m = false) (h4 : isIp i = true) (h5 : inR d 1 4 = false) (hr : Hid (guRight v m i d s e = false))
  | seq (h1 : isVni v = true) (h2 : isMac m = true) (h3 : isGroup m = false) (h4 : isIp i = true) (h5 : inR d 1 4 = true) (h6 : isTime s = false) (hr : Hid (guRight v m i d s e = false))
  | seen (h1 : isVni v = true) (h2 : isMac m = true) (h3 : isGroup m = false) (h4 : isIp i = true) (h5 : inR d 1 4 = true) (h6 : isTime s = true) (hr : Hid (guRight v m i d s e = isTime e))
theorem gu_way (v m i d s e : Int) : GuWay v m i d s e := by
  cases h1 : isVni v
  · exact .vni h1 (Lib.hid (by rw [guRight, h1]; rfl))
  cases h2 : isMac m
  · exact .mac h1 h2 (Lib.hid (by rw [guRight, h1, h2]; rfl))
  cases h3 : isGroup m
  · cases h4 : isIp i
    · exact .ip h1 h2 h3 h4 (Lib.hid (by rw [guRight, h1, h2, h3, h4]; rfl))
    cases h5 : inR d 1 4
    · exact .door h1 h2 h3 h4 h5 (Lib.hid (by rw [guRight, h1, h2, h3, h4, h5]; rfl))
    cases h6 : isTime s
    · exact .seq h1 h2 h3 h4 h5 h6 (Lib.hid (by rw [guRight, h1, h2, h3, h4, h5, h6]; rfl))
    · exact .seen h1 h2 h3 h4 h5 h6 (Lib.hid (by rw [guRight, h1, h2, h3, h4, h5, h6]; simp))
  · exact .group h1 h2 h3 (Lib.hid (by rw [guRight, h1, h2, h3]; rfl))
set_option maxHeartbeats 1000000 in
theorem specGuest_any (g : Gu) (w : World) : Calls Try.prog 88 #[g.val] w fun e w' => e = .returned (.bool g.right) ∧ Below w.heap.size w w' := by
  have hw := gu_way g.vni g.mac g.ip g.door g.seq g.seen
  unfold Gu.right
  obtain ⟨v, m, i, d, s, n, t⟩ := g
  unfold Gu.val
  dsimp only at *
  rcases hw with ⟨h1, hr⟩ | ⟨h1, h2, hr⟩ | ⟨h1, h2, h3, hr⟩ | ⟨h1, h2, h3, h4, hr⟩ | ⟨h1, h2, h3, h4, h5, hr⟩ | ⟨h1, h2, h3, h4, h5, h6, hr⟩ | ⟨h1, h2, h3, h4, h5, h6, hr⟩
  all_goals
    go_enter Try.func88, Try.ntmps88
    go_wp2_with (first | (go_at_call 83; refine (specVni_any _ _).mono ?_; rintro e w' ⟨rfl, rfl⟩) | (go_at_call 107; refine (specIs_any _ _ _ _).mono ?_; rintro e w' ⟨rfl, rfl⟩) | (go_at_call 108; refine (specMac_any _ _).mono ?_; rintro e w' ⟨rfl, rfl⟩) | (go_at_call 109; refine (specGroup_b _ _).mono ?_; rintro e w' ⟨rfl, rfl⟩) | (go_at_call 110; refine (specIp_any _ _).mono ?_; rintro e w' ⟨rfl, rfl⟩) | (go_at_call 102; refine (specTime_any _ _).mono ?_; rintro e w' ⟨rfl, rfl⟩))
    go_ret
    refine ⟨bool_ret hr.out.symm, ?_⟩
    go_grown
/- the ways through the program's test -/
inductive GuWayI (v m i d s e : Int) : Prop
  | vni (h1 : isVni v = false) (hr : Hid (guRight v m i d s e = false))
  | single (h1 : isVni v = true) (h2 : (isMac m && !isGroup m) = false) (hr : Hid (guRight v m i d s e = false))
  | ip (h1 : isVni v = true) (h2 : (isMac m && !isGroup m) = true) (h4 : isIp i = false) (hr : Hid (guRight v m i d s e = false))
  | door (h1 : isVni v = true) (h2 : (isMac m && !isGroup m) = true) (h4 : isIp i = true) (h5 : inR d 1 4 = false) (hr : Hid (guRight v m i d s e = false))
  | seq (h1 : isVni v = true) (h2 : (isMac m && !isGroup m) = true) (h4 : isIp i = true) (h5 : inR d 1 4 = true) (h6 : isTime s = false) (hr : Hid (guRight v m i d s e = false))
  | seen (h1 : isVni v = true) (h2 : (isMac m && !isGroup m) = true) (h4 : isIp i = true) (h5 : inR d 1 4 = true) (h6 : isTime s = true) (hr : Hid (guRight v m i d s e = isTime e))
theorem gu_wayI (v m i d s e : Int) : GuWayI v m i d s e := by
  cases h1 : isVni v
  · exact .vni h1 (Lib.hid (by rw [guRight, h1]; rfl))
  cases h2 : (isMac m && !isGroup m)
  · exact .single h1 h2 (Lib.hid (by rw [guRight, h1, h2]; rfl))
  cases h4 : isIp i
  · exact .ip h1 h2 h4 (Lib.hid (by rw [guRight, h1, h2, h4]; rfl))
  cases h5 : inR d 1 4
  · exact .door h1 h2 h4 h5 (Lib.hid (by rw [guRight, h1, h2, h4, h5]; rfl))
  cases h6 : isTime s
  · exact .seq h1 h2 h4 h5 h6 (Lib.hid (by rw [guRight, h1, h2, h4, h5, h6]; rfl))
  · exact .seen h1 h2 h4 h5 h6 (Lib.hid (by rw [guRight, h1, h2, h4, h5, h6]; simp))
set_option maxHeartbeats 2000000 in
theorem implGuest_any (g : Gu) (w : World) : Calls Try.prog 91 #[g.val] w fun e w' => e = .returned (.bool g.right) ∧ Below w.heap.size w w' := by
  have hw := gu_wayI g.vni g.mac g.ip g.door g.seq g.seen
  unfold Gu.right
  obtain ⟨v, m, i, d, s, n, t⟩ := g
  unfold Gu.val
  dsimp only at *
  rcases hw with ⟨h1, hr⟩ | ⟨h1, h2, hr⟩ | ⟨h1, h2, h4, hr⟩ | ⟨h1, h2, h4, h5, hr⟩ | ⟨h1, h2, h4, h5, h6, hr⟩ | ⟨h1, h2, h4, h5, h6, hr⟩
  all_goals
    go_enter Try.func91, Try.ntmps91
    go_wp2_with (first | (go_at_call 85; refine (implVni_any _ _).mono ?_; rintro e w' ⟨rfl, rfl⟩) | (go_at_call 104; refine (implTime_any _ _).mono ?_; rintro e w' ⟨rfl, rfl⟩) | (go_at_call 125; refine (implIp_any _ _).mono ?_; rintro e w' ⟨rfl, rfl⟩) | (go_at_call 126; refine (implDoor_any _ _).mono ?_; rintro e w' ⟨rfl, rfl⟩) | (go_at_call 124; refine (implSingle_any _ _).mono ?_; rintro e w1 ⟨rfl, hb1⟩; have hc : ∀ o, w1.cell? ⟨w.heap.size, o, none⟩ = _ := fun o => hb1.cell (p := ⟨w.heap.size, o, none⟩) (by simp); have HB : Hid (Below w.heap.size w w1) := Lib.hid (((Below.refl _ _).alloc (Nat.le_refl _) _).trans (hb1.mono (by simp))); clear hb1))
    go_ret
    refine ⟨bool_ret hr.out.symm, ?_⟩
    first | exact HB.out | go_grown
set_option maxHeartbeats 1000000 in
theorem toGuest_any (g : Gu) (w : World) : Calls Try.prog 52 #[g.val] w fun e w' => e = .returned g.val ∧ Below w.heap.size w w' := by
  obtain ⟨v, m, i, d, s, n, t⟩ := g
  unfold Gu.val
  dsimp only
  go_enter Try.func52, Try.ntmps52
  go_wp2
  refine bodyPost_ret (v := .agg #[.int .i64 v, .int .i64 m, .int .i64 i, .int .i64 d, .int .i64 s, .int .i64 n, .bool t]) (by simp [results, Try.results52, go_sem]) rfl ⟨rfl, ?_⟩
  go_grown
set_option maxHeartbeats 1000000 in
theorem eqGuest_same (g : Gu) (w : World) : Calls Try.prog 50 #[g.val, g.val] w fun e w' => e = .returned (.bool true) ∧ Below w.heap.size w w' := by
  obtain ⟨v, m, i, d, s, n, t⟩ := g
  unfold Gu.val
  dsimp only
  go_enter Try.func50, Try.ntmps50
  go_wp2
  go_ret
  refine ⟨rfl, ?_⟩
  go_grown
abbrev GusAt (W : World) (v : Value) (l : List Gu) : Prop := SlAt W 7 v (l.map Gu.cl)
theorem Elems.gu {W : World} {b off : Nat} {l : List Gu} (h : Elems W b off 7 (l.map Gu.cl)) (i : Nat) (hi : i < l.length) :
    W.cell? ⟨b, off + i * 7, none⟩ = some (.int .i64 (l[i]).vni) ∧ W.cell? ⟨b, off + i * 7 + 1, none⟩ = some (.int .i64 (l[i]).mac) ∧ W.cell? ⟨b, off + i * 7 + 2, none⟩ = some (.int .i64 (l[i]).ip) ∧
    W.cell? ⟨b, off + i * 7 + 3, none⟩ = some (.int .i64 (l[i]).door) ∧ W.cell? ⟨b, off + i * 7 + 4, none⟩ = some (.int .i64 (l[i]).seq) ∧ W.cell? ⟨b, off + i * 7 + 5, none⟩ = some (.int .i64 (l[i]).seen) ∧ W.cell? ⟨b, off + i * 7 + 6, none⟩ = some (.bool (l[i]).st) := by
  have k := h i (l[i]).cl (by rw [List.getElem?_map, List.getElem?_eq_getElem hi]; rfl)
  exact ⟨k 0 _ rfl, k 1 _ rfl, k 2 _ rfl, k 3 _ rfl, k 4 _ rfl, k 5 _ rfl, k 6 _ rfl⟩
set_option maxRecDepth 100000 in
theorem int_openG {w : World} {r : Reach} {b0 : Nat} {v : Value} (o : Value.okWide Try.prog w r b0 2 v) : ∃ a : Int, v = .int .i64 a := okWide_int Try.underlying2 o
theorem cells_guest : Try.prog.cellsOf 63 = 7 := by kernel_rfl
set_option maxRecDepth 100000 in
theorem guest_open {H : Type} {enc : TypeId × Value → H} {w : World} {base : Nat} {sp : Nat → Bool} {held : Bool} {r : Reach} {b0 : Nat} {v : Value} {d : DataW H} {p : List MemPlace} (o : Value.okWide Try.prog w r b0 63 v) (h : DataW.Trod enc Try.prog w base sp held 63 v d p) : ∃ x : Gu, v = x.val := by
  obtain ⟨cs, rfl, hsz, hf⟩ := struct_open Try.underlying63 o h
  obtain ⟨a0, e0, _⟩ := int_at Try.underlying2 cells_int (hf 0 _ rfl)
  obtain ⟨a1, e1, _⟩ := int_at Try.underlying2 cells_int (hf 1 _ rfl)
  obtain ⟨a2, e2, _⟩ := int_at Try.underlying2 cells_int (hf 2 _ rfl)
  obtain ⟨a3, e3, _⟩ := int_at Try.underlying2 cells_int (hf 3 _ rfl)
  obtain ⟨a4, e4, _⟩ := int_at Try.underlying2 cells_int (hf 4 _ rfl)
  obtain ⟨a5, e5, _⟩ := int_at Try.underlying2 cells_int (hf 5 _ rfl)
  obtain ⟨a6, e6⟩ := bool_at Try.underlying4 cells_bool (hf 6 _ rfl)
  obtain rfl := arr7 (hsz.trans cells_guest) e0 e1 e2 e3 e4 e5 e6
  exact ⟨⟨a0, a1, a2, a3, a4, a5, a6⟩, rfl⟩
theorem lst7 {cs : List Value} {a0 a1 a2 a3 a4 a5 a6 : Value} (h : cs.length = 7) (e0 : cs[0]? = some a0) (e1 : cs[1]? = some a1) (e2 : cs[2]? = some a2) (e3 : cs[3]? = some a3) (e4 : cs[4]? = some a4) (e5 : cs[5]? = some a5) (e6 : cs[6]? = some a6) : cs = [a0, a1, a2, a3, a4, a5, a6] := by
  match cs, h with
  | [c0, c1, c2, c3, c4, c5, c6], _ => simp at e0 e1 e2 e3 e4 e5 e6; subst e0 e1 e2 e3 e4 e5 e6; rfl
set_option maxRecDepth 100000 in
theorem guests_of {H : Type} {enc : TypeId × Value → H} {w : World} {base : Nat} {sp : Nat → Bool} {held : Bool} (vs : List (List Value)) (h : ∀ cs ∈ vs, cs.length = 7 ∧ Reads enc Try.prog w base sp held 63 cs) : ∃ l : List Gu, vs = l.map Gu.cl := by
  induction vs with
  | nil => exact ⟨[], rfl⟩
  | cons cs vs ih =>
    obtain ⟨l, hrs⟩ := ih (fun c hc => h c (by simp [hc]))
    obtain ⟨hl, hr⟩ := h cs (by simp)
    have hf := struct_reads Try.underlying63 hr
    obtain ⟨a0, e0, _⟩ := int_at Try.underlying2 cells_int (hf 0 _ rfl)
    obtain ⟨a1, e1, _⟩ := int_at Try.underlying2 cells_int (hf 1 _ rfl)
    obtain ⟨a2, e2, _⟩ := int_at Try.underlying2 cells_int (hf 2 _ rfl)
    obtain ⟨a3, e3, _⟩ := int_at Try.underlying2 cells_int (hf 3 _ rfl)
    obtain ⟨a4, e4, _⟩ := int_at Try.underlying2 cells_int (hf 4 _ rfl)
    obtain ⟨a5, e5, _⟩ := int_at Try.underlying2 cells_int (hf 5 _ rfl)
    obtain ⟨a6, e6⟩ := bool_at Try.underlying4 cells_bool (hf 6 _ rfl)
    have hcs := lst7 hl e0 e1 e2 e3 e4 e5 e6
    exact ⟨⟨a0, a1, a2, a3, a4, a5, a6⟩ :: l, by rw [hcs, hrs]; rfl⟩
set_option maxRecDepth 100000 in
theorem guests_open {H : Type} {enc : TypeId × Value → H} {w : World} {base : Nat} {sp : Nat → Bool} {held : Bool} {r : Reach} {b0 : Nat} {v : Value} {d : DataW H} {p : List MemPlace} (o : Value.okWide Try.prog w r b0 51 v) (h : DataW.Trod enc Try.prog w base sp held 51 v d p) :
    ∃ l : List Gu, SlAt w 7 v (l.map Gu.cl) ∧ l.length ≤ maxLen ∧ ∃ a c, v = .slice a l.length c := by
  obtain ⟨vs, hsl, hml, hrd⟩ := slice_open 7 (by omega) Try.underlying51 cells_guest o h
  obtain ⟨l, rfl⟩ := guests_of vs hrd
  rw [List.length_map] at hml
  refine ⟨l, hsl, hml, ?_⟩
  obtain ⟨a, c, e, _⟩ := hsl
  exact ⟨a, c, by rw [e, List.length_map]⟩
end Go.Proofs.Ytmkoppbbenombaa
