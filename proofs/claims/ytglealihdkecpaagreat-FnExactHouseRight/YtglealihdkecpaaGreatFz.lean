/- Frozen guests: the value, when one is right, the order, when a list is; a law's own turned and found equal, a law's own opened. -/
import Derived.Test.YtglealihdkecpaaGreatGsM
namespace Go.Proofs.YtglealihdkecpaaGreat
open Go.RowKit Go.WideShapes Go.ChangeShapes

structure Fz where
  vni : Int
  mac : Int
  house : Int
  door : Int
def Fz.cl (g : Fz) : List Value := [.int .i64 g.vni, .int .i64 g.mac, .int .i64 g.house, .int .i64 g.door]
def Fz.ar (g : Fz) : Array Value := #[.int .i64 g.vni, .int .i64 g.mac, .int .i64 g.house, .int .i64 g.door]
def Fz.val (g : Fz) : Value := .agg #[.int .i64 g.vni, .int .i64 g.mac, .int .i64 g.house, .int .i64 g.door]
def Fz.zero : Fz := ⟨0, 0, 0, 0⟩
def fzRight (v m h d : Int) : Bool := isVni v && ((isMac m && !isGroup m) && (inR h 0 4 && inR d 0 4))
def Fz.right (g : Fz) : Bool := fzRight g.vni g.mac g.house g.door
set_option maxHeartbeats 1000000 in
theorem toFrozen_any (g : Fz) (w : World) : Calls Tryz.prog 108 #[g.val] w fun e w' => e = .returned g.val ∧ Below w.heap.size w w' := by
  obtain ⟨v, m, t, u⟩ := g
  unfold Fz.val
  dsimp only
  go_enter Tryz.func108, Tryz.ntmps108
  go_wp2
  refine bodyPost_ret (v := .agg #[.int .i64 v, .int .i64 m, .int .i64 t, .int .i64 u]) (by simp [results, Tryz.results108, go_sem]) rfl ⟨rfl, ?_⟩
  go_grown
set_option maxHeartbeats 1000000 in
theorem eqFrozen_same (g : Fz) (w : World) : Calls Tryz.prog 133 #[g.val, g.val] w fun e w' => e = .returned (.bool true) ∧ Below w.heap.size w w' := by
  obtain ⟨v, m, t, u⟩ := g
  unfold Fz.val
  dsimp only
  go_enter Tryz.func133, Tryz.ntmps133
  go_wp2
  go_ret
  refine ⟨rfl, ?_⟩
  go_grown
abbrev FzsAt (W : World) (v : Value) (l : List Fz) : Prop := SlAt W 4 v (l.map Fz.cl)
theorem Elems.fz {W : World} {b off : Nat} {l : List Fz} (h : Elems W b off 4 (l.map Fz.cl)) (i : Nat) (hi : i < l.length) :
    W.cell? ⟨b, off + i * 4, none⟩ = some (.int .i64 (l[i]).vni) ∧ W.cell? ⟨b, off + i * 4 + 1, none⟩ = some (.int .i64 (l[i]).mac) ∧ W.cell? ⟨b, off + i * 4 + 2, none⟩ = some (.int .i64 (l[i]).house) ∧ W.cell? ⟨b, off + i * 4 + 3, none⟩ = some (.int .i64 (l[i]).door) := by
  have k := h i (l[i]).cl (by rw [List.getElem?_map, List.getElem?_eq_getElem hi]; rfl)
  exact ⟨k 0 _ rfl, k 1 _ rfl, k 2 _ rfl, k 3 _ rfl⟩
theorem cells_frozen : Tryz.prog.cellsOf 139 = 4 := by kernel_rfl
theorem arr4f {cs : Array Value} {a0 a1 a2 a3 : Value} (h : cs.size = 4) (e0 : cs.toList[0]? = some a0) (e1 : cs.toList[1]? = some a1) (e2 : cs.toList[2]? = some a2) (e3 : cs.toList[3]? = some a3) : cs = #[a0, a1, a2, a3] := by
  obtain ⟨cs⟩ := cs
  match cs, h with
  | [c0, c1, c2, c3], _ => simp at e0 e1 e2 e3; subst e0 e1 e2 e3; rfl
theorem lst4f {cs : List Value} {a0 a1 a2 a3 : Value} (h : cs.length = 4) (e0 : cs[0]? = some a0) (e1 : cs[1]? = some a1) (e2 : cs[2]? = some a2) (e3 : cs[3]? = some a3) : cs = [a0, a1, a2, a3] := by
  match cs, h with
  | [c0, c1, c2, c3], _ => simp at e0 e1 e2 e3; subst e0 e1 e2 e3; rfl
set_option maxRecDepth 100000 in
theorem frozens_of {H : Type} {enc : TypeId × Value → H} {w : World} {base : Nat} {sp : Nat → Bool} {held : Bool} (vs : List (List Value)) (h : ∀ cs ∈ vs, cs.length = 4 ∧ Reads enc Tryz.prog w base sp held 139 cs) : ∃ l : List Fz, vs = l.map Fz.cl := by
  induction vs with
  | nil => exact ⟨[], rfl⟩
  | cons cs vs ih =>
    obtain ⟨l, hrs⟩ := ih (fun c hc => h c (by simp [hc]))
    obtain ⟨hl, hr⟩ := h cs (by simp)
    have hf := struct_reads Tryz.underlying139 hr
    obtain ⟨a0, e0, _⟩ := int_at Tryz.underlying2 cells_int (hf 0 _ rfl)
    obtain ⟨a1, e1, _⟩ := int_at Tryz.underlying2 cells_int (hf 1 _ rfl)
    obtain ⟨a2, e2, _⟩ := int_at Tryz.underlying2 cells_int (hf 2 _ rfl)
    obtain ⟨a3, e3, _⟩ := int_at Tryz.underlying2 cells_int (hf 3 _ rfl)
    have hcs := lst4f hl e0 e1 e2 e3
    exact ⟨⟨a0, a1, a2, a3⟩ :: l, by rw [hcs, hrs]; rfl⟩
end Go.Proofs.YtglealihdkecpaaGreat
