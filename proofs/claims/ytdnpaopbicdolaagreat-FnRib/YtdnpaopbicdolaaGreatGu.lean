/- Guests: the value, when one is right (the model's, the program's), a law's own turned and found equal, a law's own opened. -/
import Derived.Test.YtdnpaopbicdolaaGreatB4
import Derived.Test.YtdnpaopbicdolaaGreatB4
import Derived.Test.YtdnpaopbicdolaaGreatB3
import Derived.Test.YtdnpaopbicdolaaGreatB3
import Derived.Test.YtdnpaopbicdolaaGreatB4
import Derived.Deep.RegionHeld3
import Derived.Deep.CutRange
namespace Go.Proofs.YtdnpaopbicdolaaGreat
open Go.RowKit Go.WideShapes Go.ChangeShapes

structure Gu where
  vni : Int
  mac : Int
  ip : Int
  door : Int
  seq : Int
  seen : Int
  st : Bool
def Gu.cl (g : Gu) : List Value := [.int .i64 g.vni, .int .i64 g.mac, .int .i64 g.ip, .int .i64 g.door, .int .i64 g.seq, .int .i64 g.seen, .bool g.st]
def Gu.ar (g : Gu) : Array Value := #[.int .i64 g.vni, .int .i64 g.mac, .int .i64 g.ip, .int .i64 g.door, .int .i64 g.seq, .int .i64 g.seen, .bool g.st]
def Gu.val (g : Gu) : Value := .agg #[.int .i64 g.vni, .int .i64 g.mac, .int .i64 g.ip, .int .i64 g.door, .int .i64 g.seq, .int .i64 g.seen, .bool g.st]
def Gu.zero : Gu := ⟨0, 0, 0, 0, 0, 0, false⟩
def guRight (v m i d s e : Int) : Bool := isVni v && ((isMac m && !isGroup m) && (isIp i && (inR d 1 4 && (isTime s && isTime e))))
def Gu.right (g : Gu) : Bool := guRight g.vni g.mac g.ip g.door g.seq g.seen
/- the ways through the model's test -/
inductive GuWay (v m i d s e : Int) : Prop
  | vni (h1 : isVni v = false) (hr : Hid (guRight v m i d s e = false))
  | mac (h1 : isVni v = true) (h2 : isMac m = false) (hr : Hid (guRight v m i d s e = false))
  | group (h1 : isVni v = true) (h2 : isMac m = true) (h3 : isGroup m = true) (hr : Hid (guRight v m i d s e = false))
  | ip (h1 : isVni v = true) (h2 : isMac m = true) (h3 : isGroup m = false) (h4 : isIp i = false) (hr : Hid (guRight v m i d s e = false))
  | door (h1 : isVni v = true) (h2 : isMac m = true) (h3 : isGroup m = false) (h4 : isIp i = true) (h5 : inR d 1 4 = false) (hr : Hid (guRight v m i d s e = false))
  | seq (h1 : isVni v = true) (h2 : isMac m = true) (h3 : isGroup m = false) (h4 : isIp i = true) (h5 : inR d 1 4 = true) (h6 : isTime s = false) (hr : Hid (guRight v m i d s e = false))
  | seen (h1 : isVni v = true) (h2 : isMac m = true) (h3 : isGroup m = false) (h4 : isIp i = true) (h5 : inR d 1 4 = true) (h6 : isTime s = true) (hr : Hid (guRight v m i d s e = isTime e))
theorem gu_way (v m i d s e : Int) : GuWay v m i d s e := by
  cases h1 : isVni v
  · exact .vni h1 (Lib.hid (by rw [guRight, h1]; rfl))
  cases h2 : isMac m
  · exact .mac h1 h2 (Lib.hid (by rw [guRight, h1, h2]; rfl))
  cases h3 : isGroup m
  · cases h4 : isIp i
    · exact .ip h1 h2 h3 h4 (Lib.hid (by rw [guRight, h1, h2, h3, h4]; rfl))
    cases h5 : inR d 1 4
    · exact .door h1 h2 h3 h4 h5 (Lib.hid (by rw [guRight, h1, h2, h3, h4, h5]; rfl))
    cases h6 : isTime s
    · exact .seq h1 h2 h3 h4 h5 h6 (Lib.hid (by rw [guRight, h1, h2, h3, h4, h5, h6]; rfl))
    · exact .seen h1 h2 h3 h4 h5 h6 (Lib.hid (by rw [guRight, h1, h2, h3, h4, h5, h6]; simp))
  · exact .group h1 h2 h3 (Lib.hid (by rw [guRight, h1, h2, h3]; rfl))
/- the ways through the program's test -/
inductive GuWayI (v m i d s e : Int) : Prop
  | vni (h1 : isVni v = false) (hr : Hid (guRight v m i d s e = false))
  | single (h1 : isVni v = true) (h2 : (isMac m && !isGroup m) = false) (hr : Hid (guRight v m i d s e = false))
  | ip (h1 : isVni v = true) (h2 : (isMac m && !isGroup m) = true) (h4 : isIp i = false) (hr : Hid (guRight v m i d s e = false))
  | door (h1 : isVni v = true) (h2 : (isMac m && !isGroup m) = true) (h4 : isIp i = true) (h5 : inR d 1 4 = false) (hr : Hid (guRight v m i d s e = false))
  | seq (h1 : isVni v = true) (h2 : (isMac m && !isGroup m) = true) (h4 : isIp i = true) (h5 : inR d 1 4 = true) (h6 : isTime s = false) (hr : Hid (guRight v m i d s e = false))
  | seen (h1 : isVni v = true) (h2 : (isMac m && !isGroup m) = true) (h4 : isIp i = true) (h5 : inR d 1 4 = true) (h6 : isTime s = true) (hr : Hid (guRight v m i d s e = isTime e))
theorem gu_wayI (v m i d s e : Int) : GuWayI v m i d s e := by
  cases h1 : isVni v
  · exact .vni h1 (Lib.hid (by rw [guRight, h1]; rfl))
  cases h2 : (isMac m && !isGroup m)
  · exact .single h1 h2 (Lib.hid (by rw [guRight, h1, h2]; rfl))
  cases h4 : isIp i
  · exact .ip h1 h2 h4 (Lib.hid (by rw [guRight, h1, h2, h4]; rfl))
  cases h5 : inR d 1 4
  · exact .door h1 h2 h4 h5 (Lib.hid (by rw [guRight, h1, h2, h4, h5]; rfl))
  cases h6 : isTime s
  · exact .seq h1 h2 h4 h5 h6 (Lib.hid (by rw [guRight, h1, h2, h4, h5, h6]; rfl))
  · exact .seen h1 h2 h4 h5 h6 (Lib.hid (by rw [guRight, h1, h2, h4, h5, h6]; simp))
abbrev GusAt (W : World) (v : Value) (l : List Gu) : Prop := SlAt W 7 v (l.map Gu.cl)
theorem Elems.gu {W : World} {b off : Nat} {l : List Gu} (h : Elems W b off 7 (l.map Gu.cl)) (i : Nat) (hi : i < l.length) :
    W.cell? ⟨b, off + i * 7, none⟩ = some (.int .i64 (l[i]).vni) ∧ W.cell? ⟨b, off + i * 7 + 1, none⟩ = some (.int .i64 (l[i]).mac) ∧ W.cell? ⟨b, off + i * 7 + 2, none⟩ = some (.int .i64 (l[i]).ip) ∧
    W.cell? ⟨b, off + i * 7 + 3, none⟩ = some (.int .i64 (l[i]).door) ∧ W.cell? ⟨b, off + i * 7 + 4, none⟩ = some (.int .i64 (l[i]).seq) ∧ W.cell? ⟨b, off + i * 7 + 5, none⟩ = some (.int .i64 (l[i]).seen) ∧ W.cell? ⟨b, off + i * 7 + 6, none⟩ = some (.bool (l[i]).st) := by
  have k := h i (l[i]).cl (by rw [List.getElem?_map, List.getElem?_eq_getElem hi]; rfl)
  exact ⟨k 0 _ rfl, k 1 _ rfl, k 2 _ rfl, k 3 _ rfl, k 4 _ rfl, k 5 _ rfl, k 6 _ rfl⟩
set_option maxRecDepth 100000 in
theorem int_openG {w : World} {r : Reach} {b0 : Nat} {v : Value} (o : Value.okWide Tryz.prog w r b0 2 v) : ∃ a : Int, v = .int .i64 a := okWide_int Tryz.underlying2 o
theorem lst7 {cs : List Value} {a0 a1 a2 a3 a4 a5 a6 : Value} (h : cs.length = 7) (e0 : cs[0]? = some a0) (e1 : cs[1]? = some a1) (e2 : cs[2]? = some a2) (e3 : cs[3]? = some a3) (e4 : cs[4]? = some a4) (e5 : cs[5]? = some a5) (e6 : cs[6]? = some a6) : cs = [a0, a1, a2, a3, a4, a5, a6] := by
  match cs, h with
  | [c0, c1, c2, c3, c4, c5, c6], _ => simp at e0 e1 e2 e3 e4 e5 e6; subst e0 e1 e2 e3 e4 e5 e6; rfl
end Go.Proofs.YtdnpaopbicdolaaGreat
