/- firstHeap of Hd: its order, Len, Less, Swap. -/
import Derived.Test.YtmkoppbbenombaaFhC
import Derived.Test.YtmkoppbbenombaaApR
import Derived.Test.YtmkoppbbenombaaMg
import Derived.Test.YtmkoppbbenombaaHdL
import Derived.Test.YtmkoppbbenombaaRHd
import Derived.Test.YtmkoppbbenombaaHpM
namespace Go.Proofs.Ytmkoppbbenombaa
open Go.RowKit
abbrev o349ad_0 : Oper := { dst := some 22, op := Op.load 77 (Operand.tmp 21), type := 77, pos := "l06_rib.go:66", after := #[{ on := 15, ground := Ground.data }], guard := none }
abbrev o349ad_1 : Oper := { dst := some 29, op := Op.load 77 (Operand.tmp 28), type := 77, pos := "l06_rib.go:66", after := #[{ on := 22, ground := Ground.data }], guard := none }
abbrev o349ad_2 : Oper := { dst := some 30, op := Op.indexAddr 25 (Operand.tmp 9) (Operand.tmp 10), type := 0, pos := "l06_rib.go:66", after := #[{ on := 3, ground := Ground.data }, { on := 4, ground := Ground.data }, { on := 0, ground := Ground.phase }, { on := 1, ground := Ground.phase }, { on := 2, ground := Ground.phase }, { on := 3, ground := Ground.phase }, { on := 4, ground := Ground.phase }, { on := 5, ground := Ground.textOnly Departure.lateStores }, { on := 6, ground := Ground.textOnly Departure.lateStoresUnsure }, { on := 7, ground := Ground.textOnly Departure.lateStoresUnsure }, { on := 8, ground := Ground.phase }, { on := 9, ground := Ground.textOnly Departure.lateStores }, { on := 10, ground := Ground.phase }, { on := 11, ground := Ground.phase }, { on := 12, ground := Ground.phase }, { on := 13, ground := Ground.phase }, { on := 14, ground := Ground.phase }, { on := 15, ground := Ground.phase }, { on := 16, ground := Ground.phase }, { on := 17, ground := Ground.textOnly Departure.lateStores }, { on := 18, ground := Ground.textOnly Departure.lateStoresUnsure }, { on := 19, ground := Ground.textOnly Departure.lateStoresUnsure }, { on := 20, ground := Ground.phase }, { on := 21, ground := Ground.textOnly Departure.lateStores }, { on := 22, ground := Ground.textOnly Departure.lateStoresUnsure }, { on := 23, ground := Ground.phase }], guard := none }
abbrev o349ad_3 : Oper := { dst := none, op := Op.store 77 (Operand.tmp 30) (Operand.tmp 22), type := 0, pos := "l06_rib.go:66", after := #[{ on := 24, ground := Ground.data }, { on := 16, ground := Ground.data }, { on := 0, ground := Ground.phase }, { on := 1, ground := Ground.phase }, { on := 2, ground := Ground.phase }, { on := 3, ground := Ground.phase }, { on := 4, ground := Ground.phase }, { on := 5, ground := Ground.textOnly Departure.lateStores }, { on := 6, ground := Ground.textOnly Departure.lateStoresUnsure }, { on := 7, ground := Ground.textOnly Departure.lateStoresUnsure }, { on := 8, ground := Ground.phase }, { on := 9, ground := Ground.textOnly Departure.lateStores }, { on := 10, ground := Ground.phase }, { on := 11, ground := Ground.phase }, { on := 12, ground := Ground.phase }, { on := 13, ground := Ground.phase }, { on := 14, ground := Ground.phase }, { on := 15, ground := Ground.phase }, { on := 16, ground := Ground.phase }, { on := 17, ground := Ground.textOnly Departure.lateStores }, { on := 18, ground := Ground.textOnly Departure.lateStoresUnsure }, { on := 19, ground := Ground.textOnly Departure.lateStoresUnsure }, { on := 20, ground := Ground.phase }, { on := 21, ground := Ground.textOnly Departure.lateStores }, { on := 22, ground := Ground.textOnly Departure.lateStoresUnsure }, { on := 23, ground := Ground.phase }], guard := none }
abbrev o349ad_4 : Oper := { dst := some 31, op := Op.indexAddr 25 (Operand.tmp 14) (Operand.tmp 15), type := 0, pos := "l06_rib.go:66", after := #[{ on := 8, ground := Ground.data }, { on := 9, ground := Ground.data }, { on := 0, ground := Ground.phase }, { on := 1, ground := Ground.phase }, { on := 2, ground := Ground.phase }, { on := 3, ground := Ground.phase }, { on := 4, ground := Ground.phase }, { on := 5, ground := Ground.phase }, { on := 6, ground := Ground.phase }, { on := 7, ground := Ground.phase }, { on := 8, ground := Ground.phase }, { on := 9, ground := Ground.phase }, { on := 10, ground := Ground.phase }, { on := 11, ground := Ground.phase }, { on := 12, ground := Ground.phase }, { on := 13, ground := Ground.phase }, { on := 14, ground := Ground.phase }, { on := 15, ground := Ground.phase }, { on := 16, ground := Ground.phase }, { on := 17, ground := Ground.phase }, { on := 18, ground := Ground.phase }, { on := 19, ground := Ground.phase }, { on := 20, ground := Ground.phase }, { on := 21, ground := Ground.phase }, { on := 22, ground := Ground.phase }, { on := 23, ground := Ground.phase }, { on := 24, ground := Ground.phase }, { on := 25, ground := Ground.phase }], guard := none }
abbrev o349ad_5 : Oper := { dst := none, op := Op.store 77 (Operand.tmp 31) (Operand.tmp 29), type := 0, pos := "l06_rib.go:66", after := #[{ on := 26, ground := Ground.data }, { on := 23, ground := Ground.data }, { on := 25, ground := Ground.chain }, { on := 0, ground := Ground.phase }, { on := 1, ground := Ground.phase }, { on := 2, ground := Ground.phase }, { on := 3, ground := Ground.phase }, { on := 4, ground := Ground.phase }, { on := 5, ground := Ground.phase }, { on := 6, ground := Ground.phase }, { on := 7, ground := Ground.phase }, { on := 8, ground := Ground.phase }, { on := 9, ground := Ground.phase }, { on := 10, ground := Ground.phase }, { on := 11, ground := Ground.phase }, { on := 12, ground := Ground.phase }, { on := 13, ground := Ground.phase }, { on := 14, ground := Ground.phase }, { on := 15, ground := Ground.phase }, { on := 16, ground := Ground.phase }, { on := 17, ground := Ground.phase }, { on := 18, ground := Ground.phase }, { on := 19, ground := Ground.phase }, { on := 20, ground := Ground.phase }, { on := 21, ground := Ground.phase }, { on := 22, ground := Ground.phase }, { on := 23, ground := Ground.phase }, { on := 24, ground := Ground.phase }, { on := 25, ground := Ground.phase }], guard := none }

def ordHd : Hord Hd := ⟨hd0, LtH, lt_irrefl, fun h h' => lt_trans h h', fun h h' => lt_neg h h'⟩
theorem lessHd_iff (a b : Hd) : lessH a b = true ↔ ordHd.lt a b := less_iff a b
theorem lessHd_no (a b : Hd) : lessH a b = false ↔ ¬ ordHd.lt a b := less_no a b
theorem less_decH (a b : Hd) : decide (cmpH a b < 0) = lessH a b := by
  have := cmpH_neg a b
  cases h : lessH a b
  · rw [h] at this; simpa using this
  · rw [h] at this; simpa using this
set_option maxHeartbeats 2000000 in
theorem precH_any (x y : Hd) (w : World) : Calls Try.prog 116 #[x.val, y.val] w fun e w' => e = .returned (.bool (lessH x y)) ∧ Below w.heap.size w w' := by
  have HC := Lib.hid (compareHeld_any x y)
  have HD := Lib.hid (less_decH x y)
  have A0 := ((MemAt.start w).new 77 x.ar).new 77 y.ar
  rw [World.size_alloc] at A0
  generalize cmpH x y = r at *
  generalize lessH x y = R at *
  unfold Hd.ar at A0
  unfold Hd.val at HC ⊢
  go_enter Try.func116, Try.ntmps116
  go_upto_region 1 with fail
  generalize (w.alloc (.cells #[.int .i64 x.p, .bool x.s, .int .i64 x.r.kind, .int .i64 x.r.vni, .int .i64 x.r.mac, .int .i64 x.r.ip, .int .i64 x.r.org, .int .i64 x.r.seq, .bool x.r.st] 77)).alloc (.cells #[.int .i64 y.p, .bool y.s, .int .i64 y.r.kind, .int .i64 y.r.vni, .int .i64 y.r.mac, .int .i64 y.r.ip, .int .i64 y.r.org, .int .i64 y.r.seq, .bool y.r.st] 77) = W1 at *
  have c0 := A0.b0.cell
  have c1 := A0.b1.cell
  go_wp2_with (go_at_call 68; refine (HC.out _).mono ?_; rintro e w1 ⟨rfl, hb1⟩; have HB := Lib.hid (A0.kept hb1).bel; clear hb1)
  go_ret
  exact ⟨bool_ret (by rw [← HD.out]), HB.out⟩
def fvVH : Value := .func (.func 116) #[] #[]
structure FhH (W : World) (B hb : Nat) (es : List Hd) (a : Option Addr) (c : Nat) : Prop where
  box : Blk W hb 120 #[.slice a es.length c, .func (.func 116) #[] #[]]
  row : W.ownsRow B 77 9 (.slice a es.length c) es.length (rcells Hd.cl es)
theorem FhH.sl {W : World} {B hb c : Nat} {es : List Hd} {a : Option Addr} (h : FhH W B hb es a c) : SlAt W 9 (.slice a es.length c) (es.map Hd.cl) := rows_of_own Hd.cl_len h.row
theorem FhH.kept {W W' : World} {B hb c : Nat} {es : List Hd} {a : Option Addr} (h : FhH W B hb es a c) (hb1 : Below W.heap.size W W') : FhH W' B hb es a c := ⟨h.box.kept hb1, rown_below h.row hb1⟩
theorem fhLenH_any (hb n c : Nat) (a : Option Addr) (f : Value) (w : World) (h : Blk w hb 120 #[.slice a n c, f]) : Calls Try.prog 118 #[.pointer (some ⟨hb, 0, none⟩)] w fun e w' => e = .returned (.int .i64 (n : Int)) ∧ w = w' := by
  have hc := h.cell
  go_enter Try.func118, Try.ntmps118
  go_wp2
  go_ret
  exact ⟨rfl, rfl⟩
set_option maxRecDepth 100000 in
set_option maxHeartbeats 4000000 in
theorem fhLessH_any (B hb : Nat) (es : List Hd) (c : Nat) (a : Option Addr) (i j : Nat) (w : World) (H : FhH w B hb es a c) (hi : i < es.length) (hj : j < es.length) :
    Calls Try.prog 191 #[.pointer (some ⟨hb, 0, none⟩), .int .i64 (i : Int), .int .i64 (j : Int)] w fun e w' => e = .returned (.bool (lessH (hG ordHd es i) (hG ordHd es j))) ∧ Below w.heap.size w w' := by
  rw [hG_eq hi, hG_eq hj]
  obtain ⟨a', c', e, h⟩ := H.sl
  injection e with e1 e2 e3
  subst e1 e3
  obtain ⟨b, off, rfl, hbl, hE⟩ := h (fun e => by have := congrArg List.length e; simp at this; rw [this] at hi; simp at hi)
  have HI := Lib.hid (fun (W' : World) (hS : Below w.heap.size w W') => (Elems.below hE hS hbl).hd i hi)
  have HJ := Lib.hid (fun (W' : World) (hS : Below w.heap.size w W') => (Elems.below hE hS hbl).hd j hj)
  have HX := Lib.hid (fun (W' : World) (hS : Below w.heap.size w W') => H.box.kept hS)
  have HC := Lib.hid (precH_any es[i] es[j])
  unfold Hd.val at HC
  clear hE h e2 H
  generalize es[i] = x at *
  generalize es[j] = y at *
  generalize lessH x y = R at *
  obtain ⟨n, hnn⟩ : ∃ n, n = es.length := ⟨_, rfl⟩
  rw [← hnn] at hi hj HX
  clear hnn
  have S0 : Below w.heap.size w w.drew := (Below.refl _ _).drew
  go_enter Try.func191, Try.ntmps191
  go_wp2_with fail
  refine wp_region_held_drew (S := fun W' => Below w.heap.size w W') (by kernel_rfl) S0 (fun hHeld => ?_)
  clear hHeld
  refine wpAnyH_take (i := 0) (oi := { dst := some 7, op := Op.move (Operand.tmp 0), type := 122, pos := "l06_rib.go:62", after := #[], guard := none }) (v := ?vva1) rfl (by kernel_rfl) (by kernel_rfl) (by kernel_rfl) (fun _ _ _ h => h) (Or.inl ⟨by rfl, ?hya1⟩) S0 ?resta1
  case hya1 => (intro w hSw; go_simp <;> with_reducible rfl)
  try simp only [Act.put, List.setIfInBounds_toArray, List.set_cons_zero, List.set_cons_succ]
  refine wpAnyH_take (i := 1) (oi := { dst := some 8, op := Op.nilCheck (Operand.tmp 7), type := 0, pos := "l06_rib.go:62", after := #[{ on := 0, ground := Ground.data }], guard := none }) (v := ?vva2) rfl (by kernel_rfl) (by kernel_rfl) (by kernel_rfl) (fun _ _ _ h => h) (Or.inl ⟨by rfl, ?hya2⟩) S0 ?resta2
  case hya2 => (intro w hSw; go_simp <;> with_reducible rfl)
  try simp only [Act.put, List.setIfInBounds_toArray, List.set_cons_zero, List.set_cons_succ]
  refine wpAnyH_take (i := 2) (oi := { dst := some 9, op := Op.fieldAddr 120 (Operand.tmp 8) 1, type := 0, pos := "l06_rib.go:62", after := #[{ on := 1, ground := Ground.data }], guard := none }) (v := ?vva3) rfl (by kernel_rfl) (by kernel_rfl) (by kernel_rfl) (fun _ _ _ h => h) (Or.inl ⟨by rfl, ?hya3⟩) S0 ?resta3
  case hya3 => (intro w hSw; go_simp <;> with_reducible rfl)
  try simp only [Act.put, List.setIfInBounds_toArray, List.set_cons_zero, List.set_cons_succ]
  refine wpAnyH_take (i := 3) (oi := { dst := some 10, op := Op.load 79 (Operand.tmp 9), type := 79, pos := "l06_rib.go:62", after := #[{ on := 2, ground := Ground.data }], guard := none }) (v := ?vva4) rfl (by kernel_rfl) (by kernel_rfl) (by kernel_rfl) (fun _ _ _ h => h) (Or.inl ⟨by rfl, ?hya4⟩) S0 ?resta4
  case hya4 => (intro w hSw; have hx := (HX.out _ hSw).cell; obtain ⟨p0, p1, p2, p3, p4, p5, p6, p7, p8⟩ := HI.out _ hSw; obtain ⟨q0, q1, q2, q3, q4, q5, q6, q7, q8⟩ := HJ.out _ hSw;go_simp <;> with_reducible rfl)
  try simp only [Act.put, List.setIfInBounds_toArray, List.set_cons_zero, List.set_cons_succ]
  refine wpAnyH_take (i := 4) (oi := { dst := some 11, op := Op.move (Operand.tmp 0), type := 122, pos := "l06_rib.go:62", after := #[], guard := none }) (v := ?vva5) rfl (by kernel_rfl) (by kernel_rfl) (by kernel_rfl) (fun _ _ _ h => h) (Or.inl ⟨by rfl, ?hya5⟩) S0 ?resta5
  case hya5 => (intro w hSw; go_simp <;> with_reducible rfl)
  try simp only [Act.put, List.setIfInBounds_toArray, List.set_cons_zero, List.set_cons_succ]
  refine wpAnyH_take (i := 5) (oi := { dst := some 12, op := Op.nilCheck (Operand.tmp 11), type := 0, pos := "l06_rib.go:62", after := #[{ on := 4, ground := Ground.data }], guard := none }) (v := ?vva6) rfl (by kernel_rfl) (by kernel_rfl) (by kernel_rfl) (fun _ _ _ h => h) (Or.inl ⟨by rfl, ?hya6⟩) S0 ?resta6
  case hya6 => (intro w hSw; go_simp <;> with_reducible rfl)
  try simp only [Act.put, List.setIfInBounds_toArray, List.set_cons_zero, List.set_cons_succ]
  refine wpAnyH_take (i := 6) (oi := { dst := some 13, op := Op.fieldAddr 120 (Operand.tmp 12) 0, type := 0, pos := "l06_rib.go:62", after := #[{ on := 5, ground := Ground.data }], guard := none }) (v := ?vva7) rfl (by kernel_rfl) (by kernel_rfl) (by kernel_rfl) (fun _ _ _ h => h) (Or.inl ⟨by rfl, ?hya7⟩) S0 ?resta7
  case hya7 => (intro w hSw; go_simp <;> with_reducible rfl)
  try simp only [Act.put, List.setIfInBounds_toArray, List.set_cons_zero, List.set_cons_succ]
  refine wpAnyH_take (i := 7) (oi := { dst := some 14, op := Op.load 25 (Operand.tmp 13), type := 25, pos := "l06_rib.go:62", after := #[{ on := 6, ground := Ground.data }], guard := none }) (v := ?vva8) rfl (by kernel_rfl) (by kernel_rfl) (by kernel_rfl) (fun _ _ _ h => h) (Or.inl ⟨by rfl, ?hya8⟩) S0 ?resta8
  case hya8 => (intro w hSw; have hx := (HX.out _ hSw).cell; obtain ⟨p0, p1, p2, p3, p4, p5, p6, p7, p8⟩ := HI.out _ hSw; obtain ⟨q0, q1, q2, q3, q4, q5, q6, q7, q8⟩ := HJ.out _ hSw;go_simp <;> with_reducible rfl)
  try simp only [Act.put, List.setIfInBounds_toArray, List.set_cons_zero, List.set_cons_succ]
  refine wpAnyH_take (i := 8) (oi := { dst := some 15, op := Op.move (Operand.tmp 1), type := 3, pos := "l06_rib.go:62", after := #[], guard := none }) (v := ?vva9) rfl (by kernel_rfl) (by kernel_rfl) (by kernel_rfl) (fun _ _ _ h => h) (Or.inl ⟨by rfl, ?hya9⟩) S0 ?resta9
  case hya9 => (intro w hSw; go_simp <;> with_reducible rfl)
  try simp only [Act.put, List.setIfInBounds_toArray, List.set_cons_zero, List.set_cons_succ]
  refine wpAnyH_take (i := 9) (oi := { dst := some 16, op := Op.indexAddr 25 (Operand.tmp 14) (Operand.tmp 15), type := 0, pos := "l06_rib.go:62", after := #[{ on := 7, ground := Ground.data }, { on := 8, ground := Ground.data }], guard := none }) (v := ?vva10) rfl (by kernel_rfl) (by kernel_rfl) (by kernel_rfl) (fun _ _ _ h => h) (Or.inl ⟨by rfl, ?hya10⟩) S0 ?resta10
  case hya10 => (intro w hSw; go_simp <;> with_reducible rfl)
  try simp only [Act.put, List.setIfInBounds_toArray, List.set_cons_zero, List.set_cons_succ]
  refine wpAnyH_take (i := 10) (oi := { dst := some 17, op := Op.load 77 (Operand.tmp 16), type := 77, pos := "l06_rib.go:62", after := #[{ on := 9, ground := Ground.data }], guard := none }) (v := ?vva11) rfl (by kernel_rfl) (by kernel_rfl) (by kernel_rfl) (fun _ _ _ h => h) (Or.inl ⟨by rfl, ?hya11⟩) S0 ?resta11
  case hya11 => (intro w hSw; have hx := (HX.out _ hSw).cell; obtain ⟨p0, p1, p2, p3, p4, p5, p6, p7, p8⟩ := HI.out _ hSw; obtain ⟨q0, q1, q2, q3, q4, q5, q6, q7, q8⟩ := HJ.out _ hSw;go_simp <;> with_reducible rfl)
  try simp only [Act.put, List.setIfInBounds_toArray, List.set_cons_zero, List.set_cons_succ]
  refine wpAnyH_take (i := 11) (oi := { dst := some 18, op := Op.move (Operand.tmp 0), type := 122, pos := "l06_rib.go:62", after := #[], guard := none }) (v := ?vva12) rfl (by kernel_rfl) (by kernel_rfl) (by kernel_rfl) (fun _ _ _ h => h) (Or.inl ⟨by rfl, ?hya12⟩) S0 ?resta12
  case hya12 => (intro w hSw; go_simp <;> with_reducible rfl)
  try simp only [Act.put, List.setIfInBounds_toArray, List.set_cons_zero, List.set_cons_succ]
  refine wpAnyH_take (i := 12) (oi := { dst := some 19, op := Op.nilCheck (Operand.tmp 18), type := 0, pos := "l06_rib.go:62", after := #[{ on := 11, ground := Ground.data }], guard := none }) (v := ?vva13) rfl (by kernel_rfl) (by kernel_rfl) (by kernel_rfl) (fun _ _ _ h => h) (Or.inl ⟨by rfl, ?hya13⟩) S0 ?resta13
  case hya13 => (intro w hSw; go_simp <;> with_reducible rfl)
  try simp only [Act.put, List.setIfInBounds_toArray, List.set_cons_zero, List.set_cons_succ]
  refine wpAnyH_take (i := 13) (oi := { dst := some 20, op := Op.fieldAddr 120 (Operand.tmp 19) 0, type := 0, pos := "l06_rib.go:62", after := #[{ on := 12, ground := Ground.data }], guard := none }) (v := ?vva14) rfl (by kernel_rfl) (by kernel_rfl) (by kernel_rfl) (fun _ _ _ h => h) (Or.inl ⟨by rfl, ?hya14⟩) S0 ?resta14
  case hya14 => (intro w hSw; go_simp <;> with_reducible rfl)
  try simp only [Act.put, List.setIfInBounds_toArray, List.set_cons_zero, List.set_cons_succ]
  refine wpAnyH_take (i := 14) (oi := { dst := some 21, op := Op.load 25 (Operand.tmp 20), type := 25, pos := "l06_rib.go:62", after := #[{ on := 13, ground := Ground.data }], guard := none }) (v := ?vva15) rfl (by kernel_rfl) (by kernel_rfl) (by kernel_rfl) (fun _ _ _ h => h) (Or.inl ⟨by rfl, ?hya15⟩) S0 ?resta15
  case hya15 => (intro w hSw; have hx := (HX.out _ hSw).cell; obtain ⟨p0, p1, p2, p3, p4, p5, p6, p7, p8⟩ := HI.out _ hSw; obtain ⟨q0, q1, q2, q3, q4, q5, q6, q7, q8⟩ := HJ.out _ hSw;go_simp <;> with_reducible rfl)
  try simp only [Act.put, List.setIfInBounds_toArray, List.set_cons_zero, List.set_cons_succ]
  refine wpAnyH_take (i := 15) (oi := { dst := some 22, op := Op.move (Operand.tmp 2), type := 3, pos := "l06_rib.go:62", after := #[], guard := none }) (v := ?vva16) rfl (by kernel_rfl) (by kernel_rfl) (by kernel_rfl) (fun _ _ _ h => h) (Or.inl ⟨by rfl, ?hya16⟩) S0 ?resta16
  case hya16 => (intro w hSw; go_simp <;> with_reducible rfl)
  try simp only [Act.put, List.setIfInBounds_toArray, List.set_cons_zero, List.set_cons_succ]
  refine wpAnyH_take (i := 16) (oi := { dst := some 23, op := Op.indexAddr 25 (Operand.tmp 21) (Operand.tmp 22), type := 0, pos := "l06_rib.go:62", after := #[{ on := 14, ground := Ground.data }, { on := 15, ground := Ground.data }], guard := none }) (v := ?vva17) rfl (by kernel_rfl) (by kernel_rfl) (by kernel_rfl) (fun _ _ _ h => h) (Or.inl ⟨by rfl, ?hya17⟩) S0 ?resta17
  case hya17 => (intro w hSw; go_simp <;> with_reducible rfl)
  try simp only [Act.put, List.setIfInBounds_toArray, List.set_cons_zero, List.set_cons_succ]
  refine wpAnyH_take (i := 17) (oi := { dst := some 24, op := Op.load 77 (Operand.tmp 23), type := 77, pos := "l06_rib.go:62", after := #[{ on := 16, ground := Ground.data }], guard := none }) (v := ?vva18) rfl (by kernel_rfl) (by kernel_rfl) (by kernel_rfl) (fun _ _ _ h => h) (Or.inl ⟨by rfl, ?hya18⟩) S0 ?resta18
  case hya18 => (intro w hSw; have hx := (HX.out _ hSw).cell; obtain ⟨p0, p1, p2, p3, p4, p5, p6, p7, p8⟩ := HI.out _ hSw; obtain ⟨q0, q1, q2, q3, q4, q5, q6, q7, q8⟩ := HJ.out _ hSw;go_simp <;> with_reducible rfl)
  try simp only [Act.put, List.setIfInBounds_toArray, List.set_cons_zero, List.set_cons_succ]
  refine wpAnyH_ready (rs := [18]) (by kernel_rfl) (by simp) ?_
  refine AllReadyH.cons (o := { dst := some 25, op := Op.call { callee := Callee.value (Operand.tmp 10), args := #[Operand.tmp 17, Operand.tmp 24], argTypes := #[77, 77] }, type := 4, pos := "l06_rib.go:62", after := #[{ on := 3, ground := Ground.data }, { on := 10, ground := Ground.data }, { on := 17, ground := Ground.data }], guard := none }) rfl (fun K hK => ?_) AllReadyH.nil
  go_simp
  refine (HC.out _).mono ?_
  rintro e w1 ⟨rfl, hb1⟩
  replace S0 := S0.trans (hb1.mono S0.size)
  clear hb1
  refine hK.out _ _ S0 (fun hHeld => ?_)
  clear hK K hHeld
  try simp only [Act.put, List.setIfInBounds_toArray, List.set_cons_zero, List.set_cons_succ]
  refine wpAnyH_take (i := 19) (oi := { dst := some 6, op := Op.assign (Operand.tmp 25), type := 4, pos := "l06_rib.go:62", after := #[{ on := 18, ground := Ground.data }, { on := 18, ground := Ground.chain }, { on := 0, ground := Ground.phase }, { on := 1, ground := Ground.phase }, { on := 2, ground := Ground.phase }, { on := 3, ground := Ground.phase }, { on := 4, ground := Ground.phase }, { on := 5, ground := Ground.phase }, { on := 6, ground := Ground.phase }, { on := 7, ground := Ground.phase }, { on := 8, ground := Ground.phase }, { on := 9, ground := Ground.phase }, { on := 10, ground := Ground.phase }, { on := 11, ground := Ground.phase }, { on := 12, ground := Ground.phase }, { on := 13, ground := Ground.phase }, { on := 14, ground := Ground.phase }, { on := 15, ground := Ground.phase }, { on := 16, ground := Ground.phase }, { on := 17, ground := Ground.phase }, { on := 18, ground := Ground.phase }], guard := none }) (v := ?vva19) rfl (by kernel_rfl) (by kernel_rfl) (by kernel_rfl) (fun _ _ _ h => h) (Or.inl ⟨by rfl, ?hya19⟩) S0 ?resta19
  case hya19 => (intro w hSw; go_simp <;> with_reducible rfl)
  try simp only [Act.put, List.setIfInBounds_toArray, List.set_cons_zero, List.set_cons_succ]
  refine wpAnyH_done (by kernel_rfl) ?_ _
  go_wp2_with fail
  go_ret
  exact ⟨rfl, S0⟩
/- two elements exchanged in the row -/
theorem rcellsGH_swap {es : List Hd} {i j : Nat} {zs : List Value} (hi : i < es.length) (hj : j < es.length) (hl : zs.length = es.length * 9) (h : ∀ k, k < es.length → ∀ o, o < 9 → zs[k * 9 + o]? = (Hd.cl (if k = j then hG ordHd es i else if k = i then hG ordHd es j else hG ordHd es k))[o]?) : zs = rcells Hd.cl (swapG ordHd es i j) := by
  apply List.ext_getElem?
  intro o
  by_cases ho : o < es.length * 9
  · have e : o = o / 9 * 9 + o % 9 := by omega
    have hs : o / 9 < (swapG ordHd es i j).length := by rw [swapG_len]; omega
    have hr := rcells_at Hd.cl_len (swapG ordHd es i j) (o / 9) hs (o % 9) (by omega)
    rw [← hG_eq (O := ordHd) hs, hG_swap hi hj] at hr
    rw [← e] at hr
    have hz := h (o / 9) (by omega) (o % 9) (by omega)
    rw [← e] at hz
    rw [hz, hr]
  · rw [List.getElem?_eq_none (by omega), List.getElem?_eq_none (by rw [rcells_len Hd.cl_len, swapG_len]; omega)]
/- a row's cells, told by element and place -/
def RowFH (W : World) (B g cap n : Nat) (F : Nat → Nat → Option Value) : Prop := ∃ zs, W.ownsRow B 77 9 (.slice (some ⟨g, 0, none⟩) n cap) n zs ∧ ∀ k, k < n → ∀ o, o < 9 → zs[k * 9 + o]? = F k o
section
variable {W : World} {B g cap n : Nat} {F : Nat → Nat → Option Value}
theorem RowFH.set (h : RowFH W B g cap n F) {i o0 : Nat} (hi : i < n) (ho : o0 < 9) (u : Value) : RowFH (W.setCell ⟨g, i * 9 + o0, none⟩ u) B g cap n (fun k o => if k = i ∧ o = o0 then some u else F k o) := by
  obtain ⟨zs, h1, h2⟩ := h
  refine ⟨_, (h1.stored _ u).1, fun k hk o ho' => ?_⟩
  dsimp only
  by_cases e : k = i ∧ o = o0
  · obtain ⟨rfl, rfl⟩ := e
    rw [List.getElem?_set_self (by rw [h1.1]; omega), if_pos ⟨rfl, rfl⟩]
  · rw [if_neg e, List.getElem?_set_ne (by omega)]
    exact h2 k hk o ho'
theorem RowFH.as {F' : Nat → Nat → Option Value} (h : RowFH W B g cap n F) (he : ∀ k, k < n → ∀ o, o < 9 → F k o = F' k o) : RowFH W B g cap n F' := by
  obtain ⟨zs, h1, h2⟩ := h
  exact ⟨zs, h1, fun k hk o ho => (h2 k hk o ho).trans (he k hk o ho)⟩
theorem RowFH.cell (h : RowFH W B g cap n F) {i : Nat} (hi : i < n) (o : Nat) (ho : o < 9) : ∃ z, W.cell? ⟨g, i * 9 + o, none⟩ = some z := by
  obtain ⟨zs, h1, _⟩ := h
  exact ⟨zs[i * 9 + o]'(by rw [h1.1]; omega), by rw [h1.cellAt _ (by omega), List.getElem?_eq_getElem (by rw [h1.1]; omega)]⟩
theorem RowFH.frozen (h : RowFH W B g cap n F) (o : Nat) : W.frozen? ⟨g, o, none⟩ = false := by
  obtain ⟨zs, h1, _⟩ := h
  exact h1.frozenAt o
theorem RowFH.put (h : RowFH W B g cap n F) {i : Nat} (hi : i < n) (x : Hd) :
    RowFH (((((((((W.setCell ⟨g, i * 9, none⟩ (.int .i64 x.p)).setCell ⟨g, i * 9 + 1, none⟩ (.bool x.s)).setCell ⟨g, i * 9 + 2, none⟩ (.int .i64 x.r.kind)).setCell ⟨g, i * 9 + 3, none⟩ (.int .i64 x.r.vni)).setCell ⟨g, i * 9 + 4, none⟩ (.int .i64 x.r.mac)).setCell ⟨g, i * 9 + 5, none⟩ (.int .i64 x.r.ip)).setCell ⟨g, i * 9 + 6, none⟩ (.int .i64 x.r.org)).setCell ⟨g, i * 9 + 7, none⟩ (.int .i64 x.r.seq)).setCell ⟨g, i * 9 + 8, none⟩ (.bool x.r.st)) B g cap n (fun k o => if k = i then (Hd.cl x)[o]? else F k o) := by
  refine RowFH.as (((((((((h.set (o0 := 0) hi (by omega) (.int .i64 x.p)).set (o0 := 1) hi (by omega) (.bool x.s)).set (o0 := 2) hi (by omega) (.int .i64 x.r.kind)).set (o0 := 3) hi (by omega) (.int .i64 x.r.vni)).set (o0 := 4) hi (by omega) (.int .i64 x.r.mac)).set (o0 := 5) hi (by omega) (.int .i64 x.r.ip)).set (o0 := 6) hi (by omega) (.int .i64 x.r.org)).set (o0 := 7) hi (by omega) (.int .i64 x.r.seq)).set (o0 := 8) hi (by omega) (.bool x.r.st)) (fun k hk o ho => ?_)
  by_cases e : k = i
  · subst e
    have hc : o = 0 ∨ o = 1 ∨ o = 2 ∨ o = 3 ∨ o = 4 ∨ o = 5 ∨ o = 6 ∨ o = 7 ∨ o = 8 := by omega
    rcases hc with rfl | rfl | rfl | rfl | rfl | rfl | rfl | rfl | rfl <;> simp [Hd.cl]
  · simp [e]
end
theorem fhGrownH {W : World} {g : Nat} (i : Nat) (x : Hd) : W.grownBy (((((((((W.setCell ⟨g, i * 9, none⟩ (.int .i64 x.p)).setCell ⟨g, i * 9 + 1, none⟩ (.bool x.s)).setCell ⟨g, i * 9 + 2, none⟩ (.int .i64 x.r.kind)).setCell ⟨g, i * 9 + 3, none⟩ (.int .i64 x.r.vni)).setCell ⟨g, i * 9 + 4, none⟩ (.int .i64 x.r.mac)).setCell ⟨g, i * 9 + 5, none⟩ (.int .i64 x.r.ip)).setCell ⟨g, i * 9 + 6, none⟩ (.int .i64 x.r.org)).setCell ⟨g, i * 9 + 7, none⟩ (.int .i64 x.r.seq)).setCell ⟨g, i * 9 + 8, none⟩ (.bool x.r.st)) (some g) := (grownSet (grownSet (grownSet (grownSet (grownSet (grownSet (grownSet (grownSet (grownSet (World.grownBy.refl _ _))))))))))
theorem fhFarH {W : World} {g hb : Nat} {t : TypeId} {cs : Array Value} (hne : hb ≠ g) (h : Blk W hb t cs) (i : Nat) (x : Hd) : Blk (((((((((W.setCell ⟨g, i * 9, none⟩ (.int .i64 x.p)).setCell ⟨g, i * 9 + 1, none⟩ (.bool x.s)).setCell ⟨g, i * 9 + 2, none⟩ (.int .i64 x.r.kind)).setCell ⟨g, i * 9 + 3, none⟩ (.int .i64 x.r.vni)).setCell ⟨g, i * 9 + 4, none⟩ (.int .i64 x.r.mac)).setCell ⟨g, i * 9 + 5, none⟩ (.int .i64 x.r.ip)).setCell ⟨g, i * 9 + 6, none⟩ (.int .i64 x.r.org)).setCell ⟨g, i * 9 + 7, none⟩ (.int .i64 x.r.seq)).setCell ⟨g, i * 9 + 8, none⟩ (.bool x.r.st)) hb t cs := (((((((((h.far hne).far hne).far hne).far hne).far hne).far hne).far hne).far hne).far hne)
def SwapPH (B hb : Nat) (es : List Hd) (i j c : Nat) (a : Option Addr) (w : World) (e : Ending) (w' : World) : Prop :=
  (∃ v, e = .returned v) ∧ FhH w' B hb (swapG ordHd es i j) a c ∧ w.grownBy w' (Value.slice a es.length c).ownBlock
set_option maxRecDepth 100000 in
set_option maxHeartbeats 4000000 in
theorem fhSwapH_any (B hb : Nat) (es : List Hd) (c : Nat) (a : Option Addr) (i j : Nat) (w : World) (H : FhH w B hb es a c) (hi : i < es.length) (hj : j < es.length) :
    Calls Try.prog 194 #[.pointer (some ⟨hb, 0, none⟩), .int .i64 (i : Int), .int .i64 (j : Int)] w (SwapPH B hb es i j c a w) := by
  obtain ⟨g, rfl⟩ : ∃ g, a = some ⟨g, 0, none⟩ := by
    rcases H.row.2 with ⟨e, _⟩ | ⟨g, cp, cu, e, _⟩
    · injection e with _ e2 _; omega
    · injection e with e1 _ _; exact ⟨g, e1⟩
  have HBX0 := H.box.drew
  have hne : hb ≠ g := fun e => fh_ne H.box H.row (by decide) (by rw [e]; rfl)
  have h' : w.drew.ownsRow B 77 9 (.slice (some ⟨g, 0, none⟩) es.length c) es.length (rcells Hd.cl es) := H.row
  have HS := rows_of_own Hd.cl_len h'
  obtain ⟨a', c', e, hE⟩ := HS
  injection e with e1 e2 e3
  obtain ⟨b, off, e4, hbl, hE⟩ := hE (fun e => by have := congrArg List.length e; simp at this; rw [this] at hi; simp at hi)
  rw [← e1] at e4
  injection e4 with e4
  injection e4 with e4 e5
  subst e4 e5
  have hI := hE.hd i hi
  have hJ := hE.hd j hj
  simp only [Nat.zero_add] at hI hJ
  have F0 : RowFH w.drew B g c es.length (fun k o => (Hd.cl (hG ordHd es k))[o]?) := ⟨_, h', fun k hk o ho => by dsimp only; rw [hG_eq hk]; exact rcells_at Hd.cl_len es k hk o ho⟩
  have HFIN := Lib.hid (fun (zs : List Value) hl hz => rcellsGH_swap (es := es) (i := i) (j := j) (zs := zs) hi hj hl hz)
  have HSL : Hid ((swapG ordHd es i j).length = es.length) := Lib.hid (swapG_len es i j)
  unfold SwapPH
  generalize hC : swapG ordHd es i j = C at *
  clear h' hE e1 e2 e3 hC hbl H
  rw [hG_eq hi, hG_eq hj] at HFIN
  generalize hx : es[i] = x at *
  generalize hy : es[j] = y at *
  clear hx hy
  obtain ⟨Fn, hFn⟩ : ∃ Fn : Nat → Nat → Option Value, Fn = fun k o => (Hd.cl (hG ordHd es k))[o]? := ⟨_, rfl⟩
  have HFn : Hid (∀ k o, (Hd.cl (hG ordHd es k))[o]? = Fn k o) := Lib.hid (fun k o => by rw [hFn])
  rw [← hFn] at F0
  clear hFn
  obtain ⟨n, hnn⟩ : ∃ n, n = es.length := ⟨_, rfl⟩
  rw [← hnn] at hi hj F0 HFIN HBX0 HSL ⊢
  clear hnn
  have G0 : w.grownBy w.drew (some g) := ⟨rfl, rfl, rfl, Nat.le_refl _, fun _ _ _ => rfl⟩
  obtain ⟨p0, p1, p2, p3, p4, p5, p6, p7, p8⟩ := hI
  obtain ⟨q0, q1, q2, q3, q4, q5, q6, q7, q8⟩ := hJ
  go_enter Try.func194, Try.ntmps194
  go_wp2_with fail
  refine wp_region_held_drew (S := fun W' => Blk W' hb 120 #[.slice (some ⟨g, 0, none⟩) n c, .func (.func 116) #[] #[]]) (by kernel_rfl) HBX0 (fun hHeld => ?_)
  clear hHeld
  generalize w.drew = Wd at *
  refine wpAnyH_take (i := 0) (oi := { dst := some 6, op := Op.move (Operand.tmp 0), type := 122, pos := "l06_rib.go:66", after := #[], guard := none }) (v := ?vva1) rfl (by kernel_rfl) (by kernel_rfl) (by kernel_rfl) (fun _ _ _ h => h) (Or.inl ⟨by rfl, ?hya1⟩) HBX0 ?resta1
  case hya1 => (intro w hSw; go_simp <;> with_reducible rfl)
  try simp only [Act.put, List.setIfInBounds_toArray, List.set_cons_zero, List.set_cons_succ]
  refine wpAnyH_take (i := 1) (oi := { dst := some 7, op := Op.nilCheck (Operand.tmp 6), type := 0, pos := "l06_rib.go:66", after := #[{ on := 0, ground := Ground.data }], guard := none }) (v := ?vva2) rfl (by kernel_rfl) (by kernel_rfl) (by kernel_rfl) (fun _ _ _ h => h) (Or.inl ⟨by rfl, ?hya2⟩) HBX0 ?resta2
  case hya2 => (intro w hSw; go_simp <;> with_reducible rfl)
  try simp only [Act.put, List.setIfInBounds_toArray, List.set_cons_zero, List.set_cons_succ]
  refine wpAnyH_take (i := 2) (oi := { dst := some 8, op := Op.fieldAddr 120 (Operand.tmp 7) 0, type := 0, pos := "l06_rib.go:66", after := #[{ on := 1, ground := Ground.data }], guard := none }) (v := ?vva3) rfl (by kernel_rfl) (by kernel_rfl) (by kernel_rfl) (fun _ _ _ h => h) (Or.inl ⟨by rfl, ?hya3⟩) HBX0 ?resta3
  case hya3 => (intro w hSw; go_simp <;> with_reducible rfl)
  try simp only [Act.put, List.setIfInBounds_toArray, List.set_cons_zero, List.set_cons_succ]
  refine wpAnyH_take (i := 3) (oi := { dst := some 9, op := Op.load 25 (Operand.tmp 8), type := 25, pos := "l06_rib.go:66", after := #[{ on := 2, ground := Ground.data }], guard := none }) (v := ?vva4) rfl (by kernel_rfl) (by kernel_rfl) (by kernel_rfl) (fun _ _ _ h => h) (Or.inl ⟨by rfl, ?hya4⟩) HBX0 ?resta4
  case hya4 => (intro w hSw; have hx := hSw.cell;go_simp <;> with_reducible rfl)
  try simp only [Act.put, List.setIfInBounds_toArray, List.set_cons_zero, List.set_cons_succ]
  refine wpAnyH_take (i := 4) (oi := { dst := some 10, op := Op.move (Operand.tmp 1), type := 3, pos := "l06_rib.go:66", after := #[], guard := none }) (v := ?vva5) rfl (by kernel_rfl) (by kernel_rfl) (by kernel_rfl) (fun _ _ _ h => h) (Or.inl ⟨by rfl, ?hya5⟩) HBX0 ?resta5
  case hya5 => (intro w hSw; go_simp <;> with_reducible rfl)
  try simp only [Act.put, List.setIfInBounds_toArray, List.set_cons_zero, List.set_cons_succ]
  refine wpAnyH_take (i := 5) (oi := { dst := some 11, op := Op.move (Operand.tmp 0), type := 122, pos := "l06_rib.go:66", after := #[], guard := none }) (v := ?vva6) rfl (by kernel_rfl) (by kernel_rfl) (by kernel_rfl) (fun _ _ _ h => h) (Or.inl ⟨by rfl, ?hya6⟩) HBX0 ?resta6
  case hya6 => (intro w hSw; go_simp <;> with_reducible rfl)
  try simp only [Act.put, List.setIfInBounds_toArray, List.set_cons_zero, List.set_cons_succ]
  refine wpAnyH_take (i := 6) (oi := { dst := some 12, op := Op.nilCheck (Operand.tmp 11), type := 0, pos := "l06_rib.go:66", after := #[{ on := 5, ground := Ground.data }], guard := none }) (v := ?vva7) rfl (by kernel_rfl) (by kernel_rfl) (by kernel_rfl) (fun _ _ _ h => h) (Or.inl ⟨by rfl, ?hya7⟩) HBX0 ?resta7
  case hya7 => (intro w hSw; go_simp <;> with_reducible rfl)
  try simp only [Act.put, List.setIfInBounds_toArray, List.set_cons_zero, List.set_cons_succ]
  refine wpAnyH_take (i := 7) (oi := { dst := some 13, op := Op.fieldAddr 120 (Operand.tmp 12) 0, type := 0, pos := "l06_rib.go:66", after := #[{ on := 6, ground := Ground.data }], guard := none }) (v := ?vva8) rfl (by kernel_rfl) (by kernel_rfl) (by kernel_rfl) (fun _ _ _ h => h) (Or.inl ⟨by rfl, ?hya8⟩) HBX0 ?resta8
  case hya8 => (intro w hSw; go_simp <;> with_reducible rfl)
  try simp only [Act.put, List.setIfInBounds_toArray, List.set_cons_zero, List.set_cons_succ]
  refine wpAnyH_take (i := 8) (oi := { dst := some 14, op := Op.load 25 (Operand.tmp 13), type := 25, pos := "l06_rib.go:66", after := #[{ on := 7, ground := Ground.data }], guard := none }) (v := ?vva9) rfl (by kernel_rfl) (by kernel_rfl) (by kernel_rfl) (fun _ _ _ h => h) (Or.inl ⟨by rfl, ?hya9⟩) HBX0 ?resta9
  case hya9 => (intro w hSw; have hx := hSw.cell;go_simp <;> with_reducible rfl)
  try simp only [Act.put, List.setIfInBounds_toArray, List.set_cons_zero, List.set_cons_succ]
  refine wpAnyH_take (i := 9) (oi := { dst := some 15, op := Op.move (Operand.tmp 2), type := 3, pos := "l06_rib.go:66", after := #[{ on := 25, ground := Ground.gcOnly Departure.lateStores }], guard := none }) (v := ?vva10) rfl (by kernel_rfl) (by kernel_rfl) (by kernel_rfl) (fun _ _ _ h => h) (Or.inl ⟨by rfl, ?hya10⟩) HBX0 ?resta10
  case hya10 => (intro w hSw; go_simp <;> with_reducible rfl)
  try simp only [Act.put, List.setIfInBounds_toArray, List.set_cons_zero, List.set_cons_succ]
  refine wpAnyH_take (i := 10) (oi := { dst := some 16, op := Op.move (Operand.tmp 0), type := 122, pos := "l06_rib.go:66", after := #[], guard := none }) (v := ?vva11) rfl (by kernel_rfl) (by kernel_rfl) (by kernel_rfl) (fun _ _ _ h => h) (Or.inl ⟨by rfl, ?hya11⟩) HBX0 ?resta11
  case hya11 => (intro w hSw; go_simp <;> with_reducible rfl)
  try simp only [Act.put, List.setIfInBounds_toArray, List.set_cons_zero, List.set_cons_succ]
  refine wpAnyH_take (i := 11) (oi := { dst := some 17, op := Op.nilCheck (Operand.tmp 16), type := 0, pos := "l06_rib.go:66", after := #[{ on := 10, ground := Ground.data }], guard := none }) (v := ?vva12) rfl (by kernel_rfl) (by kernel_rfl) (by kernel_rfl) (fun _ _ _ h => h) (Or.inl ⟨by rfl, ?hya12⟩) HBX0 ?resta12
  case hya12 => (intro w hSw; go_simp <;> with_reducible rfl)
  try simp only [Act.put, List.setIfInBounds_toArray, List.set_cons_zero, List.set_cons_succ]
  refine wpAnyH_take (i := 12) (oi := { dst := some 18, op := Op.fieldAddr 120 (Operand.tmp 17) 0, type := 0, pos := "l06_rib.go:66", after := #[{ on := 11, ground := Ground.data }], guard := none }) (v := ?vva13) rfl (by kernel_rfl) (by kernel_rfl) (by kernel_rfl) (fun _ _ _ h => h) (Or.inl ⟨by rfl, ?hya13⟩) HBX0 ?resta13
  case hya13 => (intro w hSw; go_simp <;> with_reducible rfl)
  try simp only [Act.put, List.setIfInBounds_toArray, List.set_cons_zero, List.set_cons_succ]
  refine wpAnyH_take (i := 13) (oi := { dst := some 19, op := Op.load 25 (Operand.tmp 18), type := 25, pos := "l06_rib.go:66", after := #[{ on := 12, ground := Ground.data }], guard := none }) (v := ?vva14) rfl (by kernel_rfl) (by kernel_rfl) (by kernel_rfl) (fun _ _ _ h => h) (Or.inl ⟨by rfl, ?hya14⟩) HBX0 ?resta14
  case hya14 => (intro w hSw; have hx := hSw.cell;go_simp <;> with_reducible rfl)
  try simp only [Act.put, List.setIfInBounds_toArray, List.set_cons_zero, List.set_cons_succ]
  refine wpAnyH_take (i := 14) (oi := { dst := some 20, op := Op.move (Operand.tmp 2), type := 3, pos := "l06_rib.go:66", after := #[], guard := none }) (v := ?vva15) rfl (by kernel_rfl) (by kernel_rfl) (by kernel_rfl) (fun _ _ _ h => h) (Or.inl ⟨by rfl, ?hya15⟩) HBX0 ?resta15
  case hya15 => (intro w hSw; go_simp <;> with_reducible rfl)
  try simp only [Act.put, List.setIfInBounds_toArray, List.set_cons_zero, List.set_cons_succ]
  refine wpAnyH_take (i := 15) (oi := { dst := some 21, op := Op.indexAddr 25 (Operand.tmp 19) (Operand.tmp 20), type := 0, pos := "l06_rib.go:66", after := #[{ on := 13, ground := Ground.data }, { on := 14, ground := Ground.data }], guard := none }) (v := ?vva16) rfl (by kernel_rfl) (by kernel_rfl) (by kernel_rfl) (fun _ _ _ h => h) (Or.inl ⟨by rfl, ?hya16⟩) HBX0 ?resta16
  case hya16 => (intro w hSw; go_simp <;> with_reducible rfl)
  try simp only [Act.put, List.setIfInBounds_toArray, List.set_cons_zero, List.set_cons_succ]
  refine wpAnyH_take (i := 17) (oi := { dst := some 23, op := Op.move (Operand.tmp 0), type := 122, pos := "l06_rib.go:66", after := #[], guard := none }) (v := ?vva17) rfl (by kernel_rfl) (by kernel_rfl) (by kernel_rfl) (fun _ _ _ h => h) (Or.inl ⟨by rfl, ?hya17⟩) HBX0 ?resta17
  case hya17 => (intro w hSw; go_simp <;> with_reducible rfl)
  try simp only [Act.put, List.setIfInBounds_toArray, List.set_cons_zero, List.set_cons_succ]
  refine wpAnyH_take (i := 18) (oi := { dst := some 24, op := Op.nilCheck (Operand.tmp 23), type := 0, pos := "l06_rib.go:66", after := #[{ on := 17, ground := Ground.data }], guard := none }) (v := ?vva18) rfl (by kernel_rfl) (by kernel_rfl) (by kernel_rfl) (fun _ _ _ h => h) (Or.inl ⟨by rfl, ?hya18⟩) HBX0 ?resta18
  case hya18 => (intro w hSw; go_simp <;> with_reducible rfl)
  try simp only [Act.put, List.setIfInBounds_toArray, List.set_cons_zero, List.set_cons_succ]
  refine wpAnyH_take (i := 19) (oi := { dst := some 25, op := Op.fieldAddr 120 (Operand.tmp 24) 0, type := 0, pos := "l06_rib.go:66", after := #[{ on := 18, ground := Ground.data }], guard := none }) (v := ?vva19) rfl (by kernel_rfl) (by kernel_rfl) (by kernel_rfl) (fun _ _ _ h => h) (Or.inl ⟨by rfl, ?hya19⟩) HBX0 ?resta19
  case hya19 => (intro w hSw; go_simp <;> with_reducible rfl)
  try simp only [Act.put, List.setIfInBounds_toArray, List.set_cons_zero, List.set_cons_succ]
  refine wpAnyH_take (i := 20) (oi := { dst := some 26, op := Op.load 25 (Operand.tmp 25), type := 25, pos := "l06_rib.go:66", after := #[{ on := 19, ground := Ground.data }], guard := none }) (v := ?vva20) rfl (by kernel_rfl) (by kernel_rfl) (by kernel_rfl) (fun _ _ _ h => h) (Or.inl ⟨by rfl, ?hya20⟩) HBX0 ?resta20
  case hya20 => (intro w hSw; have hx := hSw.cell;go_simp <;> with_reducible rfl)
  try simp only [Act.put, List.setIfInBounds_toArray, List.set_cons_zero, List.set_cons_succ]
  refine wpAnyH_take (i := 21) (oi := { dst := some 27, op := Op.move (Operand.tmp 1), type := 3, pos := "l06_rib.go:66", after := #[], guard := none }) (v := ?vva21) rfl (by kernel_rfl) (by kernel_rfl) (by kernel_rfl) (fun _ _ _ h => h) (Or.inl ⟨by rfl, ?hya21⟩) HBX0 ?resta21
  case hya21 => (intro w hSw; go_simp <;> with_reducible rfl)
  try simp only [Act.put, List.setIfInBounds_toArray, List.set_cons_zero, List.set_cons_succ]
  refine wpAnyH_take (i := 22) (oi := { dst := some 28, op := Op.indexAddr 25 (Operand.tmp 26) (Operand.tmp 27), type := 0, pos := "l06_rib.go:66", after := #[{ on := 20, ground := Ground.data }, { on := 21, ground := Ground.data }], guard := none }) (v := ?vva22) rfl (by kernel_rfl) (by kernel_rfl) (by kernel_rfl) (fun _ _ _ h => h) (Or.inl ⟨by rfl, ?hya22⟩) HBX0 ?resta22
  case hya22 => (intro w hSw; go_simp <;> with_reducible rfl)
  try simp only [Act.put, List.setIfInBounds_toArray, List.set_cons_zero, List.set_cons_succ]
  refine wpAnyH_ready (rs := [16, 23]) (by kernel_rfl) (by simp) ?_
  refine (AllReadyH.cons (o := o349ad_0) rfl (fun K hK => ?_) (AllReadyH.cons (o := o349ad_1) rfl (fun K hK => ?_) AllReadyH.nil))
  focus
    go_simp
    refine hK.out _ _ HBX0 (fun hHeld => ?_)
    clear hK K hHeld
    try simp only [Act.put, List.setIfInBounds_toArray, List.set_cons_zero, List.set_cons_succ]
    refine wpAnyH_ready (rs := [23]) (by kernel_rfl) (by simp) ?_
    refine AllReadyH.cons (o := o349ad_1) rfl (fun K hK => ?_) AllReadyH.nil
    go_simp
    refine hK.out _ _ HBX0 (fun hHeld => ?_)
    clear hK K hHeld
    try simp only [Act.put, List.setIfInBounds_toArray, List.set_cons_zero, List.set_cons_succ]
    refine wpAnyH_take (i := 24) (oi := o349ad_2) (v := ?vva23) rfl (by kernel_rfl) (by kernel_rfl) (by kernel_rfl) (fun _ _ _ h => h) (Or.inl ⟨by rfl, ?hya23⟩) HBX0 ?resta23
    case hya23 => (intro w hSw; go_simp <;> with_reducible rfl)
    try simp only [Act.put, List.setIfInBounds_toArray, List.set_cons_zero, List.set_cons_succ]
    refine wpAnyH_ready (rs := [25]) (by kernel_rfl) (by simp) ?_
    refine AllReadyH.cons (o := o349ad_3) rfl (fun K hK => ?_) AllReadyH.nil
    obtain ⟨z0, c0⟩ := F0.cell hi 0 (by omega)
    obtain ⟨z1, c1⟩ := F0.cell hi 1 (by omega)
    obtain ⟨z2, c2⟩ := F0.cell hi 2 (by omega)
    obtain ⟨z3, c3⟩ := F0.cell hi 3 (by omega)
    obtain ⟨z4, c4⟩ := F0.cell hi 4 (by omega)
    obtain ⟨z5, c5⟩ := F0.cell hi 5 (by omega)
    obtain ⟨z6, c6⟩ := F0.cell hi 6 (by omega)
    obtain ⟨z7, c7⟩ := F0.cell hi 7 (by omega)
    obtain ⟨z8, c8⟩ := F0.cell hi 8 (by omega)
    rw [Nat.add_zero] at c0
    have fz := F0.frozen
    go_simp
    replace F0 := F0.put hi y
    replace G0 := grownTrans G0 (fhGrownH i y)
    replace HBX0 := fhFarH hne HBX0 i y
    obtain ⟨W1, hW1⟩ : ∃ X, X = (((((((((Wd.setCell ⟨g, i * 9, none⟩ (.int .i64 y.p)).setCell ⟨g, i * 9 + 1, none⟩ (.bool y.s)).setCell ⟨g, i * 9 + 2, none⟩ (.int .i64 y.r.kind)).setCell ⟨g, i * 9 + 3, none⟩ (.int .i64 y.r.vni)).setCell ⟨g, i * 9 + 4, none⟩ (.int .i64 y.r.mac)).setCell ⟨g, i * 9 + 5, none⟩ (.int .i64 y.r.ip)).setCell ⟨g, i * 9 + 6, none⟩ (.int .i64 y.r.org)).setCell ⟨g, i * 9 + 7, none⟩ (.int .i64 y.r.seq)).setCell ⟨g, i * 9 + 8, none⟩ (.bool y.r.st)) := ⟨_, rfl⟩
    rw [← hW1] at F0 G0 HBX0 ⊢
    clear hW1 c0 c1 c2 c3 c4 c5 c6 c7 c8 fz
    refine hK.out _ _ HBX0 (fun hHeld => ?_)
    clear hK K hHeld
    try simp only [Act.put, List.setIfInBounds_toArray, List.set_cons_zero, List.set_cons_succ]
    refine wpAnyH_take (i := 26) (oi := o349ad_4) (v := ?vva24) rfl (by kernel_rfl) (by kernel_rfl) (by kernel_rfl) (fun _ _ _ h => h) (Or.inl ⟨by rfl, ?hya24⟩) HBX0 ?resta24
    case hya24 => (intro w hSw; go_simp <;> with_reducible rfl)
    try simp only [Act.put, List.setIfInBounds_toArray, List.set_cons_zero, List.set_cons_succ]
    refine wpAnyH_ready (rs := [27]) (by kernel_rfl) (by simp) ?_
    refine AllReadyH.cons (o := o349ad_5) rfl (fun K hK => ?_) AllReadyH.nil
    obtain ⟨z0, c0⟩ := F0.cell hj 0 (by omega)
    obtain ⟨z1, c1⟩ := F0.cell hj 1 (by omega)
    obtain ⟨z2, c2⟩ := F0.cell hj 2 (by omega)
    obtain ⟨z3, c3⟩ := F0.cell hj 3 (by omega)
    obtain ⟨z4, c4⟩ := F0.cell hj 4 (by omega)
    obtain ⟨z5, c5⟩ := F0.cell hj 5 (by omega)
    obtain ⟨z6, c6⟩ := F0.cell hj 6 (by omega)
    obtain ⟨z7, c7⟩ := F0.cell hj 7 (by omega)
    obtain ⟨z8, c8⟩ := F0.cell hj 8 (by omega)
    rw [Nat.add_zero] at c0
    have fz := F0.frozen
    go_simp
    replace F0 := F0.put hj x
    replace G0 := grownTrans G0 (fhGrownH j x)
    replace HBX0 := fhFarH hne HBX0 j x
    obtain ⟨W2, hW2⟩ : ∃ X, X = (((((((((W1.setCell ⟨g, j * 9, none⟩ (.int .i64 x.p)).setCell ⟨g, j * 9 + 1, none⟩ (.bool x.s)).setCell ⟨g, j * 9 + 2, none⟩ (.int .i64 x.r.kind)).setCell ⟨g, j * 9 + 3, none⟩ (.int .i64 x.r.vni)).setCell ⟨g, j * 9 + 4, none⟩ (.int .i64 x.r.mac)).setCell ⟨g, j * 9 + 5, none⟩ (.int .i64 x.r.ip)).setCell ⟨g, j * 9 + 6, none⟩ (.int .i64 x.r.org)).setCell ⟨g, j * 9 + 7, none⟩ (.int .i64 x.r.seq)).setCell ⟨g, j * 9 + 8, none⟩ (.bool x.r.st)) := ⟨_, rfl⟩
    rw [← hW2] at F0 G0 HBX0 ⊢
    clear hW2 c0 c1 c2 c3 c4 c5 c6 c7 c8 fz
    refine hK.out _ _ HBX0 (fun hHeld => ?_)
    clear hK K hHeld
    try simp only [Act.put, List.setIfInBounds_toArray, List.set_cons_zero, List.set_cons_succ]
    refine wpAnyH_done (by kernel_rfl) ?_ _
  rotate_left 1
  focus
    go_simp
    refine hK.out _ _ HBX0 (fun hHeld => ?_)
    clear hK K hHeld
    try simp only [Act.put, List.setIfInBounds_toArray, List.set_cons_zero, List.set_cons_succ]
    refine wpAnyH_ready (rs := [16]) (by kernel_rfl) (by simp) ?_
    refine AllReadyH.cons (o := o349ad_0) rfl (fun K hK => ?_) AllReadyH.nil
    go_simp
    refine hK.out _ _ HBX0 (fun hHeld => ?_)
    clear hK K hHeld
    try simp only [Act.put, List.setIfInBounds_toArray, List.set_cons_zero, List.set_cons_succ]
    refine wpAnyH_take (i := 24) (oi := o349ad_2) (v := ?vva25) rfl (by kernel_rfl) (by kernel_rfl) (by kernel_rfl) (fun _ _ _ h => h) (Or.inl ⟨by rfl, ?hya25⟩) HBX0 ?resta25
    case hya25 => (intro w hSw; go_simp <;> with_reducible rfl)
    try simp only [Act.put, List.setIfInBounds_toArray, List.set_cons_zero, List.set_cons_succ]
    refine wpAnyH_ready (rs := [25]) (by kernel_rfl) (by simp) ?_
    refine AllReadyH.cons (o := o349ad_3) rfl (fun K hK => ?_) AllReadyH.nil
    obtain ⟨z0, c0⟩ := F0.cell hi 0 (by omega)
    obtain ⟨z1, c1⟩ := F0.cell hi 1 (by omega)
    obtain ⟨z2, c2⟩ := F0.cell hi 2 (by omega)
    obtain ⟨z3, c3⟩ := F0.cell hi 3 (by omega)
    obtain ⟨z4, c4⟩ := F0.cell hi 4 (by omega)
    obtain ⟨z5, c5⟩ := F0.cell hi 5 (by omega)
    obtain ⟨z6, c6⟩ := F0.cell hi 6 (by omega)
    obtain ⟨z7, c7⟩ := F0.cell hi 7 (by omega)
    obtain ⟨z8, c8⟩ := F0.cell hi 8 (by omega)
    rw [Nat.add_zero] at c0
    have fz := F0.frozen
    go_simp
    replace F0 := F0.put hi y
    replace G0 := grownTrans G0 (fhGrownH i y)
    replace HBX0 := fhFarH hne HBX0 i y
    obtain ⟨W1, hW1⟩ : ∃ X, X = (((((((((Wd.setCell ⟨g, i * 9, none⟩ (.int .i64 y.p)).setCell ⟨g, i * 9 + 1, none⟩ (.bool y.s)).setCell ⟨g, i * 9 + 2, none⟩ (.int .i64 y.r.kind)).setCell ⟨g, i * 9 + 3, none⟩ (.int .i64 y.r.vni)).setCell ⟨g, i * 9 + 4, none⟩ (.int .i64 y.r.mac)).setCell ⟨g, i * 9 + 5, none⟩ (.int .i64 y.r.ip)).setCell ⟨g, i * 9 + 6, none⟩ (.int .i64 y.r.org)).setCell ⟨g, i * 9 + 7, none⟩ (.int .i64 y.r.seq)).setCell ⟨g, i * 9 + 8, none⟩ (.bool y.r.st)) := ⟨_, rfl⟩
    rw [← hW1] at F0 G0 HBX0 ⊢
    clear hW1 c0 c1 c2 c3 c4 c5 c6 c7 c8 fz
    refine hK.out _ _ HBX0 (fun hHeld => ?_)
    clear hK K hHeld
    try simp only [Act.put, List.setIfInBounds_toArray, List.set_cons_zero, List.set_cons_succ]
    refine wpAnyH_take (i := 26) (oi := o349ad_4) (v := ?vva26) rfl (by kernel_rfl) (by kernel_rfl) (by kernel_rfl) (fun _ _ _ h => h) (Or.inl ⟨by rfl, ?hya26⟩) HBX0 ?resta26
    case hya26 => (intro w hSw; go_simp <;> with_reducible rfl)
    try simp only [Act.put, List.setIfInBounds_toArray, List.set_cons_zero, List.set_cons_succ]
    refine wpAnyH_ready (rs := [27]) (by kernel_rfl) (by simp) ?_
    refine AllReadyH.cons (o := o349ad_5) rfl (fun K hK => ?_) AllReadyH.nil
    obtain ⟨z0, c0⟩ := F0.cell hj 0 (by omega)
    obtain ⟨z1, c1⟩ := F0.cell hj 1 (by omega)
    obtain ⟨z2, c2⟩ := F0.cell hj 2 (by omega)
    obtain ⟨z3, c3⟩ := F0.cell hj 3 (by omega)
    obtain ⟨z4, c4⟩ := F0.cell hj 4 (by omega)
    obtain ⟨z5, c5⟩ := F0.cell hj 5 (by omega)
    obtain ⟨z6, c6⟩ := F0.cell hj 6 (by omega)
    obtain ⟨z7, c7⟩ := F0.cell hj 7 (by omega)
    obtain ⟨z8, c8⟩ := F0.cell hj 8 (by omega)
    rw [Nat.add_zero] at c0
    have fz := F0.frozen
    go_simp
    replace F0 := F0.put hj x
    replace G0 := grownTrans G0 (fhGrownH j x)
    replace HBX0 := fhFarH hne HBX0 j x
    obtain ⟨W2, hW2⟩ : ∃ X, X = (((((((((W1.setCell ⟨g, j * 9, none⟩ (.int .i64 x.p)).setCell ⟨g, j * 9 + 1, none⟩ (.bool x.s)).setCell ⟨g, j * 9 + 2, none⟩ (.int .i64 x.r.kind)).setCell ⟨g, j * 9 + 3, none⟩ (.int .i64 x.r.vni)).setCell ⟨g, j * 9 + 4, none⟩ (.int .i64 x.r.mac)).setCell ⟨g, j * 9 + 5, none⟩ (.int .i64 x.r.ip)).setCell ⟨g, j * 9 + 6, none⟩ (.int .i64 x.r.org)).setCell ⟨g, j * 9 + 7, none⟩ (.int .i64 x.r.seq)).setCell ⟨g, j * 9 + 8, none⟩ (.bool x.r.st)) := ⟨_, rfl⟩
    rw [← hW2] at F0 G0 HBX0 ⊢
    clear hW2 c0 c1 c2 c3 c4 c5 c6 c7 c8 fz
    refine hK.out _ _ HBX0 (fun hHeld => ?_)
    clear hK K hHeld
    try simp only [Act.put, List.setIfInBounds_toArray, List.set_cons_zero, List.set_cons_succ]
    refine wpAnyH_done (by kernel_rfl) ?_ _
  rotate_left 1
  all_goals
    have HG := Lib.hid G0
    have HF := Lib.hid F0
    have HBX := Lib.hid HBX0
    clear G0 F0 HBX0
    go_wp2_with fail
    go_end0
    obtain ⟨zs, h1, h2⟩ := HF.out
    have := HFIN.out zs h1.1 (fun k hk o ho => by
      rw [h2 k hk o ho]
      dsimp only
      by_cases e1 : k = j
      · rw [if_pos e1, if_pos e1]
      · rw [if_neg e1, if_neg e1]
        by_cases e2 : k = i
        · rw [if_pos e2, if_pos e2]
        · rw [if_neg e2, if_neg e2]; exact (HFn.out k o).symm)
    refine ⟨⟨_, rfl⟩, ⟨by rw [HSL.out]; exact HBX.out, ?_⟩, HG.out⟩
    rw [HSL.out, ← this]
    exact h1
end Go.Proofs.Ytmkoppbbenombaa
