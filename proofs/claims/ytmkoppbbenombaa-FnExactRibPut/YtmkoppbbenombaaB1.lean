import Derived.Test.YtmkoppbbenombaaRows
import Derived.WalkKit
import Derived.ProofKit
import Derived.Lib.Hide
import Derived.Laws.BitsAllLaws
import Derived.Laws.IdiomStrings
import Derived.Laws.BytesArg
import Derived.Lib.BufferWrite
import Derived.Laws.MakeOwn
import Derived.Lib.UnsafeStr
import Derived.WalkSpells
/- Small facts that the other texts of this seat use: endings, bytes, what a call owns. -/
namespace Go.Proofs.Ytmkoppbbenombaa
open Go.RowKit

theorem bool_ret {a b : Bool} (h : a = b) : Ending.returned (.bool a) = .returned (.bool b) := by rw [h]
theorem i64_ret {a b : Int} (h : a = b) : Ending.returned (.int .i64 a) = .returned (.int .i64 b) := by rw [h]
theorem u64_ret {a b : Int} (h : a = b) : Ending.returned (.int .u64 a) = .returned (.int .u64 b) := by rw [h]
theorem str_ret {a b : ByteArray} (h : a = b) : Ending.returned (.string a) = .returned (.string b) := by rw [h]
theorem take_snoc (s : ByteArray) (k : Nat) (h : k < s.size) : s.data.toList.take (k + 1) = s.data.toList.take k ++ [s[k]] := by
  rw [List.take_succ_eq_append_getElem (by simpa using h)]; rfl
theorem take_all (s : ByteArray) (k : Nat) (h : s.size ≤ k) : s.data.toList.take k = s.data.toList := List.take_of_length_le (by simpa using h)

def strOf (l : List UInt8) : ByteArray := ⟨l.toArray⟩
def byteV (b : UInt8) : Value := .int .u8 (b.toNat : Int)
theorem byteV_one (l : List UInt8) : ∀ u ∈ l.map byteV, u.oneCell' = true := by
  intro u hu; obtain ⟨b, _, rfl⟩ := List.mem_map.1 hu; rfl
theorem strOf_size (l : List UInt8) : (strOf l).size = l.length := by simp [strOf, ByteArray.size]
theorem strOf_list (l : List UInt8) : (strOf l).data.toList = l := by simp [strOf]
theorem strOf_self (s : ByteArray) : strOf s.data.toList = s := rfl

/- 'string(b)' of bytes that the call itself has gathered -/
theorem own_string {P : Program} {w : World} {base : Nat} {e : TypeId} {v : Value} {l : List UInt8} (src dst : TypeId)
    (h : w.ownsRow base e 1 v l.length (l.map byteV)) (hs : P.underlying src = some (.slice e)) (he : P.underlying e = some (.int .u8)) (hd : P.underlying dst = some .string) :
    (convert src dst v).run P w = .ok (.string (strOf l)) w := by
  rcases h with ⟨hl, ⟨rfl, h0⟩ | ⟨g, cap, cur, rfl, hb, hh, hn, hm, hz, ht⟩⟩
  · have e0 : l = [] := List.eq_nil_of_length_eq_zero h0
    subst e0
    rw [run_convert_bytes_nil w src e hs he 0 0 dst hd]; rfl
  · refine run_convert_bytes_back w src dst e ⟨g, 0, none⟩ cap l hs he hd fun j hj => ?_
    have ho : w.ownsRow base e 1 (.slice (some ⟨g, 0, none⟩) l.length cap) l.length (l.map byteV) := ⟨hl, .inr ⟨g, cap, cur, rfl, hb, hh, hn, hm, hz, ht⟩⟩
    exact ho.cells (g := g) rfl j _ (by simp [hj, byteV])

/- a row that is owned, and one block more -/
theorem one_cell (w : World) (x : Value) (t : TypeId) (j : Nat) (u : Value) (h : ([x] : List Value)[j]? = some u) : (w.alloc (.cells #[x] t)).cell? ((⟨w.heap.size, 0, none⟩ : Addr).add j) = some u := by
  match j, h with
  | 0, h => simp at h; subst h; simp [Addr.add]

theorem int_oneCell (k : IntKind) (n : Int) : ∀ u ∈ [Value.int k n], u.oneCell' = true := by
  intro u hu; simp at hu; subst hu; rfl

/- behind 'append(v, c)' -/
theorem app_rel {B : Nat} {e : TypeId} {v v' x : Value} {pre : List UInt8} {w wr w1 : World} {o : Obj} (c : UInt8) (hbel : Below B w wr) (hB : B ≤ w.heap.size) (hown : wr.ownsRow B e 1 v pre.length (pre.map byteV))
    (h1 : w1.ownsRow B e 1 v' (pre.length + 1) (pre.map byteV ++ [x])) (hg : (wr.alloc o).grownBy w1 v.ownBlock) (hx : x = byteV c) :
    w1.ownsRow B e 1 v' (pre ++ [c]).length ((pre ++ [c]).map byteV) ∧ Below B w w1 := by
  refine ⟨?_, ?_⟩
  · rw [List.length_append, List.map_append]; subst hx; exact h1
  · have hs := hbel.size
    exact (hbel.alloc (by omega) o).grown hg (by simp; omega) (fun k hk => (hown.lt k hk).1)
theorem byte_of (c : Nat) (x : Int) (hc : c < 256) (h : x = (c : Int)) : Value.int .u8 x = byteV (UInt8.ofNat c) := by
  rw [byteV, UInt8.toNat_ofNat_of_lt' (by simpa using hc), h]

/- behind a contract that ends in 'Below': what was there reads as it did -/
theorem bcell {W w1 : World} (hb : Below W.heap.size W w1) : (∀ b o, b < W.heap.size → w1.cell? ⟨b, o, none⟩ = W.cell? ⟨b, o, none⟩) ∧ (∀ b o, b < W.heap.size → w1.frozen? ⟨b, o, none⟩ = W.frozen? ⟨b, o, none⟩) :=
  ⟨fun b o h => hb.cell (p := ⟨b, o, none⟩) h, fun b o h => hb.frozen (p := ⟨b, o, none⟩) h⟩
end Go.Proofs.Ytmkoppbbenombaa

/- Bytes that a call makes itself: make, copy, a row read as a string. -/
namespace Go.Proofs.Ytmkoppbbenombaa
open Go.RowKit

theorem info_u8 : (Try.prog.info? 5).map (fun i => (i.zero, i.size, i.bytes)) = some (some (.int .u8 0), 1, 1) := by kernel_rfl
theorem byteCells_map (l : List UInt8) : Lib.byteCells l = l.map byteV := rfl
theorem size_list (s : ByteArray) : s.size = s.data.toList.length := Lib.size_eq s
theorem size_zero {b : ByteArray} (h : b.size = 0) : b = ByteArray.empty := ByteArray.ext (Array.eq_empty_of_size_eq_zero h)
theorem app_strOf (a b : ByteArray) : a ++ b = strOf (a.data.toList ++ b.data.toList) := by
  apply ByteArray.ext; rw [ByteArray.data_append, strOf]; simp
theorem len_bytes (s : ByteArray) : (s.data.toList.map byteV).length = s.size := by rw [List.length_map, ← size_list]
theorem info_u8s : (Try.prog.info? 5).map (·.size) = some 1 := by kernel_rfl

/- 'make([]byte, n)' -/
theorem make_bytes (n : Nat) (hn : n ≤ 281474976710656) : ∃ M : Array Value, M.size = n ∧
    ∀ W : World, (Instr.makeSlice 182 (.int .i64 (n : Int)) (.int .i64 (n : Int))).run Try.prog W = .ok (.slice (some ⟨W.heap.size, 0, none⟩) n n) (W.alloc (.cells M 5)) := by
  obtain ⟨i0, hi, hz0, hz1, hz2⟩ := info_parts info_u8
  refine ⟨madeCells (Value.int .u8 0).cells (((n : Nat) : Int).toNat * i0.size), by rw [size_madeCells, hz1]; simp, fun W => ?_⟩
  have h := run_make (P := Try.prog) W 182 5 i0 (.int .u8 0) Try.underlying182 hi hz0 .i64 .i64 (n : Int) (n : Int) (by omega) (by omega) (by rw [hz2]; omega) (by omega)
  simpa using h

/- a row that holds the bytes l and nothing else, as a string -/
theorem row_string {w : World} {g : Nat} {Y : Array Value} {l : List UInt8} (hg : w.heap[g]? = some (.cells Y 5 (0, 0))) (hY : Y.toList = l.map byteV) (hl : l.length ≤ maxLen) :
    (convert 182 9 (.slice (some ⟨g, 0, none⟩) l.length l.length)).run Try.prog w = .ok (.string (strOf l)) w := by
  have hs : Y.size = l.length := by rw [← Array.length_toList, hY, List.length_map]
  refine own_string (P := Try.prog) (base := 0) (e := 5) 182 9 ⟨by simp, .inr ⟨g, l.length, Y, rfl, Nat.zero_le _, hg, Nat.le_refl _, hl, by omega, ?_⟩⟩ Try.underlying182 Try.underlying5 Try.underlying9
  rw [Nat.mul_one, List.take_of_length_le (by rw [Array.length_toList]; omega), hY]

end Go.Proofs.Ytmkoppbbenombaa

/- The contract of tooLong. -/
namespace Go.Proofs.Ytmkoppbbenombaa
open Go.RowKit
end Go.Proofs.Ytmkoppbbenombaa

/- Numbers in so many bytes, the highest first: the mathematics. -/
namespace Go.Proofs.Ytmkoppbbenombaa
open Go.RowKit

def be : Nat → Nat → List UInt8
  | 0, _ => []
  | k + 1, n => be k (n / 256) ++ [UInt8.ofNat (n % 256)]
def num (l : List UInt8) : Nat := l.foldl (fun n b => n * 256 + b.toNat) 0
theorem snoc_ind {P : List UInt8 → Prop} (h0 : P []) (h1 : ∀ l b, P l → P (l ++ [b])) (l : List UInt8) : P l := by
  rw [← List.reverse_reverse l]
  induction l.reverse with
  | nil => exact h0
  | cons b t ih => rw [List.reverse_cons]; exact h1 _ _ ih
theorem be_length (k n : Nat) : (be k n).length = k := by
  induction k generalizing n with
  | zero => rfl
  | succ k ih => rw [be, List.length_append, ih]; rfl
theorem num_snoc (l : List UInt8) (b : UInt8) : num (l ++ [b]) = num l * 256 + b.toNat := by
  rw [num, List.foldl_append]; rfl
theorem num_be (k n : Nat) (h : n < 256 ^ k) : num (be k n) = n := by
  induction k generalizing n with
  | zero => rw [Nat.pow_zero] at h; rw [be]; show 0 = n; omega
  | succ k ih =>
    rw [Nat.pow_succ] at h
    rw [be, num_snoc, ih (n / 256) (by omega), UInt8.toNat_ofNat_of_lt' (by show _ % 256 < 256; omega)]
    omega
theorem num_lt (l : List UInt8) : num l < 256 ^ l.length := by
  refine snoc_ind (P := fun l => num l < 256 ^ l.length) (by decide) (fun l b ih => ?_) l
  · have hb := b.toNat_lt
    rw [num_snoc, List.length_append, List.length_cons, List.length_nil, Nat.pow_succ]
    omega
theorem be_num (l : List UInt8) : be l.length (num l) = l := by
  refine snoc_ind (P := fun l => be l.length (num l) = l) rfl (fun l b ih => ?_) l
  · have hb := b.toNat_lt
    rw [num_snoc, List.length_append, List.length_cons, List.length_nil, be, show (num l * 256 + b.toNat) / 256 = num l by omega, ih, show (num l * 256 + b.toNat) % 256 = b.toNat by omega, UInt8.ofNat_toNat]
theorem be2 (n : Nat) : be 2 n = [UInt8.ofNat (n / 256 % 256), UInt8.ofNat (n % 256)] := rfl
end Go.Proofs.Ytmkoppbbenombaa

/- Varints, as plain mathematics: zigzag, groups of seven bits. -/
namespace Go.Proofs.Ytmkoppbbenombaa
open Go.RowKit

def vi (u : Nat) : List UInt8 := if u < 128 then [UInt8.ofNat u] else UInt8.ofNat (u % 128 + 128) :: vi (u / 128)
termination_by u
decreasing_by omega
theorem vi_small (u : Nat) (h : u < 128) : vi u = [UInt8.ofNat u] := by rw [vi, if_pos h]
theorem vi_big (u : Nat) (h : 128 ≤ u) : vi u = UInt8.ofNat (u % 128 + 128) :: vi (u / 128) := by rw [vi, if_neg (by omega)]
theorem vi_len (n : Nat) : ∀ u, u < 128 ^ (n + 1) → (vi u).length ≤ n + 1 := by
  induction n with
  | zero => intro u h; rw [vi_small u (by omega)]; simp
  | succ n ih =>
    intro u h
    by_cases h1 : u < 128
    · rw [vi_small u h1]; simp
    · rw [vi_big u (by omega), List.length_cons]
      have := ih (u / 128) (by rw [Nat.div_lt_iff_lt_mul (by omega)]; rw [Nat.pow_succ] at h; exact h)
      omega
theorem vi_pos (u : Nat) : 1 ≤ (vi u).length := by
  by_cases h : u < 128
  · rw [vi_small u h]; simp
  · rw [vi_big u (by omega)]; simp
theorem vi_len10 (u : Nat) (h : u ≤ 18446744073709551615) : (vi u).length ≤ 10 := vi_len 9 u (by omega)

def zz (n : Int) : Nat := if n < 0 then (-2 * n - 1).toNat else (2 * n).toNat
theorem zz_le (n : Int) (h1 : -9223372036854775808 ≤ n) (h2 : n ≤ 9223372036854775807) : zz n ≤ 18446744073709551615 := by
  unfold zz; split <;> omega
def putNum (n : Int) : List UInt8 := vi (zz n)
theorem putNum_len (n : Int) (h1 : -9223372036854775808 ≤ n) (h2 : n ≤ 9223372036854775807) : (putNum n).length ≤ 10 := vi_len10 _ (zz_le n h1 h2)
end Go.Proofs.Ytmkoppbbenombaa

/- Contracts of PutNum. -/
namespace Go.Proofs.Ytmkoppbbenombaa
open Go.RowKit

theorem xor_ones (a : Nat) (h : a < 18446744073709551616) : a ^^^ 18446744073709551615 = 18446744073709551615 - a := by
  have e := congrArg BitVec.toNat (BitVec.xor_allOnes (x := BitVec.ofNat 64 a))
  rw [BitVec.toNat_xor, BitVec.toNat_not, BitVec.toNat_ofNat, Nat.mod_eq_of_lt (by omega)] at e
  have h1 : (BitVec.allOnes 64).toNat = 18446744073709551615 := by decide
  rw [h1] at e
  omega
theorem zigzag_eq (n : Int) (h1 : -9223372036854775808 ≤ n) (h2 : n ≤ 9223372036854775807) :
    bits BinOp.xor IntKind.u64 (IntKind.u64.wrap (IntKind.u64.wrap n * 2)) (IntKind.u64.wrap (n / 9223372036854775808)) = (zz n : Nat) := by
  rw [IntKind.wrap_u64, IntKind.wrap_u64, IntKind.wrap_u64]
  by_cases hn : n < 0
  · have e1 : n % 18446744073709551616 * 2 % 18446744073709551616 = (((2 * n + 18446744073709551616).toNat : Nat) : Int) := by omega
    have e2 : n / 9223372036854775808 % 18446744073709551616 = ((18446744073709551615 : Nat) : Int) := by omega
    rw [e1, e2, bits_xor_u64_nat _ _ (by omega) (by omega), xor_ones _ (by omega), zz, if_pos hn]
    omega
  · have e1 : n % 18446744073709551616 * 2 % 18446744073709551616 = (((2 * n).toNat : Nat) : Int) := by omega
    have e2 : n / 9223372036854775808 % 18446744073709551616 = ((0 : Nat) : Int) := by omega
    rw [e1, e2, bits_xor_u64_nat _ _ (by omega) (by omega), Nat.xor_zero, zz, if_neg hn]

theorem or_128 (x : Int) (h : 0 ≤ x) : bits .or .u8 (x % 256) 128 = ((x.toNat % 128 + 128 : Nat) : Int) := by
  have e : x % 256 = ((x.toNat % 256 : Nat) : Int) := by omega
  rw [e]
  have := u8_or_nat (x.toNat % 256) 128 (by omega) (by omega)
  rw [show ((128 : Nat) : Int) = 128 from rfl] at this
  rw [this]
  have k : ∀ y : Fin 256, y.val ||| 128 = y.val % 128 + 128 := by decide +kernel
  have := k ⟨x.toNat % 256, by omega⟩
  simp only at this
  rw [this]; omega

end Go.Proofs.Ytmkoppbbenombaa

/- Contracts of joined, of PutText. -/
namespace Go.Proofs.Ytmkoppbbenombaa
open Go.RowKit

def putText (s : ByteArray) : ByteArray := if 8000 < s.size then ⟨#[]⟩ else strOf (putNum s.size ++ s.data.toList)
theorem putText_big (s : ByteArray) (h : 8000 < s.size) : putText s = ⟨#[]⟩ := by rw [putText, if_pos h]
theorem putText_small (s : ByteArray) (h : ¬ 8000 < s.size) : putText s = strOf (putNum s.size ++ s.data.toList) := by rw [putText, if_neg h]

end Go.Proofs.Ytmkoppbbenombaa
