/- The model's frames. -/
import Derived.Test.YthhodnkcaefnnaaEthP
import Derived.Deep.RegionHeld3
import Derived.Deep.DrawnRows
import Derived.StillTailTactics
namespace Go.Proofs.Ythhodnkcaefnnaa
open Go.RowKit
attribute [local go_sem ↓] Go.wp_at_zero Go.wp_at_succ

theorem keep4 {B : Nat} {w W W' : World} {v0 v1 v2 v3 : Value} (h : W.cell? ⟨B, 0, none⟩ = some v0 ∧ W.cell? ⟨B, 1, none⟩ = some v1 ∧ W.cell? ⟨B, 2, none⟩ = some v2 ∧ W.cell? ⟨B, 3, none⟩ = some v3 ∧ Below B w W) (hb : Below W.heap.size W W') :
    W'.cell? ⟨B, 0, none⟩ = some v0 ∧ W'.cell? ⟨B, 1, none⟩ = some v1 ∧ W'.cell? ⟨B, 2, none⟩ = some v2 ∧ W'.cell? ⟨B, 3, none⟩ = some v3 ∧ Below B w W' := by
  obtain ⟨h0, h1, h2, h3, h4⟩ := h
  have hl := World.block_lt_of_cell? W _ h0
  exact ⟨(hb.cell hl).trans h0, (hb.cell (p := ⟨B, 1, none⟩) hl).trans h1, (hb.cell (p := ⟨B, 2, none⟩) hl).trans h2, (hb.cell (p := ⟨B, 3, none⟩) hl).trans h3, h4.trans (hb.mono (by simp at hl; omega))⟩
def ethV (to fr k : Int) (b : ByteArray) : Value := .agg #[.int .i64 to, .int .i64 fr, .int .i64 k, .string b]
def ethB (to fr k : Int) (b : ByteArray) : ByteArray := if isMac to && isMac fr && inR k 0 65535 && decide (b.size ≤ 60) then strOf (be 6 to.toNat ++ (be 6 fr.toNat ++ (be 2 k.toNat ++ b.data.toList))) else ⟨#[]⟩
theorem ethB_1 {to fr k : Int} {b : ByteArray} (h : isMac to = false) : ethB to fr k b = ⟨#[]⟩ := by rw [ethB, h]; rfl
theorem ethB_2 {to fr k : Int} {b : ByteArray} (h : isMac fr = false) : ethB to fr k b = ⟨#[]⟩ := by rw [ethB, h]; simp
theorem ethB_3 {to fr k : Int} {b : ByteArray} (h : inR k 0 65535 = false) : ethB to fr k b = ⟨#[]⟩ := by rw [ethB, h]; simp
theorem ethB_4 {to fr k : Int} {b : ByteArray} (h : ¬ b.size ≤ 60) : ethB to fr k b = ⟨#[]⟩ := by rw [ethB, decide_eq_false h]; simp
theorem ethB_0 {to fr k : Int} {b : ByteArray} (h1 : isMac to = true) (h2 : isMac fr = true) (h3 : inR k 0 65535 = true) (h : b.size ≤ 60) : ethB to fr k b = strOf (be 6 to.toNat ++ (be 6 fr.toNat ++ (be 2 k.toNat ++ b.data.toList))) := by
  rw [ethB, h1, h2, h3, decide_eq_true h]; rfl
theorem app_strs (x y : List UInt8) : strOf x ++ strOf y = strOf (x ++ y) := by rw [app_strOf, strOf_list, strOf_list]

def vxB (vni : Int) (t : ByteArray) : ByteArray := if isVni vni && decide (t.size ≤ 74) then strOf ([8, 0, 0, 0] ++ (be 3 vni.toNat ++ ([0] ++ t.data.toList))) else ⟨#[]⟩
theorem vxB_1 {vni : Int} {t : ByteArray} (h : isVni vni = false) : vxB vni t = ⟨#[]⟩ := by rw [vxB, h]; rfl
theorem vxB_2 {vni : Int} {t : ByteArray} (h : ¬ t.size ≤ 74) : vxB vni t = ⟨#[]⟩ := by rw [vxB, decide_eq_false h]; simp
theorem vxB_0 {vni : Int} {t : ByteArray} (h1 : isVni vni = true) (h : t.size ≤ 74) : vxB vni t = strOf ([8, 0, 0, 0] ++ (be 3 vni.toNat ++ ([0] ++ t.data.toList))) := by rw [vxB, h1, decide_eq_true h]; rfl
def vxOutV (v : Int) (t : ByteArray) (c : Int) : Value := .agg #[.int .i64 v, .string t, .int .i64 c]
def ethOutV (to fr k : Int) (b : ByteArray) (c : Int) : Value := .agg #[.int .i64 to, .int .i64 fr, .int .i64 k, .string b, .int .i64 c]
def numAt (s : ByteArray) (a b : Nat) : Nat := num (s.extract a b).data.toList
def ethR (s : ByteArray) : Value := if 8000 < s.size then ethOutV 0 0 0 ⟨#[]⟩ 2 else if s.size < 14 then ethOutV 0 0 0 ⟨#[]⟩ 4 else if 74 < s.size then ethOutV 0 0 0 ⟨#[]⟩ 3 else
  ethOutV (numAt s 0 6 : Nat) (numAt s 6 12 : Nat) (numAt s 12 14 : Nat) (s.extract 14 s.size) 0
theorem ethR_2 (s : ByteArray) (h1 : 8000 < s.size) : ethR s = ethOutV 0 0 0 ⟨#[]⟩ 2 := by rw [ethR, if_pos h1]
theorem ethR_4 (s : ByteArray) (h1 : ¬ 8000 < s.size) (h2 : s.size < 14) : ethR s = ethOutV 0 0 0 ⟨#[]⟩ 4 := by rw [ethR, if_neg h1, if_pos h2]
theorem ethR_3 (s : ByteArray) (h1 : ¬ 8000 < s.size) (h2 : ¬ s.size < 14) (h3 : 74 < s.size) : ethR s = ethOutV 0 0 0 ⟨#[]⟩ 3 := by rw [ethR, if_neg h1, if_neg h2, if_pos h3]
theorem ethR_0 (s : ByteArray) (h1 : ¬ 8000 < s.size) (h2 : ¬ s.size < 14) (h3 : ¬ 74 < s.size) : ethR s = ethOutV (numAt s 0 6 : Nat) (numAt s 6 12 : Nat) (numAt s 12 14 : Nat) (s.extract 14 s.size) 0 := by
  rw [ethR, if_neg h1, if_neg h2, if_neg h3]
end Go.Proofs.Ythhodnkcaefnnaa
