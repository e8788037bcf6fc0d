/- The model's ARP messages and encapsulations. -/
import Derived.Test.YthhodnkcaefnnaaEthS
namespace Go.Proofs.Ythhodnkcaefnnaa
open Go.RowKit
attribute [local go_sem ↓] Go.wp_at_zero Go.wp_at_succ

theorem keep5 {B : Nat} {w W W' : World} {v0 v1 v2 v3 v4 : Value} (h : W.cell? ⟨B, 0, none⟩ = some v0 ∧ W.cell? ⟨B, 1, none⟩ = some v1 ∧ W.cell? ⟨B, 2, none⟩ = some v2 ∧ W.cell? ⟨B, 3, none⟩ = some v3 ∧ W.cell? ⟨B, 4, none⟩ = some v4 ∧ Below B w W) (hb : Below W.heap.size W W') :
    W'.cell? ⟨B, 0, none⟩ = some v0 ∧ W'.cell? ⟨B, 1, none⟩ = some v1 ∧ W'.cell? ⟨B, 2, none⟩ = some v2 ∧ W'.cell? ⟨B, 3, none⟩ = some v3 ∧ W'.cell? ⟨B, 4, none⟩ = some v4 ∧ Below B w W' := by
  obtain ⟨h0, h1, h2, h3, h4, h5⟩ := h
  have hl := World.block_lt_of_cell? W _ h0
  exact ⟨(hb.cell hl).trans h0, (hb.cell (p := ⟨B, 1, none⟩) hl).trans h1, (hb.cell (p := ⟨B, 2, none⟩) hl).trans h2, (hb.cell (p := ⟨B, 3, none⟩) hl).trans h3, (hb.cell (p := ⟨B, 4, none⟩) hl).trans h4, h5.trans (hb.mono (by simp at hl; omega))⟩
def arpV (op mac ip tm ti : Int) : Value := .agg #[.int .i64 op, .int .i64 mac, .int .i64 ip, .int .i64 tm, .int .i64 ti]
def arpOk (op mac ip tm ti : Int) : Bool := inR op 1 2 && isMac mac && isMac tm && isIp ip && isIp ti
def arpB (op mac ip tm ti : Int) : ByteArray := if arpOk op mac ip tm ti then strOf ([0, 1, 8, 0, 6, 4] ++ (be 2 op.toNat ++ (be 6 mac.toNat ++ (be 4 ip.toNat ++ (be 6 tm.toNat ++ be 4 ti.toNat))))) else ⟨#[]⟩
theorem arpB_1 {op mac ip tm ti : Int} (h : inR op 1 2 = false) : arpB op mac ip tm ti = ⟨#[]⟩ := by rw [arpB, arpOk, h]; simp
theorem arpB_2 {op mac ip tm ti : Int} (h : isMac mac = false) : arpB op mac ip tm ti = ⟨#[]⟩ := by rw [arpB, arpOk, h]; simp
theorem arpB_3 {op mac ip tm ti : Int} (h : isMac tm = false) : arpB op mac ip tm ti = ⟨#[]⟩ := by rw [arpB, arpOk, h]; simp
theorem arpB_4 {op mac ip tm ti : Int} (h : isIp ip = false) : arpB op mac ip tm ti = ⟨#[]⟩ := by rw [arpB, arpOk, h]; simp
theorem arpB_5 {op mac ip tm ti : Int} (h : isIp ti = false) : arpB op mac ip tm ti = ⟨#[]⟩ := by rw [arpB, arpOk, h]; simp
theorem arpB_0 {op mac ip tm ti : Int} (h1 : inR op 1 2 = true) (h2 : isMac mac = true) (h3 : isMac tm = true) (h4 : isIp ip = true) (h5 : isIp ti = true) : arpB op mac ip tm ti = strOf ([0, 1, 8, 0, 6, 4] ++ (be 2 op.toNat ++ (be 6 mac.toNat ++ (be 4 ip.toNat ++ (be 6 tm.toNat ++ be 4 ti.toNat))))) := by rw [arpB, arpOk, h1, h2, h3, h4, h5]; rfl

def vxR (s : ByteArray) : Value := if 8000 < s.size then vxOutV 0 ⟨#[]⟩ 2 else if s.size < 8 then vxOutV 0 ⟨#[]⟩ 4 else
  if (vxB (numAt s 4 7 : Nat) (s.extract 8 s.size)).toList == s.toList then vxOutV (numAt s 4 7 : Nat) (s.extract 8 s.size) 0 else vxOutV 0 ⟨#[]⟩ 3
theorem vxR_2 (s : ByteArray) (h1 : 8000 < s.size) : vxR s = vxOutV 0 ⟨#[]⟩ 2 := by rw [vxR, if_pos h1]
theorem vxR_4 (s : ByteArray) (h1 : ¬ 8000 < s.size) (h2 : s.size < 8) : vxR s = vxOutV 0 ⟨#[]⟩ 4 := by rw [vxR, if_neg h1, if_pos h2]
theorem vxR_3 (s : ByteArray) (h1 : ¬ 8000 < s.size) (h2 : ¬ s.size < 8) (h3 : ((vxB (numAt s 4 7 : Nat) (s.extract 8 s.size)).toList == s.toList) = false) : vxR s = vxOutV 0 ⟨#[]⟩ 3 := by rw [vxR, if_neg h1, if_neg h2, h3]; rfl
theorem vxR_0 (s : ByteArray) (h1 : ¬ 8000 < s.size) (h2 : ¬ s.size < 8) (h3 : ((vxB (numAt s 4 7 : Nat) (s.extract 8 s.size)).toList == s.toList) = true) : vxR s = vxOutV (numAt s 4 7 : Nat) (s.extract 8 s.size) 0 := by rw [vxR, if_neg h1, if_neg h2, h3]; rfl
end Go.Proofs.Ythhodnkcaefnnaa
