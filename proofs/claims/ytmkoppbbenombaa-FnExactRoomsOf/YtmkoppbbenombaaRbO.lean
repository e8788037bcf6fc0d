/- RoutesOf, of the model and of the program. -/
import Derived.Test.YtmkoppbbenombaaRbI
import Derived.Test.YtmkoppbbenombaaApR
import Derived.Test.YtmkoppbbenombaaRRt
namespace Go.Proofs.Ytmkoppbbenombaa
open Go.RowKit

def routesL (l : List Hd) : List Rt := l.map Hd.r
def routesOf (l : List Hd) : List Rt := if ribOk l = true then routesL l else []
theorem routesL_succ (l : List Hd) (i : Nat) (hi : i < l.length) : routesL (l.take (i + 1)) = routesL (l.take i) ++ [(l[i]).r] := by
  rw [routesL, List.take_succ_eq_append_getElem hi, List.map_append]; rfl
theorem routesL_len (l : List Hd) (i : Nat) (hi : i ≤ l.length) : (routesL (l.take i)).length = i := by simp [routesL, hi]
theorem ribOk_len {l : List Hd} (h : ribOk l = true) : l.length ≤ 60 := by
  unfold ribOk at h
  rw [Bool.and_eq_true] at h
  exact of_decide_eq_true h.1
theorem routesOf_len (l : List Hd) : (routesOf l).length ≤ 60 := by
  unfold routesOf
  split
  · rename_i h; rw [routesL, List.length_map]; exact ribOk_len h
  · simp
set_option maxRecDepth 100000 in
set_option maxHeartbeats 4000000 in
theorem specRoutesIn_any (l : List Hd) (v : Value) (w : World) (h : HdsAt w v l) (hn : l.length ≤ 60) :
    Calls Try.prog 81 #[v] w (RowPost Rt.cl 35 7 (routesL l) w) := by
  unfold RowPost
  have HZ : Hid (routesL l = routesL (l.take l.length)) := Lib.hid (by rw [List.take_length])
  obtain ⟨a, cap, rfl, h⟩ := h
  rw [List.length_map] at *
  have HH := Lib.hid h
  clear h
  have HLn := Lib.hid (fun i hi => routesL_len l i hi)
  have HSc := Lib.hid (fun i hi => routesL_succ l i hi)
  obtain ⟨n, hnn⟩ : ∃ n, n = l.length := ⟨_, rfl⟩
  rw [← hnn] at hn HZ ⊢
  have HN := Lib.hid hnn
  clear hnn
  have HO0 : Hid ((w.alloc (.cells #[] 35)).ownsRow w.heap.size 35 7 (.slice (some ⟨w.heap.size, 0, none⟩) 0 0) (routesL (l.take 0)).length (rcells Rt.cl (routesL (l.take 0)))) := Lib.hid (World.ownsRow_lit (base := w.heap.size) (e := 35) (size := 7) w #[] 0 (by simp) (Nat.zero_le _) rfl)
  go_enter Try.func81, Try.ntmps81
  go_wp2_with fail
  go_loopw [4, 3] (fun u y wr => ∃ i : Nat, i ≤ n ∧ u = .int .i64 (i : Int) ∧ Hid (wr.ownsRow w.heap.size 35 7 y (routesL (l.take i)).length (rcells Rt.cl (routesL (l.take i)))) ∧ Hid (Below w.heap.size w wr)) (fun u _ _ => n - (intOf u).toNat)
  case atStart => exact ⟨0, Nat.zero_le _, rfl, HO0, Lib.hid ((Below.refl _ _).alloc (Nat.le_refl _) _)⟩
  case round =>
    obtain ⟨i, hi, rfl, HO, HB⟩ := hrel
    by_cases hlt : i < n
    · have hir : i < l.length := by rw [← HN.out]; exact hlt
      have hne : l.map Hd.cl ≠ [] := fun e => by
        have := congrArg List.length e
        rw [List.length_map, ← HN.out] at this
        simp at this; omega
      obtain ⟨b, off, ha, hb, HE⟩ := HH.out hne
      subst ha
      have hl1 : (i : Int) < n := by omega
      obtain ⟨p0, p1, p2, p3, p4, p5, p6, p7, p8⟩ := (elemsB HE HB.out hb).hd i hir
      have HS := Lib.hid (HSc.out i hir)
      have hl60 : (routesL (l.take i)).length ≤ 60 := by rw [HLn.out i (by have := HN.out; omega)]; omega
      clear HE
      generalize l[i] = x at *
      generalize routesL (l.take i) = pre at HO HS hl60
      have hown := HO.out
      obtain ⟨ya, yc, rfl⟩ := rown_form hown
      have hsz1 := HB.out.size
      clear HO
      go_wp2_with (at_builtin; refine wpList_append_row Rt.cl_len Rt.cl_one1 tyR _ rfl _ _ rfl w.heap.size _ pre x.r rfl (hown.alloc _) ⟨wr.heap.size, 0, none⟩ rfl (lit_cells wr _ _ x.r rfl) (by omega) (by simp; omega) ?_; intro a' c' n' w5 HN5 hown5 hg5; have HO5 := Lib.hid hown5; have HB5 : Hid (Below w.heap.size w w5) := Lib.hid (app_below HB.out hsz1 hown hg5); clear hown5 hg5)
      go_roundw
      case rel => exact ⟨i + 1, by omega, by simp, by rw [HS.out, ← HN5.out]; exact HO5, HB5⟩
      case measure => simp [intOf]; omega
    · have hin : i = n := by omega
      subst hin
      obtain ⟨ya, yc, rfl⟩ := rown_form HO.out
      go_wp2_with fail
      go_ret
      exact ⟨_, rfl, by rw [HZ.out]; exact HO.out, HB.out⟩
set_option maxHeartbeats 2000000 in
theorem specRoutesOf_any (l : List Hd) (v : Value) (w : World) (h : HdsAt w v l) (hn : l.length ≤ 1048576) :
    Calls Try.prog 33 #[v] w (RowPost Rt.cl 35 7 (routesOf l) w) := by
  have HRR := Lib.hid (specRibRight_any l v w h hn)
  have HIn := Lib.hid (fun (h60 : l.length ≤ 60) (W' : World) (hb : Below w.heap.size w W') => specRoutesIn_any l v W' (SlAt.kept h hb) h60)
  have HZ1 : Hid (ribOk l = true → routesOf l = routesL l) := Lib.hid (fun h => by rw [routesOf, if_pos h])
  have HZ2 : Hid (ribOk l = false → routesOf l = []) := Lib.hid (fun h => by rw [routesOf, if_neg (by simp [h])])
  have HL := Lib.hid (fun (h : ribOk l = true) => ribOk_len h)
  unfold RowPost at *
  unfold RrPost at HRR
  obtain ⟨a, cap, rfl, _⟩ := h
  rw [List.length_map] at *
  generalize ribOk l = R at *
  generalize routesOf l = RS at *
  cases R
  · have HR := Lib.hid (HZ2.out rfl)
    go_enter Try.func33, Try.ntmps33
    go_wp2_with fail
    refine HRR.out.mono ?_
    rintro e w1 ⟨rfl, hb1⟩
    have HB := Lib.hid hb1
    have HO0 : Hid ((w1.alloc (.cells #[] 35)).ownsRow w.heap.size 35 7 (.slice (some ⟨w1.heap.size, 0, none⟩) 0 0) ([] : List Rt).length (rcells Rt.cl [])) := Lib.hid (rown_mono (World.ownsRow_lit (base := w1.heap.size) (e := 35) (size := 7) w1 #[] 0 (by simp) (Nat.zero_le _) rfl) hb1.size)
    clear hb1
    go_wp2_with fail
    go_ret
    refine ⟨_, rfl, by rw [HR.out]; exact HO0.out, HB.out.alloc HB.out.size _⟩
  · have HR := Lib.hid (HZ1.out rfl)
    have h60 := HL.out rfl
    go_enter Try.func33, Try.ntmps33
    go_wp2_with fail
    refine HRR.out.mono ?_
    rintro e w1 ⟨rfl, hb1⟩
    have HB := Lib.hid hb1
    have HC := Lib.hid (HIn.out h60 w1 hb1)
    clear hb1
    go_wp2_with fail
    refine HC.out.mono ?_
    rintro e w2 ⟨v2, rfl, ho2, hb2⟩
    have HO2 := Lib.hid (rown_mono (B' := w.heap.size) ho2 HB.out.size)
    have HB2 : Hid (Below w.heap.size w w2) := Lib.hid (HB.out.trans (hb2.mono HB.out.size))
    clear ho2 hb2
    go_wp2_with fail
    go_ret
    exact ⟨_, rfl, by rw [HR.out]; exact HO2.out, HB2.out⟩
set_option maxRecDepth 100000 in
set_option maxHeartbeats 4000000 in
theorem implRoutesOf_any (l : List Hd) (v : Value) (w : World) (h : HdsAt w v l) (hnb : l.length ≤ 1048576) :
    Calls Try.prog 34 #[v] w (RowPost Rt.cl 35 7 (routesOf l) w) := by
  have HRR := Lib.hid (implRibRight_any l v w h hnb)
  have HZ1 : Hid (ribOk l = true → routesOf l = routesL (l.take l.length)) := Lib.hid (fun h => by rw [routesOf, if_pos h, List.take_length])
  have HZ2 : Hid (ribOk l = false → routesOf l = []) := Lib.hid (fun h => by rw [routesOf, if_neg (by simp [h])])
  have HL := Lib.hid (fun (h : ribOk l = true) => ribOk_len h)
  unfold RowPost at *
  unfold RrPost at HRR
  obtain ⟨a, cap, rfl, h⟩ := h
  rw [List.length_map] at *
  have HH := Lib.hid h
  clear h
  have HLn := Lib.hid (fun i hi => routesL_len l i hi)
  have HSc := Lib.hid (fun i hi => routesL_succ l i hi)
  generalize ribOk l = R at *
  generalize routesOf l = RS at *
  obtain ⟨n, hnn⟩ : ∃ n, n = l.length := ⟨_, rfl⟩
  rw [← hnn] at hnb HZ1 HL HRR ⊢
  have HN := Lib.hid hnn
  clear hnn
  cases R
  · have HR := Lib.hid (HZ2.out rfl)
    go_enter Try.func34, Try.ntmps34
    go_wp2_with fail
    refine HRR.out.mono ?_
    rintro e w1 ⟨rfl, hb1⟩
    have HB := Lib.hid hb1
    clear hb1
    go_wp2_with fail
    go_ret
    exact ⟨_, rfl, by rw [HR.out]; exact World.ownsRow_nil _ _ _ _, HB.out⟩
  have HR := Lib.hid (HZ1.out rfl)
  have hn := HL.out rfl
  go_enter Try.func34, Try.ntmps34
  go_wp2_with fail
  refine HRR.out.mono ?_
  rintro e w1 ⟨rfl, hb1⟩
  have HB1 := Lib.hid hb1
  clear hb1
  go_wp2_with fail
  go_loopw [11, 3, 5] (fun u y _ wr => ∃ i : Nat, i ≤ n ∧ u = .int .i64 (i : Int) ∧ Hid (wr.ownsRow w.heap.size 35 7 y (routesL (l.take i)).length (rcells Rt.cl (routesL (l.take i)))) ∧ Hid (Below w.heap.size w wr)) (fun u _ _ _ => n - (intOf u).toNat)
  case atStart => exact ⟨0, Nat.zero_le _, rfl, Lib.hid (World.ownsRow_nil _ _ _ _), HB1⟩
  case round =>
    obtain ⟨i, hi, rfl, HO, HB⟩ := hrel
    by_cases hlt : i < n
    · have hir : i < l.length := by rw [← HN.out]; exact hlt
      have hne : l.map Hd.cl ≠ [] := fun e => by
        have := congrArg List.length e
        rw [List.length_map, ← HN.out] at this
        simp at this; omega
      obtain ⟨b, off, ha, hb, HE⟩ := HH.out hne
      subst ha
      have hl1 : (i : Int) < n := by omega
      obtain ⟨p0, p1, p2, p3, p4, p5, p6, p7, p8⟩ := (elemsB HE HB.out hb).hd i hir
      have HS := Lib.hid (HSc.out i hir)
      have hl60 : (routesL (l.take i)).length ≤ 60 := by rw [HLn.out i (by have := HN.out; omega)]; omega
      have S0 : Blk (wr.alloc (.cells (l[i]).ar 77)) wr.heap.size 77 (l[i]).ar ∧ Below w.heap.size w (wr.alloc (.cells (l[i]).ar 77)) := ⟨Blk.new _ _ _, HB.out.alloc HB.out.size _⟩
      have hown := HO.out.alloc (.cells (l[i]).ar 77)
      unfold Hd.ar at S0 hown
      clear HE
      generalize l[i] = x at *
      generalize routesL (l.take i) = pre at HO HS hl60 hown
      obtain ⟨ya, yc, rfl⟩ := rown_form hown
      clear HO
      go_upto_region 7 with fail
      generalize (wr.alloc (.cells #[.int .i64 x.p, .bool x.s, .int .i64 x.r.kind, .int .i64 x.r.vni, .int .i64 x.r.mac, .int .i64 x.r.ip, .int .i64 x.r.org, .int .i64 x.r.seq, .bool x.r.st] 77)) = W6 at S0 hown ⊢
      clear p0 p1 p2 p3 p4 p5 p6 p7 p8
      have hc := S0.1.cell
      have hsz1 := S0.2.size
      go_wp2_with (at_builtin; refine wpList_append_row Rt.cl_len Rt.cl_one1 tyR _ rfl _ _ rfl w.heap.size _ pre x.r rfl (hown.alloc _) ⟨W6.heap.size, 0, none⟩ rfl (lit_cells W6 _ _ x.r rfl) (by omega) (by simp; omega) ?_; intro a' c' n' w5 HN5 hown5 hg5; have HO5 := Lib.hid hown5; have HB5 : Hid (Below w.heap.size w w5) := Lib.hid (app_below S0.2 hsz1 hown hg5); clear hown5 hg5)
      go_roundw
      case rel => exact ⟨i + 1, by omega, by simp, by rw [HS.out, ← HN5.out]; exact HO5, HB5⟩
      case measure => simp [intOf]; omega
    · have hin : i = n := by omega
      subst hin
      obtain ⟨ya, yc, rfl⟩ := rown_form HO.out
      go_wp2_with fail
      go_ret
      exact ⟨_, rfl, by rw [HR.out]; exact HO.out, HB.out⟩
end Go.Proofs.Ytmkoppbbenombaa
