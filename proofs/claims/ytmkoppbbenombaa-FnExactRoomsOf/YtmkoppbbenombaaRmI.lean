/- RoomsOf of the program. -/
import Derived.Test.YtmkoppbbenombaaRmC
import Derived.Test.YtmkoppbbenombaaRbI
namespace Go.Proofs.Ytmkoppbbenombaa
open Go.RowKit

set_option maxRecDepth 100000 in
set_option maxHeartbeats 4000000 in
theorem implRoomsOf_any (l : List Hd) (v : Value) (vni but : Int) (w : World) (h : HdsAt w v l) (hnb : l.length ≤ 1048576) :
    Calls Try.prog 39 #[v, .int .i64 vni, .int .i64 but] w (RowPost clI 2 1 (roomsOf l vni but) w) := by
  have HRR := Lib.hid (implRibRight_any l v w h hnb)
  have HVn := Lib.hid (fun W => implVni_any vni W)
  have HZ1 : Hid (ribOk l = true → isVni vni = true → roomsOf l vni but = Lib.compact (sortL (outL (l.take l.length) vni but))) := Lib.hid (fun h h2 => by rw [roomsOf_ok h h2, List.take_length, rooms_eq h])
  have HZ2 : Hid (ribOk l = false → roomsOf l vni but = []) := Lib.hid (fun h => roomsOf_rib h)
  have HZ3 : Hid (isVni vni = false → roomsOf l vni but = []) := Lib.hid (fun h => roomsOf_vni h)
  have HL := Lib.hid (fun (h : ribOk l = true) => ribOk_len h)
  unfold RowPost at *
  unfold RrPost at HRR
  obtain ⟨a, cap, rfl, h⟩ := h
  rw [List.length_map] at *
  have HH := Lib.hid h
  clear h
  have HLn := Lib.hid (fun i => outL_len l vni but i)
  have HSc := Lib.hid (fun i hi => outL_succ l vni but i hi)
  have HO0 : Hid (outL (l.take 0) vni but = []) := Lib.hid rfl
  have HSL := Lib.hid sortL_len
  generalize ribOk l = R at *
  generalize isVni vni = V at *
  generalize roomsOf l vni but = RS at *
  obtain ⟨n, hnn⟩ : ∃ n, n = l.length := ⟨_, rfl⟩
  rw [← hnn] at hnb HZ1 HL HRR HLn ⊢
  have HN := Lib.hid hnn
  clear hnn
  cases R
  · have HR := Lib.hid (HZ2.out rfl)
    go_enter Try.func39, Try.ntmps39
    go_wp2_with fail
    refine HRR.out.mono ?_
    rintro e w1 ⟨rfl, hb1⟩
    have HB := Lib.hid hb1
    clear hb1
    go_wp2_with fail
    go_ret
    exact ⟨_, rfl, by rw [HR.out]; exact World.ownsRow_nil _ _ _ _, HB.out⟩
  cases V
  · have HR := Lib.hid (HZ3.out rfl)
    go_enter Try.func39, Try.ntmps39
    go_wp2_with fail
    refine HRR.out.mono ?_
    rintro e w1 ⟨rfl, hb1⟩
    have HB := Lib.hid hb1
    clear hb1
    go_wp2_with fail
    refine (HVn.out _).mono ?_
    rintro e w2 ⟨rfl, rfl⟩
    go_wp2_with fail
    go_ret
    exact ⟨_, rfl, by rw [HR.out]; exact World.ownsRow_nil _ _ _ _, HB.out⟩
  have HR := Lib.hid (HZ1.out rfl rfl)
  have hn := HL.out rfl
  go_enter Try.func39, Try.ntmps39
  go_wp2_with fail
  refine HRR.out.mono ?_
  rintro e w1 ⟨rfl, hb1⟩
  have HB1 := Lib.hid hb1
  clear hb1
  go_wp2_with fail
  refine (HVn.out _).mono ?_
  rintro e w2 ⟨rfl, rfl⟩
  go_wp2_with fail
  go_loopw [21, 7, 9, 10] (fun u y _ _ wr => ∃ i : Nat, i ≤ n ∧ u = .int .i64 (i : Int) ∧ Hid (wr.ownsRow w.heap.size 2 1 y (outL (l.take i) vni but).length (rcells clI (outL (l.take i) vni but))) ∧ Hid (Below w.heap.size w wr)) (fun u _ _ _ _ => n - (intOf u).toNat)
  case atStart => exact ⟨0, Nat.zero_le _, rfl, Lib.hid (by rw [HO0.out]; exact World.ownsRow_nil _ _ _ _), HB1⟩
  case round =>
    obtain ⟨i, hi, rfl, HO, HB⟩ := hrel
    by_cases hlt : i < n
    · have hir : i < l.length := by rw [← HN.out]; exact hlt
      have hne : l.map Hd.cl ≠ [] := fun e => by
        have := congrArg List.length e
        rw [List.length_map, ← HN.out] at this
        simp at this; omega
      obtain ⟨b, off, ha, hb, HE⟩ := HH.out hne
      subst ha
      have hl1 : (i : Int) < n := by omega
      obtain ⟨p0, p1, p2, p3, p4, p5, p6, p7, p8⟩ := (elemsB HE HB.out hb).hd i hir
      have HS := Lib.hid (HSc.out i hir)
      have hl60 : (outL (l.take i) vni but).length ≤ 60 := by have := HLn.out i; omega
      have S0 : Blk (wr.alloc (.cells (l[i]).ar 77)) wr.heap.size 77 (l[i]).ar ∧ Below w.heap.size w (wr.alloc (.cells (l[i]).ar 77)) := ⟨Blk.new _ _ _, HB.out.alloc HB.out.size _⟩
      have hown := HO.out.alloc (.cells (l[i]).ar 77)
      unfold Hd.ar at S0 hown
      clear HE
      generalize l[i] = x at *
      obtain ⟨pre', hpre'⟩ : ∃ p, p = outL (l.take (i + 1)) vni but := ⟨_, rfl⟩
      rw [← hpre'] at HS
      have HPE := Lib.hid hpre'
      clear hpre'
      generalize outL (l.take i) vni but = pre at *
      obtain ⟨y0, y1, x0, x1, x2, x3, x4, x5, x6⟩ := x
      dsimp only at *
      obtain ⟨ya, yc, rfl⟩ := rown_form hown
      clear HO
      go_upto_region 7 with fail
      generalize (wr.alloc (.cells #[.int .i64 y0, .bool y1, .int .i64 x0, .int .i64 x1, .int .i64 x2, .int .i64 x3, .int .i64 x4, .int .i64 x5, .bool x6] 77)) = W6 at S0 hown ⊢
      clear p0 p1 p2 p3 p4 p5 p6 p7 p8
      have hc := S0.1.cell
      have S1 : Blk (W6.alloc (.cells #[.int .i64 x0, .int .i64 x1, .int .i64 x2, .int .i64 x3, .int .i64 x4, .int .i64 x5, .bool x6] 35)) W6.heap.size 35 #[.int .i64 x0, .int .i64 x1, .int .i64 x2, .int .i64 x3, .int .i64 x4, .int .i64 x5, .bool x6] ∧ Below w.heap.size w (W6.alloc (.cells #[.int .i64 x0, .int .i64 x1, .int .i64 x2, .int .i64 x3, .int .i64 x4, .int .i64 x5, .bool x6] 35)) := ⟨Blk.new _ _ _, S0.2.alloc S0.2.size _⟩
      replace hown := hown.alloc (.cells #[.int .i64 x0, .int .i64 x1, .int .i64 x2, .int .i64 x3, .int .i64 x4, .int .i64 x5, .bool x6] 35)
      go_upto_region 8 with fail
      generalize W6.alloc (.cells #[.int .i64 x0, .int .i64 x1, .int .i64 x2, .int .i64 x3, .int .i64 x4, .int .i64 x5, .bool x6] 35) = W7 at S1 hown ⊢
      clear hc S0
      have hc := S1.1.cell
      have hsz1 := S1.2.size
      have HB7 := Lib.hid S1.2
      have HOW := Lib.hid hown
      by_cases h1 : x0 = 3
      · by_cases h2 : x1 = vni
        · by_cases h3 : x4 = but
          · have HS1 : Hid (pre' = pre) := Lib.hid (by have := HS.out; simpa [h3] using this)
            subst h1 h2 h3
            clear HS hown
            go_wp2_with fail
            go_roundw
            case rel => exact ⟨i + 1, by omega, by simp, by rw [← HPE.out, HS1.out]; exact HOW, HB7⟩
            case measure => simp [intOf]; omega
          · have HS1 : Hid (pre' = pre ++ [x4]) := Lib.hid (by have := HS.out; simpa [h1, h2, h3] using this)
            subst h1 h2
            clear HS HOW
            go_wp2_with (at_builtin; refine wpList_append_row clI_len clI_one tyI _ rfl _ _ rfl w.heap.size _ pre x4 rfl (hown.alloc _) ⟨W7.heap.size, 0, none⟩ rfl (lit_cells W7 #[.int .i64 x4] 2 x4 rfl) (by omega) (by simp; omega) ?_; intro a' c' n' w5 HN5 hown5 hg5; have HO5 := Lib.hid hown5; have HB5 : Hid (Below w.heap.size w w5) := Lib.hid (app_below S1.2 hsz1 hown hg5); clear hown5 hg5)
            go_roundw
            case rel => exact ⟨i + 1, by omega, by simp, by rw [← HPE.out, HS1.out, ← HN5.out]; exact HO5, HB5⟩
            case measure => simp [intOf]; omega
        · have HS1 : Hid (pre' = pre) := Lib.hid (by have := HS.out; simpa [h2] using this)
          subst h1
          clear HS hown
          go_wp2_with fail
          go_roundw
          case rel => exact ⟨i + 1, by omega, by simp, by rw [← HPE.out, HS1.out]; exact HOW, HB7⟩
          case measure => simp [intOf]; omega
      · have HS1 : Hid (pre' = pre) := Lib.hid (by have := HS.out; simpa [h1] using this)
        clear HS hown
        go_wp2_with fail
        go_roundw
        case rel => exact ⟨i + 1, by omega, by simp, by rw [← HPE.out, HS1.out]; exact HOW, HB7⟩
        case measure => simp [intOf]; omega
    · have hin : i = n := by omega
      subst hin
      have hl60 : (outL (l.take i) vni but).length ≤ 60 := by have := HLn.out i; omega
      generalize outL (l.take i) vni but = D at *
      have hls := HSL.out D
      obtain ⟨ya, yc, rfl⟩ := rown_form HO.out
      go_wp2_with fail
      refine (sortI_any _ _ D _ HO.out (by omega)).mono ?_
      rintro e w3 ⟨rfl, ho3, hg3⟩
      have HB3 : Hid (Below w.heap.size w w3) := Lib.hid (HB.out.grown hg3 HB.out.size (fun k hk => (HO.out.lt k hk).1))
      rw [hls] at ho3
      have HO3 : Hid (w3.ownsRow w.heap.size 2 1 (.slice ya D.length yc) (sortL D).length (rcells clI (sortL D))) := Lib.hid (by rw [hls]; exact ho3)
      clear ho3 hg3 HO
      go_wp2_with fail
      refine (compactI_any _ _ (sortL D) _ HO3.out (by omega)).mono ?_
      rintro e w4 ⟨u, rfl, ho4, hg4⟩
      have HB4 : Hid (Below w.heap.size w w4) := Lib.hid (HB3.out.grown hg4 HB3.out.size (fun k hk => (HO3.out.lt k hk).1))
      have HO4 := Lib.hid ho4
      obtain ⟨ua, uc, rfl⟩ := rown_form ho4
      clear ho4 hg4 HO3
      go_wp2_with fail
      go_ret
      exact ⟨_, rfl, by rw [HR.out]; exact HO4.out, HB4.out⟩
end Go.Proofs.Ytmkoppbbenombaa
