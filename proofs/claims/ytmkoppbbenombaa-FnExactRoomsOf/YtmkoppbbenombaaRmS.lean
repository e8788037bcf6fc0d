/- RoomsOf of the model. -/
import Derived.Test.YtmkoppbbenombaaRmM
import Derived.Test.YtmkoppbbenombaaRbI
namespace Go.Proofs.Ytmkoppbbenombaa
open Go.RowKit

set_option maxRecDepth 100000 in
set_option maxHeartbeats 4000000 in
theorem specRoomsIn_any (l : List Hd) (v : Value) (vni but : Int) (w : World) (h : HdsAt w v l) (hn : l.length ≤ 60) :
    Calls Try.prog 84 #[v, .int .i64 vni, .int .i64 but] w (RowPost clI 2 1 (roomsP l vni but 4) w) := by
  unfold RowPost
  obtain ⟨a, cap, rfl, h⟩ := h
  rw [List.length_map] at *
  have HH := Lib.hid h
  clear h
  have HZ : Hid (∀ h : Int, hasRoom l vni h = hasRoom (l.take l.length) vni h) := Lib.hid (fun h => by rw [List.take_length])
  have HSc := Lib.hid (fun (h : Int) i hi => hasRoom_succ l vni h i hi)
  have HR0 : Hid (∀ h : Int, hasRoom (l.take 0) vni h = false) := Lib.hid (fun h => rfl)
  have HHit := Lib.hid (fun (i : Nat) (hi : i < 4) (h1 : hasRoom l vni ((i : Int) + 1) = true) (h2 : ¬ (i : Int) + 1 = but) => roomsP_hit (l := l) (v := vni) (b := but) hi h1 h2)
  have HNo := Lib.hid (fun (i : Nat) (hi : i < 4) (h1 : hasRoom l vni ((i : Int) + 1) = false) => roomsP_no (b := but) hi h1)
  have HBut := Lib.hid (fun (i : Nat) (hi : i < 4) (h1 : (i : Int) + 1 = but) => roomsP_but (l := l) (v := vni) hi h1)
  have HLn := Lib.hid (fun i => roomsP_len l vni but i)
  have HP0 : Hid (roomsP l vni but 0 = []) := Lib.hid rfl
  generalize roomsP l vni but = RP at *
  obtain ⟨n, hnn⟩ : ∃ n, n = l.length := ⟨_, rfl⟩
  rw [← hnn] at hn HZ ⊢
  have HN := Lib.hid hnn
  clear hnn
  have HO0 : Hid ((w.alloc (.cells #[] 2)).ownsRow w.heap.size 2 1 (.slice (some ⟨w.heap.size, 0, none⟩) 0 0) (RP 0).length (rcells clI (RP 0))) := Lib.hid (by rw [HP0.out]; exact World.ownsRow_lit (base := w.heap.size) (e := 2) (size := 1) w #[] 0 (by simp) (Nat.zero_le _) rfl)
  go_enter Try.func84, Try.ntmps84
  go_wp2_with fail
  go_loopw [8, 7, 9, 10, 11] (fun u y _ _ _ wr => ∃ i : Nat, i ≤ 4 ∧ u = .int .i64 ((i : Int) + 1) ∧ Hid (wr.ownsRow w.heap.size 2 1 y (RP i).length (rcells clI (RP i))) ∧ Hid (Below w.heap.size w wr)) (fun u _ _ _ _ _ => 5 - (intOf u).toNat)
  case atStart => exact ⟨0, Nat.zero_le _, rfl, HO0, Lib.hid ((Below.refl _ _).alloc (Nat.le_refl _) _)⟩
  case round =>
    clear HO0
    obtain ⟨i, hi, rfl, HO, HB⟩ := hrel
    by_cases hlt : i < 4
    · have hl1 : (i : Int) + 1 ≤ 4 := by omega
      obtain ⟨q, hq⟩ : ∃ q : Int, q = (i : Int) + 1 := ⟨_, rfl⟩
      have HHi := Lib.hid (HHit.out i hlt)
      have HNi := Lib.hid (HNo.out i hlt)
      have HBi := Lib.hid (HBut.out i hlt)
      rw [← hq] at hl1 HHi HNi HBi ⊢
      have HQ := Lib.hid hq
      have hq0 : 1 ≤ q := by omega
      have hwq : IntKind.i64.wrap (q + 1) = q + 1 := by simp only [IntKind.wrap_i64]; omega
      clear hq
      obtain ⟨ya, yc, rfl⟩ := rown_form HO.out
      rename World => W0
      go_wp2_with fail
      go_loopw [10, 9, 11] (fun u x _ wr => ∃ j : Nat, j ≤ n ∧ u = .int .i64 (j : Int) ∧ x = .bool (hasRoom (l.take j) vni q) ∧ Hid (Below W0.heap.size W0 wr)) (fun u _ _ _ => n - (intOf u).toNat)
      case atStart => exact ⟨0, Nat.zero_le _, rfl, by rw [HR0.out], Lib.hid (Below.refl _ _)⟩
      case round =>
        obtain ⟨j, hj, rfl, rfl, HB2⟩ := hrel
        by_cases hjn : j < n
        · have hjr : j < l.length := by rw [← HN.out]; exact hjn
          have hne : l.map Hd.cl ≠ [] := fun e => by
            have := congrArg List.length e
            rw [List.length_map, ← HN.out] at this
            simp at this; omega
          obtain ⟨b, off, ha, hb, HE⟩ := HH.out hne
          subst ha
          have hl2 : (j : Int) < n := by omega
          have HB3 : Below w.heap.size w wr := HB.out.trans (HB2.out.mono HB.out.size)
          obtain ⟨_, _, p2, p3, p4, p5, p6, p7, p8⟩ := (elemsB HE HB3 hb).hd j hjr
          have HS := Lib.hid (HSc.out q j hjr)
          have HBn : Hid (Below W0.heap.size W0 (wr.alloc (.cells #[.int .i64 (l[j]).r.kind, .int .i64 (l[j]).r.vni, .int .i64 (l[j]).r.mac, .int .i64 (l[j]).r.ip, .int .i64 (l[j]).r.org, .int .i64 (l[j]).r.seq, .bool (l[j]).r.st] 35))) := Lib.hid (HB2.out.alloc HB2.out.size _)
          have S0 : Blk (wr.alloc (.cells #[.int .i64 (l[j]).r.kind, .int .i64 (l[j]).r.vni, .int .i64 (l[j]).r.mac, .int .i64 (l[j]).r.ip, .int .i64 (l[j]).r.org, .int .i64 (l[j]).r.seq, .bool (l[j]).r.st] 35)) wr.heap.size 35 #[.int .i64 (l[j]).r.kind, .int .i64 (l[j]).r.vni, .int .i64 (l[j]).r.mac, .int .i64 (l[j]).r.ip, .int .i64 (l[j]).r.org, .int .i64 (l[j]).r.seq, .bool (l[j]).r.st] := Blk.new _ _ _
          clear HE HB3
          generalize l[j] = x at *
          obtain ⟨R', hR'⟩ : ∃ R', R' = hasRoom (l.take (j + 1)) vni q := ⟨_, rfl⟩
          rw [← hR'] at HS
          have HRE := Lib.hid hR'
          clear hR'
          generalize hasRoom (l.take j) vni q = R at *
          obtain ⟨_, _, x0, x1, x2, x3, x4, x5, x6⟩ := x
          dsimp only at *
          go_upto_region 10 with fail
          generalize wr.alloc (.cells #[.int .i64 x0, .int .i64 x1, .int .i64 x2, .int .i64 x3, .int .i64 x4, .int .i64 x5, .bool x6] 35) = W6 at *
          clear p2 p3 p4 p5 p6 p7 p8
          have c0 := S0.cell
          cases R
          · by_cases h1 : x0 = 3
            · by_cases h2 : x1 = vni
              · have HS1 : Hid (R' = decide (x4 = q)) := Lib.hid (by have := HS.out; simpa [h1, h2] using this)
                subst h1 h2
                clear HS
                go_wp2_with fail
                go_roundw
                case rel => exact ⟨j + 1, by omega, by simp, by rw [← HRE.out, HS1.out]; rfl, HBn⟩
                case measure => simp [intOf]; omega
              · have HS1 : Hid (R' = false) := Lib.hid (by have := HS.out; simpa [h2] using this)
                subst h1
                clear HS
                go_wp2_with fail
                go_roundw
                case rel => exact ⟨j + 1, by omega, by simp, by rw [← HRE.out, HS1.out], HBn⟩
                case measure => simp [intOf]; omega
            · have HS1 : Hid (R' = false) := Lib.hid (by have := HS.out; simpa [h1] using this)
              clear HS
              go_wp2_with fail
              go_roundw
              case rel => exact ⟨j + 1, by omega, by simp, by rw [← HRE.out, HS1.out], HBn⟩
              case measure => simp [intOf]; omega
          · have HS1 : Hid (R' = true) := Lib.hid (by have := HS.out; simpa using this)
            clear HS
            go_wp2_with fail
            go_roundw
            case rel => exact ⟨j + 1, by omega, by simp, by rw [← HRE.out, HS1.out], HBn⟩
            case measure => simp [intOf]; omega
        · have hjn2 : j = n := by omega
          subst hjn2
          have HB3 : Hid (Below w.heap.size w wr) := Lib.hid (HB.out.trans (HB2.out.mono HB.out.size))
          have hown : wr.ownsRow w.heap.size 2 1 (.slice ya (RP i).length yc) (RP i).length (rcells clI (RP i)) := rown_below HO.out HB2.out
          have HZq := Lib.hid (HZ.out q)
          have hL := HLn.out i
          generalize hasRoom (l.take j) vni q = R at *
          cases R
          · have HS := Lib.hid (HNi.out HZq.out)
            have HO2 := Lib.hid hown
            clear hown
            go_wp2_with fail
            go_roundw
            case rel => exact ⟨i + 1, by omega, by have := HQ.out; simp; omega, by rw [HS.out]; exact HO2.out, HB3⟩
            case measure => have := HQ.out; simp [intOf]; omega
          · by_cases hb : q = but
            · have HS := Lib.hid (HBi.out hb)
              have HO2 := Lib.hid hown
              clear hown
              go_wp2_with fail
              go_roundw
              case rel => exact ⟨i + 1, by omega, by have := HQ.out; simp; omega, by rw [HS.out]; exact HO2.out, HB3⟩
              case measure => have := HQ.out; simp [intOf]; omega
            · have HS := Lib.hid (HHi.out HZq.out hb)
              have hsz1 := HB3.out.size
              generalize RP i = pre at *
              clear HO
              go_wp2_with (at_builtin; refine wpList_append_row clI_len clI_one tyI _ rfl _ _ rfl w.heap.size _ pre q rfl (hown.alloc _) ⟨wr.heap.size, 0, none⟩ rfl (lit_cells wr #[.int .i64 q] 2 q rfl) (by omega) (by simp; omega) ?_; intro a' c' n' w5 HN5 hown5 hg5; have HO5 := Lib.hid hown5; have HB5 : Hid (Below w.heap.size w w5) := Lib.hid (app_below HB3.out hsz1 hown hg5); clear hown5 hg5)
              go_roundw
              case rel => exact ⟨i + 1, by omega, by have := HQ.out; simp; omega, by rw [HS.out, ← HN5.out]; exact HO5, HB5⟩
              case measure => have := HQ.out; simp [intOf]; omega
    · have hi4 : i = 4 := by omega
      subst hi4
      obtain ⟨ya, yc, rfl⟩ := rown_form HO.out
      go_wp2_with fail
      go_ret
      exact ⟨_, rfl, HO.out, HB.out⟩
set_option maxHeartbeats 2000000 in
theorem specRoomsOf_any (l : List Hd) (v : Value) (vni but : Int) (w : World) (h : HdsAt w v l) (hn : l.length ≤ 1048576) :
    Calls Try.prog 38 #[v, .int .i64 vni, .int .i64 but] w (RowPost clI 2 1 (roomsOf l vni but) w) := by
  have HRR := Lib.hid (specRibRight_any l v w h hn)
  have HVn := Lib.hid (fun W => specVni_any vni W)
  have HIn := Lib.hid (fun (h60 : l.length ≤ 60) (W' : World) (hb : Below w.heap.size w W') => specRoomsIn_any l v vni but W' (SlAt.kept h hb) h60)
  have HZ1 : Hid (ribOk l = true → isVni vni = true → roomsOf l vni but = roomsP l vni but 4) := Lib.hid (fun h h2 => roomsOf_ok h h2)
  have HZ2 : Hid (ribOk l = false → roomsOf l vni but = []) := Lib.hid (fun h => roomsOf_rib h)
  have HZ3 : Hid (isVni vni = false → roomsOf l vni but = []) := Lib.hid (fun h => roomsOf_vni h)
  have HL := Lib.hid (fun (h : ribOk l = true) => ribOk_len h)
  unfold RowPost at *
  unfold RrPost at HRR
  obtain ⟨a, cap, rfl, _⟩ := h
  rw [List.length_map] at *
  generalize ribOk l = R at *
  generalize isVni vni = V at *
  generalize roomsOf l vni but = RS at *
  have HE : ∀ w1 : World, w.heap.size ≤ w1.heap.size → Hid ((w1.alloc (.cells #[] 2)).ownsRow w.heap.size 2 1 (.slice (some ⟨w1.heap.size, 0, none⟩) 0 0) ([] : List Int).length (rcells clI [])) := fun w1 h1 => Lib.hid (rown_mono (World.ownsRow_lit (base := w1.heap.size) (e := 2) (size := 1) w1 #[] 0 (by simp) (Nat.zero_le _) rfl) h1)
  have HEE := Lib.hid HE
  clear HE
  cases R
  · have HR := Lib.hid (HZ2.out rfl)
    go_enter Try.func38, Try.ntmps38
    go_wp2_with fail
    refine HRR.out.mono ?_
    rintro e w1 ⟨rfl, hb1⟩
    have HB := Lib.hid hb1
    clear hb1
    go_wp2_with fail
    go_ret
    exact ⟨_, rfl, by rw [HR.out]; exact (HEE.out _ HB.out.size).out, HB.out.alloc HB.out.size _⟩
  · cases V
    · have HR := Lib.hid (HZ3.out rfl)
      go_enter Try.func38, Try.ntmps38
      go_wp2_with fail
      refine HRR.out.mono ?_
      rintro e w1 ⟨rfl, hb1⟩
      have HB := Lib.hid hb1
      clear hb1
      go_wp2_with fail
      refine (HVn.out _).mono ?_
      rintro e w2 ⟨rfl, rfl⟩
      go_wp2_with fail
      go_ret
      exact ⟨_, rfl, by rw [HR.out]; exact (HEE.out _ HB.out.size).out, HB.out.alloc HB.out.size _⟩
    · have HR := Lib.hid (HZ1.out rfl rfl)
      have h60 := HL.out rfl
      go_enter Try.func38, Try.ntmps38
      go_wp2_with fail
      refine HRR.out.mono ?_
      rintro e w1 ⟨rfl, hb1⟩
      have HB := Lib.hid hb1
      have HC := Lib.hid (HIn.out h60 w1 hb1)
      clear hb1
      go_wp2_with fail
      refine (HVn.out _).mono ?_
      rintro e w2 ⟨rfl, rfl⟩
      go_wp2_with fail
      refine HC.out.mono ?_
      rintro e w3 ⟨v2, rfl, ho2, hb2⟩
      have HO2 := Lib.hid (rown_mono (B' := w.heap.size) ho2 HB.out.size)
      have HB2 : Hid (Below w.heap.size w w3) := Lib.hid (HB.out.trans (hb2.mono HB.out.size))
      clear ho2 hb2
      go_wp2_with fail
      go_ret
      exact ⟨_, rfl, by rw [HR.out]; exact HO2.out, HB2.out⟩
end Go.Proofs.Ytmkoppbbenombaa
