/- HouseRight, of the model, whole. -/
import Derived.Test.YtglealihdkecpaaGreatHoS
import Derived.Test.YtglealihdkecpaaGreatHoO
import Derived.Test.YtglealihdkecpaaGreatRbR
import Derived.Test.YtglealihdkecpaaGreatGsN
import Derived.Test.YtglealihdkecpaaGreatMsR
namespace Go.Proofs.YtglealihdkecpaaGreat
open Go.RowKit

theorem specHouse_any (n : Int) (w : World) : Calls Tryz.prog 42 #[.int .i64 n] w fun e w' => e = .returned (.bool (isHouse n)) ∧ w = w' := by
  unfold isHouse
  go_enter Tryz.func42, Tryz.ntmps42
  go_wp2_with (go_at_call 44; refine (specIs_any _ _ _ _).mono ?_; rintro e w' ⟨rfl, rfl⟩)
  go_ret
  exact ⟨rfl, rfl⟩
theorem gus_el {l : List Gu} (h : gusOk l = true) {i : Nat} (hi : i < l.length) : (l[i]).right = true := by
  unfold gusOk at h
  rw [Bool.and_eq_true, List.all_eq_true] at h
  have h2 := h.2 i (List.mem_range.2 hi)
  cases e : (l[i]).right
  · rw [okAtG_gu hi e] at h2; exact absurd h2 (by decide)
  · rfl
theorem fz_nums {v m h d : Int} (k : Fz.right ⟨v, m, h, d⟩ = true) : 1 ≤ v ∧ 0 ≤ d ∧ d ≤ 4 := by
  unfold Fz.right fzRight isVni inR at k
  simp only [Bool.and_eq_true, decide_eq_true_eq] at k
  omega
theorem gu_door {v m i d s n : Int} {t : Bool} (k : Gu.right ⟨v, m, i, d, s, n, t⟩ = true) : 1 ≤ d ∧ d ≤ 4 := by
  unfold Gu.right guRight inR at k
  simp only [Bool.and_eq_true, decide_eq_true_eq] at k
  omega
theorem all_yes {α : Type} {l : List α} {P : α → Bool} (h : ∀ k (hk : k < l.length), P l[k] = true) : l.all P = true := by
  rw [List.all_eq_true]
  intro x hx
  obtain ⟨i, hi, rfl⟩ := List.getElem_of_mem hx
  exact h i hi
theorem all_no {α : Type} {l : List α} {P : α → Bool} {i : Nat} (hi : i < l.length) (h : P l[i] = false) : l.all P = false := by
  rw [List.all_eq_false]
  exact ⟨l[i], List.getElem_mem hi, by rw [h]; decide⟩
theorem upto_succ {α : Type} {l : List α} {P : α → Bool} {i : Nat} (hi : i < l.length) (h : ∀ k (hk : k < l.length), k < i → P l[k] = true) (hn : P l[i] = true) : ∀ k (hk : k < l.length), k < i + 1 → P l[k] = true := fun k hk hki => by
  by_cases e : k = i
  · subst e; exact hn
  · exact h k hk (by omega)
set_option maxRecDepth 100000 in
set_option maxHeartbeats 20000000 in
theorem specHouseRight_any (h : Ho) (vd vp vr vg vw vf : Value) (w : World) (A : HoAt w vd vp vr vg vw vf h) (hs : h.small 1048576) :
    Calls Tryz.prog 10 #[hoV h vd vp vr vg vw vf] w fun e w' => e = .returned (.bool (hoRight h)) ∧ Below w.heap.size w w' := by
  have HD := Lib.hid (fun (W : World) (hb : Below w.heap.size w W) => specDoors_any h.doors vd W (A.doors.kept hb) hs.doors)
  have HRb := Lib.hid (fun (W : World) (hb : Below w.heap.size w W) => specRibRight_any h.rib vr W (SlAt.kept A.rib hb) hs.rib)
  have HGu := Lib.hid (fun (W : World) (hb : Below w.heap.size w W) => specGuestsRight_any h.gus vg W (SlAt.kept A.gus hb) hs.gus)
  have HMv := Lib.hid (fun (W : World) (hb : Below w.heap.size w W) => specWentRight_any h.went vw W (SlAt.kept A.went hb) hs.went)
  have HFz := Lib.hid (fun (W : World) (hb : Below w.heap.size w W) => specFrozen_any h.froz vf W (SlAt.kept A.froz hb) hs.froz)
  unfold RrPost at HRb
  unfold GrPost at HGu
  unfold MrPost at HMv
  have HH := Lib.hid (specHouse_any h.id)
  have HT := Lib.hid (specTime_any h.now)
  have HE := Lib.hid (specEpoch_any h.ep)
  obtain ⟨ad, cd, hvd, KD⟩ : ∃ a c, vd = .slice a h.doors.length c ∧ Hid (h.doors.map clI ≠ [] → ∃ b off, a = some ⟨b, off, none⟩ ∧ b < w.heap.size ∧ Elems w b off 1 (h.doors.map clI)) := by obtain ⟨a, c, e, k⟩ := A.doors; exact ⟨a, c, by rw [e, List.length_map], Lib.hid k⟩
  obtain ⟨ap, cp, hvp, KP⟩ : ∃ a c, vp = .slice a h.pipes.length c ∧ Hid (h.pipes.map Pi.cl ≠ [] → ∃ b off, a = some ⟨b, off, none⟩ ∧ b < w.heap.size ∧ Elems w b off 5 (h.pipes.map Pi.cl)) := by obtain ⟨a, c, e, k⟩ := A.pipes.sl; exact ⟨a, c, by rw [e, List.length_map], Lib.hid k⟩
  obtain ⟨ar, cr, hvr, KR⟩ : ∃ a c, vr = .slice a h.rib.length c ∧ Hid (h.rib.map Hd.cl ≠ [] → ∃ b off, a = some ⟨b, off, none⟩ ∧ b < w.heap.size ∧ Elems w b off 9 (h.rib.map Hd.cl)) := by obtain ⟨a, c, e, k⟩ := A.rib; exact ⟨a, c, by rw [e, List.length_map], Lib.hid k⟩
  obtain ⟨ag, cg, hvg, KG⟩ : ∃ a c, vg = .slice a h.gus.length c ∧ Hid (h.gus.map Gu.cl ≠ [] → ∃ b off, a = some ⟨b, off, none⟩ ∧ b < w.heap.size ∧ Elems w b off 7 (h.gus.map Gu.cl)) := by obtain ⟨a, c, e, k⟩ := A.gus; exact ⟨a, c, by rw [e, List.length_map], Lib.hid k⟩
  obtain ⟨aw, cw, hvw, KW⟩ : ∃ a c, vw = .slice a h.went.length c ∧ Hid (h.went.map Mv.cl ≠ [] → ∃ b off, a = some ⟨b, off, none⟩ ∧ b < w.heap.size ∧ Elems w b off 3 (h.went.map Mv.cl)) := by obtain ⟨a, c, e, k⟩ := A.went; exact ⟨a, c, by rw [e, List.length_map], Lib.hid k⟩
  obtain ⟨af, cf, hvf, KF⟩ : ∃ a c, vf = .slice a h.froz.length c ∧ Hid (h.froz.map Fz.cl ≠ [] → ∃ b off, a = some ⟨b, off, none⟩ ∧ b < w.heap.size ∧ Elems w b off 4 (h.froz.map Fz.cl)) := by obtain ⟨a, c, e, k⟩ := A.froz; exact ⟨a, c, by rw [e, List.length_map], Lib.hid k⟩
  have HO := Lib.hid A.pipes.out
  have HR : Hid (hoRight h = (isHouse h.id && (isTime h.now && (isEpoch h.ep && (doorsOk h.doors && ((decide (1 ≤ h.pipes.length) && (decide (h.pipes.length ≤ 2) && h.pipes.all (fun p => p.right && decide (p.e ≤ h.ep)))) && ((ribOk h.rib && h.rib.all (fun x => decide (x.p ≤ h.pipes.length))) && ((gusOk h.gus && h.gus.all (fun g => decide (g.seen ≤ h.now) && decide (g.vni = roomAt h.doors g.door))) && (mvsFits h.now h.went && (frozOk h.froz && h.froz.all (fzFits h.id h.doors))))))))))) := Lib.hid rfl
  have HMn : Hid (mvsOk h.went = false → mvsFits h.now h.went = false) := Lib.hid (fun e => by unfold mvsFits; rw [e]; rfl)
  have HMl := Lib.hid (fun (e : mvsOk h.went = true) (hl : 0 < h.went.length) => mvsFits_last (now := h.now) e hl)
  have HM0 := Lib.hid (fun (e : mvsOk h.went = true) (hl : h.went.length = 0) => mvsFits_nil (now := h.now) e hl)
  have HF1 := Lib.hid (fun (e : frozOk h.froz = true) (i : Nat) (hi : i < h.froz.length) => listOk_el e (List.getElem_mem hi))
  have HG1 := Lib.hid (fun (e : gusOk h.gus = true) (i : Nat) (hi : i < h.gus.length) => gus_el e hi)
  have HD4 : Hid (doorsOk h.doors = true → h.doors.length = 4) := Lib.hid (fun e => by unfold doorsOk at e; rw [Bool.and_eq_true] at e; exact of_decide_eq_true e.1)
  have HPy := Lib.hid (fun k => all_yes (l := h.pipes) (P := fun p => p.right && decide (p.e ≤ h.ep)) k)
  have HPn := Lib.hid (fun i hi k => all_no (l := h.pipes) (P := fun p => p.right && decide (p.e ≤ h.ep)) (i := i) hi k)
  have HRy := Lib.hid (fun k => all_yes (l := h.rib) (P := fun x => decide (x.p ≤ h.pipes.length)) k)
  have HRn := Lib.hid (fun i hi k => all_no (l := h.rib) (P := fun x => decide (x.p ≤ h.pipes.length)) (i := i) hi k)
  have HGy := Lib.hid (fun k => all_yes (l := h.gus) (P := fun g => decide (g.seen ≤ h.now) && decide (g.vni = roomAt h.doors g.door)) k)
  have HGn := Lib.hid (fun i hi k => all_no (l := h.gus) (P := fun g => decide (g.seen ≤ h.now) && decide (g.vni = roomAt h.doors g.door)) (i := i) hi k)
  have HFy := Lib.hid (fun k => all_yes (l := h.froz) (P := fzFits h.id h.doors) k)
  have HFn := Lib.hid (fun i hi k => all_no (l := h.froz) (P := fzFits h.id h.doors) (i := i) hi k)
  have hle := And.intro hs.pipes (And.intro hs.rib (And.intro hs.gus (And.intro hs.went hs.froz)))
  have X0 := Blk.new w 38 #[.int .i64 h.id, .int .i64 h.now, .int .i64 h.ep, vd, vp, vr, vg, vw, vf]
  have hb0 : Below w.heap.size w (w.alloc (.cells #[.int .i64 h.id, .int .i64 h.now, .int .i64 h.ep, vd, vp, vr, vg, vw, vf] 38)) := (Below.refl _ _).alloc (Nat.le_refl _) _
  subst hvd hvp hvr hvg hvw hvf
  clear A hs
  obtain ⟨i0, i1, i2, l3, l4, l5, l6, l7, l8⟩ := h
  have HX := Lib.hid X0
  have HB := Lib.hid hb0
  clear X0 hb0
  unfold hoV
  dsimp only at *
  generalize hoRight _ = R at *
  generalize isHouse i0 = b1 at *
  generalize isTime i1 = b2 at *
  generalize isEpoch i2 = b3 at *
  generalize doorsOk l3 = b4 at *
  generalize ribOk l5 = b7 at *
  generalize gusOk l6 = b8 at *
  generalize mvsOk l7 = b9 at *
  generalize frozOk l8 = b10 at *
  generalize mvsFits i1 l7 = MA at *
  generalize l4.all _ = PA at *
  generalize l5.all _ = RA at *
  generalize l6.all _ = GA at *
  generalize l8.all _ = FA at *
  have key : (b1 = false ∧ Hid (R = false)) ∨ (b1 = true ∧ b2 = false ∧ Hid (R = false)) ∨ (b1 = true ∧ b2 = true ∧ b3 = false ∧ Hid (R = false)) ∨ (b1 = true ∧ b2 = true ∧ b3 = true ∧ b4 = false ∧ Hid (R = false)) ∨ (b1 = true ∧ b2 = true ∧ b3 = true ∧ b4 = true ∧ ¬ (1 : Int) ≤ (l4.length : Int) ∧ Hid (R = false)) ∨ (b1 = true ∧ b2 = true ∧ b3 = true ∧ b4 = true ∧ (1 : Int) ≤ (l4.length : Int) ∧ (2 : Int) < (l4.length : Int) ∧ Hid (R = false)) ∨ (b1 = true ∧ b2 = true ∧ b3 = true ∧ b4 = true ∧ (1 : Int) ≤ (l4.length : Int) ∧ ¬ (2 : Int) < (l4.length : Int) ∧ b7 = false ∧ Hid (R = false)) ∨ (b1 = true ∧ b2 = true ∧ b3 = true ∧ b4 = true ∧ (1 : Int) ≤ (l4.length : Int) ∧ ¬ (2 : Int) < (l4.length : Int) ∧ b7 = true ∧ b8 = false ∧ Hid (R = false)) ∨ (b1 = true ∧ b2 = true ∧ b3 = true ∧ b4 = true ∧ (1 : Int) ≤ (l4.length : Int) ∧ ¬ (2 : Int) < (l4.length : Int) ∧ b7 = true ∧ b8 = true ∧ b9 = false ∧ Hid (R = false)) ∨ (b1 = true ∧ b2 = true ∧ b3 = true ∧ b4 = true ∧ (1 : Int) ≤ (l4.length : Int) ∧ ¬ (2 : Int) < (l4.length : Int) ∧ b7 = true ∧ b8 = true ∧ b9 = true ∧ b10 = false ∧ Hid (R = false)) ∨ (b1 = true ∧ b2 = true ∧ b3 = true ∧ b4 = true ∧ (1 : Int) ≤ (l4.length : Int) ∧ ¬ (2 : Int) < (l4.length : Int) ∧ b7 = true ∧ b8 = true ∧ b9 = true ∧ b10 = true ∧ Hid (R = (PA && (RA && (GA && (MA && FA)))))) := by
    have hr := HR.out
    cases b1
    · exact .inl ⟨rfl, Lib.hid hr⟩
    refine .inr ?_
    cases b2
    · exact .inl ⟨rfl, rfl, Lib.hid hr⟩
    refine .inr ?_
    cases b3
    · exact .inl ⟨rfl, rfl, rfl, Lib.hid hr⟩
    refine .inr ?_
    cases b4
    · exact .inl ⟨rfl, rfl, rfl, rfl, Lib.hid hr⟩
    refine .inr ?_
    by_cases h1 : 1 ≤ l4.length
    case neg => exact .inl ⟨rfl, rfl, rfl, rfl, by omega, Lib.hid (by rw [hr, decide_eq_false h1]; rfl)⟩
    rw [decide_eq_true h1] at hr
    refine .inr ?_
    by_cases h2 : l4.length ≤ 2
    case neg => exact .inl ⟨rfl, rfl, rfl, rfl, by omega, by omega, Lib.hid (by rw [hr, decide_eq_false h2]; rfl)⟩
    rw [decide_eq_true h2] at hr
    refine .inr ?_
    cases b7
    · exact .inl ⟨rfl, rfl, rfl, rfl, by omega, by omega, rfl, Lib.hid (by rw [hr]; simp)⟩
    refine .inr ?_
    cases b8
    · exact .inl ⟨rfl, rfl, rfl, rfl, by omega, by omega, rfl, rfl, Lib.hid (by rw [hr]; simp)⟩
    refine .inr ?_
    cases b9
    · exact .inl ⟨rfl, rfl, rfl, rfl, by omega, by omega, rfl, rfl, rfl, Lib.hid (by rw [hr, HMn.out rfl]; simp)⟩
    refine .inr ?_
    cases b10
    · exact .inl ⟨rfl, rfl, rfl, rfl, by omega, by omega, rfl, rfl, rfl, rfl, Lib.hid (by rw [hr]; simp)⟩
    · exact .inr ⟨rfl, rfl, rfl, rfl, by omega, by omega, rfl, rfl, rfl, rfl, Lib.hid (by rw [hr]; simp)⟩
  clear HR HMn
  go_enter Tryz.func10, Tryz.ntmps10
  go_upto_region 1 with fail
  generalize w.alloc (.cells #[.int .i64 i0, .int .i64 i1, .int .i64 i2, .slice ad l3.length cd, .slice ap l4.length cp, .slice ar l5.length cr, .slice ag l6.length cg, .slice aw l7.length cw, .slice af l8.length cf] 38) = W1 at *
  have cX := HX.out.cell
  rcases key with ⟨rfl, hr⟩ | ⟨rfl, rfl, hr⟩ | ⟨rfl, rfl, rfl, hr⟩ | ⟨rfl, rfl, rfl, rfl, hr⟩ | ⟨rfl, rfl, rfl, rfl, g1, hr⟩ | ⟨rfl, rfl, rfl, rfl, g1, g2, hr⟩ | ⟨rfl, rfl, rfl, rfl, g1, g2, rfl, hr⟩ | ⟨rfl, rfl, rfl, rfl, g1, g2, rfl, rfl, hr⟩ | ⟨rfl, rfl, rfl, rfl, g1, g2, rfl, rfl, rfl, hr⟩ | ⟨rfl, rfl, rfl, rfl, g1, g2, rfl, rfl, rfl, rfl, hr⟩ | ⟨rfl, rfl, rfl, rfl, g1, g2, rfl, rfl, rfl, rfl, hr⟩
  iterate 10
    · go_wp2_with (first | (go_at_call 42; refine (HH.out _).mono ?_; rintro e w' ⟨rfl, rfl⟩) | (go_at_call 43; refine (HT.out _).mono ?_; rintro e w' ⟨rfl, rfl⟩) | (go_at_call 44; refine (HE.out _).mono ?_; rintro e w' ⟨rfl, rfl⟩) | (go_at_call 45; refine (HD.out _ HB.out).mono ?_; rintro e w4 ⟨rfl, hb1⟩; replace HX := Lib.hid (HX.out.kept hb1); replace HB := Lib.hid (HB.out.trans (hb1.mono HB.out.size)); clear hb1 cX; have cX := HX.out.cell) | (go_at_call 46; refine (HRb.out _ HB.out).mono ?_; rintro e w4 ⟨rfl, hb1⟩; replace HX := Lib.hid (HX.out.kept hb1); replace HB := Lib.hid (HB.out.trans (hb1.mono HB.out.size)); clear hb1 cX; have cX := HX.out.cell) | (go_at_call 47; refine (HGu.out _ HB.out).mono ?_; rintro e w4 ⟨rfl, hb1⟩; replace HX := Lib.hid (HX.out.kept hb1); replace HB := Lib.hid (HB.out.trans (hb1.mono HB.out.size)); clear hb1 cX; have cX := HX.out.cell) | (go_at_call 48; refine (HMv.out _ HB.out).mono ?_; rintro e w4 ⟨rfl, hb1⟩; replace HX := Lib.hid (HX.out.kept hb1); replace HB := Lib.hid (HB.out.trans (hb1.mono HB.out.size)); clear hb1 cX; have cX := HX.out.cell) | (go_at_call 49; refine (HFz.out _ HB.out).mono ?_; rintro e w4 ⟨rfl, hb1⟩; replace HX := Lib.hid (HX.out.kept hb1); replace HB := Lib.hid (HB.out.trans (hb1.mono HB.out.size)); clear hb1 cX; have cX := HX.out.cell))
      go_ret
      exact ⟨bool_ret hr.out.symm, HB.out⟩
  have hd4 := HD4.out rfl
  have hne3 : l3.map clI ≠ [] := fun e => by have := congrArg List.length e; rw [List.length_map, hd4] at this; simp at this
  obtain ⟨db, doff, hda, hdb, HDE⟩ := KD.out hne3
  subst hda
  have HDc := Lib.hid (fun (W : World) (hS : Below w.heap.size w W) (k : Nat) (hk : k < l3.length) => (show W.cell? ⟨db, doff + k, none⟩ = some (.int .i64 l3[k]) from by
    have := (Elems.below HDE hS hdb) k (clI l3[k]) (by rw [List.getElem?_map, List.getElem?_eq_getElem hk]; rfl) 0 _ rfl
    simpa using this))
  have HD4' := Lib.hid hd4
  have HGx := Lib.hid (fun i hi => HG1.out rfl i hi)
  have HFx := Lib.hid (fun i hi => HF1.out rfl i hi)
  have HMx := Lib.hid (HMl.out rfl)
  have HMz := Lib.hid (HM0.out rfl)
  clear HDE KD hne3 hd4 HD4 HG1 HF1 HMl HM0
  go_wp2_with (first | (go_at_call 42; refine (HH.out _).mono ?_; rintro e w' ⟨rfl, rfl⟩) | (go_at_call 43; refine (HT.out _).mono ?_; rintro e w' ⟨rfl, rfl⟩) | (go_at_call 44; refine (HE.out _).mono ?_; rintro e w' ⟨rfl, rfl⟩) | (go_at_call 45; refine (HD.out _ HB.out).mono ?_; rintro e w4 ⟨rfl, hb1⟩; replace HX := Lib.hid (HX.out.kept hb1); replace HB := Lib.hid (HB.out.trans (hb1.mono HB.out.size)); clear hb1 cX; have cX := HX.out.cell) | (go_at_call 46; refine (HRb.out _ HB.out).mono ?_; rintro e w4 ⟨rfl, hb1⟩; replace HX := Lib.hid (HX.out.kept hb1); replace HB := Lib.hid (HB.out.trans (hb1.mono HB.out.size)); clear hb1 cX; have cX := HX.out.cell) | (go_at_call 47; refine (HGu.out _ HB.out).mono ?_; rintro e w4 ⟨rfl, hb1⟩; replace HX := Lib.hid (HX.out.kept hb1); replace HB := Lib.hid (HB.out.trans (hb1.mono HB.out.size)); clear hb1 cX; have cX := HX.out.cell) | (go_at_call 48; refine (HMv.out _ HB.out).mono ?_; rintro e w4 ⟨rfl, hb1⟩; replace HX := Lib.hid (HX.out.kept hb1); replace HB := Lib.hid (HB.out.trans (hb1.mono HB.out.size)); clear hb1 cX; have cX := HX.out.cell) | (go_at_call 49; refine (HFz.out _ HB.out).mono ?_; rintro e w4 ⟨rfl, hb1⟩; replace HX := Lib.hid (HX.out.kept hb1); replace HB := Lib.hid (HB.out.trans (hb1.mono HB.out.size)); clear hb1 cX; have cX := HX.out.cell))
  have HS := Lib.hid (And.intro HX.out HB.out)
  clear HX HB cX HH HT HE HD HRb HGu HMv HFz
  go_loopw [3] (fun u wr => ∃ i : Nat, i ≤ l4.length ∧ u = .int .i64 (i : Int) ∧ Hid (∀ k (hk : k < l4.length), k < i → (fun p : Pi => p.right && decide (p.e ≤ i2)) l4[k] = true) ∧ Hid (Blk wr w.heap.size 38 #[.int .i64 i0, .int .i64 i1, .int .i64 i2, .slice (some ⟨db, doff, none⟩) l3.length cd, .slice ap l4.length cp, .slice ar l5.length cr, .slice ag l6.length cg, .slice aw l7.length cw, .slice af l8.length cf] ∧ Below w.heap.size w wr)) (fun u _ => l4.length - (intOf u).toNat)
  case atStart => exact ⟨0, Nat.zero_le _, rfl, Lib.hid (fun k _ hk => by omega), HS⟩
  case round =>
    clear HS
    obtain ⟨i, hi, rfl, HK, HS⟩ := hrel
    have cX := HS.out.1.cell
    by_cases hlt : i < l4.length
    · have hne : l4.map Pi.cl ≠ [] := fun e => by have := congrArg List.length e; rw [List.length_map] at this; simp at this; rw [this] at hlt; simp at hlt
      obtain ⟨b, off, ha, hb, HEl⟩ := KP.out hne
      subst ha
      have hlI : (i : Int) < (l4.length : Int) := by omega
      have HC := Lib.hid (fun (W : World) (hS : Below w.heap.size w W) => (Elems.below HEl hS hb).pi i hlt)
      have HKs := Lib.hid (fun (e : (fun p : Pi => p.right && decide (p.e ≤ i2)) l4[i] = true) => upto_succ (P := (fun p : Pi => p.right && decide (p.e ≤ i2))) hlt HK.out e)
      have HQ := Lib.hid (fun (W : World) (hS : Below w.heap.size w W) => specPipeRight_any (l4[i]).e (l4[i]).p (l4[i]).b (l4[i]).i (l4[i]).v (l4[i]).l W ((HO.out _ (List.getElem_mem hlt)).kept hS))
      have HSf := Lib.hid ((HO.out _ (List.getElem_mem hlt)).form)
      have HNo := Lib.hid (HPn.out i hlt)
      have HPr : Hid ((l4[i]).right = ppRight (l4[i]).e (l4[i]).p (l4[i]).b (l4[i]).i (l4[i]).l) := Lib.hid rfl
      rw [← HPr.out] at HQ
      unfold ppV at HQ
      dsimp only at HKs HNo
      clear HPr HEl hne
      generalize (l4[i]).right = yr at *
      generalize l4[i] = y at *
      obtain ⟨ye, yp, yb, yi, yv, yl⟩ := y
      dsimp only at *
      obtain ⟨ya, yc, rfl⟩ := HSf.out
      clear HSf
      go_upto_region 6 with fail
      have S0 := And.intro HS.out.1.drew HS.out.2.drew
      clear HS cX
      have hXe : ∀ h : ye ≤ i2, ¬ i2 < ye := fun h => by omega
      cases yr
      · clear hXe
        refine wp_region_held_drew (S := fun W' => Blk W' w.heap.size 38 _ ∧ Below w.heap.size w W') (by kernel_rfl) S0 (fun hHeld => ?_)
        clear hHeld
        refine wpAnyH_take (i := 0) (oi := { dst := some 73, op := Op.fieldAddr 38 (Operand.tmp 1) 4, type := 0, pos := "l09_house.go:42", after := #[], guard := none }) (v := ?vva1) rfl (by kernel_rfl) (by kernel_rfl) (by kernel_rfl) (fun _ _ _ h => h) (Or.inl ⟨by rfl, ?hya1⟩) S0 ?resta1
        case hya1 => (intro w hSw; have hcX := hSw.1.cell; obtain ⟨p0, p1, p2, p3, p4⟩ := HC.out _ hSw.2;go_simp <;> with_reducible rfl)
        try simp only [Act.put, List.setIfInBounds_toArray, List.set_cons_zero, List.set_cons_succ]
        refine wpAnyH_take (i := 1) (oi := { dst := some 74, op := Op.load 32 (Operand.tmp 73), type := 32, pos := "l09_house.go:42", after := #[{ on := 0, ground := Ground.data }], guard := none }) (v := ?vva2) rfl (by kernel_rfl) (by kernel_rfl) (by kernel_rfl) (fun _ _ _ h => h) (Or.inl ⟨by rfl, ?hya2⟩) S0 ?resta2
        case hya2 => (intro w hSw; have hcX := hSw.1.cell; obtain ⟨p0, p1, p2, p3, p4⟩ := HC.out _ hSw.2;go_simp <;> with_reducible rfl)
        try simp only [Act.put, List.setIfInBounds_toArray, List.set_cons_zero, List.set_cons_succ]
        refine wpAnyH_take (i := 2) (oi := { dst := some 75, op := Op.move (Operand.tmp 3), type := 3, pos := "l09_house.go:42", after := #[], guard := none }) (v := ?vva3) rfl (by kernel_rfl) (by kernel_rfl) (by kernel_rfl) (fun _ _ _ h => h) (Or.inl ⟨by rfl, ?hya3⟩) S0 ?resta3
        case hya3 => (intro w hSw; have hcX := hSw.1.cell; obtain ⟨p0, p1, p2, p3, p4⟩ := HC.out _ hSw.2;go_simp <;> with_reducible rfl)
        try simp only [Act.put, List.setIfInBounds_toArray, List.set_cons_zero, List.set_cons_succ]
        refine wpAnyH_take (i := 3) (oi := { dst := some 76, op := Op.indexAddr 32 (Operand.tmp 74) (Operand.tmp 75), type := 0, pos := "l09_house.go:42", after := #[{ on := 1, ground := Ground.data }, { on := 2, ground := Ground.data }], guard := none }) (v := ?vva4) rfl (by kernel_rfl) (by kernel_rfl) (by kernel_rfl) (fun _ _ _ h => h) (Or.inl ⟨by rfl, ?hya4⟩) S0 ?resta4
        case hya4 => (intro w hSw; have hcX := hSw.1.cell; obtain ⟨p0, p1, p2, p3, p4⟩ := HC.out _ hSw.2;go_simp <;> with_reducible rfl)
        try simp only [Act.put, List.setIfInBounds_toArray, List.set_cons_zero, List.set_cons_succ]
        refine wpAnyH_take (i := 4) (oi := { dst := some 77, op := Op.load 81 (Operand.tmp 76), type := 81, pos := "l09_house.go:42", after := #[{ on := 3, ground := Ground.data }], guard := none }) (v := ?vva5) rfl (by kernel_rfl) (by kernel_rfl) (by kernel_rfl) (fun _ _ _ h => h) (Or.inl ⟨by rfl, ?hya5⟩) S0 ?resta5
        case hya5 => (intro w hSw; have hcX := hSw.1.cell; obtain ⟨p0, p1, p2, p3, p4⟩ := HC.out _ hSw.2;go_simp <;> with_reducible rfl)
        try simp only [Act.put, List.setIfInBounds_toArray, List.set_cons_zero, List.set_cons_succ]
        refine wpAnyH_ready (rs := [5]) (by kernel_rfl) (by simp) ?_
        refine AllReadyH.cons (o := { dst := some 78, op := Op.call { callee := Callee.value (Operand.func 50), args := #[Operand.tmp 77], argTypes := #[81] }, type := 4, pos := "l09_house.go:42", after := #[{ on := 4, ground := Ground.data }], guard := none }) rfl (fun K hK => ?_) AllReadyH.nil
        go_simp
        refine (HQ.out _ S0.2).mono ?_
        rintro e w5 ⟨rfl, hb5⟩
        replace S0 := (show Blk w5 _ _ _ ∧ Below w.heap.size w w5 from ⟨S0.1.kept hb5, S0.2.trans (hb5.mono S0.2.size)⟩)
        clear hb5
        refine hK.out _ _ S0 (fun hHeld => ?_)
        clear hK K hHeld
        try simp only [Act.put, List.setIfInBounds_toArray, List.set_cons_zero, List.set_cons_succ]
        refine wpAnyH_take (i := 6) (oi := { dst := some 79, op := Op.unOp UnOp.not 4 (Operand.tmp 78), type := 4, pos := "l09_house.go:42", after := #[{ on := 5, ground := Ground.data }], guard := none }) (v := ?vva6) rfl (by kernel_rfl) (by kernel_rfl) (by kernel_rfl) (fun _ _ _ h => h) (Or.inl ⟨by rfl, ?hya6⟩) S0 ?resta6
        case hya6 => (intro w hSw; have hcX := hSw.1.cell; obtain ⟨p0, p1, p2, p3, p4⟩ := HC.out _ hSw.2;go_simp <;> with_reducible rfl)
        try simp only [Act.put, List.setIfInBounds_toArray, List.set_cons_zero, List.set_cons_succ]
        refine wpAnyH_take (i := 7) (oi := { dst := some 80, op := Op.move (Operand.tmp 79), type := 4, pos := "l09_house.go:42", after := #[{ on := 6, ground := Ground.data }, { on := 5, ground := Ground.chain }], guard := none }) (v := ?vva7) rfl (by kernel_rfl) (by kernel_rfl) (by kernel_rfl) (fun _ _ _ h => h) (Or.inl ⟨by rfl, ?hya7⟩) S0 ?resta7
        case hya7 => (intro w hSw; have hcX := hSw.1.cell; obtain ⟨p0, p1, p2, p3, p4⟩ := HC.out _ hSw.2;go_simp <;> with_reducible rfl)
        try simp only [Act.put, List.setIfInBounds_toArray, List.set_cons_zero, List.set_cons_succ]
        refine wpAnyH_take (i := 8) (oi := { dst := some 81, op := Op.fieldAddr 38 (Operand.tmp 1) 4, type := 0, pos := "l09_house.go:42", after := #[{ on := 7, ground := Ground.guard }], guard := some (7, false) }) (v := undef) rfl (by kernel_rfl) (by kernel_rfl) (by kernel_rfl) (fun _ _ _ h => h) (Or.inr ⟨by rfl, rfl⟩) S0 ?_
        try simp only [Act.put, List.setIfInBounds_toArray, List.set_cons_zero, List.set_cons_succ]
        refine wpAnyH_take (i := 9) (oi := { dst := some 82, op := Op.load 32 (Operand.tmp 81), type := 32, pos := "l09_house.go:42", after := #[{ on := 8, ground := Ground.data }, { on := 7, ground := Ground.guard }], guard := some (7, false) }) (v := undef) rfl (by kernel_rfl) (by kernel_rfl) (by kernel_rfl) (fun _ _ _ h => h) (Or.inr ⟨by rfl, rfl⟩) S0 ?_
        try simp only [Act.put, List.setIfInBounds_toArray, List.set_cons_zero, List.set_cons_succ]
        refine wpAnyH_take (i := 10) (oi := { dst := some 83, op := Op.move (Operand.tmp 3), type := 3, pos := "l09_house.go:42", after := #[{ on := 7, ground := Ground.guard }], guard := some (7, false) }) (v := undef) rfl (by kernel_rfl) (by kernel_rfl) (by kernel_rfl) (fun _ _ _ h => h) (Or.inr ⟨by rfl, rfl⟩) S0 ?_
        try simp only [Act.put, List.setIfInBounds_toArray, List.set_cons_zero, List.set_cons_succ]
        refine wpAnyH_take (i := 11) (oi := { dst := some 84, op := Op.indexAddr 32 (Operand.tmp 82) (Operand.tmp 83), type := 0, pos := "l09_house.go:42", after := #[{ on := 9, ground := Ground.data }, { on := 10, ground := Ground.data }, { on := 7, ground := Ground.guard }], guard := some (7, false) }) (v := undef) rfl (by kernel_rfl) (by kernel_rfl) (by kernel_rfl) (fun _ _ _ h => h) (Or.inr ⟨by rfl, rfl⟩) S0 ?_
        try simp only [Act.put, List.setIfInBounds_toArray, List.set_cons_zero, List.set_cons_succ]
        refine wpAnyH_take (i := 12) (oi := { dst := some 85, op := Op.fieldAddr 81 (Operand.tmp 84) 0, type := 0, pos := "l09_house.go:42", after := #[{ on := 11, ground := Ground.data }, { on := 7, ground := Ground.guard }], guard := some (7, false) }) (v := undef) rfl (by kernel_rfl) (by kernel_rfl) (by kernel_rfl) (fun _ _ _ h => h) (Or.inr ⟨by rfl, rfl⟩) S0 ?_
        try simp only [Act.put, List.setIfInBounds_toArray, List.set_cons_zero, List.set_cons_succ]
        refine wpAnyH_take (i := 13) (oi := { dst := some 86, op := Op.load 2 (Operand.tmp 85), type := 2, pos := "l09_house.go:42", after := #[{ on := 12, ground := Ground.data }, { on := 7, ground := Ground.guard }], guard := some (7, false) }) (v := undef) rfl (by kernel_rfl) (by kernel_rfl) (by kernel_rfl) (fun _ _ _ h => h) (Or.inr ⟨by rfl, rfl⟩) S0 ?_
        try simp only [Act.put, List.setIfInBounds_toArray, List.set_cons_zero, List.set_cons_succ]
        refine wpAnyH_take (i := 14) (oi := { dst := some 87, op := Op.fieldAddr 38 (Operand.tmp 1) 2, type := 0, pos := "l09_house.go:42", after := #[{ on := 7, ground := Ground.guard }], guard := some (7, false) }) (v := undef) rfl (by kernel_rfl) (by kernel_rfl) (by kernel_rfl) (fun _ _ _ h => h) (Or.inr ⟨by rfl, rfl⟩) S0 ?_
        try simp only [Act.put, List.setIfInBounds_toArray, List.set_cons_zero, List.set_cons_succ]
        refine wpAnyH_take (i := 15) (oi := { dst := some 88, op := Op.load 2 (Operand.tmp 87), type := 2, pos := "l09_house.go:42", after := #[{ on := 14, ground := Ground.data }, { on := 7, ground := Ground.guard }], guard := some (7, false) }) (v := undef) rfl (by kernel_rfl) (by kernel_rfl) (by kernel_rfl) (fun _ _ _ h => h) (Or.inr ⟨by rfl, rfl⟩) S0 ?_
        try simp only [Act.put, List.setIfInBounds_toArray, List.set_cons_zero, List.set_cons_succ]
        refine wpAnyH_take (i := 16) (oi := { dst := some 89, op := Op.binOp BinOp.gtr 2 (Operand.tmp 86) (Operand.tmp 88) 2, type := 4, pos := "l09_house.go:42", after := #[{ on := 13, ground := Ground.data }, { on := 15, ground := Ground.data }, { on := 7, ground := Ground.guard }], guard := some (7, false) }) (v := undef) rfl (by kernel_rfl) (by kernel_rfl) (by kernel_rfl) (fun _ _ _ h => h) (Or.inr ⟨by rfl, rfl⟩) S0 ?_
        try simp only [Act.put, List.setIfInBounds_toArray, List.set_cons_zero, List.set_cons_succ]
        refine wpAnyH_take (i := 17) (oi := { dst := some 90, op := Op.pick (Operand.tmp 80) (Operand.const (Value.bool true)) (Operand.tmp 89), type := 4, pos := "l09_house.go:42", after := #[{ on := 7, ground := Ground.data }, { on := 16, ground := Ground.data }], guard := none }) (v := ?vva17) rfl (by kernel_rfl) (by kernel_rfl) (by kernel_rfl) (fun _ _ _ h => h) (Or.inl ⟨by rfl, ?hya17⟩) S0 ?resta17
        case hya17 => (intro w hSw; have hcX := hSw.1.cell; obtain ⟨p0, p1, p2, p3, p4⟩ := HC.out _ hSw.2;go_simp <;> with_reducible rfl)
        try simp only [Act.put, List.setIfInBounds_toArray, List.set_cons_zero, List.set_cons_succ]
        refine wpAnyH_done (by kernel_rfl) ?_ _
        all_goals
          have HBn := Lib.hid S0.2
          clear S0
          go_wp2_with fail
          go_ret
          exact ⟨bool_ret (by rw [hr.out, HNo.out rfl]; simp), HBn.out⟩
      · by_cases hle2 : ye ≤ i2
        · have hng := hXe hle2
          refine wp_region_held_drew (S := fun W' => Blk W' w.heap.size 38 _ ∧ Below w.heap.size w W') (by kernel_rfl) S0 (fun hHeld => ?_)
          clear hHeld
          refine wpAnyH_take (i := 0) (oi := { dst := some 73, op := Op.fieldAddr 38 (Operand.tmp 1) 4, type := 0, pos := "l09_house.go:42", after := #[], guard := none }) (v := ?vvb1) rfl (by kernel_rfl) (by kernel_rfl) (by kernel_rfl) (fun _ _ _ h => h) (Or.inl ⟨by rfl, ?hyb1⟩) S0 ?restb1
          case hyb1 => (intro w hSw; have hcX := hSw.1.cell; obtain ⟨p0, p1, p2, p3, p4⟩ := HC.out _ hSw.2;go_simp <;> with_reducible rfl)
          try simp only [Act.put, List.setIfInBounds_toArray, List.set_cons_zero, List.set_cons_succ]
          refine wpAnyH_take (i := 1) (oi := { dst := some 74, op := Op.load 32 (Operand.tmp 73), type := 32, pos := "l09_house.go:42", after := #[{ on := 0, ground := Ground.data }], guard := none }) (v := ?vvb2) rfl (by kernel_rfl) (by kernel_rfl) (by kernel_rfl) (fun _ _ _ h => h) (Or.inl ⟨by rfl, ?hyb2⟩) S0 ?restb2
          case hyb2 => (intro w hSw; have hcX := hSw.1.cell; obtain ⟨p0, p1, p2, p3, p4⟩ := HC.out _ hSw.2;go_simp <;> with_reducible rfl)
          try simp only [Act.put, List.setIfInBounds_toArray, List.set_cons_zero, List.set_cons_succ]
          refine wpAnyH_take (i := 2) (oi := { dst := some 75, op := Op.move (Operand.tmp 3), type := 3, pos := "l09_house.go:42", after := #[], guard := none }) (v := ?vvb3) rfl (by kernel_rfl) (by kernel_rfl) (by kernel_rfl) (fun _ _ _ h => h) (Or.inl ⟨by rfl, ?hyb3⟩) S0 ?restb3
          case hyb3 => (intro w hSw; have hcX := hSw.1.cell; obtain ⟨p0, p1, p2, p3, p4⟩ := HC.out _ hSw.2;go_simp <;> with_reducible rfl)
          try simp only [Act.put, List.setIfInBounds_toArray, List.set_cons_zero, List.set_cons_succ]
          refine wpAnyH_take (i := 3) (oi := { dst := some 76, op := Op.indexAddr 32 (Operand.tmp 74) (Operand.tmp 75), type := 0, pos := "l09_house.go:42", after := #[{ on := 1, ground := Ground.data }, { on := 2, ground := Ground.data }], guard := none }) (v := ?vvb4) rfl (by kernel_rfl) (by kernel_rfl) (by kernel_rfl) (fun _ _ _ h => h) (Or.inl ⟨by rfl, ?hyb4⟩) S0 ?restb4
          case hyb4 => (intro w hSw; have hcX := hSw.1.cell; obtain ⟨p0, p1, p2, p3, p4⟩ := HC.out _ hSw.2;go_simp <;> with_reducible rfl)
          try simp only [Act.put, List.setIfInBounds_toArray, List.set_cons_zero, List.set_cons_succ]
          refine wpAnyH_take (i := 4) (oi := { dst := some 77, op := Op.load 81 (Operand.tmp 76), type := 81, pos := "l09_house.go:42", after := #[{ on := 3, ground := Ground.data }], guard := none }) (v := ?vvb5) rfl (by kernel_rfl) (by kernel_rfl) (by kernel_rfl) (fun _ _ _ h => h) (Or.inl ⟨by rfl, ?hyb5⟩) S0 ?restb5
          case hyb5 => (intro w hSw; have hcX := hSw.1.cell; obtain ⟨p0, p1, p2, p3, p4⟩ := HC.out _ hSw.2;go_simp <;> with_reducible rfl)
          try simp only [Act.put, List.setIfInBounds_toArray, List.set_cons_zero, List.set_cons_succ]
          refine wpAnyH_ready (rs := [5]) (by kernel_rfl) (by simp) ?_
          refine AllReadyH.cons (o := { dst := some 78, op := Op.call { callee := Callee.value (Operand.func 50), args := #[Operand.tmp 77], argTypes := #[81] }, type := 4, pos := "l09_house.go:42", after := #[{ on := 4, ground := Ground.data }], guard := none }) rfl (fun K hK => ?_) AllReadyH.nil
          go_simp
          refine (HQ.out _ S0.2).mono ?_
          rintro e w5 ⟨rfl, hb5⟩
          replace S0 := (show Blk w5 _ _ _ ∧ Below w.heap.size w w5 from ⟨S0.1.kept hb5, S0.2.trans (hb5.mono S0.2.size)⟩)
          clear hb5
          refine hK.out _ _ S0 (fun hHeld => ?_)
          clear hK K hHeld
          try simp only [Act.put, List.setIfInBounds_toArray, List.set_cons_zero, List.set_cons_succ]
          refine wpAnyH_take (i := 6) (oi := { dst := some 79, op := Op.unOp UnOp.not 4 (Operand.tmp 78), type := 4, pos := "l09_house.go:42", after := #[{ on := 5, ground := Ground.data }], guard := none }) (v := ?vvb6) rfl (by kernel_rfl) (by kernel_rfl) (by kernel_rfl) (fun _ _ _ h => h) (Or.inl ⟨by rfl, ?hyb6⟩) S0 ?restb6
          case hyb6 => (intro w hSw; have hcX := hSw.1.cell; obtain ⟨p0, p1, p2, p3, p4⟩ := HC.out _ hSw.2;go_simp <;> with_reducible rfl)
          try simp only [Act.put, List.setIfInBounds_toArray, List.set_cons_zero, List.set_cons_succ]
          refine wpAnyH_take (i := 7) (oi := { dst := some 80, op := Op.move (Operand.tmp 79), type := 4, pos := "l09_house.go:42", after := #[{ on := 6, ground := Ground.data }, { on := 5, ground := Ground.chain }], guard := none }) (v := ?vvb7) rfl (by kernel_rfl) (by kernel_rfl) (by kernel_rfl) (fun _ _ _ h => h) (Or.inl ⟨by rfl, ?hyb7⟩) S0 ?restb7
          case hyb7 => (intro w hSw; have hcX := hSw.1.cell; obtain ⟨p0, p1, p2, p3, p4⟩ := HC.out _ hSw.2;go_simp <;> with_reducible rfl)
          try simp only [Act.put, List.setIfInBounds_toArray, List.set_cons_zero, List.set_cons_succ]
          refine wpAnyH_take (i := 8) (oi := { dst := some 81, op := Op.fieldAddr 38 (Operand.tmp 1) 4, type := 0, pos := "l09_house.go:42", after := #[{ on := 7, ground := Ground.guard }], guard := some (7, false) }) (v := ?vvb8) rfl (by kernel_rfl) (by kernel_rfl) (by kernel_rfl) (fun _ _ _ h => h) (Or.inl ⟨by rfl, ?hyb8⟩) S0 ?restb8
          case hyb8 => (intro w hSw; have hcX := hSw.1.cell; obtain ⟨p0, p1, p2, p3, p4⟩ := HC.out _ hSw.2;go_simp <;> with_reducible rfl)
          try simp only [Act.put, List.setIfInBounds_toArray, List.set_cons_zero, List.set_cons_succ]
          refine wpAnyH_take (i := 9) (oi := { dst := some 82, op := Op.load 32 (Operand.tmp 81), type := 32, pos := "l09_house.go:42", after := #[{ on := 8, ground := Ground.data }, { on := 7, ground := Ground.guard }], guard := some (7, false) }) (v := ?vvb9) rfl (by kernel_rfl) (by kernel_rfl) (by kernel_rfl) (fun _ _ _ h => h) (Or.inl ⟨by rfl, ?hyb9⟩) S0 ?restb9
          case hyb9 => (intro w hSw; have hcX := hSw.1.cell; obtain ⟨p0, p1, p2, p3, p4⟩ := HC.out _ hSw.2;go_simp <;> with_reducible rfl)
          try simp only [Act.put, List.setIfInBounds_toArray, List.set_cons_zero, List.set_cons_succ]
          refine wpAnyH_take (i := 10) (oi := { dst := some 83, op := Op.move (Operand.tmp 3), type := 3, pos := "l09_house.go:42", after := #[{ on := 7, ground := Ground.guard }], guard := some (7, false) }) (v := ?vvb10) rfl (by kernel_rfl) (by kernel_rfl) (by kernel_rfl) (fun _ _ _ h => h) (Or.inl ⟨by rfl, ?hyb10⟩) S0 ?restb10
          case hyb10 => (intro w hSw; have hcX := hSw.1.cell; obtain ⟨p0, p1, p2, p3, p4⟩ := HC.out _ hSw.2;go_simp <;> with_reducible rfl)
          try simp only [Act.put, List.setIfInBounds_toArray, List.set_cons_zero, List.set_cons_succ]
          refine wpAnyH_take (i := 11) (oi := { dst := some 84, op := Op.indexAddr 32 (Operand.tmp 82) (Operand.tmp 83), type := 0, pos := "l09_house.go:42", after := #[{ on := 9, ground := Ground.data }, { on := 10, ground := Ground.data }, { on := 7, ground := Ground.guard }], guard := some (7, false) }) (v := ?vvb11) rfl (by kernel_rfl) (by kernel_rfl) (by kernel_rfl) (fun _ _ _ h => h) (Or.inl ⟨by rfl, ?hyb11⟩) S0 ?restb11
          case hyb11 => (intro w hSw; have hcX := hSw.1.cell; obtain ⟨p0, p1, p2, p3, p4⟩ := HC.out _ hSw.2;go_simp <;> with_reducible rfl)
          try simp only [Act.put, List.setIfInBounds_toArray, List.set_cons_zero, List.set_cons_succ]
          refine wpAnyH_take (i := 12) (oi := { dst := some 85, op := Op.fieldAddr 81 (Operand.tmp 84) 0, type := 0, pos := "l09_house.go:42", after := #[{ on := 11, ground := Ground.data }, { on := 7, ground := Ground.guard }], guard := some (7, false) }) (v := ?vvb12) rfl (by kernel_rfl) (by kernel_rfl) (by kernel_rfl) (fun _ _ _ h => h) (Or.inl ⟨by rfl, ?hyb12⟩) S0 ?restb12
          case hyb12 => (intro w hSw; have hcX := hSw.1.cell; obtain ⟨p0, p1, p2, p3, p4⟩ := HC.out _ hSw.2;go_simp <;> with_reducible rfl)
          try simp only [Act.put, List.setIfInBounds_toArray, List.set_cons_zero, List.set_cons_succ]
          refine wpAnyH_take (i := 13) (oi := { dst := some 86, op := Op.load 2 (Operand.tmp 85), type := 2, pos := "l09_house.go:42", after := #[{ on := 12, ground := Ground.data }, { on := 7, ground := Ground.guard }], guard := some (7, false) }) (v := ?vvb13) rfl (by kernel_rfl) (by kernel_rfl) (by kernel_rfl) (fun _ _ _ h => h) (Or.inl ⟨by rfl, ?hyb13⟩) S0 ?restb13
          case hyb13 => (intro w hSw; have hcX := hSw.1.cell; obtain ⟨p0, p1, p2, p3, p4⟩ := HC.out _ hSw.2;go_simp <;> with_reducible rfl)
          try simp only [Act.put, List.setIfInBounds_toArray, List.set_cons_zero, List.set_cons_succ]
          refine wpAnyH_take (i := 14) (oi := { dst := some 87, op := Op.fieldAddr 38 (Operand.tmp 1) 2, type := 0, pos := "l09_house.go:42", after := #[{ on := 7, ground := Ground.guard }], guard := some (7, false) }) (v := ?vvb14) rfl (by kernel_rfl) (by kernel_rfl) (by kernel_rfl) (fun _ _ _ h => h) (Or.inl ⟨by rfl, ?hyb14⟩) S0 ?restb14
          case hyb14 => (intro w hSw; have hcX := hSw.1.cell; obtain ⟨p0, p1, p2, p3, p4⟩ := HC.out _ hSw.2;go_simp <;> with_reducible rfl)
          try simp only [Act.put, List.setIfInBounds_toArray, List.set_cons_zero, List.set_cons_succ]
          refine wpAnyH_take (i := 15) (oi := { dst := some 88, op := Op.load 2 (Operand.tmp 87), type := 2, pos := "l09_house.go:42", after := #[{ on := 14, ground := Ground.data }, { on := 7, ground := Ground.guard }], guard := some (7, false) }) (v := ?vvb15) rfl (by kernel_rfl) (by kernel_rfl) (by kernel_rfl) (fun _ _ _ h => h) (Or.inl ⟨by rfl, ?hyb15⟩) S0 ?restb15
          case hyb15 => (intro w hSw; have hcX := hSw.1.cell; obtain ⟨p0, p1, p2, p3, p4⟩ := HC.out _ hSw.2;go_simp <;> with_reducible rfl)
          try simp only [Act.put, List.setIfInBounds_toArray, List.set_cons_zero, List.set_cons_succ]
          refine wpAnyH_take (i := 16) (oi := { dst := some 89, op := Op.binOp BinOp.gtr 2 (Operand.tmp 86) (Operand.tmp 88) 2, type := 4, pos := "l09_house.go:42", after := #[{ on := 13, ground := Ground.data }, { on := 15, ground := Ground.data }, { on := 7, ground := Ground.guard }], guard := some (7, false) }) (v := ?vvb16) rfl (by kernel_rfl) (by kernel_rfl) (by kernel_rfl) (fun _ _ _ h => h) (Or.inl ⟨by rfl, ?hyb16⟩) S0 ?restb16
          case hyb16 => (intro w hSw; have hcX := hSw.1.cell; obtain ⟨p0, p1, p2, p3, p4⟩ := HC.out _ hSw.2;go_simp <;> with_reducible rfl)
          try simp only [Act.put, List.setIfInBounds_toArray, List.set_cons_zero, List.set_cons_succ]
          refine wpAnyH_take (i := 17) (oi := { dst := some 90, op := Op.pick (Operand.tmp 80) (Operand.const (Value.bool true)) (Operand.tmp 89), type := 4, pos := "l09_house.go:42", after := #[{ on := 7, ground := Ground.data }, { on := 16, ground := Ground.data }], guard := none }) (v := ?vvb17) rfl (by kernel_rfl) (by kernel_rfl) (by kernel_rfl) (fun _ _ _ h => h) (Or.inl ⟨by rfl, ?hyb17⟩) S0 ?restb17
          case hyb17 => (intro w hSw; have hcX := hSw.1.cell; obtain ⟨p0, p1, p2, p3, p4⟩ := HC.out _ hSw.2;go_simp <;> with_reducible rfl)
          try simp only [Act.put, List.setIfInBounds_toArray, List.set_cons_zero, List.set_cons_succ]
          refine wpAnyH_done (by kernel_rfl) ?_ _
          all_goals
            have HSn := Lib.hid S0
            clear S0
            go_wp2_with fail
            go_roundw
            case rel => exact ⟨i + 1, by omega, by simp, Lib.hid (HKs.out (by simpa using hle2)), HSn⟩
            case measure => simp [intOf]; omega
        · have hng : i2 < ye := by omega
          refine wp_region_held_drew (S := fun W' => Blk W' w.heap.size 38 _ ∧ Below w.heap.size w W') (by kernel_rfl) S0 (fun hHeld => ?_)
          clear hHeld
          refine wpAnyH_take (i := 0) (oi := { dst := some 73, op := Op.fieldAddr 38 (Operand.tmp 1) 4, type := 0, pos := "l09_house.go:42", after := #[], guard := none }) (v := ?vvc1) rfl (by kernel_rfl) (by kernel_rfl) (by kernel_rfl) (fun _ _ _ h => h) (Or.inl ⟨by rfl, ?hyc1⟩) S0 ?restc1
          case hyc1 => (intro w hSw; have hcX := hSw.1.cell; obtain ⟨p0, p1, p2, p3, p4⟩ := HC.out _ hSw.2;go_simp <;> with_reducible rfl)
          try simp only [Act.put, List.setIfInBounds_toArray, List.set_cons_zero, List.set_cons_succ]
          refine wpAnyH_take (i := 1) (oi := { dst := some 74, op := Op.load 32 (Operand.tmp 73), type := 32, pos := "l09_house.go:42", after := #[{ on := 0, ground := Ground.data }], guard := none }) (v := ?vvc2) rfl (by kernel_rfl) (by kernel_rfl) (by kernel_rfl) (fun _ _ _ h => h) (Or.inl ⟨by rfl, ?hyc2⟩) S0 ?restc2
          case hyc2 => (intro w hSw; have hcX := hSw.1.cell; obtain ⟨p0, p1, p2, p3, p4⟩ := HC.out _ hSw.2;go_simp <;> with_reducible rfl)
          try simp only [Act.put, List.setIfInBounds_toArray, List.set_cons_zero, List.set_cons_succ]
          refine wpAnyH_take (i := 2) (oi := { dst := some 75, op := Op.move (Operand.tmp 3), type := 3, pos := "l09_house.go:42", after := #[], guard := none }) (v := ?vvc3) rfl (by kernel_rfl) (by kernel_rfl) (by kernel_rfl) (fun _ _ _ h => h) (Or.inl ⟨by rfl, ?hyc3⟩) S0 ?restc3
          case hyc3 => (intro w hSw; have hcX := hSw.1.cell; obtain ⟨p0, p1, p2, p3, p4⟩ := HC.out _ hSw.2;go_simp <;> with_reducible rfl)
          try simp only [Act.put, List.setIfInBounds_toArray, List.set_cons_zero, List.set_cons_succ]
          refine wpAnyH_take (i := 3) (oi := { dst := some 76, op := Op.indexAddr 32 (Operand.tmp 74) (Operand.tmp 75), type := 0, pos := "l09_house.go:42", after := #[{ on := 1, ground := Ground.data }, { on := 2, ground := Ground.data }], guard := none }) (v := ?vvc4) rfl (by kernel_rfl) (by kernel_rfl) (by kernel_rfl) (fun _ _ _ h => h) (Or.inl ⟨by rfl, ?hyc4⟩) S0 ?restc4
          case hyc4 => (intro w hSw; have hcX := hSw.1.cell; obtain ⟨p0, p1, p2, p3, p4⟩ := HC.out _ hSw.2;go_simp <;> with_reducible rfl)
          try simp only [Act.put, List.setIfInBounds_toArray, List.set_cons_zero, List.set_cons_succ]
          refine wpAnyH_take (i := 4) (oi := { dst := some 77, op := Op.load 81 (Operand.tmp 76), type := 81, pos := "l09_house.go:42", after := #[{ on := 3, ground := Ground.data }], guard := none }) (v := ?vvc5) rfl (by kernel_rfl) (by kernel_rfl) (by kernel_rfl) (fun _ _ _ h => h) (Or.inl ⟨by rfl, ?hyc5⟩) S0 ?restc5
          case hyc5 => (intro w hSw; have hcX := hSw.1.cell; obtain ⟨p0, p1, p2, p3, p4⟩ := HC.out _ hSw.2;go_simp <;> with_reducible rfl)
          try simp only [Act.put, List.setIfInBounds_toArray, List.set_cons_zero, List.set_cons_succ]
          refine wpAnyH_ready (rs := [5]) (by kernel_rfl) (by simp) ?_
          refine AllReadyH.cons (o := { dst := some 78, op := Op.call { callee := Callee.value (Operand.func 50), args := #[Operand.tmp 77], argTypes := #[81] }, type := 4, pos := "l09_house.go:42", after := #[{ on := 4, ground := Ground.data }], guard := none }) rfl (fun K hK => ?_) AllReadyH.nil
          go_simp
          refine (HQ.out _ S0.2).mono ?_
          rintro e w5 ⟨rfl, hb5⟩
          replace S0 := (show Blk w5 _ _ _ ∧ Below w.heap.size w w5 from ⟨S0.1.kept hb5, S0.2.trans (hb5.mono S0.2.size)⟩)
          clear hb5
          refine hK.out _ _ S0 (fun hHeld => ?_)
          clear hK K hHeld
          try simp only [Act.put, List.setIfInBounds_toArray, List.set_cons_zero, List.set_cons_succ]
          refine wpAnyH_take (i := 6) (oi := { dst := some 79, op := Op.unOp UnOp.not 4 (Operand.tmp 78), type := 4, pos := "l09_house.go:42", after := #[{ on := 5, ground := Ground.data }], guard := none }) (v := ?vvc6) rfl (by kernel_rfl) (by kernel_rfl) (by kernel_rfl) (fun _ _ _ h => h) (Or.inl ⟨by rfl, ?hyc6⟩) S0 ?restc6
          case hyc6 => (intro w hSw; have hcX := hSw.1.cell; obtain ⟨p0, p1, p2, p3, p4⟩ := HC.out _ hSw.2;go_simp <;> with_reducible rfl)
          try simp only [Act.put, List.setIfInBounds_toArray, List.set_cons_zero, List.set_cons_succ]
          refine wpAnyH_take (i := 7) (oi := { dst := some 80, op := Op.move (Operand.tmp 79), type := 4, pos := "l09_house.go:42", after := #[{ on := 6, ground := Ground.data }, { on := 5, ground := Ground.chain }], guard := none }) (v := ?vvc7) rfl (by kernel_rfl) (by kernel_rfl) (by kernel_rfl) (fun _ _ _ h => h) (Or.inl ⟨by rfl, ?hyc7⟩) S0 ?restc7
          case hyc7 => (intro w hSw; have hcX := hSw.1.cell; obtain ⟨p0, p1, p2, p3, p4⟩ := HC.out _ hSw.2;go_simp <;> with_reducible rfl)
          try simp only [Act.put, List.setIfInBounds_toArray, List.set_cons_zero, List.set_cons_succ]
          refine wpAnyH_take (i := 8) (oi := { dst := some 81, op := Op.fieldAddr 38 (Operand.tmp 1) 4, type := 0, pos := "l09_house.go:42", after := #[{ on := 7, ground := Ground.guard }], guard := some (7, false) }) (v := ?vvc8) rfl (by kernel_rfl) (by kernel_rfl) (by kernel_rfl) (fun _ _ _ h => h) (Or.inl ⟨by rfl, ?hyc8⟩) S0 ?restc8
          case hyc8 => (intro w hSw; have hcX := hSw.1.cell; obtain ⟨p0, p1, p2, p3, p4⟩ := HC.out _ hSw.2;go_simp <;> with_reducible rfl)
          try simp only [Act.put, List.setIfInBounds_toArray, List.set_cons_zero, List.set_cons_succ]
          refine wpAnyH_take (i := 9) (oi := { dst := some 82, op := Op.load 32 (Operand.tmp 81), type := 32, pos := "l09_house.go:42", after := #[{ on := 8, ground := Ground.data }, { on := 7, ground := Ground.guard }], guard := some (7, false) }) (v := ?vvc9) rfl (by kernel_rfl) (by kernel_rfl) (by kernel_rfl) (fun _ _ _ h => h) (Or.inl ⟨by rfl, ?hyc9⟩) S0 ?restc9
          case hyc9 => (intro w hSw; have hcX := hSw.1.cell; obtain ⟨p0, p1, p2, p3, p4⟩ := HC.out _ hSw.2;go_simp <;> with_reducible rfl)
          try simp only [Act.put, List.setIfInBounds_toArray, List.set_cons_zero, List.set_cons_succ]
          refine wpAnyH_take (i := 10) (oi := { dst := some 83, op := Op.move (Operand.tmp 3), type := 3, pos := "l09_house.go:42", after := #[{ on := 7, ground := Ground.guard }], guard := some (7, false) }) (v := ?vvc10) rfl (by kernel_rfl) (by kernel_rfl) (by kernel_rfl) (fun _ _ _ h => h) (Or.inl ⟨by rfl, ?hyc10⟩) S0 ?restc10
          case hyc10 => (intro w hSw; have hcX := hSw.1.cell; obtain ⟨p0, p1, p2, p3, p4⟩ := HC.out _ hSw.2;go_simp <;> with_reducible rfl)
          try simp only [Act.put, List.setIfInBounds_toArray, List.set_cons_zero, List.set_cons_succ]
          refine wpAnyH_take (i := 11) (oi := { dst := some 84, op := Op.indexAddr 32 (Operand.tmp 82) (Operand.tmp 83), type := 0, pos := "l09_house.go:42", after := #[{ on := 9, ground := Ground.data }, { on := 10, ground := Ground.data }, { on := 7, ground := Ground.guard }], guard := some (7, false) }) (v := ?vvc11) rfl (by kernel_rfl) (by kernel_rfl) (by kernel_rfl) (fun _ _ _ h => h) (Or.inl ⟨by rfl, ?hyc11⟩) S0 ?restc11
          case hyc11 => (intro w hSw; have hcX := hSw.1.cell; obtain ⟨p0, p1, p2, p3, p4⟩ := HC.out _ hSw.2;go_simp <;> with_reducible rfl)
          try simp only [Act.put, List.setIfInBounds_toArray, List.set_cons_zero, List.set_cons_succ]
          refine wpAnyH_take (i := 12) (oi := { dst := some 85, op := Op.fieldAddr 81 (Operand.tmp 84) 0, type := 0, pos := "l09_house.go:42", after := #[{ on := 11, ground := Ground.data }, { on := 7, ground := Ground.guard }], guard := some (7, false) }) (v := ?vvc12) rfl (by kernel_rfl) (by kernel_rfl) (by kernel_rfl) (fun _ _ _ h => h) (Or.inl ⟨by rfl, ?hyc12⟩) S0 ?restc12
          case hyc12 => (intro w hSw; have hcX := hSw.1.cell; obtain ⟨p0, p1, p2, p3, p4⟩ := HC.out _ hSw.2;go_simp <;> with_reducible rfl)
          try simp only [Act.put, List.setIfInBounds_toArray, List.set_cons_zero, List.set_cons_succ]
          refine wpAnyH_take (i := 13) (oi := { dst := some 86, op := Op.load 2 (Operand.tmp 85), type := 2, pos := "l09_house.go:42", after := #[{ on := 12, ground := Ground.data }, { on := 7, ground := Ground.guard }], guard := some (7, false) }) (v := ?vvc13) rfl (by kernel_rfl) (by kernel_rfl) (by kernel_rfl) (fun _ _ _ h => h) (Or.inl ⟨by rfl, ?hyc13⟩) S0 ?restc13
          case hyc13 => (intro w hSw; have hcX := hSw.1.cell; obtain ⟨p0, p1, p2, p3, p4⟩ := HC.out _ hSw.2;go_simp <;> with_reducible rfl)
          try simp only [Act.put, List.setIfInBounds_toArray, List.set_cons_zero, List.set_cons_succ]
          refine wpAnyH_take (i := 14) (oi := { dst := some 87, op := Op.fieldAddr 38 (Operand.tmp 1) 2, type := 0, pos := "l09_house.go:42", after := #[{ on := 7, ground := Ground.guard }], guard := some (7, false) }) (v := ?vvc14) rfl (by kernel_rfl) (by kernel_rfl) (by kernel_rfl) (fun _ _ _ h => h) (Or.inl ⟨by rfl, ?hyc14⟩) S0 ?restc14
          case hyc14 => (intro w hSw; have hcX := hSw.1.cell; obtain ⟨p0, p1, p2, p3, p4⟩ := HC.out _ hSw.2;go_simp <;> with_reducible rfl)
          try simp only [Act.put, List.setIfInBounds_toArray, List.set_cons_zero, List.set_cons_succ]
          refine wpAnyH_take (i := 15) (oi := { dst := some 88, op := Op.load 2 (Operand.tmp 87), type := 2, pos := "l09_house.go:42", after := #[{ on := 14, ground := Ground.data }, { on := 7, ground := Ground.guard }], guard := some (7, false) }) (v := ?vvc15) rfl (by kernel_rfl) (by kernel_rfl) (by kernel_rfl) (fun _ _ _ h => h) (Or.inl ⟨by rfl, ?hyc15⟩) S0 ?restc15
          case hyc15 => (intro w hSw; have hcX := hSw.1.cell; obtain ⟨p0, p1, p2, p3, p4⟩ := HC.out _ hSw.2;go_simp <;> with_reducible rfl)
          try simp only [Act.put, List.setIfInBounds_toArray, List.set_cons_zero, List.set_cons_succ]
          refine wpAnyH_take (i := 16) (oi := { dst := some 89, op := Op.binOp BinOp.gtr 2 (Operand.tmp 86) (Operand.tmp 88) 2, type := 4, pos := "l09_house.go:42", after := #[{ on := 13, ground := Ground.data }, { on := 15, ground := Ground.data }, { on := 7, ground := Ground.guard }], guard := some (7, false) }) (v := ?vvc16) rfl (by kernel_rfl) (by kernel_rfl) (by kernel_rfl) (fun _ _ _ h => h) (Or.inl ⟨by rfl, ?hyc16⟩) S0 ?restc16
          case hyc16 => (intro w hSw; have hcX := hSw.1.cell; obtain ⟨p0, p1, p2, p3, p4⟩ := HC.out _ hSw.2;go_simp <;> with_reducible rfl)
          try simp only [Act.put, List.setIfInBounds_toArray, List.set_cons_zero, List.set_cons_succ]
          refine wpAnyH_take (i := 17) (oi := { dst := some 90, op := Op.pick (Operand.tmp 80) (Operand.const (Value.bool true)) (Operand.tmp 89), type := 4, pos := "l09_house.go:42", after := #[{ on := 7, ground := Ground.data }, { on := 16, ground := Ground.data }], guard := none }) (v := ?vvc17) rfl (by kernel_rfl) (by kernel_rfl) (by kernel_rfl) (fun _ _ _ h => h) (Or.inl ⟨by rfl, ?hyc17⟩) S0 ?restc17
          case hyc17 => (intro w hSw; have hcX := hSw.1.cell; obtain ⟨p0, p1, p2, p3, p4⟩ := HC.out _ hSw.2;go_simp <;> with_reducible rfl)
          try simp only [Act.put, List.setIfInBounds_toArray, List.set_cons_zero, List.set_cons_succ]
          refine wpAnyH_done (by kernel_rfl) ?_ _
          all_goals
            have HBn := Lib.hid S0.2
            clear S0
            go_wp2_with fail
            go_ret
            exact ⟨bool_ret (by rw [hr.out, HNo.out (by simp [hle2])]; simp), HBn.out⟩
    · have hi2 : i = l4.length := by omega
      have hlI : ¬ (i : Int) < (l4.length : Int) := by omega
      subst hi2
      have HPA := Lib.hid (HPy.out (fun k hk => HK.out k hk hk))
      clear HK hlt
      go_wp2_with fail
      go_loopw [4] (fun u wr => ∃ i : Nat, i ≤ l5.length ∧ u = .int .i64 (i : Int) ∧ Hid (∀ k (hk : k < l5.length), k < i → (fun x : Hd => decide (x.p ≤ (l4.length : Int))) l5[k] = true) ∧ Hid (Blk wr w.heap.size 38 #[.int .i64 i0, .int .i64 i1, .int .i64 i2, .slice (some ⟨db, doff, none⟩) l3.length cd, .slice ap l4.length cp, .slice ar l5.length cr, .slice ag l6.length cg, .slice aw l7.length cw, .slice af l8.length cf] ∧ Below w.heap.size w wr)) (fun u _ => l5.length - (intOf u).toNat)
      case atStart => exact ⟨0, Nat.zero_le _, rfl, Lib.hid (fun k _ hk => by omega), HS⟩
      case round =>
        clear HS
        obtain ⟨i, hi, rfl, HK, HS⟩ := hrel
        have cX := HS.out.1.cell
        by_cases hlt : i < l5.length
        · have hne : l5.map Hd.cl ≠ [] := fun e => by have := congrArg List.length e; rw [List.length_map] at this; simp at this; rw [this] at hlt; simp at hlt
          obtain ⟨b, off, ha, hb, HEl⟩ := KR.out hne
          subst ha
          have hlI : (i : Int) < (l5.length : Int) := by omega
          have HC := Lib.hid (fun (W : World) (hS : Below w.heap.size w W) => (Elems.below HEl hS hb).hd i hlt)
          have HKs := Lib.hid (fun (e : (fun x : Hd => decide (x.p ≤ (l4.length : Int))) l5[i] = true) => upto_succ (P := (fun x : Hd => decide (x.p ≤ (l4.length : Int)))) hlt HK.out e)
          have HNo := Lib.hid (HRn.out i hlt)
          dsimp only at HKs HNo
          clear HEl hne
          generalize l5[i] = y at *
          obtain ⟨y0, y1, y2, y3, y4, y5, y6, y7, y8⟩ := y
          dsimp only at *
          go_upto_region 11 with fail
          have S0 := And.intro HS.out.1.drew HS.out.2.drew
          clear HS cX
          by_cases hle2 : y0 ≤ (l4.length : Int)
          · have hng : ¬ (l4.length : Int) < y0 := by omega
            refine wp_region_held_drew (S := fun W' => Blk W' w.heap.size 38 _ ∧ Below w.heap.size w W') (by kernel_rfl) S0 (fun hHeld => ?_)
            clear hHeld
            refine wpAnyH_take (i := 0) (oi := { dst := some 98, op := Op.fieldAddr 38 (Operand.tmp 1) 5, type := 0, pos := "l09_house.go:47", after := #[], guard := none }) (v := ?vvd1) rfl (by kernel_rfl) (by kernel_rfl) (by kernel_rfl) (fun _ _ _ h => h) (Or.inl ⟨by rfl, ?hyd1⟩) S0 ?restd1
            case hyd1 => (intro w hSw; have hcX := hSw.1.cell; obtain ⟨p0, p1, p2, p3, p4, p5, p6, p7, p8⟩ := HC.out _ hSw.2;go_simp <;> with_reducible rfl)
            try simp only [Act.put, List.setIfInBounds_toArray, List.set_cons_zero, List.set_cons_succ]
            refine wpAnyH_take (i := 1) (oi := { dst := some 99, op := Op.load 33 (Operand.tmp 98), type := 33, pos := "l09_house.go:47", after := #[{ on := 0, ground := Ground.data }], guard := none }) (v := ?vvd2) rfl (by kernel_rfl) (by kernel_rfl) (by kernel_rfl) (fun _ _ _ h => h) (Or.inl ⟨by rfl, ?hyd2⟩) S0 ?restd2
            case hyd2 => (intro w hSw; have hcX := hSw.1.cell; obtain ⟨p0, p1, p2, p3, p4, p5, p6, p7, p8⟩ := HC.out _ hSw.2;go_simp <;> with_reducible rfl)
            try simp only [Act.put, List.setIfInBounds_toArray, List.set_cons_zero, List.set_cons_succ]
            refine wpAnyH_take (i := 2) (oi := { dst := some 100, op := Op.move (Operand.tmp 4), type := 3, pos := "l09_house.go:47", after := #[], guard := none }) (v := ?vvd3) rfl (by kernel_rfl) (by kernel_rfl) (by kernel_rfl) (fun _ _ _ h => h) (Or.inl ⟨by rfl, ?hyd3⟩) S0 ?restd3
            case hyd3 => (intro w hSw; have hcX := hSw.1.cell; obtain ⟨p0, p1, p2, p3, p4, p5, p6, p7, p8⟩ := HC.out _ hSw.2;go_simp <;> with_reducible rfl)
            try simp only [Act.put, List.setIfInBounds_toArray, List.set_cons_zero, List.set_cons_succ]
            refine wpAnyH_take (i := 3) (oi := { dst := some 101, op := Op.indexAddr 33 (Operand.tmp 99) (Operand.tmp 100), type := 0, pos := "l09_house.go:47", after := #[{ on := 1, ground := Ground.data }, { on := 2, ground := Ground.data }], guard := none }) (v := ?vvd4) rfl (by kernel_rfl) (by kernel_rfl) (by kernel_rfl) (fun _ _ _ h => h) (Or.inl ⟨by rfl, ?hyd4⟩) S0 ?restd4
            case hyd4 => (intro w hSw; have hcX := hSw.1.cell; obtain ⟨p0, p1, p2, p3, p4, p5, p6, p7, p8⟩ := HC.out _ hSw.2;go_simp <;> with_reducible rfl)
            try simp only [Act.put, List.setIfInBounds_toArray, List.set_cons_zero, List.set_cons_succ]
            refine wpAnyH_take (i := 4) (oi := { dst := some 102, op := Op.fieldAddr 83 (Operand.tmp 101) 0, type := 0, pos := "l09_house.go:47", after := #[{ on := 3, ground := Ground.data }], guard := none }) (v := ?vvd5) rfl (by kernel_rfl) (by kernel_rfl) (by kernel_rfl) (fun _ _ _ h => h) (Or.inl ⟨by rfl, ?hyd5⟩) S0 ?restd5
            case hyd5 => (intro w hSw; have hcX := hSw.1.cell; obtain ⟨p0, p1, p2, p3, p4, p5, p6, p7, p8⟩ := HC.out _ hSw.2;go_simp <;> with_reducible rfl)
            try simp only [Act.put, List.setIfInBounds_toArray, List.set_cons_zero, List.set_cons_succ]
            refine wpAnyH_take (i := 5) (oi := { dst := some 103, op := Op.load 2 (Operand.tmp 102), type := 2, pos := "l09_house.go:47", after := #[{ on := 4, ground := Ground.data }], guard := none }) (v := ?vvd6) rfl (by kernel_rfl) (by kernel_rfl) (by kernel_rfl) (fun _ _ _ h => h) (Or.inl ⟨by rfl, ?hyd6⟩) S0 ?restd6
            case hyd6 => (intro w hSw; have hcX := hSw.1.cell; obtain ⟨p0, p1, p2, p3, p4, p5, p6, p7, p8⟩ := HC.out _ hSw.2;go_simp <;> with_reducible rfl)
            try simp only [Act.put, List.setIfInBounds_toArray, List.set_cons_zero, List.set_cons_succ]
            refine wpAnyH_take (i := 6) (oi := { dst := some 104, op := Op.fieldAddr 38 (Operand.tmp 1) 4, type := 0, pos := "l09_house.go:47", after := #[], guard := none }) (v := ?vvd7) rfl (by kernel_rfl) (by kernel_rfl) (by kernel_rfl) (fun _ _ _ h => h) (Or.inl ⟨by rfl, ?hyd7⟩) S0 ?restd7
            case hyd7 => (intro w hSw; have hcX := hSw.1.cell; obtain ⟨p0, p1, p2, p3, p4, p5, p6, p7, p8⟩ := HC.out _ hSw.2;go_simp <;> with_reducible rfl)
            try simp only [Act.put, List.setIfInBounds_toArray, List.set_cons_zero, List.set_cons_succ]
            refine wpAnyH_take (i := 7) (oi := { dst := some 105, op := Op.load 32 (Operand.tmp 104), type := 32, pos := "l09_house.go:47", after := #[{ on := 6, ground := Ground.data }], guard := none }) (v := ?vvd8) rfl (by kernel_rfl) (by kernel_rfl) (by kernel_rfl) (fun _ _ _ h => h) (Or.inl ⟨by rfl, ?hyd8⟩) S0 ?restd8
            case hyd8 => (intro w hSw; have hcX := hSw.1.cell; obtain ⟨p0, p1, p2, p3, p4, p5, p6, p7, p8⟩ := HC.out _ hSw.2;go_simp <;> with_reducible rfl)
            try simp only [Act.put, List.setIfInBounds_toArray, List.set_cons_zero, List.set_cons_succ]
            refine wpAnyH_take (i := 8) (oi := { dst := some 106, op := Op.call { callee := Callee.builtin Builtin.len, args := #[Operand.tmp 105], argTypes := #[32] }, type := 3, pos := "l09_house.go:47", after := #[{ on := 7, ground := Ground.data }], guard := none }) (v := ?vvd9) rfl (by kernel_rfl) (by kernel_rfl) (by kernel_rfl) (fun _ _ _ h => h) (Or.inl ⟨by rfl, ?hyd9⟩) S0 ?restd9
            case hyd9 => (intro w hSw; have hcX := hSw.1.cell; obtain ⟨p0, p1, p2, p3, p4, p5, p6, p7, p8⟩ := HC.out _ hSw.2;go_simp <;> with_reducible rfl)
            try simp only [Act.put, List.setIfInBounds_toArray, List.set_cons_zero, List.set_cons_succ]
            refine wpAnyH_take (i := 9) (oi := { dst := some 107, op := Op.binOp BinOp.gtr 2 (Operand.tmp 103) (Operand.tmp 106) 2, type := 4, pos := "l09_house.go:47", after := #[{ on := 5, ground := Ground.data }, { on := 8, ground := Ground.data }], guard := none }) (v := ?vvd10) rfl (by kernel_rfl) (by kernel_rfl) (by kernel_rfl) (fun _ _ _ h => h) (Or.inl ⟨by rfl, ?hyd10⟩) S0 ?restd10
            case hyd10 => (intro w hSw; have hcX := hSw.1.cell; obtain ⟨p0, p1, p2, p3, p4, p5, p6, p7, p8⟩ := HC.out _ hSw.2;go_simp <;> with_reducible rfl)
            try simp only [Act.put, List.setIfInBounds_toArray, List.set_cons_zero, List.set_cons_succ]
            refine wpAnyH_done (by kernel_rfl) ?_ _
            all_goals
              have HSn := Lib.hid S0
              clear S0
              go_wp2_with fail
              go_roundw
              case rel => exact ⟨i + 1, by omega, by simp, Lib.hid (HKs.out (by simpa using hle2)), HSn⟩
              case measure => simp [intOf]; omega
          · have hng : (l4.length : Int) < y0 := by omega
            refine wp_region_held_drew (S := fun W' => Blk W' w.heap.size 38 _ ∧ Below w.heap.size w W') (by kernel_rfl) S0 (fun hHeld => ?_)
            clear hHeld
            refine wpAnyH_take (i := 0) (oi := { dst := some 98, op := Op.fieldAddr 38 (Operand.tmp 1) 5, type := 0, pos := "l09_house.go:47", after := #[], guard := none }) (v := ?vve1) rfl (by kernel_rfl) (by kernel_rfl) (by kernel_rfl) (fun _ _ _ h => h) (Or.inl ⟨by rfl, ?hye1⟩) S0 ?reste1
            case hye1 => (intro w hSw; have hcX := hSw.1.cell; obtain ⟨p0, p1, p2, p3, p4, p5, p6, p7, p8⟩ := HC.out _ hSw.2;go_simp <;> with_reducible rfl)
            try simp only [Act.put, List.setIfInBounds_toArray, List.set_cons_zero, List.set_cons_succ]
            refine wpAnyH_take (i := 1) (oi := { dst := some 99, op := Op.load 33 (Operand.tmp 98), type := 33, pos := "l09_house.go:47", after := #[{ on := 0, ground := Ground.data }], guard := none }) (v := ?vve2) rfl (by kernel_rfl) (by kernel_rfl) (by kernel_rfl) (fun _ _ _ h => h) (Or.inl ⟨by rfl, ?hye2⟩) S0 ?reste2
            case hye2 => (intro w hSw; have hcX := hSw.1.cell; obtain ⟨p0, p1, p2, p3, p4, p5, p6, p7, p8⟩ := HC.out _ hSw.2;go_simp <;> with_reducible rfl)
            try simp only [Act.put, List.setIfInBounds_toArray, List.set_cons_zero, List.set_cons_succ]
            refine wpAnyH_take (i := 2) (oi := { dst := some 100, op := Op.move (Operand.tmp 4), type := 3, pos := "l09_house.go:47", after := #[], guard := none }) (v := ?vve3) rfl (by kernel_rfl) (by kernel_rfl) (by kernel_rfl) (fun _ _ _ h => h) (Or.inl ⟨by rfl, ?hye3⟩) S0 ?reste3
            case hye3 => (intro w hSw; have hcX := hSw.1.cell; obtain ⟨p0, p1, p2, p3, p4, p5, p6, p7, p8⟩ := HC.out _ hSw.2;go_simp <;> with_reducible rfl)
            try simp only [Act.put, List.setIfInBounds_toArray, List.set_cons_zero, List.set_cons_succ]
            refine wpAnyH_take (i := 3) (oi := { dst := some 101, op := Op.indexAddr 33 (Operand.tmp 99) (Operand.tmp 100), type := 0, pos := "l09_house.go:47", after := #[{ on := 1, ground := Ground.data }, { on := 2, ground := Ground.data }], guard := none }) (v := ?vve4) rfl (by kernel_rfl) (by kernel_rfl) (by kernel_rfl) (fun _ _ _ h => h) (Or.inl ⟨by rfl, ?hye4⟩) S0 ?reste4
            case hye4 => (intro w hSw; have hcX := hSw.1.cell; obtain ⟨p0, p1, p2, p3, p4, p5, p6, p7, p8⟩ := HC.out _ hSw.2;go_simp <;> with_reducible rfl)
            try simp only [Act.put, List.setIfInBounds_toArray, List.set_cons_zero, List.set_cons_succ]
            refine wpAnyH_take (i := 4) (oi := { dst := some 102, op := Op.fieldAddr 83 (Operand.tmp 101) 0, type := 0, pos := "l09_house.go:47", after := #[{ on := 3, ground := Ground.data }], guard := none }) (v := ?vve5) rfl (by kernel_rfl) (by kernel_rfl) (by kernel_rfl) (fun _ _ _ h => h) (Or.inl ⟨by rfl, ?hye5⟩) S0 ?reste5
            case hye5 => (intro w hSw; have hcX := hSw.1.cell; obtain ⟨p0, p1, p2, p3, p4, p5, p6, p7, p8⟩ := HC.out _ hSw.2;go_simp <;> with_reducible rfl)
            try simp only [Act.put, List.setIfInBounds_toArray, List.set_cons_zero, List.set_cons_succ]
            refine wpAnyH_take (i := 5) (oi := { dst := some 103, op := Op.load 2 (Operand.tmp 102), type := 2, pos := "l09_house.go:47", after := #[{ on := 4, ground := Ground.data }], guard := none }) (v := ?vve6) rfl (by kernel_rfl) (by kernel_rfl) (by kernel_rfl) (fun _ _ _ h => h) (Or.inl ⟨by rfl, ?hye6⟩) S0 ?reste6
            case hye6 => (intro w hSw; have hcX := hSw.1.cell; obtain ⟨p0, p1, p2, p3, p4, p5, p6, p7, p8⟩ := HC.out _ hSw.2;go_simp <;> with_reducible rfl)
            try simp only [Act.put, List.setIfInBounds_toArray, List.set_cons_zero, List.set_cons_succ]
            refine wpAnyH_take (i := 6) (oi := { dst := some 104, op := Op.fieldAddr 38 (Operand.tmp 1) 4, type := 0, pos := "l09_house.go:47", after := #[], guard := none }) (v := ?vve7) rfl (by kernel_rfl) (by kernel_rfl) (by kernel_rfl) (fun _ _ _ h => h) (Or.inl ⟨by rfl, ?hye7⟩) S0 ?reste7
            case hye7 => (intro w hSw; have hcX := hSw.1.cell; obtain ⟨p0, p1, p2, p3, p4, p5, p6, p7, p8⟩ := HC.out _ hSw.2;go_simp <;> with_reducible rfl)
            try simp only [Act.put, List.setIfInBounds_toArray, List.set_cons_zero, List.set_cons_succ]
            refine wpAnyH_take (i := 7) (oi := { dst := some 105, op := Op.load 32 (Operand.tmp 104), type := 32, pos := "l09_house.go:47", after := #[{ on := 6, ground := Ground.data }], guard := none }) (v := ?vve8) rfl (by kernel_rfl) (by kernel_rfl) (by kernel_rfl) (fun _ _ _ h => h) (Or.inl ⟨by rfl, ?hye8⟩) S0 ?reste8
            case hye8 => (intro w hSw; have hcX := hSw.1.cell; obtain ⟨p0, p1, p2, p3, p4, p5, p6, p7, p8⟩ := HC.out _ hSw.2;go_simp <;> with_reducible rfl)
            try simp only [Act.put, List.setIfInBounds_toArray, List.set_cons_zero, List.set_cons_succ]
            refine wpAnyH_take (i := 8) (oi := { dst := some 106, op := Op.call { callee := Callee.builtin Builtin.len, args := #[Operand.tmp 105], argTypes := #[32] }, type := 3, pos := "l09_house.go:47", after := #[{ on := 7, ground := Ground.data }], guard := none }) (v := ?vve9) rfl (by kernel_rfl) (by kernel_rfl) (by kernel_rfl) (fun _ _ _ h => h) (Or.inl ⟨by rfl, ?hye9⟩) S0 ?reste9
            case hye9 => (intro w hSw; have hcX := hSw.1.cell; obtain ⟨p0, p1, p2, p3, p4, p5, p6, p7, p8⟩ := HC.out _ hSw.2;go_simp <;> with_reducible rfl)
            try simp only [Act.put, List.setIfInBounds_toArray, List.set_cons_zero, List.set_cons_succ]
            refine wpAnyH_take (i := 9) (oi := { dst := some 107, op := Op.binOp BinOp.gtr 2 (Operand.tmp 103) (Operand.tmp 106) 2, type := 4, pos := "l09_house.go:47", after := #[{ on := 5, ground := Ground.data }, { on := 8, ground := Ground.data }], guard := none }) (v := ?vve10) rfl (by kernel_rfl) (by kernel_rfl) (by kernel_rfl) (fun _ _ _ h => h) (Or.inl ⟨by rfl, ?hye10⟩) S0 ?reste10
            case hye10 => (intro w hSw; have hcX := hSw.1.cell; obtain ⟨p0, p1, p2, p3, p4, p5, p6, p7, p8⟩ := HC.out _ hSw.2;go_simp <;> with_reducible rfl)
            try simp only [Act.put, List.setIfInBounds_toArray, List.set_cons_zero, List.set_cons_succ]
            refine wpAnyH_done (by kernel_rfl) ?_ _
            all_goals
              have HBn := Lib.hid S0.2
              clear S0
              go_wp2_with fail
              go_ret
              exact ⟨bool_ret (by rw [hr.out, HPA.out, HNo.out (by simpa using hng)]; simp), HBn.out⟩
        · have hi2 : i = l5.length := by omega
          have hlI : ¬ (i : Int) < (l5.length : Int) := by omega
          subst hi2
          have HRA := Lib.hid (HRy.out (fun k hk => HK.out k hk hk))
          clear HK hlt
          go_wp2_with fail
          go_loopw [5, 6] (fun u _ wr => ∃ i : Nat, i ≤ l8.length ∧ u = .int .i64 (i : Int) ∧ Hid (∀ k (hk : k < l8.length), k < i → (fzFits i0 l3) l8[k] = true) ∧ Hid (Blk wr w.heap.size 38 #[.int .i64 i0, .int .i64 i1, .int .i64 i2, .slice (some ⟨db, doff, none⟩) l3.length cd, .slice ap l4.length cp, .slice ar l5.length cr, .slice ag l6.length cg, .slice aw l7.length cw, .slice af l8.length cf] ∧ Below w.heap.size w wr)) (fun u _ _ => l8.length - (intOf u).toNat)
          case atStart => exact ⟨0, Nat.zero_le _, rfl, Lib.hid (fun k _ hk => by omega), HS⟩
          case round =>
            clear HS
            obtain ⟨i, hi, rfl, HK, HS⟩ := hrel
            have cX := HS.out.1.cell
            by_cases hlt : i < l8.length
            · have hne : l8.map Fz.cl ≠ [] := fun e => by have := congrArg List.length e; rw [List.length_map] at this; simp at this; rw [this] at hlt; simp at hlt
              obtain ⟨b, off, ha, hb, HEl⟩ := KF.out hne
              subst ha
              have hlI : (i : Int) < (l8.length : Int) := by omega
              have HC := Lib.hid (fun (W : World) (hS : Below w.heap.size w W) => (Elems.below HEl hS hb).fz i hlt)
              have HKs := Lib.hid (fun (e : (fzFits i0 l3) l8[i] = true) => upto_succ (P := (fzFits i0 l3)) hlt HK.out e)
              have HNo := Lib.hid (HFn.out i hlt)
              have HFr := Lib.hid (HFx.out i hlt)
              have S1 : Blk (wr.alloc (.cells (l8[i]).ar 85)) w.heap.size 38 _ ∧ Blk (wr.alloc (.cells (l8[i]).ar 85)) wr.heap.size 85 (l8[i]).ar ∧ Below w.heap.size w (wr.alloc (.cells (l8[i]).ar 85)) := ⟨HS.out.1.alloc _, Blk.new _ _ _, HS.out.2.alloc HS.out.2.size _⟩
              obtain ⟨p0, p1, p2, p3⟩ := HC.out _ HS.out.2
              unfold Fz.ar at S1
              clear HEl hne HC
              generalize l8[i] = y at *
              obtain ⟨yv, ym, yh, yd⟩ := y
              dsimp only at *
              go_upto_region 17 with fail
              generalize wr.alloc (.cells #[.int .i64 yv, .int .i64 ym, .int .i64 yh, .int .i64 yd] 85) = W6 at *
              have S0 := (show Blk W6.drew _ _ _ ∧ Blk W6.drew _ _ _ ∧ Below w.heap.size w W6.drew from ⟨S1.1.drew, S1.2.1.drew, S1.2.2.drew⟩)
              clear HS cX S1 p0 p1 p2 p3
              obtain ⟨hv1, hd0, hd4⟩ := fz_nums HFr.out
              have hHd := HD4'.out
              clear HFr
              by_cases hh : yh = i0
              · subst hh
                by_cases hd : 0 < yd
                · obtain ⟨k, rfl⟩ : ∃ k : Nat, yd = (k : Int) + 1 := ⟨(yd - 1).toNat, by omega⟩
                  have hk : k < l3.length := by omega
                  have hrm : roomAt l3 ((k : Int) + 1) = l3[k] := by
                    rw [roomAt_door hHd (by omega) (by omega) (by omega)]
                    simp
                  have hkw : IntKind.i64.wrap (k : Int) = (k : Int) := by simp only [IntKind.wrap_i64]; omega
                  have hk4 : (k : Int) < (l3.length : Int) := by omega
                  have hk44 : (k : Int) < 4 := by omega
                  have HDk := Lib.hid (fun (W : World) (hS : Below w.heap.size w W) => HDc.out W hS k hk)
                  generalize l3[k] = rm at *
                  by_cases hv : rm = yv
                  · subst hv
                    refine wp_region_held_drew (S := fun W' => Blk W' w.heap.size 38 _ ∧ Blk W' wr.heap.size 85 _ ∧ Below w.heap.size w W') (by kernel_rfl) S0 (fun hHeld => ?_)
                    clear hHeld
                    refine wpAnyH_take (i := 0) (oi := { dst := some 120, op := Op.fieldAddr 85 (Operand.tmp 6) 2, type := 0, pos := "l09_house.go:53", after := #[], guard := none }) (v := ?vvf1) rfl (by kernel_rfl) (by kernel_rfl) (by kernel_rfl) (fun _ _ _ h => h) (Or.inl ⟨by rfl, ?hyf1⟩) S0 ?restf1
                    case hyf1 => (intro w hSw; have hcX := hSw.1.cell; have hcY := hSw.2.1.cell; have hdk := HDk.out _ hSw.2.2;go_simp <;> with_reducible rfl)
                    try simp only [Act.put, List.setIfInBounds_toArray, List.set_cons_zero, List.set_cons_succ]
                    refine wpAnyH_take (i := 1) (oi := { dst := some 121, op := Op.load 2 (Operand.tmp 120), type := 2, pos := "l09_house.go:53", after := #[{ on := 0, ground := Ground.data }], guard := none }) (v := ?vvf2) rfl (by kernel_rfl) (by kernel_rfl) (by kernel_rfl) (fun _ _ _ h => h) (Or.inl ⟨by rfl, ?hyf2⟩) S0 ?restf2
                    case hyf2 => (intro w hSw; have hcX := hSw.1.cell; have hcY := hSw.2.1.cell; have hdk := HDk.out _ hSw.2.2;go_simp <;> with_reducible rfl)
                    try simp only [Act.put, List.setIfInBounds_toArray, List.set_cons_zero, List.set_cons_succ]
                    refine wpAnyH_take (i := 2) (oi := { dst := some 122, op := Op.fieldAddr 38 (Operand.tmp 1) 0, type := 0, pos := "l09_house.go:53", after := #[], guard := none }) (v := ?vvf3) rfl (by kernel_rfl) (by kernel_rfl) (by kernel_rfl) (fun _ _ _ h => h) (Or.inl ⟨by rfl, ?hyf3⟩) S0 ?restf3
                    case hyf3 => (intro w hSw; have hcX := hSw.1.cell; have hcY := hSw.2.1.cell; have hdk := HDk.out _ hSw.2.2;go_simp <;> with_reducible rfl)
                    try simp only [Act.put, List.setIfInBounds_toArray, List.set_cons_zero, List.set_cons_succ]
                    refine wpAnyH_take (i := 3) (oi := { dst := some 123, op := Op.load 2 (Operand.tmp 122), type := 2, pos := "l09_house.go:53", after := #[{ on := 2, ground := Ground.data }], guard := none }) (v := ?vvf4) rfl (by kernel_rfl) (by kernel_rfl) (by kernel_rfl) (fun _ _ _ h => h) (Or.inl ⟨by rfl, ?hyf4⟩) S0 ?restf4
                    case hyf4 => (intro w hSw; have hcX := hSw.1.cell; have hcY := hSw.2.1.cell; have hdk := HDk.out _ hSw.2.2;go_simp <;> with_reducible rfl)
                    try simp only [Act.put, List.setIfInBounds_toArray, List.set_cons_zero, List.set_cons_succ]
                    refine wpAnyH_take (i := 4) (oi := { dst := some 124, op := Op.binOp BinOp.eql 2 (Operand.tmp 121) (Operand.tmp 123) 2, type := 4, pos := "l09_house.go:53", after := #[{ on := 1, ground := Ground.data }, { on := 3, ground := Ground.data }], guard := none }) (v := ?vvf5) rfl (by kernel_rfl) (by kernel_rfl) (by kernel_rfl) (fun _ _ _ h => h) (Or.inl ⟨by rfl, ?hyf5⟩) S0 ?restf5
                    case hyf5 => (intro w hSw; have hcX := hSw.1.cell; have hcY := hSw.2.1.cell; have hdk := HDk.out _ hSw.2.2;go_simp <;> with_reducible rfl)
                    try simp only [Act.put, List.setIfInBounds_toArray, List.set_cons_zero, List.set_cons_succ]
                    refine wpAnyH_take (i := 5) (oi := { dst := some 125, op := Op.fieldAddr 85 (Operand.tmp 6) 3, type := 0, pos := "l09_house.go:53", after := #[], guard := none }) (v := ?vvf6) rfl (by kernel_rfl) (by kernel_rfl) (by kernel_rfl) (fun _ _ _ h => h) (Or.inl ⟨by rfl, ?hyf6⟩) S0 ?restf6
                    case hyf6 => (intro w hSw; have hcX := hSw.1.cell; have hcY := hSw.2.1.cell; have hdk := HDk.out _ hSw.2.2;go_simp <;> with_reducible rfl)
                    try simp only [Act.put, List.setIfInBounds_toArray, List.set_cons_zero, List.set_cons_succ]
                    refine wpAnyH_take (i := 6) (oi := { dst := some 126, op := Op.load 2 (Operand.tmp 125), type := 2, pos := "l09_house.go:53", after := #[{ on := 5, ground := Ground.data }], guard := none }) (v := ?vvf7) rfl (by kernel_rfl) (by kernel_rfl) (by kernel_rfl) (fun _ _ _ h => h) (Or.inl ⟨by rfl, ?hyf7⟩) S0 ?restf7
                    case hyf7 => (intro w hSw; have hcX := hSw.1.cell; have hcY := hSw.2.1.cell; have hdk := HDk.out _ hSw.2.2;go_simp <;> with_reducible rfl)
                    try simp only [Act.put, List.setIfInBounds_toArray, List.set_cons_zero, List.set_cons_succ]
                    refine wpAnyH_take (i := 7) (oi := { dst := some 127, op := Op.binOp BinOp.gtr 2 (Operand.tmp 126) (Operand.const (Value.int IntKind.i64 0)) 2, type := 4, pos := "l09_house.go:53", after := #[{ on := 6, ground := Ground.data }], guard := none }) (v := ?vvf8) rfl (by kernel_rfl) (by kernel_rfl) (by kernel_rfl) (fun _ _ _ h => h) (Or.inl ⟨by rfl, ?hyf8⟩) S0 ?restf8
                    case hyf8 => (intro w hSw; have hcX := hSw.1.cell; have hcY := hSw.2.1.cell; have hdk := HDk.out _ hSw.2.2;go_simp <;> with_reducible rfl)
                    try simp only [Act.put, List.setIfInBounds_toArray, List.set_cons_zero, List.set_cons_succ]
                    refine wpAnyH_take (i := 8) (oi := { dst := some 128, op := Op.binOp BinOp.neq 4 (Operand.tmp 124) (Operand.tmp 127) 4, type := 4, pos := "l09_house.go:53", after := #[{ on := 4, ground := Ground.data }, { on := 7, ground := Ground.data }], guard := none }) (v := ?vvf9) rfl (by kernel_rfl) (by kernel_rfl) (by kernel_rfl) (fun _ _ _ h => h) (Or.inl ⟨by rfl, ?hyf9⟩) S0 ?restf9
                    case hyf9 => (intro w hSw; have hcX := hSw.1.cell; have hcY := hSw.2.1.cell; have hdk := HDk.out _ hSw.2.2;go_simp <;> with_reducible rfl)
                    try simp only [Act.put, List.setIfInBounds_toArray, List.set_cons_zero, List.set_cons_succ]
                    refine wpAnyH_take (i := 9) (oi := { dst := some 129, op := Op.move (Operand.tmp 128), type := 4, pos := "l09_house.go:53", after := #[{ on := 8, ground := Ground.data }], guard := none }) (v := ?vvf10) rfl (by kernel_rfl) (by kernel_rfl) (by kernel_rfl) (fun _ _ _ h => h) (Or.inl ⟨by rfl, ?hyf10⟩) S0 ?restf10
                    case hyf10 => (intro w hSw; have hcX := hSw.1.cell; have hcY := hSw.2.1.cell; have hdk := HDk.out _ hSw.2.2;go_simp <;> with_reducible rfl)
                    try simp only [Act.put, List.setIfInBounds_toArray, List.set_cons_zero, List.set_cons_succ]
                    refine wpAnyH_take (i := 10) (oi := { dst := some 130, op := Op.fieldAddr 85 (Operand.tmp 6) 3, type := 0, pos := "l09_house.go:53", after := #[{ on := 9, ground := Ground.guard }], guard := some (9, false) }) (v := ?vvf11) rfl (by kernel_rfl) (by kernel_rfl) (by kernel_rfl) (fun _ _ _ h => h) (Or.inl ⟨by rfl, ?hyf11⟩) S0 ?restf11
                    case hyf11 => (intro w hSw; have hcX := hSw.1.cell; have hcY := hSw.2.1.cell; have hdk := HDk.out _ hSw.2.2;go_simp <;> with_reducible rfl)
                    try simp only [Act.put, List.setIfInBounds_toArray, List.set_cons_zero, List.set_cons_succ]
                    refine wpAnyH_take (i := 11) (oi := { dst := some 131, op := Op.load 2 (Operand.tmp 130), type := 2, pos := "l09_house.go:53", after := #[{ on := 10, ground := Ground.data }, { on := 9, ground := Ground.guard }], guard := some (9, false) }) (v := ?vvf12) rfl (by kernel_rfl) (by kernel_rfl) (by kernel_rfl) (fun _ _ _ h => h) (Or.inl ⟨by rfl, ?hyf12⟩) S0 ?restf12
                    case hyf12 => (intro w hSw; have hcX := hSw.1.cell; have hcY := hSw.2.1.cell; have hdk := HDk.out _ hSw.2.2;go_simp <;> with_reducible rfl)
                    try simp only [Act.put, List.setIfInBounds_toArray, List.set_cons_zero, List.set_cons_succ]
                    refine wpAnyH_take (i := 12) (oi := { dst := some 132, op := Op.binOp BinOp.gtr 2 (Operand.tmp 131) (Operand.const (Value.int IntKind.i64 0)) 2, type := 4, pos := "l09_house.go:53", after := #[{ on := 11, ground := Ground.data }, { on := 9, ground := Ground.guard }], guard := some (9, false) }) (v := ?vvf13) rfl (by kernel_rfl) (by kernel_rfl) (by kernel_rfl) (fun _ _ _ h => h) (Or.inl ⟨by rfl, ?hyf13⟩) S0 ?restf13
                    case hyf13 => (intro w hSw; have hcX := hSw.1.cell; have hcY := hSw.2.1.cell; have hdk := HDk.out _ hSw.2.2;go_simp <;> with_reducible rfl)
                    try simp only [Act.put, List.setIfInBounds_toArray, List.set_cons_zero, List.set_cons_succ]
                    refine wpAnyH_take (i := 13) (oi := { dst := some 133, op := Op.move (Operand.tmp 132), type := 4, pos := "l09_house.go:53", after := #[{ on := 12, ground := Ground.data }, { on := 9, ground := Ground.chain }, { on := 9, ground := Ground.guard }], guard := some (9, false) }) (v := ?vvf14) rfl (by kernel_rfl) (by kernel_rfl) (by kernel_rfl) (fun _ _ _ h => h) (Or.inl ⟨by rfl, ?hyf14⟩) S0 ?restf14
                    case hyf14 => (intro w hSw; have hcX := hSw.1.cell; have hcY := hSw.2.1.cell; have hdk := HDk.out _ hSw.2.2;go_simp <;> with_reducible rfl)
                    try simp only [Act.put, List.setIfInBounds_toArray, List.set_cons_zero, List.set_cons_succ]
                    refine wpAnyH_take (i := 14) (oi := { dst := some 134, op := Op.fieldAddr 38 (Operand.tmp 1) 3, type := 0, pos := "l09_house.go:53", after := #[{ on := 13, ground := Ground.guard }], guard := some (13, true) }) (v := ?vvf15) rfl (by kernel_rfl) (by kernel_rfl) (by kernel_rfl) (fun _ _ _ h => h) (Or.inl ⟨by rfl, ?hyf15⟩) S0 ?restf15
                    case hyf15 => (intro w hSw; have hcX := hSw.1.cell; have hcY := hSw.2.1.cell; have hdk := HDk.out _ hSw.2.2;go_simp <;> with_reducible rfl)
                    try simp only [Act.put, List.setIfInBounds_toArray, List.set_cons_zero, List.set_cons_succ]
                    refine wpAnyH_take (i := 15) (oi := { dst := some 135, op := Op.load 22 (Operand.tmp 134), type := 22, pos := "l09_house.go:53", after := #[{ on := 14, ground := Ground.data }, { on := 13, ground := Ground.guard }], guard := some (13, true) }) (v := ?vvf16) rfl (by kernel_rfl) (by kernel_rfl) (by kernel_rfl) (fun _ _ _ h => h) (Or.inl ⟨by rfl, ?hyf16⟩) S0 ?restf16
                    case hyf16 => (intro w hSw; have hcX := hSw.1.cell; have hcY := hSw.2.1.cell; have hdk := HDk.out _ hSw.2.2;go_simp <;> with_reducible rfl)
                    try simp only [Act.put, List.setIfInBounds_toArray, List.set_cons_zero, List.set_cons_succ]
                    refine wpAnyH_take (i := 16) (oi := { dst := some 136, op := Op.fieldAddr 85 (Operand.tmp 6) 3, type := 0, pos := "l09_house.go:53", after := #[{ on := 13, ground := Ground.guard }], guard := some (13, true) }) (v := ?vvf17) rfl (by kernel_rfl) (by kernel_rfl) (by kernel_rfl) (fun _ _ _ h => h) (Or.inl ⟨by rfl, ?hyf17⟩) S0 ?restf17
                    case hyf17 => (intro w hSw; have hcX := hSw.1.cell; have hcY := hSw.2.1.cell; have hdk := HDk.out _ hSw.2.2;go_simp <;> with_reducible rfl)
                    try simp only [Act.put, List.setIfInBounds_toArray, List.set_cons_zero, List.set_cons_succ]
                    refine wpAnyH_take (i := 17) (oi := { dst := some 137, op := Op.load 2 (Operand.tmp 136), type := 2, pos := "l09_house.go:53", after := #[{ on := 16, ground := Ground.data }, { on := 13, ground := Ground.guard }], guard := some (13, true) }) (v := ?vvf18) rfl (by kernel_rfl) (by kernel_rfl) (by kernel_rfl) (fun _ _ _ h => h) (Or.inl ⟨by rfl, ?hyf18⟩) S0 ?restf18
                    case hyf18 => (intro w hSw; have hcX := hSw.1.cell; have hcY := hSw.2.1.cell; have hdk := HDk.out _ hSw.2.2;go_simp <;> with_reducible rfl)
                    try simp only [Act.put, List.setIfInBounds_toArray, List.set_cons_zero, List.set_cons_succ]
                    refine wpAnyH_take (i := 18) (oi := { dst := some 138, op := Op.binOp BinOp.sub 2 (Operand.tmp 137) (Operand.const (Value.int IntKind.i64 1)) 2, type := 2, pos := "l09_house.go:53", after := #[{ on := 17, ground := Ground.data }, { on := 13, ground := Ground.guard }], guard := some (13, true) }) (v := ?vvf19) rfl (by kernel_rfl) (by kernel_rfl) (by kernel_rfl) (fun _ _ _ h => h) (Or.inl ⟨by rfl, ?hyf19⟩) S0 ?restf19
                    case hyf19 => (intro w hSw; have hcX := hSw.1.cell; have hcY := hSw.2.1.cell; have hdk := HDk.out _ hSw.2.2;go_simp <;> with_reducible rfl)
                    try simp only [Act.put, List.setIfInBounds_toArray, List.set_cons_zero, List.set_cons_succ]
                    refine wpAnyH_take (i := 19) (oi := { dst := some 139, op := Op.indexAddr 22 (Operand.tmp 135) (Operand.tmp 138), type := 0, pos := "l09_house.go:53", after := #[{ on := 15, ground := Ground.data }, { on := 18, ground := Ground.data }, { on := 13, ground := Ground.guard }], guard := some (13, true) }) (v := ?vvf20) rfl (by kernel_rfl) (by kernel_rfl) (by kernel_rfl) (fun _ _ _ h => h) (Or.inl ⟨by rfl, ?hyf20⟩) S0 ?restf20
                    case hyf20 => (intro w hSw; have hcX := hSw.1.cell; have hcY := hSw.2.1.cell; have hdk := HDk.out _ hSw.2.2;go_simp <;> with_reducible rfl)
                    try simp only [Act.put, List.setIfInBounds_toArray, List.set_cons_zero, List.set_cons_succ]
                    refine wpAnyH_take (i := 20) (oi := { dst := some 140, op := Op.load 2 (Operand.tmp 139), type := 2, pos := "l09_house.go:53", after := #[{ on := 19, ground := Ground.data }, { on := 13, ground := Ground.guard }], guard := some (13, true) }) (v := ?vvf21) rfl (by kernel_rfl) (by kernel_rfl) (by kernel_rfl) (fun _ _ _ h => h) (Or.inl ⟨by rfl, ?hyf21⟩) S0 ?restf21
                    case hyf21 => (intro w hSw; have hcX := hSw.1.cell; have hcY := hSw.2.1.cell; have hdk := HDk.out _ hSw.2.2;go_simp <;> with_reducible rfl)
                    try simp only [Act.put, List.setIfInBounds_toArray, List.set_cons_zero, List.set_cons_succ]
                    refine wpAnyH_take (i := 21) (oi := { dst := some 141, op := Op.fieldAddr 85 (Operand.tmp 6) 0, type := 0, pos := "l09_house.go:53", after := #[{ on := 13, ground := Ground.guard }], guard := some (13, true) }) (v := ?vvf22) rfl (by kernel_rfl) (by kernel_rfl) (by kernel_rfl) (fun _ _ _ h => h) (Or.inl ⟨by rfl, ?hyf22⟩) S0 ?restf22
                    case hyf22 => (intro w hSw; have hcX := hSw.1.cell; have hcY := hSw.2.1.cell; have hdk := HDk.out _ hSw.2.2;go_simp <;> with_reducible rfl)
                    try simp only [Act.put, List.setIfInBounds_toArray, List.set_cons_zero, List.set_cons_succ]
                    refine wpAnyH_take (i := 22) (oi := { dst := some 142, op := Op.load 2 (Operand.tmp 141), type := 2, pos := "l09_house.go:53", after := #[{ on := 21, ground := Ground.data }, { on := 13, ground := Ground.guard }], guard := some (13, true) }) (v := ?vvf23) rfl (by kernel_rfl) (by kernel_rfl) (by kernel_rfl) (fun _ _ _ h => h) (Or.inl ⟨by rfl, ?hyf23⟩) S0 ?restf23
                    case hyf23 => (intro w hSw; have hcX := hSw.1.cell; have hcY := hSw.2.1.cell; have hdk := HDk.out _ hSw.2.2;go_simp <;> with_reducible rfl)
                    try simp only [Act.put, List.setIfInBounds_toArray, List.set_cons_zero, List.set_cons_succ]
                    refine wpAnyH_take (i := 23) (oi := { dst := some 143, op := Op.binOp BinOp.neq 2 (Operand.tmp 140) (Operand.tmp 142) 2, type := 4, pos := "l09_house.go:53", after := #[{ on := 20, ground := Ground.data }, { on := 22, ground := Ground.data }, { on := 13, ground := Ground.guard }], guard := some (13, true) }) (v := ?vvf24) rfl (by kernel_rfl) (by kernel_rfl) (by kernel_rfl) (fun _ _ _ h => h) (Or.inl ⟨by rfl, ?hyf24⟩) S0 ?restf24
                    case hyf24 => (intro w hSw; have hcX := hSw.1.cell; have hcY := hSw.2.1.cell; have hdk := HDk.out _ hSw.2.2;go_simp <;> with_reducible rfl)
                    try simp only [Act.put, List.setIfInBounds_toArray, List.set_cons_zero, List.set_cons_succ]
                    refine wpAnyH_take (i := 24) (oi := { dst := some 144, op := Op.pick (Operand.tmp 133) (Operand.tmp 143) (Operand.const (Value.bool false)), type := 4, pos := "l09_house.go:53", after := #[{ on := 13, ground := Ground.data }, { on := 23, ground := Ground.data }, { on := 9, ground := Ground.guard }], guard := some (9, false) }) (v := ?vvf25) rfl (by kernel_rfl) (by kernel_rfl) (by kernel_rfl) (fun _ _ _ h => h) (Or.inl ⟨by rfl, ?hyf25⟩) S0 ?restf25
                    case hyf25 => (intro w hSw; have hcX := hSw.1.cell; have hcY := hSw.2.1.cell; have hdk := HDk.out _ hSw.2.2;go_simp <;> with_reducible rfl)
                    try simp only [Act.put, List.setIfInBounds_toArray, List.set_cons_zero, List.set_cons_succ]
                    refine wpAnyH_take (i := 25) (oi := { dst := some 145, op := Op.pick (Operand.tmp 129) (Operand.const (Value.bool true)) (Operand.tmp 144), type := 4, pos := "l09_house.go:53", after := #[{ on := 9, ground := Ground.data }, { on := 24, ground := Ground.data }], guard := none }) (v := ?vvf26) rfl (by kernel_rfl) (by kernel_rfl) (by kernel_rfl) (fun _ _ _ h => h) (Or.inl ⟨by rfl, ?hyf26⟩) S0 ?restf26
                    case hyf26 => (intro w hSw; have hcX := hSw.1.cell; have hcY := hSw.2.1.cell; have hdk := HDk.out _ hSw.2.2;go_simp <;> with_reducible rfl)
                    try simp only [Act.put, List.setIfInBounds_toArray, List.set_cons_zero, List.set_cons_succ]
                    refine wpAnyH_done (by kernel_rfl) ?_ _
                    all_goals
                      have HSn := Lib.hid (And.intro S0.1 S0.2.2)
                      clear S0
                      go_wp2_with fail
                      go_roundw
                      case rel => exact ⟨i + 1, by omega, by simp, Lib.hid (HKs.out (by unfold fzFits; rw [if_pos rfl, hrm]; simp)), HSn⟩
                      case measure => simp [intOf]; omega
                  · have hvX : (rm == yv) = false := by simpa using hv
                    have hvY : decide (rm = yv) = false := decide_eq_false hv
                    refine wp_region_held_drew (S := fun W' => Blk W' w.heap.size 38 _ ∧ Blk W' wr.heap.size 85 _ ∧ Below w.heap.size w W') (by kernel_rfl) S0 (fun hHeld => ?_)
                    clear hHeld
                    refine wpAnyH_take (i := 0) (oi := { dst := some 120, op := Op.fieldAddr 85 (Operand.tmp 6) 2, type := 0, pos := "l09_house.go:53", after := #[], guard := none }) (v := ?vvg1) rfl (by kernel_rfl) (by kernel_rfl) (by kernel_rfl) (fun _ _ _ h => h) (Or.inl ⟨by rfl, ?hyg1⟩) S0 ?restg1
                    case hyg1 => (intro w hSw; have hcX := hSw.1.cell; have hcY := hSw.2.1.cell; have hdk := HDk.out _ hSw.2.2;go_simp <;> with_reducible rfl)
                    try simp only [Act.put, List.setIfInBounds_toArray, List.set_cons_zero, List.set_cons_succ]
                    refine wpAnyH_take (i := 1) (oi := { dst := some 121, op := Op.load 2 (Operand.tmp 120), type := 2, pos := "l09_house.go:53", after := #[{ on := 0, ground := Ground.data }], guard := none }) (v := ?vvg2) rfl (by kernel_rfl) (by kernel_rfl) (by kernel_rfl) (fun _ _ _ h => h) (Or.inl ⟨by rfl, ?hyg2⟩) S0 ?restg2
                    case hyg2 => (intro w hSw; have hcX := hSw.1.cell; have hcY := hSw.2.1.cell; have hdk := HDk.out _ hSw.2.2;go_simp <;> with_reducible rfl)
                    try simp only [Act.put, List.setIfInBounds_toArray, List.set_cons_zero, List.set_cons_succ]
                    refine wpAnyH_take (i := 2) (oi := { dst := some 122, op := Op.fieldAddr 38 (Operand.tmp 1) 0, type := 0, pos := "l09_house.go:53", after := #[], guard := none }) (v := ?vvg3) rfl (by kernel_rfl) (by kernel_rfl) (by kernel_rfl) (fun _ _ _ h => h) (Or.inl ⟨by rfl, ?hyg3⟩) S0 ?restg3
                    case hyg3 => (intro w hSw; have hcX := hSw.1.cell; have hcY := hSw.2.1.cell; have hdk := HDk.out _ hSw.2.2;go_simp <;> with_reducible rfl)
                    try simp only [Act.put, List.setIfInBounds_toArray, List.set_cons_zero, List.set_cons_succ]
                    refine wpAnyH_take (i := 3) (oi := { dst := some 123, op := Op.load 2 (Operand.tmp 122), type := 2, pos := "l09_house.go:53", after := #[{ on := 2, ground := Ground.data }], guard := none }) (v := ?vvg4) rfl (by kernel_rfl) (by kernel_rfl) (by kernel_rfl) (fun _ _ _ h => h) (Or.inl ⟨by rfl, ?hyg4⟩) S0 ?restg4
                    case hyg4 => (intro w hSw; have hcX := hSw.1.cell; have hcY := hSw.2.1.cell; have hdk := HDk.out _ hSw.2.2;go_simp <;> with_reducible rfl)
                    try simp only [Act.put, List.setIfInBounds_toArray, List.set_cons_zero, List.set_cons_succ]
                    refine wpAnyH_take (i := 4) (oi := { dst := some 124, op := Op.binOp BinOp.eql 2 (Operand.tmp 121) (Operand.tmp 123) 2, type := 4, pos := "l09_house.go:53", after := #[{ on := 1, ground := Ground.data }, { on := 3, ground := Ground.data }], guard := none }) (v := ?vvg5) rfl (by kernel_rfl) (by kernel_rfl) (by kernel_rfl) (fun _ _ _ h => h) (Or.inl ⟨by rfl, ?hyg5⟩) S0 ?restg5
                    case hyg5 => (intro w hSw; have hcX := hSw.1.cell; have hcY := hSw.2.1.cell; have hdk := HDk.out _ hSw.2.2;go_simp <;> with_reducible rfl)
                    try simp only [Act.put, List.setIfInBounds_toArray, List.set_cons_zero, List.set_cons_succ]
                    refine wpAnyH_take (i := 5) (oi := { dst := some 125, op := Op.fieldAddr 85 (Operand.tmp 6) 3, type := 0, pos := "l09_house.go:53", after := #[], guard := none }) (v := ?vvg6) rfl (by kernel_rfl) (by kernel_rfl) (by kernel_rfl) (fun _ _ _ h => h) (Or.inl ⟨by rfl, ?hyg6⟩) S0 ?restg6
                    case hyg6 => (intro w hSw; have hcX := hSw.1.cell; have hcY := hSw.2.1.cell; have hdk := HDk.out _ hSw.2.2;go_simp <;> with_reducible rfl)
                    try simp only [Act.put, List.setIfInBounds_toArray, List.set_cons_zero, List.set_cons_succ]
                    refine wpAnyH_take (i := 6) (oi := { dst := some 126, op := Op.load 2 (Operand.tmp 125), type := 2, pos := "l09_house.go:53", after := #[{ on := 5, ground := Ground.data }], guard := none }) (v := ?vvg7) rfl (by kernel_rfl) (by kernel_rfl) (by kernel_rfl) (fun _ _ _ h => h) (Or.inl ⟨by rfl, ?hyg7⟩) S0 ?restg7
                    case hyg7 => (intro w hSw; have hcX := hSw.1.cell; have hcY := hSw.2.1.cell; have hdk := HDk.out _ hSw.2.2;go_simp <;> with_reducible rfl)
                    try simp only [Act.put, List.setIfInBounds_toArray, List.set_cons_zero, List.set_cons_succ]
                    refine wpAnyH_take (i := 7) (oi := { dst := some 127, op := Op.binOp BinOp.gtr 2 (Operand.tmp 126) (Operand.const (Value.int IntKind.i64 0)) 2, type := 4, pos := "l09_house.go:53", after := #[{ on := 6, ground := Ground.data }], guard := none }) (v := ?vvg8) rfl (by kernel_rfl) (by kernel_rfl) (by kernel_rfl) (fun _ _ _ h => h) (Or.inl ⟨by rfl, ?hyg8⟩) S0 ?restg8
                    case hyg8 => (intro w hSw; have hcX := hSw.1.cell; have hcY := hSw.2.1.cell; have hdk := HDk.out _ hSw.2.2;go_simp <;> with_reducible rfl)
                    try simp only [Act.put, List.setIfInBounds_toArray, List.set_cons_zero, List.set_cons_succ]
                    refine wpAnyH_take (i := 8) (oi := { dst := some 128, op := Op.binOp BinOp.neq 4 (Operand.tmp 124) (Operand.tmp 127) 4, type := 4, pos := "l09_house.go:53", after := #[{ on := 4, ground := Ground.data }, { on := 7, ground := Ground.data }], guard := none }) (v := ?vvg9) rfl (by kernel_rfl) (by kernel_rfl) (by kernel_rfl) (fun _ _ _ h => h) (Or.inl ⟨by rfl, ?hyg9⟩) S0 ?restg9
                    case hyg9 => (intro w hSw; have hcX := hSw.1.cell; have hcY := hSw.2.1.cell; have hdk := HDk.out _ hSw.2.2;go_simp <;> with_reducible rfl)
                    try simp only [Act.put, List.setIfInBounds_toArray, List.set_cons_zero, List.set_cons_succ]
                    refine wpAnyH_take (i := 9) (oi := { dst := some 129, op := Op.move (Operand.tmp 128), type := 4, pos := "l09_house.go:53", after := #[{ on := 8, ground := Ground.data }], guard := none }) (v := ?vvg10) rfl (by kernel_rfl) (by kernel_rfl) (by kernel_rfl) (fun _ _ _ h => h) (Or.inl ⟨by rfl, ?hyg10⟩) S0 ?restg10
                    case hyg10 => (intro w hSw; have hcX := hSw.1.cell; have hcY := hSw.2.1.cell; have hdk := HDk.out _ hSw.2.2;go_simp <;> with_reducible rfl)
                    try simp only [Act.put, List.setIfInBounds_toArray, List.set_cons_zero, List.set_cons_succ]
                    refine wpAnyH_take (i := 10) (oi := { dst := some 130, op := Op.fieldAddr 85 (Operand.tmp 6) 3, type := 0, pos := "l09_house.go:53", after := #[{ on := 9, ground := Ground.guard }], guard := some (9, false) }) (v := ?vvg11) rfl (by kernel_rfl) (by kernel_rfl) (by kernel_rfl) (fun _ _ _ h => h) (Or.inl ⟨by rfl, ?hyg11⟩) S0 ?restg11
                    case hyg11 => (intro w hSw; have hcX := hSw.1.cell; have hcY := hSw.2.1.cell; have hdk := HDk.out _ hSw.2.2;go_simp <;> with_reducible rfl)
                    try simp only [Act.put, List.setIfInBounds_toArray, List.set_cons_zero, List.set_cons_succ]
                    refine wpAnyH_take (i := 11) (oi := { dst := some 131, op := Op.load 2 (Operand.tmp 130), type := 2, pos := "l09_house.go:53", after := #[{ on := 10, ground := Ground.data }, { on := 9, ground := Ground.guard }], guard := some (9, false) }) (v := ?vvg12) rfl (by kernel_rfl) (by kernel_rfl) (by kernel_rfl) (fun _ _ _ h => h) (Or.inl ⟨by rfl, ?hyg12⟩) S0 ?restg12
                    case hyg12 => (intro w hSw; have hcX := hSw.1.cell; have hcY := hSw.2.1.cell; have hdk := HDk.out _ hSw.2.2;go_simp <;> with_reducible rfl)
                    try simp only [Act.put, List.setIfInBounds_toArray, List.set_cons_zero, List.set_cons_succ]
                    refine wpAnyH_take (i := 12) (oi := { dst := some 132, op := Op.binOp BinOp.gtr 2 (Operand.tmp 131) (Operand.const (Value.int IntKind.i64 0)) 2, type := 4, pos := "l09_house.go:53", after := #[{ on := 11, ground := Ground.data }, { on := 9, ground := Ground.guard }], guard := some (9, false) }) (v := ?vvg13) rfl (by kernel_rfl) (by kernel_rfl) (by kernel_rfl) (fun _ _ _ h => h) (Or.inl ⟨by rfl, ?hyg13⟩) S0 ?restg13
                    case hyg13 => (intro w hSw; have hcX := hSw.1.cell; have hcY := hSw.2.1.cell; have hdk := HDk.out _ hSw.2.2;go_simp <;> with_reducible rfl)
                    try simp only [Act.put, List.setIfInBounds_toArray, List.set_cons_zero, List.set_cons_succ]
                    refine wpAnyH_take (i := 13) (oi := { dst := some 133, op := Op.move (Operand.tmp 132), type := 4, pos := "l09_house.go:53", after := #[{ on := 12, ground := Ground.data }, { on := 9, ground := Ground.chain }, { on := 9, ground := Ground.guard }], guard := some (9, false) }) (v := ?vvg14) rfl (by kernel_rfl) (by kernel_rfl) (by kernel_rfl) (fun _ _ _ h => h) (Or.inl ⟨by rfl, ?hyg14⟩) S0 ?restg14
                    case hyg14 => (intro w hSw; have hcX := hSw.1.cell; have hcY := hSw.2.1.cell; have hdk := HDk.out _ hSw.2.2;go_simp <;> with_reducible rfl)
                    try simp only [Act.put, List.setIfInBounds_toArray, List.set_cons_zero, List.set_cons_succ]
                    refine wpAnyH_take (i := 14) (oi := { dst := some 134, op := Op.fieldAddr 38 (Operand.tmp 1) 3, type := 0, pos := "l09_house.go:53", after := #[{ on := 13, ground := Ground.guard }], guard := some (13, true) }) (v := ?vvg15) rfl (by kernel_rfl) (by kernel_rfl) (by kernel_rfl) (fun _ _ _ h => h) (Or.inl ⟨by rfl, ?hyg15⟩) S0 ?restg15
                    case hyg15 => (intro w hSw; have hcX := hSw.1.cell; have hcY := hSw.2.1.cell; have hdk := HDk.out _ hSw.2.2;go_simp <;> with_reducible rfl)
                    try simp only [Act.put, List.setIfInBounds_toArray, List.set_cons_zero, List.set_cons_succ]
                    refine wpAnyH_take (i := 15) (oi := { dst := some 135, op := Op.load 22 (Operand.tmp 134), type := 22, pos := "l09_house.go:53", after := #[{ on := 14, ground := Ground.data }, { on := 13, ground := Ground.guard }], guard := some (13, true) }) (v := ?vvg16) rfl (by kernel_rfl) (by kernel_rfl) (by kernel_rfl) (fun _ _ _ h => h) (Or.inl ⟨by rfl, ?hyg16⟩) S0 ?restg16
                    case hyg16 => (intro w hSw; have hcX := hSw.1.cell; have hcY := hSw.2.1.cell; have hdk := HDk.out _ hSw.2.2;go_simp <;> with_reducible rfl)
                    try simp only [Act.put, List.setIfInBounds_toArray, List.set_cons_zero, List.set_cons_succ]
                    refine wpAnyH_take (i := 16) (oi := { dst := some 136, op := Op.fieldAddr 85 (Operand.tmp 6) 3, type := 0, pos := "l09_house.go:53", after := #[{ on := 13, ground := Ground.guard }], guard := some (13, true) }) (v := ?vvg17) rfl (by kernel_rfl) (by kernel_rfl) (by kernel_rfl) (fun _ _ _ h => h) (Or.inl ⟨by rfl, ?hyg17⟩) S0 ?restg17
                    case hyg17 => (intro w hSw; have hcX := hSw.1.cell; have hcY := hSw.2.1.cell; have hdk := HDk.out _ hSw.2.2;go_simp <;> with_reducible rfl)
                    try simp only [Act.put, List.setIfInBounds_toArray, List.set_cons_zero, List.set_cons_succ]
                    refine wpAnyH_take (i := 17) (oi := { dst := some 137, op := Op.load 2 (Operand.tmp 136), type := 2, pos := "l09_house.go:53", after := #[{ on := 16, ground := Ground.data }, { on := 13, ground := Ground.guard }], guard := some (13, true) }) (v := ?vvg18) rfl (by kernel_rfl) (by kernel_rfl) (by kernel_rfl) (fun _ _ _ h => h) (Or.inl ⟨by rfl, ?hyg18⟩) S0 ?restg18
                    case hyg18 => (intro w hSw; have hcX := hSw.1.cell; have hcY := hSw.2.1.cell; have hdk := HDk.out _ hSw.2.2;go_simp <;> with_reducible rfl)
                    try simp only [Act.put, List.setIfInBounds_toArray, List.set_cons_zero, List.set_cons_succ]
                    refine wpAnyH_take (i := 18) (oi := { dst := some 138, op := Op.binOp BinOp.sub 2 (Operand.tmp 137) (Operand.const (Value.int IntKind.i64 1)) 2, type := 2, pos := "l09_house.go:53", after := #[{ on := 17, ground := Ground.data }, { on := 13, ground := Ground.guard }], guard := some (13, true) }) (v := ?vvg19) rfl (by kernel_rfl) (by kernel_rfl) (by kernel_rfl) (fun _ _ _ h => h) (Or.inl ⟨by rfl, ?hyg19⟩) S0 ?restg19
                    case hyg19 => (intro w hSw; have hcX := hSw.1.cell; have hcY := hSw.2.1.cell; have hdk := HDk.out _ hSw.2.2;go_simp <;> with_reducible rfl)
                    try simp only [Act.put, List.setIfInBounds_toArray, List.set_cons_zero, List.set_cons_succ]
                    refine wpAnyH_take (i := 19) (oi := { dst := some 139, op := Op.indexAddr 22 (Operand.tmp 135) (Operand.tmp 138), type := 0, pos := "l09_house.go:53", after := #[{ on := 15, ground := Ground.data }, { on := 18, ground := Ground.data }, { on := 13, ground := Ground.guard }], guard := some (13, true) }) (v := ?vvg20) rfl (by kernel_rfl) (by kernel_rfl) (by kernel_rfl) (fun _ _ _ h => h) (Or.inl ⟨by rfl, ?hyg20⟩) S0 ?restg20
                    case hyg20 => (intro w hSw; have hcX := hSw.1.cell; have hcY := hSw.2.1.cell; have hdk := HDk.out _ hSw.2.2;go_simp <;> with_reducible rfl)
                    try simp only [Act.put, List.setIfInBounds_toArray, List.set_cons_zero, List.set_cons_succ]
                    refine wpAnyH_take (i := 20) (oi := { dst := some 140, op := Op.load 2 (Operand.tmp 139), type := 2, pos := "l09_house.go:53", after := #[{ on := 19, ground := Ground.data }, { on := 13, ground := Ground.guard }], guard := some (13, true) }) (v := ?vvg21) rfl (by kernel_rfl) (by kernel_rfl) (by kernel_rfl) (fun _ _ _ h => h) (Or.inl ⟨by rfl, ?hyg21⟩) S0 ?restg21
                    case hyg21 => (intro w hSw; have hcX := hSw.1.cell; have hcY := hSw.2.1.cell; have hdk := HDk.out _ hSw.2.2;go_simp <;> with_reducible rfl)
                    try simp only [Act.put, List.setIfInBounds_toArray, List.set_cons_zero, List.set_cons_succ]
                    refine wpAnyH_take (i := 21) (oi := { dst := some 141, op := Op.fieldAddr 85 (Operand.tmp 6) 0, type := 0, pos := "l09_house.go:53", after := #[{ on := 13, ground := Ground.guard }], guard := some (13, true) }) (v := ?vvg22) rfl (by kernel_rfl) (by kernel_rfl) (by kernel_rfl) (fun _ _ _ h => h) (Or.inl ⟨by rfl, ?hyg22⟩) S0 ?restg22
                    case hyg22 => (intro w hSw; have hcX := hSw.1.cell; have hcY := hSw.2.1.cell; have hdk := HDk.out _ hSw.2.2;go_simp <;> with_reducible rfl)
                    try simp only [Act.put, List.setIfInBounds_toArray, List.set_cons_zero, List.set_cons_succ]
                    refine wpAnyH_take (i := 22) (oi := { dst := some 142, op := Op.load 2 (Operand.tmp 141), type := 2, pos := "l09_house.go:53", after := #[{ on := 21, ground := Ground.data }, { on := 13, ground := Ground.guard }], guard := some (13, true) }) (v := ?vvg23) rfl (by kernel_rfl) (by kernel_rfl) (by kernel_rfl) (fun _ _ _ h => h) (Or.inl ⟨by rfl, ?hyg23⟩) S0 ?restg23
                    case hyg23 => (intro w hSw; have hcX := hSw.1.cell; have hcY := hSw.2.1.cell; have hdk := HDk.out _ hSw.2.2;go_simp <;> with_reducible rfl)
                    try simp only [Act.put, List.setIfInBounds_toArray, List.set_cons_zero, List.set_cons_succ]
                    refine wpAnyH_take (i := 23) (oi := { dst := some 143, op := Op.binOp BinOp.neq 2 (Operand.tmp 140) (Operand.tmp 142) 2, type := 4, pos := "l09_house.go:53", after := #[{ on := 20, ground := Ground.data }, { on := 22, ground := Ground.data }, { on := 13, ground := Ground.guard }], guard := some (13, true) }) (v := ?vvg24) rfl (by kernel_rfl) (by kernel_rfl) (by kernel_rfl) (fun _ _ _ h => h) (Or.inl ⟨by rfl, ?hyg24⟩) S0 ?restg24
                    case hyg24 => (intro w hSw; have hcX := hSw.1.cell; have hcY := hSw.2.1.cell; have hdk := HDk.out _ hSw.2.2;go_simp <;> with_reducible rfl)
                    try simp only [Act.put, List.setIfInBounds_toArray, List.set_cons_zero, List.set_cons_succ]
                    refine wpAnyH_take (i := 24) (oi := { dst := some 144, op := Op.pick (Operand.tmp 133) (Operand.tmp 143) (Operand.const (Value.bool false)), type := 4, pos := "l09_house.go:53", after := #[{ on := 13, ground := Ground.data }, { on := 23, ground := Ground.data }, { on := 9, ground := Ground.guard }], guard := some (9, false) }) (v := ?vvg25) rfl (by kernel_rfl) (by kernel_rfl) (by kernel_rfl) (fun _ _ _ h => h) (Or.inl ⟨by rfl, ?hyg25⟩) S0 ?restg25
                    case hyg25 => (intro w hSw; have hcX := hSw.1.cell; have hcY := hSw.2.1.cell; have hdk := HDk.out _ hSw.2.2;go_simp <;> with_reducible rfl)
                    try simp only [Act.put, List.setIfInBounds_toArray, List.set_cons_zero, List.set_cons_succ]
                    refine wpAnyH_take (i := 25) (oi := { dst := some 145, op := Op.pick (Operand.tmp 129) (Operand.const (Value.bool true)) (Operand.tmp 144), type := 4, pos := "l09_house.go:53", after := #[{ on := 9, ground := Ground.data }, { on := 24, ground := Ground.data }], guard := none }) (v := ?vvg26) rfl (by kernel_rfl) (by kernel_rfl) (by kernel_rfl) (fun _ _ _ h => h) (Or.inl ⟨by rfl, ?hyg26⟩) S0 ?restg26
                    case hyg26 => (intro w hSw; have hcX := hSw.1.cell; have hcY := hSw.2.1.cell; have hdk := HDk.out _ hSw.2.2;go_simp <;> with_reducible rfl)
                    try simp only [Act.put, List.setIfInBounds_toArray, List.set_cons_zero, List.set_cons_succ]
                    refine wpAnyH_done (by kernel_rfl) ?_ _
                    all_goals
                      have HBn := Lib.hid S0.2.2
                      clear S0
                      go_wp2_with fail
                      go_ret
                      exact ⟨bool_ret (by rw [hr.out, HPA.out, HRA.out, HNo.out (by unfold fzFits; rw [if_pos rfl, hrm]; simpa using fun e => hv e.symm)]; simp), HBn.out⟩
                · have hyd : yd = 0 := by omega
                  subst hyd
                  refine wp_region_held_drew (S := fun W' => Blk W' w.heap.size 38 _ ∧ Blk W' wr.heap.size 85 _ ∧ Below w.heap.size w W') (by kernel_rfl) S0 (fun hHeld => ?_)
                  clear hHeld
                  refine wpAnyH_take (i := 0) (oi := { dst := some 120, op := Op.fieldAddr 85 (Operand.tmp 6) 2, type := 0, pos := "l09_house.go:53", after := #[], guard := none }) (v := ?vvh1) rfl (by kernel_rfl) (by kernel_rfl) (by kernel_rfl) (fun _ _ _ h => h) (Or.inl ⟨by rfl, ?hyh1⟩) S0 ?resth1
                  case hyh1 => (intro w hSw; have hcX := hSw.1.cell; have hcY := hSw.2.1.cell;go_simp <;> with_reducible rfl)
                  try simp only [Act.put, List.setIfInBounds_toArray, List.set_cons_zero, List.set_cons_succ]
                  refine wpAnyH_take (i := 1) (oi := { dst := some 121, op := Op.load 2 (Operand.tmp 120), type := 2, pos := "l09_house.go:53", after := #[{ on := 0, ground := Ground.data }], guard := none }) (v := ?vvh2) rfl (by kernel_rfl) (by kernel_rfl) (by kernel_rfl) (fun _ _ _ h => h) (Or.inl ⟨by rfl, ?hyh2⟩) S0 ?resth2
                  case hyh2 => (intro w hSw; have hcX := hSw.1.cell; have hcY := hSw.2.1.cell;go_simp <;> with_reducible rfl)
                  try simp only [Act.put, List.setIfInBounds_toArray, List.set_cons_zero, List.set_cons_succ]
                  refine wpAnyH_take (i := 2) (oi := { dst := some 122, op := Op.fieldAddr 38 (Operand.tmp 1) 0, type := 0, pos := "l09_house.go:53", after := #[], guard := none }) (v := ?vvh3) rfl (by kernel_rfl) (by kernel_rfl) (by kernel_rfl) (fun _ _ _ h => h) (Or.inl ⟨by rfl, ?hyh3⟩) S0 ?resth3
                  case hyh3 => (intro w hSw; have hcX := hSw.1.cell; have hcY := hSw.2.1.cell;go_simp <;> with_reducible rfl)
                  try simp only [Act.put, List.setIfInBounds_toArray, List.set_cons_zero, List.set_cons_succ]
                  refine wpAnyH_take (i := 3) (oi := { dst := some 123, op := Op.load 2 (Operand.tmp 122), type := 2, pos := "l09_house.go:53", after := #[{ on := 2, ground := Ground.data }], guard := none }) (v := ?vvh4) rfl (by kernel_rfl) (by kernel_rfl) (by kernel_rfl) (fun _ _ _ h => h) (Or.inl ⟨by rfl, ?hyh4⟩) S0 ?resth4
                  case hyh4 => (intro w hSw; have hcX := hSw.1.cell; have hcY := hSw.2.1.cell;go_simp <;> with_reducible rfl)
                  try simp only [Act.put, List.setIfInBounds_toArray, List.set_cons_zero, List.set_cons_succ]
                  refine wpAnyH_take (i := 4) (oi := { dst := some 124, op := Op.binOp BinOp.eql 2 (Operand.tmp 121) (Operand.tmp 123) 2, type := 4, pos := "l09_house.go:53", after := #[{ on := 1, ground := Ground.data }, { on := 3, ground := Ground.data }], guard := none }) (v := ?vvh5) rfl (by kernel_rfl) (by kernel_rfl) (by kernel_rfl) (fun _ _ _ h => h) (Or.inl ⟨by rfl, ?hyh5⟩) S0 ?resth5
                  case hyh5 => (intro w hSw; have hcX := hSw.1.cell; have hcY := hSw.2.1.cell;go_simp <;> with_reducible rfl)
                  try simp only [Act.put, List.setIfInBounds_toArray, List.set_cons_zero, List.set_cons_succ]
                  refine wpAnyH_take (i := 5) (oi := { dst := some 125, op := Op.fieldAddr 85 (Operand.tmp 6) 3, type := 0, pos := "l09_house.go:53", after := #[], guard := none }) (v := ?vvh6) rfl (by kernel_rfl) (by kernel_rfl) (by kernel_rfl) (fun _ _ _ h => h) (Or.inl ⟨by rfl, ?hyh6⟩) S0 ?resth6
                  case hyh6 => (intro w hSw; have hcX := hSw.1.cell; have hcY := hSw.2.1.cell;go_simp <;> with_reducible rfl)
                  try simp only [Act.put, List.setIfInBounds_toArray, List.set_cons_zero, List.set_cons_succ]
                  refine wpAnyH_take (i := 6) (oi := { dst := some 126, op := Op.load 2 (Operand.tmp 125), type := 2, pos := "l09_house.go:53", after := #[{ on := 5, ground := Ground.data }], guard := none }) (v := ?vvh7) rfl (by kernel_rfl) (by kernel_rfl) (by kernel_rfl) (fun _ _ _ h => h) (Or.inl ⟨by rfl, ?hyh7⟩) S0 ?resth7
                  case hyh7 => (intro w hSw; have hcX := hSw.1.cell; have hcY := hSw.2.1.cell;go_simp <;> with_reducible rfl)
                  try simp only [Act.put, List.setIfInBounds_toArray, List.set_cons_zero, List.set_cons_succ]
                  refine wpAnyH_take (i := 7) (oi := { dst := some 127, op := Op.binOp BinOp.gtr 2 (Operand.tmp 126) (Operand.const (Value.int IntKind.i64 0)) 2, type := 4, pos := "l09_house.go:53", after := #[{ on := 6, ground := Ground.data }], guard := none }) (v := ?vvh8) rfl (by kernel_rfl) (by kernel_rfl) (by kernel_rfl) (fun _ _ _ h => h) (Or.inl ⟨by rfl, ?hyh8⟩) S0 ?resth8
                  case hyh8 => (intro w hSw; have hcX := hSw.1.cell; have hcY := hSw.2.1.cell;go_simp <;> with_reducible rfl)
                  try simp only [Act.put, List.setIfInBounds_toArray, List.set_cons_zero, List.set_cons_succ]
                  refine wpAnyH_take (i := 8) (oi := { dst := some 128, op := Op.binOp BinOp.neq 4 (Operand.tmp 124) (Operand.tmp 127) 4, type := 4, pos := "l09_house.go:53", after := #[{ on := 4, ground := Ground.data }, { on := 7, ground := Ground.data }], guard := none }) (v := ?vvh9) rfl (by kernel_rfl) (by kernel_rfl) (by kernel_rfl) (fun _ _ _ h => h) (Or.inl ⟨by rfl, ?hyh9⟩) S0 ?resth9
                  case hyh9 => (intro w hSw; have hcX := hSw.1.cell; have hcY := hSw.2.1.cell;go_simp <;> with_reducible rfl)
                  try simp only [Act.put, List.setIfInBounds_toArray, List.set_cons_zero, List.set_cons_succ]
                  refine wpAnyH_take (i := 9) (oi := { dst := some 129, op := Op.move (Operand.tmp 128), type := 4, pos := "l09_house.go:53", after := #[{ on := 8, ground := Ground.data }], guard := none }) (v := ?vvh10) rfl (by kernel_rfl) (by kernel_rfl) (by kernel_rfl) (fun _ _ _ h => h) (Or.inl ⟨by rfl, ?hyh10⟩) S0 ?resth10
                  case hyh10 => (intro w hSw; have hcX := hSw.1.cell; have hcY := hSw.2.1.cell;go_simp <;> with_reducible rfl)
                  try simp only [Act.put, List.setIfInBounds_toArray, List.set_cons_zero, List.set_cons_succ]
                  refine wpAnyH_take (i := 10) (oi := { dst := some 130, op := Op.fieldAddr 85 (Operand.tmp 6) 3, type := 0, pos := "l09_house.go:53", after := #[{ on := 9, ground := Ground.guard }], guard := some (9, false) }) (v := undef) rfl (by kernel_rfl) (by kernel_rfl) (by kernel_rfl) (fun _ _ _ h => h) (Or.inr ⟨by rfl, rfl⟩) S0 ?_
                  try simp only [Act.put, List.setIfInBounds_toArray, List.set_cons_zero, List.set_cons_succ]
                  refine wpAnyH_take (i := 11) (oi := { dst := some 131, op := Op.load 2 (Operand.tmp 130), type := 2, pos := "l09_house.go:53", after := #[{ on := 10, ground := Ground.data }, { on := 9, ground := Ground.guard }], guard := some (9, false) }) (v := undef) rfl (by kernel_rfl) (by kernel_rfl) (by kernel_rfl) (fun _ _ _ h => h) (Or.inr ⟨by rfl, rfl⟩) S0 ?_
                  try simp only [Act.put, List.setIfInBounds_toArray, List.set_cons_zero, List.set_cons_succ]
                  refine wpAnyH_take (i := 12) (oi := { dst := some 132, op := Op.binOp BinOp.gtr 2 (Operand.tmp 131) (Operand.const (Value.int IntKind.i64 0)) 2, type := 4, pos := "l09_house.go:53", after := #[{ on := 11, ground := Ground.data }, { on := 9, ground := Ground.guard }], guard := some (9, false) }) (v := undef) rfl (by kernel_rfl) (by kernel_rfl) (by kernel_rfl) (fun _ _ _ h => h) (Or.inr ⟨by rfl, rfl⟩) S0 ?_
                  try simp only [Act.put, List.setIfInBounds_toArray, List.set_cons_zero, List.set_cons_succ]
                  refine wpAnyH_take (i := 13) (oi := { dst := some 133, op := Op.move (Operand.tmp 132), type := 4, pos := "l09_house.go:53", after := #[{ on := 12, ground := Ground.data }, { on := 9, ground := Ground.chain }, { on := 9, ground := Ground.guard }], guard := some (9, false) }) (v := undef) rfl (by kernel_rfl) (by kernel_rfl) (by kernel_rfl) (fun _ _ _ h => h) (Or.inr ⟨by rfl, rfl⟩) S0 ?_
                  try simp only [Act.put, List.setIfInBounds_toArray, List.set_cons_zero, List.set_cons_succ]
                  refine wpAnyH_take (i := 14) (oi := { dst := some 134, op := Op.fieldAddr 38 (Operand.tmp 1) 3, type := 0, pos := "l09_house.go:53", after := #[{ on := 13, ground := Ground.guard }], guard := some (13, true) }) (v := undef) rfl (by kernel_rfl) (by kernel_rfl) (by kernel_rfl) (fun _ _ _ h => h) (Or.inr ⟨by rfl, rfl⟩) S0 ?_
                  try simp only [Act.put, List.setIfInBounds_toArray, List.set_cons_zero, List.set_cons_succ]
                  refine wpAnyH_take (i := 15) (oi := { dst := some 135, op := Op.load 22 (Operand.tmp 134), type := 22, pos := "l09_house.go:53", after := #[{ on := 14, ground := Ground.data }, { on := 13, ground := Ground.guard }], guard := some (13, true) }) (v := undef) rfl (by kernel_rfl) (by kernel_rfl) (by kernel_rfl) (fun _ _ _ h => h) (Or.inr ⟨by rfl, rfl⟩) S0 ?_
                  try simp only [Act.put, List.setIfInBounds_toArray, List.set_cons_zero, List.set_cons_succ]
                  refine wpAnyH_take (i := 16) (oi := { dst := some 136, op := Op.fieldAddr 85 (Operand.tmp 6) 3, type := 0, pos := "l09_house.go:53", after := #[{ on := 13, ground := Ground.guard }], guard := some (13, true) }) (v := undef) rfl (by kernel_rfl) (by kernel_rfl) (by kernel_rfl) (fun _ _ _ h => h) (Or.inr ⟨by rfl, rfl⟩) S0 ?_
                  try simp only [Act.put, List.setIfInBounds_toArray, List.set_cons_zero, List.set_cons_succ]
                  refine wpAnyH_take (i := 17) (oi := { dst := some 137, op := Op.load 2 (Operand.tmp 136), type := 2, pos := "l09_house.go:53", after := #[{ on := 16, ground := Ground.data }, { on := 13, ground := Ground.guard }], guard := some (13, true) }) (v := undef) rfl (by kernel_rfl) (by kernel_rfl) (by kernel_rfl) (fun _ _ _ h => h) (Or.inr ⟨by rfl, rfl⟩) S0 ?_
                  try simp only [Act.put, List.setIfInBounds_toArray, List.set_cons_zero, List.set_cons_succ]
                  refine wpAnyH_take (i := 18) (oi := { dst := some 138, op := Op.binOp BinOp.sub 2 (Operand.tmp 137) (Operand.const (Value.int IntKind.i64 1)) 2, type := 2, pos := "l09_house.go:53", after := #[{ on := 17, ground := Ground.data }, { on := 13, ground := Ground.guard }], guard := some (13, true) }) (v := undef) rfl (by kernel_rfl) (by kernel_rfl) (by kernel_rfl) (fun _ _ _ h => h) (Or.inr ⟨by rfl, rfl⟩) S0 ?_
                  try simp only [Act.put, List.setIfInBounds_toArray, List.set_cons_zero, List.set_cons_succ]
                  refine wpAnyH_take (i := 19) (oi := { dst := some 139, op := Op.indexAddr 22 (Operand.tmp 135) (Operand.tmp 138), type := 0, pos := "l09_house.go:53", after := #[{ on := 15, ground := Ground.data }, { on := 18, ground := Ground.data }, { on := 13, ground := Ground.guard }], guard := some (13, true) }) (v := undef) rfl (by kernel_rfl) (by kernel_rfl) (by kernel_rfl) (fun _ _ _ h => h) (Or.inr ⟨by rfl, rfl⟩) S0 ?_
                  try simp only [Act.put, List.setIfInBounds_toArray, List.set_cons_zero, List.set_cons_succ]
                  refine wpAnyH_take (i := 20) (oi := { dst := some 140, op := Op.load 2 (Operand.tmp 139), type := 2, pos := "l09_house.go:53", after := #[{ on := 19, ground := Ground.data }, { on := 13, ground := Ground.guard }], guard := some (13, true) }) (v := undef) rfl (by kernel_rfl) (by kernel_rfl) (by kernel_rfl) (fun _ _ _ h => h) (Or.inr ⟨by rfl, rfl⟩) S0 ?_
                  try simp only [Act.put, List.setIfInBounds_toArray, List.set_cons_zero, List.set_cons_succ]
                  refine wpAnyH_take (i := 21) (oi := { dst := some 141, op := Op.fieldAddr 85 (Operand.tmp 6) 0, type := 0, pos := "l09_house.go:53", after := #[{ on := 13, ground := Ground.guard }], guard := some (13, true) }) (v := undef) rfl (by kernel_rfl) (by kernel_rfl) (by kernel_rfl) (fun _ _ _ h => h) (Or.inr ⟨by rfl, rfl⟩) S0 ?_
                  try simp only [Act.put, List.setIfInBounds_toArray, List.set_cons_zero, List.set_cons_succ]
                  refine wpAnyH_take (i := 22) (oi := { dst := some 142, op := Op.load 2 (Operand.tmp 141), type := 2, pos := "l09_house.go:53", after := #[{ on := 21, ground := Ground.data }, { on := 13, ground := Ground.guard }], guard := some (13, true) }) (v := undef) rfl (by kernel_rfl) (by kernel_rfl) (by kernel_rfl) (fun _ _ _ h => h) (Or.inr ⟨by rfl, rfl⟩) S0 ?_
                  try simp only [Act.put, List.setIfInBounds_toArray, List.set_cons_zero, List.set_cons_succ]
                  refine wpAnyH_take (i := 23) (oi := { dst := some 143, op := Op.binOp BinOp.neq 2 (Operand.tmp 140) (Operand.tmp 142) 2, type := 4, pos := "l09_house.go:53", after := #[{ on := 20, ground := Ground.data }, { on := 22, ground := Ground.data }, { on := 13, ground := Ground.guard }], guard := some (13, true) }) (v := undef) rfl (by kernel_rfl) (by kernel_rfl) (by kernel_rfl) (fun _ _ _ h => h) (Or.inr ⟨by rfl, rfl⟩) S0 ?_
                  try simp only [Act.put, List.setIfInBounds_toArray, List.set_cons_zero, List.set_cons_succ]
                  refine wpAnyH_take (i := 24) (oi := { dst := some 144, op := Op.pick (Operand.tmp 133) (Operand.tmp 143) (Operand.const (Value.bool false)), type := 4, pos := "l09_house.go:53", after := #[{ on := 13, ground := Ground.data }, { on := 23, ground := Ground.data }, { on := 9, ground := Ground.guard }], guard := some (9, false) }) (v := undef) rfl (by kernel_rfl) (by kernel_rfl) (by kernel_rfl) (fun _ _ _ h => h) (Or.inr ⟨by rfl, rfl⟩) S0 ?_
                  try simp only [Act.put, List.setIfInBounds_toArray, List.set_cons_zero, List.set_cons_succ]
                  refine wpAnyH_take (i := 25) (oi := { dst := some 145, op := Op.pick (Operand.tmp 129) (Operand.const (Value.bool true)) (Operand.tmp 144), type := 4, pos := "l09_house.go:53", after := #[{ on := 9, ground := Ground.data }, { on := 24, ground := Ground.data }], guard := none }) (v := ?vvh26) rfl (by kernel_rfl) (by kernel_rfl) (by kernel_rfl) (fun _ _ _ h => h) (Or.inl ⟨by rfl, ?hyh26⟩) S0 ?resth26
                  case hyh26 => (intro w hSw; have hcX := hSw.1.cell; have hcY := hSw.2.1.cell;go_simp <;> with_reducible rfl)
                  try simp only [Act.put, List.setIfInBounds_toArray, List.set_cons_zero, List.set_cons_succ]
                  refine wpAnyH_done (by kernel_rfl) ?_ _
                  all_goals
                    have HBn := Lib.hid S0.2.2
                    clear S0
                    go_wp2_with fail
                    go_ret
                    exact ⟨bool_ret (by rw [hr.out, HPA.out, HRA.out, HNo.out (by unfold fzFits; rw [if_pos rfl, roomAt_none (by show ¬ (1 : Int) ≤ 0; decide)]; exact decide_eq_false (by show ¬ yv = 0; omega))]; simp), HBn.out⟩
              · have hhX : (yh == i0) = false := by simpa using hh
                have hhY : decide (yh = i0) = false := decide_eq_false hh
                by_cases hd : 0 < yd
                · skip
                  refine wp_region_held_drew (S := fun W' => Blk W' w.heap.size 38 _ ∧ Blk W' wr.heap.size 85 _ ∧ Below w.heap.size w W') (by kernel_rfl) S0 (fun hHeld => ?_)
                  clear hHeld
                  refine wpAnyH_take (i := 0) (oi := { dst := some 120, op := Op.fieldAddr 85 (Operand.tmp 6) 2, type := 0, pos := "l09_house.go:53", after := #[], guard := none }) (v := ?vvk1) rfl (by kernel_rfl) (by kernel_rfl) (by kernel_rfl) (fun _ _ _ h => h) (Or.inl ⟨by rfl, ?hyk1⟩) S0 ?restk1
                  case hyk1 => (intro w hSw; have hcX := hSw.1.cell; have hcY := hSw.2.1.cell;go_simp <;> with_reducible rfl)
                  try simp only [Act.put, List.setIfInBounds_toArray, List.set_cons_zero, List.set_cons_succ]
                  refine wpAnyH_take (i := 1) (oi := { dst := some 121, op := Op.load 2 (Operand.tmp 120), type := 2, pos := "l09_house.go:53", after := #[{ on := 0, ground := Ground.data }], guard := none }) (v := ?vvk2) rfl (by kernel_rfl) (by kernel_rfl) (by kernel_rfl) (fun _ _ _ h => h) (Or.inl ⟨by rfl, ?hyk2⟩) S0 ?restk2
                  case hyk2 => (intro w hSw; have hcX := hSw.1.cell; have hcY := hSw.2.1.cell;go_simp <;> with_reducible rfl)
                  try simp only [Act.put, List.setIfInBounds_toArray, List.set_cons_zero, List.set_cons_succ]
                  refine wpAnyH_take (i := 2) (oi := { dst := some 122, op := Op.fieldAddr 38 (Operand.tmp 1) 0, type := 0, pos := "l09_house.go:53", after := #[], guard := none }) (v := ?vvk3) rfl (by kernel_rfl) (by kernel_rfl) (by kernel_rfl) (fun _ _ _ h => h) (Or.inl ⟨by rfl, ?hyk3⟩) S0 ?restk3
                  case hyk3 => (intro w hSw; have hcX := hSw.1.cell; have hcY := hSw.2.1.cell;go_simp <;> with_reducible rfl)
                  try simp only [Act.put, List.setIfInBounds_toArray, List.set_cons_zero, List.set_cons_succ]
                  refine wpAnyH_take (i := 3) (oi := { dst := some 123, op := Op.load 2 (Operand.tmp 122), type := 2, pos := "l09_house.go:53", after := #[{ on := 2, ground := Ground.data }], guard := none }) (v := ?vvk4) rfl (by kernel_rfl) (by kernel_rfl) (by kernel_rfl) (fun _ _ _ h => h) (Or.inl ⟨by rfl, ?hyk4⟩) S0 ?restk4
                  case hyk4 => (intro w hSw; have hcX := hSw.1.cell; have hcY := hSw.2.1.cell;go_simp <;> with_reducible rfl)
                  try simp only [Act.put, List.setIfInBounds_toArray, List.set_cons_zero, List.set_cons_succ]
                  refine wpAnyH_take (i := 4) (oi := { dst := some 124, op := Op.binOp BinOp.eql 2 (Operand.tmp 121) (Operand.tmp 123) 2, type := 4, pos := "l09_house.go:53", after := #[{ on := 1, ground := Ground.data }, { on := 3, ground := Ground.data }], guard := none }) (v := ?vvk5) rfl (by kernel_rfl) (by kernel_rfl) (by kernel_rfl) (fun _ _ _ h => h) (Or.inl ⟨by rfl, ?hyk5⟩) S0 ?restk5
                  case hyk5 => (intro w hSw; have hcX := hSw.1.cell; have hcY := hSw.2.1.cell;go_simp <;> with_reducible rfl)
                  try simp only [Act.put, List.setIfInBounds_toArray, List.set_cons_zero, List.set_cons_succ]
                  refine wpAnyH_take (i := 5) (oi := { dst := some 125, op := Op.fieldAddr 85 (Operand.tmp 6) 3, type := 0, pos := "l09_house.go:53", after := #[], guard := none }) (v := ?vvk6) rfl (by kernel_rfl) (by kernel_rfl) (by kernel_rfl) (fun _ _ _ h => h) (Or.inl ⟨by rfl, ?hyk6⟩) S0 ?restk6
                  case hyk6 => (intro w hSw; have hcX := hSw.1.cell; have hcY := hSw.2.1.cell;go_simp <;> with_reducible rfl)
                  try simp only [Act.put, List.setIfInBounds_toArray, List.set_cons_zero, List.set_cons_succ]
                  refine wpAnyH_take (i := 6) (oi := { dst := some 126, op := Op.load 2 (Operand.tmp 125), type := 2, pos := "l09_house.go:53", after := #[{ on := 5, ground := Ground.data }], guard := none }) (v := ?vvk7) rfl (by kernel_rfl) (by kernel_rfl) (by kernel_rfl) (fun _ _ _ h => h) (Or.inl ⟨by rfl, ?hyk7⟩) S0 ?restk7
                  case hyk7 => (intro w hSw; have hcX := hSw.1.cell; have hcY := hSw.2.1.cell;go_simp <;> with_reducible rfl)
                  try simp only [Act.put, List.setIfInBounds_toArray, List.set_cons_zero, List.set_cons_succ]
                  refine wpAnyH_take (i := 7) (oi := { dst := some 127, op := Op.binOp BinOp.gtr 2 (Operand.tmp 126) (Operand.const (Value.int IntKind.i64 0)) 2, type := 4, pos := "l09_house.go:53", after := #[{ on := 6, ground := Ground.data }], guard := none }) (v := ?vvk8) rfl (by kernel_rfl) (by kernel_rfl) (by kernel_rfl) (fun _ _ _ h => h) (Or.inl ⟨by rfl, ?hyk8⟩) S0 ?restk8
                  case hyk8 => (intro w hSw; have hcX := hSw.1.cell; have hcY := hSw.2.1.cell;go_simp <;> with_reducible rfl)
                  try simp only [Act.put, List.setIfInBounds_toArray, List.set_cons_zero, List.set_cons_succ]
                  refine wpAnyH_take (i := 8) (oi := { dst := some 128, op := Op.binOp BinOp.neq 4 (Operand.tmp 124) (Operand.tmp 127) 4, type := 4, pos := "l09_house.go:53", after := #[{ on := 4, ground := Ground.data }, { on := 7, ground := Ground.data }], guard := none }) (v := ?vvk9) rfl (by kernel_rfl) (by kernel_rfl) (by kernel_rfl) (fun _ _ _ h => h) (Or.inl ⟨by rfl, ?hyk9⟩) S0 ?restk9
                  case hyk9 => (intro w hSw; have hcX := hSw.1.cell; have hcY := hSw.2.1.cell;go_simp <;> with_reducible rfl)
                  try simp only [Act.put, List.setIfInBounds_toArray, List.set_cons_zero, List.set_cons_succ]
                  refine wpAnyH_take (i := 9) (oi := { dst := some 129, op := Op.move (Operand.tmp 128), type := 4, pos := "l09_house.go:53", after := #[{ on := 8, ground := Ground.data }], guard := none }) (v := ?vvk10) rfl (by kernel_rfl) (by kernel_rfl) (by kernel_rfl) (fun _ _ _ h => h) (Or.inl ⟨by rfl, ?hyk10⟩) S0 ?restk10
                  case hyk10 => (intro w hSw; have hcX := hSw.1.cell; have hcY := hSw.2.1.cell;go_simp <;> with_reducible rfl)
                  try simp only [Act.put, List.setIfInBounds_toArray, List.set_cons_zero, List.set_cons_succ]
                  refine wpAnyH_take (i := 10) (oi := { dst := some 130, op := Op.fieldAddr 85 (Operand.tmp 6) 3, type := 0, pos := "l09_house.go:53", after := #[{ on := 9, ground := Ground.guard }], guard := some (9, false) }) (v := undef) rfl (by kernel_rfl) (by kernel_rfl) (by kernel_rfl) (fun _ _ _ h => h) (Or.inr ⟨by rfl, rfl⟩) S0 ?_
                  try simp only [Act.put, List.setIfInBounds_toArray, List.set_cons_zero, List.set_cons_succ]
                  refine wpAnyH_take (i := 11) (oi := { dst := some 131, op := Op.load 2 (Operand.tmp 130), type := 2, pos := "l09_house.go:53", after := #[{ on := 10, ground := Ground.data }, { on := 9, ground := Ground.guard }], guard := some (9, false) }) (v := undef) rfl (by kernel_rfl) (by kernel_rfl) (by kernel_rfl) (fun _ _ _ h => h) (Or.inr ⟨by rfl, rfl⟩) S0 ?_
                  try simp only [Act.put, List.setIfInBounds_toArray, List.set_cons_zero, List.set_cons_succ]
                  refine wpAnyH_take (i := 12) (oi := { dst := some 132, op := Op.binOp BinOp.gtr 2 (Operand.tmp 131) (Operand.const (Value.int IntKind.i64 0)) 2, type := 4, pos := "l09_house.go:53", after := #[{ on := 11, ground := Ground.data }, { on := 9, ground := Ground.guard }], guard := some (9, false) }) (v := undef) rfl (by kernel_rfl) (by kernel_rfl) (by kernel_rfl) (fun _ _ _ h => h) (Or.inr ⟨by rfl, rfl⟩) S0 ?_
                  try simp only [Act.put, List.setIfInBounds_toArray, List.set_cons_zero, List.set_cons_succ]
                  refine wpAnyH_take (i := 13) (oi := { dst := some 133, op := Op.move (Operand.tmp 132), type := 4, pos := "l09_house.go:53", after := #[{ on := 12, ground := Ground.data }, { on := 9, ground := Ground.chain }, { on := 9, ground := Ground.guard }], guard := some (9, false) }) (v := undef) rfl (by kernel_rfl) (by kernel_rfl) (by kernel_rfl) (fun _ _ _ h => h) (Or.inr ⟨by rfl, rfl⟩) S0 ?_
                  try simp only [Act.put, List.setIfInBounds_toArray, List.set_cons_zero, List.set_cons_succ]
                  refine wpAnyH_take (i := 14) (oi := { dst := some 134, op := Op.fieldAddr 38 (Operand.tmp 1) 3, type := 0, pos := "l09_house.go:53", after := #[{ on := 13, ground := Ground.guard }], guard := some (13, true) }) (v := undef) rfl (by kernel_rfl) (by kernel_rfl) (by kernel_rfl) (fun _ _ _ h => h) (Or.inr ⟨by rfl, rfl⟩) S0 ?_
                  try simp only [Act.put, List.setIfInBounds_toArray, List.set_cons_zero, List.set_cons_succ]
                  refine wpAnyH_take (i := 15) (oi := { dst := some 135, op := Op.load 22 (Operand.tmp 134), type := 22, pos := "l09_house.go:53", after := #[{ on := 14, ground := Ground.data }, { on := 13, ground := Ground.guard }], guard := some (13, true) }) (v := undef) rfl (by kernel_rfl) (by kernel_rfl) (by kernel_rfl) (fun _ _ _ h => h) (Or.inr ⟨by rfl, rfl⟩) S0 ?_
                  try simp only [Act.put, List.setIfInBounds_toArray, List.set_cons_zero, List.set_cons_succ]
                  refine wpAnyH_take (i := 16) (oi := { dst := some 136, op := Op.fieldAddr 85 (Operand.tmp 6) 3, type := 0, pos := "l09_house.go:53", after := #[{ on := 13, ground := Ground.guard }], guard := some (13, true) }) (v := undef) rfl (by kernel_rfl) (by kernel_rfl) (by kernel_rfl) (fun _ _ _ h => h) (Or.inr ⟨by rfl, rfl⟩) S0 ?_
                  try simp only [Act.put, List.setIfInBounds_toArray, List.set_cons_zero, List.set_cons_succ]
                  refine wpAnyH_take (i := 17) (oi := { dst := some 137, op := Op.load 2 (Operand.tmp 136), type := 2, pos := "l09_house.go:53", after := #[{ on := 16, ground := Ground.data }, { on := 13, ground := Ground.guard }], guard := some (13, true) }) (v := undef) rfl (by kernel_rfl) (by kernel_rfl) (by kernel_rfl) (fun _ _ _ h => h) (Or.inr ⟨by rfl, rfl⟩) S0 ?_
                  try simp only [Act.put, List.setIfInBounds_toArray, List.set_cons_zero, List.set_cons_succ]
                  refine wpAnyH_take (i := 18) (oi := { dst := some 138, op := Op.binOp BinOp.sub 2 (Operand.tmp 137) (Operand.const (Value.int IntKind.i64 1)) 2, type := 2, pos := "l09_house.go:53", after := #[{ on := 17, ground := Ground.data }, { on := 13, ground := Ground.guard }], guard := some (13, true) }) (v := undef) rfl (by kernel_rfl) (by kernel_rfl) (by kernel_rfl) (fun _ _ _ h => h) (Or.inr ⟨by rfl, rfl⟩) S0 ?_
                  try simp only [Act.put, List.setIfInBounds_toArray, List.set_cons_zero, List.set_cons_succ]
                  refine wpAnyH_take (i := 19) (oi := { dst := some 139, op := Op.indexAddr 22 (Operand.tmp 135) (Operand.tmp 138), type := 0, pos := "l09_house.go:53", after := #[{ on := 15, ground := Ground.data }, { on := 18, ground := Ground.data }, { on := 13, ground := Ground.guard }], guard := some (13, true) }) (v := undef) rfl (by kernel_rfl) (by kernel_rfl) (by kernel_rfl) (fun _ _ _ h => h) (Or.inr ⟨by rfl, rfl⟩) S0 ?_
                  try simp only [Act.put, List.setIfInBounds_toArray, List.set_cons_zero, List.set_cons_succ]
                  refine wpAnyH_take (i := 20) (oi := { dst := some 140, op := Op.load 2 (Operand.tmp 139), type := 2, pos := "l09_house.go:53", after := #[{ on := 19, ground := Ground.data }, { on := 13, ground := Ground.guard }], guard := some (13, true) }) (v := undef) rfl (by kernel_rfl) (by kernel_rfl) (by kernel_rfl) (fun _ _ _ h => h) (Or.inr ⟨by rfl, rfl⟩) S0 ?_
                  try simp only [Act.put, List.setIfInBounds_toArray, List.set_cons_zero, List.set_cons_succ]
                  refine wpAnyH_take (i := 21) (oi := { dst := some 141, op := Op.fieldAddr 85 (Operand.tmp 6) 0, type := 0, pos := "l09_house.go:53", after := #[{ on := 13, ground := Ground.guard }], guard := some (13, true) }) (v := undef) rfl (by kernel_rfl) (by kernel_rfl) (by kernel_rfl) (fun _ _ _ h => h) (Or.inr ⟨by rfl, rfl⟩) S0 ?_
                  try simp only [Act.put, List.setIfInBounds_toArray, List.set_cons_zero, List.set_cons_succ]
                  refine wpAnyH_take (i := 22) (oi := { dst := some 142, op := Op.load 2 (Operand.tmp 141), type := 2, pos := "l09_house.go:53", after := #[{ on := 21, ground := Ground.data }, { on := 13, ground := Ground.guard }], guard := some (13, true) }) (v := undef) rfl (by kernel_rfl) (by kernel_rfl) (by kernel_rfl) (fun _ _ _ h => h) (Or.inr ⟨by rfl, rfl⟩) S0 ?_
                  try simp only [Act.put, List.setIfInBounds_toArray, List.set_cons_zero, List.set_cons_succ]
                  refine wpAnyH_take (i := 23) (oi := { dst := some 143, op := Op.binOp BinOp.neq 2 (Operand.tmp 140) (Operand.tmp 142) 2, type := 4, pos := "l09_house.go:53", after := #[{ on := 20, ground := Ground.data }, { on := 22, ground := Ground.data }, { on := 13, ground := Ground.guard }], guard := some (13, true) }) (v := undef) rfl (by kernel_rfl) (by kernel_rfl) (by kernel_rfl) (fun _ _ _ h => h) (Or.inr ⟨by rfl, rfl⟩) S0 ?_
                  try simp only [Act.put, List.setIfInBounds_toArray, List.set_cons_zero, List.set_cons_succ]
                  refine wpAnyH_take (i := 24) (oi := { dst := some 144, op := Op.pick (Operand.tmp 133) (Operand.tmp 143) (Operand.const (Value.bool false)), type := 4, pos := "l09_house.go:53", after := #[{ on := 13, ground := Ground.data }, { on := 23, ground := Ground.data }, { on := 9, ground := Ground.guard }], guard := some (9, false) }) (v := undef) rfl (by kernel_rfl) (by kernel_rfl) (by kernel_rfl) (fun _ _ _ h => h) (Or.inr ⟨by rfl, rfl⟩) S0 ?_
                  try simp only [Act.put, List.setIfInBounds_toArray, List.set_cons_zero, List.set_cons_succ]
                  refine wpAnyH_take (i := 25) (oi := { dst := some 145, op := Op.pick (Operand.tmp 129) (Operand.const (Value.bool true)) (Operand.tmp 144), type := 4, pos := "l09_house.go:53", after := #[{ on := 9, ground := Ground.data }, { on := 24, ground := Ground.data }], guard := none }) (v := ?vvk26) rfl (by kernel_rfl) (by kernel_rfl) (by kernel_rfl) (fun _ _ _ h => h) (Or.inl ⟨by rfl, ?hyk26⟩) S0 ?restk26
                  case hyk26 => (intro w hSw; have hcX := hSw.1.cell; have hcY := hSw.2.1.cell;go_simp <;> with_reducible rfl)
                  try simp only [Act.put, List.setIfInBounds_toArray, List.set_cons_zero, List.set_cons_succ]
                  refine wpAnyH_done (by kernel_rfl) ?_ _
                  all_goals
                    have HBn := Lib.hid S0.2.2
                    clear S0
                    go_wp2_with fail
                    go_ret
                    exact ⟨bool_ret (by rw [hr.out, HPA.out, HRA.out, HNo.out (by unfold fzFits; rw [if_neg hh]; exact decide_eq_false (by show ¬ yd = 0; omega))]; simp), HBn.out⟩
                · have hyd : yd = 0 := by omega
                  subst hyd
                  refine wp_region_held_drew (S := fun W' => Blk W' w.heap.size 38 _ ∧ Blk W' wr.heap.size 85 _ ∧ Below w.heap.size w W') (by kernel_rfl) S0 (fun hHeld => ?_)
                  clear hHeld
                  refine wpAnyH_take (i := 0) (oi := { dst := some 120, op := Op.fieldAddr 85 (Operand.tmp 6) 2, type := 0, pos := "l09_house.go:53", after := #[], guard := none }) (v := ?vvl1) rfl (by kernel_rfl) (by kernel_rfl) (by kernel_rfl) (fun _ _ _ h => h) (Or.inl ⟨by rfl, ?hyl1⟩) S0 ?restl1
                  case hyl1 => (intro w hSw; have hcX := hSw.1.cell; have hcY := hSw.2.1.cell;go_simp <;> with_reducible rfl)
                  try simp only [Act.put, List.setIfInBounds_toArray, List.set_cons_zero, List.set_cons_succ]
                  refine wpAnyH_take (i := 1) (oi := { dst := some 121, op := Op.load 2 (Operand.tmp 120), type := 2, pos := "l09_house.go:53", after := #[{ on := 0, ground := Ground.data }], guard := none }) (v := ?vvl2) rfl (by kernel_rfl) (by kernel_rfl) (by kernel_rfl) (fun _ _ _ h => h) (Or.inl ⟨by rfl, ?hyl2⟩) S0 ?restl2
                  case hyl2 => (intro w hSw; have hcX := hSw.1.cell; have hcY := hSw.2.1.cell;go_simp <;> with_reducible rfl)
                  try simp only [Act.put, List.setIfInBounds_toArray, List.set_cons_zero, List.set_cons_succ]
                  refine wpAnyH_take (i := 2) (oi := { dst := some 122, op := Op.fieldAddr 38 (Operand.tmp 1) 0, type := 0, pos := "l09_house.go:53", after := #[], guard := none }) (v := ?vvl3) rfl (by kernel_rfl) (by kernel_rfl) (by kernel_rfl) (fun _ _ _ h => h) (Or.inl ⟨by rfl, ?hyl3⟩) S0 ?restl3
                  case hyl3 => (intro w hSw; have hcX := hSw.1.cell; have hcY := hSw.2.1.cell;go_simp <;> with_reducible rfl)
                  try simp only [Act.put, List.setIfInBounds_toArray, List.set_cons_zero, List.set_cons_succ]
                  refine wpAnyH_take (i := 3) (oi := { dst := some 123, op := Op.load 2 (Operand.tmp 122), type := 2, pos := "l09_house.go:53", after := #[{ on := 2, ground := Ground.data }], guard := none }) (v := ?vvl4) rfl (by kernel_rfl) (by kernel_rfl) (by kernel_rfl) (fun _ _ _ h => h) (Or.inl ⟨by rfl, ?hyl4⟩) S0 ?restl4
                  case hyl4 => (intro w hSw; have hcX := hSw.1.cell; have hcY := hSw.2.1.cell;go_simp <;> with_reducible rfl)
                  try simp only [Act.put, List.setIfInBounds_toArray, List.set_cons_zero, List.set_cons_succ]
                  refine wpAnyH_take (i := 4) (oi := { dst := some 124, op := Op.binOp BinOp.eql 2 (Operand.tmp 121) (Operand.tmp 123) 2, type := 4, pos := "l09_house.go:53", after := #[{ on := 1, ground := Ground.data }, { on := 3, ground := Ground.data }], guard := none }) (v := ?vvl5) rfl (by kernel_rfl) (by kernel_rfl) (by kernel_rfl) (fun _ _ _ h => h) (Or.inl ⟨by rfl, ?hyl5⟩) S0 ?restl5
                  case hyl5 => (intro w hSw; have hcX := hSw.1.cell; have hcY := hSw.2.1.cell;go_simp <;> with_reducible rfl)
                  try simp only [Act.put, List.setIfInBounds_toArray, List.set_cons_zero, List.set_cons_succ]
                  refine wpAnyH_take (i := 5) (oi := { dst := some 125, op := Op.fieldAddr 85 (Operand.tmp 6) 3, type := 0, pos := "l09_house.go:53", after := #[], guard := none }) (v := ?vvl6) rfl (by kernel_rfl) (by kernel_rfl) (by kernel_rfl) (fun _ _ _ h => h) (Or.inl ⟨by rfl, ?hyl6⟩) S0 ?restl6
                  case hyl6 => (intro w hSw; have hcX := hSw.1.cell; have hcY := hSw.2.1.cell;go_simp <;> with_reducible rfl)
                  try simp only [Act.put, List.setIfInBounds_toArray, List.set_cons_zero, List.set_cons_succ]
                  refine wpAnyH_take (i := 6) (oi := { dst := some 126, op := Op.load 2 (Operand.tmp 125), type := 2, pos := "l09_house.go:53", after := #[{ on := 5, ground := Ground.data }], guard := none }) (v := ?vvl7) rfl (by kernel_rfl) (by kernel_rfl) (by kernel_rfl) (fun _ _ _ h => h) (Or.inl ⟨by rfl, ?hyl7⟩) S0 ?restl7
                  case hyl7 => (intro w hSw; have hcX := hSw.1.cell; have hcY := hSw.2.1.cell;go_simp <;> with_reducible rfl)
                  try simp only [Act.put, List.setIfInBounds_toArray, List.set_cons_zero, List.set_cons_succ]
                  refine wpAnyH_take (i := 7) (oi := { dst := some 127, op := Op.binOp BinOp.gtr 2 (Operand.tmp 126) (Operand.const (Value.int IntKind.i64 0)) 2, type := 4, pos := "l09_house.go:53", after := #[{ on := 6, ground := Ground.data }], guard := none }) (v := ?vvl8) rfl (by kernel_rfl) (by kernel_rfl) (by kernel_rfl) (fun _ _ _ h => h) (Or.inl ⟨by rfl, ?hyl8⟩) S0 ?restl8
                  case hyl8 => (intro w hSw; have hcX := hSw.1.cell; have hcY := hSw.2.1.cell;go_simp <;> with_reducible rfl)
                  try simp only [Act.put, List.setIfInBounds_toArray, List.set_cons_zero, List.set_cons_succ]
                  refine wpAnyH_take (i := 8) (oi := { dst := some 128, op := Op.binOp BinOp.neq 4 (Operand.tmp 124) (Operand.tmp 127) 4, type := 4, pos := "l09_house.go:53", after := #[{ on := 4, ground := Ground.data }, { on := 7, ground := Ground.data }], guard := none }) (v := ?vvl9) rfl (by kernel_rfl) (by kernel_rfl) (by kernel_rfl) (fun _ _ _ h => h) (Or.inl ⟨by rfl, ?hyl9⟩) S0 ?restl9
                  case hyl9 => (intro w hSw; have hcX := hSw.1.cell; have hcY := hSw.2.1.cell;go_simp <;> with_reducible rfl)
                  try simp only [Act.put, List.setIfInBounds_toArray, List.set_cons_zero, List.set_cons_succ]
                  refine wpAnyH_take (i := 9) (oi := { dst := some 129, op := Op.move (Operand.tmp 128), type := 4, pos := "l09_house.go:53", after := #[{ on := 8, ground := Ground.data }], guard := none }) (v := ?vvl10) rfl (by kernel_rfl) (by kernel_rfl) (by kernel_rfl) (fun _ _ _ h => h) (Or.inl ⟨by rfl, ?hyl10⟩) S0 ?restl10
                  case hyl10 => (intro w hSw; have hcX := hSw.1.cell; have hcY := hSw.2.1.cell;go_simp <;> with_reducible rfl)
                  try simp only [Act.put, List.setIfInBounds_toArray, List.set_cons_zero, List.set_cons_succ]
                  refine wpAnyH_take (i := 10) (oi := { dst := some 130, op := Op.fieldAddr 85 (Operand.tmp 6) 3, type := 0, pos := "l09_house.go:53", after := #[{ on := 9, ground := Ground.guard }], guard := some (9, false) }) (v := ?vvl11) rfl (by kernel_rfl) (by kernel_rfl) (by kernel_rfl) (fun _ _ _ h => h) (Or.inl ⟨by rfl, ?hyl11⟩) S0 ?restl11
                  case hyl11 => (intro w hSw; have hcX := hSw.1.cell; have hcY := hSw.2.1.cell;go_simp <;> with_reducible rfl)
                  try simp only [Act.put, List.setIfInBounds_toArray, List.set_cons_zero, List.set_cons_succ]
                  refine wpAnyH_take (i := 11) (oi := { dst := some 131, op := Op.load 2 (Operand.tmp 130), type := 2, pos := "l09_house.go:53", after := #[{ on := 10, ground := Ground.data }, { on := 9, ground := Ground.guard }], guard := some (9, false) }) (v := ?vvl12) rfl (by kernel_rfl) (by kernel_rfl) (by kernel_rfl) (fun _ _ _ h => h) (Or.inl ⟨by rfl, ?hyl12⟩) S0 ?restl12
                  case hyl12 => (intro w hSw; have hcX := hSw.1.cell; have hcY := hSw.2.1.cell;go_simp <;> with_reducible rfl)
                  try simp only [Act.put, List.setIfInBounds_toArray, List.set_cons_zero, List.set_cons_succ]
                  refine wpAnyH_take (i := 12) (oi := { dst := some 132, op := Op.binOp BinOp.gtr 2 (Operand.tmp 131) (Operand.const (Value.int IntKind.i64 0)) 2, type := 4, pos := "l09_house.go:53", after := #[{ on := 11, ground := Ground.data }, { on := 9, ground := Ground.guard }], guard := some (9, false) }) (v := ?vvl13) rfl (by kernel_rfl) (by kernel_rfl) (by kernel_rfl) (fun _ _ _ h => h) (Or.inl ⟨by rfl, ?hyl13⟩) S0 ?restl13
                  case hyl13 => (intro w hSw; have hcX := hSw.1.cell; have hcY := hSw.2.1.cell;go_simp <;> with_reducible rfl)
                  try simp only [Act.put, List.setIfInBounds_toArray, List.set_cons_zero, List.set_cons_succ]
                  refine wpAnyH_take (i := 13) (oi := { dst := some 133, op := Op.move (Operand.tmp 132), type := 4, pos := "l09_house.go:53", after := #[{ on := 12, ground := Ground.data }, { on := 9, ground := Ground.chain }, { on := 9, ground := Ground.guard }], guard := some (9, false) }) (v := ?vvl14) rfl (by kernel_rfl) (by kernel_rfl) (by kernel_rfl) (fun _ _ _ h => h) (Or.inl ⟨by rfl, ?hyl14⟩) S0 ?restl14
                  case hyl14 => (intro w hSw; have hcX := hSw.1.cell; have hcY := hSw.2.1.cell;go_simp <;> with_reducible rfl)
                  try simp only [Act.put, List.setIfInBounds_toArray, List.set_cons_zero, List.set_cons_succ]
                  refine wpAnyH_take (i := 14) (oi := { dst := some 134, op := Op.fieldAddr 38 (Operand.tmp 1) 3, type := 0, pos := "l09_house.go:53", after := #[{ on := 13, ground := Ground.guard }], guard := some (13, true) }) (v := undef) rfl (by kernel_rfl) (by kernel_rfl) (by kernel_rfl) (fun _ _ _ h => h) (Or.inr ⟨by rfl, rfl⟩) S0 ?_
                  try simp only [Act.put, List.setIfInBounds_toArray, List.set_cons_zero, List.set_cons_succ]
                  refine wpAnyH_take (i := 15) (oi := { dst := some 135, op := Op.load 22 (Operand.tmp 134), type := 22, pos := "l09_house.go:53", after := #[{ on := 14, ground := Ground.data }, { on := 13, ground := Ground.guard }], guard := some (13, true) }) (v := undef) rfl (by kernel_rfl) (by kernel_rfl) (by kernel_rfl) (fun _ _ _ h => h) (Or.inr ⟨by rfl, rfl⟩) S0 ?_
                  try simp only [Act.put, List.setIfInBounds_toArray, List.set_cons_zero, List.set_cons_succ]
                  refine wpAnyH_take (i := 16) (oi := { dst := some 136, op := Op.fieldAddr 85 (Operand.tmp 6) 3, type := 0, pos := "l09_house.go:53", after := #[{ on := 13, ground := Ground.guard }], guard := some (13, true) }) (v := undef) rfl (by kernel_rfl) (by kernel_rfl) (by kernel_rfl) (fun _ _ _ h => h) (Or.inr ⟨by rfl, rfl⟩) S0 ?_
                  try simp only [Act.put, List.setIfInBounds_toArray, List.set_cons_zero, List.set_cons_succ]
                  refine wpAnyH_take (i := 17) (oi := { dst := some 137, op := Op.load 2 (Operand.tmp 136), type := 2, pos := "l09_house.go:53", after := #[{ on := 16, ground := Ground.data }, { on := 13, ground := Ground.guard }], guard := some (13, true) }) (v := undef) rfl (by kernel_rfl) (by kernel_rfl) (by kernel_rfl) (fun _ _ _ h => h) (Or.inr ⟨by rfl, rfl⟩) S0 ?_
                  try simp only [Act.put, List.setIfInBounds_toArray, List.set_cons_zero, List.set_cons_succ]
                  refine wpAnyH_take (i := 18) (oi := { dst := some 138, op := Op.binOp BinOp.sub 2 (Operand.tmp 137) (Operand.const (Value.int IntKind.i64 1)) 2, type := 2, pos := "l09_house.go:53", after := #[{ on := 17, ground := Ground.data }, { on := 13, ground := Ground.guard }], guard := some (13, true) }) (v := undef) rfl (by kernel_rfl) (by kernel_rfl) (by kernel_rfl) (fun _ _ _ h => h) (Or.inr ⟨by rfl, rfl⟩) S0 ?_
                  try simp only [Act.put, List.setIfInBounds_toArray, List.set_cons_zero, List.set_cons_succ]
                  refine wpAnyH_take (i := 19) (oi := { dst := some 139, op := Op.indexAddr 22 (Operand.tmp 135) (Operand.tmp 138), type := 0, pos := "l09_house.go:53", after := #[{ on := 15, ground := Ground.data }, { on := 18, ground := Ground.data }, { on := 13, ground := Ground.guard }], guard := some (13, true) }) (v := undef) rfl (by kernel_rfl) (by kernel_rfl) (by kernel_rfl) (fun _ _ _ h => h) (Or.inr ⟨by rfl, rfl⟩) S0 ?_
                  try simp only [Act.put, List.setIfInBounds_toArray, List.set_cons_zero, List.set_cons_succ]
                  refine wpAnyH_take (i := 20) (oi := { dst := some 140, op := Op.load 2 (Operand.tmp 139), type := 2, pos := "l09_house.go:53", after := #[{ on := 19, ground := Ground.data }, { on := 13, ground := Ground.guard }], guard := some (13, true) }) (v := undef) rfl (by kernel_rfl) (by kernel_rfl) (by kernel_rfl) (fun _ _ _ h => h) (Or.inr ⟨by rfl, rfl⟩) S0 ?_
                  try simp only [Act.put, List.setIfInBounds_toArray, List.set_cons_zero, List.set_cons_succ]
                  refine wpAnyH_take (i := 21) (oi := { dst := some 141, op := Op.fieldAddr 85 (Operand.tmp 6) 0, type := 0, pos := "l09_house.go:53", after := #[{ on := 13, ground := Ground.guard }], guard := some (13, true) }) (v := undef) rfl (by kernel_rfl) (by kernel_rfl) (by kernel_rfl) (fun _ _ _ h => h) (Or.inr ⟨by rfl, rfl⟩) S0 ?_
                  try simp only [Act.put, List.setIfInBounds_toArray, List.set_cons_zero, List.set_cons_succ]
                  refine wpAnyH_take (i := 22) (oi := { dst := some 142, op := Op.load 2 (Operand.tmp 141), type := 2, pos := "l09_house.go:53", after := #[{ on := 21, ground := Ground.data }, { on := 13, ground := Ground.guard }], guard := some (13, true) }) (v := undef) rfl (by kernel_rfl) (by kernel_rfl) (by kernel_rfl) (fun _ _ _ h => h) (Or.inr ⟨by rfl, rfl⟩) S0 ?_
                  try simp only [Act.put, List.setIfInBounds_toArray, List.set_cons_zero, List.set_cons_succ]
                  refine wpAnyH_take (i := 23) (oi := { dst := some 143, op := Op.binOp BinOp.neq 2 (Operand.tmp 140) (Operand.tmp 142) 2, type := 4, pos := "l09_house.go:53", after := #[{ on := 20, ground := Ground.data }, { on := 22, ground := Ground.data }, { on := 13, ground := Ground.guard }], guard := some (13, true) }) (v := undef) rfl (by kernel_rfl) (by kernel_rfl) (by kernel_rfl) (fun _ _ _ h => h) (Or.inr ⟨by rfl, rfl⟩) S0 ?_
                  try simp only [Act.put, List.setIfInBounds_toArray, List.set_cons_zero, List.set_cons_succ]
                  refine wpAnyH_take (i := 24) (oi := { dst := some 144, op := Op.pick (Operand.tmp 133) (Operand.tmp 143) (Operand.const (Value.bool false)), type := 4, pos := "l09_house.go:53", after := #[{ on := 13, ground := Ground.data }, { on := 23, ground := Ground.data }, { on := 9, ground := Ground.guard }], guard := some (9, false) }) (v := ?vvl25) rfl (by kernel_rfl) (by kernel_rfl) (by kernel_rfl) (fun _ _ _ h => h) (Or.inl ⟨by rfl, ?hyl25⟩) S0 ?restl25
                  case hyl25 => (intro w hSw; have hcX := hSw.1.cell; have hcY := hSw.2.1.cell;go_simp <;> with_reducible rfl)
                  try simp only [Act.put, List.setIfInBounds_toArray, List.set_cons_zero, List.set_cons_succ]
                  refine wpAnyH_take (i := 25) (oi := { dst := some 145, op := Op.pick (Operand.tmp 129) (Operand.const (Value.bool true)) (Operand.tmp 144), type := 4, pos := "l09_house.go:53", after := #[{ on := 9, ground := Ground.data }, { on := 24, ground := Ground.data }], guard := none }) (v := ?vvl26) rfl (by kernel_rfl) (by kernel_rfl) (by kernel_rfl) (fun _ _ _ h => h) (Or.inl ⟨by rfl, ?hyl26⟩) S0 ?restl26
                  case hyl26 => (intro w hSw; have hcX := hSw.1.cell; have hcY := hSw.2.1.cell;go_simp <;> with_reducible rfl)
                  try simp only [Act.put, List.setIfInBounds_toArray, List.set_cons_zero, List.set_cons_succ]
                  refine wpAnyH_done (by kernel_rfl) ?_ _
                  all_goals
                    have HSn := Lib.hid (And.intro S0.1 S0.2.2)
                    clear S0
                    go_wp2_with fail
                    go_roundw
                    case rel => exact ⟨i + 1, by omega, by simp, Lib.hid (HKs.out (by unfold fzFits; rw [if_neg hh]; simp)), HSn⟩
                    case measure => simp [intOf]; omega
            · have hi2 : i = l8.length := by omega
              have hlI : ¬ (i : Int) < (l8.length : Int) := by omega
              subst hi2
              have HFA := Lib.hid (HFy.out (fun k hk => HK.out k hk hk))
              clear HK hlt
              go_wp2_with fail
              go_loopw [7] (fun u wr => ∃ i : Nat, i ≤ l6.length ∧ u = .int .i64 (i : Int) ∧ Hid (∀ k (hk : k < l6.length), k < i → (fun g : Gu => decide (g.seen ≤ i1) && decide (g.vni = roomAt l3 g.door)) l6[k] = true) ∧ Hid (Blk wr w.heap.size 38 #[.int .i64 i0, .int .i64 i1, .int .i64 i2, .slice (some ⟨db, doff, none⟩) l3.length cd, .slice ap l4.length cp, .slice ar l5.length cr, .slice ag l6.length cg, .slice aw l7.length cw, .slice af l8.length cf] ∧ Below w.heap.size w wr)) (fun u _ => l6.length - (intOf u).toNat)
              case atStart => exact ⟨0, Nat.zero_le _, rfl, Lib.hid (fun k _ hk => by omega), HS⟩
              case round =>
                clear HS
                obtain ⟨i, hi, rfl, HK, HS⟩ := hrel
                have cX := HS.out.1.cell
                by_cases hlt : i < l6.length
                · have hne : l6.map Gu.cl ≠ [] := fun e => by have := congrArg List.length e; rw [List.length_map] at this; simp at this; rw [this] at hlt; simp at hlt
                  obtain ⟨b, off, ha, hb, HEl⟩ := KG.out hne
                  subst ha
                  have hlI : (i : Int) < (l6.length : Int) := by omega
                  have HC := Lib.hid (fun (W : World) (hS : Below w.heap.size w W) => (Elems.below HEl hS hb).gu i hlt)
                  have HKs := Lib.hid (fun (e : (fun g : Gu => decide (g.seen ≤ i1) && decide (g.vni = roomAt l3 g.door)) l6[i] = true) => upto_succ (P := (fun g : Gu => decide (g.seen ≤ i1) && decide (g.vni = roomAt l3 g.door))) hlt HK.out e)
                  have HNo := Lib.hid (HGn.out i hlt)
                  have HGr := Lib.hid (HGx.out i hlt)
                  dsimp only at HKs HNo
                  clear HEl hne
                  generalize l6[i] = y at *
                  obtain ⟨yv, ym, yi, yd, ys, yn, yt⟩ := y
                  dsimp only at *
                  obtain ⟨hd1, hd4⟩ := gu_door HGr.out
                  have hHd := HD4'.out
                  clear HGr
                  obtain ⟨k, rfl⟩ : ∃ k : Nat, yd = (k : Int) + 1 := ⟨(yd - 1).toNat, by omega⟩
                  have hk : k < l3.length := by omega
                  have hrm : roomAt l3 ((k : Int) + 1) = l3[k] := by
                    rw [roomAt_door hHd (by omega) (by omega) (by omega)]
                    simp
                  rw [hrm] at HKs HNo
                  have hkw : IntKind.i64.wrap (k : Int) = (k : Int) := by simp only [IntKind.wrap_i64]; omega
                  have hk4 : (k : Int) < (l3.length : Int) := by omega
                  have hk44 : (k : Int) < 4 := by omega
                  have HDk := Lib.hid (fun (W : World) (hS : Below w.heap.size w W) => HDc.out W hS k hk)
                  clear hrm
                  generalize l3[k] = rm at *
                  go_upto_region 22 with fail
                  have S0 := And.intro HS.out.1.drew HS.out.2.drew
                  clear HS cX
                  by_cases hv : rm = yv
                  · subst hv
                    by_cases hs2 : yn ≤ i1
                    · have hng : ¬ i1 < yn := by omega
                      refine wp_region_held_drew (S := fun W' => Blk W' w.heap.size 38 _ ∧ Below w.heap.size w W') (by kernel_rfl) S0 (fun hHeld => ?_)
                      clear hHeld
                      refine wpAnyH_take (i := 0) (oi := { dst := some 153, op := Op.fieldAddr 38 (Operand.tmp 1) 3, type := 0, pos := "l09_house.go:58", after := #[], guard := none }) (v := ?vvm1) rfl (by kernel_rfl) (by kernel_rfl) (by kernel_rfl) (fun _ _ _ h => h) (Or.inl ⟨by rfl, ?hym1⟩) S0 ?restm1
                      case hym1 => (intro w hSw; have hcX := hSw.1.cell; obtain ⟨p0, p1, p2, p3, p4, p5, p6⟩ := HC.out _ hSw.2; have hdk := HDk.out _ hSw.2;go_simp <;> with_reducible rfl)
                      try simp only [Act.put, List.setIfInBounds_toArray, List.set_cons_zero, List.set_cons_succ]
                      refine wpAnyH_take (i := 1) (oi := { dst := some 154, op := Op.load 22 (Operand.tmp 153), type := 22, pos := "l09_house.go:58", after := #[{ on := 0, ground := Ground.data }], guard := none }) (v := ?vvm2) rfl (by kernel_rfl) (by kernel_rfl) (by kernel_rfl) (fun _ _ _ h => h) (Or.inl ⟨by rfl, ?hym2⟩) S0 ?restm2
                      case hym2 => (intro w hSw; have hcX := hSw.1.cell; obtain ⟨p0, p1, p2, p3, p4, p5, p6⟩ := HC.out _ hSw.2; have hdk := HDk.out _ hSw.2;go_simp <;> with_reducible rfl)
                      try simp only [Act.put, List.setIfInBounds_toArray, List.set_cons_zero, List.set_cons_succ]
                      refine wpAnyH_take (i := 2) (oi := { dst := some 155, op := Op.fieldAddr 38 (Operand.tmp 1) 6, type := 0, pos := "l09_house.go:58", after := #[], guard := none }) (v := ?vvm3) rfl (by kernel_rfl) (by kernel_rfl) (by kernel_rfl) (fun _ _ _ h => h) (Or.inl ⟨by rfl, ?hym3⟩) S0 ?restm3
                      case hym3 => (intro w hSw; have hcX := hSw.1.cell; obtain ⟨p0, p1, p2, p3, p4, p5, p6⟩ := HC.out _ hSw.2; have hdk := HDk.out _ hSw.2;go_simp <;> with_reducible rfl)
                      try simp only [Act.put, List.setIfInBounds_toArray, List.set_cons_zero, List.set_cons_succ]
                      refine wpAnyH_take (i := 3) (oi := { dst := some 156, op := Op.load 34 (Operand.tmp 155), type := 34, pos := "l09_house.go:58", after := #[{ on := 2, ground := Ground.data }], guard := none }) (v := ?vvm4) rfl (by kernel_rfl) (by kernel_rfl) (by kernel_rfl) (fun _ _ _ h => h) (Or.inl ⟨by rfl, ?hym4⟩) S0 ?restm4
                      case hym4 => (intro w hSw; have hcX := hSw.1.cell; obtain ⟨p0, p1, p2, p3, p4, p5, p6⟩ := HC.out _ hSw.2; have hdk := HDk.out _ hSw.2;go_simp <;> with_reducible rfl)
                      try simp only [Act.put, List.setIfInBounds_toArray, List.set_cons_zero, List.set_cons_succ]
                      refine wpAnyH_take (i := 4) (oi := { dst := some 157, op := Op.move (Operand.tmp 7), type := 3, pos := "l09_house.go:58", after := #[], guard := none }) (v := ?vvm5) rfl (by kernel_rfl) (by kernel_rfl) (by kernel_rfl) (fun _ _ _ h => h) (Or.inl ⟨by rfl, ?hym5⟩) S0 ?restm5
                      case hym5 => (intro w hSw; have hcX := hSw.1.cell; obtain ⟨p0, p1, p2, p3, p4, p5, p6⟩ := HC.out _ hSw.2; have hdk := HDk.out _ hSw.2;go_simp <;> with_reducible rfl)
                      try simp only [Act.put, List.setIfInBounds_toArray, List.set_cons_zero, List.set_cons_succ]
                      refine wpAnyH_take (i := 5) (oi := { dst := some 158, op := Op.indexAddr 34 (Operand.tmp 156) (Operand.tmp 157), type := 0, pos := "l09_house.go:58", after := #[{ on := 3, ground := Ground.data }, { on := 4, ground := Ground.data }], guard := none }) (v := ?vvm6) rfl (by kernel_rfl) (by kernel_rfl) (by kernel_rfl) (fun _ _ _ h => h) (Or.inl ⟨by rfl, ?hym6⟩) S0 ?restm6
                      case hym6 => (intro w hSw; have hcX := hSw.1.cell; obtain ⟨p0, p1, p2, p3, p4, p5, p6⟩ := HC.out _ hSw.2; have hdk := HDk.out _ hSw.2;go_simp <;> with_reducible rfl)
                      try simp only [Act.put, List.setIfInBounds_toArray, List.set_cons_zero, List.set_cons_succ]
                      refine wpAnyH_take (i := 6) (oi := { dst := some 159, op := Op.fieldAddr 87 (Operand.tmp 158) 3, type := 0, pos := "l09_house.go:58", after := #[{ on := 5, ground := Ground.data }], guard := none }) (v := ?vvm7) rfl (by kernel_rfl) (by kernel_rfl) (by kernel_rfl) (fun _ _ _ h => h) (Or.inl ⟨by rfl, ?hym7⟩) S0 ?restm7
                      case hym7 => (intro w hSw; have hcX := hSw.1.cell; obtain ⟨p0, p1, p2, p3, p4, p5, p6⟩ := HC.out _ hSw.2; have hdk := HDk.out _ hSw.2;go_simp <;> with_reducible rfl)
                      try simp only [Act.put, List.setIfInBounds_toArray, List.set_cons_zero, List.set_cons_succ]
                      refine wpAnyH_take (i := 7) (oi := { dst := some 160, op := Op.load 2 (Operand.tmp 159), type := 2, pos := "l09_house.go:58", after := #[{ on := 6, ground := Ground.data }], guard := none }) (v := ?vvm8) rfl (by kernel_rfl) (by kernel_rfl) (by kernel_rfl) (fun _ _ _ h => h) (Or.inl ⟨by rfl, ?hym8⟩) S0 ?restm8
                      case hym8 => (intro w hSw; have hcX := hSw.1.cell; obtain ⟨p0, p1, p2, p3, p4, p5, p6⟩ := HC.out _ hSw.2; have hdk := HDk.out _ hSw.2;go_simp <;> with_reducible rfl)
                      try simp only [Act.put, List.setIfInBounds_toArray, List.set_cons_zero, List.set_cons_succ]
                      refine wpAnyH_take (i := 8) (oi := { dst := some 161, op := Op.binOp BinOp.sub 2 (Operand.tmp 160) (Operand.const (Value.int IntKind.i64 1)) 2, type := 2, pos := "l09_house.go:58", after := #[{ on := 7, ground := Ground.data }], guard := none }) (v := ?vvm9) rfl (by kernel_rfl) (by kernel_rfl) (by kernel_rfl) (fun _ _ _ h => h) (Or.inl ⟨by rfl, ?hym9⟩) S0 ?restm9
                      case hym9 => (intro w hSw; have hcX := hSw.1.cell; obtain ⟨p0, p1, p2, p3, p4, p5, p6⟩ := HC.out _ hSw.2; have hdk := HDk.out _ hSw.2;go_simp <;> with_reducible rfl)
                      try simp only [Act.put, List.setIfInBounds_toArray, List.set_cons_zero, List.set_cons_succ]
                      refine wpAnyH_take (i := 9) (oi := { dst := some 162, op := Op.indexAddr 22 (Operand.tmp 154) (Operand.tmp 161), type := 0, pos := "l09_house.go:58", after := #[{ on := 1, ground := Ground.data }, { on := 8, ground := Ground.data }], guard := none }) (v := ?vvm10) rfl (by kernel_rfl) (by kernel_rfl) (by kernel_rfl) (fun _ _ _ h => h) (Or.inl ⟨by rfl, ?hym10⟩) S0 ?restm10
                      case hym10 => (intro w hSw; have hcX := hSw.1.cell; obtain ⟨p0, p1, p2, p3, p4, p5, p6⟩ := HC.out _ hSw.2; have hdk := HDk.out _ hSw.2;go_simp <;> with_reducible rfl)
                      try simp only [Act.put, List.setIfInBounds_toArray, List.set_cons_zero, List.set_cons_succ]
                      refine wpAnyH_take (i := 10) (oi := { dst := some 163, op := Op.load 2 (Operand.tmp 162), type := 2, pos := "l09_house.go:58", after := #[{ on := 9, ground := Ground.data }], guard := none }) (v := ?vvm11) rfl (by kernel_rfl) (by kernel_rfl) (by kernel_rfl) (fun _ _ _ h => h) (Or.inl ⟨by rfl, ?hym11⟩) S0 ?restm11
                      case hym11 => (intro w hSw; have hcX := hSw.1.cell; obtain ⟨p0, p1, p2, p3, p4, p5, p6⟩ := HC.out _ hSw.2; have hdk := HDk.out _ hSw.2;go_simp <;> with_reducible rfl)
                      try simp only [Act.put, List.setIfInBounds_toArray, List.set_cons_zero, List.set_cons_succ]
                      refine wpAnyH_take (i := 11) (oi := { dst := some 164, op := Op.fieldAddr 38 (Operand.tmp 1) 6, type := 0, pos := "l09_house.go:58", after := #[], guard := none }) (v := ?vvm12) rfl (by kernel_rfl) (by kernel_rfl) (by kernel_rfl) (fun _ _ _ h => h) (Or.inl ⟨by rfl, ?hym12⟩) S0 ?restm12
                      case hym12 => (intro w hSw; have hcX := hSw.1.cell; obtain ⟨p0, p1, p2, p3, p4, p5, p6⟩ := HC.out _ hSw.2; have hdk := HDk.out _ hSw.2;go_simp <;> with_reducible rfl)
                      try simp only [Act.put, List.setIfInBounds_toArray, List.set_cons_zero, List.set_cons_succ]
                      refine wpAnyH_take (i := 12) (oi := { dst := some 165, op := Op.load 34 (Operand.tmp 164), type := 34, pos := "l09_house.go:58", after := #[{ on := 11, ground := Ground.data }], guard := none }) (v := ?vvm13) rfl (by kernel_rfl) (by kernel_rfl) (by kernel_rfl) (fun _ _ _ h => h) (Or.inl ⟨by rfl, ?hym13⟩) S0 ?restm13
                      case hym13 => (intro w hSw; have hcX := hSw.1.cell; obtain ⟨p0, p1, p2, p3, p4, p5, p6⟩ := HC.out _ hSw.2; have hdk := HDk.out _ hSw.2;go_simp <;> with_reducible rfl)
                      try simp only [Act.put, List.setIfInBounds_toArray, List.set_cons_zero, List.set_cons_succ]
                      refine wpAnyH_take (i := 13) (oi := { dst := some 166, op := Op.move (Operand.tmp 7), type := 3, pos := "l09_house.go:58", after := #[], guard := none }) (v := ?vvm14) rfl (by kernel_rfl) (by kernel_rfl) (by kernel_rfl) (fun _ _ _ h => h) (Or.inl ⟨by rfl, ?hym14⟩) S0 ?restm14
                      case hym14 => (intro w hSw; have hcX := hSw.1.cell; obtain ⟨p0, p1, p2, p3, p4, p5, p6⟩ := HC.out _ hSw.2; have hdk := HDk.out _ hSw.2;go_simp <;> with_reducible rfl)
                      try simp only [Act.put, List.setIfInBounds_toArray, List.set_cons_zero, List.set_cons_succ]
                      refine wpAnyH_take (i := 14) (oi := { dst := some 167, op := Op.indexAddr 34 (Operand.tmp 165) (Operand.tmp 166), type := 0, pos := "l09_house.go:58", after := #[{ on := 12, ground := Ground.data }, { on := 13, ground := Ground.data }], guard := none }) (v := ?vvm15) rfl (by kernel_rfl) (by kernel_rfl) (by kernel_rfl) (fun _ _ _ h => h) (Or.inl ⟨by rfl, ?hym15⟩) S0 ?restm15
                      case hym15 => (intro w hSw; have hcX := hSw.1.cell; obtain ⟨p0, p1, p2, p3, p4, p5, p6⟩ := HC.out _ hSw.2; have hdk := HDk.out _ hSw.2;go_simp <;> with_reducible rfl)
                      try simp only [Act.put, List.setIfInBounds_toArray, List.set_cons_zero, List.set_cons_succ]
                      refine wpAnyH_take (i := 15) (oi := { dst := some 168, op := Op.fieldAddr 87 (Operand.tmp 167) 0, type := 0, pos := "l09_house.go:58", after := #[{ on := 14, ground := Ground.data }], guard := none }) (v := ?vvm16) rfl (by kernel_rfl) (by kernel_rfl) (by kernel_rfl) (fun _ _ _ h => h) (Or.inl ⟨by rfl, ?hym16⟩) S0 ?restm16
                      case hym16 => (intro w hSw; have hcX := hSw.1.cell; obtain ⟨p0, p1, p2, p3, p4, p5, p6⟩ := HC.out _ hSw.2; have hdk := HDk.out _ hSw.2;go_simp <;> with_reducible rfl)
                      try simp only [Act.put, List.setIfInBounds_toArray, List.set_cons_zero, List.set_cons_succ]
                      refine wpAnyH_take (i := 16) (oi := { dst := some 169, op := Op.load 2 (Operand.tmp 168), type := 2, pos := "l09_house.go:58", after := #[{ on := 15, ground := Ground.data }], guard := none }) (v := ?vvm17) rfl (by kernel_rfl) (by kernel_rfl) (by kernel_rfl) (fun _ _ _ h => h) (Or.inl ⟨by rfl, ?hym17⟩) S0 ?restm17
                      case hym17 => (intro w hSw; have hcX := hSw.1.cell; obtain ⟨p0, p1, p2, p3, p4, p5, p6⟩ := HC.out _ hSw.2; have hdk := HDk.out _ hSw.2;go_simp <;> with_reducible rfl)
                      try simp only [Act.put, List.setIfInBounds_toArray, List.set_cons_zero, List.set_cons_succ]
                      refine wpAnyH_take (i := 17) (oi := { dst := some 170, op := Op.binOp BinOp.neq 2 (Operand.tmp 163) (Operand.tmp 169) 2, type := 4, pos := "l09_house.go:58", after := #[{ on := 10, ground := Ground.data }, { on := 16, ground := Ground.data }], guard := none }) (v := ?vvm18) rfl (by kernel_rfl) (by kernel_rfl) (by kernel_rfl) (fun _ _ _ h => h) (Or.inl ⟨by rfl, ?hym18⟩) S0 ?restm18
                      case hym18 => (intro w hSw; have hcX := hSw.1.cell; obtain ⟨p0, p1, p2, p3, p4, p5, p6⟩ := HC.out _ hSw.2; have hdk := HDk.out _ hSw.2;go_simp <;> with_reducible rfl)
                      try simp only [Act.put, List.setIfInBounds_toArray, List.set_cons_zero, List.set_cons_succ]
                      refine wpAnyH_take (i := 18) (oi := { dst := some 171, op := Op.move (Operand.tmp 170), type := 4, pos := "l09_house.go:58", after := #[{ on := 17, ground := Ground.data }], guard := none }) (v := ?vvm19) rfl (by kernel_rfl) (by kernel_rfl) (by kernel_rfl) (fun _ _ _ h => h) (Or.inl ⟨by rfl, ?hym19⟩) S0 ?restm19
                      case hym19 => (intro w hSw; have hcX := hSw.1.cell; obtain ⟨p0, p1, p2, p3, p4, p5, p6⟩ := HC.out _ hSw.2; have hdk := HDk.out _ hSw.2;go_simp <;> with_reducible rfl)
                      try simp only [Act.put, List.setIfInBounds_toArray, List.set_cons_zero, List.set_cons_succ]
                      refine wpAnyH_take (i := 19) (oi := { dst := some 172, op := Op.fieldAddr 38 (Operand.tmp 1) 6, type := 0, pos := "l09_house.go:58", after := #[{ on := 18, ground := Ground.guard }], guard := some (18, false) }) (v := ?vvm20) rfl (by kernel_rfl) (by kernel_rfl) (by kernel_rfl) (fun _ _ _ h => h) (Or.inl ⟨by rfl, ?hym20⟩) S0 ?restm20
                      case hym20 => (intro w hSw; have hcX := hSw.1.cell; obtain ⟨p0, p1, p2, p3, p4, p5, p6⟩ := HC.out _ hSw.2; have hdk := HDk.out _ hSw.2;go_simp <;> with_reducible rfl)
                      try simp only [Act.put, List.setIfInBounds_toArray, List.set_cons_zero, List.set_cons_succ]
                      refine wpAnyH_take (i := 20) (oi := { dst := some 173, op := Op.load 34 (Operand.tmp 172), type := 34, pos := "l09_house.go:58", after := #[{ on := 19, ground := Ground.data }, { on := 18, ground := Ground.guard }], guard := some (18, false) }) (v := ?vvm21) rfl (by kernel_rfl) (by kernel_rfl) (by kernel_rfl) (fun _ _ _ h => h) (Or.inl ⟨by rfl, ?hym21⟩) S0 ?restm21
                      case hym21 => (intro w hSw; have hcX := hSw.1.cell; obtain ⟨p0, p1, p2, p3, p4, p5, p6⟩ := HC.out _ hSw.2; have hdk := HDk.out _ hSw.2;go_simp <;> with_reducible rfl)
                      try simp only [Act.put, List.setIfInBounds_toArray, List.set_cons_zero, List.set_cons_succ]
                      refine wpAnyH_take (i := 21) (oi := { dst := some 174, op := Op.move (Operand.tmp 7), type := 3, pos := "l09_house.go:58", after := #[{ on := 18, ground := Ground.guard }], guard := some (18, false) }) (v := ?vvm22) rfl (by kernel_rfl) (by kernel_rfl) (by kernel_rfl) (fun _ _ _ h => h) (Or.inl ⟨by rfl, ?hym22⟩) S0 ?restm22
                      case hym22 => (intro w hSw; have hcX := hSw.1.cell; obtain ⟨p0, p1, p2, p3, p4, p5, p6⟩ := HC.out _ hSw.2; have hdk := HDk.out _ hSw.2;go_simp <;> with_reducible rfl)
                      try simp only [Act.put, List.setIfInBounds_toArray, List.set_cons_zero, List.set_cons_succ]
                      refine wpAnyH_take (i := 22) (oi := { dst := some 175, op := Op.indexAddr 34 (Operand.tmp 173) (Operand.tmp 174), type := 0, pos := "l09_house.go:58", after := #[{ on := 20, ground := Ground.data }, { on := 21, ground := Ground.data }, { on := 18, ground := Ground.guard }], guard := some (18, false) }) (v := ?vvm23) rfl (by kernel_rfl) (by kernel_rfl) (by kernel_rfl) (fun _ _ _ h => h) (Or.inl ⟨by rfl, ?hym23⟩) S0 ?restm23
                      case hym23 => (intro w hSw; have hcX := hSw.1.cell; obtain ⟨p0, p1, p2, p3, p4, p5, p6⟩ := HC.out _ hSw.2; have hdk := HDk.out _ hSw.2;go_simp <;> with_reducible rfl)
                      try simp only [Act.put, List.setIfInBounds_toArray, List.set_cons_zero, List.set_cons_succ]
                      refine wpAnyH_take (i := 23) (oi := { dst := some 176, op := Op.fieldAddr 87 (Operand.tmp 175) 5, type := 0, pos := "l09_house.go:58", after := #[{ on := 22, ground := Ground.data }, { on := 18, ground := Ground.guard }], guard := some (18, false) }) (v := ?vvm24) rfl (by kernel_rfl) (by kernel_rfl) (by kernel_rfl) (fun _ _ _ h => h) (Or.inl ⟨by rfl, ?hym24⟩) S0 ?restm24
                      case hym24 => (intro w hSw; have hcX := hSw.1.cell; obtain ⟨p0, p1, p2, p3, p4, p5, p6⟩ := HC.out _ hSw.2; have hdk := HDk.out _ hSw.2;go_simp <;> with_reducible rfl)
                      try simp only [Act.put, List.setIfInBounds_toArray, List.set_cons_zero, List.set_cons_succ]
                      refine wpAnyH_take (i := 24) (oi := { dst := some 177, op := Op.load 2 (Operand.tmp 176), type := 2, pos := "l09_house.go:58", after := #[{ on := 23, ground := Ground.data }, { on := 18, ground := Ground.guard }], guard := some (18, false) }) (v := ?vvm25) rfl (by kernel_rfl) (by kernel_rfl) (by kernel_rfl) (fun _ _ _ h => h) (Or.inl ⟨by rfl, ?hym25⟩) S0 ?restm25
                      case hym25 => (intro w hSw; have hcX := hSw.1.cell; obtain ⟨p0, p1, p2, p3, p4, p5, p6⟩ := HC.out _ hSw.2; have hdk := HDk.out _ hSw.2;go_simp <;> with_reducible rfl)
                      try simp only [Act.put, List.setIfInBounds_toArray, List.set_cons_zero, List.set_cons_succ]
                      refine wpAnyH_take (i := 25) (oi := { dst := some 178, op := Op.fieldAddr 38 (Operand.tmp 1) 1, type := 0, pos := "l09_house.go:58", after := #[{ on := 18, ground := Ground.guard }], guard := some (18, false) }) (v := ?vvm26) rfl (by kernel_rfl) (by kernel_rfl) (by kernel_rfl) (fun _ _ _ h => h) (Or.inl ⟨by rfl, ?hym26⟩) S0 ?restm26
                      case hym26 => (intro w hSw; have hcX := hSw.1.cell; obtain ⟨p0, p1, p2, p3, p4, p5, p6⟩ := HC.out _ hSw.2; have hdk := HDk.out _ hSw.2;go_simp <;> with_reducible rfl)
                      try simp only [Act.put, List.setIfInBounds_toArray, List.set_cons_zero, List.set_cons_succ]
                      refine wpAnyH_take (i := 26) (oi := { dst := some 179, op := Op.load 2 (Operand.tmp 178), type := 2, pos := "l09_house.go:58", after := #[{ on := 25, ground := Ground.data }, { on := 18, ground := Ground.guard }], guard := some (18, false) }) (v := ?vvm27) rfl (by kernel_rfl) (by kernel_rfl) (by kernel_rfl) (fun _ _ _ h => h) (Or.inl ⟨by rfl, ?hym27⟩) S0 ?restm27
                      case hym27 => (intro w hSw; have hcX := hSw.1.cell; obtain ⟨p0, p1, p2, p3, p4, p5, p6⟩ := HC.out _ hSw.2; have hdk := HDk.out _ hSw.2;go_simp <;> with_reducible rfl)
                      try simp only [Act.put, List.setIfInBounds_toArray, List.set_cons_zero, List.set_cons_succ]
                      refine wpAnyH_take (i := 27) (oi := { dst := some 180, op := Op.binOp BinOp.gtr 2 (Operand.tmp 177) (Operand.tmp 179) 2, type := 4, pos := "l09_house.go:58", after := #[{ on := 24, ground := Ground.data }, { on := 26, ground := Ground.data }, { on := 18, ground := Ground.guard }], guard := some (18, false) }) (v := ?vvm28) rfl (by kernel_rfl) (by kernel_rfl) (by kernel_rfl) (fun _ _ _ h => h) (Or.inl ⟨by rfl, ?hym28⟩) S0 ?restm28
                      case hym28 => (intro w hSw; have hcX := hSw.1.cell; obtain ⟨p0, p1, p2, p3, p4, p5, p6⟩ := HC.out _ hSw.2; have hdk := HDk.out _ hSw.2;go_simp <;> with_reducible rfl)
                      try simp only [Act.put, List.setIfInBounds_toArray, List.set_cons_zero, List.set_cons_succ]
                      refine wpAnyH_take (i := 28) (oi := { dst := some 181, op := Op.pick (Operand.tmp 171) (Operand.const (Value.bool true)) (Operand.tmp 180), type := 4, pos := "l09_house.go:58", after := #[{ on := 18, ground := Ground.data }, { on := 27, ground := Ground.data }], guard := none }) (v := ?vvm29) rfl (by kernel_rfl) (by kernel_rfl) (by kernel_rfl) (fun _ _ _ h => h) (Or.inl ⟨by rfl, ?hym29⟩) S0 ?restm29
                      case hym29 => (intro w hSw; have hcX := hSw.1.cell; obtain ⟨p0, p1, p2, p3, p4, p5, p6⟩ := HC.out _ hSw.2; have hdk := HDk.out _ hSw.2;go_simp <;> with_reducible rfl)
                      try simp only [Act.put, List.setIfInBounds_toArray, List.set_cons_zero, List.set_cons_succ]
                      refine wpAnyH_done (by kernel_rfl) ?_ _
                      all_goals
                        have HSn := Lib.hid S0
                        clear S0
                        go_wp2_with fail
                        go_roundw
                        case rel => exact ⟨i + 1, by omega, by simp, Lib.hid (HKs.out (by simp [hs2])), HSn⟩
                        case measure => simp [intOf]; omega
                    · have hng : i1 < yn := by omega
                      refine wp_region_held_drew (S := fun W' => Blk W' w.heap.size 38 _ ∧ Below w.heap.size w W') (by kernel_rfl) S0 (fun hHeld => ?_)
                      clear hHeld
                      refine wpAnyH_take (i := 0) (oi := { dst := some 153, op := Op.fieldAddr 38 (Operand.tmp 1) 3, type := 0, pos := "l09_house.go:58", after := #[], guard := none }) (v := ?vvn1) rfl (by kernel_rfl) (by kernel_rfl) (by kernel_rfl) (fun _ _ _ h => h) (Or.inl ⟨by rfl, ?hyn1⟩) S0 ?restn1
                      case hyn1 => (intro w hSw; have hcX := hSw.1.cell; obtain ⟨p0, p1, p2, p3, p4, p5, p6⟩ := HC.out _ hSw.2; have hdk := HDk.out _ hSw.2;go_simp <;> with_reducible rfl)
                      try simp only [Act.put, List.setIfInBounds_toArray, List.set_cons_zero, List.set_cons_succ]
                      refine wpAnyH_take (i := 1) (oi := { dst := some 154, op := Op.load 22 (Operand.tmp 153), type := 22, pos := "l09_house.go:58", after := #[{ on := 0, ground := Ground.data }], guard := none }) (v := ?vvn2) rfl (by kernel_rfl) (by kernel_rfl) (by kernel_rfl) (fun _ _ _ h => h) (Or.inl ⟨by rfl, ?hyn2⟩) S0 ?restn2
                      case hyn2 => (intro w hSw; have hcX := hSw.1.cell; obtain ⟨p0, p1, p2, p3, p4, p5, p6⟩ := HC.out _ hSw.2; have hdk := HDk.out _ hSw.2;go_simp <;> with_reducible rfl)
                      try simp only [Act.put, List.setIfInBounds_toArray, List.set_cons_zero, List.set_cons_succ]
                      refine wpAnyH_take (i := 2) (oi := { dst := some 155, op := Op.fieldAddr 38 (Operand.tmp 1) 6, type := 0, pos := "l09_house.go:58", after := #[], guard := none }) (v := ?vvn3) rfl (by kernel_rfl) (by kernel_rfl) (by kernel_rfl) (fun _ _ _ h => h) (Or.inl ⟨by rfl, ?hyn3⟩) S0 ?restn3
                      case hyn3 => (intro w hSw; have hcX := hSw.1.cell; obtain ⟨p0, p1, p2, p3, p4, p5, p6⟩ := HC.out _ hSw.2; have hdk := HDk.out _ hSw.2;go_simp <;> with_reducible rfl)
                      try simp only [Act.put, List.setIfInBounds_toArray, List.set_cons_zero, List.set_cons_succ]
                      refine wpAnyH_take (i := 3) (oi := { dst := some 156, op := Op.load 34 (Operand.tmp 155), type := 34, pos := "l09_house.go:58", after := #[{ on := 2, ground := Ground.data }], guard := none }) (v := ?vvn4) rfl (by kernel_rfl) (by kernel_rfl) (by kernel_rfl) (fun _ _ _ h => h) (Or.inl ⟨by rfl, ?hyn4⟩) S0 ?restn4
                      case hyn4 => (intro w hSw; have hcX := hSw.1.cell; obtain ⟨p0, p1, p2, p3, p4, p5, p6⟩ := HC.out _ hSw.2; have hdk := HDk.out _ hSw.2;go_simp <;> with_reducible rfl)
                      try simp only [Act.put, List.setIfInBounds_toArray, List.set_cons_zero, List.set_cons_succ]
                      refine wpAnyH_take (i := 4) (oi := { dst := some 157, op := Op.move (Operand.tmp 7), type := 3, pos := "l09_house.go:58", after := #[], guard := none }) (v := ?vvn5) rfl (by kernel_rfl) (by kernel_rfl) (by kernel_rfl) (fun _ _ _ h => h) (Or.inl ⟨by rfl, ?hyn5⟩) S0 ?restn5
                      case hyn5 => (intro w hSw; have hcX := hSw.1.cell; obtain ⟨p0, p1, p2, p3, p4, p5, p6⟩ := HC.out _ hSw.2; have hdk := HDk.out _ hSw.2;go_simp <;> with_reducible rfl)
                      try simp only [Act.put, List.setIfInBounds_toArray, List.set_cons_zero, List.set_cons_succ]
                      refine wpAnyH_take (i := 5) (oi := { dst := some 158, op := Op.indexAddr 34 (Operand.tmp 156) (Operand.tmp 157), type := 0, pos := "l09_house.go:58", after := #[{ on := 3, ground := Ground.data }, { on := 4, ground := Ground.data }], guard := none }) (v := ?vvn6) rfl (by kernel_rfl) (by kernel_rfl) (by kernel_rfl) (fun _ _ _ h => h) (Or.inl ⟨by rfl, ?hyn6⟩) S0 ?restn6
                      case hyn6 => (intro w hSw; have hcX := hSw.1.cell; obtain ⟨p0, p1, p2, p3, p4, p5, p6⟩ := HC.out _ hSw.2; have hdk := HDk.out _ hSw.2;go_simp <;> with_reducible rfl)
                      try simp only [Act.put, List.setIfInBounds_toArray, List.set_cons_zero, List.set_cons_succ]
                      refine wpAnyH_take (i := 6) (oi := { dst := some 159, op := Op.fieldAddr 87 (Operand.tmp 158) 3, type := 0, pos := "l09_house.go:58", after := #[{ on := 5, ground := Ground.data }], guard := none }) (v := ?vvn7) rfl (by kernel_rfl) (by kernel_rfl) (by kernel_rfl) (fun _ _ _ h => h) (Or.inl ⟨by rfl, ?hyn7⟩) S0 ?restn7
                      case hyn7 => (intro w hSw; have hcX := hSw.1.cell; obtain ⟨p0, p1, p2, p3, p4, p5, p6⟩ := HC.out _ hSw.2; have hdk := HDk.out _ hSw.2;go_simp <;> with_reducible rfl)
                      try simp only [Act.put, List.setIfInBounds_toArray, List.set_cons_zero, List.set_cons_succ]
                      refine wpAnyH_take (i := 7) (oi := { dst := some 160, op := Op.load 2 (Operand.tmp 159), type := 2, pos := "l09_house.go:58", after := #[{ on := 6, ground := Ground.data }], guard := none }) (v := ?vvn8) rfl (by kernel_rfl) (by kernel_rfl) (by kernel_rfl) (fun _ _ _ h => h) (Or.inl ⟨by rfl, ?hyn8⟩) S0 ?restn8
                      case hyn8 => (intro w hSw; have hcX := hSw.1.cell; obtain ⟨p0, p1, p2, p3, p4, p5, p6⟩ := HC.out _ hSw.2; have hdk := HDk.out _ hSw.2;go_simp <;> with_reducible rfl)
                      try simp only [Act.put, List.setIfInBounds_toArray, List.set_cons_zero, List.set_cons_succ]
                      refine wpAnyH_take (i := 8) (oi := { dst := some 161, op := Op.binOp BinOp.sub 2 (Operand.tmp 160) (Operand.const (Value.int IntKind.i64 1)) 2, type := 2, pos := "l09_house.go:58", after := #[{ on := 7, ground := Ground.data }], guard := none }) (v := ?vvn9) rfl (by kernel_rfl) (by kernel_rfl) (by kernel_rfl) (fun _ _ _ h => h) (Or.inl ⟨by rfl, ?hyn9⟩) S0 ?restn9
                      case hyn9 => (intro w hSw; have hcX := hSw.1.cell; obtain ⟨p0, p1, p2, p3, p4, p5, p6⟩ := HC.out _ hSw.2; have hdk := HDk.out _ hSw.2;go_simp <;> with_reducible rfl)
                      try simp only [Act.put, List.setIfInBounds_toArray, List.set_cons_zero, List.set_cons_succ]
                      refine wpAnyH_take (i := 9) (oi := { dst := some 162, op := Op.indexAddr 22 (Operand.tmp 154) (Operand.tmp 161), type := 0, pos := "l09_house.go:58", after := #[{ on := 1, ground := Ground.data }, { on := 8, ground := Ground.data }], guard := none }) (v := ?vvn10) rfl (by kernel_rfl) (by kernel_rfl) (by kernel_rfl) (fun _ _ _ h => h) (Or.inl ⟨by rfl, ?hyn10⟩) S0 ?restn10
                      case hyn10 => (intro w hSw; have hcX := hSw.1.cell; obtain ⟨p0, p1, p2, p3, p4, p5, p6⟩ := HC.out _ hSw.2; have hdk := HDk.out _ hSw.2;go_simp <;> with_reducible rfl)
                      try simp only [Act.put, List.setIfInBounds_toArray, List.set_cons_zero, List.set_cons_succ]
                      refine wpAnyH_take (i := 10) (oi := { dst := some 163, op := Op.load 2 (Operand.tmp 162), type := 2, pos := "l09_house.go:58", after := #[{ on := 9, ground := Ground.data }], guard := none }) (v := ?vvn11) rfl (by kernel_rfl) (by kernel_rfl) (by kernel_rfl) (fun _ _ _ h => h) (Or.inl ⟨by rfl, ?hyn11⟩) S0 ?restn11
                      case hyn11 => (intro w hSw; have hcX := hSw.1.cell; obtain ⟨p0, p1, p2, p3, p4, p5, p6⟩ := HC.out _ hSw.2; have hdk := HDk.out _ hSw.2;go_simp <;> with_reducible rfl)
                      try simp only [Act.put, List.setIfInBounds_toArray, List.set_cons_zero, List.set_cons_succ]
                      refine wpAnyH_take (i := 11) (oi := { dst := some 164, op := Op.fieldAddr 38 (Operand.tmp 1) 6, type := 0, pos := "l09_house.go:58", after := #[], guard := none }) (v := ?vvn12) rfl (by kernel_rfl) (by kernel_rfl) (by kernel_rfl) (fun _ _ _ h => h) (Or.inl ⟨by rfl, ?hyn12⟩) S0 ?restn12
                      case hyn12 => (intro w hSw; have hcX := hSw.1.cell; obtain ⟨p0, p1, p2, p3, p4, p5, p6⟩ := HC.out _ hSw.2; have hdk := HDk.out _ hSw.2;go_simp <;> with_reducible rfl)
                      try simp only [Act.put, List.setIfInBounds_toArray, List.set_cons_zero, List.set_cons_succ]
                      refine wpAnyH_take (i := 12) (oi := { dst := some 165, op := Op.load 34 (Operand.tmp 164), type := 34, pos := "l09_house.go:58", after := #[{ on := 11, ground := Ground.data }], guard := none }) (v := ?vvn13) rfl (by kernel_rfl) (by kernel_rfl) (by kernel_rfl) (fun _ _ _ h => h) (Or.inl ⟨by rfl, ?hyn13⟩) S0 ?restn13
                      case hyn13 => (intro w hSw; have hcX := hSw.1.cell; obtain ⟨p0, p1, p2, p3, p4, p5, p6⟩ := HC.out _ hSw.2; have hdk := HDk.out _ hSw.2;go_simp <;> with_reducible rfl)
                      try simp only [Act.put, List.setIfInBounds_toArray, List.set_cons_zero, List.set_cons_succ]
                      refine wpAnyH_take (i := 13) (oi := { dst := some 166, op := Op.move (Operand.tmp 7), type := 3, pos := "l09_house.go:58", after := #[], guard := none }) (v := ?vvn14) rfl (by kernel_rfl) (by kernel_rfl) (by kernel_rfl) (fun _ _ _ h => h) (Or.inl ⟨by rfl, ?hyn14⟩) S0 ?restn14
                      case hyn14 => (intro w hSw; have hcX := hSw.1.cell; obtain ⟨p0, p1, p2, p3, p4, p5, p6⟩ := HC.out _ hSw.2; have hdk := HDk.out _ hSw.2;go_simp <;> with_reducible rfl)
                      try simp only [Act.put, List.setIfInBounds_toArray, List.set_cons_zero, List.set_cons_succ]
                      refine wpAnyH_take (i := 14) (oi := { dst := some 167, op := Op.indexAddr 34 (Operand.tmp 165) (Operand.tmp 166), type := 0, pos := "l09_house.go:58", after := #[{ on := 12, ground := Ground.data }, { on := 13, ground := Ground.data }], guard := none }) (v := ?vvn15) rfl (by kernel_rfl) (by kernel_rfl) (by kernel_rfl) (fun _ _ _ h => h) (Or.inl ⟨by rfl, ?hyn15⟩) S0 ?restn15
                      case hyn15 => (intro w hSw; have hcX := hSw.1.cell; obtain ⟨p0, p1, p2, p3, p4, p5, p6⟩ := HC.out _ hSw.2; have hdk := HDk.out _ hSw.2;go_simp <;> with_reducible rfl)
                      try simp only [Act.put, List.setIfInBounds_toArray, List.set_cons_zero, List.set_cons_succ]
                      refine wpAnyH_take (i := 15) (oi := { dst := some 168, op := Op.fieldAddr 87 (Operand.tmp 167) 0, type := 0, pos := "l09_house.go:58", after := #[{ on := 14, ground := Ground.data }], guard := none }) (v := ?vvn16) rfl (by kernel_rfl) (by kernel_rfl) (by kernel_rfl) (fun _ _ _ h => h) (Or.inl ⟨by rfl, ?hyn16⟩) S0 ?restn16
                      case hyn16 => (intro w hSw; have hcX := hSw.1.cell; obtain ⟨p0, p1, p2, p3, p4, p5, p6⟩ := HC.out _ hSw.2; have hdk := HDk.out _ hSw.2;go_simp <;> with_reducible rfl)
                      try simp only [Act.put, List.setIfInBounds_toArray, List.set_cons_zero, List.set_cons_succ]
                      refine wpAnyH_take (i := 16) (oi := { dst := some 169, op := Op.load 2 (Operand.tmp 168), type := 2, pos := "l09_house.go:58", after := #[{ on := 15, ground := Ground.data }], guard := none }) (v := ?vvn17) rfl (by kernel_rfl) (by kernel_rfl) (by kernel_rfl) (fun _ _ _ h => h) (Or.inl ⟨by rfl, ?hyn17⟩) S0 ?restn17
                      case hyn17 => (intro w hSw; have hcX := hSw.1.cell; obtain ⟨p0, p1, p2, p3, p4, p5, p6⟩ := HC.out _ hSw.2; have hdk := HDk.out _ hSw.2;go_simp <;> with_reducible rfl)
                      try simp only [Act.put, List.setIfInBounds_toArray, List.set_cons_zero, List.set_cons_succ]
                      refine wpAnyH_take (i := 17) (oi := { dst := some 170, op := Op.binOp BinOp.neq 2 (Operand.tmp 163) (Operand.tmp 169) 2, type := 4, pos := "l09_house.go:58", after := #[{ on := 10, ground := Ground.data }, { on := 16, ground := Ground.data }], guard := none }) (v := ?vvn18) rfl (by kernel_rfl) (by kernel_rfl) (by kernel_rfl) (fun _ _ _ h => h) (Or.inl ⟨by rfl, ?hyn18⟩) S0 ?restn18
                      case hyn18 => (intro w hSw; have hcX := hSw.1.cell; obtain ⟨p0, p1, p2, p3, p4, p5, p6⟩ := HC.out _ hSw.2; have hdk := HDk.out _ hSw.2;go_simp <;> with_reducible rfl)
                      try simp only [Act.put, List.setIfInBounds_toArray, List.set_cons_zero, List.set_cons_succ]
                      refine wpAnyH_take (i := 18) (oi := { dst := some 171, op := Op.move (Operand.tmp 170), type := 4, pos := "l09_house.go:58", after := #[{ on := 17, ground := Ground.data }], guard := none }) (v := ?vvn19) rfl (by kernel_rfl) (by kernel_rfl) (by kernel_rfl) (fun _ _ _ h => h) (Or.inl ⟨by rfl, ?hyn19⟩) S0 ?restn19
                      case hyn19 => (intro w hSw; have hcX := hSw.1.cell; obtain ⟨p0, p1, p2, p3, p4, p5, p6⟩ := HC.out _ hSw.2; have hdk := HDk.out _ hSw.2;go_simp <;> with_reducible rfl)
                      try simp only [Act.put, List.setIfInBounds_toArray, List.set_cons_zero, List.set_cons_succ]
                      refine wpAnyH_take (i := 19) (oi := { dst := some 172, op := Op.fieldAddr 38 (Operand.tmp 1) 6, type := 0, pos := "l09_house.go:58", after := #[{ on := 18, ground := Ground.guard }], guard := some (18, false) }) (v := ?vvn20) rfl (by kernel_rfl) (by kernel_rfl) (by kernel_rfl) (fun _ _ _ h => h) (Or.inl ⟨by rfl, ?hyn20⟩) S0 ?restn20
                      case hyn20 => (intro w hSw; have hcX := hSw.1.cell; obtain ⟨p0, p1, p2, p3, p4, p5, p6⟩ := HC.out _ hSw.2; have hdk := HDk.out _ hSw.2;go_simp <;> with_reducible rfl)
                      try simp only [Act.put, List.setIfInBounds_toArray, List.set_cons_zero, List.set_cons_succ]
                      refine wpAnyH_take (i := 20) (oi := { dst := some 173, op := Op.load 34 (Operand.tmp 172), type := 34, pos := "l09_house.go:58", after := #[{ on := 19, ground := Ground.data }, { on := 18, ground := Ground.guard }], guard := some (18, false) }) (v := ?vvn21) rfl (by kernel_rfl) (by kernel_rfl) (by kernel_rfl) (fun _ _ _ h => h) (Or.inl ⟨by rfl, ?hyn21⟩) S0 ?restn21
                      case hyn21 => (intro w hSw; have hcX := hSw.1.cell; obtain ⟨p0, p1, p2, p3, p4, p5, p6⟩ := HC.out _ hSw.2; have hdk := HDk.out _ hSw.2;go_simp <;> with_reducible rfl)
                      try simp only [Act.put, List.setIfInBounds_toArray, List.set_cons_zero, List.set_cons_succ]
                      refine wpAnyH_take (i := 21) (oi := { dst := some 174, op := Op.move (Operand.tmp 7), type := 3, pos := "l09_house.go:58", after := #[{ on := 18, ground := Ground.guard }], guard := some (18, false) }) (v := ?vvn22) rfl (by kernel_rfl) (by kernel_rfl) (by kernel_rfl) (fun _ _ _ h => h) (Or.inl ⟨by rfl, ?hyn22⟩) S0 ?restn22
                      case hyn22 => (intro w hSw; have hcX := hSw.1.cell; obtain ⟨p0, p1, p2, p3, p4, p5, p6⟩ := HC.out _ hSw.2; have hdk := HDk.out _ hSw.2;go_simp <;> with_reducible rfl)
                      try simp only [Act.put, List.setIfInBounds_toArray, List.set_cons_zero, List.set_cons_succ]
                      refine wpAnyH_take (i := 22) (oi := { dst := some 175, op := Op.indexAddr 34 (Operand.tmp 173) (Operand.tmp 174), type := 0, pos := "l09_house.go:58", after := #[{ on := 20, ground := Ground.data }, { on := 21, ground := Ground.data }, { on := 18, ground := Ground.guard }], guard := some (18, false) }) (v := ?vvn23) rfl (by kernel_rfl) (by kernel_rfl) (by kernel_rfl) (fun _ _ _ h => h) (Or.inl ⟨by rfl, ?hyn23⟩) S0 ?restn23
                      case hyn23 => (intro w hSw; have hcX := hSw.1.cell; obtain ⟨p0, p1, p2, p3, p4, p5, p6⟩ := HC.out _ hSw.2; have hdk := HDk.out _ hSw.2;go_simp <;> with_reducible rfl)
                      try simp only [Act.put, List.setIfInBounds_toArray, List.set_cons_zero, List.set_cons_succ]
                      refine wpAnyH_take (i := 23) (oi := { dst := some 176, op := Op.fieldAddr 87 (Operand.tmp 175) 5, type := 0, pos := "l09_house.go:58", after := #[{ on := 22, ground := Ground.data }, { on := 18, ground := Ground.guard }], guard := some (18, false) }) (v := ?vvn24) rfl (by kernel_rfl) (by kernel_rfl) (by kernel_rfl) (fun _ _ _ h => h) (Or.inl ⟨by rfl, ?hyn24⟩) S0 ?restn24
                      case hyn24 => (intro w hSw; have hcX := hSw.1.cell; obtain ⟨p0, p1, p2, p3, p4, p5, p6⟩ := HC.out _ hSw.2; have hdk := HDk.out _ hSw.2;go_simp <;> with_reducible rfl)
                      try simp only [Act.put, List.setIfInBounds_toArray, List.set_cons_zero, List.set_cons_succ]
                      refine wpAnyH_take (i := 24) (oi := { dst := some 177, op := Op.load 2 (Operand.tmp 176), type := 2, pos := "l09_house.go:58", after := #[{ on := 23, ground := Ground.data }, { on := 18, ground := Ground.guard }], guard := some (18, false) }) (v := ?vvn25) rfl (by kernel_rfl) (by kernel_rfl) (by kernel_rfl) (fun _ _ _ h => h) (Or.inl ⟨by rfl, ?hyn25⟩) S0 ?restn25
                      case hyn25 => (intro w hSw; have hcX := hSw.1.cell; obtain ⟨p0, p1, p2, p3, p4, p5, p6⟩ := HC.out _ hSw.2; have hdk := HDk.out _ hSw.2;go_simp <;> with_reducible rfl)
                      try simp only [Act.put, List.setIfInBounds_toArray, List.set_cons_zero, List.set_cons_succ]
                      refine wpAnyH_take (i := 25) (oi := { dst := some 178, op := Op.fieldAddr 38 (Operand.tmp 1) 1, type := 0, pos := "l09_house.go:58", after := #[{ on := 18, ground := Ground.guard }], guard := some (18, false) }) (v := ?vvn26) rfl (by kernel_rfl) (by kernel_rfl) (by kernel_rfl) (fun _ _ _ h => h) (Or.inl ⟨by rfl, ?hyn26⟩) S0 ?restn26
                      case hyn26 => (intro w hSw; have hcX := hSw.1.cell; obtain ⟨p0, p1, p2, p3, p4, p5, p6⟩ := HC.out _ hSw.2; have hdk := HDk.out _ hSw.2;go_simp <;> with_reducible rfl)
                      try simp only [Act.put, List.setIfInBounds_toArray, List.set_cons_zero, List.set_cons_succ]
                      refine wpAnyH_take (i := 26) (oi := { dst := some 179, op := Op.load 2 (Operand.tmp 178), type := 2, pos := "l09_house.go:58", after := #[{ on := 25, ground := Ground.data }, { on := 18, ground := Ground.guard }], guard := some (18, false) }) (v := ?vvn27) rfl (by kernel_rfl) (by kernel_rfl) (by kernel_rfl) (fun _ _ _ h => h) (Or.inl ⟨by rfl, ?hyn27⟩) S0 ?restn27
                      case hyn27 => (intro w hSw; have hcX := hSw.1.cell; obtain ⟨p0, p1, p2, p3, p4, p5, p6⟩ := HC.out _ hSw.2; have hdk := HDk.out _ hSw.2;go_simp <;> with_reducible rfl)
                      try simp only [Act.put, List.setIfInBounds_toArray, List.set_cons_zero, List.set_cons_succ]
                      refine wpAnyH_take (i := 27) (oi := { dst := some 180, op := Op.binOp BinOp.gtr 2 (Operand.tmp 177) (Operand.tmp 179) 2, type := 4, pos := "l09_house.go:58", after := #[{ on := 24, ground := Ground.data }, { on := 26, ground := Ground.data }, { on := 18, ground := Ground.guard }], guard := some (18, false) }) (v := ?vvn28) rfl (by kernel_rfl) (by kernel_rfl) (by kernel_rfl) (fun _ _ _ h => h) (Or.inl ⟨by rfl, ?hyn28⟩) S0 ?restn28
                      case hyn28 => (intro w hSw; have hcX := hSw.1.cell; obtain ⟨p0, p1, p2, p3, p4, p5, p6⟩ := HC.out _ hSw.2; have hdk := HDk.out _ hSw.2;go_simp <;> with_reducible rfl)
                      try simp only [Act.put, List.setIfInBounds_toArray, List.set_cons_zero, List.set_cons_succ]
                      refine wpAnyH_take (i := 28) (oi := { dst := some 181, op := Op.pick (Operand.tmp 171) (Operand.const (Value.bool true)) (Operand.tmp 180), type := 4, pos := "l09_house.go:58", after := #[{ on := 18, ground := Ground.data }, { on := 27, ground := Ground.data }], guard := none }) (v := ?vvn29) rfl (by kernel_rfl) (by kernel_rfl) (by kernel_rfl) (fun _ _ _ h => h) (Or.inl ⟨by rfl, ?hyn29⟩) S0 ?restn29
                      case hyn29 => (intro w hSw; have hcX := hSw.1.cell; obtain ⟨p0, p1, p2, p3, p4, p5, p6⟩ := HC.out _ hSw.2; have hdk := HDk.out _ hSw.2;go_simp <;> with_reducible rfl)
                      try simp only [Act.put, List.setIfInBounds_toArray, List.set_cons_zero, List.set_cons_succ]
                      refine wpAnyH_done (by kernel_rfl) ?_ _
                      all_goals
                        have HBn := Lib.hid S0.2
                        clear S0
                        go_wp2_with fail
                        go_ret
                        exact ⟨bool_ret (by rw [hr.out, HPA.out, HRA.out, HFA.out, HNo.out (by simp [hs2])]; simp), HBn.out⟩
                  · have hvX : (rm == yv) = false := by simpa using hv
                    have hvY : decide (rm = yv) = false := decide_eq_false hv
                    have HX1 := Lib.hid hvX
                    have HX2 := Lib.hid hvY
                    have HX3 : Hid ((rm != yv) = true) := Lib.hid (by rw [bne, hvX]; rfl)
                    clear hvX hvY
                    refine wp_region_held_drew (S := fun W' => Blk W' w.heap.size 38 _ ∧ Below w.heap.size w W') (by kernel_rfl) S0 (fun hHeld => ?_)
                    clear hHeld
                    refine wpAnyH_take (i := 0) (oi := { dst := some 153, op := Op.fieldAddr 38 (Operand.tmp 1) 3, type := 0, pos := "l09_house.go:58", after := #[], guard := none }) (v := ?vvo1) rfl (by kernel_rfl) (by kernel_rfl) (by kernel_rfl) (fun _ _ _ h => h) (Or.inl ⟨by rfl, ?hyo1⟩) S0 ?resto1
                    case hyo1 => (intro w hSw; have hcX := hSw.1.cell; obtain ⟨p0, p1, p2, p3, p4, p5, p6⟩ := HC.out _ hSw.2; have hdk := HDk.out _ hSw.2;go_simp <;> with_reducible rfl)
                    try simp only [Act.put, List.setIfInBounds_toArray, List.set_cons_zero, List.set_cons_succ]
                    try simp only [HX1.out]
                    try simp only [HX2.out]
                    try simp only [HX3.out]
                    refine wpAnyH_take (i := 1) (oi := { dst := some 154, op := Op.load 22 (Operand.tmp 153), type := 22, pos := "l09_house.go:58", after := #[{ on := 0, ground := Ground.data }], guard := none }) (v := ?vvo2) rfl (by kernel_rfl) (by kernel_rfl) (by kernel_rfl) (fun _ _ _ h => h) (Or.inl ⟨by rfl, ?hyo2⟩) S0 ?resto2
                    case hyo2 => (intro w hSw; have hcX := hSw.1.cell; obtain ⟨p0, p1, p2, p3, p4, p5, p6⟩ := HC.out _ hSw.2; have hdk := HDk.out _ hSw.2;go_simp <;> with_reducible rfl)
                    try simp only [Act.put, List.setIfInBounds_toArray, List.set_cons_zero, List.set_cons_succ]
                    try simp only [HX1.out]
                    try simp only [HX2.out]
                    try simp only [HX3.out]
                    refine wpAnyH_take (i := 2) (oi := { dst := some 155, op := Op.fieldAddr 38 (Operand.tmp 1) 6, type := 0, pos := "l09_house.go:58", after := #[], guard := none }) (v := ?vvo3) rfl (by kernel_rfl) (by kernel_rfl) (by kernel_rfl) (fun _ _ _ h => h) (Or.inl ⟨by rfl, ?hyo3⟩) S0 ?resto3
                    case hyo3 => (intro w hSw; have hcX := hSw.1.cell; obtain ⟨p0, p1, p2, p3, p4, p5, p6⟩ := HC.out _ hSw.2; have hdk := HDk.out _ hSw.2;go_simp <;> with_reducible rfl)
                    try simp only [Act.put, List.setIfInBounds_toArray, List.set_cons_zero, List.set_cons_succ]
                    try simp only [HX1.out]
                    try simp only [HX2.out]
                    try simp only [HX3.out]
                    refine wpAnyH_take (i := 3) (oi := { dst := some 156, op := Op.load 34 (Operand.tmp 155), type := 34, pos := "l09_house.go:58", after := #[{ on := 2, ground := Ground.data }], guard := none }) (v := ?vvo4) rfl (by kernel_rfl) (by kernel_rfl) (by kernel_rfl) (fun _ _ _ h => h) (Or.inl ⟨by rfl, ?hyo4⟩) S0 ?resto4
                    case hyo4 => (intro w hSw; have hcX := hSw.1.cell; obtain ⟨p0, p1, p2, p3, p4, p5, p6⟩ := HC.out _ hSw.2; have hdk := HDk.out _ hSw.2;go_simp <;> with_reducible rfl)
                    try simp only [Act.put, List.setIfInBounds_toArray, List.set_cons_zero, List.set_cons_succ]
                    try simp only [HX1.out]
                    try simp only [HX2.out]
                    try simp only [HX3.out]
                    refine wpAnyH_take (i := 4) (oi := { dst := some 157, op := Op.move (Operand.tmp 7), type := 3, pos := "l09_house.go:58", after := #[], guard := none }) (v := ?vvo5) rfl (by kernel_rfl) (by kernel_rfl) (by kernel_rfl) (fun _ _ _ h => h) (Or.inl ⟨by rfl, ?hyo5⟩) S0 ?resto5
                    case hyo5 => (intro w hSw; have hcX := hSw.1.cell; obtain ⟨p0, p1, p2, p3, p4, p5, p6⟩ := HC.out _ hSw.2; have hdk := HDk.out _ hSw.2;go_simp <;> with_reducible rfl)
                    try simp only [Act.put, List.setIfInBounds_toArray, List.set_cons_zero, List.set_cons_succ]
                    try simp only [HX1.out]
                    try simp only [HX2.out]
                    try simp only [HX3.out]
                    refine wpAnyH_take (i := 5) (oi := { dst := some 158, op := Op.indexAddr 34 (Operand.tmp 156) (Operand.tmp 157), type := 0, pos := "l09_house.go:58", after := #[{ on := 3, ground := Ground.data }, { on := 4, ground := Ground.data }], guard := none }) (v := ?vvo6) rfl (by kernel_rfl) (by kernel_rfl) (by kernel_rfl) (fun _ _ _ h => h) (Or.inl ⟨by rfl, ?hyo6⟩) S0 ?resto6
                    case hyo6 => (intro w hSw; have hcX := hSw.1.cell; obtain ⟨p0, p1, p2, p3, p4, p5, p6⟩ := HC.out _ hSw.2; have hdk := HDk.out _ hSw.2;go_simp <;> with_reducible rfl)
                    try simp only [Act.put, List.setIfInBounds_toArray, List.set_cons_zero, List.set_cons_succ]
                    try simp only [HX1.out]
                    try simp only [HX2.out]
                    try simp only [HX3.out]
                    refine wpAnyH_take (i := 6) (oi := { dst := some 159, op := Op.fieldAddr 87 (Operand.tmp 158) 3, type := 0, pos := "l09_house.go:58", after := #[{ on := 5, ground := Ground.data }], guard := none }) (v := ?vvo7) rfl (by kernel_rfl) (by kernel_rfl) (by kernel_rfl) (fun _ _ _ h => h) (Or.inl ⟨by rfl, ?hyo7⟩) S0 ?resto7
                    case hyo7 => (intro w hSw; have hcX := hSw.1.cell; obtain ⟨p0, p1, p2, p3, p4, p5, p6⟩ := HC.out _ hSw.2; have hdk := HDk.out _ hSw.2;go_simp <;> with_reducible rfl)
                    try simp only [Act.put, List.setIfInBounds_toArray, List.set_cons_zero, List.set_cons_succ]
                    try simp only [HX1.out]
                    try simp only [HX2.out]
                    try simp only [HX3.out]
                    refine wpAnyH_take (i := 7) (oi := { dst := some 160, op := Op.load 2 (Operand.tmp 159), type := 2, pos := "l09_house.go:58", after := #[{ on := 6, ground := Ground.data }], guard := none }) (v := ?vvo8) rfl (by kernel_rfl) (by kernel_rfl) (by kernel_rfl) (fun _ _ _ h => h) (Or.inl ⟨by rfl, ?hyo8⟩) S0 ?resto8
                    case hyo8 => (intro w hSw; have hcX := hSw.1.cell; obtain ⟨p0, p1, p2, p3, p4, p5, p6⟩ := HC.out _ hSw.2; have hdk := HDk.out _ hSw.2;go_simp <;> with_reducible rfl)
                    try simp only [Act.put, List.setIfInBounds_toArray, List.set_cons_zero, List.set_cons_succ]
                    try simp only [HX1.out]
                    try simp only [HX2.out]
                    try simp only [HX3.out]
                    refine wpAnyH_take (i := 8) (oi := { dst := some 161, op := Op.binOp BinOp.sub 2 (Operand.tmp 160) (Operand.const (Value.int IntKind.i64 1)) 2, type := 2, pos := "l09_house.go:58", after := #[{ on := 7, ground := Ground.data }], guard := none }) (v := ?vvo9) rfl (by kernel_rfl) (by kernel_rfl) (by kernel_rfl) (fun _ _ _ h => h) (Or.inl ⟨by rfl, ?hyo9⟩) S0 ?resto9
                    case hyo9 => (intro w hSw; have hcX := hSw.1.cell; obtain ⟨p0, p1, p2, p3, p4, p5, p6⟩ := HC.out _ hSw.2; have hdk := HDk.out _ hSw.2;go_simp <;> with_reducible rfl)
                    try simp only [Act.put, List.setIfInBounds_toArray, List.set_cons_zero, List.set_cons_succ]
                    try simp only [HX1.out]
                    try simp only [HX2.out]
                    try simp only [HX3.out]
                    refine wpAnyH_take (i := 9) (oi := { dst := some 162, op := Op.indexAddr 22 (Operand.tmp 154) (Operand.tmp 161), type := 0, pos := "l09_house.go:58", after := #[{ on := 1, ground := Ground.data }, { on := 8, ground := Ground.data }], guard := none }) (v := ?vvo10) rfl (by kernel_rfl) (by kernel_rfl) (by kernel_rfl) (fun _ _ _ h => h) (Or.inl ⟨by rfl, ?hyo10⟩) S0 ?resto10
                    case hyo10 => (intro w hSw; have hcX := hSw.1.cell; obtain ⟨p0, p1, p2, p3, p4, p5, p6⟩ := HC.out _ hSw.2; have hdk := HDk.out _ hSw.2;go_simp <;> with_reducible rfl)
                    try simp only [Act.put, List.setIfInBounds_toArray, List.set_cons_zero, List.set_cons_succ]
                    try simp only [HX1.out]
                    try simp only [HX2.out]
                    try simp only [HX3.out]
                    refine wpAnyH_take (i := 10) (oi := { dst := some 163, op := Op.load 2 (Operand.tmp 162), type := 2, pos := "l09_house.go:58", after := #[{ on := 9, ground := Ground.data }], guard := none }) (v := ?vvo11) rfl (by kernel_rfl) (by kernel_rfl) (by kernel_rfl) (fun _ _ _ h => h) (Or.inl ⟨by rfl, ?hyo11⟩) S0 ?resto11
                    case hyo11 => (intro w hSw; have hcX := hSw.1.cell; obtain ⟨p0, p1, p2, p3, p4, p5, p6⟩ := HC.out _ hSw.2; have hdk := HDk.out _ hSw.2;go_simp <;> with_reducible rfl)
                    try simp only [Act.put, List.setIfInBounds_toArray, List.set_cons_zero, List.set_cons_succ]
                    try simp only [HX1.out]
                    try simp only [HX2.out]
                    try simp only [HX3.out]
                    refine wpAnyH_take (i := 11) (oi := { dst := some 164, op := Op.fieldAddr 38 (Operand.tmp 1) 6, type := 0, pos := "l09_house.go:58", after := #[], guard := none }) (v := ?vvo12) rfl (by kernel_rfl) (by kernel_rfl) (by kernel_rfl) (fun _ _ _ h => h) (Or.inl ⟨by rfl, ?hyo12⟩) S0 ?resto12
                    case hyo12 => (intro w hSw; have hcX := hSw.1.cell; obtain ⟨p0, p1, p2, p3, p4, p5, p6⟩ := HC.out _ hSw.2; have hdk := HDk.out _ hSw.2;go_simp <;> with_reducible rfl)
                    try simp only [Act.put, List.setIfInBounds_toArray, List.set_cons_zero, List.set_cons_succ]
                    try simp only [HX1.out]
                    try simp only [HX2.out]
                    try simp only [HX3.out]
                    refine wpAnyH_take (i := 12) (oi := { dst := some 165, op := Op.load 34 (Operand.tmp 164), type := 34, pos := "l09_house.go:58", after := #[{ on := 11, ground := Ground.data }], guard := none }) (v := ?vvo13) rfl (by kernel_rfl) (by kernel_rfl) (by kernel_rfl) (fun _ _ _ h => h) (Or.inl ⟨by rfl, ?hyo13⟩) S0 ?resto13
                    case hyo13 => (intro w hSw; have hcX := hSw.1.cell; obtain ⟨p0, p1, p2, p3, p4, p5, p6⟩ := HC.out _ hSw.2; have hdk := HDk.out _ hSw.2;go_simp <;> with_reducible rfl)
                    try simp only [Act.put, List.setIfInBounds_toArray, List.set_cons_zero, List.set_cons_succ]
                    try simp only [HX1.out]
                    try simp only [HX2.out]
                    try simp only [HX3.out]
                    refine wpAnyH_take (i := 13) (oi := { dst := some 166, op := Op.move (Operand.tmp 7), type := 3, pos := "l09_house.go:58", after := #[], guard := none }) (v := ?vvo14) rfl (by kernel_rfl) (by kernel_rfl) (by kernel_rfl) (fun _ _ _ h => h) (Or.inl ⟨by rfl, ?hyo14⟩) S0 ?resto14
                    case hyo14 => (intro w hSw; have hcX := hSw.1.cell; obtain ⟨p0, p1, p2, p3, p4, p5, p6⟩ := HC.out _ hSw.2; have hdk := HDk.out _ hSw.2;go_simp <;> with_reducible rfl)
                    try simp only [Act.put, List.setIfInBounds_toArray, List.set_cons_zero, List.set_cons_succ]
                    try simp only [HX1.out]
                    try simp only [HX2.out]
                    try simp only [HX3.out]
                    refine wpAnyH_take (i := 14) (oi := { dst := some 167, op := Op.indexAddr 34 (Operand.tmp 165) (Operand.tmp 166), type := 0, pos := "l09_house.go:58", after := #[{ on := 12, ground := Ground.data }, { on := 13, ground := Ground.data }], guard := none }) (v := ?vvo15) rfl (by kernel_rfl) (by kernel_rfl) (by kernel_rfl) (fun _ _ _ h => h) (Or.inl ⟨by rfl, ?hyo15⟩) S0 ?resto15
                    case hyo15 => (intro w hSw; have hcX := hSw.1.cell; obtain ⟨p0, p1, p2, p3, p4, p5, p6⟩ := HC.out _ hSw.2; have hdk := HDk.out _ hSw.2;go_simp <;> with_reducible rfl)
                    try simp only [Act.put, List.setIfInBounds_toArray, List.set_cons_zero, List.set_cons_succ]
                    try simp only [HX1.out]
                    try simp only [HX2.out]
                    try simp only [HX3.out]
                    refine wpAnyH_take (i := 15) (oi := { dst := some 168, op := Op.fieldAddr 87 (Operand.tmp 167) 0, type := 0, pos := "l09_house.go:58", after := #[{ on := 14, ground := Ground.data }], guard := none }) (v := ?vvo16) rfl (by kernel_rfl) (by kernel_rfl) (by kernel_rfl) (fun _ _ _ h => h) (Or.inl ⟨by rfl, ?hyo16⟩) S0 ?resto16
                    case hyo16 => (intro w hSw; have hcX := hSw.1.cell; obtain ⟨p0, p1, p2, p3, p4, p5, p6⟩ := HC.out _ hSw.2; have hdk := HDk.out _ hSw.2;go_simp <;> with_reducible rfl)
                    try simp only [Act.put, List.setIfInBounds_toArray, List.set_cons_zero, List.set_cons_succ]
                    try simp only [HX1.out]
                    try simp only [HX2.out]
                    try simp only [HX3.out]
                    refine wpAnyH_take (i := 16) (oi := { dst := some 169, op := Op.load 2 (Operand.tmp 168), type := 2, pos := "l09_house.go:58", after := #[{ on := 15, ground := Ground.data }], guard := none }) (v := ?vvo17) rfl (by kernel_rfl) (by kernel_rfl) (by kernel_rfl) (fun _ _ _ h => h) (Or.inl ⟨by rfl, ?hyo17⟩) S0 ?resto17
                    case hyo17 => (intro w hSw; have hcX := hSw.1.cell; obtain ⟨p0, p1, p2, p3, p4, p5, p6⟩ := HC.out _ hSw.2; have hdk := HDk.out _ hSw.2;go_simp <;> with_reducible rfl)
                    try simp only [Act.put, List.setIfInBounds_toArray, List.set_cons_zero, List.set_cons_succ]
                    try simp only [HX1.out]
                    try simp only [HX2.out]
                    try simp only [HX3.out]
                    refine wpAnyH_take (i := 17) (oi := { dst := some 170, op := Op.binOp BinOp.neq 2 (Operand.tmp 163) (Operand.tmp 169) 2, type := 4, pos := "l09_house.go:58", after := #[{ on := 10, ground := Ground.data }, { on := 16, ground := Ground.data }], guard := none }) (v := ?vvo18) rfl (by kernel_rfl) (by kernel_rfl) (by kernel_rfl) (fun _ _ _ h => h) (Or.inl ⟨by rfl, ?hyo18⟩) S0 ?resto18
                    case hyo18 => (intro w hSw; have hcX := hSw.1.cell; obtain ⟨p0, p1, p2, p3, p4, p5, p6⟩ := HC.out _ hSw.2; have hdk := HDk.out _ hSw.2;go_simp <;> with_reducible rfl)
                    try simp only [Act.put, List.setIfInBounds_toArray, List.set_cons_zero, List.set_cons_succ]
                    try simp only [HX1.out]
                    try simp only [HX2.out]
                    try simp only [HX3.out]
                    refine wpAnyH_take (i := 18) (oi := { dst := some 171, op := Op.move (Operand.tmp 170), type := 4, pos := "l09_house.go:58", after := #[{ on := 17, ground := Ground.data }], guard := none }) (v := ?vvo19) rfl (by kernel_rfl) (by kernel_rfl) (by kernel_rfl) (fun _ _ _ h => h) (Or.inl ⟨by rfl, ?hyo19⟩) S0 ?resto19
                    case hyo19 => (intro w hSw; have hcX := hSw.1.cell; obtain ⟨p0, p1, p2, p3, p4, p5, p6⟩ := HC.out _ hSw.2; have hdk := HDk.out _ hSw.2;go_simp <;> with_reducible rfl)
                    try simp only [Act.put, List.setIfInBounds_toArray, List.set_cons_zero, List.set_cons_succ]
                    try simp only [HX1.out]
                    try simp only [HX2.out]
                    try simp only [HX3.out]
                    refine wpAnyH_take (i := 19) (oi := { dst := some 172, op := Op.fieldAddr 38 (Operand.tmp 1) 6, type := 0, pos := "l09_house.go:58", after := #[{ on := 18, ground := Ground.guard }], guard := some (18, false) }) (v := undef) rfl (by kernel_rfl) (by kernel_rfl) (by kernel_rfl) (fun _ _ _ h => h) (Or.inr ⟨by rfl, rfl⟩) S0 ?_
                    try simp only [Act.put, List.setIfInBounds_toArray, List.set_cons_zero, List.set_cons_succ]
                    try simp only [HX1.out]
                    try simp only [HX2.out]
                    try simp only [HX3.out]
                    refine wpAnyH_take (i := 20) (oi := { dst := some 173, op := Op.load 34 (Operand.tmp 172), type := 34, pos := "l09_house.go:58", after := #[{ on := 19, ground := Ground.data }, { on := 18, ground := Ground.guard }], guard := some (18, false) }) (v := undef) rfl (by kernel_rfl) (by kernel_rfl) (by kernel_rfl) (fun _ _ _ h => h) (Or.inr ⟨by rfl, rfl⟩) S0 ?_
                    try simp only [Act.put, List.setIfInBounds_toArray, List.set_cons_zero, List.set_cons_succ]
                    try simp only [HX1.out]
                    try simp only [HX2.out]
                    try simp only [HX3.out]
                    refine wpAnyH_take (i := 21) (oi := { dst := some 174, op := Op.move (Operand.tmp 7), type := 3, pos := "l09_house.go:58", after := #[{ on := 18, ground := Ground.guard }], guard := some (18, false) }) (v := undef) rfl (by kernel_rfl) (by kernel_rfl) (by kernel_rfl) (fun _ _ _ h => h) (Or.inr ⟨by rfl, rfl⟩) S0 ?_
                    try simp only [Act.put, List.setIfInBounds_toArray, List.set_cons_zero, List.set_cons_succ]
                    try simp only [HX1.out]
                    try simp only [HX2.out]
                    try simp only [HX3.out]
                    refine wpAnyH_take (i := 22) (oi := { dst := some 175, op := Op.indexAddr 34 (Operand.tmp 173) (Operand.tmp 174), type := 0, pos := "l09_house.go:58", after := #[{ on := 20, ground := Ground.data }, { on := 21, ground := Ground.data }, { on := 18, ground := Ground.guard }], guard := some (18, false) }) (v := undef) rfl (by kernel_rfl) (by kernel_rfl) (by kernel_rfl) (fun _ _ _ h => h) (Or.inr ⟨by rfl, rfl⟩) S0 ?_
                    try simp only [Act.put, List.setIfInBounds_toArray, List.set_cons_zero, List.set_cons_succ]
                    try simp only [HX1.out]
                    try simp only [HX2.out]
                    try simp only [HX3.out]
                    refine wpAnyH_take (i := 23) (oi := { dst := some 176, op := Op.fieldAddr 87 (Operand.tmp 175) 5, type := 0, pos := "l09_house.go:58", after := #[{ on := 22, ground := Ground.data }, { on := 18, ground := Ground.guard }], guard := some (18, false) }) (v := undef) rfl (by kernel_rfl) (by kernel_rfl) (by kernel_rfl) (fun _ _ _ h => h) (Or.inr ⟨by rfl, rfl⟩) S0 ?_
                    try simp only [Act.put, List.setIfInBounds_toArray, List.set_cons_zero, List.set_cons_succ]
                    try simp only [HX1.out]
                    try simp only [HX2.out]
                    try simp only [HX3.out]
                    refine wpAnyH_take (i := 24) (oi := { dst := some 177, op := Op.load 2 (Operand.tmp 176), type := 2, pos := "l09_house.go:58", after := #[{ on := 23, ground := Ground.data }, { on := 18, ground := Ground.guard }], guard := some (18, false) }) (v := undef) rfl (by kernel_rfl) (by kernel_rfl) (by kernel_rfl) (fun _ _ _ h => h) (Or.inr ⟨by rfl, rfl⟩) S0 ?_
                    try simp only [Act.put, List.setIfInBounds_toArray, List.set_cons_zero, List.set_cons_succ]
                    try simp only [HX1.out]
                    try simp only [HX2.out]
                    try simp only [HX3.out]
                    refine wpAnyH_take (i := 25) (oi := { dst := some 178, op := Op.fieldAddr 38 (Operand.tmp 1) 1, type := 0, pos := "l09_house.go:58", after := #[{ on := 18, ground := Ground.guard }], guard := some (18, false) }) (v := undef) rfl (by kernel_rfl) (by kernel_rfl) (by kernel_rfl) (fun _ _ _ h => h) (Or.inr ⟨by rfl, rfl⟩) S0 ?_
                    try simp only [Act.put, List.setIfInBounds_toArray, List.set_cons_zero, List.set_cons_succ]
                    try simp only [HX1.out]
                    try simp only [HX2.out]
                    try simp only [HX3.out]
                    refine wpAnyH_take (i := 26) (oi := { dst := some 179, op := Op.load 2 (Operand.tmp 178), type := 2, pos := "l09_house.go:58", after := #[{ on := 25, ground := Ground.data }, { on := 18, ground := Ground.guard }], guard := some (18, false) }) (v := undef) rfl (by kernel_rfl) (by kernel_rfl) (by kernel_rfl) (fun _ _ _ h => h) (Or.inr ⟨by rfl, rfl⟩) S0 ?_
                    try simp only [Act.put, List.setIfInBounds_toArray, List.set_cons_zero, List.set_cons_succ]
                    try simp only [HX1.out]
                    try simp only [HX2.out]
                    try simp only [HX3.out]
                    refine wpAnyH_take (i := 27) (oi := { dst := some 180, op := Op.binOp BinOp.gtr 2 (Operand.tmp 177) (Operand.tmp 179) 2, type := 4, pos := "l09_house.go:58", after := #[{ on := 24, ground := Ground.data }, { on := 26, ground := Ground.data }, { on := 18, ground := Ground.guard }], guard := some (18, false) }) (v := undef) rfl (by kernel_rfl) (by kernel_rfl) (by kernel_rfl) (fun _ _ _ h => h) (Or.inr ⟨by rfl, rfl⟩) S0 ?_
                    try simp only [Act.put, List.setIfInBounds_toArray, List.set_cons_zero, List.set_cons_succ]
                    try simp only [HX1.out]
                    try simp only [HX2.out]
                    try simp only [HX3.out]
                    refine wpAnyH_take (i := 28) (oi := { dst := some 181, op := Op.pick (Operand.tmp 171) (Operand.const (Value.bool true)) (Operand.tmp 180), type := 4, pos := "l09_house.go:58", after := #[{ on := 18, ground := Ground.data }, { on := 27, ground := Ground.data }], guard := none }) (v := ?vvo29) rfl (by kernel_rfl) (by kernel_rfl) (by kernel_rfl) (fun _ _ _ h => h) (Or.inl ⟨by rfl, ?hyo29⟩) S0 ?resto29
                    case hyo29 => (intro w hSw; have hcX := hSw.1.cell; obtain ⟨p0, p1, p2, p3, p4, p5, p6⟩ := HC.out _ hSw.2; have hdk := HDk.out _ hSw.2;go_simp <;> with_reducible rfl)
                    try simp only [Act.put, List.setIfInBounds_toArray, List.set_cons_zero, List.set_cons_succ]
                    try simp only [HX1.out]
                    try simp only [HX2.out]
                    try simp only [HX3.out]
                    refine wpAnyH_done (by kernel_rfl) ?_ _
                    all_goals
                      have HBn := Lib.hid S0.2
                      clear S0
                      go_wp2_with fail
                      go_ret
                      exact ⟨bool_ret (by rw [hr.out, HPA.out, HRA.out, HFA.out, HNo.out (by rw [decide_eq_false (fun e : yv = rm => hv e.symm), Bool.and_false])]; simp), HBn.out⟩
                · have hi2 : i = l6.length := by omega
                  have hlI : ¬ (i : Int) < (l6.length : Int) := by omega
                  subst hi2
                  have HGA := Lib.hid (HGy.out (fun k hk => HK.out k hk hk))
                  clear HK hlt
                  go_wp2_with fail
                  have HSl := Lib.hid (And.intro HS.out.1.drew HS.out.2.drew)
                  clear HS
                  by_cases hl0 : l7.length = 0
                  · have hMA := Lib.hid (HMz.out hl0)
                    have hl0I : ((l7.length : Int) == 0) = true := by simp [hl0]
                    have hl0J : (l7.length : Int) = 0 := by omega
                    have S0 := HSl.out
                    clear HSl
                    refine wp_region_held_drew (S := fun W' => Blk W' w.heap.size 38 _ ∧ Below w.heap.size w W') (by kernel_rfl) S0 (fun hHeld => ?_)
                    clear hHeld
                    refine wpAnyH_take (i := 0) (oi := { dst := some 182, op := Op.fieldAddr 38 (Operand.tmp 1) 7, type := 0, pos := "l09_house.go:62", after := #[], guard := none }) (v := ?vvp1) rfl (by kernel_rfl) (by kernel_rfl) (by kernel_rfl) (fun _ _ _ h => h) (Or.inl ⟨by rfl, ?hyp1⟩) S0 ?restp1
                    case hyp1 => (intro w hSw; have hcX := hSw.1.cell;go_simp <;> with_reducible rfl)
                    try simp only [Act.put, List.setIfInBounds_toArray, List.set_cons_zero, List.set_cons_succ]
                    refine wpAnyH_take (i := 1) (oi := { dst := some 183, op := Op.load 35 (Operand.tmp 182), type := 35, pos := "l09_house.go:62", after := #[{ on := 0, ground := Ground.data }], guard := none }) (v := ?vvp2) rfl (by kernel_rfl) (by kernel_rfl) (by kernel_rfl) (fun _ _ _ h => h) (Or.inl ⟨by rfl, ?hyp2⟩) S0 ?restp2
                    case hyp2 => (intro w hSw; have hcX := hSw.1.cell;go_simp <;> with_reducible rfl)
                    try simp only [Act.put, List.setIfInBounds_toArray, List.set_cons_zero, List.set_cons_succ]
                    refine wpAnyH_take (i := 2) (oi := { dst := some 184, op := Op.call { callee := Callee.builtin Builtin.len, args := #[Operand.tmp 183], argTypes := #[35] }, type := 3, pos := "l09_house.go:62", after := #[{ on := 1, ground := Ground.data }], guard := none }) (v := ?vvp3) rfl (by kernel_rfl) (by kernel_rfl) (by kernel_rfl) (fun _ _ _ h => h) (Or.inl ⟨by rfl, ?hyp3⟩) S0 ?restp3
                    case hyp3 => (intro w hSw; have hcX := hSw.1.cell;go_simp <;> with_reducible rfl)
                    try simp only [Act.put, List.setIfInBounds_toArray, List.set_cons_zero, List.set_cons_succ]
                    refine wpAnyH_take (i := 3) (oi := { dst := some 185, op := Op.binOp BinOp.eql 3 (Operand.tmp 184) (Operand.const (Value.int IntKind.i64 0)) 3, type := 4, pos := "l09_house.go:62", after := #[{ on := 2, ground := Ground.data }], guard := none }) (v := ?vvp4) rfl (by kernel_rfl) (by kernel_rfl) (by kernel_rfl) (fun _ _ _ h => h) (Or.inl ⟨by rfl, ?hyp4⟩) S0 ?restp4
                    case hyp4 => (intro w hSw; have hcX := hSw.1.cell;go_simp <;> with_reducible rfl)
                    try simp only [Act.put, List.setIfInBounds_toArray, List.set_cons_zero, List.set_cons_succ]
                    refine wpAnyH_take (i := 4) (oi := { dst := some 186, op := Op.move (Operand.tmp 185), type := 4, pos := "l09_house.go:62", after := #[{ on := 3, ground := Ground.data }], guard := none }) (v := ?vvp5) rfl (by kernel_rfl) (by kernel_rfl) (by kernel_rfl) (fun _ _ _ h => h) (Or.inl ⟨by rfl, ?hyp5⟩) S0 ?restp5
                    case hyp5 => (intro w hSw; have hcX := hSw.1.cell;go_simp <;> with_reducible rfl)
                    try simp only [Act.put, List.setIfInBounds_toArray, List.set_cons_zero, List.set_cons_succ]
                    refine wpAnyH_take (i := 5) (oi := { dst := some 187, op := Op.fieldAddr 38 (Operand.tmp 1) 7, type := 0, pos := "l09_house.go:62", after := #[{ on := 4, ground := Ground.guard }], guard := some (4, false) }) (v := undef) rfl (by kernel_rfl) (by kernel_rfl) (by kernel_rfl) (fun _ _ _ h => h) (Or.inr ⟨by rfl, rfl⟩) S0 ?_
                    try simp only [Act.put, List.setIfInBounds_toArray, List.set_cons_zero, List.set_cons_succ]
                    refine wpAnyH_take (i := 6) (oi := { dst := some 188, op := Op.load 35 (Operand.tmp 187), type := 35, pos := "l09_house.go:62", after := #[{ on := 5, ground := Ground.data }, { on := 4, ground := Ground.guard }], guard := some (4, false) }) (v := undef) rfl (by kernel_rfl) (by kernel_rfl) (by kernel_rfl) (fun _ _ _ h => h) (Or.inr ⟨by rfl, rfl⟩) S0 ?_
                    try simp only [Act.put, List.setIfInBounds_toArray, List.set_cons_zero, List.set_cons_succ]
                    refine wpAnyH_take (i := 7) (oi := { dst := some 189, op := Op.fieldAddr 38 (Operand.tmp 1) 7, type := 0, pos := "l09_house.go:62", after := #[{ on := 4, ground := Ground.guard }], guard := some (4, false) }) (v := undef) rfl (by kernel_rfl) (by kernel_rfl) (by kernel_rfl) (fun _ _ _ h => h) (Or.inr ⟨by rfl, rfl⟩) S0 ?_
                    try simp only [Act.put, List.setIfInBounds_toArray, List.set_cons_zero, List.set_cons_succ]
                    refine wpAnyH_take (i := 8) (oi := { dst := some 190, op := Op.load 35 (Operand.tmp 189), type := 35, pos := "l09_house.go:62", after := #[{ on := 7, ground := Ground.data }, { on := 4, ground := Ground.guard }], guard := some (4, false) }) (v := undef) rfl (by kernel_rfl) (by kernel_rfl) (by kernel_rfl) (fun _ _ _ h => h) (Or.inr ⟨by rfl, rfl⟩) S0 ?_
                    try simp only [Act.put, List.setIfInBounds_toArray, List.set_cons_zero, List.set_cons_succ]
                    refine wpAnyH_take (i := 9) (oi := { dst := some 191, op := Op.call { callee := Callee.builtin Builtin.len, args := #[Operand.tmp 190], argTypes := #[35] }, type := 3, pos := "l09_house.go:62", after := #[{ on := 8, ground := Ground.data }, { on := 4, ground := Ground.guard }], guard := some (4, false) }) (v := undef) rfl (by kernel_rfl) (by kernel_rfl) (by kernel_rfl) (fun _ _ _ h => h) (Or.inr ⟨by rfl, rfl⟩) S0 ?_
                    try simp only [Act.put, List.setIfInBounds_toArray, List.set_cons_zero, List.set_cons_succ]
                    refine wpAnyH_take (i := 10) (oi := { dst := some 192, op := Op.binOp BinOp.sub 3 (Operand.tmp 191) (Operand.const (Value.int IntKind.i64 1)) 3, type := 3, pos := "l09_house.go:62", after := #[{ on := 9, ground := Ground.data }, { on := 4, ground := Ground.guard }], guard := some (4, false) }) (v := undef) rfl (by kernel_rfl) (by kernel_rfl) (by kernel_rfl) (fun _ _ _ h => h) (Or.inr ⟨by rfl, rfl⟩) S0 ?_
                    try simp only [Act.put, List.setIfInBounds_toArray, List.set_cons_zero, List.set_cons_succ]
                    refine wpAnyH_take (i := 11) (oi := { dst := some 193, op := Op.indexAddr 35 (Operand.tmp 188) (Operand.tmp 192), type := 0, pos := "l09_house.go:62", after := #[{ on := 6, ground := Ground.data }, { on := 10, ground := Ground.data }, { on := 4, ground := Ground.guard }], guard := some (4, false) }) (v := undef) rfl (by kernel_rfl) (by kernel_rfl) (by kernel_rfl) (fun _ _ _ h => h) (Or.inr ⟨by rfl, rfl⟩) S0 ?_
                    try simp only [Act.put, List.setIfInBounds_toArray, List.set_cons_zero, List.set_cons_succ]
                    refine wpAnyH_take (i := 12) (oi := { dst := some 194, op := Op.fieldAddr 89 (Operand.tmp 193) 2, type := 0, pos := "l09_house.go:62", after := #[{ on := 11, ground := Ground.data }, { on := 4, ground := Ground.guard }], guard := some (4, false) }) (v := undef) rfl (by kernel_rfl) (by kernel_rfl) (by kernel_rfl) (fun _ _ _ h => h) (Or.inr ⟨by rfl, rfl⟩) S0 ?_
                    try simp only [Act.put, List.setIfInBounds_toArray, List.set_cons_zero, List.set_cons_succ]
                    refine wpAnyH_take (i := 13) (oi := { dst := some 195, op := Op.load 2 (Operand.tmp 194), type := 2, pos := "l09_house.go:62", after := #[{ on := 12, ground := Ground.data }, { on := 4, ground := Ground.guard }], guard := some (4, false) }) (v := undef) rfl (by kernel_rfl) (by kernel_rfl) (by kernel_rfl) (fun _ _ _ h => h) (Or.inr ⟨by rfl, rfl⟩) S0 ?_
                    try simp only [Act.put, List.setIfInBounds_toArray, List.set_cons_zero, List.set_cons_succ]
                    refine wpAnyH_take (i := 14) (oi := { dst := some 196, op := Op.fieldAddr 38 (Operand.tmp 1) 1, type := 0, pos := "l09_house.go:62", after := #[{ on := 4, ground := Ground.guard }], guard := some (4, false) }) (v := undef) rfl (by kernel_rfl) (by kernel_rfl) (by kernel_rfl) (fun _ _ _ h => h) (Or.inr ⟨by rfl, rfl⟩) S0 ?_
                    try simp only [Act.put, List.setIfInBounds_toArray, List.set_cons_zero, List.set_cons_succ]
                    refine wpAnyH_take (i := 15) (oi := { dst := some 197, op := Op.load 2 (Operand.tmp 196), type := 2, pos := "l09_house.go:62", after := #[{ on := 14, ground := Ground.data }, { on := 4, ground := Ground.guard }], guard := some (4, false) }) (v := undef) rfl (by kernel_rfl) (by kernel_rfl) (by kernel_rfl) (fun _ _ _ h => h) (Or.inr ⟨by rfl, rfl⟩) S0 ?_
                    try simp only [Act.put, List.setIfInBounds_toArray, List.set_cons_zero, List.set_cons_succ]
                    refine wpAnyH_take (i := 16) (oi := { dst := some 198, op := Op.binOp BinOp.leq 2 (Operand.tmp 195) (Operand.tmp 197) 2, type := 4, pos := "l09_house.go:62", after := #[{ on := 13, ground := Ground.data }, { on := 15, ground := Ground.data }, { on := 4, ground := Ground.guard }], guard := some (4, false) }) (v := undef) rfl (by kernel_rfl) (by kernel_rfl) (by kernel_rfl) (fun _ _ _ h => h) (Or.inr ⟨by rfl, rfl⟩) S0 ?_
                    try simp only [Act.put, List.setIfInBounds_toArray, List.set_cons_zero, List.set_cons_succ]
                    refine wpAnyH_take (i := 17) (oi := { dst := some 199, op := Op.pick (Operand.tmp 186) (Operand.const (Value.bool true)) (Operand.tmp 198), type := 4, pos := "l09_house.go:62", after := #[{ on := 4, ground := Ground.data }, { on := 16, ground := Ground.data }], guard := none }) (v := ?vvp18) rfl (by kernel_rfl) (by kernel_rfl) (by kernel_rfl) (fun _ _ _ h => h) (Or.inl ⟨by rfl, ?hyp18⟩) S0 ?restp18
                    case hyp18 => (intro w hSw; have hcX := hSw.1.cell;go_simp <;> with_reducible rfl)
                    try simp only [Act.put, List.setIfInBounds_toArray, List.set_cons_zero, List.set_cons_succ]
                    refine wpAnyH_take (i := 18) (oi := { dst := some 2, op := Op.assign (Operand.tmp 199), type := 4, pos := "l09_house.go:62", after := #[{ on := 17, ground := Ground.data }, { on := 4, ground := Ground.chain }, { on := 0, ground := Ground.phase }, { on := 1, ground := Ground.phase }, { on := 2, ground := Ground.phase }, { on := 3, ground := Ground.phase }, { on := 4, ground := Ground.phase }, { on := 5, ground := Ground.phase }, { on := 6, ground := Ground.phase }, { on := 7, ground := Ground.phase }, { on := 8, ground := Ground.phase }, { on := 9, ground := Ground.phase }, { on := 10, ground := Ground.phase }, { on := 11, ground := Ground.phase }, { on := 12, ground := Ground.phase }, { on := 13, ground := Ground.phase }, { on := 14, ground := Ground.phase }, { on := 15, ground := Ground.phase }, { on := 16, ground := Ground.phase }, { on := 17, ground := Ground.phase }], guard := none }) (v := ?vvp19) rfl (by kernel_rfl) (by kernel_rfl) (by kernel_rfl) (fun _ _ _ h => h) (Or.inl ⟨by rfl, ?hyp19⟩) S0 ?restp19
                    case hyp19 => (intro w hSw; have hcX := hSw.1.cell;go_simp <;> with_reducible rfl)
                    try simp only [Act.put, List.setIfInBounds_toArray, List.set_cons_zero, List.set_cons_succ]
                    refine wpAnyH_done (by kernel_rfl) ?_ _
                    all_goals
                      have HBn := Lib.hid S0.2
                      clear S0
                      go_wp2_with fail
                      go_ret
                      exact ⟨bool_ret (by rw [hr.out, HPA.out, HRA.out, HFA.out, HGA.out, hMA.out]; simp), HBn.out⟩
                  · have hpos : 0 < l7.length := by omega
                    have hMA := Lib.hid (HMx.out hpos)
                    have hne : l7.map Mv.cl ≠ [] := fun e => by have := congrArg List.length e; rw [List.length_map] at this; simp at this; rw [this] at hpos; simp at hpos
                    obtain ⟨b, off, ha, hb, HEl⟩ := KW.out hne
                    subst ha
                    obtain ⟨k, hk⟩ : ∃ k, l7.length = k + 1 := ⟨l7.length - 1, by omega⟩
                    have hkl : k < l7.length := by omega
                    have HC := Lib.hid (fun (W : World) (hS : Below w.heap.size w W) => (Elems.below HEl hS hb).mv k hkl)
                    have hlast : l7[l7.length - 1] = l7[k] := by congr 1; omega
                    have hMB := Lib.hid (hMA.out.trans (by rw [hlast]))
                    have hl0X : ((l7.length : Int) == 0) = false := by simpa using hl0
                    have hl0Y : decide ((l7.length : Int) = 0) = false := decide_eq_false (by omega)
                    clear HEl hne hMA hlast
                    have S0 := HSl.out
                    have hk1 : IntKind.i64.wrap ((l7.length : Int) - 1) = (k : Int) := by simp only [IntKind.wrap_i64]; omega
                    have hkb : (k : Int) < (l7.length : Int) := by omega
                    have hkp : (0 : Int) ≤ (k : Int) := by omega
                    have hkz : ¬ (l7.length : Int) = 0 := by omega
                    clear HSl
                    generalize l7[k] = y at *
                    obtain ⟨yv, ym, yt⟩ := y
                    dsimp only at *
                    have HHk := Lib.hid hk
                    clear hk
                    refine wp_region_held_drew (S := fun W' => Blk W' w.heap.size 38 _ ∧ Below w.heap.size w W') (by kernel_rfl) S0 (fun hHeld => ?_)
                    clear hHeld
                    refine wpAnyH_take (i := 0) (oi := { dst := some 182, op := Op.fieldAddr 38 (Operand.tmp 1) 7, type := 0, pos := "l09_house.go:62", after := #[], guard := none }) (v := ?vvq1) rfl (by kernel_rfl) (by kernel_rfl) (by kernel_rfl) (fun _ _ _ h => h) (Or.inl ⟨by rfl, ?hyq1⟩) S0 ?restq1
                    case hyq1 => (intro w hSw; have hcX := hSw.1.cell; obtain ⟨p0, p1, p2⟩ := HC.out _ hSw.2;go_simp <;> with_reducible rfl)
                    try simp only [Act.put, List.setIfInBounds_toArray, List.set_cons_zero, List.set_cons_succ]
                    refine wpAnyH_take (i := 1) (oi := { dst := some 183, op := Op.load 35 (Operand.tmp 182), type := 35, pos := "l09_house.go:62", after := #[{ on := 0, ground := Ground.data }], guard := none }) (v := ?vvq2) rfl (by kernel_rfl) (by kernel_rfl) (by kernel_rfl) (fun _ _ _ h => h) (Or.inl ⟨by rfl, ?hyq2⟩) S0 ?restq2
                    case hyq2 => (intro w hSw; have hcX := hSw.1.cell; obtain ⟨p0, p1, p2⟩ := HC.out _ hSw.2;go_simp <;> with_reducible rfl)
                    try simp only [Act.put, List.setIfInBounds_toArray, List.set_cons_zero, List.set_cons_succ]
                    refine wpAnyH_take (i := 2) (oi := { dst := some 184, op := Op.call { callee := Callee.builtin Builtin.len, args := #[Operand.tmp 183], argTypes := #[35] }, type := 3, pos := "l09_house.go:62", after := #[{ on := 1, ground := Ground.data }], guard := none }) (v := ?vvq3) rfl (by kernel_rfl) (by kernel_rfl) (by kernel_rfl) (fun _ _ _ h => h) (Or.inl ⟨by rfl, ?hyq3⟩) S0 ?restq3
                    case hyq3 => (intro w hSw; have hcX := hSw.1.cell; obtain ⟨p0, p1, p2⟩ := HC.out _ hSw.2;go_simp <;> with_reducible rfl)
                    try simp only [Act.put, List.setIfInBounds_toArray, List.set_cons_zero, List.set_cons_succ]
                    refine wpAnyH_take (i := 3) (oi := { dst := some 185, op := Op.binOp BinOp.eql 3 (Operand.tmp 184) (Operand.const (Value.int IntKind.i64 0)) 3, type := 4, pos := "l09_house.go:62", after := #[{ on := 2, ground := Ground.data }], guard := none }) (v := ?vvq4) rfl (by kernel_rfl) (by kernel_rfl) (by kernel_rfl) (fun _ _ _ h => h) (Or.inl ⟨by rfl, ?hyq4⟩) S0 ?restq4
                    case hyq4 => (intro w hSw; have hcX := hSw.1.cell; obtain ⟨p0, p1, p2⟩ := HC.out _ hSw.2;go_simp <;> with_reducible rfl)
                    try simp only [Act.put, List.setIfInBounds_toArray, List.set_cons_zero, List.set_cons_succ]
                    refine wpAnyH_take (i := 4) (oi := { dst := some 186, op := Op.move (Operand.tmp 185), type := 4, pos := "l09_house.go:62", after := #[{ on := 3, ground := Ground.data }], guard := none }) (v := ?vvq5) rfl (by kernel_rfl) (by kernel_rfl) (by kernel_rfl) (fun _ _ _ h => h) (Or.inl ⟨by rfl, ?hyq5⟩) S0 ?restq5
                    case hyq5 => (intro w hSw; have hcX := hSw.1.cell; obtain ⟨p0, p1, p2⟩ := HC.out _ hSw.2;go_simp <;> with_reducible rfl)
                    try simp only [Act.put, List.setIfInBounds_toArray, List.set_cons_zero, List.set_cons_succ]
                    refine wpAnyH_take (i := 5) (oi := { dst := some 187, op := Op.fieldAddr 38 (Operand.tmp 1) 7, type := 0, pos := "l09_house.go:62", after := #[{ on := 4, ground := Ground.guard }], guard := some (4, false) }) (v := ?vvq6) rfl (by kernel_rfl) (by kernel_rfl) (by kernel_rfl) (fun _ _ _ h => h) (Or.inl ⟨by rfl, ?hyq6⟩) S0 ?restq6
                    case hyq6 => (intro w hSw; have hcX := hSw.1.cell; obtain ⟨p0, p1, p2⟩ := HC.out _ hSw.2;go_simp <;> with_reducible rfl)
                    try simp only [Act.put, List.setIfInBounds_toArray, List.set_cons_zero, List.set_cons_succ]
                    refine wpAnyH_take (i := 6) (oi := { dst := some 188, op := Op.load 35 (Operand.tmp 187), type := 35, pos := "l09_house.go:62", after := #[{ on := 5, ground := Ground.data }, { on := 4, ground := Ground.guard }], guard := some (4, false) }) (v := ?vvq7) rfl (by kernel_rfl) (by kernel_rfl) (by kernel_rfl) (fun _ _ _ h => h) (Or.inl ⟨by rfl, ?hyq7⟩) S0 ?restq7
                    case hyq7 => (intro w hSw; have hcX := hSw.1.cell; obtain ⟨p0, p1, p2⟩ := HC.out _ hSw.2;go_simp <;> with_reducible rfl)
                    try simp only [Act.put, List.setIfInBounds_toArray, List.set_cons_zero, List.set_cons_succ]
                    refine wpAnyH_take (i := 7) (oi := { dst := some 189, op := Op.fieldAddr 38 (Operand.tmp 1) 7, type := 0, pos := "l09_house.go:62", after := #[{ on := 4, ground := Ground.guard }], guard := some (4, false) }) (v := ?vvq8) rfl (by kernel_rfl) (by kernel_rfl) (by kernel_rfl) (fun _ _ _ h => h) (Or.inl ⟨by rfl, ?hyq8⟩) S0 ?restq8
                    case hyq8 => (intro w hSw; have hcX := hSw.1.cell; obtain ⟨p0, p1, p2⟩ := HC.out _ hSw.2;go_simp <;> with_reducible rfl)
                    try simp only [Act.put, List.setIfInBounds_toArray, List.set_cons_zero, List.set_cons_succ]
                    refine wpAnyH_take (i := 8) (oi := { dst := some 190, op := Op.load 35 (Operand.tmp 189), type := 35, pos := "l09_house.go:62", after := #[{ on := 7, ground := Ground.data }, { on := 4, ground := Ground.guard }], guard := some (4, false) }) (v := ?vvq9) rfl (by kernel_rfl) (by kernel_rfl) (by kernel_rfl) (fun _ _ _ h => h) (Or.inl ⟨by rfl, ?hyq9⟩) S0 ?restq9
                    case hyq9 => (intro w hSw; have hcX := hSw.1.cell; obtain ⟨p0, p1, p2⟩ := HC.out _ hSw.2;go_simp <;> with_reducible rfl)
                    try simp only [Act.put, List.setIfInBounds_toArray, List.set_cons_zero, List.set_cons_succ]
                    refine wpAnyH_take (i := 9) (oi := { dst := some 191, op := Op.call { callee := Callee.builtin Builtin.len, args := #[Operand.tmp 190], argTypes := #[35] }, type := 3, pos := "l09_house.go:62", after := #[{ on := 8, ground := Ground.data }, { on := 4, ground := Ground.guard }], guard := some (4, false) }) (v := ?vvq10) rfl (by kernel_rfl) (by kernel_rfl) (by kernel_rfl) (fun _ _ _ h => h) (Or.inl ⟨by rfl, ?hyq10⟩) S0 ?restq10
                    case hyq10 => (intro w hSw; have hcX := hSw.1.cell; obtain ⟨p0, p1, p2⟩ := HC.out _ hSw.2;go_simp <;> with_reducible rfl)
                    try simp only [Act.put, List.setIfInBounds_toArray, List.set_cons_zero, List.set_cons_succ]
                    refine wpAnyH_take (i := 10) (oi := { dst := some 192, op := Op.binOp BinOp.sub 3 (Operand.tmp 191) (Operand.const (Value.int IntKind.i64 1)) 3, type := 3, pos := "l09_house.go:62", after := #[{ on := 9, ground := Ground.data }, { on := 4, ground := Ground.guard }], guard := some (4, false) }) (v := ?vvq11) rfl (by kernel_rfl) (by kernel_rfl) (by kernel_rfl) (fun _ _ _ h => h) (Or.inl ⟨by rfl, ?hyq11⟩) S0 ?restq11
                    case hyq11 => (intro w hSw; have hcX := hSw.1.cell; obtain ⟨p0, p1, p2⟩ := HC.out _ hSw.2;go_simp <;> with_reducible rfl)
                    try simp only [Act.put, List.setIfInBounds_toArray, List.set_cons_zero, List.set_cons_succ]
                    refine wpAnyH_take (i := 11) (oi := { dst := some 193, op := Op.indexAddr 35 (Operand.tmp 188) (Operand.tmp 192), type := 0, pos := "l09_house.go:62", after := #[{ on := 6, ground := Ground.data }, { on := 10, ground := Ground.data }, { on := 4, ground := Ground.guard }], guard := some (4, false) }) (v := ?vvq12) rfl (by kernel_rfl) (by kernel_rfl) (by kernel_rfl) (fun _ _ _ h => h) (Or.inl ⟨by rfl, ?hyq12⟩) S0 ?restq12
                    case hyq12 => (intro w hSw; have hcX := hSw.1.cell; obtain ⟨p0, p1, p2⟩ := HC.out _ hSw.2;go_simp <;> with_reducible rfl)
                    try simp only [Act.put, List.setIfInBounds_toArray, List.set_cons_zero, List.set_cons_succ]
                    refine wpAnyH_take (i := 12) (oi := { dst := some 194, op := Op.fieldAddr 89 (Operand.tmp 193) 2, type := 0, pos := "l09_house.go:62", after := #[{ on := 11, ground := Ground.data }, { on := 4, ground := Ground.guard }], guard := some (4, false) }) (v := ?vvq13) rfl (by kernel_rfl) (by kernel_rfl) (by kernel_rfl) (fun _ _ _ h => h) (Or.inl ⟨by rfl, ?hyq13⟩) S0 ?restq13
                    case hyq13 => (intro w hSw; have hcX := hSw.1.cell; obtain ⟨p0, p1, p2⟩ := HC.out _ hSw.2;go_simp <;> with_reducible rfl)
                    try simp only [Act.put, List.setIfInBounds_toArray, List.set_cons_zero, List.set_cons_succ]
                    refine wpAnyH_take (i := 13) (oi := { dst := some 195, op := Op.load 2 (Operand.tmp 194), type := 2, pos := "l09_house.go:62", after := #[{ on := 12, ground := Ground.data }, { on := 4, ground := Ground.guard }], guard := some (4, false) }) (v := ?vvq14) rfl (by kernel_rfl) (by kernel_rfl) (by kernel_rfl) (fun _ _ _ h => h) (Or.inl ⟨by rfl, ?hyq14⟩) S0 ?restq14
                    case hyq14 => (intro w hSw; have hcX := hSw.1.cell; obtain ⟨p0, p1, p2⟩ := HC.out _ hSw.2;go_simp <;> with_reducible rfl)
                    try simp only [Act.put, List.setIfInBounds_toArray, List.set_cons_zero, List.set_cons_succ]
                    refine wpAnyH_take (i := 14) (oi := { dst := some 196, op := Op.fieldAddr 38 (Operand.tmp 1) 1, type := 0, pos := "l09_house.go:62", after := #[{ on := 4, ground := Ground.guard }], guard := some (4, false) }) (v := ?vvq15) rfl (by kernel_rfl) (by kernel_rfl) (by kernel_rfl) (fun _ _ _ h => h) (Or.inl ⟨by rfl, ?hyq15⟩) S0 ?restq15
                    case hyq15 => (intro w hSw; have hcX := hSw.1.cell; obtain ⟨p0, p1, p2⟩ := HC.out _ hSw.2;go_simp <;> with_reducible rfl)
                    try simp only [Act.put, List.setIfInBounds_toArray, List.set_cons_zero, List.set_cons_succ]
                    refine wpAnyH_take (i := 15) (oi := { dst := some 197, op := Op.load 2 (Operand.tmp 196), type := 2, pos := "l09_house.go:62", after := #[{ on := 14, ground := Ground.data }, { on := 4, ground := Ground.guard }], guard := some (4, false) }) (v := ?vvq16) rfl (by kernel_rfl) (by kernel_rfl) (by kernel_rfl) (fun _ _ _ h => h) (Or.inl ⟨by rfl, ?hyq16⟩) S0 ?restq16
                    case hyq16 => (intro w hSw; have hcX := hSw.1.cell; obtain ⟨p0, p1, p2⟩ := HC.out _ hSw.2;go_simp <;> with_reducible rfl)
                    try simp only [Act.put, List.setIfInBounds_toArray, List.set_cons_zero, List.set_cons_succ]
                    refine wpAnyH_take (i := 16) (oi := { dst := some 198, op := Op.binOp BinOp.leq 2 (Operand.tmp 195) (Operand.tmp 197) 2, type := 4, pos := "l09_house.go:62", after := #[{ on := 13, ground := Ground.data }, { on := 15, ground := Ground.data }, { on := 4, ground := Ground.guard }], guard := some (4, false) }) (v := ?vvq17) rfl (by kernel_rfl) (by kernel_rfl) (by kernel_rfl) (fun _ _ _ h => h) (Or.inl ⟨by rfl, ?hyq17⟩) S0 ?restq17
                    case hyq17 => (intro w hSw; have hcX := hSw.1.cell; obtain ⟨p0, p1, p2⟩ := HC.out _ hSw.2;go_simp <;> with_reducible rfl)
                    try simp only [Act.put, List.setIfInBounds_toArray, List.set_cons_zero, List.set_cons_succ]
                    refine wpAnyH_take (i := 17) (oi := { dst := some 199, op := Op.pick (Operand.tmp 186) (Operand.const (Value.bool true)) (Operand.tmp 198), type := 4, pos := "l09_house.go:62", after := #[{ on := 4, ground := Ground.data }, { on := 16, ground := Ground.data }], guard := none }) (v := ?vvq18) rfl (by kernel_rfl) (by kernel_rfl) (by kernel_rfl) (fun _ _ _ h => h) (Or.inl ⟨by rfl, ?hyq18⟩) S0 ?restq18
                    case hyq18 => (intro w hSw; have hcX := hSw.1.cell; obtain ⟨p0, p1, p2⟩ := HC.out _ hSw.2;go_simp <;> with_reducible rfl)
                    try simp only [Act.put, List.setIfInBounds_toArray, List.set_cons_zero, List.set_cons_succ]
                    refine wpAnyH_take (i := 18) (oi := { dst := some 2, op := Op.assign (Operand.tmp 199), type := 4, pos := "l09_house.go:62", after := #[{ on := 17, ground := Ground.data }, { on := 4, ground := Ground.chain }, { on := 0, ground := Ground.phase }, { on := 1, ground := Ground.phase }, { on := 2, ground := Ground.phase }, { on := 3, ground := Ground.phase }, { on := 4, ground := Ground.phase }, { on := 5, ground := Ground.phase }, { on := 6, ground := Ground.phase }, { on := 7, ground := Ground.phase }, { on := 8, ground := Ground.phase }, { on := 9, ground := Ground.phase }, { on := 10, ground := Ground.phase }, { on := 11, ground := Ground.phase }, { on := 12, ground := Ground.phase }, { on := 13, ground := Ground.phase }, { on := 14, ground := Ground.phase }, { on := 15, ground := Ground.phase }, { on := 16, ground := Ground.phase }, { on := 17, ground := Ground.phase }], guard := none }) (v := ?vvq19) rfl (by kernel_rfl) (by kernel_rfl) (by kernel_rfl) (fun _ _ _ h => h) (Or.inl ⟨by rfl, ?hyq19⟩) S0 ?restq19
                    case hyq19 => (intro w hSw; have hcX := hSw.1.cell; obtain ⟨p0, p1, p2⟩ := HC.out _ hSw.2;go_simp <;> with_reducible rfl)
                    try simp only [Act.put, List.setIfInBounds_toArray, List.set_cons_zero, List.set_cons_succ]
                    refine wpAnyH_done (by kernel_rfl) ?_ _
                    all_goals
                      have HBn := Lib.hid S0.2
                      clear S0
                      go_wp2_with fail
                      go_ret
                      exact ⟨bool_ret (by rw [hr.out, HPA.out, HRA.out, HFA.out, HGA.out, hMB.out]; simp), HBn.out⟩
end Go.Proofs.YtglealihdkecpaaGreat
