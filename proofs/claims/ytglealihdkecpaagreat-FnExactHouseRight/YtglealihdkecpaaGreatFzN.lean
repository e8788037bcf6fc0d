/- Frozen guests: their order, their names, when one is right: of the program. -/
import Derived.Test.YtglealihdkecpaaGreatFz
import Derived.Test.YtglealihdkecpaaGreatGsN
namespace Go.Proofs.YtglealihdkecpaaGreat
open Go.RowKit

def lessF (a b : Fz) : Bool := if a.vni = b.vni then decide (a.mac < b.mac) else decide (a.vni < b.vni)
def cmpF (a b : Fz) : Int := orL [cmpI a.vni b.vni, cmpI a.mac b.mac]
def Fz.gu (a : Fz) : Gu := ⟨a.vni, a.mac, 0, 0, 0, 0, false⟩
theorem cmpF_not (a b : Fz) : decide (0 ≤ cmpF a b) = !(lessF a b) := cmpG_not a.gu b.gu
theorem cmpN_fz (a b : Fz) : cmpN a.vni a.mac b.vni b.mac = cmpF a b := rfl
set_option maxHeartbeats 1000000 in
theorem nameOfFrozen_any (g : Fz) (w : World) : Calls Tryz.prog 154 #[g.val] w fun e w' => e = .returned (nmV g.vni g.mac) ∧ Below w.heap.size w w' := by
  obtain ⟨v, m, i, d⟩ := g
  unfold Fz.val nmV
  dsimp only
  go_enter Tryz.func154, Tryz.ntmps154
  go_wp2
  refine bodyPost_ret (v := nmV v m) (by simp [results, Tryz.results154, go_sem, nmV]) rfl ⟨rfl, ?_⟩
  go_grown
set_option maxHeartbeats 1000000 in
theorem compareFrozen_any (a b : Fz) (w : World) : Calls Tryz.prog 126 #[a.val, b.val] w fun e w' => e = .returned (.int .i64 (cmpF a b)) ∧ Below w.heap.size w w' := by
  have HA := Lib.hid (nameOfFrozen_any a)
  have HB := Lib.hid (nameOfFrozen_any b)
  have HC := Lib.hid (compareNames_any a.vni a.mac b.vni b.mac)
  rw [cmpN_fz] at HC
  unfold nmV at HA HB HC
  generalize cmpF a b = c at *
  obtain ⟨v, m, i, d⟩ := a
  obtain ⟨v', m', i', d'⟩ := b
  unfold Fz.val at *
  dsimp only at *
  have B0 := ((Below.refl w.heap.size w).alloc (Nat.le_refl _) (.cells #[.int .i64 v, .int .i64 m, .int .i64 i, .int .i64 d] 85)).alloc (by simp) (.cells #[.int .i64 v', .int .i64 m', .int .i64 i', .int .i64 d'] 85)
  have X1 := (Blk.new w 85 #[.int .i64 v, .int .i64 m, .int .i64 i, .int .i64 d]).alloc (.cells #[.int .i64 v', .int .i64 m', .int .i64 i', .int .i64 d'] 85)
  have X2 := Blk.new (w.alloc (.cells #[.int .i64 v, .int .i64 m, .int .i64 i, .int .i64 d] 85)) 85 #[.int .i64 v', .int .i64 m', .int .i64 i', .int .i64 d']
  rw [World.size_alloc] at X2
  have S0 := And.intro X1 (And.intro X2 B0)
  clear B0 X1 X2
  go_enter Tryz.func126, Tryz.ntmps126
  go_upto_region 1 with fail
  generalize (w.alloc (.cells #[.int .i64 v, .int .i64 m, .int .i64 i, .int .i64 d] 85)).alloc (.cells #[.int .i64 v', .int .i64 m', .int .i64 i', .int .i64 d'] 85) = W2 at *
  replace S0 := (show Blk W2.drew _ _ _ ∧ Blk W2.drew _ _ _ ∧ Below w.heap.size w W2.drew from ⟨S0.1, S0.2.1, S0.2.2.drew⟩)
  go_wp2_with fail
  refine wp_region_held_drew (S := fun W' => Blk W' w.heap.size 85 _ ∧ Blk W' (w.heap.size + 1) 85 _ ∧ Below w.heap.size w W') (by kernel_rfl) S0 (fun hHeld => ?_)
  clear hHeld
  refine wpAnyH_take (i := 0) (oi := { dst := some 5, op := Op.load 85 (Operand.tmp 2), type := 85, pos := "l09_house.go:103", after := #[], guard := none }) (v := ?vva1) rfl (by kernel_rfl) (by kernel_rfl) (by kernel_rfl) (fun _ _ _ h => h) (Or.inl ⟨by rfl, ?hya1⟩) S0 ?resta1
  case hya1 => (intro w hSw; have hc1 := hSw.1.cell; have hc2 := hSw.2.1.cell;go_simp <;> with_reducible rfl)
  try simp only [Act.put, List.setIfInBounds_toArray, List.set_cons_zero, List.set_cons_succ]
  refine wpAnyH_take (i := 2) (oi := { dst := some 7, op := Op.load 85 (Operand.tmp 3), type := 85, pos := "l09_house.go:103", after := #[], guard := none }) (v := ?vva2) rfl (by kernel_rfl) (by kernel_rfl) (by kernel_rfl) (fun _ _ _ h => h) (Or.inl ⟨by rfl, ?hya2⟩) S0 ?resta2
  case hya2 => (intro w hSw; have hc1 := hSw.1.cell; have hc2 := hSw.2.1.cell;go_simp <;> with_reducible rfl)
  try simp only [Act.put, List.setIfInBounds_toArray, List.set_cons_zero, List.set_cons_succ]
  refine wpAnyH_ready (rs := [1]) (by kernel_rfl) (by simp) ?_
  refine AllReadyH.cons (o := { dst := some 6, op := Op.call { callee := Callee.value (Operand.func 154), args := #[Operand.tmp 5], argTypes := #[85] }, type := 109, pos := "l09_house.go:103", after := #[{ on := 0, ground := Ground.data }], guard := none }) rfl (fun K hK => ?_) AllReadyH.nil
  go_simp
  refine (HA.out _).mono ?_
  rintro e w1 ⟨rfl, hb1⟩
  replace S0 := (show Blk w1 _ _ _ ∧ Blk w1 _ _ _ ∧ Below w.heap.size w w1 from ⟨S0.1.kept hb1, S0.2.1.kept hb1, S0.2.2.trans (hb1.mono S0.2.2.size)⟩)
  clear hb1
  refine hK.out _ _ S0 (fun hHeld => ?_)
  clear hK K hHeld
  try simp only [Act.put, List.setIfInBounds_toArray, List.set_cons_zero, List.set_cons_succ]
  refine wpAnyH_ready (rs := [3]) (by kernel_rfl) (by simp) ?_
  refine AllReadyH.cons (o := { dst := some 8, op := Op.call { callee := Callee.value (Operand.func 154), args := #[Operand.tmp 7], argTypes := #[85] }, type := 109, pos := "l09_house.go:103", after := #[{ on := 2, ground := Ground.data }, { on := 1, ground := Ground.chain }], guard := none }) rfl (fun K hK => ?_) AllReadyH.nil
  go_simp
  refine (HB.out _).mono ?_
  rintro e w1 ⟨rfl, hb1⟩
  replace S0 := (show Blk w1 _ _ _ ∧ Blk w1 _ _ _ ∧ Below w.heap.size w w1 from ⟨S0.1.kept hb1, S0.2.1.kept hb1, S0.2.2.trans (hb1.mono S0.2.2.size)⟩)
  clear hb1
  refine hK.out _ _ S0 (fun hHeld => ?_)
  clear hK K hHeld
  try simp only [Act.put, List.setIfInBounds_toArray, List.set_cons_zero, List.set_cons_succ]
  refine wpAnyH_ready (rs := [4]) (by kernel_rfl) (by simp) ?_
  refine AllReadyH.cons (o := { dst := some 9, op := Op.call { callee := Callee.value (Operand.func 176), args := #[Operand.tmp 6, Operand.tmp 8], argTypes := #[109, 109] }, type := 3, pos := "l09_house.go:103", after := #[{ on := 1, ground := Ground.data }, { on := 3, ground := Ground.data }, { on := 3, ground := Ground.chain }], guard := none }) rfl (fun K hK => ?_) AllReadyH.nil
  go_simp
  refine (HC.out _).mono ?_
  rintro e w1 ⟨rfl, hb1⟩
  replace S0 := (show Blk w1 _ _ _ ∧ Blk w1 _ _ _ ∧ Below w.heap.size w w1 from ⟨S0.1.kept hb1, S0.2.1.kept hb1, S0.2.2.trans (hb1.mono S0.2.2.size)⟩)
  clear hb1
  refine hK.out _ _ S0 (fun hHeld => ?_)
  clear hK K hHeld
  try simp only [Act.put, List.setIfInBounds_toArray, List.set_cons_zero, List.set_cons_succ]
  refine wpAnyH_take (i := 5) (oi := { dst := some 4, op := Op.assign (Operand.tmp 9), type := 3, pos := "l09_house.go:103", after := #[{ on := 4, ground := Ground.data }, { on := 4, ground := Ground.chain }, { on := 0, ground := Ground.phase }, { on := 1, ground := Ground.phase }, { on := 2, ground := Ground.phase }, { on := 3, ground := Ground.phase }, { on := 4, ground := Ground.phase }], guard := none }) (v := ?vva3) rfl (by kernel_rfl) (by kernel_rfl) (by kernel_rfl) (fun _ _ _ h => h) (Or.inl ⟨by rfl, ?hya3⟩) S0 ?resta3
  case hya3 => (intro w hSw; have hc1 := hSw.1.cell; have hc2 := hSw.2.1.cell;go_simp <;> with_reducible rfl)
  try simp only [Act.put, List.setIfInBounds_toArray, List.set_cons_zero, List.set_cons_succ]
  refine wpAnyH_done (by kernel_rfl) ?_ _
  all_goals
    have HB3 := Lib.hid S0.2.2
    clear S0
    go_wp2_with fail
    go_ret
    exact ⟨rfl, HB3.out⟩
set_option maxHeartbeats 1000000 in
theorem frozenRight_any (f : Fz) (w : World) : Calls Tryz.prog 125 #[f.val] w fun e w' => e = .returned (.bool f.right) ∧ Below w.heap.size w w' := by
  unfold Fz.right
  obtain ⟨v, m, h, d⟩ := f
  unfold Fz.val
  dsimp only at *
  have key : ∀ (R : Bool), (isVni v = false ∧ Hid (R = false)) ∨ (isVni v = true ∧ (isMac m && !isGroup m) = false ∧ Hid (R = false)) ∨ (isVni v = true ∧ (isMac m && !isGroup m) = true ∧ ¬ 0 ≤ h ∧ Hid (R = false)) ∨ (isVni v = true ∧ (isMac m && !isGroup m) = true ∧ 0 ≤ h ∧ ¬ h ≤ 4 ∧ Hid (R = false)) ∨ (isVni v = true ∧ (isMac m && !isGroup m) = true ∧ 0 ≤ h ∧ h ≤ 4 ∧ ¬ 0 ≤ d ∧ Hid (R = false)) ∨ (isVni v = true ∧ (isMac m && !isGroup m) = true ∧ 0 ≤ h ∧ h ≤ 4 ∧ 0 ≤ d ∧ Hid (R = decide (d ≤ 4))) ∨ R ≠ fzRight v m h d := fun R => by
    by_cases e : R = fzRight v m h d
    · subst e
      cases h1 : isVni v
      · exact .inl ⟨rfl, Lib.hid (by rw [fzRight, h1]; rfl)⟩
      cases h2 : (isMac m && !isGroup m)
      · exact .inr (.inl ⟨rfl, rfl, Lib.hid (by rw [fzRight, h1, h2]; rfl)⟩)
      by_cases h3 : 0 ≤ h
      · by_cases h4 : h ≤ 4
        · by_cases h5 : 0 ≤ d
          · exact .inr (.inr (.inr (.inr (.inr (.inl ⟨rfl, rfl, h3, h4, h5, Lib.hid (by simp [fzRight, h1, h2, inR, h3, h4, h5])⟩)))))
          · exact .inr (.inr (.inr (.inr (.inl ⟨rfl, rfl, h3, h4, h5, Lib.hid (by simp [fzRight, h1, h2, inR, h5])⟩))))
        · exact .inr (.inr (.inr (.inl ⟨rfl, rfl, h3, h4, Lib.hid (by simp [fzRight, h1, h2, inR, h4])⟩)))
      · exact .inr (.inr (.inl ⟨rfl, rfl, h3, Lib.hid (by simp [fzRight, h1, h2, inR, h3])⟩))
    · exact .inr (.inr (.inr (.inr (.inr (.inr e)))))
  have hw := key (fzRight v m h d)
  clear key
  generalize fzRight v m h d = R at *
  rcases hw with ⟨h1, hr⟩ | ⟨h1, h2, hr⟩ | ⟨h1, h2, h3, hr⟩ | ⟨h1, h2, h3, h4, hr⟩ | ⟨h1, h2, h3, h4, h5, hr⟩ | ⟨h1, h2, h3, h4, h5, hr⟩ | hne
  all_goals try exact absurd rfl hne
  all_goals
    go_enter Tryz.func125, Tryz.ntmps125
    go_wp2_with (first | (go_at_call 90; refine (implVni_any _ _).mono ?_; rintro e w' ⟨rfl, rfl⟩) | (go_at_call 175; refine (implSingle_any _ _).mono ?_; rintro e w1 ⟨rfl, hb1⟩; have hc : ∀ o, w1.cell? ⟨w.heap.size, o, none⟩ = _ := fun o => hb1.cell (p := ⟨w.heap.size, o, none⟩) (by simp); have HB : Hid (Below w.heap.size w w1) := Lib.hid (((Below.refl _ _).alloc (Nat.le_refl _) _).trans (hb1.mono (by simp))); clear hb1))
    go_ret
    refine ⟨bool_ret hr.out.symm, ?_⟩
    first | exact HB.out | go_grown
end Go.Proofs.YtglealihdkecpaaGreat
