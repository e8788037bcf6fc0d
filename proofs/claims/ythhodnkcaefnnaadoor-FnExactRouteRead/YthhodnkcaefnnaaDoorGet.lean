/- Contracts of readNum, GetNum. -/
import Derived.Test.YthhodnkcaefnnaaDoorPut
import Derived.Test.YthhodnkcaefnnaaDoorAs
import Derived.ScopeJumps
import Derived.WalkMore
import Derived.Outline
namespace Go.Proofs.YthhodnkcaefnnaaDoor
open Go.RowKit

/- A scope in which the run jumps to several labels: what holds at a jump to each, and a measure that every pass lowers. -/
def jumps (J : Nat → Act → World → Prop) (Q : Exit → Act → World → Prop) : Exit → Act → World → Prop
  | .goto l, a, w => J l a w
  | e, a, w => Q e a w
theorem wp_scope_labels {P : Program} {a : Act} {w : World} {Q : Exit → Act → World → Prop} {c : Code} (R : Nat → Code) (J : Nat → Act → World → Prop) (m : Nat → Act → World → Nat)
    (hf : ∀ l a w, J l a w → findLabel c l = some (R l))
    (first : c.wp P (jumps J Q) a w)
    (pass : ∀ l a w, J l a w → (R l).wp P (jumps (fun l' a' w' => J l' a' w' ∧ m l' a' w' < m l a w) Q) a w) : (Code.scope c).wp P Q a w := by
  intro b k cs
  have hg : ∀ l a w, J l a w → gotoIn l (.inScope c :: k) = some (.code (R l) :: .inScope c :: k) := fun l a w h => by simp [gotoIn, hf l a w h]
  have key : ∀ n l a w, m l a w = n → J l a w → ∃ e a' w', Q e a' w' ∧ Arrives P (lone (b.at a (.code (R l) :: .inScope c :: k)) cs w) b k cs e a' w' := by
    intro n
    induction n using Nat.strongRecOn with
    | _ n ih =>
      intro l a w hn hJ
      obtain ⟨e, a₁, w₁, hq, harr⟩ := pass l a w hJ b (.inScope c :: k) cs
      cases e with
      | normal => exact ⟨.normal, a₁, w₁, hq, Steps.trans harr (.one step_inScope)⟩
      | exit id => exact ⟨.exit id, a₁, w₁, hq, fun k' hk => harr k' (by simp [exitTo, hk])⟩
      | goto l' =>
        obtain ⟨hJ', hlt⟩ := hq
        obtain ⟨e₂, a₂, w₂, hq₂, harr₂⟩ := ih _ (by omega) l' a₁ w₁ rfl hJ'
        exact ⟨e₂, a₂, w₂, hq₂, .of_steps (harr _ (hg l' a₁ w₁ hJ')) harr₂⟩
      | ret => exact ⟨_, a₁, w₁, hq, harr⟩
      | panic ch => exact ⟨_, a₁, w₁, hq, harr⟩
      | outgrown => exact ⟨_, a₁, w₁, hq, harr⟩
  obtain ⟨e, a₁, w₁, hq, harr⟩ := first b (.inScope c :: k) cs
  cases e with
  | normal => exact ⟨.normal, a₁, w₁, hq, .head step_scope (Steps.trans harr (.one step_inScope))⟩
  | exit id => exact ⟨.exit id, a₁, w₁, hq, fun k' hk => .head step_scope (harr k' (by simp [exitTo, hk]))⟩
  | goto l' =>
    obtain ⟨e₂, a₂, w₂, hq₂, harr₂⟩ := key _ l' a₁ w₁ rfl hq
    exact ⟨e₂, a₂, w₂, hq₂, .of_steps (.head step_scope (harr _ (hg l' a₁ w₁ hq))) harr₂⟩
  | ret => exact ⟨_, a₁, w₁, hq, .of_steps (.one step_scope) harr⟩
  | panic ch => exact ⟨_, a₁, w₁, hq, .of_steps (.one step_scope) harr⟩
  | outgrown => exact ⟨_, a₁, w₁, hq, .of_steps (.one step_scope) harr⟩

theorem wp_scope_three {P : Program} {a : Act} {w : World} {Q : Exit → Act → World → Prop} {c r0 r1 r2 : Code} (l0 l1 l2 : Nat) (h01 : l1 ≠ l0) (h02 : l2 ≠ l0) (h12 : l2 ≠ l1) (hf0 : findLabel c l0 = some (Code.skip.seq r0)) (hf1 : findLabel c l1 = some (Code.skip.seq r1)) (hf2 : findLabel c l2 = some (Code.skip.seq r2))
    (J0 J1 J2 : Act → World → Prop) (m : Act → World → Nat)
    (first : (∀ a w, J1 a w → r1.wp P (jumps (fun l a w => (l = l0 ∧ J0 a w) ∨ (l = l2 ∧ J2 a w) ∨ (l = l1 ∧ J1 a w)) Q) a w) → c.wp P (jumps (fun l a w => (l = l0 ∧ J0 a w) ∨ (l = l2 ∧ J2 a w) ∨ (l = l1 ∧ J1 a w)) Q) a w)
    (pass0 : ∀ a w, J0 a w → r0.wp P (jumps (fun _ _ _ => False) Q) a w)
    (pass2 : ∀ a w, J2 a w → r2.wp P (jumps (fun l a w => l = l0 ∧ J0 a w) Q) a w)
    (pass1 : ∀ a w, J1 a w → r1.wp P (jumps (fun l a' w' => (l = l0 ∧ J0 a' w') ∨ (l = l2 ∧ J2 a' w') ∨ (l = l1 ∧ J1 a' w' ∧ m a' w' < m a w)) Q) a w) : (Code.scope c).wp P Q a w := by
  have mono : ∀ {d : Code} {J J' : Nat → Act → World → Prop} {a : Act} {w : World}, (∀ l a w, J l a w → J' l a w) → d.wp P (jumps J Q) a w → d.wp P (jumps J' Q) a w := by
    intro d J J' a w hJ h b k cs
    obtain ⟨e, a₁, w₁, hq, harr⟩ := h b k cs
    refine ⟨e, a₁, w₁, ?_, harr⟩
    cases e with
    | goto l => exact hJ _ _ _ hq
    | _ => exact hq
  have skips : ∀ {d : Code} {Q' : Exit → Act → World → Prop} {a : Act} {w : World}, d.wp P Q' a w → (Code.skip.seq d).wp P Q' a w := fun h => wp_seq (wp_skip h)
  refine wp_scope_labels (R := fun l => if l = l0 then Code.skip.seq r0 else if l = l2 then Code.skip.seq r2 else Code.skip.seq r1)
    (J := fun l a w => (l = l0 ∧ J0 a w) ∨ (l = l2 ∧ J2 a w) ∨ (l = l1 ∧ J1 a w))
    (m := fun l a w => if l = l0 then 0 else if l = l2 then 1 else 2 + m a w) ?_ (first fun a w h => mono ?_ (pass1 a w h)) ?_
  · rintro l a w (⟨rfl, _⟩ | ⟨rfl, _⟩ | ⟨rfl, _⟩)
    · simpa using hf0
    · simpa [h02] using hf2
    · simpa [h01, Ne.symm h12] using hf1
  · rintro l a w (h | h | ⟨h, h', _⟩)
    · exact .inl h
    · exact .inr (.inl h)
    · exact .inr (.inr ⟨h, h'⟩)
  · rintro l a w (⟨rfl, h⟩ | ⟨rfl, h⟩ | ⟨rfl, h⟩)
    · simp only [if_true]
      exact skips (mono (fun _ _ _ f => f.elim) (pass0 a w h))
    · simp only [h02, if_false, if_true]
      refine skips (mono ?_ (pass2 a w h))
      rintro l' a' w' ⟨rfl, h'⟩
      exact ⟨.inl ⟨rfl, h'⟩, by simp⟩
    · simp only [h01, Ne.symm h12, if_false]
      refine skips (mono ?_ (pass1 a w h))
      rintro l' a' w' (⟨rfl, h'⟩ | ⟨rfl, h'⟩ | ⟨rfl, h', hm⟩)
      · exact ⟨.inl ⟨rfl, h'⟩, by simp; omega⟩
      · exact ⟨.inr (.inl ⟨rfl, h'⟩), by simp [h02]; omega⟩
      · exact ⟨.inr (.inr ⟨rfl, h'⟩), by simp [h01, Ne.symm h12]; omega⟩

/- the decoding, byte by byte: i bytes have been taken, u is what they hold -/
structure NumR where
  code : Int
  u : Nat
  n : Nat
def rd (i u : Nat) : List UInt8 → NumR
  | [] => ⟨4, 0, 0⟩
  | c :: l =>
    if i = 9 ∧ 1 < c.toNat then ⟨3, 0, 0⟩
    else if c.toNat < 128 then (if c.toNat = 0 ∧ 0 < i then ⟨3, 0, 0⟩ else ⟨0, u + c.toNat % 128 * 128 ^ i, i + 1⟩)
    else rd (i + 1) (u + c.toNat % 128 * 128 ^ i) l

theorem drop_cons (s : ByteArray) (k : Nat) (h : k < s.size) : s.data.toList.drop k = s[k] :: s.data.toList.drop (k + 1) := by
  rw [List.drop_eq_getElem_cons (by simpa using h)]; rfl
theorem drop_none (s : ByteArray) (k : Nat) (h : s.size ≤ k) : s.data.toList.drop k = [] := List.drop_of_length_le (by simpa using h)
theorem pow_small (j c : Nat) (hj : j ≤ 9) (hc : c < 256) (h9 : j = 9 → c ≤ 1) : c % 128 * 128 ^ j < 18446744073709551616 ∧ c % 128 * 128 ^ j + 128 ^ j ≤ 128 ^ (j + 1) := by
  rcases (by omega : j = 0 ∨ j = 1 ∨ j = 2 ∨ j = 3 ∨ j = 4 ∨ j = 5 ∨ j = 6 ∨ j = 7 ∨ j = 8 ∨ j = 9) with rfl | rfl | rfl | rfl | rfl | rfl | rfl | rfl | rfl | rfl <;> simp at h9 ⊢ <;> omega
theorem pow_27 (j : Nat) : 2 ^ (7 * j) = 128 ^ j := by rw [Nat.pow_mul]
theorem or_step (u j : Nat) (c : UInt8) (hj : j ≤ 9) (hu : u < 128 ^ j) (h9 : j = 9 → c.toNat ≤ 1) :
    bits .or .u64 (u : Int) (IntKind.u64.wrap (IntKind.u64.wrap (bits .and .u8 (c.toNat : Int) 127) * 2 ^ (7 * j))) = ((u + c.toNat % 128 * 128 ^ j : Nat) : Int) := by
  have hc := c.toNat_lt
  have e1 : bits .and .u8 (c.toNat : Int) 127 = ((c.toNat % 128 : Nat) : Int) := by
    have := u8_and_nat c.toNat 127 (by omega) (by omega)
    rw [show (127 : Nat) = 2 ^ 7 - 1 from rfl, Nat.and_two_pow_sub_one_eq_mod] at this; exact this
  have hp := pow_small j c.toNat hj (by omega) h9
  have hpow : 128 ^ j < 18446744073709551616 := Nat.lt_of_le_of_lt (Nat.pow_le_pow_right (by omega) hj) (by decide)
  rw [e1, IntKind.wrap_u64, IntKind.wrap_u64]
  have e2 : ((c.toNat % 128 : Nat) : Int) % 18446744073709551616 = ((c.toNat % 128 : Nat) : Int) := by omega
  have e3 : ((c.toNat % 128 : Nat) : Int) * 2 ^ (7 * j) = ((c.toNat % 128 * 128 ^ j : Nat) : Int) := by
    rw [← pow_27 j, Int.natCast_mul, Int.natCast_pow]; rfl
  rw [e2, e3]
  have e4 : ((c.toNat % 128 * 128 ^ j : Nat) : Int) % 18446744073709551616 = ((c.toNat % 128 * 128 ^ j : Nat) : Int) := by omega
  rw [e4, u64_or_nat u _ (by omega) hp.1]
  have h2 := Nat.two_pow_add_eq_or_of_lt (i := 7 * j) (b := u) (by rw [pow_27]; exact hu) (c.toNat % 128)
  rw [pow_27] at h2
  rw [Nat.or_comm, Nat.mul_comm (c.toNat % 128), ← h2, Nat.add_comm]

def readV (k : Nat) (r : NumR) : Value := if r.code = 0 then .tuple #[.int .u64 r.u, .int .i64 (k + r.n), .nilIface] else .tuple #[.int .u64 0, .int .i64 0, .iface 82 (.agg #[.int .i64 r.code])]
theorem readV_bad (k : Nat) (r : NumR) (c : Int) (h : r = ⟨c, 0, 0⟩) (hc : c ≠ 0) : readV k r = .tuple #[.int .u64 0, .int .i64 0, .iface 82 (.agg #[.int .i64 c])] := by
  subst h; rw [readV, if_neg hc]
theorem readV_good (k : Nat) (r : NumR) (u n : Nat) (h : r = ⟨0, u, n⟩) : readV k r = .tuple #[.int .u64 u, .int .i64 (k + n), .nilIface] := by
  subst h; rw [readV, if_pos rfl]
theorem ret_val {a b : Value} (h : a = b) : Ending.returned a = .returned b := by rw [h]

def moreAt (s : ByteArray) (k : Nat) (w : World) (a : Act) (w' : World) : Prop := w = w' ∧ ∃ (j u : Nat) (at_ b uu sh cnt : Int) (x12 x13 x14 x15 x16 x17 x18 x19 x20 x21 x22 x23 x24 x25 x26 x27 x28 x29 x30 x31 x32 x33 x34 x35 x36 x37 x38 x39 x40 x41 x42 x43 x44 x45 x46 x47 x48 x49 x50 : Value), j ≤ 9 ∧ u < 128 ^ j ∧ at_ = (k : Int) + j ∧ uu = (u : Int) ∧ sh = 7 * (j : Int) ∧ cnt = (j : Int) ∧ Hid (rd 0 0 (s.data.toList.drop k) = rd j u (s.data.toList.drop (k + j))) ∧ a = { tmps := #[.string s, .int .i64 (at_), undef, undef, .int .u64 0, .int .i64 0, .nilIface, .int .u64 (uu), .int .u8 (b), .int .u64 (sh), .int .i64 (cnt), .int .i64 (3), x12, x13, x14, x15, x16, x17, x18, x19, x20, x21, x22, x23, x24, x25, x26, x27, x28, x29, x30, x31, x32, x33, x34, x35, x36, x37, x38, x39, x40, x41, x42, x43, x44, x45, x46, x47, x48, x49, x50], defers := [] }
def lastAt (s : ByteArray) (k : Nat) (w : World) (a : Act) (w' : World) : Prop := w = w' ∧ ∃ (j u c : Nat) (at_ b uu sh cnt : Int) (x12 x13 x14 x15 x16 x17 x18 x19 x20 x21 x22 x23 x24 x25 x26 x27 x28 x29 x30 x31 x32 x33 x34 x35 x36 x37 x38 x39 x40 x41 x42 x43 x44 x45 x46 x47 x48 x49 x50 : Value), j ≤ 9 ∧ c < 128 ∧ b = (c : Int) ∧ at_ = (k : Int) + j + 1 ∧ uu = (u : Int) ∧ cnt = (j : Int) + 1 ∧ Hid (rd 0 0 (s.data.toList.drop k) = if c = 0 ∧ 0 < j then ⟨3, 0, 0⟩ else ⟨0, u, j + 1⟩) ∧ a = { tmps := #[.string s, .int .i64 (at_), undef, undef, .int .u64 0, .int .i64 0, .nilIface, .int .u64 (uu), .int .u8 (b), .int .u64 (sh), .int .i64 (cnt), .int .i64 (3), x12, x13, x14, x15, x16, x17, x18, x19, x20, x21, x22, x23, x24, x25, x26, x27, x28, x29, x30, x31, x32, x33, x34, x35, x36, x37, x38, x39, x40, x41, x42, x43, x44, x45, x46, x47, x48, x49, x50], defers := [] }
def wrongAt (s : ByteArray) (k : Nat) (w : World) (a : Act) (w' : World) : Prop := w = w' ∧ ∃ (code at_ b uu sh cnt : Int) (x12 x13 x14 x15 x16 x17 x18 x19 x20 x21 x22 x23 x24 x25 x26 x27 x28 x29 x30 x31 x32 x33 x34 x35 x36 x37 x38 x39 x40 x41 x42 x43 x44 x45 x46 x47 x48 x49 x50 : Value), code ≠ 0 ∧ Hid (rd 0 0 (s.data.toList.drop k) = ⟨code, 0, 0⟩) ∧ a = { tmps := #[.string s, .int .i64 (at_), undef, undef, .int .u64 0, .int .i64 0, .nilIface, .int .u64 (uu), .int .u8 (b), .int .u64 (sh), .int .i64 (cnt), .int .i64 (code), x12, x13, x14, x15, x16, x17, x18, x19, x20, x21, x22, x23, x24, x25, x26, x27, x28, x29, x30, x31, x32, x33, x34, x35, x36, x37, x38, x39, x40, x41, x42, x43, x44, x45, x46, x47, x48, x49, x50], defers := [] }
theorem rd_none (i u : Nat) : rd i u [] = ⟨4, 0, 0⟩ := rfl
theorem rd_over (i u : Nat) (c : UInt8) (l : List UInt8) (h : i = 9) (hc : 1 < c.toNat) : rd i u (c :: l) = ⟨3, 0, 0⟩ := by rw [rd, if_pos ⟨h, hc⟩]
theorem rd_last (i u : Nat) (c : UInt8) (l : List UInt8) (h : ¬ (i = 9 ∧ 1 < c.toNat)) (hc : c.toNat < 128) : rd i u (c :: l) = if c.toNat = 0 ∧ 0 < i then ⟨3, 0, 0⟩ else ⟨0, u + c.toNat % 128 * 128 ^ i, i + 1⟩ := by rw [rd, if_neg h, if_pos hc]
theorem rd_more (i u : Nat) (c : UInt8) (l : List UInt8) (h : i ≠ 9) (hc : ¬ c.toNat < 128) : rd i u (c :: l) = rd (i + 1) (u + c.toNat % 128 * 128 ^ i) l := by rw [rd, if_neg (fun x => h x.1), if_neg hc]

set_option maxRecDepth 100000 in
set_option maxHeartbeats 4000000 in
theorem readNum_any (s : ByteArray) (k : Nat) (w : World) (hs : s.size ≤ 8000) (hk : (k : Int) ≤ 9223372036854775807) :
    Calls Tryd.prog 62 #[.string s, .int .i64 k] w fun e w' => e = .returned (readV k (rd 0 0 (s.data.toList.drop k))) ∧ w = w' := by
  have HK := Lib.hid hk; clear hk
  go_enter Tryd.func62, Tryd.ntmps62
  go_wp2
  refine wp_scope_three 0 1 2 (by decide) (by decide) (by decide) rfl rfl rfl (wrongAt s k w) (moreAt s k w) (lastAt s k w) (fun a' _ => 10 - (intOf (a'.tmps.getD 10 undef)).toNat) ?_ ?_ ?_ ?_
  · intro hp
    go_wp2
    go_step3
    rename_i K hK
    refine hK _ _ ?_
    refine hp _ _ ?_
    exact ⟨rfl, 0, 0, _, _, _, _, _, _, _, _, _, _, _, _, _, _, _, _, _, _, _, _, _, _, _, _, _, _, _, _, _, _, _, _, _, _, _, _, _, _, _, _, _, _, _, _, by omega, by omega, by simp, rfl, rfl, rfl, Lib.hid rfl, rfl⟩
  · rintro a' w' ⟨rfl, code, at_, b, uu, sh, cnt, x12, x13, x14, x15, x16, x17, x18, x19, x20, x21, x22, x23, x24, x25, x26, x27, x28, x29, x30, x31, x32, x33, x34, x35, x36, x37, x38, x39, x40, x41, x42, x43, x44, x45, x46, x47, x48, x49, x50, hcode, HR, rfl⟩
    have HB := Lib.hid (readV_bad k _ code HR.out hcode)
    go_wp2
    simp only [jumps]
    go_ret3
    exact ⟨ret_val HB.out.symm, rfl⟩
  · rintro a' w' ⟨rfl, j, u, c, at_, b, uu, sh, cnt, x12, x13, x14, x15, x16, x17, x18, x19, x20, x21, x22, x23, x24, x25, x26, x27, x28, x29, x30, x31, x32, x33, x34, x35, x36, x37, x38, x39, x40, x41, x42, x43, x44, x45, x46, x47, x48, x49, x50, hj, hc, rfl, rfl, rfl, rfl, HR, rfl⟩
    by_cases h0 : c = 0
    · subst h0
      by_cases hj0 : 0 < j
      · go_wp2
        go_step3
        refine ⟨rfl, rfl, 3, _, _, _, _, _, _, _, _, _, _, _, _, _, _, _, _, _, _, _, _, _, _, _, _, _, _, _, _, _, _, _, _, _, _, _, _, _, _, _, _, _, _, _, _, by decide, Lib.hid ?_, rfl⟩
        rw [HR.out]; simp [hj0]
      · have HB := Lib.hid (readV_good k (rd 0 0 (s.data.toList.drop k)) u (j + 1) (by rw [HR.out, if_neg (by omega)]))
        go_wp2
        simp only [jumps]
        go_ret3
        refine ⟨ret_val ?_, rfl⟩
        rw [HB.out]
        go_num
    · have HB := Lib.hid (readV_good k (rd 0 0 (s.data.toList.drop k)) u (j + 1) (by rw [HR.out, if_neg (by omega)]))
      go_wp2
      simp only [jumps]
      go_ret3
      refine ⟨ret_val ?_, rfl⟩
      rw [HB.out]
      go_num
  · rintro a' w' ⟨rfl, j, u, at_, b, uu, sh, cnt, x12, x13, x14, x15, x16, x17, x18, x19, x20, x21, x22, x23, x24, x25, x26, x27, x28, x29, x30, x31, x32, x33, x34, x35, x36, x37, x38, x39, x40, x41, x42, x43, x44, x45, x46, x47, x48, x49, x50, hj, hu, rfl, rfl, rfl, rfl, HR, rfl⟩
    have HU := Lib.hid hu; clear hu
    by_cases hlt : k + j < s.size
    · have hd := drop_cons s (k + j) hlt
      rw [hd] at HR
      have HO : Hid ((j = 9 → s[k + j].toNat ≤ 1) → _) := or_step u j s[k + j] hj HU.out
      clear hd
      go_wp2
      · go_step3
        refine .inl ⟨rfl, rfl, 3, _, _, _, _, _, _, _, _, _, _, _, _, _, _, _, _, _, _, _, _, _, _, _, _, _, _, _, _, _, _, _, _, _, _, _, _, _, _, _, _, _, _, _, _, by decide, Lib.hid ?_, rfl⟩
        rw [HR.out, rd_over j u _ _ (by omega) (by omega)]
      · have hle : s[k + j].toNat ≤ 1 := by omega
        go_step3
        rw [HO.out (fun _ => hle)]
        refine .inr (.inl ⟨rfl, rfl, j, _, s[k + j].toNat, _, _, _, _, _, _, _, _, _, _, _, _, _, _, _, _, _, _, _, _, _, _, _, _, _, _, _, _, _, _, _, _, _, _, _, _, _, _, _, _, _, _, _, _, hj, by omega, rfl, rfl, rfl, by omega, Lib.hid ?_, rfl⟩)
        rw [HR.out, rd_last j u _ _ (by omega) (by omega)]
      · have hj9 : j ≠ 9 := by omega
        go_step3
        rw [HO.out (fun h => absurd h hj9)]
        refine .inr (.inl ⟨rfl, rfl, j, _, s[k + j].toNat, _, _, _, _, _, _, _, _, _, _, _, _, _, _, _, _, _, _, _, _, _, _, _, _, _, _, _, _, _, _, _, _, _, _, _, _, _, _, _, _, _, _, _, _, hj, by omega, rfl, rfl, rfl, rfl, Lib.hid ?_, rfl⟩)
        rw [HR.out, rd_last j u _ _ (by omega) (by omega)]
      · have hj9 : j ≠ 9 := by omega
        go_step3
        rw [HO.out (fun h => absurd h hj9)]
        refine .inr (.inr ⟨rfl, ⟨rfl, j + 1, _, _, _, _, _, _, _, _, _, _, _, _, _, _, _, _, _, _, _, _, _, _, _, _, _, _, _, _, _, _, _, _, _, _, _, _, _, _, _, _, _, _, _, _, _, by omega, ?_, by omega, rfl, by omega, by omega, Lib.hid ?_, rfl⟩, ?_⟩)
        · have := pow_small j s[k + j].toNat hj (by have := s[k + j].toNat_lt; omega) (fun h => absurd h hj9)
          have := HU.out
          omega
        · rw [HR.out, rd_more j u _ _ hj9 (by omega)]; rfl
        · simp [intOf]; omega
    · rw [drop_none s (k + j) (by omega)] at HR
      have hge : (s.size : Int) ≤ (k : Int) + j := by omega
      have HK2 := HK.out
      go_wp2
      go_step3
      refine .inl ⟨rfl, rfl, 4, _, _, _, _, _, _, _, _, _, _, _, _, _, _, _, _, _, _, _, _, _, _, _, _, _, _, _, _, _, _, _, _, _, _, _, _, _, _, _, _, _, _, _, _, by decide, Lib.hid ?_, rfl⟩
      rw [HR.out, rd_none]
end Go.Proofs.YthhodnkcaefnnaaDoor
