/- byKeys, of the program. -/
import Derived.Test.YthhodnkcaefnnaaRtN
import Derived.Test.YthhodnkcaefnnaaRtL
import Derived.Maps.AppendAt
import Derived.OwnWalk
import Derived.Deep.CutRange
namespace Go.Proofs.Ythhodnkcaefnnaa
open Go.RowKit Go.Maps

theorem info_rt' : (Try.prog.info? 25).map (fun i => (i.zero, i.size, i.bytes)) = some (some (.agg #[.int .i64 0, .int .i64 0, .int .i64 0, .int .i64 0, .int .i64 0, .int .i64 0, .bool false]), 7, 56) := by kernel_rfl
theorem MapRt.skip {W : World} {M B : Nat} {X : List (Rt × Value)} {L : List Rt} {r : Rt} (h : MapRt W M B X L) (hr : r.right = false) : MapRt W M B X (L ++ [r]) := by
  refine ⟨h.obj, h.low, fun i k v hi => ?_, h.keys, fun s hs hv => ?_, h.apart⟩
  · rw [grp_snoc, hr, Bool.false_and, if_neg (by simp)]; exact h.rows i k v hi
  · rcases List.mem_append.1 hs with hs | hs
    · exact h.all s hs hv
    · rw [List.mem_singleton.1 hs, hr] at hv; cases hv
theorem MapRt.empty (w : World) : MapRt (w.alloc (.map #[] 0)) w.heap.size (w.heap.size + 1) [] [] :=
  ⟨heap_alloc_new w _, by omega, (fun i k v hi => by simp at hi), (fun i j k v u hi _ => by simp at hi), (fun r hr => by cases hr), (fun i j k v k' u b _ hi _ _ => by simp at hi)⟩
theorem cl_one (r : Rt) : ∀ u ∈ r.cl, u.oneCell' = true := by
  intro u hu; simp only [Rt.cl, List.mem_cons, List.not_mem_nil, or_false] at hu
  rcases hu with rfl | rfl | rfl | rfl | rfl | rfl | rfl <;> rfl
theorem Blk.cl {W : World} {b : Nat} {t : TypeId} {r : Rt} (h : Blk W b t #[.int .i64 r.kind, .int .i64 r.vni, .int .i64 r.mac, .int .i64 r.ip, .int .i64 r.org, .int .i64 r.seq, .bool r.st]) (j : Nat) (u : Value) (hj : r.cl[j]? = some u) : W.cell? ((⟨b, 0, none⟩ : Addr).add j) = some u := by
  have e : (⟨b, 0, none⟩ : Addr).add j = ⟨b, j, none⟩ := by
    unfold Addr.add; split
    · rename_i h0; rw [h0]
    · simp
  rw [e, h.cell, ← hj]
  simp [Rt.cl]
def KeysPost (rs : List Rt) (w : World) (e : Ending) (w' : World) : Prop := e = .returned (.map (some w.heap.size)) ∧ (∃ X, MapRt w' w.heap.size (w.heap.size + 1) X rs) ∧ Below w.heap.size w w'
set_option maxHeartbeats 2000000 in
theorem byKeys_any (rs : List Rt) (v : Value) (w : World) (h : RtsAt w v rs) (hn : rs.length ≤ 400) :
    Calls Try.prog 40 #[v] w (KeysPost rs w) := by
  obtain ⟨i0, hi0, hz0, hz1, hz2⟩ := info_parts info_rt'
  have hmm := @run_makeMap Try.prog
  obtain ⟨a, cap, rfl, h⟩ := h
  rw [List.length_map] at *
  have HH := Lib.hid h
  clear h
  obtain ⟨n, hnn⟩ : ∃ n, n = rs.length := ⟨_, rfl⟩
  rw [← hnn] at hn ⊢
  have HN := Lib.hid hnn
  clear hnn
  go_enter Try.func40, Try.ntmps40
  go_wp2_with fail
  go_loopw [10] (fun u wr => ∃ (i : Nat) (X : List (Rt × Value)), i ≤ n ∧ u = .int .i64 (i : Int) ∧ Hid (MapRt wr w.heap.size (w.heap.size + 1) X (rs.take i)) ∧ Hid (Below w.heap.size w wr)) (fun u _ => n - (intOf u).toNat)
  case atStart => exact ⟨0, [], Nat.zero_le _, rfl, Lib.hid (MapRt.empty w), Lib.hid ((Below.refl _ _).alloc (Nat.le_refl _) _)⟩
  case round =>
    obtain ⟨i, X, hi, rfl, HM, HB⟩ := hrel
    by_cases hlt : i < n
    · have hir : i < rs.length := by rw [← HN.out]; exact hlt
      have hne : rs.map Rt.cl ≠ [] := fun e => by
        have := congrArg List.length e
        rw [List.length_map, ← HN.out] at this
        simp at this; omega
      obtain ⟨b, off, ha, hb, HE⟩ := HH.out hne
      subst ha
      have hl1 : (i : Int) < n := by omega
      obtain ⟨p0, p1, p2, p3, p4, p5, p6⟩ := (HE.below HB.out hb).rt i hir
      have HT : Hid (rs.take (i + 1) = rs.take i ++ [rs[i]]) := Lib.hid (List.take_succ_eq_append_getElem hir)
      obtain ⟨r, hr⟩ : ∃ r, r = rs[i] := ⟨_, rfl⟩
      rw [← hr] at p0 p1 p2 p3 p4 p5 p6 HT
      clear hr
      have HQ := Lib.hid (implRight_any r)
      have HK := Lib.hid (implKeyOf_any r.kind r.vni r.mac r.ip r.org r.seq r.st)
      unfold Rt.val rtV at HQ
      unfold rtV at HK
      go_upto_region 5 with fail
      obtain ⟨W, hW⟩ : ∃ W, W = wr.alloc (.cells #[.int .i64 r.kind, .int .i64 r.vni, .int .i64 r.mac, .int .i64 r.ip, .int .i64 r.org, .int .i64 r.seq, .bool r.st] 25) := ⟨_, rfl⟩
      obtain ⟨q, hq⟩ : ∃ q, q = wr.heap.size := ⟨_, rfl⟩
      rw [← hW, ← hq]
      have S : Blk W q 25 #[.int .i64 r.kind, .int .i64 r.vni, .int .i64 r.mac, .int .i64 r.ip, .int .i64 r.org, .int .i64 r.seq, .bool r.st] := by subst hW hq; exact Blk.new _ _ _
      replace HM := Lib.hid (HM.out.alloc (.cells #[.int .i64 r.kind, .int .i64 r.vni, .int .i64 r.mac, .int .i64 r.ip, .int .i64 r.org, .int .i64 r.seq, .bool r.st] 25))
      replace HB := Lib.hid (HB.out.alloc HB.out.size (.cells #[.int .i64 r.kind, .int .i64 r.vni, .int .i64 r.mac, .int .i64 r.ip, .int .i64 r.org, .int .i64 r.seq, .bool r.st] 25))
      rw [← hW] at HM HB
      clear hW hq p0 p1 p2 p3 p4 p5 p6
      have cS := S.cell
      go_wp2_with fail
      refine (HQ.out _).mono ?_
      rintro e w1 ⟨rfl, hb1⟩
      replace HM := Lib.hid (HM.out.kept hb1)
      replace HB : Hid (Below w.heap.size w w1) := Lib.hid (HB.out.trans (hb1.mono HB.out.size))
      replace S := S.kept hb1
      clear hb1 cS
      have cS := S.cell
      cases hra : r.right
      · have HM2 := Lib.hid (HM.out.skip hra)
        rw [← HT.out] at HM2
        clear hra
        go_wp2_with fail
        go_roundw
        case rel => exact ⟨i + 1, X, by omega, by simp, HM2, HB⟩
        case measure => simp [intOf]; omega
      · have HRA := Lib.hid hra
        clear hra
        go_wp2_with fail
        refine (HK.out _).mono ?_
        rintro e w2 ⟨rfl, hb2⟩
        replace HM := Lib.hid (HM.out.kept hb2)
        replace HB : Hid (Below w.heap.size w w2) := Lib.hid (HB.out.trans (hb2.mono HB.out.size))
        replace S := S.kept hb2
        clear hb2 cS
        go_upto_region 7 with fail
        obtain ⟨W, hW⟩ : ∃ W, W = w2.alloc (.cells #[.int .i64 r.kind, .int .i64 r.vni, .int .i64 r.mac, .int .i64 0, .int .i64 r.org, .int .i64 0, .bool false] 25) := ⟨_, rfl⟩
        obtain ⟨qk, hqk⟩ : ∃ q, q = w2.heap.size := ⟨_, rfl⟩
        rw [← hW, ← hqk]
        have SK : Blk W qk 25 #[.int .i64 r.kind, .int .i64 r.vni, .int .i64 r.mac, .int .i64 0, .int .i64 r.org, .int .i64 0, .bool false] := by subst hW hqk; exact Blk.new _ _ _
        replace S := S.alloc (.cells #[.int .i64 r.kind, .int .i64 r.vni, .int .i64 r.mac, .int .i64 0, .int .i64 r.org, .int .i64 0, .bool false] 25)
        replace HM := Lib.hid (HM.out.alloc (.cells #[.int .i64 r.kind, .int .i64 r.vni, .int .i64 r.mac, .int .i64 0, .int .i64 r.org, .int .i64 0, .bool false] 25))
        replace HB := Lib.hid (HB.out.alloc HB.out.size (.cells #[.int .i64 r.kind, .int .i64 r.vni, .int .i64 r.mac, .int .i64 0, .int .i64 r.org, .int .i64 0, .bool false] 25))
        rw [← hW] at HM HB S
        clear hW hqk
        have cS := S.cell
        have cK := SK.cell
        obtain ⟨X1, j, v0, W1, hent, hM1, hX1, hg1, hs1⟩ := (HM.out.alloc (.cells #[.int .i64 r.kind, .int .i64 r.vni, .int .i64 r.mac, .int .i64 r.ip, .int .i64 r.org, .int .i64 r.seq, .bool r.st] 25)).entry r.key
        have HR1 := hM1.rows j _ _ hX1
        have hgl := grp_len (rs.take i) r.key
        have hgl2 : (grp (rs.take i) r.key).length ≤ 400 := Nat.le_trans hgl (Nat.le_trans (List.length_take_le _ _) (by omega))
        have SN : Blk W1 W.heap.size 25 #[.int .i64 r.kind, .int .i64 r.vni, .int .i64 r.mac, .int .i64 r.ip, .int .i64 r.org, .int .i64 r.seq, .bool r.st] := (Blk.new W _ _).grown hg1 (by intro e; injection e with e; have := HM.out.lt; omega)
        have HB1 : Hid (Below w.heap.size w W1) := Lib.hid ((HB.out.alloc HB.out.size _).grown hg1 (by have := HB.out.size; simp; omega) (fun k hk => by injection hk with hk; omega))
        have HBs : w.heap.size + 1 ≤ W1.heap.size := by have := HM.out.lt; rw [hs1]; simp; omega
        replace hM1 := Lib.hid hM1
        replace HR1 := Lib.hid HR1
        replace hX1 := Lib.hid hX1
        replace SN := Lib.hid SN
        clear hgl hg1 hs1
        unfold Rt.val rtV Rt.key at hent
        dsimp only at hent
        go_wp2_with (at_builtin; refine wpList_append_own_at _ rfl _ _ 35 rfl (w.heap.size + 1) 25 i0 _ 7 56 Try.underlying35 hi0 hz0 hz1 hz2 rfl (by decide) _ _ _ rfl HR1.out ⟨W.heap.size, 0, none⟩ 1 1 r.cl rfl rfl SN.out.cl (cl_one r) (by unfold maxLen; omega) (by omega) HBs ?_; intro v1 w3 hown3 hg3 _ hloc3; obtain ⟨X3, W3, hst, hM3, hg4⟩ := hM1.out.store hX1.out HRA.out hown3 hg3 hloc3; have HM3 := Lib.hid hM3; have HB3 : Hid (Below w.heap.size w W3) := Lib.hid ((HB1.out.grown hg3 HB1.out.size (fun k hk => Nat.le_trans (Nat.le_succ _) (HR1.out.lt k hk).1)).grown hg4 (Nat.le_trans HB1.out.size hg3.size) (fun k hk => by injection hk with hk; omega)); clear hown3 hg3 hloc3 hM3 hg4)
        go_roundw
        case rel => exact ⟨i + 1, X3, by omega, by simp, by rw [HT.out]; exact HM3, HB3⟩
        case measure => simp [intOf]; omega
    · have hin : i = n := by omega
      subst hin
      go_wp2_with fail
      go_ret
      exact ⟨rfl, ⟨X, by have := HM.out; rw [List.take_of_length_le (by rw [← HN.out]; exact Nat.le_refl _)] at this; exact this⟩, HB.out⟩
end Go.Proofs.Ythhodnkcaefnnaa
