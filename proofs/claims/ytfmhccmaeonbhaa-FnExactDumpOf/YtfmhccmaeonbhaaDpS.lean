/- DumpOf, of the model and of the program. -/
import Derived.Test.YtfmhccmaeonbhaaDpM
import Derived.Test.YtfmhccmaeonbhaaStsC
import Derived.Test.YtfmhccmaeonbhaaNtC
import Derived.Deep.CutRange
namespace Go.Proofs.Ytfmhccmaeonbhaa
open Go.RowKit

def zeroRt : Rt := ⟨0, 0, 0, 0, 0, 0, false⟩
def notesL (rs : List Rt) : List ByteArray := rs.map (ntBytes 1)
def dumpL (rs : List Rt) : List ByteArray := if rs.length ≤ 60 ∧ ∀ r ∈ rs, r.right = true then notesL rs ++ [ntBytes 3 zeroRt] else []
theorem notes_take (rs : List Rt) (k : Nat) (h : k < rs.length) : notesL (rs.take (k + 1)) = notesL (rs.take k) ++ [ntBytes 1 rs[k]] := by
  unfold notesL
  rw [List.take_succ_eq_append_getElem h, List.map_append]
  rfl
theorem notes_len (rs : List Rt) (k : Nat) : (notesL (rs.take k)).length ≤ k := by
  unfold notesL
  rw [List.length_map, List.length_take]
  omega
theorem zero_right : ntRight 3 zeroRt = true := by decide
theorem dump_wrong {rs : List Rt} {k : Nat} (h : k < rs.length) (hr : rs[k].right = false) : dumpL rs = [] := by
  unfold dumpL
  rw [if_neg]
  intro hh
  have := hh.2 _ (List.getElem_mem h)
  rw [hr] at this
  cases this
theorem dump_long {rs : List Rt} (h : ¬ rs.length ≤ 60) : dumpL rs = [] := by
  unfold dumpL
  rw [if_neg (fun hh => h hh.1)]
set_option maxHeartbeats 2000000 in
theorem specDumpIn_any (rs : List Rt) (v : Value) (w : World) (h : RtsAt w v rs) (hn : rs.length ≤ 60) (hr : ∀ r ∈ rs, r.right = true) :
    Calls Try.prog 86 #[v] w (StsPost (notesL rs ++ [ntBytes 3 zeroRt]) w) := by
  obtain ⟨i0, hi0, hz0, hz1, hz2⟩ := info_parts info_str
  have H3 := Lib.hid (specL04Bytes_any 3 zeroRt zero_right)
  generalize ntBytes 3 zeroRt = s3 at H3 ⊢
  obtain ⟨D, hD⟩ : ∃ D, D = notesL rs ++ [s3] := ⟨_, rfl⟩
  rw [← hD]
  have HD := Lib.hid hD
  clear hD
  have HRT := Lib.hid hr
  clear hr
  obtain ⟨a, cap, rfl, h⟩ := h
  rw [List.length_map] at *
  have HH := Lib.hid h
  clear h
  obtain ⟨n, hnn⟩ : ∃ n, n = rs.length := ⟨_, rfl⟩
  rw [← hnn] at hn ⊢
  have HN := Lib.hid hnn
  clear hnn
  have HO0 : Hid ((w.alloc (.cells #[] 9)).ownsRow w.heap.size 9 1 (.slice (some ⟨w.heap.size, 0, none⟩) 0 0) (notesL (rs.take 0)).length (strsV (notesL (rs.take 0)))) := Lib.hid (World.ownsRow_lit (base := w.heap.size) (e := 9) (size := 1) w #[] 0 (Nat.le_refl _) (Nat.zero_le _) rfl)
  unfold ntV zeroRt at H3
  go_enter Try.func86, Try.ntmps86
  go_wp2_with fail
  go_loopw [4, 3] (fun u y wr => ∃ k : Nat, k ≤ n ∧ u = .int .i64 (k : Int) ∧ Hid (wr.ownsRow w.heap.size 9 1 y (notesL (rs.take k)).length (strsV (notesL (rs.take k)))) ∧ Hid (Below w.heap.size w wr)) (fun u _ _ => n - (intOf u).toNat)
  case atStart => exact ⟨0, Nat.zero_le _, rfl, HO0, Lib.hid ((Below.refl _ _).alloc (Nat.le_refl _) _)⟩
  case round =>
    obtain ⟨k, hk, rfl, HO, HB⟩ := hrel
    have hlen := notes_len rs k
    by_cases hlt : k < n
    · have hir : k < rs.length := by rw [← HN.out]; exact hlt
      have hne : rs.map Rt.cl ≠ [] := fun e => by
        have := congrArg List.length e
        rw [List.length_map, ← HN.out] at this
        simp at this; omega
      obtain ⟨b, off, ha, hb, HE⟩ := HH.out hne
      subst ha
      have hl1 : (k : Int) < n := by omega
      obtain ⟨p0, p1, p2, p3, p4, p5, p6⟩ := (HE.below HB.out hb).rt k hir
      have HQ := Lib.hid (specL04Bytes_any 1 rs[k] (by rw [nt1]; exact HRT.out _ (List.getElem_mem hir)))
      have HT := Lib.hid (notes_take rs k hir)
      generalize ntBytes 1 rs[k] = s at HQ HT
      generalize notesL (rs.take k) = pre at HO HT hlen
      unfold ntV at HQ
      clear HE
      go_wp2_with fail
      refine (HQ.out _).mono ?_
      rintro x w1 ⟨rfl, hb1⟩
      have hown := own_below HO.out hb1
      replace HB : Hid (Below w.heap.size w w1) := Lib.hid (HB.out.trans (hb1.mono HB.out.size))
      clear hb1 HO p0 p1 p2 p3 p4 p5 p6 HQ
      have hsz1 := HB.out.size
      go_wp2_with (at_builtin; refine wpList_append_own _ rfl _ _ 29 rfl w.heap.size 9 i0 (.string ⟨#[]⟩) 1 16 Try.underlying29 hi0 hz0 hz1 hz2 rfl (by decide) _ _ _ rfl (hown.alloc _) ⟨w1.heap.size, 0, none⟩ 1 1 [.string s] rfl rfl (one_cell _ _ _) (str_oneCell _) (by unfold maxLen; omega) (by omega) (by simp; omega) ?_; intro v' w2 hown' hg _; have R := app_str HB.out hsz1 hown hown' hg; obtain ⟨g', cap', rfl⟩ := own_form hown'; have HR1 := Lib.hid R.1; have HR2 := Lib.hid R.2; clear hown' hg hown hsz1 R)
      go_roundw
      case rel => exact ⟨k + 1, by omega, by simp, by rw [HT.out]; exact HR1, HR2⟩
      case measure => simp [intOf]; omega
    · have hin : k = n := by omega
      subst hin
      rw [List.take_of_length_le (by rw [HN.out]; exact Nat.le_refl _)] at HO hlen
      generalize notesL rs = pre at HO hlen HD
      obtain ⟨s, hs⟩ : ∃ s, s = s3 := ⟨_, rfl⟩
      rw [← hs] at H3 HD
      clear hs
      go_wp2_with fail
      refine (H3.out _).mono ?_
      rintro x w1 ⟨rfl, hb1⟩
      have hown := own_below HO.out hb1
      replace HB : Hid (Below w.heap.size w w1) := Lib.hid (HB.out.trans (hb1.mono HB.out.size))
      clear hb1 HO
      have hsz1 := HB.out.size
      go_wp2_with (at_builtin; refine wpList_append_own _ rfl _ _ 29 rfl w.heap.size 9 i0 (.string ⟨#[]⟩) 1 16 Try.underlying29 hi0 hz0 hz1 hz2 rfl (by decide) _ _ _ rfl (hown.alloc _) ⟨w1.heap.size, 0, none⟩ 1 1 [.string s] rfl rfl (one_cell _ _ _) (str_oneCell _) (by unfold maxLen; omega) (by omega) (by simp; omega) ?_; intro v' w2 hown' hg _; have R := app_str HB.out hsz1 hown hown' hg; obtain ⟨g', cap', rfl⟩ := own_form hown'; have HR1 := Lib.hid R.1; have HR2 := Lib.hid R.2; clear hown' hg hown hsz1 R)
      go_ret
      exact ⟨_, rfl, by rw [HD.out]; exact HR1.out, HR2.out⟩
theorem StsPost.nil {w w' : World} {l : List ByteArray} (hl : l = []) (hb : Below w.heap.size w w') : StsPost l w (.returned (.slice none 0 0)) w' := by
  subst hl
  exact ⟨_, rfl, World.ownsRow_nil _ _ _ _, hb⟩
theorem StsPost.empty {w w1 : World} {l : List ByteArray} (hl : l = []) (hb : Below w.heap.size w w1) : StsPost l w (.returned (.slice (some ⟨w1.heap.size, 0, none⟩) 0 0)) (w1.alloc (.cells #[] 9)) := by
  subst hl
  exact ⟨_, rfl, World.ownsRow_lit (base := w.heap.size) (e := 9) (size := 1) w1 #[] 0 hb.size (Nat.zero_le _) rfl, hb.alloc hb.size _⟩
set_option maxHeartbeats 2000000 in
theorem specDumpOf_any (rs : List Rt) (v : Value) (w : World) (h : RtsAt w v rs) (hm : rs.length ≤ 1048576) :
    Calls Try.prog 43 #[v] w (StsPost (dumpL rs) w) := by
  by_cases hn : rs.length ≤ 60
  · have HD := Lib.hid (fun (hr : ∀ r ∈ rs, r.right = true) (W' : World) (hb : Below w.heap.size w W') => specDumpIn_any rs v W' (h.kept hb) hn hr)
    have HL : Hid ((∀ r ∈ rs, r.right = true) → dumpL rs = notesL rs ++ [ntBytes 3 zeroRt]) := Lib.hid (fun hr => by unfold dumpL; rw [if_pos ⟨hn, hr⟩])
    have HW : Hid (∀ k (h : k < rs.length), rs[k].right = false → dumpL rs = []) := Lib.hid (fun k h hr => dump_wrong h hr)
    generalize dumpL rs = D at *
    obtain ⟨a, cap, rfl, h⟩ := h
    rw [List.length_map] at *
    have HH := Lib.hid h
    clear h
    obtain ⟨n, hnn⟩ : ∃ n, n = rs.length := ⟨_, rfl⟩
    rw [← hnn] at hn HD ⊢
    have HN := Lib.hid hnn
    clear hnn hm
    have hg : ¬ (60 : Int) < (n : Int) := by omega
    go_enter Try.func43, Try.ntmps43
    go_wp2_with fail
    go_loopw [3] (fun u wr => ∃ k : Nat, k ≤ n ∧ u = .int .i64 (k : Int) ∧ Hid (∀ r ∈ rs.take k, r.right = true) ∧ Hid (Below w.heap.size w wr)) (fun u _ => n - (intOf u).toNat)
    case atStart => exact ⟨0, Nat.zero_le _, rfl, Lib.hid (fun r hr => by simp at hr), Lib.hid (Below.refl _ _)⟩
    case round =>
      obtain ⟨k, hk, rfl, HT, HB⟩ := hrel
      by_cases hlt : k < n
      · have hir : k < rs.length := by rw [← HN.out]; exact hlt
        have hne : rs.map Rt.cl ≠ [] := fun e => by
          have := congrArg List.length e
          rw [List.length_map, ← HN.out] at this
          simp at this; omega
        obtain ⟨b, off, ha, hb, HE⟩ := HH.out hne
        subst ha
        have hl1 : (k : Int) < n := by omega
        obtain ⟨p0, p1, p2, p3, p4, p5, p6⟩ := (HE.below HB.out hb).rt k hir
        have HQ := Lib.hid (specRight_any rs[k])
        clear HE
        cases hr : rs[k].right
        · have HR := Lib.hid (HW.out k hir hr)
          rw [hr] at HQ
          clear hr
          unfold Rt.val rtV at HQ
          go_wp2_with fail
          refine (HQ.out _).mono ?_
          rintro x w1 ⟨rfl, hb1⟩
          replace HB : Hid (Below w.heap.size w w1) := Lib.hid (HB.out.trans (hb1.mono HB.out.size))
          clear hb1 p0 p1 p2 p3 p4 p5 p6
          go_wp2_with fail
          go_ret
          exact StsPost.empty HR.out HB.out
        · have HT2 : Hid (∀ r ∈ rs.take (k + 1), r.right = true) := Lib.hid (fun r h2 => by
            rw [List.take_succ_eq_append_getElem hir, List.mem_append, List.mem_singleton] at h2
            rcases h2 with h2 | rfl
            · exact HT.out r h2
            · exact hr)
          rw [hr] at HQ
          clear hr
          unfold Rt.val rtV at HQ
          go_wp2_with fail
          refine (HQ.out _).mono ?_
          rintro x w1 ⟨rfl, hb1⟩
          replace HB : Hid (Below w.heap.size w w1) := Lib.hid (HB.out.trans (hb1.mono HB.out.size))
          clear hb1 p0 p1 p2 p3 p4 p5 p6
          go_wp2_with fail
          go_roundw
          case rel => exact ⟨k + 1, by omega, by simp, HT2, HB⟩
          case measure => simp [intOf]; omega
      · have hin : k = n := by omega
        subst hin
        rw [List.take_of_length_le (by rw [HN.out]; exact Nat.le_refl _)] at HT
        have HQ := Lib.hid (HD.out HT.out)
        have HR := Lib.hid (HL.out HT.out)
        go_wp2_with fail
        refine (HQ.out _ HB.out).mono ?_
        rintro x w1 ⟨u, rfl, ho, hb1⟩
        have HO := Lib.hid (own_mono ho HB.out.size)
        replace HB : Hid (Below w.heap.size w w1) := Lib.hid (HB.out.trans (hb1.mono HB.out.size))
        clear hb1 ho
        go_wp2_with fail
        go_ret
        exact ⟨_, rfl, by rw [HR.out]; exact HO.out, HB.out⟩
  · have HR := Lib.hid (dump_long hn)
    obtain ⟨a, cap, rfl, h⟩ := h
    clear h
    rw [List.length_map]
    have hg : (60 : Int) < (rs.length : Int) := by omega
    go_enter Try.func43, Try.ntmps43
    go_wp2_with fail
    go_ret
    exact StsPost.empty HR.out (Below.refl _ _)
set_option maxHeartbeats 2000000 in
theorem implDumpOf_any (rs : List Rt) (v : Value) (w : World) (h : RtsAt w v rs) (hm : rs.length ≤ 1048576) :
    Calls Try.prog 45 #[v] w (StsPost (dumpL rs) w) := by
  obtain ⟨i0, hi0, hz0, hz1, hz2⟩ := info_parts info_str
  by_cases hn : rs.length ≤ 60
  · have H3 := Lib.hid (implNoteBytes_any 3 zeroRt)
    have HL : Hid ((∀ r ∈ rs, r.right = true) → dumpL rs = notesL rs ++ [ntBytes 3 zeroRt]) := Lib.hid (fun hr => by unfold dumpL; rw [if_pos ⟨hn, hr⟩])
    have HW : Hid (∀ k (h : k < rs.length), rs[k].right = false → dumpL rs = []) := Lib.hid (fun k h hr => dump_wrong h hr)
    generalize dumpL rs = D at *
    generalize ntBytes 3 zeroRt = s3 at *
    unfold ntV zeroRt at H3
    obtain ⟨a, cap, rfl, h⟩ := h
    rw [List.length_map] at *
    have HH := Lib.hid h
    clear h
    obtain ⟨n, hnn⟩ : ∃ n, n = rs.length := ⟨_, rfl⟩
    rw [← hnn] at hn ⊢
    have HN := Lib.hid hnn
    clear hnn hm
    have hg : ¬ (60 : Int) < (n : Int) := by omega
    go_enter Try.func45, Try.ntmps45
    go_wp2_with fail
    go_loopw [11, 3, 5] (fun u y _ wr => ∃ k : Nat, k ≤ n ∧ u = .int .i64 (k : Int) ∧ Hid (∀ r ∈ rs.take k, r.right = true) ∧ Hid (wr.ownsRow w.heap.size 9 1 y (notesL (rs.take k)).length (strsV (notesL (rs.take k)))) ∧ Hid (Below w.heap.size w wr)) (fun u _ _ _ => n - (intOf u).toNat)
    case atStart => exact ⟨0, Nat.zero_le _, rfl, Lib.hid (fun r hr => by simp at hr), Lib.hid (World.ownsRow_nil _ _ _ _), Lib.hid (Below.refl _ _)⟩
    case round =>
      obtain ⟨k, hk, rfl, HT, HO, HB⟩ := hrel
      have hlen := notes_len rs k
      by_cases hlt : k < n
      · have hir : k < rs.length := by rw [← HN.out]; exact hlt
        have hne : rs.map Rt.cl ≠ [] := fun e => by
          have := congrArg List.length e
          rw [List.length_map, ← HN.out] at this
          simp at this; omega
        obtain ⟨b, off, ha, hb, HE⟩ := HH.out hne
        subst ha
        have hl1 : (k : Int) < n := by omega
        obtain ⟨p0, p1, p2, p3, p4, p5, p6⟩ := (HE.below HB.out hb).rt k hir
        have HQ := Lib.hid (implRight_any rs[k])
        have HNB := Lib.hid (implNoteBytes_any 1 rs[k])
        have HTK := Lib.hid (notes_take rs k hir)
        have HTR : Hid (rs[k].right = true → ∀ r ∈ rs.take (k + 1), r.right = true) := Lib.hid (fun hr r h2 => by
          rw [List.take_succ_eq_append_getElem hir, List.mem_append, List.mem_singleton] at h2
          rcases h2 with h2 | rfl
          · exact HT.out r h2
          · exact hr)
        have HWK := Lib.hid (HW.out k hir)
        clear HE
        generalize ntBytes 1 rs[k] = s at HNB HTK
        generalize notesL (rs.take k) = pre at HO HTK hlen
        unfold ntV at HNB
        unfold Rt.val rtV at HQ
        generalize rs[k] = r at *
        go_upto_region 7 with fail
        obtain ⟨W1, hW1⟩ : ∃ X, X = wr.alloc (.cells #[.int .i64 r.kind, .int .i64 r.vni, .int .i64 r.mac, .int .i64 r.ip, .int .i64 r.org, .int .i64 r.seq, .bool r.st] 69) := ⟨_, rfl⟩
        obtain ⟨q, hq⟩ : ∃ q, q = wr.heap.size := ⟨_, rfl⟩
        rw [← hW1, ← hq]
        have X : Blk W1 q 69 #[.int .i64 r.kind, .int .i64 r.vni, .int .i64 r.mac, .int .i64 r.ip, .int .i64 r.org, .int .i64 r.seq, .bool r.st] := by subst hW1 hq; exact Blk.new _ _ _
        replace HO : Hid (W1.ownsRow w.heap.size 9 1 _ pre.length (strsV pre)) := Lib.hid (by subst hW1; exact HO.out.alloc _)
        replace HB : Hid (Below w.heap.size w W1) := Lib.hid (by subst hW1; exact HB.out.alloc HB.out.size _)
        clear hW1 hq p0 p1 p2 p3 p4 p5 p6
        have hc := X.cell
        go_wp2_with fail
        refine (HQ.out _).mono ?_
        rintro x w1 ⟨rfl, hb1⟩
        replace X := X.kept hb1
        replace HO := Lib.hid (own_below HO.out hb1)
        replace HB : Hid (Below w.heap.size w w1) := Lib.hid (HB.out.trans (hb1.mono HB.out.size))
        clear hb1 hc HQ
        cases hr : r.right
        · have HR := Lib.hid (HWK.out hr)
          clear hr
          go_wp2_with fail
          go_ret
          exact StsPost.nil HR.out HB.out
        · have HT2 := Lib.hid (HTR.out hr)
          clear hr HTR HWK
          have hc := X.cell
          go_wp2_with fail
          refine (HNB.out _).mono ?_
          rintro x w9 ⟨rfl, hb1⟩
          obtain ⟨w1, hw1⟩ : ∃ w1, w1 = w9 := ⟨_, rfl⟩
          rw [← hw1] at hb1 ⊢
          clear hw1
          have hown := own_below HO.out hb1
          replace HB : Hid (Below w.heap.size w w1) := Lib.hid (HB.out.trans (hb1.mono HB.out.size))
          clear hb1 HO hc X
          have hsz1 := HB.out.size
          go_wp2_with (at_builtin; refine wpList_append_own _ rfl _ _ 29 rfl w.heap.size 9 i0 (.string ⟨#[]⟩) 1 16 Try.underlying29 hi0 hz0 hz1 hz2 rfl (by decide) _ _ _ rfl (hown.alloc _) ⟨w1.heap.size, 0, none⟩ 1 1 [.string s] rfl rfl (one_cell _ _ _) (str_oneCell _) (by unfold maxLen; omega) (by omega) (by simp; omega) ?_; intro v' w2 hown' hg _; have R := app_str HB.out hsz1 hown hown' hg; obtain ⟨g', cap', rfl⟩ := own_form hown'; have HR1 := Lib.hid R.1; have HR2 := Lib.hid R.2; clear hown' hg hown hsz1 R)
          go_roundw
          case rel => exact ⟨k + 1, by omega, by simp, HT2, by rw [HTK.out]; exact HR1, HR2⟩
          case measure => simp [intOf]; omega
      · have hin : k = n := by omega
        subst hin
        rw [List.take_of_length_le (by rw [HN.out]; exact Nat.le_refl _)] at HT HO hlen
        have HR := Lib.hid (HL.out HT.out)
        generalize notesL rs = pre at HO hlen HR
        obtain ⟨s, hs⟩ : ∃ s, s = s3 := ⟨_, rfl⟩
        rw [← hs] at H3 HR
        clear hs
        go_wp2_with fail
        refine (H3.out _).mono ?_
        rintro x w1 ⟨rfl, hb1⟩
        have hown := own_below HO.out hb1
        replace HB : Hid (Below w.heap.size w w1) := Lib.hid (HB.out.trans (hb1.mono HB.out.size))
        clear hb1 HO
        have hsz1 := HB.out.size
        go_wp2_with (at_builtin; refine wpList_append_own _ rfl _ _ 29 rfl w.heap.size 9 i0 (.string ⟨#[]⟩) 1 16 Try.underlying29 hi0 hz0 hz1 hz2 rfl (by decide) _ _ _ rfl (hown.alloc _) ⟨w1.heap.size, 0, none⟩ 1 1 [.string s] rfl rfl (one_cell _ _ _) (str_oneCell _) (by unfold maxLen; omega) (by omega) (by simp; omega) ?_; intro v' w2 hown' hg _; have R := app_str HB.out hsz1 hown hown' hg; obtain ⟨g', cap', rfl⟩ := own_form hown'; have HR1 := Lib.hid R.1; have HR2 := Lib.hid R.2; clear hown' hg hown hsz1 R)
        go_ret
        exact ⟨_, rfl, by rw [HR.out]; exact HR1.out, HR2.out⟩
  · have HR := Lib.hid (dump_long hn)
    obtain ⟨a, cap, rfl, h⟩ := h
    clear h
    rw [List.length_map]
    have hg : (60 : Int) < (rs.length : Int) := by omega
    go_enter Try.func45, Try.ntmps45
    go_wp2_with fail
    go_ret
    exact StsPost.nil HR.out (Below.refl _ _)
end Go.Proofs.Ytfmhccmaeonbhaa
