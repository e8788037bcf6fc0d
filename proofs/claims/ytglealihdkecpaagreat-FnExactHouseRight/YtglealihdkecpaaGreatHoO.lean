/- A law's own house, opened; a house in memory. -/
import Derived.Test.YtglealihdkecpaaGreatHoM
import Derived.Test.YtglealihdkecpaaGreatHsS
import Derived.Test.YtglealihdkecpaaGreatHdO
namespace Go.Proofs.YtglealihdkecpaaGreat
open Go.RowKit Go.WideShapes Go.ChangeShapes

/- a house's lists where they lie -/
structure HoAt (W : World) (vd vp vr vg vw vf : Value) (h : Ho) : Prop where
  doors : SlAt W 1 vd (h.doors.map clI)
  pipes : PisAt W vp h.pipes
  rib : HdsAt W vr h.rib
  gus : GusAt W vg h.gus
  went : MvsAt W vw h.went
  froz : FzsAt W vf h.froz
theorem HoAt.kept {W W' : World} {vd vp vr vg vw vf : Value} {h : Ho} (x : HoAt W vd vp vr vg vw vf h) (hb : Below W.heap.size W W') : HoAt W' vd vp vr vg vw vf h :=
  ⟨x.doors.kept hb, x.pipes.kept hb, SlAt.kept x.rib hb, SlAt.kept x.gus hb, SlAt.kept x.went hb, SlAt.kept x.froz hb⟩
def hoV (h : Ho) (vd vp vr vg vw vf : Value) : Value := .agg #[.int .i64 h.id, .int .i64 h.now, .int .i64 h.ep, vd, vp, vr, vg, vw, vf]
/- no list of it is longer than a law asks -/
structure Ho.small (h : Ho) (n : Nat) : Prop where
  doors : h.doors.length ≤ n
  pipes : h.pipes.length ≤ n
  out : ∀ p ∈ h.pipes, p.l.length ≤ n
  rib : h.rib.length ≤ n
  gus : h.gus.length ≤ n
  went : h.went.length ≤ n
  froz : h.froz.length ≤ n
structure Ho.fits (h : Ho) : Prop where
  doors : h.doors.length ≤ maxLen
  pipes : h.pipes.length ≤ maxLen
  out : ∀ p ∈ h.pipes, ∀ s ∈ p.l, s.size ≤ maxLen
  rib : h.rib.length ≤ maxLen
  gus : h.gus.length ≤ maxLen
  went : h.went.length ≤ maxLen
  froz : h.froz.length ≤ maxLen
theorem cells_lhouse : Tryz.prog.cellsOf 29 = 9 := by kernel_rfl
theorem arr9 {cs : Array Value} {a0 a1 a2 a3 a4 a5 a6 a7 a8 : Value} (h : cs.size = 9) (e0 : cs.toList[0]? = some a0) (e1 : cs.toList[1]? = some a1) (e2 : cs.toList[2]? = some a2) (e3 : cs.toList[3]? = some a3) (e4 : cs.toList[4]? = some a4) (e5 : cs.toList[5]? = some a5) (e6 : cs.toList[6]? = some a6) (e7 : cs.toList[7]? = some a7) (e8 : cs.toList[8]? = some a8) : cs = #[a0, a1, a2, a3, a4, a5, a6, a7, a8] := by
  obtain ⟨cs⟩ := cs
  match cs, h with
  | [c0, c1, c2, c3, c4, c5, c6, c7, c8], _ => simp at e0 e1 e2 e3 e4 e5 e6 e7 e8; subst e0 e1 e2 e3 e4 e5 e6 e7 e8; rfl
theorem ints_of {H : Type} {enc : TypeId × Value → H} {w : World} {base : Nat} {sp : Nat → Bool} {held : Bool} (vs : List (List Value)) (h : ∀ cs ∈ vs, cs.length = 1 ∧ Reads enc Tryz.prog w base sp held 2 cs) : ∃ l : List Int, vs = l.map clI := by
  induction vs with
  | nil => exact ⟨[], rfl⟩
  | cons cs vs ih =>
    obtain ⟨l, hrs⟩ := ih (fun c hc => h c (by simp [hc]))
    obtain ⟨hl, hr⟩ := h cs (by simp)
    obtain ⟨c, rfl⟩ : ∃ c, cs = [c] := by
      match cs, hl with
      | [c], _ => exact ⟨c, rfl⟩
    obtain ⟨a0, e0, _⟩ := int_at (cs := [c]) (off := 0) Tryz.underlying2 cells_int (by rw [cells_int]; exact hr)
    simp at e0
    subst e0
    exact ⟨a0 :: l, by rw [hrs]; rfl⟩
theorem cells_sl : Tryz.prog.cellsOf 22 = 1 ∧ Tryz.prog.cellsOf 23 = 1 ∧ Tryz.prog.cellsOf 24 = 1 ∧ Tryz.prog.cellsOf 25 = 1 ∧ Tryz.prog.cellsOf 26 = 1 ∧ Tryz.prog.cellsOf 27 = 1 := by
  refine ⟨?_, ?_, ?_, ?_, ?_, ?_⟩ <;> kernel_rfl
set_option maxRecDepth 100000 in
theorem house_open {H : Type} {enc : TypeId × Value → H} {w : World} {base : Nat} {sp : Nat → Bool} {held : Bool} {r : Reach} {b0 : Nat} {v : Value} {d : DataW H} {p : List MemPlace} (o : Value.okWide Tryz.prog w r b0 29 v) (h : DataW.Trod enc Tryz.prog w base sp held 29 v d p) :
    ∃ (x : Ho) (vd vp vr vg vw vf : Value), v = hoV x vd vp vr vg vw vf ∧ HoAt w vd vp vr vg vw vf x ∧ x.fits := by
  obtain ⟨cs, rfl, hsz, hf⟩ := struct_open Tryz.underlying29 o h
  obtain ⟨s0, s1, s2, s3, s4, s5⟩ := cells_sl
  obtain ⟨a0, e0, _⟩ := int_at Tryz.underlying2 cells_int (hf 0 _ rfl)
  obtain ⟨a1, e1, _⟩ := int_at Tryz.underlying2 cells_int (hf 1 _ rfl)
  obtain ⟨a2, e2, _⟩ := int_at Tryz.underlying2 cells_int (hf 2 _ rfl)
  obtain ⟨vd, q3, e3, h3, m3, r3⟩ := slice_at 1 (by omega) Tryz.underlying22 cells_int s0 (hf 3 _ rfl)
  obtain ⟨vp, q4, e4, h4, m4, r4⟩ := slice_at 5 (by omega) Tryz.underlying23 cells_lpipe s1 (hf 4 _ rfl)
  obtain ⟨vr, q5, e5, h5, m5, r5⟩ := slice_at 9 (by omega) Tryz.underlying24 cells_held s2 (hf 5 _ rfl)
  obtain ⟨vg, q6, e6, h6, m6, r6⟩ := slice_at 7 (by omega) Tryz.underlying25 cells_guest s3 (hf 6 _ rfl)
  obtain ⟨vw, q7, e7, h7, m7, r7⟩ := slice_at 3 (by omega) Tryz.underlying26 cells_went s4 (hf 7 _ rfl)
  obtain ⟨vf, q8, e8, h8, m8, r8⟩ := slice_at 4 (by omega) Tryz.underlying27 cells_frozen s5 (hf 8 _ rfl)
  obtain ⟨l3, rfl⟩ := ints_of q3 r3
  obtain ⟨l4, rfl, ho4, hm4⟩ := pipes_of q4 r4
  obtain ⟨l5, rfl⟩ := hds_of q5 r5
  obtain ⟨l6, rfl⟩ := guests_of q6 r6
  obtain ⟨l7, rfl⟩ := wents_of q7 r7
  obtain ⟨l8, rfl⟩ := frozens_of q8 r8
  obtain rfl := arr9 (hsz.trans cells_lhouse) e0 e1 e2 e3 e4 e5 e6 e7 e8
  rw [List.length_map] at m3 m4 m5 m6 m7 m8
  exact ⟨⟨a0, a1, a2, l3, l4, l5, l6, l7, l8⟩, vd, vp, vr, vg, vw, vf, rfl, ⟨h3, ⟨h4, ho4⟩, h5, h6, h7, h8⟩, ⟨m3, m4, hm4, m5, m6, m7, m8⟩⟩
end Go.Proofs.YtglealihdkecpaaGreat
