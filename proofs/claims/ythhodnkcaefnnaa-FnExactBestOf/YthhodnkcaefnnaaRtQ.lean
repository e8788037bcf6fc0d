/- RouteRight, of the model and of the program; two routes held equal. -/
import Derived.Test.YthhodnkcaefnnaaRtP
import Derived.Laws.StructEq
namespace Go.Proofs.Ythhodnkcaefnnaa
open Go.RowKit

theorem specGroup_b (n : Int) (w : World) : Calls Try.prog 26 #[.int .i64 n] w fun e w' => e = .returned (.bool (isGroup n)) ∧ w = w' := specIsGroup_any n w
/- the ways through RouteRight -/
inductive RtWay (k v m i o s : Int) (t : Bool) : Prop
  | vni (h1 : isVni v = false) (hr : Hid (rtRight k v m i o s t = false))
  | house (h1 : isVni v = true) (h2 : isHouse o = false) (hr : Hid (rtRight k v m i o s t = false))
  | kind (h1 : isVni v = true) (h2 : isHouse o = true) (h3 : ¬ k = 2) (h4 : ¬ k = 3) (hr : Hid (rtRight k v m i o s t = false))
  | mac (h1 : isVni v = true) (h2 : isHouse o = true) (h3 : k = 2) (h4 : isMac m = false) (hr : Hid (rtRight k v m i o s t = false))
  | group (h1 : isVni v = true) (h2 : isHouse o = true) (h3 : k = 2) (h4 : isMac m = true) (h5 : isGroup m = true) (hr : Hid (rtRight k v m i o s t = false))
  | ip (h1 : isVni v = true) (h2 : isHouse o = true) (h3 : k = 2) (h4 : isMac m = true) (h5 : isGroup m = false) (h6 : isIp i = false) (hr : Hid (rtRight k v m i o s t = false))
  | time (h1 : isVni v = true) (h2 : isHouse o = true) (h3 : k = 2) (h4 : isMac m = true) (h5 : isGroup m = false) (h6 : isIp i = true) (hr : Hid (rtRight k v m i o s t = isTime s))
  | rmac (h1 : isVni v = true) (h2 : isHouse o = true) (h3 : k = 3) (h4 : ¬ m = 0) (hr : Hid (rtRight k v m i o s t = false))
  | rip (h1 : isVni v = true) (h2 : isHouse o = true) (h3 : k = 3) (h4 : m = 0) (h5 : ¬ i = 0) (hr : Hid (rtRight k v m i o s t = false))
  | rseq (h1 : isVni v = true) (h2 : isHouse o = true) (h3 : k = 3) (h4 : m = 0) (h5 : i = 0) (h6 : ¬ s = 0) (hr : Hid (rtRight k v m i o s t = false))
  | rst (h1 : isVni v = true) (h2 : isHouse o = true) (h3 : k = 3) (h4 : m = 0) (h5 : i = 0) (h6 : s = 0) (hr : Hid (rtRight k v m i o s t = !t))
theorem rt_way (k v m i o s : Int) (t : Bool) : RtWay k v m i o s t := by
  cases h1 : isVni v
  · exact .vni h1 (Lib.hid (by rw [rtRight, h1]; rfl))
  cases h2 : isHouse o
  · exact .house h1 h2 (Lib.hid (by rw [rtRight, h1, h2]; rfl))
  by_cases h3 : k = 2
  · have e : rtRight k v m i o s t = macRight m i s := by rw [rtRight, h1, h2, if_pos h3]; rfl
    cases h4 : isMac m
    · exact .mac h1 h2 h3 h4 (Lib.hid (by rw [e, macRight, h4]; rfl))
    cases h5 : isGroup m
    · cases h6 : isIp i
      · exact .ip h1 h2 h3 h4 h5 h6 (Lib.hid (by rw [e, macRight, h4, h5, h6]; rfl))
      · exact .time h1 h2 h3 h4 h5 h6 (Lib.hid (by rw [e, macRight, h4, h5, h6]; rfl))
    · exact .group h1 h2 h3 h4 h5 (Lib.hid (by rw [e, macRight, h4, h5]; rfl))
  by_cases h4 : k = 3
  · have e : rtRight k v m i o s t = roomRight m i s t := by rw [rtRight, h1, h2, if_neg h3, if_pos h4]; rfl
    by_cases h5 : m = 0
    · by_cases h6 : i = 0
      · by_cases h7 : s = 0
        · exact .rst h1 h2 h4 h5 h6 h7 (Lib.hid (by rw [e, roomRight, decide_eq_true h5, decide_eq_true h6, decide_eq_true h7]; rfl))
        · exact .rseq h1 h2 h4 h5 h6 h7 (Lib.hid (by rw [e, roomRight, decide_eq_true h5, decide_eq_true h6, decide_eq_false h7]; rfl))
      · exact .rip h1 h2 h4 h5 h6 (Lib.hid (by rw [e, roomRight, decide_eq_true h5, decide_eq_false h6]; rfl))
    · exact .rmac h1 h2 h4 h5 (Lib.hid (by rw [e, roomRight, decide_eq_false h5]; rfl))
  · exact .kind h1 h2 h3 h4 (Lib.hid (by rw [rtRight, h1, h2, if_neg h3, if_neg h4]; rfl))

set_option maxHeartbeats 1000000 in
theorem specRouteRight_any (k v m i o s : Int) (t : Bool) (w : World) :
    Calls Try.prog 8 #[rtV k v m i o s t] w fun e w' => e = .returned (.bool (rtRight k v m i o s t)) ∧ Below w.heap.size w w' := by
  have hw := rt_way k v m i o s t
  unfold rtV
  rcases hw with ⟨h1, hr⟩ | ⟨h1, h2, hr⟩ | ⟨h1, h2, h3, h4, hr⟩ | ⟨h1, h2, h3, h4, hr⟩ | ⟨h1, h2, h3, h4, h5, hr⟩ | ⟨h1, h2, h3, h4, h5, h6, hr⟩ | ⟨h1, h2, h3, h4, h5, h6, hr⟩ | ⟨h1, h2, h3, h4, hr⟩ | ⟨h1, h2, h3, h4, h5, hr⟩ | ⟨h1, h2, h3, h4, h5, h6, hr⟩ | ⟨h1, h2, h3, h4, h5, h6, hr⟩
  all_goals
    try unfold isHouse at h2
    try unfold isTime at hr
    go_enter Try.func8, Try.ntmps8
    go_wp2_with (first | (go_at_call 23; refine (specVni_any _ _).mono ?_; rintro e w' ⟨rfl, rfl⟩) | (go_at_call 24; refine (specIs_any _ _ _ _).mono ?_; rintro e w' ⟨rfl, rfl⟩) | (go_at_call 25; refine (specMac_any _ _).mono ?_; rintro e w' ⟨rfl, rfl⟩) | (go_at_call 26; refine (specGroup_b _ _).mono ?_; rintro e w' ⟨rfl, rfl⟩) | (go_at_call 27; refine (specIp_any _ _).mono ?_; rintro e w' ⟨rfl, rfl⟩))
    go_ret
    refine ⟨bool_ret hr.out.symm, ?_⟩
    go_grown
end Go.Proofs.Ythhodnkcaefnnaa
