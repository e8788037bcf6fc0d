/- The program's RouteRight; two routes held equal. -/
import Derived.Test.YthhodnkcaefnnaaRtQ
namespace Go.Proofs.Ythhodnkcaefnnaa
open Go.RowKit

theorem rt_stood : Try.prog.stoodInHeld 25 = false := by kernel_rfl
theorem rt_equal (k v m i o s k' v' m' i' o' s' : Int) (t t' : Bool) (w : World) :
    (Op.equalIn 10000 25 (.agg #[.int .i64 k, .int .i64 v, .int .i64 m, .int .i64 i, .int .i64 o, .int .i64 s, .bool t]) (.agg #[.int .i64 k', .int .i64 v', .int .i64 m', .int .i64 i', .int .i64 o', .int .i64 s', .bool t'])).run Try.prog w =
      .ok (decide (k = k' ∧ v = v' ∧ m = m' ∧ i = i' ∧ o = o' ∧ s = s' ∧ t = t')) w := by
  have hf : Try.prog.underlying 25 = some (.struct (Try.prog.fieldsOf 25)) := by unfold Program.fieldsOf; rw [Try.underlying25]
  rw [run_equalIn_struct w 9999 25 _ _ hf rt_stood]
  simp only [Program.fieldsOf, Try.underlying25, Op.eqFields, Sem.run_bind, Sem.run_ite, part, isAgg, run_underlying Try.underlying2, run_underlying Try.underlying4]
  by_cases h1 : k = k'
  by_cases h2 : v = v'
  by_cases h3 : m = m'
  by_cases h4 : i = i'
  by_cases h5 : o = o'
  by_cases h6 : s = s'
  all_goals simp [*, run_equalIn_int w _ 2 .i64 .i64 _ _ Try.underlying2, run_equalIn_bool w _ 4 _ _ Try.underlying4]
  by_cases h7 : t = t' <;> simp [h7]

/- the ways through the program's RouteRight -/
inductive RtWayI (k v m i o s : Int) (t : Bool) : Prop
  | vni (h1 : isVni v = false) (hr : Hid (rtRight k v m i o s t = false))
  | house (h1 : isVni v = true) (h2 : isHouse o = false) (hr : Hid (rtRight k v m i o s t = false))
  | kind (h1 : isVni v = true) (h2 : isHouse o = true) (h3 : ¬ k = 2) (h4 : ¬ k = 3) (hr : Hid (rtRight k v m i o s t = false))
  | single (h1 : isVni v = true) (h2 : isHouse o = true) (h3 : k = 2) (h4 : (isMac m && !isGroup m) = false) (hr : Hid (rtRight k v m i o s t = false))
  | ip (h1 : isVni v = true) (h2 : isHouse o = true) (h3 : k = 2) (h4 : (isMac m && !isGroup m) = true) (h6 : isIp i = false) (hr : Hid (rtRight k v m i o s t = false))
  | time (h1 : isVni v = true) (h2 : isHouse o = true) (h3 : k = 2) (h4 : (isMac m && !isGroup m) = true) (h6 : isIp i = true) (hr : Hid (rtRight k v m i o s t = isTime s))
  | room (h1 : isVni v = true) (h2 : isHouse o = true) (h3 : k = 3) (hr : Hid (rtRight k v m i o s t = (decide (m = 0) && (decide (i = 0) && (decide (s = 0) && !t)))))
theorem rt_wayI (k v m i o s : Int) (t : Bool) : RtWayI k v m i o s t := by
  cases h1 : isVni v
  · exact .vni h1 (Lib.hid (by rw [rtRight, h1]; rfl))
  cases h2 : isHouse o
  · exact .house h1 h2 (Lib.hid (by rw [rtRight, h1, h2]; rfl))
  by_cases h3 : k = 2
  · have e : rtRight k v m i o s t = macRight m i s := by rw [rtRight, h1, h2, if_pos h3]; rfl
    cases h4 : (isMac m && !isGroup m)
    · exact .single h1 h2 h3 h4 (Lib.hid (by rw [e, macRight, h4]; rfl))
    · cases h6 : isIp i
      · exact .ip h1 h2 h3 h4 h6 (Lib.hid (by rw [e, macRight, h4, h6]; rfl))
      · exact .time h1 h2 h3 h4 h6 (Lib.hid (by rw [e, macRight, h4, h6]; rfl))
  by_cases h4 : k = 3
  · have e : rtRight k v m i o s t = roomRight m i s t := by rw [rtRight, h1, h2, if_neg h3, if_pos h4]; rfl
    exact .room h1 h2 h4 (Lib.hid (by rw [e, roomRight, Bool.and_assoc, Bool.and_assoc]))
  · exact .kind h1 h2 h3 h4 (Lib.hid (by rw [rtRight, h1, h2, if_neg h3, if_neg h4]; rfl))

set_option maxHeartbeats 2000000 in
theorem implRouteRight_any (k v m i o s : Int) (t : Bool) (w : World) :
    Calls Try.prog 10 #[rtV k v m i o s t] w fun e w' => e = .returned (.bool (rtRight k v m i o s t)) ∧ Below w.heap.size w w' := by
  have hq := rt_equal 3 v m i o s 3 v 0 0 o 0 t false
  simp only [true_and] at hq
  have hw := rt_wayI k v m i o s t
  unfold rtV
  rcases hw with ⟨h1, hr⟩ | ⟨h1, h2, hr⟩ | ⟨h1, h2, h3, h4, hr⟩ | ⟨h1, h2, h3, h4, hr⟩ | ⟨h1, h2, h3, h4, h6, hr⟩ | ⟨h1, h2, h3, h4, h6, hr⟩ | ⟨h1, h2, h3, hr⟩
  all_goals
    go_enter Try.func10, Try.ntmps10
    go_wp2_with (first | (go_at_call 28; refine (implVni_any _ _).mono ?_; rintro e w' ⟨rfl, rfl⟩) | (go_at_call 29; refine (implHouse_any _ _).mono ?_; rintro e w' ⟨rfl, rfl⟩) | (go_at_call 32; refine (implTime_any _ _).mono ?_; rintro e w' ⟨rfl, rfl⟩) | (go_at_call 31; refine (implIp_any _ _).mono ?_; rintro e w' ⟨rfl, rfl⟩) | (go_at_call 30; refine (implSingle_any _ _).mono ?_; rintro e w1 ⟨rfl, hb1⟩; have hc : ∀ o, w1.cell? ⟨w.heap.size, o, none⟩ = _ := fun o => hb1.cell (p := ⟨w.heap.size, o, none⟩) (by simp); have HB : Hid (Below w.heap.size w w1) := Lib.hid (((Below.refl _ _).alloc (Nat.le_refl _) _).trans (hb1.mono (by simp))); clear hb1))
    go_ret
    refine ⟨bool_ret hr.out.symm, ?_⟩
    first | exact HB.out | go_grown
end Go.Proofs.Ythhodnkcaefnnaa
