/- A heap of held routes: which function a method of its pointer is. -/
import Derived.Test.YthdldanfmdnlfabHpQ
namespace Go.Proofs.Ythdldanfmdnlfab
open Go.RowKit

theorem method_val {P : Program} {t elem : TypeId} {A : Addr} {W : World} {v : Value} {f : FuncId} {i : TypeInfo} {m : _} {name : String} (fuel : Nat) (hi : P.info? t = some i) (hm : i.methods.find? (·.name == name) = some m) (hp : m.path = #[]) (hf : m.func = some (f, false))
    (hu : P.underlying t = some (.pointer elem)) (hl : (loadVar elem A).run P W = .ok v W) : (method (fuel + 1) t (.pointer (some A)) name).run P W = .ok (f, v) W := by
  have hu' := run_underlying hu
  have hw : ∀ (x y : String) (ts : Array TypeId) (ty : TypeId), Builtin.ssaWrapNilChk_ ts ty #[.pointer (some A), strVal x, strVal y] = pure (.pointer (some A)) := fun _ _ _ _ => rfl
  simp [method, typeInfo, hi, hm, hp, hf, follow, receiverAt, hw, hu', Place.get, Sem.run_bind, Result.andThen, asAddr, hl]
theorem under_php : Try.prog.underlying 118 = some (.pointer 116) := by kernel_rfl
theorem info_less : (Try.prog.info? 118).map (fun i => (i.methods.find? (·.name == "Less")).map fun m => (m.path, m.func)) = some (some (#[], some (185, false))) := by kernel_rfl
theorem info_swap : (Try.prog.info? 118).map (fun i => (i.methods.find? (·.name == "Swap")).map fun m => (m.path, m.func)) = some (some (#[], some (186, false))) := by kernel_rfl
theorem info_len : (Try.prog.info? 118).map (fun i => (i.methods.find? (·.name == "Len")).map fun m => (m.path, m.func)) = some (some (#[], some (107, false))) := by kernel_rfl
set_option maxRecDepth 100000 in
theorem hp_load {hb : Nat} {v : Value} {W : World} (h : W.cell? ⟨hb, 0, none⟩ = some v) : (loadVar 116 ⟨hb, 0, none⟩).run Try.prog W = .ok v W := by
  simp [loadVar, go_sem, h]
set_option maxRecDepth 100000 in
theorem method_of {f : FuncId} {hb : Nat} {v : Value} {W : World} {name : String} (fuel : Nat) (hi : (Try.prog.info? 118).map (fun i => (i.methods.find? (·.name == name)).map fun m => (m.path, m.func)) = some (some (#[], some (f, false)))) (h : W.cell? ⟨hb, 0, none⟩ = some v) :
    (method (fuel + 1) 118 (.pointer (some ⟨hb, 0, none⟩)) name).run Try.prog W = .ok (f, v) W := by
  obtain ⟨i, hi, hj⟩ := Option.map_eq_some_iff.1 hi
  obtain ⟨m, hm, hpf⟩ := Option.map_eq_some_iff.1 hj
  injection hpf with hp hf
  exact method_val fuel hi hm hp hf under_php (hp_load h)
theorem m_less {hb : Nat} {v : Value} {W : World} (h : W.cell? ⟨hb, 0, none⟩ = some v) : (method 301 118 (.pointer (some ⟨hb, 0, none⟩)) "Less").run Try.prog W = .ok (185, v) W := method_of _ info_less h
theorem m_swap {hb : Nat} {v : Value} {W : World} (h : W.cell? ⟨hb, 0, none⟩ = some v) : (method 301 118 (.pointer (some ⟨hb, 0, none⟩)) "Swap").run Try.prog W = .ok (186, v) W := method_of _ info_swap h
theorem m_len {hb : Nat} {v : Value} {W : World} (h : W.cell? ⟨hb, 0, none⟩ = some v) : (method 301 118 (.pointer (some ⟨hb, 0, none⟩)) "Len").run Try.prog W = .ok (107, v) W := method_of _ info_len h
end Go.Proofs.Ythdldanfmdnlfab
