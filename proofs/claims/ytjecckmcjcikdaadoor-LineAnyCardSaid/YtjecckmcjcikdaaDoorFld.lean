/- A field's place in a struct that lies somewhere. No statement of the seat is proved here. -/
import Derived.Test.YtjecckmcjcikdaaDoorHand
namespace Go.Proofs.YtjecckmcjcikdaaDoor
open Go.ChangeShapes Go.WideShapes Go.ChangeAt Go.RowKit
set_option linter.unusedVariables false
set_option linter.unusedSimpArgs false

structure FieldAtA (P : Program) (s : TypeId) (k off : Nat) : Prop where
  of : ∀ (a : Addr) (w : World), (Instr.fieldAt s (.pointer (some a)) k).run P w = .ok (.pointer (some (a.add off))) w
theorem t_fieldA {P : Program} {C : World → Prop} {tp : TypeId} {pos : String} {af : Array Edge} {gd : Option (Nat × Bool)} {ls : List Value} {ds : List Deferred} {c : Bool} {dd : Option Tmp} {s : TypeId} {f off : Nat} {x : Operand} {a : Addr} (hf : FieldAtA P s f off) (hx : EvC ls c x (.pointer (some a))) :
    TIf P C c ⟨dd, .fieldAddr s x f, tp, pos, af, gd⟩ ⟨ls.toArray, ds⟩ (.pointer (some (a.add off))) := by
  refine ⟨fun e => .inl fun w _ => ?_⟩
  unfold execOp
  simp only [eval_of (hx.of e), Sem.run_bind, hf.of a w, Result.andThen_ok, Sem.run_pure]
end Go.Proofs.YtjecckmcjcikdaaDoor
