





/- Texts cut, held against one another and gone over, told as one wishes. No statement of the seat is proved here. -/
import Derived.Test.YtjecckmcjcikdaaDoorStr
namespace Go.Proofs.YtjecckmcjcikdaaDoor
open Go.ChangeShapes Go.WideShapes Go.ChangeAt Go.RowKit
set_option linter.unusedVariables false
set_option linter.unusedSimpArgs false
section
variable {P : Program} {C : World → Prop} {tp : TypeId} {pos : String} {af : Array Edge} {gd : Option (Nat × Bool)} {ls : List Value} {ds : List Deferred} {c : Bool} {dd : Option Tmp} {t ty ty' : TypeId} {x y z : Operand} {ns ms r : List Int}
theorem t_takeE (ht : P.underlying t = some .string) {q : IntKind} {i : Int} {k : Nat} (hx : EvC ls c x (.string (strOfNums ns))) (hy : EvC ls c y (.int q i)) (hi : i = k) (hk : k ≤ ns.length) (hr : ns.take k = r) :
    TIf P C c ⟨dd, .slice t x none (some y) none, tp, pos, af, gd⟩ ⟨ls.toArray, ds⟩ (.string (strOfNums r)) := hr ▸ t_takeN ht hx hy hi hk
theorem t_dropE (ht : P.underlying t = some .string) {q : IntKind} {i : Int} {k : Nat} (hx : EvC ls c x (.string (strOfNums ns))) (hy : EvC ls c y (.int q i)) (hi : i = k) (hk : k ≤ ns.length) (hr : ns.drop k = r) :
    TIf P C c ⟨dd, .slice t x (some y) none none, tp, pos, af, gd⟩ ⟨ls.toArray, ds⟩ (.string (strOfNums r)) := hr ▸ t_dropN ht hx hy hi hk
theorem t_eqE {b : Bool} (ha : bytesOk ns) (hb : bytesOk ms) (hx : EvC ls c x (.string (strOfNums ns))) (hy : EvC ls c y (.string (strOfNums ms))) (hd : decide (ns = ms) = b) : TIf P C c ⟨dd, .binOp .eql ty x y ty', tp, pos, af, gd⟩ ⟨ls.toArray, ds⟩ (.bool b) := hd ▸ t_eqN ha hb hx hy
/-- A text's bytes from a place up to another one. -/
theorem t_midE (ht : P.underlying t = some .string) {q q' : IntKind} {i j : Int} {a b : Nat} (hx : EvC ls c x (.string (strOfNums ns))) (hy : EvC ls c y (.int q i)) (hz : EvC ls c z (.int q' j)) (hi : i = a) (hj : j = b) (hab : a ≤ b) (hb : b ≤ ns.length) (hr : (ns.drop a).take (b - a) = r) :
    TIf P C c ⟨dd, .slice t x (some y) (some z) none, tp, pos, af, gd⟩ ⟨ls.toArray, ds⟩ (.string (strOfNums r)) := by
  subst hi hj hr
  refine ⟨fun e => .inl fun w _ => ?_⟩
  have k2 : (0 : Int) ≤ (a : Int) ∧ (a : Int) ≤ (b : Int) := ⟨by omega, by omega⟩
  have k3 : (0 : Int) ≤ (b : Int) ∧ (b : Int) ≤ ((strOfNums ns).size : Int) := ⟨by omega, by rw [strOf_len]; omega⟩
  have k4 : b ≤ (strOfNums ns).size := by rw [strOf_len]; omega
  have hbd : (Instr.sliceBounds false (strOfNums ns).size (strOfNums ns).size (some (.int q (a : Int))) (some (.int q' (b : Int))) none).run P w = .ok (a, b, (strOfNums ns).size) w := by
    simp [Instr.sliceBounds, Instr.sliceBound, asIntOf, k2, k3, k4]
    intro hc; omega
  have hr : (Instr.sliceAt t (.string (strOfNums ns)) (some (.int q (a : Int))) (some (.int q' (b : Int))) none).run P w = .ok (.string ((strOfNums ns).extract a b)) w := by
    simp [Instr.sliceAt, Instr.slice, run_underlying ht, hbd]
  rw [strOf_cut] at hr
  unfold execOp
  simp [eval_of (hx.of e), eval_of (hy.of e), eval_of (hz.of e), hr]
/-- A part of a tuple. -/
theorem t_extract {vs : Array Value} {i : Nat} {v : Value} (hx : EvC ls c x (.tuple vs)) (hi : vs[i]? = some v) : TIf P C c ⟨dd, .extract x i, tp, pos, af, gd⟩ ⟨ls.toArray, ds⟩ v := by
  refine ⟨fun e => .inl fun w _ => ?_⟩
  unfold execOp
  simp [eval_of (hx.of e), Instr.extract, hi]
end
end Go.Proofs.YtjecckmcjcikdaaDoor
