/- Where something is in memory, as plain arithmetic. No walk is here, and no statement of the seat is proved here. -/
import Derived.Test.YtenhcbaljjhhbaaDoorRegsV
import Derived.Test.YtenhcbaljjhhbaaDoorInst
namespace Go.Proofs.YtenhcbaljjhhbaaDoor
open Go Go.RowKit
set_option linter.unusedVariables false
set_option linter.unusedSimpArgs false

/-- Which registers count: BX is 3, BP 5, SI 6, DI 7; none: -1. -/
def baseA (rm : Int) : Int := if rm = 0 ∨ rm = 1 ∨ rm = 7 then 3 else if rm = 2 ∨ rm = 3 ∨ rm = 6 then 5 else if rm = 4 then 6 else if rm = 5 then 7 else -1
def baseB (rm : Int) : Int := if rm = 0 ∨ rm = 2 then 6 else if rm = 1 ∨ rm = 3 then 7 else -1
def gOf (r : RegsZ) (n : Int) : Int := bif decide (0 ≤ n) then r.g n.toNat else 0
def tOf (r : RegsZ) (n : Int) : Bool := decide (0 ≤ n) && r.h n.toNat
def offA (i : InstZ) : Int := bif i.rm == 6 && i.mod == 0 then -1 else baseA i.rm
def offB (i : InstZ) : Int := baseB i.rm
def offBad (i : InstZ) : Bool := ((i.mod == 3 || decide (i.mod < 0)) || decide (i.rm < 0)) || decide (7 < i.rm)
def offW (r : RegsZ) (i : InstZ) : Int := i.disp + gOf r (offA i) + gOf r (offB i)
def offV (r : RegsZ) (i : InstZ) : Int := bif offBad i then 0 else offW r i % 65536
def offT (r : RegsZ) (i : InstZ) : Bool := bif offBad i then true else !tOf r (offA i) && !tOf r (offB i)
/-- Which segment register counts. -/
def ssB (i : InstZ) : Bool := decide (i.mod < 3) && (((i.rm == 2) || (i.rm == 3)) || ((i.rm == 6) && decide (0 < i.mod)))
def defZ (i : InstZ) : Int := bif decide (0 < i.seg) then i.seg - 1 else bif ssB i then 2 else 3
def dirZ (i : InstZ) : Int := bif decide (0 < i.seg) then i.seg - 1 else 3
def placeOf (r : RegsZ) (n : Int) (off : Int) : PlaceZ := ⟨r.s n.toNat, r.u n.toNat, off⟩
theorem baseA_ways (rm : Int) : baseA rm = -1 ∨ baseA rm = 3 ∨ baseA rm = 5 ∨ baseA rm = 6 ∨ baseA rm = 7 := by
  unfold baseA; repeat' split
  all_goals omega
theorem offA_ways (i : InstZ) : offA i = -1 ∨ offA i = 3 ∨ offA i = 5 ∨ offA i = 6 ∨ offA i = 7 := by
  unfold offA
  cases i.rm == 6 && i.mod == 0
  · exact baseA_ways _
  · exact .inl rfl
theorem offB_ways (i : InstZ) : offB i = -1 ∨ offB i = 6 ∨ offB i = 7 := by
  unfold offB baseB; repeat' split
  all_goals omega
theorem gOf_bd {r : RegsZ} (hr : r.ok) (n : Int) : 0 ≤ gOf r n ∧ gOf r n ≤ 65535 := by
  unfold gOf
  cases decide (0 ≤ n)
  · simp
  · exact hr.g _
theorem offW_bd {r : RegsZ} (hr : r.ok) {i : InstZ} (hi : i.ok) : 0 ≤ offW r i ∧ offW r i ≤ 196605 := by
  have h1 := gOf_bd hr (offA i)
  have h2 := gOf_bd hr (offB i)
  have h3 := hi.disp
  unfold offW; omega
theorem offV_mod (r : RegsZ) (i : InstZ) (h : 0 ≤ offW r i ∧ offW r i ≤ 196605) : offV r i = (bif offBad i then 0 else offW r i) % 65536 := by
  unfold offV; cases offBad i <;> rfl
theorem offV_bd (r : RegsZ) (i : InstZ) : 0 ≤ offV r i ∧ offV r i ≤ 65535 := by
  unfold offV; cases offBad i <;> simp only [cond_true, cond_false] <;> omega
theorem cut_bd {b : Bool} {z : Int} (h : 0 ≤ z ∧ z ≤ 196605) : 0 ≤ (bif b then 0 else z) ∧ (bif b then 0 else z) ≤ 196605 := by
  cases b <;> simp only [cond_true, cond_false] <;> omega
theorem def_bd (i : InstZ) (h : 0 ≤ i.seg ∧ i.seg ≤ 4) : 0 ≤ defZ i ∧ defZ i ≤ 3 := by
  unfold defZ
  by_cases e : 0 < i.seg
  · rw [decide_eq_true e]; show 0 ≤ i.seg - 1 ∧ i.seg - 1 ≤ 3; omega
  · rw [decide_eq_false e, cond_false]; cases ssB i
    · exact ⟨by decide, by decide⟩
    · exact ⟨by decide, by decide⟩
theorem dir_bd (i : InstZ) (h : 0 ≤ i.seg ∧ i.seg ≤ 4) : 0 ≤ dirZ i ∧ dirZ i ≤ 3 := by
  unfold dirZ
  by_cases e : 0 < i.seg
  · rw [decide_eq_true e]; show 0 ≤ i.seg - 1 ∧ i.seg - 1 ≤ 3; omega
  · rw [decide_eq_false e, cond_false]; exact ⟨by decide, by decide⟩
theorem cell_g (r : RegsZ) (k : Nat) (hk : k < 8) : (encRegs r).toList[k * 2]? = some (.int .u16 (r.g k)) := by
  match k, hk with
  | 0, _ => rfl
  | 1, _ => rfl
  | 2, _ => rfl
  | 3, _ => rfl
  | 4, _ => rfl
  | 5, _ => rfl
  | 6, _ => rfl
  | 7, _ => rfl
theorem cell_h (r : RegsZ) (k : Nat) (hk : k < 8) : (encRegs r).toList[k * 2 + 1]? = some (.bool (r.h k)) := by
  match k, hk with
  | 0, _ => rfl
  | 1, _ => rfl
  | 2, _ => rfl
  | 3, _ => rfl
  | 4, _ => rfl
  | 5, _ => rfl
  | 6, _ => rfl
  | 7, _ => rfl
end Go.Proofs.YtenhcbaljjhhbaaDoor
