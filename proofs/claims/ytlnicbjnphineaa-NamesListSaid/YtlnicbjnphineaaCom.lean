







/- Remarks as values. No statement of the seat is proved here. -/
import Derived.Test.YtlnicbjnphineaaRecT
import Derived.Test.YtlnicbjnphineaaStrs
import Derived.Test.YtlnicbjnphineaaNamM
import Derived.Test.YtlnicbjnphineaaSame
namespace Go.Proofs.Ytlnicbjnphineaa
open Go.ChangeShapes Go.WideShapes Go.ChangeAt Go.RowKit
set_option linter.unusedVariables false
set_option linter.unusedSimpArgs false

def zeroC : ComZ := ⟨0, 0, []⟩
theorem iCom : (Try.prog.info? 38).map (·.size) = some 3 := by kernel_rfl
theorem tCom : RowTy Try.prog 38 3 := .of Try.underlying38 rfl iCom
theorem zCom : ZeroTy Try.prog 38 (encCom ⟨0, 0, []⟩) := .of (by kernel_rfl)
theorem fCom (k : Nat) (h : k < 3) : FieldAt Try.prog 38 k k := by
  match k, h with
  | 0, _ => exact ⟨fun g w => by simp [go_sem, Instr.fieldAt, fieldPlace]⟩
  | 1, _ => exact ⟨fun g w => by simp [go_sem, Instr.fieldAt, fieldPlace]⟩
  | 2, _ => exact ⟨fun g w => by simp [go_sem, Instr.fieldAt, fieldPlace]⟩
theorem ext_com (c : ComZ) : ExtRel (encCom c) 0 3 (encCom c) := extract_all rfl
theorem put_com (c d : ComZ) : PutRel (encCom c) 0 (encCom d).toList (encCom d) := putList_all rfl
theorem put_text (c : ComZ) (t : List Int) : PutRel (encCom c) 2 [.string (strOfNums t)] (encCom ⟨c.a, c.b, t⟩) := ⟨rfl⟩
theorem one_com (c : ComZ) : (encCom c).all (·.oneCell') = true := by simp [encCom, Value.oneCell']
theorem cell_text {P : Program} {w : World} {r : Reach} {base : Nat} {u : TypeId} {c : Value} (hu : P.underlying u = some .string) (h : Cell.okWide P w r base u c) : ∃ s, c = .string s := by
  unfold Cell.okWide at h
  rw [hu] at h
  unfold Cell.ok at h
  rw [hu] at h
  cases c <;> simp only [] at h <;> first | exact h.elim | exact ⟨_, rfl⟩
theorem open_com {w : World} {base : Nat} {x : Value} (h : Value.okWide Try.prog w .any base 38 x) : ∃ c : ComZ, c.ok ∧ x = .agg (encCom c) := by
  obtain ⟨cs, rfl, hl, hc⟩ := open_flat (ts := [5, 5, 9]) Try.underlying38 rfl (by kernel_rfl) (by kernel_rfl) h
  match cs, hl with
  | [c0, c1, c2], _ =>
    obtain ⟨n0, rfl, b0⟩ := cell_int Try.underlying5 (hc 0 _ _ rfl rfl)
    obtain ⟨n1, rfl, b1⟩ := cell_int Try.underlying5 (hc 1 _ _ rfl rfl)
    obtain ⟨s, rfl⟩ := cell_text Try.underlying9 (hc 2 _ _ rfl rfl)
    have h0 := (show 0 ≤ n0 ∧ n0 ≤ 255 from b0)
    have h1 := (show 0 ≤ n1 ∧ n1 ≤ 255 from b1)
    exact ⟨⟨n0, n1, numsS s⟩, ⟨h0, h1, numsS_ok s⟩, by unfold encCom; rw [strOf_nums]⟩
theorem gCom : Try.prog.eqGuardType Try.prog.depth 38 = false := by kernel_rfl
theorem eqB_com (c : ComZ) : eqB Try.prog 9 38 (.agg (encCom c)) (.agg (encCom c)) = some true := by
  have h : eqB Try.prog 9 38 (.agg (encCom c)) (.agg (encCom c)) = some ((c.a == c.a) && ((c.b == c.b) && (((strOfNums c.t).toList == (strOfNums c.t).toList) && true))) := by kernel_rfl
  rw [h]; simp
end Go.Proofs.Ytlnicbjnphineaa
