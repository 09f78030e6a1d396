/- '==' of two instructions as one Bool. No statement of the seat is proved here. -/
import Derived.Test.YtnhlogameldkfaaText
import Derived.Test.YtnhlogameldkfaaOwn
namespace Go.Proofs.Ytnhlogameldkfaa
open Go.ChangeShapes Go.WideShapes Go.ChangeAt Go.RowKit
set_option linter.unusedVariables false
set_option linter.unusedSimpArgs false

def instEq (i k : InstZ) : Bool := (i.lock == k.lock) && ((i.rep == k.rep) && ((i.seg == k.seg) && ((i.op == k.op) && ((i.mod == k.mod) && ((i.reg == k.reg) && ((i.rm == k.rm) && ((i.disp == k.disp) && ((i.imm == k.imm) && ((i.sel == k.sel) && true)))))))))
theorem eqB_inst (i k : InstZ) : eqB Try.prog 9 24 (.agg (encI i)) (.agg (encI k)) = some (instEq i k) := by kernel_rfl
theorem instEq_iff (i k : InstZ) : instEq i k = true ↔ i = k := by
  unfold instEq
  constructor
  · intro h
    simp only [Bool.and_eq_true, beq_iff_eq, and_true] at h
    obtain ⟨a, b, c, d, e, f, g, x, y, z⟩ := h
    exact inst_ext a b c d e f g x y z
  · rintro rfl
    simp

/-- The bytes of an instruction, as numbers. -/
def lockN (i : InstZ) : List Int := bif i.lock then [240] else []
def repN (i : InstZ) : List Int := bif decide (0 < i.rep) then [241 + i.rep] else []
def segN (i : InstZ) : List Int := bif decide (0 < i.seg) then [30 + 8 * i.seg] else []
def twoN (x : Int) : List Int := [x % 256, x / 256]
def midN (i : InstZ) : List Int := bif i.row.m then midZ i :: (twoN i.disp).take (dispsZ i.mod i.rm).toNat else []
def immN (i : InstZ) : List Int := bif immsZ i.row == 1 then (twoN i.imm).take 1 else bif immsZ i.row == 2 then twoN i.imm else bif immsZ i.row == 4 then twoN i.imm ++ twoN i.sel else []
def putN (i : InstZ) : List Int := lockN i ++ repN i ++ segN i ++ [i.op] ++ midN i ++ immN i
theorem putN_cells (i : InstZ) : putL i = cellsB (putN i) := by
  unfold putL putN
  have e1 : lockV i = cellsB (lockN i) := by unfold lockV lockN; cases i.lock <;> rfl
  have e2 : repV i = cellsB (repN i) := by unfold repV repN; cases decide (0 < i.rep) <;> rfl
  have e3 : segV i = cellsB (segN i) := by unfold segV segN; cases decide (0 < i.seg) <;> rfl
  have e4 : ∀ x, twoV x = cellsB (twoN x) := fun _ => rfl
  have e5 : midV i = cellsB (midN i) := by
    unfold midV midN
    cases i.row.m
    · rfl
    · simp only [cond_true, e4]
      unfold cellsB
      rw [← List.map_take]
      rfl
  have e6 : immV i = cellsB (immN i) := by
    unfold immV immN
    cases immsZ i.row == 1 <;> cases immsZ i.row == 2 <;> cases immsZ i.row == 4 <;> rfl
  rw [e1, e2, e3, e5, e6]
  simp only [cellsB_append]
  rfl
theorem twoN_ok {x : Int} (h : 0 ≤ x ∧ x ≤ 65535) : bytesOk (twoN x) := by
  intro n hn
  simp only [twoN, List.mem_cons, List.not_mem_nil, or_false] at hn
  omega
theorem putN_ok (i : InstZ) (h : Fine i) : bytesOk (putN i) := by
  have g1 := h.rep
  have g2 := h.seg
  have g3 := h.ok.op
  have t1 := twoN_ok h.ok.disp
  have t2 := twoN_ok h.ok.imm
  have t3 := twoN_ok h.ok.sel
  intro n hn
  unfold putN at hn
  simp only [List.mem_append] at hn
  rcases hn with ((((hn | hn) | hn) | hn) | hn) | hn
  · unfold lockN at hn
    cases a : i.lock <;> simp [a] at hn
    omega
  · unfold repN at hn
    cases a : decide (0 < i.rep) <;> simp [a] at hn
    omega
  · unfold segN at hn
    cases a : decide (0 < i.seg) <;> simp [a] at hn
    omega
  · simp at hn; omega
  · unfold midN at hn
    cases a : i.row.m
    · rw [a] at hn; exact nomatch hn
    · obtain ⟨b1, b2, b3⟩ := h.mid a
      rw [a] at hn
      simp only [cond_true, List.mem_cons] at hn
      rcases hn with rfl | hn
      · unfold midZ; omega
      · exact t1 n (List.mem_of_mem_take hn)
  · unfold immN at hn
    cases a : immsZ i.row == 1
    · rw [a, cond_false] at hn
      cases b : immsZ i.row == 2
      · rw [b, cond_false] at hn
        cases c : immsZ i.row == 4
        · rw [c] at hn; exact nomatch hn
        · rw [c, cond_true, List.mem_append] at hn
          exact hn.elim (t2 n) (t3 n)
      · rw [b] at hn; exact t2 n hn
    · rw [a] at hn; exact t2 n (List.mem_of_mem_take hn)
end Go.Proofs.Ytnhlogameldkfaa
