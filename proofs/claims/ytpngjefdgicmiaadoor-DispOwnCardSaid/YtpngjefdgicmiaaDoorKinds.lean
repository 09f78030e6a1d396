/- What can be repeated, how many bytes operands have, what may be in memory: package isa and hansomref04 say the same. No statement of the seat is proved here. -/
import Derived.Test.YtpngjefdgicmiaaDoorRefC
namespace Go.Proofs.YtpngjefdgicmiaaDoor
open Go.ChangeShapes Go.WideShapes Go.ChangeAt Go.RowKit
set_option linter.unusedVariables false
set_option linter.unusedSimpArgs false

noncomputable def nameN (n : Int) : List UInt8 := bif leB 1 n && leB n 95 then nameL (n - 1).toNat else [63]
theorem name_any (n : Int) (w : World) :
    Calls Tryd.prog 8 #[.int .i64 n] w fun e w' => e = .returned (.string ⟨(nameN n).toArray⟩) ∧ w = w' := by
  by_cases h : 1 ≤ n ∧ n ≤ 95
  · have e : nameN n = nameL (n - 1).toNat := by unfold nameN; rw [show leB 1 n = true from decide_eq_true h.1, show leB n 95 = true from decide_eq_true h.2]; rfl
    rw [e]
    exact name_in n _ w (by omega) (by omega)
  · have e : nameN n = [63] := by
      unfold nameN
      by_cases h1 : 1 ≤ n
      · rw [show leB 1 n = true from decide_eq_true h1, show leB n 95 = false from decide_eq_false (by omega)]; rfl
      · rw [show leB 1 n = false from decide_eq_false h1]; rfl
    rw [e]
    exact name_out n w (by omega)

def repL (l : List UInt8) : Int :=
  bif l == [77, 79, 86, 83, 66] then 1 else bif l == [77, 79, 86, 83, 87] then 1 else bif l == [83, 84, 79, 83, 66] then 1 else bif l == [83, 84, 79, 83, 87] then 1
  else bif l == [76, 79, 68, 83, 66] then 1 else bif l == [76, 79, 68, 83, 87] then 1
  else bif l == [67, 77, 80, 83, 66] then 2 else bif l == [67, 77, 80, 83, 87] then 2 else bif l == [83, 67, 65, 83, 66] then 2 else bif l == [83, 67, 65, 83, 87] then 2 else 0
set_option maxHeartbeats 4000000 in
theorem repR_any (n : Int) (w : World) :
    Calls Tryd.prog 29 #[.int .i64 n] w fun e w' => e = .returned (.int .i64 (repL (nameN n))) ∧ w = w' := by
  obtain ⟨s, hs⟩ : ∃ s : ByteArray, s = ⟨(nameN n).toArray⟩ := ⟨_, rfl⟩
  have HS := Lib.hid hs
  have HD : Hid (nameN n = s.toList) := by rw [ByteArray.toList_eq, hs]; rfl
  clear hs
  rw [HD.out]
  go_enter Tryd.func29, Tryd.ntmps29
  go_wp2_with fail
  refine (name_any _ _).mono ?_; rintro e w' ⟨rfl, rfl⟩
  rw [← HS.out]
  go_wp2_with fail
  all_goals first
    | (go_ret; refine ⟨ret_int ?_, rfl⟩; simp [repL, *]; done)
    | (exfalso; simp_all; done)

noncomputable def repOk : Nat → Bool
  | 0 => true
  | m + 1 => (repZ ((m : Int) + 1) == repL (nameL m)) && repOk m
theorem repOk_all : repOk 95 = true := by kernel_rfl
theorem repOk_at : ∀ n, repOk n = true → ∀ m, m < n → repZ ((m : Int) + 1) = repL (nameL m) := by
  intro n
  induction n with
  | zero => intro _ m hm; omega
  | succ n ih =>
    intro h m hm
    simp only [repOk, Bool.and_eq_true, beq_iff_eq] at h
    by_cases e : m = n
    · rw [e]; exact h.1
    · exact ih h.2 m (by omega)
theorem fact_rep (n : Int) : repL (nameN n) = repZ n := by
  by_cases h : 1 ≤ n ∧ n ≤ 95
  · have e : nameN n = nameL (n - 1).toNat := by unfold nameN; rw [show leB 1 n = true from decide_eq_true h.1, show leB n 95 = true from decide_eq_true h.2]; rfl
    rw [e, ← repOk_at 95 repOk_all (n - 1).toNat (by omega)]
    congr 1; omega
  · have e : nameN n = [63] := by
      unfold nameN
      by_cases h1 : 1 ≤ n
      · rw [show leB 1 n = true from decide_eq_true h1, show leB n 95 = false from decide_eq_false (by omega)]; rfl
      · rw [show leB 1 n = false from decide_eq_false h1]; rfl
    rw [e]
    have hne : ∀ k : Int, 1 ≤ k → k ≤ 95 → (n == k) = false := by intro k h1 h2; simp; omega
    unfold repZ
    rw [hne 46 (by omega) (by omega), hne 47 (by omega) (by omega), hne 48 (by omega) (by omega), hne 49 (by omega) (by omega), hne 50 (by omega) (by omega), hne 51 (by omega) (by omega), hne 52 (by omega) (by omega), hne 53 (by omega) (by omega), hne 54 (by omega) (by omega), hne 55 (by omega) (by omega)]
    decide +kernel

theorem fact_imm (a : Int) : bytesR a = immZ a := by
  by_cases h : 0 ≤ a ∧ a < 16
  · obtain ⟨n, rfl⟩ := Int.eq_ofNat_of_zero_le h.1
    have f : ∀ k : Fin 16, bytesR (k.val : Int) = immZ (k.val : Int) := by decide +kernel
    exact f ⟨n, by omega⟩
  · have hne : ∀ k : Int, 1 ≤ k → k ≤ 15 → (a == k) = false := by intro k h1 h2; simp; omega
    unfold bytesR immZ
    simp only [hne 6 (by omega) (by omega), hne 7 (by omega) (by omega), hne 8 (by omega) (by omega), hne 9 (by omega) (by omega), hne 10 (by omega) (by omega), hne 11 (by omega) (by omega), hne 12 (by omega) (by omega), hne 13 (by omega) (by omega), cond_false]
end Go.Proofs.YtpngjefdgicmiaaDoor
