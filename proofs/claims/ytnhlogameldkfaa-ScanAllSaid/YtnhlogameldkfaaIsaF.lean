/- The contract of isa.Two: whether there is a second byte ('twoB': the first that is found tells). No statement of the seat is proved here. -/
import Derived.Test.YtnhlogameldkfaaIsaE
namespace Go.Proofs.Ytnhlogameldkfaa
open Go.ChangeShapes Go.WideShapes Go.ChangeAt Go.RowKit
set_option linter.unusedVariables false
set_option linter.unusedSimpArgs false


def twoB (op : Int) : Nat → Nat → Bool
  | 0, _ => false
  | n + 1, k => bif (ofR op k).2.2.2.2 then (ofR op k).2.2.2.1 else twoB op n (k + 1)

set_option maxHeartbeats 1000000 in
theorem two_op (op : Int) (w : World) (h0 : 0 ≤ op) (h1 : op ≤ 255) :
    Calls Try.prog 26 #[.int .u8 op] w fun e w' => e = .returned (.bool (twoB op 8 0)) ∧ Below w.heap.size w w' := by
  go_enter Try.func26, Try.ntmps26
  go_wp2
  go_loopw [6] (fun i wr => ∃ k : Nat, k ≤ 8 ∧ i = .int .i64 k ∧ twoB op (8 - k) k = twoB op 8 0 ∧ Below w.heap.size w wr) (fun i _ => 8 - (intOf i).toNat)
  case atStart => exact ⟨0, by omega, rfl, rfl, Below.refl _ _⟩
  case round =>
    obtain ⟨k, hk, rfl, hrel, hb0⟩ := hrel
    have HR := Lib.hid hrel
    clear hrel
    by_cases hlt : k < 8
    · have H7 := Lib.hid (and7_small k hlt)
      have HS : Hid (twoB op (8 - k) k = bif (ofR op k).2.2.2.2 then (ofR op k).2.2.2.1 else twoB op (8 - (k + 1)) (k + 1)) := by
        rw [show 8 - k = (8 - (k + 1)) + 1 from by omega]; rfl
      rcases Bool.eq_false_or_eq_true (ofR op k).2.2.2.2 with hn | hn
      · go_wp2_with (first
          | (go_at_call 41; refine (of_k _ _ _ _ (by omega) (by omega) H7.out).mono ?_; rintro e w' ⟨rfl, hb⟩))
        go_ret
        refine ⟨ret_bool ?_, ?_⟩
        · rw [← HR.out, HS.out, hn]; rfl
        · exact (hb0.trans (hb.mono hb0.size)).alloc (Nat.le_trans hb0.size hb.size) _
      · go_wp2_with (first
          | (go_at_call 41; refine (of_k _ _ _ _ (by omega) (by omega) H7.out).mono ?_; rintro e w' ⟨rfl, hb⟩))
        go_roundw
        case rel =>
          refine ⟨k + 1, by omega, by go_num, ?_, ?_⟩
          · rw [← HR.out, HS.out, hn]; rfl
          · exact (hb0.trans (hb.mono hb0.size)).alloc (Nat.le_trans hb0.size hb.size) _
        case measure => simp [intOf]; omega
    · obtain rfl : k = 8 := by omega
      go_wp2
      go_ret
      exact ⟨ret_bool (by rw [← HR.out]; rfl), hb0⟩
end Go.Proofs.Ytnhlogameldkfaa
