/- The contract of isa.Of: the row of a first byte and of the middle of a second one ('ofR'), and whether there is one. No statement of the seat is proved here. -/
import Derived.Test.YtpngjefdgicmiaaDoorIsaD
namespace Go.Proofs.YtpngjefdgicmiaaDoor
open Go.ChangeShapes Go.WideShapes Go.ChangeAt Go.RowKit
set_option linter.unusedVariables false
set_option linter.unusedSimpArgs false

theorem and7_bd (n : Int) : 0 ≤ bits .and .i64 n 7 ∧ bits .and .i64 n 7 ≤ 7 := by
  show 0 ≤ IntKind.i64.wrap ((BitVec.ofInt 64 n &&& BitVec.ofInt 64 7).toNat : Int) ∧ IntKind.i64.wrap ((BitVec.ofInt 64 n &&& BitVec.ofInt 64 7).toNat : Int) ≤ 7
  have h : (BitVec.ofInt 64 n &&& BitVec.ofInt 64 7).toNat ≤ 7 := by
    rw [BitVec.toNat_and]
    exact Nat.and_le_right
  rw [IntWalk.i64_in _ (by omega)]
  omega

theorem and7_fin : ∀ k : Fin 8, bits .and .i64 (k.val : Int) 7 = (k.val : Int) := by decide +kernel
theorem and7_small (k : Nat) (h : k < 8) : bits .and .i64 (k : Int) 7 = (k : Int) := and7_fin ⟨k, h⟩

/-- What isa.Of returns: name, operands, whether there is a second byte; whether there is such an instruction. -/
def ofR (op k : Int) : Int × Int × Int × Bool × Bool :=
  bif (rowT op k).1 == 0 then (0, 0, 0, false, false) else ((rowT op k).1, (rowT op k).2.1, (rowT op k).2.2, secB (rowT op k).2.1 || secB (rowT op k).2.2, true)

set_option maxHeartbeats 4000000 in
theorem of_k (op reg k : Int) (w : World) (h0 : 0 ≤ op) (h1 : op ≤ 255) (hk : bits .and .i64 reg 7 = k) :
    Calls Tryd.prog 44 #[.int .u8 op, .int .i64 reg] w fun e w' => e = .returned (.tuple #[.agg #[.int .i64 (ofR op k).1, .int .i64 (ofR op k).2.1, .int .i64 (ofR op k).2.2.1, .bool (ofR op k).2.2.2.1], .bool (ofR op k).2.2.2.2]) ∧ Below w.heap.size w w' := by
  have hb7 := and7_bd reg
  rw [hk] at hb7
  rcases Bool.eq_false_or_eq_true ((rowT op k).1 == 0) with hn | hn
  · go_enter Tryd.func44, Tryd.ntmps44
    go_wp2_with (first
    | (go_at_call 61; refine (row_any _ _ _ (by omega) (by omega) (by omega) (by omega)).mono ?_; rintro e w' ⟨rfl, hb⟩; obtain ⟨hc, hf⟩ := bcell hb; have hz : w.heap.size < w'.heap.size := (by have := hb.size; simp at this; omega)))
    have base : Below w.heap.size w w' := ((Below.refl _ _).alloc (Nat.le_refl _) _).trans (hb.mono (by simp))
    have hz' := hz
    clear hk
    refine bodyPost_ret (v := .tuple #[.agg #[.int .i64 (ofR op k).1, .int .i64 (ofR op k).2.1, .int .i64 (ofR op k).2.2.1, .bool (ofR op k).2.2.2.1], .bool (ofR op k).2.2.2.2]) (by simp [results, Tryd.results44, go_sem, hc, hz, Nat.ne_of_lt hz, Nat.ne_of_gt hz, ofR, *]) rfl ⟨rfl, ?_⟩
    clear hc hf
    repeat (first | exact base | refine Below.setCell ?_ (by simp <;> omega) _ | refine Below.alloc ?_ (by simp <;> omega) _)
  · rcases Bool.eq_false_or_eq_true (secB (rowT op k).2.1) with hs | hs
    all_goals
      go_enter Tryd.func44, Tryd.ntmps44
      go_wp2_with (first
      | (go_at_call 62; refine (sec_any _ _).mono ?_; rintro e w' ⟨rfl, rfl⟩)
      | (go_at_call 61; refine (row_any _ _ _ (by omega) (by omega) (by omega) (by omega)).mono ?_; rintro e w' ⟨rfl, hb⟩; obtain ⟨hc, hf⟩ := bcell hb; have hz : w.heap.size < w'.heap.size := (by have := hb.size; simp at this; omega)))
      have base : Below w.heap.size w w' := ((Below.refl _ _).alloc (Nat.le_refl _) _).trans (hb.mono (by simp))
      have hz' := hz
      clear hk
      refine bodyPost_ret (v := .tuple #[.agg #[.int .i64 (ofR op k).1, .int .i64 (ofR op k).2.1, .int .i64 (ofR op k).2.2.1, .bool (ofR op k).2.2.2.1], .bool (ofR op k).2.2.2.2]) (by simp [results, Tryd.results44, go_sem, hc, hz, Nat.ne_of_lt hz, Nat.ne_of_gt hz, ofR, *]) rfl ⟨rfl, ?_⟩
      clear hc hf
      repeat (first | exact base | refine Below.setCell ?_ (by simp <;> omega) _ | refine Below.alloc ?_ (by simp <;> omega) _)

theorem of_any (op reg : Int) (w : World) (h0 : 0 ≤ op) (h1 : op ≤ 255) :
    Calls Tryd.prog 44 #[.int .u8 op, .int .i64 reg] w fun e w' => e = .returned (.tuple #[.agg #[.int .i64 (ofR op (bits .and .i64 reg 7)).1, .int .i64 (ofR op (bits .and .i64 reg 7)).2.1, .int .i64 (ofR op (bits .and .i64 reg 7)).2.2.1, .bool (ofR op (bits .and .i64 reg 7)).2.2.2.1], .bool (ofR op (bits .and .i64 reg 7)).2.2.2.2]) ∧ Below w.heap.size w w' := of_k op reg _ w h0 h1 rfl
end Go.Proofs.YtpngjefdgicmiaaDoor
