/- Contracts of package isa's tables (betweenSums and sum): each returns the row that its table ('..T') gives, and makes new memory only. No statement of the seat is proved here. -/
import Derived.Test.YtpngjefdgicmiaaDoorIsaA
namespace Go.Proofs.YtpngjefdgicmiaaDoor
open Go.ChangeShapes Go.WideShapes Go.ChangeAt Go.RowKit
set_option linter.unusedVariables false
set_option linter.unusedSimpArgs false

/-- betweenSums: what each case gives. -/
def bsT (op : Int) : Int × Int × Int :=
  bif op == 6 then (9, 23, 0) else
  bif op == 14 then (9, 23, 0) else
  bif op == 22 then (9, 23, 0) else
  bif op == 30 then (9, 23, 0) else
  bif op == 7 then (10, 23, 0) else
  bif op == 23 then (10, 23, 0) else
  bif op == 31 then (10, 23, 0) else
  bif op == 39 then (11, 0, 0) else
  bif op == 47 then (12, 0, 0) else
  bif op == 55 then (13, 0, 0) else
  bif op == 63 then (14, 0, 0) else
  (0, 0, 0)
set_option maxHeartbeats 1000000 in
theorem bs_any (op : Int) (w : World) (h0 : 0 ≤ op) (h1 : op ≤ 255) :
    Calls Tryd.prog 92 #[.int .u8 op] w fun e w' => e = .returned (.agg #[.int .i64 (bsT op).1, .int .i64 (bsT op).2.1, .int .i64 (bsT op).2.2, .bool false]) ∧ Below w.heap.size w w' := by
  go_enter Tryd.func92, Tryd.ntmps92
  go_wp2_with (first
    | (go_at_call 87; refine (one_any _ _ _).mono ?_; rintro e w' ⟨rfl, hb⟩; obtain ⟨hc, hf⟩ := bcell hb; have hz : w.heap.size < w'.heap.size := (by have := hb.size; simp at this; omega))
    | (go_at_call 93; refine (none_any _ _).mono ?_; rintro e w' ⟨rfl, hb⟩; obtain ⟨hc, hf⟩ := bcell hb; have hz : w.heap.size < w'.heap.size := (by have := hb.size; simp at this; omega)))
  all_goals (first
    | (refine bodyPost_ret (v := .agg #[.int .i64 (bsT op).1, .int .i64 (bsT op).2.1, .int .i64 (bsT op).2.2, .bool false]) ?_ rfl ⟨rfl, ?_⟩
       focus (simp [results, Tryd.results92, go_sem, bsT, hc, hz, *]; done)
       exact ((((((Below.refl _ _).alloc (Nat.le_refl _) _).trans (hb.mono (by simp))).setCell (by simp) _).setCell (by simp) _).setCell (by simp) _).setCell (by simp) _)
    | (refine bodyPost_ret (v := .agg #[.int .i64 (bsT op).1, .int .i64 (bsT op).2.1, .int .i64 (bsT op).2.2, .bool false]) ?_ rfl ⟨rfl, ?_⟩
       focus (simp [results, Tryd.results92, go_sem, bsT, *]; done)
       exact (Below.refl _ _).alloc (Nat.le_refl _) _))

/-- sum: what each case gives. -/
def sumT (op : Int) : Int × Int × Int :=
  bif op % 8 == 0 then (1 + op / 8, 1, 3) else
  bif op % 8 == 1 then (1 + op / 8, 2, 4) else
  bif op % 8 == 2 then (1 + op / 8, 3, 1) else
  bif op % 8 == 3 then (1 + op / 8, 4, 2) else
  bif op % 8 == 4 then (1 + op / 8, 14, 6) else
  bif op % 8 == 5 then (1 + op / 8, 16, 7) else
  bsT op
set_option maxHeartbeats 1000000 in
theorem sum_any (op : Int) (w : World) (h0 : 0 ≤ op) (h1 : op ≤ 255) :
    Calls Tryd.prog 73 #[.int .u8 op] w fun e w' => e = .returned (.agg #[.int .i64 (sumT op).1, .int .i64 (sumT op).2.1, .int .i64 (sumT op).2.2, .bool false]) ∧ Below w.heap.size w w' := by
  go_enter Tryd.func73, Tryd.ntmps73
  go_wp2_with (first
    | (go_at_call 84; refine (two_any _ _ _ _).mono ?_; rintro e w' ⟨rfl, hb⟩; obtain ⟨hc, hf⟩ := bcell hb; have hz : w.heap.size < w'.heap.size := (by have := hb.size; simp at this; omega))
    | (go_at_call 92; refine (bs_any _ _ (by omega) (by omega)).mono ?_; rintro e w' ⟨rfl, hb⟩; obtain ⟨hc, hf⟩ := bcell hb; have hz : w.heap.size < w'.heap.size := (by have := hb.size; simp at this; omega)))
  all_goals (first
    | (refine bodyPost_ret (v := .agg #[.int .i64 (sumT op).1, .int .i64 (sumT op).2.1, .int .i64 (sumT op).2.2, .bool false]) ?_ rfl ⟨rfl, ?_⟩
       focus (simp [results, Tryd.results73, go_sem, sumT, hc, hz, *]; done)
       exact ((((((Below.refl _ _).alloc (Nat.le_refl _) _).trans (hb.mono (by simp))).setCell (by simp) _).setCell (by simp) _).setCell (by simp) _).setCell (by simp) _)
    | (refine bodyPost_ret (v := .agg #[.int .i64 (sumT op).1, .int .i64 (sumT op).2.1, .int .i64 (sumT op).2.2, .bool false]) ?_ rfl ⟨rfl, ?_⟩
       focus (simp [results, Tryd.results73, go_sem, sumT, *]; done)
       exact (Below.refl _ _).alloc (Nat.le_refl _) _))
end Go.Proofs.YtpngjefdgicmiaaDoor
