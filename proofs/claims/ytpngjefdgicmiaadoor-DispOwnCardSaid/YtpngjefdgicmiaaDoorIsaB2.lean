/- Contracts of package isa's tables (short, single): each returns the row that its table ('..T') gives, and makes new memory only. No statement of the seat is proved here. -/
import Derived.Test.YtpngjefdgicmiaaDoorIsaA
namespace Go.Proofs.YtpngjefdgicmiaaDoor
open Go.ChangeShapes Go.WideShapes Go.ChangeAt Go.RowKit
set_option linter.unusedVariables false
set_option linter.unusedSimpArgs false

/-- short: what each case gives. -/
def shortT (op : Int) : Int × Int × Int :=
  bif op / 8 == 8 then (15, 22, 0) else
  bif op / 8 == 9 then (16, 22, 0) else
  bif op / 8 == 10 then (9, 22, 0) else
  bif op / 8 == 11 then (10, 22, 0) else
  bif op / 8 == 14 then (17 + (op - 112) % 256, 9, 0) else
  bif op / 8 == 15 then (17 + (op - 112) % 256, 9, 0) else
  (0, 0, 0)
set_option maxHeartbeats 1000000 in
theorem short_any (op : Int) (w : World) (h0 : 0 ≤ op) (h1 : op ≤ 255) :
    Calls Tryd.prog 74 #[.int .u8 op] w fun e w' => e = .returned (.agg #[.int .i64 (shortT op).1, .int .i64 (shortT op).2.1, .int .i64 (shortT op).2.2, .bool false]) ∧ Below w.heap.size w w' := by
  go_enter Tryd.func74, Tryd.ntmps74
  go_wp2_with (first
    | (go_at_call 87; refine (one_any _ _ _).mono ?_; rintro e w' ⟨rfl, hb⟩; obtain ⟨hc, hf⟩ := bcell hb; have hz : w.heap.size < w'.heap.size := (by have := hb.size; simp at this; omega)))
  all_goals (first
    | (refine bodyPost_ret (v := .agg #[.int .i64 (shortT op).1, .int .i64 (shortT op).2.1, .int .i64 (shortT op).2.2, .bool false]) ?_ rfl ⟨rfl, ?_⟩
       focus (simp [results, Tryd.results74, go_sem, shortT, hc, hz, *]; done)
       exact ((((((Below.refl _ _).alloc (Nat.le_refl _) _).trans (hb.mono (by simp))).setCell (by simp) _).setCell (by simp) _).setCell (by simp) _).setCell (by simp) _)
    | (refine bodyPost_ret (v := .agg #[.int .i64 (shortT op).1, .int .i64 (shortT op).2.1, .int .i64 (shortT op).2.2, .bool false]) ?_ rfl ⟨rfl, ?_⟩
       focus (simp [results, Tryd.results74, go_sem, shortT, *]; done)
       exact (Below.refl _ _).alloc (Nat.le_refl _) _))

/-- single: what each case gives. -/
def singleT (op : Int) : Int × Int × Int :=
  bif op == 152 then (37, 0, 0) else
  bif op == 153 then (38, 0, 0) else
  bif op == 154 then (40, 11, 0) else
  bif op == 155 then (41, 0, 0) else
  bif op == 156 then (42, 0, 0) else
  bif op == 157 then (43, 0, 0) else
  bif op == 158 then (44, 0, 0) else
  bif op == 159 then (45, 0, 0) else
  (34, 16, 22)
set_option maxHeartbeats 1000000 in
theorem single_any (op : Int) (w : World) (h0 : 0 ≤ op) (h1 : op ≤ 255) :
    Calls Tryd.prog 76 #[.int .u8 op] w fun e w' => e = .returned (.agg #[.int .i64 (singleT op).1, .int .i64 (singleT op).2.1, .int .i64 (singleT op).2.2, .bool false]) ∧ Below w.heap.size w w' := by
  go_enter Tryd.func76, Tryd.ntmps76
  go_wp2_with (first
    | (go_at_call 87; refine (one_any _ _ _).mono ?_; rintro e w' ⟨rfl, hb⟩; obtain ⟨hc, hf⟩ := bcell hb; have hz : w.heap.size < w'.heap.size := (by have := hb.size; simp at this; omega))
    | (go_at_call 93; refine (none_any _ _).mono ?_; rintro e w' ⟨rfl, hb⟩; obtain ⟨hc, hf⟩ := bcell hb; have hz : w.heap.size < w'.heap.size := (by have := hb.size; simp at this; omega))
    | (go_at_call 84; refine (two_any _ _ _ _).mono ?_; rintro e w' ⟨rfl, hb⟩; obtain ⟨hc, hf⟩ := bcell hb; have hz : w.heap.size < w'.heap.size := (by have := hb.size; simp at this; omega)))
  all_goals (first
    | (refine bodyPost_ret (v := .agg #[.int .i64 (singleT op).1, .int .i64 (singleT op).2.1, .int .i64 (singleT op).2.2, .bool false]) ?_ rfl ⟨rfl, ?_⟩
       focus (simp [results, Tryd.results76, go_sem, singleT, hc, hz, *]; done)
       exact ((((((Below.refl _ _).alloc (Nat.le_refl _) _).trans (hb.mono (by simp))).setCell (by simp) _).setCell (by simp) _).setCell (by simp) _).setCell (by simp) _)
    | (refine bodyPost_ret (v := .agg #[.int .i64 (singleT op).1, .int .i64 (singleT op).2.1, .int .i64 (singleT op).2.2, .bool false]) ?_ rfl ⟨rfl, ?_⟩
       focus (simp [results, Tryd.results76, go_sem, singleT, *]; done)
       exact (Below.refl _ _).alloc (Nat.le_refl _) _))
end Go.Proofs.YtpngjefdgicmiaaDoor
