/- Contracts of package isa's tables (move): each returns the row that its table ('..T') gives, and makes new memory only. No statement of the seat is proved here. -/
import Derived.Test.YtpngjefdgicmiaaDoorIsaA
namespace Go.Proofs.YtpngjefdgicmiaaDoor
open Go.ChangeShapes Go.WideShapes Go.ChangeAt Go.RowKit
set_option linter.unusedVariables false
set_option linter.unusedSimpArgs false

/-- move: what each case gives. -/
def moveT (op : Int) (reg : Int) : Int × Int × Int :=
  bif op == 132 then (33, 1, 3) else
  bif op == 133 then (33, 2, 4) else
  bif op == 134 then (34, 1, 3) else
  bif op == 135 then (34, 2, 4) else
  bif op == 136 then (35, 1, 3) else
  bif op == 137 then (35, 2, 4) else
  bif op == 138 then (35, 3, 1) else
  bif op == 139 then (35, 4, 2) else
  bif op == 140 then (bif leB reg 3 then (35, 2, 5) else (0, 0, 0)) else
  bif op == 141 then (36, 4, 20) else
  bif op == 142 then (bif leB reg 3 then (bif reg != 1 then (35, 5, 2) else (0, 0, 0)) else (0, 0, 0)) else
  (0, 0, 0)
set_option maxHeartbeats 1000000 in
theorem move_any (op : Int) (reg : Int) (w : World) (h0 : 0 ≤ op) (h1 : op ≤ 255) (g0 : 0 ≤ reg) (g1 : reg ≤ 7) :
    Calls Tryd.prog 75 #[.int .u8 op, .int .i64 reg] w fun e w' => e = .returned (.agg #[.int .i64 (moveT op reg).1, .int .i64 (moveT op reg).2.1, .int .i64 (moveT op reg).2.2, .bool false]) ∧ Below w.heap.size w w' := by
  by_cases hp : reg ≤ 3
  · have hq : leB reg 3 = true := decide_eq_true hp
    go_enter Tryd.func75, Tryd.ntmps75
    go_wp2_with (first
      | (go_at_call 84; refine (two_any _ _ _ _).mono ?_; rintro e w' ⟨rfl, hb⟩; obtain ⟨hc, hf⟩ := bcell hb; have hz : w.heap.size < w'.heap.size := (by have := hb.size; simp at this; omega)))
    all_goals (first
      | (refine bodyPost_ret (v := .agg #[.int .i64 (moveT op reg).1, .int .i64 (moveT op reg).2.1, .int .i64 (moveT op reg).2.2, .bool false]) ?_ rfl ⟨rfl, ?_⟩
         focus (simp [results, Tryd.results75, go_sem, moveT, hc, hz, *]; done)
         exact ((((((Below.refl _ _).alloc (Nat.le_refl _) _).trans (hb.mono (by simp))).setCell (by simp) _).setCell (by simp) _).setCell (by simp) _).setCell (by simp) _)
      | (refine bodyPost_ret (v := .agg #[.int .i64 (moveT op reg).1, .int .i64 (moveT op reg).2.1, .int .i64 (moveT op reg).2.2, .bool false]) ?_ rfl ⟨rfl, ?_⟩
         focus (simp [results, Tryd.results75, go_sem, moveT, *]; done)
         exact (Below.refl _ _).alloc (Nat.le_refl _) _))
  
  · have hq : leB reg 3 = false := decide_eq_false hp
    go_enter Tryd.func75, Tryd.ntmps75
    go_wp2_with (first
      | (go_at_call 84; refine (two_any _ _ _ _).mono ?_; rintro e w' ⟨rfl, hb⟩; obtain ⟨hc, hf⟩ := bcell hb; have hz : w.heap.size < w'.heap.size := (by have := hb.size; simp at this; omega)))
    all_goals (first
      | (refine bodyPost_ret (v := .agg #[.int .i64 (moveT op reg).1, .int .i64 (moveT op reg).2.1, .int .i64 (moveT op reg).2.2, .bool false]) ?_ rfl ⟨rfl, ?_⟩
         focus (simp [results, Tryd.results75, go_sem, moveT, hc, hz, *]; done)
         exact ((((((Below.refl _ _).alloc (Nat.le_refl _) _).trans (hb.mono (by simp))).setCell (by simp) _).setCell (by simp) _).setCell (by simp) _).setCell (by simp) _)
      | (refine bodyPost_ret (v := .agg #[.int .i64 (moveT op reg).1, .int .i64 (moveT op reg).2.1, .int .i64 (moveT op reg).2.2, .bool false]) ?_ rfl ⟨rfl, ?_⟩
         focus (simp [results, Tryd.results75, go_sem, moveT, *]; done)
         exact (Below.refl _ _).alloc (Nat.le_refl _) _))
  end Go.Proofs.YtpngjefdgicmiaaDoor
