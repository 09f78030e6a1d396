/- Contracts of package isa's tables (spread, shifted, counted, upOrDown, upOrAway): each returns the row that its table ('..T') gives, and makes new memory only. No statement of the seat is proved here. -/
import Derived.Test.YtpngjefdgicmiaaDoorIsaA
namespace Go.Proofs.YtpngjefdgicmiaaDoor
open Go.ChangeShapes Go.WideShapes Go.ChangeAt Go.RowKit
set_option linter.unusedVariables false
set_option linter.unusedSimpArgs false

/-- spread: what each case gives. -/
def spreadT (reg : Int) : Int × Int × Int :=
  bif 1 + reg == 2 then (0, 0, 0) else
  bif 1 + reg == 5 then (0, 0, 0) else
  bif 1 + reg == 7 then (0, 0, 0) else
  (1 + reg, 2, 8)
set_option maxHeartbeats 1000000 in
theorem spread_any (reg : Int) (w : World) (g0 : 0 ≤ reg) (g1 : reg ≤ 7) :
    Calls Tryd.prog 85 #[.int .i64 reg] w fun e w' => e = .returned (.agg #[.int .i64 (spreadT reg).1, .int .i64 (spreadT reg).2.1, .int .i64 (spreadT reg).2.2, .bool false]) ∧ Below w.heap.size w w' := by
  rcases (by omega : reg = 0 ∨ reg = 1 ∨ reg = 2 ∨ reg = 3 ∨ reg = 4 ∨ reg = 5 ∨ reg = 6 ∨ reg = 7) with hr | hr | hr | hr | hr | hr | hr | hr
  all_goals
    go_enter Tryd.func85, Tryd.ntmps85
    go_wp2_with (first
      | (go_at_call 84; refine (two_any _ _ _ _).mono ?_; rintro e w' ⟨rfl, hb⟩; obtain ⟨hc, hf⟩ := bcell hb; have hz : w.heap.size < w'.heap.size := (by have := hb.size; simp at this; omega)))
    all_goals (first
      | (refine bodyPost_ret (v := .agg #[.int .i64 (spreadT reg).1, .int .i64 (spreadT reg).2.1, .int .i64 (spreadT reg).2.2, .bool false]) ?_ rfl ⟨rfl, ?_⟩
         focus (simp [results, Tryd.results85, go_sem, spreadT, hc, hz, *]; done)
         exact ((((((Below.refl _ _).alloc (Nat.le_refl _) _).trans (hb.mono (by simp))).setCell (by simp) _).setCell (by simp) _).setCell (by simp) _).setCell (by simp) _)
      | (refine bodyPost_ret (v := .agg #[.int .i64 (spreadT reg).1, .int .i64 (spreadT reg).2.1, .int .i64 (spreadT reg).2.2, .bool false]) ?_ rfl ⟨rfl, ?_⟩
         focus (simp [results, Tryd.results85, go_sem, spreadT, *]; done)
         exact (Below.refl _ _).alloc (Nat.le_refl _) _))
  
/-- shifted: what each case gives. -/
def shiftedT (reg : Int) (a : Int) (b : Int) : Int × Int × Int :=
  bif ltB reg 6 then (63 + reg, a, b) else
  bif reg == 7 then (69, a, b) else
  (0, 0, 0)
set_option maxHeartbeats 1000000 in
theorem shifted_any (reg : Int) (a : Int) (b : Int) (w : World) (g0 : 0 ≤ reg) (g1 : reg ≤ 7) :
    Calls Tryd.prog 88 #[.int .i64 reg, .int .i64 a, .int .i64 b] w fun e w' => e = .returned (.agg #[.int .i64 (shiftedT reg a b).1, .int .i64 (shiftedT reg a b).2.1, .int .i64 (shiftedT reg a b).2.2, .bool false]) ∧ Below w.heap.size w w' := by
  by_cases hp : reg < 6
  · have hq : ltB reg 6 = true := decide_eq_true hp
    go_enter Tryd.func88, Tryd.ntmps88
    go_wp2_with (first
      | (go_at_call 84; refine (two_any _ _ _ _).mono ?_; rintro e w' ⟨rfl, hb⟩; obtain ⟨hc, hf⟩ := bcell hb; have hz : w.heap.size < w'.heap.size := (by have := hb.size; simp at this; omega)))
    all_goals (first
      | (refine bodyPost_ret (v := .agg #[.int .i64 (shiftedT reg a b).1, .int .i64 (shiftedT reg a b).2.1, .int .i64 (shiftedT reg a b).2.2, .bool false]) ?_ rfl ⟨rfl, ?_⟩
         focus (simp [results, Tryd.results88, go_sem, shiftedT, hc, hz, *]; done)
         exact ((((((Below.refl _ _).alloc (Nat.le_refl _) _).trans (hb.mono (by simp))).setCell (by simp) _).setCell (by simp) _).setCell (by simp) _).setCell (by simp) _)
      | (refine bodyPost_ret (v := .agg #[.int .i64 (shiftedT reg a b).1, .int .i64 (shiftedT reg a b).2.1, .int .i64 (shiftedT reg a b).2.2, .bool false]) ?_ rfl ⟨rfl, ?_⟩
         focus (simp [results, Tryd.results88, go_sem, shiftedT, *]; done)
         exact (Below.refl _ _).alloc (Nat.le_refl _) _))
  
  · have hq : ltB reg 6 = false := decide_eq_false hp
    go_enter Tryd.func88, Tryd.ntmps88
    go_wp2_with (first
      | (go_at_call 84; refine (two_any _ _ _ _).mono ?_; rintro e w' ⟨rfl, hb⟩; obtain ⟨hc, hf⟩ := bcell hb; have hz : w.heap.size < w'.heap.size := (by have := hb.size; simp at this; omega)))
    all_goals (first
      | (refine bodyPost_ret (v := .agg #[.int .i64 (shiftedT reg a b).1, .int .i64 (shiftedT reg a b).2.1, .int .i64 (shiftedT reg a b).2.2, .bool false]) ?_ rfl ⟨rfl, ?_⟩
         focus (simp [results, Tryd.results88, go_sem, shiftedT, hc, hz, *]; done)
         exact ((((((Below.refl _ _).alloc (Nat.le_refl _) _).trans (hb.mono (by simp))).setCell (by simp) _).setCell (by simp) _).setCell (by simp) _).setCell (by simp) _)
      | (refine bodyPost_ret (v := .agg #[.int .i64 (shiftedT reg a b).1, .int .i64 (shiftedT reg a b).2.1, .int .i64 (shiftedT reg a b).2.2, .bool false]) ?_ rfl ⟨rfl, ?_⟩
         focus (simp [results, Tryd.results88, go_sem, shiftedT, *]; done)
         exact (Below.refl _ _).alloc (Nat.le_refl _) _))
  
/-- counted: what each case gives. -/
def countedT (reg : Int) (a : Int) (b : Int) : Int × Int × Int :=
  bif reg == 0 then (33, a, b) else
  bif leB 2 reg then (84 + reg - 2, a, 0) else
  (0, 0, 0)
set_option maxHeartbeats 1000000 in
theorem counted_any (reg : Int) (a : Int) (b : Int) (w : World) (g0 : 0 ≤ reg) (g1 : reg ≤ 7) :
    Calls Tryd.prog 89 #[.int .i64 reg, .int .i64 a, .int .i64 b] w fun e w' => e = .returned (.agg #[.int .i64 (countedT reg a b).1, .int .i64 (countedT reg a b).2.1, .int .i64 (countedT reg a b).2.2, .bool false]) ∧ Below w.heap.size w w' := by
  by_cases hp : 2 ≤ reg
  · have hq : leB 2 reg = true := decide_eq_true hp
    go_enter Tryd.func89, Tryd.ntmps89
    go_wp2_with (first
      | (go_at_call 87; refine (one_any _ _ _).mono ?_; rintro e w' ⟨rfl, hb⟩; obtain ⟨hc, hf⟩ := bcell hb; have hz : w.heap.size < w'.heap.size := (by have := hb.size; simp at this; omega))
      | (go_at_call 84; refine (two_any _ _ _ _).mono ?_; rintro e w' ⟨rfl, hb⟩; obtain ⟨hc, hf⟩ := bcell hb; have hz : w.heap.size < w'.heap.size := (by have := hb.size; simp at this; omega)))
    all_goals (first
      | (refine bodyPost_ret (v := .agg #[.int .i64 (countedT reg a b).1, .int .i64 (countedT reg a b).2.1, .int .i64 (countedT reg a b).2.2, .bool false]) ?_ rfl ⟨rfl, ?_⟩
         focus (simp [results, Tryd.results89, go_sem, countedT, hc, hz, *]; done)
         exact ((((((Below.refl _ _).alloc (Nat.le_refl _) _).trans (hb.mono (by simp))).setCell (by simp) _).setCell (by simp) _).setCell (by simp) _).setCell (by simp) _)
      | (refine bodyPost_ret (v := .agg #[.int .i64 (countedT reg a b).1, .int .i64 (countedT reg a b).2.1, .int .i64 (countedT reg a b).2.2, .bool false]) ?_ rfl ⟨rfl, ?_⟩
         focus (simp [results, Tryd.results89, go_sem, countedT, *]; done)
         exact (Below.refl _ _).alloc (Nat.le_refl _) _))
  
  · have hq : leB 2 reg = false := decide_eq_false hp
    go_enter Tryd.func89, Tryd.ntmps89
    go_wp2_with (first
      | (go_at_call 87; refine (one_any _ _ _).mono ?_; rintro e w' ⟨rfl, hb⟩; obtain ⟨hc, hf⟩ := bcell hb; have hz : w.heap.size < w'.heap.size := (by have := hb.size; simp at this; omega))
      | (go_at_call 84; refine (two_any _ _ _ _).mono ?_; rintro e w' ⟨rfl, hb⟩; obtain ⟨hc, hf⟩ := bcell hb; have hz : w.heap.size < w'.heap.size := (by have := hb.size; simp at this; omega)))
    all_goals (first
      | (refine bodyPost_ret (v := .agg #[.int .i64 (countedT reg a b).1, .int .i64 (countedT reg a b).2.1, .int .i64 (countedT reg a b).2.2, .bool false]) ?_ rfl ⟨rfl, ?_⟩
         focus (simp [results, Tryd.results89, go_sem, countedT, hc, hz, *]; done)
         exact ((((((Below.refl _ _).alloc (Nat.le_refl _) _).trans (hb.mono (by simp))).setCell (by simp) _).setCell (by simp) _).setCell (by simp) _).setCell (by simp) _)
      | (refine bodyPost_ret (v := .agg #[.int .i64 (countedT reg a b).1, .int .i64 (countedT reg a b).2.1, .int .i64 (countedT reg a b).2.2, .bool false]) ?_ rfl ⟨rfl, ?_⟩
         focus (simp [results, Tryd.results89, go_sem, countedT, *]; done)
         exact (Below.refl _ _).alloc (Nat.le_refl _) _))
  
/-- upOrDown: what each case gives. -/
def udT (reg : Int) (a : Int) : Int × Int × Int :=
  bif reg == 0 then (15, a, 0) else
  bif reg == 1 then (16, a, 0) else
  (0, 0, 0)
set_option maxHeartbeats 1000000 in
theorem ud_any (reg : Int) (a : Int) (w : World) (g0 : 0 ≤ reg) (g1 : reg ≤ 7) :
    Calls Tryd.prog 90 #[.int .i64 reg, .int .i64 a] w fun e w' => e = .returned (.agg #[.int .i64 (udT reg a).1, .int .i64 (udT reg a).2.1, .int .i64 (udT reg a).2.2, .bool false]) ∧ Below w.heap.size w w' := by
  go_enter Tryd.func90, Tryd.ntmps90
  go_wp2_with (first
    | (go_at_call 87; refine (one_any _ _ _).mono ?_; rintro e w' ⟨rfl, hb⟩; obtain ⟨hc, hf⟩ := bcell hb; have hz : w.heap.size < w'.heap.size := (by have := hb.size; simp at this; omega)))
  all_goals (first
    | (refine bodyPost_ret (v := .agg #[.int .i64 (udT reg a).1, .int .i64 (udT reg a).2.1, .int .i64 (udT reg a).2.2, .bool false]) ?_ rfl ⟨rfl, ?_⟩
       focus (simp [results, Tryd.results90, go_sem, udT, hc, hz, *]; done)
       exact ((((((Below.refl _ _).alloc (Nat.le_refl _) _).trans (hb.mono (by simp))).setCell (by simp) _).setCell (by simp) _).setCell (by simp) _).setCell (by simp) _)
    | (refine bodyPost_ret (v := .agg #[.int .i64 (udT reg a).1, .int .i64 (udT reg a).2.1, .int .i64 (udT reg a).2.2, .bool false]) ?_ rfl ⟨rfl, ?_⟩
       focus (simp [results, Tryd.results90, go_sem, udT, *]; done)
       exact (Below.refl _ _).alloc (Nat.le_refl _) _))

/-- upOrAway: what each case gives. -/
def uaT (reg : Int) : Int × Int × Int :=
  bif reg == 2 then (39, 2, 0) else
  bif reg == 3 then (40, 19, 0) else
  bif reg == 4 then (80, 2, 0) else
  bif reg == 5 then (81, 19, 0) else
  bif reg == 6 then (9, 2, 0) else
  udT reg 2
set_option maxHeartbeats 1000000 in
theorem ua_any (reg : Int) (w : World) (g0 : 0 ≤ reg) (g1 : reg ≤ 7) :
    Calls Tryd.prog 91 #[.int .i64 reg] w fun e w' => e = .returned (.agg #[.int .i64 (uaT reg).1, .int .i64 (uaT reg).2.1, .int .i64 (uaT reg).2.2, .bool false]) ∧ Below w.heap.size w w' := by
  go_enter Tryd.func91, Tryd.ntmps91
  go_wp2_with (first
    | (go_at_call 87; refine (one_any _ _ _).mono ?_; rintro e w' ⟨rfl, hb⟩; obtain ⟨hc, hf⟩ := bcell hb; have hz : w.heap.size < w'.heap.size := (by have := hb.size; simp at this; omega))
    | (go_at_call 90; refine (ud_any _ _ _ (by omega) (by omega)).mono ?_; rintro e w' ⟨rfl, hb⟩; obtain ⟨hc, hf⟩ := bcell hb; have hz : w.heap.size < w'.heap.size := (by have := hb.size; simp at this; omega)))
  all_goals (first
    | (refine bodyPost_ret (v := .agg #[.int .i64 (uaT reg).1, .int .i64 (uaT reg).2.1, .int .i64 (uaT reg).2.2, .bool false]) ?_ rfl ⟨rfl, ?_⟩
       focus (simp [results, Tryd.results91, go_sem, uaT, hc, hz, *]; done)
       exact ((((((Below.refl _ _).alloc (Nat.le_refl _) _).trans (hb.mono (by simp))).setCell (by simp) _).setCell (by simp) _).setCell (by simp) _).setCell (by simp) _)
    | (refine bodyPost_ret (v := .agg #[.int .i64 (uaT reg).1, .int .i64 (uaT reg).2.1, .int .i64 (uaT reg).2.2, .bool false]) ?_ rfl ⟨rfl, ?_⟩
       focus (simp [results, Tryd.results91, go_sem, uaT, *]; done)
       exact (Below.refl _ _).alloc (Nat.le_refl _) _))
end Go.Proofs.YtpngjefdgicmiaaDoor
