/- Contracts of package isa's tables (held): each returns the row that its table ('..T') gives, and makes new memory only. No statement of the seat is proved here. -/
import Derived.Test.YtpngjefdgicmiaaDoorIsaA
namespace Go.Proofs.YtpngjefdgicmiaaDoor
open Go.ChangeShapes Go.WideShapes Go.ChangeAt Go.RowKit
set_option linter.unusedVariables false
set_option linter.unusedSimpArgs false

/-- held: what each case gives. -/
def heldT (op : Int) : Int × Int × Int :=
  bif op == 160 then (35, 14, 12) else
  bif op == 161 then (35, 16, 13) else
  bif op == 162 then (35, 12, 14) else
  bif op == 163 then (35, 13, 16) else
  bif op == 164 then (46 + (op - 164) % 256, 0, 0) else
  bif op == 165 then (46 + (op - 164) % 256, 0, 0) else
  bif op == 166 then (46 + (op - 164) % 256, 0, 0) else
  bif op == 167 then (46 + (op - 164) % 256, 0, 0) else
  bif op == 168 then (33, 14, 6) else
  bif op == 169 then (33, 16, 7) else
  bif op == 170 then (50 + (op - 170) % 256, 0, 0) else
  bif op == 171 then (50 + (op - 170) % 256, 0, 0) else
  bif op == 172 then (50 + (op - 170) % 256, 0, 0) else
  bif op == 173 then (50 + (op - 170) % 256, 0, 0) else
  bif op == 174 then (50 + (op - 170) % 256, 0, 0) else
  bif op == 175 then (50 + (op - 170) % 256, 0, 0) else
  bif ltB op 184 then (35, 21, 6) else
  (35, 22, 7)
set_option maxHeartbeats 1000000 in
theorem held_any (op : Int) (w : World) (h0 : 0 ≤ op) (h1 : op ≤ 255) :
    Calls Tryd.prog 77 #[.int .u8 op] w fun e w' => e = .returned (.agg #[.int .i64 (heldT op).1, .int .i64 (heldT op).2.1, .int .i64 (heldT op).2.2, .bool false]) ∧ Below w.heap.size w w' := by
  by_cases hp : op < 184
  · have hq : ltB op 184 = true := decide_eq_true hp
    go_enter Tryd.func77, Tryd.ntmps77
    go_wp2_with (first
      | (go_at_call 84; refine (two_any _ _ _ _).mono ?_; rintro e w' ⟨rfl, hb⟩; obtain ⟨hc, hf⟩ := bcell hb; have hz : w.heap.size < w'.heap.size := (by have := hb.size; simp at this; omega))
      | (go_at_call 93; refine (none_any _ _).mono ?_; rintro e w' ⟨rfl, hb⟩; obtain ⟨hc, hf⟩ := bcell hb; have hz : w.heap.size < w'.heap.size := (by have := hb.size; simp at this; omega)))
    all_goals (first
      | (refine bodyPost_ret (v := .agg #[.int .i64 (heldT op).1, .int .i64 (heldT op).2.1, .int .i64 (heldT op).2.2, .bool false]) ?_ rfl ⟨rfl, ?_⟩
         focus (simp [results, Tryd.results77, go_sem, heldT, hc, hz, *]; done)
         exact ((((((Below.refl _ _).alloc (Nat.le_refl _) _).trans (hb.mono (by simp))).setCell (by simp) _).setCell (by simp) _).setCell (by simp) _).setCell (by simp) _)
      | (refine bodyPost_ret (v := .agg #[.int .i64 (heldT op).1, .int .i64 (heldT op).2.1, .int .i64 (heldT op).2.2, .bool false]) ?_ rfl ⟨rfl, ?_⟩
         focus (simp [results, Tryd.results77, go_sem, heldT, *]; done)
         exact (Below.refl _ _).alloc (Nat.le_refl _) _))
  
  · have hq : ltB op 184 = false := decide_eq_false hp
    go_enter Tryd.func77, Tryd.ntmps77
    go_wp2_with (first
      | (go_at_call 84; refine (two_any _ _ _ _).mono ?_; rintro e w' ⟨rfl, hb⟩; obtain ⟨hc, hf⟩ := bcell hb; have hz : w.heap.size < w'.heap.size := (by have := hb.size; simp at this; omega))
      | (go_at_call 93; refine (none_any _ _).mono ?_; rintro e w' ⟨rfl, hb⟩; obtain ⟨hc, hf⟩ := bcell hb; have hz : w.heap.size < w'.heap.size := (by have := hb.size; simp at this; omega)))
    all_goals (first
      | (refine bodyPost_ret (v := .agg #[.int .i64 (heldT op).1, .int .i64 (heldT op).2.1, .int .i64 (heldT op).2.2, .bool false]) ?_ rfl ⟨rfl, ?_⟩
         focus (simp [results, Tryd.results77, go_sem, heldT, hc, hz, *]; done)
         exact ((((((Below.refl _ _).alloc (Nat.le_refl _) _).trans (hb.mono (by simp))).setCell (by simp) _).setCell (by simp) _).setCell (by simp) _).setCell (by simp) _)
      | (refine bodyPost_ret (v := .agg #[.int .i64 (heldT op).1, .int .i64 (heldT op).2.1, .int .i64 (heldT op).2.2, .bool false]) ?_ rfl ⟨rfl, ?_⟩
         focus (simp [results, Tryd.results77, go_sem, heldT, *]; done)
         exact (Below.refl _ _).alloc (Nat.le_refl _) _))
  end Go.Proofs.YtpngjefdgicmiaaDoor
