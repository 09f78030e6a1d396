/- Contracts of package isa's tables (leaving): each returns the row that its table ('..T') gives, and makes new memory only. No statement of the seat is proved here. -/
import Derived.Test.YtpngjefdgicmiaaDoorIsaA
namespace Go.Proofs.YtpngjefdgicmiaaDoor
open Go.ChangeShapes Go.WideShapes Go.ChangeAt Go.RowKit
set_option linter.unusedVariables false
set_option linter.unusedSimpArgs false

/-- leaving: what each case gives. -/
def leavingT (op : Int) : Int × Int × Int :=
  bif op == 194 then (56, 7, 0) else
  bif op == 195 then (56, 0, 0) else
  bif op == 196 then (58, 4, 19) else
  bif op == 197 then (59, 4, 19) else
  bif op == 202 then (57, 7, 0) else
  bif op == 203 then (57, 0, 0) else
  bif op == 204 then (60, 24, 0) else
  bif op == 205 then (60, 6, 0) else
  bif op == 206 then (61, 0, 0) else
  bif op == 207 then (62, 0, 0) else
  bif op == 212 then (70, 6, 0) else
  bif op == 213 then (71, 6, 0) else
  bif op == 215 then (72, 0, 0) else
  bif op == 216 then (73, 2, 0) else
  bif op == 217 then (73, 2, 0) else
  bif op == 218 then (73, 2, 0) else
  bif op == 219 then (73, 2, 0) else
  bif op == 220 then (73, 2, 0) else
  bif op == 221 then (73, 2, 0) else
  bif op == 222 then (73, 2, 0) else
  bif op == 223 then (73, 2, 0) else
  (0, 0, 0)
set_option maxHeartbeats 4000000 in
theorem leaving_any (op : Int) (w : World) (h0 : 0 ≤ op) (h1 : op ≤ 255) :
    Calls Tryd.prog 78 #[.int .u8 op] w fun e w' => e = .returned (.agg #[.int .i64 (leavingT op).1, .int .i64 (leavingT op).2.1, .int .i64 (leavingT op).2.2, .bool false]) ∧ Below w.heap.size w w' := by
  go_enter Tryd.func78, Tryd.ntmps78
  go_wp2_with (first
    | (go_at_call 87; refine (one_any _ _ _).mono ?_; rintro e w' ⟨rfl, hb⟩; obtain ⟨hc, hf⟩ := bcell hb; have hz : w.heap.size < w'.heap.size := (by have := hb.size; simp at this; omega))
    | (go_at_call 84; refine (two_any _ _ _ _).mono ?_; rintro e w' ⟨rfl, hb⟩; obtain ⟨hc, hf⟩ := bcell hb; have hz : w.heap.size < w'.heap.size := (by have := hb.size; simp at this; omega))
    | (go_at_call 93; refine (none_any _ _).mono ?_; rintro e w' ⟨rfl, hb⟩; obtain ⟨hc, hf⟩ := bcell hb; have hz : w.heap.size < w'.heap.size := (by have := hb.size; simp at this; omega)))
  all_goals (first
    | (refine bodyPost_ret (v := .agg #[.int .i64 (leavingT op).1, .int .i64 (leavingT op).2.1, .int .i64 (leavingT op).2.2, .bool false]) ?_ rfl ⟨rfl, ?_⟩
       focus (simp [results, Tryd.results78, go_sem, leavingT, hc, hz, *]; done)
       exact ((((((Below.refl _ _).alloc (Nat.le_refl _) _).trans (hb.mono (by simp))).setCell (by simp) _).setCell (by simp) _).setCell (by simp) _).setCell (by simp) _)
    | (refine bodyPost_ret (v := .agg #[.int .i64 (leavingT op).1, .int .i64 (leavingT op).2.1, .int .i64 (leavingT op).2.2, .bool false]) ?_ rfl ⟨rfl, ?_⟩
       focus (simp [results, Tryd.results78, go_sem, leavingT, *]; done)
       exact (Below.refl _ _).alloc (Nat.le_refl _) _))
end Go.Proofs.YtpngjefdgicmiaaDoor
