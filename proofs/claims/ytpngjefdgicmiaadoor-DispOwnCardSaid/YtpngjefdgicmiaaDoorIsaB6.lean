/- Contracts of package isa's tables (last): each returns the row that its table ('..T') gives, and makes new memory only. No statement of the seat is proved here. -/
import Derived.Test.YtpngjefdgicmiaaDoorIsaA
namespace Go.Proofs.YtpngjefdgicmiaaDoor
open Go.ChangeShapes Go.WideShapes Go.ChangeAt Go.RowKit
set_option linter.unusedVariables false
set_option linter.unusedSimpArgs false

/-- last: what each case gives. -/
def lastT (op : Int) : Int × Int × Int :=
  bif op == 224 then (74 + (op - 224) % 256, 9, 0) else
  bif op == 225 then (74 + (op - 224) % 256, 9, 0) else
  bif op == 226 then (74 + (op - 224) % 256, 9, 0) else
  bif op == 227 then (74 + (op - 224) % 256, 9, 0) else
  bif op == 228 then (78, 14, 6) else
  bif op == 229 then (78, 16, 6) else
  bif op == 230 then (79, 6, 14) else
  bif op == 231 then (79, 6, 16) else
  bif op == 232 then (39, 10, 0) else
  bif op == 233 then (80, 10, 0) else
  bif op == 234 then (81, 11, 0) else
  bif op == 235 then (80, 9, 0) else
  bif op == 236 then (78, 14, 17) else
  bif op == 237 then (78, 16, 17) else
  bif op == 238 then (79, 17, 14) else
  bif op == 239 then (79, 17, 16) else
  bif op == 244 then (82, 0, 0) else
  bif op == 245 then (83, 0, 0) else
  bif op == 248 then (90 + (op - 248) % 256, 0, 0) else
  bif op == 249 then (90 + (op - 248) % 256, 0, 0) else
  bif op == 250 then (90 + (op - 248) % 256, 0, 0) else
  bif op == 251 then (90 + (op - 248) % 256, 0, 0) else
  bif op == 252 then (90 + (op - 248) % 256, 0, 0) else
  bif op == 253 then (90 + (op - 248) % 256, 0, 0) else
  (0, 0, 0)
set_option maxHeartbeats 4000000 in
theorem last_any (op : Int) (w : World) (h0 : 0 ≤ op) (h1 : op ≤ 255) :
    Calls Tryd.prog 79 #[.int .u8 op] w fun e w' => e = .returned (.agg #[.int .i64 (lastT op).1, .int .i64 (lastT op).2.1, .int .i64 (lastT op).2.2, .bool false]) ∧ Below w.heap.size w w' := by
  go_enter Tryd.func79, Tryd.ntmps79
  go_wp2_with (first
    | (go_at_call 87; refine (one_any _ _ _).mono ?_; rintro e w' ⟨rfl, hb⟩; obtain ⟨hc, hf⟩ := bcell hb; have hz : w.heap.size < w'.heap.size := (by have := hb.size; simp at this; omega))
    | (go_at_call 84; refine (two_any _ _ _ _).mono ?_; rintro e w' ⟨rfl, hb⟩; obtain ⟨hc, hf⟩ := bcell hb; have hz : w.heap.size < w'.heap.size := (by have := hb.size; simp at this; omega))
    | (go_at_call 93; refine (none_any _ _).mono ?_; rintro e w' ⟨rfl, hb⟩; obtain ⟨hc, hf⟩ := bcell hb; have hz : w.heap.size < w'.heap.size := (by have := hb.size; simp at this; omega)))
  all_goals (first
    | (refine bodyPost_ret (v := .agg #[.int .i64 (lastT op).1, .int .i64 (lastT op).2.1, .int .i64 (lastT op).2.2, .bool false]) ?_ rfl ⟨rfl, ?_⟩
       focus (simp [results, Tryd.results79, go_sem, lastT, hc, hz, *]; done)
       exact ((((((Below.refl _ _).alloc (Nat.le_refl _) _).trans (hb.mono (by simp))).setCell (by simp) _).setCell (by simp) _).setCell (by simp) _).setCell (by simp) _)
    | (refine bodyPost_ret (v := .agg #[.int .i64 (lastT op).1, .int .i64 (lastT op).2.1, .int .i64 (lastT op).2.2, .bool false]) ?_ rfl ⟨rfl, ?_⟩
       focus (simp [results, Tryd.results79, go_sem, lastT, *]; done)
       exact (Below.refl _ _).alloc (Nat.le_refl _) _))
end Go.Proofs.YtpngjefdgicmiaaDoor
