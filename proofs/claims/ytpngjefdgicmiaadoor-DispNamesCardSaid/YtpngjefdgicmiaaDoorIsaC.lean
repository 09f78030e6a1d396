/- Contracts of package isa's tables (grouped): each returns the row that its table ('..T') gives, and makes new memory only. No statement of the seat is proved here. -/
import Derived.Test.YtpngjefdgicmiaaDoorIsaB7
namespace Go.Proofs.YtpngjefdgicmiaaDoor
open Go.ChangeShapes Go.WideShapes Go.ChangeAt Go.RowKit
set_option linter.unusedVariables false
set_option linter.unusedSimpArgs false

/-- A row that stands at 0 alone. -/
def firstT (reg n a b : Int) : Int × Int × Int := bif reg != 0 then (0, 0, 0) else (n, a, b)
set_option maxHeartbeats 1000000 in
theorem first_any (reg n a b : Int) (w : World) :
    Calls Tryd.prog 86 #[.int .i64 reg, .agg #[.int .i64 n, .int .i64 a, .int .i64 b, .bool false]] w fun e w' => e = .returned (.agg #[.int .i64 (firstT reg n a b).1, .int .i64 (firstT reg n a b).2.1, .int .i64 (firstT reg n a b).2.2, .bool false]) ∧ Below w.heap.size w w' := by
  go_enter Tryd.func86, Tryd.ntmps86
  go_wp2
  all_goals
    refine bodyPost_ret (v := .agg #[.int .i64 (firstT reg n a b).1, .int .i64 (firstT reg n a b).2.1, .int .i64 (firstT reg n a b).2.2, .bool false]) (by simp [results, Tryd.results86, go_sem, firstT, *]) rfl ⟨rfl, ?_⟩
    exact ((Below.refl _ _).alloc (Nat.le_refl _) _).alloc (by simp) _


/-- grouped: what each case gives. -/
def groupedT (op : Int) (reg : Int) : Int × Int × Int :=
  bif op == 128 then (1 + reg, 1, 6) else
  bif op == 129 then (1 + reg, 2, 7) else
  bif op == 131 then spreadT reg else
  bif op == 143 then firstT reg 10 2 0 else
  bif op == 198 then firstT reg 35 1 6 else
  bif op == 199 then firstT reg 35 2 7 else
  bif op == 208 then shiftedT reg 1 18 else
  bif op == 209 then shiftedT reg 2 18 else
  bif op == 210 then shiftedT reg 1 15 else
  bif op == 211 then shiftedT reg 2 15 else
  bif op == 246 then countedT reg 1 6 else
  bif op == 247 then countedT reg 2 7 else
  bif op == 254 then udT reg 1 else
  uaT reg
set_option maxHeartbeats 4000000 in
theorem grouped_any (op : Int) (reg : Int) (w : World) (h0 : 0 ≤ op) (h1 : op ≤ 255) (g0 : 0 ≤ reg) (g1 : reg ≤ 7) :
    Calls Tryd.prog 72 #[.int .u8 op, .int .i64 reg] w fun e w' => e = .returned (.agg #[.int .i64 (groupedT op reg).1, .int .i64 (groupedT op reg).2.1, .int .i64 (groupedT op reg).2.2, .bool false]) ∧ Below w.heap.size w w' := by
  go_enter Tryd.func72, Tryd.ntmps72
  go_wp2_with (first
    | (go_at_call 86; refine (first_any _ _ _ _ _).mono ?_; rintro e w'' ⟨rfl, hb2⟩; have hb3 := hb.trans (hb2.mono hb.size); clear hb hc hf hz; have hb := hb3; clear hb3 hb2; obtain ⟨hc, hf⟩ := bcell hb; have hz : w.heap.size < w''.heap.size := (by have := hb.size; simp at this; omega))
    | (go_at_call 87; refine (one_any _ _ _).mono ?_; rintro e w' ⟨rfl, hb⟩; obtain ⟨hc, hf⟩ := bcell hb; have hz : w.heap.size < w'.heap.size := (by have := hb.size; simp at this; omega))
    | (go_at_call 84; refine (two_any _ _ _ _).mono ?_; rintro e w' ⟨rfl, hb⟩; obtain ⟨hc, hf⟩ := bcell hb; have hz : w.heap.size < w'.heap.size := (by have := hb.size; simp at this; omega))
    | (go_at_call 85; refine (spread_any _ _ (by omega) (by omega)).mono ?_; rintro e w' ⟨rfl, hb⟩; obtain ⟨hc, hf⟩ := bcell hb; have hz : w.heap.size < w'.heap.size := (by have := hb.size; simp at this; omega))
    | (go_at_call 88; refine (shifted_any _ _ _ _ (by omega) (by omega)).mono ?_; rintro e w' ⟨rfl, hb⟩; obtain ⟨hc, hf⟩ := bcell hb; have hz : w.heap.size < w'.heap.size := (by have := hb.size; simp at this; omega))
    | (go_at_call 89; refine (counted_any _ _ _ _ (by omega) (by omega)).mono ?_; rintro e w' ⟨rfl, hb⟩; obtain ⟨hc, hf⟩ := bcell hb; have hz : w.heap.size < w'.heap.size := (by have := hb.size; simp at this; omega))
    | (go_at_call 90; refine (ud_any _ _ _ (by omega) (by omega)).mono ?_; rintro e w' ⟨rfl, hb⟩; obtain ⟨hc, hf⟩ := bcell hb; have hz : w.heap.size < w'.heap.size := (by have := hb.size; simp at this; omega))
    | (go_at_call 91; refine (ua_any _ _ (by omega) (by omega)).mono ?_; rintro e w' ⟨rfl, hb⟩; obtain ⟨hc, hf⟩ := bcell hb; have hz : w.heap.size < w'.heap.size := (by have := hb.size; simp at this; omega)))
  all_goals (first
    | (refine bodyPost_ret (v := .agg #[.int .i64 (groupedT op reg).1, .int .i64 (groupedT op reg).2.1, .int .i64 (groupedT op reg).2.2, .bool false]) ?_ rfl ⟨rfl, ?_⟩
       focus (simp [results, Tryd.results72, go_sem, groupedT, hc, hz, *]; done)
       exact ((((((Below.refl _ _).alloc (Nat.le_refl _) _).trans (hb.mono (by simp))).setCell (by simp) _).setCell (by simp) _).setCell (by simp) _).setCell (by simp) _)
    | (refine bodyPost_ret (v := .agg #[.int .i64 (groupedT op reg).1, .int .i64 (groupedT op reg).2.1, .int .i64 (groupedT op reg).2.2, .bool false]) ?_ rfl ⟨rfl, ?_⟩
       focus (simp [results, Tryd.results72, go_sem, groupedT, *]; done)
       exact (Below.refl _ _).alloc (Nat.le_refl _) _))
end Go.Proofs.YtpngjefdgicmiaaDoor
