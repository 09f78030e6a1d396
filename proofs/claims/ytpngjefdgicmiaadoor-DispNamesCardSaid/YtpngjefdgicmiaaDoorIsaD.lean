/- Contracts of package isa's tables (row): each returns the row that its table ('..T') gives, and makes new memory only. No statement of the seat is proved here. -/
import Derived.Test.YtpngjefdgicmiaaDoorIsaC
import Derived.Test.YtpngjefdgicmiaaDoorIsaB1
import Derived.Test.YtpngjefdgicmiaaDoorIsaB2
import Derived.Test.YtpngjefdgicmiaaDoorIsaB3
import Derived.Test.YtpngjefdgicmiaaDoorIsaB4
import Derived.Test.YtpngjefdgicmiaaDoorIsaB5
import Derived.Test.YtpngjefdgicmiaaDoorIsaB6
import Derived.Test.YtpngjefdgicmiaaDoorIsaB8
namespace Go.Proofs.YtpngjefdgicmiaaDoor
open Go.ChangeShapes Go.WideShapes Go.ChangeAt Go.RowKit
set_option linter.unusedVariables false
set_option linter.unusedSimpArgs false

/-- The row of a first byte, that does not yet know of a second one. -/
def rowT (op reg : Int) : Int × Int × Int :=
  bif grpB op then groupedT op reg else
  bif ltB op 64 then sumT op else
  bif ltB op 128 then shortT op else
  bif ltB op 144 then moveT op reg else
  bif ltB op 160 then singleT op else
  bif ltB op 192 then heldT op else
  bif ltB op 224 then leavingT op else
  lastT op
set_option maxHeartbeats 4000000 in
theorem row_any (op reg : Int) (w : World) (h0 : 0 ≤ op) (h1 : op ≤ 255) (g0 : 0 ≤ reg) (g1 : reg ≤ 7) :
    Calls Tryd.prog 61 #[.int .u8 op, .int .i64 reg] w fun e w' => e = .returned (.agg #[.int .i64 (rowT op reg).1, .int .i64 (rowT op reg).2.1, .int .i64 (rowT op reg).2.2, .bool false]) ∧ Below w.heap.size w w' := by
  rcases Bool.eq_false_or_eq_true (grpB op) with hg | hg
  · have hT : rowT op reg = groupedT op reg := by simp [rowT, *]
    rw [hT]; clear hT
    go_enter Tryd.func61, Tryd.ntmps61
    go_wp2_with (first
    | (go_at_call 71; refine (grp_any _ _).mono ?_; rintro e w' ⟨rfl, rfl⟩)
    | (go_at_call 72; refine (grouped_any _ _ _ (by omega) (by omega) (by omega) (by omega)).mono ?_; rintro e w' ⟨rfl, hb⟩; obtain ⟨hc, hf⟩ := bcell hb; have hz : w.heap.size < w'.heap.size := (by have := hb.size; simp at this; omega)))
    refine bodyPost_ret (v := .agg #[.int .i64 (groupedT op reg).1, .int .i64 (groupedT op reg).2.1, .int .i64 (groupedT op reg).2.2, .bool false]) (by simp [results, Tryd.results61, go_sem, hc, hz]) rfl ⟨rfl, ?_⟩
    exact ((((((Below.refl _ _).alloc (Nat.le_refl _) _).trans (hb.mono (by simp))).setCell (by simp) _).setCell (by simp) _).setCell (by simp) _).setCell (by simp) _
  · by_cases h64 : op < 64
    · have q64 : ltB op 64 = true := decide_eq_true h64
      have hT : rowT op reg = sumT op := by simp [rowT, *]
      rw [hT]; clear hT
      go_enter Tryd.func61, Tryd.ntmps61
      go_wp2_with (first
    | (go_at_call 71; refine (grp_any _ _).mono ?_; rintro e w' ⟨rfl, rfl⟩)
    | (go_at_call 73; refine (sum_any _ _ (by omega) (by omega)).mono ?_; rintro e w' ⟨rfl, hb⟩; obtain ⟨hc, hf⟩ := bcell hb; have hz : w.heap.size < w'.heap.size := (by have := hb.size; simp at this; omega)))
      refine bodyPost_ret (v := .agg #[.int .i64 (sumT op).1, .int .i64 (sumT op).2.1, .int .i64 (sumT op).2.2, .bool false]) (by simp [results, Tryd.results61, go_sem, hc, hz]) rfl ⟨rfl, ?_⟩
      exact ((((((Below.refl _ _).alloc (Nat.le_refl _) _).trans (hb.mono (by simp))).setCell (by simp) _).setCell (by simp) _).setCell (by simp) _).setCell (by simp) _
    · have q64 : ltB op 64 = false := decide_eq_false h64
      by_cases h128 : op < 128
      · have q128 : ltB op 128 = true := decide_eq_true h128
        have hT : rowT op reg = shortT op := by simp [rowT, *]
        rw [hT]; clear hT
        go_enter Tryd.func61, Tryd.ntmps61
        go_wp2_with (first
    | (go_at_call 71; refine (grp_any _ _).mono ?_; rintro e w' ⟨rfl, rfl⟩)
    | (go_at_call 74; refine (short_any _ _ (by omega) (by omega)).mono ?_; rintro e w' ⟨rfl, hb⟩; obtain ⟨hc, hf⟩ := bcell hb; have hz : w.heap.size < w'.heap.size := (by have := hb.size; simp at this; omega)))
        refine bodyPost_ret (v := .agg #[.int .i64 (shortT op).1, .int .i64 (shortT op).2.1, .int .i64 (shortT op).2.2, .bool false]) (by simp [results, Tryd.results61, go_sem, hc, hz]) rfl ⟨rfl, ?_⟩
        exact ((((((Below.refl _ _).alloc (Nat.le_refl _) _).trans (hb.mono (by simp))).setCell (by simp) _).setCell (by simp) _).setCell (by simp) _).setCell (by simp) _
      · have q128 : ltB op 128 = false := decide_eq_false h128
        by_cases h144 : op < 144
        · have q144 : ltB op 144 = true := decide_eq_true h144
          have hT : rowT op reg = moveT op reg := by simp [rowT, *]
          rw [hT]; clear hT
          go_enter Tryd.func61, Tryd.ntmps61
          go_wp2_with (first
    | (go_at_call 71; refine (grp_any _ _).mono ?_; rintro e w' ⟨rfl, rfl⟩)
    | (go_at_call 75; refine (move_any _ _ _ (by omega) (by omega) (by omega) (by omega)).mono ?_; rintro e w' ⟨rfl, hb⟩; obtain ⟨hc, hf⟩ := bcell hb; have hz : w.heap.size < w'.heap.size := (by have := hb.size; simp at this; omega)))
          refine bodyPost_ret (v := .agg #[.int .i64 (moveT op reg).1, .int .i64 (moveT op reg).2.1, .int .i64 (moveT op reg).2.2, .bool false]) (by simp [results, Tryd.results61, go_sem, hc, hz]) rfl ⟨rfl, ?_⟩
          exact ((((((Below.refl _ _).alloc (Nat.le_refl _) _).trans (hb.mono (by simp))).setCell (by simp) _).setCell (by simp) _).setCell (by simp) _).setCell (by simp) _
        · have q144 : ltB op 144 = false := decide_eq_false h144
          by_cases h160 : op < 160
          · have q160 : ltB op 160 = true := decide_eq_true h160
            have hT : rowT op reg = singleT op := by simp [rowT, *]
            rw [hT]; clear hT
            go_enter Tryd.func61, Tryd.ntmps61
            go_wp2_with (first
    | (go_at_call 71; refine (grp_any _ _).mono ?_; rintro e w' ⟨rfl, rfl⟩)
    | (go_at_call 76; refine (single_any _ _ (by omega) (by omega)).mono ?_; rintro e w' ⟨rfl, hb⟩; obtain ⟨hc, hf⟩ := bcell hb; have hz : w.heap.size < w'.heap.size := (by have := hb.size; simp at this; omega)))
            refine bodyPost_ret (v := .agg #[.int .i64 (singleT op).1, .int .i64 (singleT op).2.1, .int .i64 (singleT op).2.2, .bool false]) (by simp [results, Tryd.results61, go_sem, hc, hz]) rfl ⟨rfl, ?_⟩
            exact ((((((Below.refl _ _).alloc (Nat.le_refl _) _).trans (hb.mono (by simp))).setCell (by simp) _).setCell (by simp) _).setCell (by simp) _).setCell (by simp) _
          · have q160 : ltB op 160 = false := decide_eq_false h160
            by_cases h192 : op < 192
            · have q192 : ltB op 192 = true := decide_eq_true h192
              have hT : rowT op reg = heldT op := by simp [rowT, *]
              rw [hT]; clear hT
              go_enter Tryd.func61, Tryd.ntmps61
              go_wp2_with (first
    | (go_at_call 71; refine (grp_any _ _).mono ?_; rintro e w' ⟨rfl, rfl⟩)
    | (go_at_call 77; refine (held_any _ _ (by omega) (by omega)).mono ?_; rintro e w' ⟨rfl, hb⟩; obtain ⟨hc, hf⟩ := bcell hb; have hz : w.heap.size < w'.heap.size := (by have := hb.size; simp at this; omega)))
              refine bodyPost_ret (v := .agg #[.int .i64 (heldT op).1, .int .i64 (heldT op).2.1, .int .i64 (heldT op).2.2, .bool false]) (by simp [results, Tryd.results61, go_sem, hc, hz]) rfl ⟨rfl, ?_⟩
              exact ((((((Below.refl _ _).alloc (Nat.le_refl _) _).trans (hb.mono (by simp))).setCell (by simp) _).setCell (by simp) _).setCell (by simp) _).setCell (by simp) _
            · have q192 : ltB op 192 = false := decide_eq_false h192
              by_cases h224 : op < 224
              · have q224 : ltB op 224 = true := decide_eq_true h224
                have hT : rowT op reg = leavingT op := by simp [rowT, *]
                rw [hT]; clear hT
                go_enter Tryd.func61, Tryd.ntmps61
                go_wp2_with (first
    | (go_at_call 71; refine (grp_any _ _).mono ?_; rintro e w' ⟨rfl, rfl⟩)
    | (go_at_call 78; refine (leaving_any _ _ (by omega) (by omega)).mono ?_; rintro e w' ⟨rfl, hb⟩; obtain ⟨hc, hf⟩ := bcell hb; have hz : w.heap.size < w'.heap.size := (by have := hb.size; simp at this; omega)))
                refine bodyPost_ret (v := .agg #[.int .i64 (leavingT op).1, .int .i64 (leavingT op).2.1, .int .i64 (leavingT op).2.2, .bool false]) (by simp [results, Tryd.results61, go_sem, hc, hz]) rfl ⟨rfl, ?_⟩
                exact ((((((Below.refl _ _).alloc (Nat.le_refl _) _).trans (hb.mono (by simp))).setCell (by simp) _).setCell (by simp) _).setCell (by simp) _).setCell (by simp) _
              · have q224 : ltB op 224 = false := decide_eq_false h224
                have hT : rowT op reg = lastT op := by simp [rowT, *]
                rw [hT]; clear hT
                go_enter Tryd.func61, Tryd.ntmps61
                go_wp2_with (first
    | (go_at_call 71; refine (grp_any _ _).mono ?_; rintro e w' ⟨rfl, rfl⟩)
    | (go_at_call 79; refine (last_any _ _ (by omega) (by omega)).mono ?_; rintro e w' ⟨rfl, hb⟩; obtain ⟨hc, hf⟩ := bcell hb; have hz : w.heap.size < w'.heap.size := (by have := hb.size; simp at this; omega)))
                refine bodyPost_ret (v := .agg #[.int .i64 (lastT op).1, .int .i64 (lastT op).2.1, .int .i64 (lastT op).2.2, .bool false]) (by simp [results, Tryd.results61, go_sem, hc, hz]) rfl ⟨rfl, ?_⟩
                exact ((((((Below.refl _ _).alloc (Nat.le_refl _) _).trans (hb.mono (by simp))).setCell (by simp) _).setCell (by simp) _).setCell (by simp) _).setCell (by simp) _
end Go.Proofs.YtpngjefdgicmiaaDoor
