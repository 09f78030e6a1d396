/- What the three laws of hansomlaw04 call, in the form in which they use it; 'awake'. No statement of the seat is proved here. -/
import Derived.Test.YtbmngikhhnnhbaaTab
import Derived.Test.YtbmngikhhnnhbaaKinds
import Derived.Deep.DeepCutAuto
namespace Go.Proofs.Ytbmngikhhnnhbaa
open Go.ChangeShapes Go.WideShapes Go.ChangeAt Go.RowKit

theorem of_90 (w : World) : Calls Try.prog 6 #[.int .u8 144, .int .i64 0] w fun e w' => e = .returned (.tuple #[.agg #[.int .i64 34, .int .i64 16, .int .i64 22, .bool false], .bool true]) ∧ Below w.heap.size w w' :=
  (of_k 144 0 0 w (by decide) (by decide) (and7_small 0 (by decide))).mono fun e w' ⟨he, hb⟩ => ⟨by rw [he, show ofR 144 0 = (34, 16, 22, false, true) by decide +kernel], hb⟩
theorem of_0f (w : World) : Calls Try.prog 6 #[.int .u8 15, .int .i64 0] w fun e w' => e = .returned (.tuple #[.agg #[.int .i64 0, .int .i64 0, .int .i64 0, .bool false], .bool false]) ∧ Below w.heap.size w w' :=
  (of_k 15 0 0 w (by decide) (by decide) (and7_small 0 (by decide))).mono fun e w' ⟨he, hb⟩ => ⟨by rw [he, show ofR 15 0 = (0, 0, 0, false, false) by decide +kernel], hb⟩
theorem pref_f3 (w : World) : Calls Try.prog 17 #[.int .u8 243] w fun e w' => e = .returned (.bool true) ∧ w = w' := prefix_any 243 w
theorem imm_ap (w : World) : Calls Try.prog 14 #[.int .i64 11] w fun e w' => e = .returned (.int .i64 4) ∧ w = w' := immediate_any 11 w

set_option maxHeartbeats 1000000 in
theorem awake_any (w : World) : Calls Try.prog 8 #[] w fun e w' => e = .returned (.bool true) ∧ Below w.heap.size w w' := by
  go_enter Try.func8, Try.ntmps8
  go_wp2_with fail
  refine (of_90 _).mono ?_; rintro e w1 ⟨rfl, hb1⟩
  have hz1 := hb1.size
  go_wp2_with fail
  refine (of_0f _).mono ?_; rintro e w2 ⟨rfl, hb2⟩
  obtain ⟨hc, hf⟩ := bcell hb2
  have hz2 : w1.heap.size < w2.heap.size := by have := hb2.size; simp at this; omega
  go_wp2_with (first
    | (go_at_call 17; refine (pref_f3 _).mono ?_; rintro e w' ⟨rfl, rfl⟩)
    | (go_at_call 14; refine (imm_ap _).mono ?_; rintro e w' ⟨rfl, rfl⟩))
  go_ret
  exact ⟨rfl, ((hb1.alloc hz1 _).trans (hb2.mono (by simp; omega))).alloc (by omega) _⟩

theorem grpR_same (op : Nat) (w : World) (h1 : op ≤ 255) :
    Calls Try.prog 10 #[.int .u8 op] w fun e w' => e = .returned (.bool (grpB op)) ∧ w = w' := by
  rw [fact_grp op (by omega)]; exact grpR_any op w h1
theorem two_same (op : Nat) (w : World) (h1 : op ≤ 255) :
    Calls Try.prog 11 #[.int .u8 op] w fun e w' => e = .returned (.bool (twoO op 8)) ∧ Below w.heap.size w w' := by
  rw [← fact_two op (by omega)]; exact two_op op w (by omega) (by omega)
theorem rep_same (n : Int) (w : World) :
    Calls Try.prog 13 #[.int .i64 n] w fun e w' => e = .returned (.int .i64 (repZ n)) ∧ w = w' := by
  rw [← fact_rep n]; exact repR_any n w
theorem imm_same (n : Int) (w : World) :
    Calls Try.prog 15 #[.int .i64 n] w fun e w' => e = .returned (.int .i64 (immZ n)) ∧ w = w' := by
  rw [← fact_imm n]; exact bytesR_any n w
theorem val_bool {a b : Bool} (h : a = b) : Value.bool a = Value.bool b := by rw [h]
theorem info_row : (Try.prog.info? 23).map (fun i => (i.size, i.bytes)) = some (4, 32) := by kernel_rfl
end Go.Proofs.Ytbmngikhhnnhbaa
