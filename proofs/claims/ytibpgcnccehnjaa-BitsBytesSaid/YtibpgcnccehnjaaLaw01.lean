/- Contract of 'awake' of hansomlaw01: it returns true, and makes new memory only. -/
import Derived.Test.YtibpgcnccehnjaaUp
namespace Go.Proofs.Ytibpgcnccehnjaa
open Go.ChangeShapes Go.WideShapes Go.ChangeAt Go.RowKit

theorem digits_one (w : World) :
    Calls Try.prog 23 #[.int .u32 6699, .int .i64 4] w fun e w' => e = .returned (.string ⟨#[49, 65, 50, 66]⟩) ∧ Below w.heap.size w w' :=
  (digits_any 6699 4 w (by omega) (by omega)).mono fun e w' ⟨h, hb⟩ => ⟨by rw [h]; rfl, hb⟩

set_option maxHeartbeats 400000 in
theorem awake01_any (w : World) :
    Calls Try.prog 6 #[] w fun e w' => e = .returned (.bool true) ∧ Below w.heap.size w w' := by
  have he : onesZ 8 3 % 2 = 0 := by decide
  have hp : parasZ 17 = 2 := by decide
  go_enter Try.func6, Try.ntmps6
  go_wp2_with (first
    | (go_at_call 23; refine (digits_one _).mono ?_; rintro e w' ⟨rfl, hb⟩)
    | (go_at_call 17; refine (linear_any _ _ _ (by omega) (by omega) (by omega) (by omega)).mono ?_; rintro e w' ⟨rfl, rfl⟩)
    | (go_at_call 13; refine (word_any _ _ _ (by omega) (by omega) (by omega) (by omega)).mono ?_; rintro e w' ⟨rfl, rfl⟩)
    | (go_at_call 14; refine (even_any _ _ (by omega) (by omega)).mono ?_; rintro e w' ⟨rfl, rfl⟩)
    | (go_at_call 20; refine (paras_any _ _ (by omega) (by omega)).mono ?_; rintro e w' ⟨rfl, rfl⟩))
  go_ret
  exact ⟨rfl, hb⟩

end Go.Proofs.Ytibpgcnccehnjaa
