




/- 'awake' of hansomlaw12, over the contracts of package world. No statement of the seat is proved here. -/
import Derived.Test.YtcbjhakdejdgcaaWd
import Derived.Test.YtcbjhakdejdgcaaActs
import Derived.Test.YtcbjhakdejdgcaaSrc
import Derived.Deep.DeepCutAuto
import Derived.Deep.CutBlock
namespace Go.Proofs.Ytcbjhakdejdgcaa
open Go.ChangeShapes Go.WideShapes Go.ChangeAt Go.RowKit
set_option linter.unusedVariables false
set_option linter.unusedSimpArgs false

theorem tIntE : OneTy Try.prog 3 := .of Try.underlying3 rfl (by kernel_rfl)
theorem tBoolE : OneTy Try.prog 4 := .of Try.underlying4 rfl (by kernel_rfl)
theorem bW1 (x : Int) : BuiltS Try.prog 22 1 [(0, .int .u16 x)] 27 #[.int .u16 x] := ⟨fun w => by simp [go_sem]⟩
theorem rd_one {w0 w : World} {l : List RowT} {g : Nat} (hR : Own w0 w l) (hm : (g, #[.int .u16 7], 27) ∈ l) : Rd w 1 (.slice (some ⟨g, 0, none⟩) 1 1) [(7 : Int)].length (wordL [7]) := by
  have h : Sl 27 1 [(g, #[.int .u16 7], 27)] (.slice (some ⟨g, 0, none⟩) 1 1) 1 (wordL [7]) := (RwIs.all rfl (by decide)).sl
  exact h.rd hR (fun r hr => by rw [List.mem_singleton.1 hr]; exact hm) (wordL_one _)
theorem word7 : ∀ n ∈ [(7 : Int)], 0 ≤ n ∧ n ≤ 65535 := by decide
set_option maxHeartbeats 1000000 in
theorem awake12_any (w0 : World) :
    Calls Try.prog 11 #[] w0 fun e w' => e = .returned (.bool true) ∧ Below w0.heap.size w0 w' := by
  have hR := Own.start w0
  go_enter Try.func11, Try.ntmps11
  go_wp2_with (first
    | ((with_reducible apply wpList_buildS hR); exact rfl; exact rfl; (exact bW1 _); clear hR; intro g w hR; simp only [List.set_cons_succ, List.set_cons_zero]))
  refine (newW_any word7 (rd_one hR (.head _)) (by decide)).mono ?_
  rintro e w' ⟨L, v, rfl, hL, hW⟩
  replace hR := hR.join hL
  clear hL
  go_wp2_with fail
  refine (intW_any hR Les.head hW word7 (by decide) 33 19457 0 0 0 (by decide) (by decide) (by decide) (by decide) (by decide)).mono ?_
  clear hR
  rw [show endsZ 33 19457 = true by decide]
  rintro e w' ⟨rfl, L1, hR, hW1⟩
  clear hW
  go_wp2_with fail
  refine (inW_any hR Les.head hW1 word7 (by decide) 5 true (by decide)).mono ?_
  clear hR
  rintro e w' ⟨rfl, L2, hR, hW2⟩
  clear hW1
  rw [show inZ [7] (bif true then 0 else 0 + 1) true = 7 by decide] at *
  go_wp2_with fail
  refine (inW_any hR Les.head hW2 word7 (by decide) 5 true (by decide)).mono ?_
  clear hR
  rintro e w' ⟨rfl, L3, hR, hW3⟩
  clear hW2
  rw [show inZ [7] ((bif true then 0 else 0 + 1) + 1) true = 0 by decide] at *
  go_wp2_with fail
  refine (usedW_any hR Les.head hW3).mono ?_
  rintro e w' ⟨rfl, hb⟩
  replace hR := hR.grow hb
  clear hb
  go_wp2_with fail
  refine (eventsW_any hR Les.head hW3 (by decide)).mono ?_
  clear hR
  rintro e w' ⟨s, ve, rfl, hR, hS⟩
  clear hW3
  rcases hS.way with ⟨_, _, h0⟩ | ⟨g2, cap, cur, _, rfl, _⟩
  · exact absurd h0 (by decide)
  · go_wp2_with fail
    go_ret
    exact ⟨rfl, hR.below⟩
end Go.Proofs.Ytcbjhakdejdgcaa
