/-
  DERIVED. GIVEN WITH THE SEED: THE PROGRAM's TIES (one call each: nine closed facts by the kernel) AND EACH ROW's TIE, after the 31st guide's Derived/Test/Toyas{Tie, Card}.lean. No idea stands in it: it is a product of the set-up. Laid BY PROGRAM, IN A SANDBOX (cutbox-door.mjs). By AI agents, Wed Nov 11 2026. No macro, syntax, notation, axiom, sorry.
-/
import Derived.Test.YtpngjefdgicmiaaDoorRows
import Derived.LaidByTextLater
import Derived.SevenTiedAt
import Derived.LaidSub
import Derived.LaidOnce
namespace Go.Proofs.YtpngjefdgicmiaaDoor
open Go
set_option maxRecDepth 100000
theorem seatTie1 : Tryd.prog.laidByTextLater [("unicode.White_Space", Rows.laid_unicode_White_Space), ("strings.asciiSpace", Rows.laid_strings_asciiSpace), ("hansom/disp.repeats", Rows.laid_hansom_disp_repeats), ("hansom/disp.fixed", Rows.laid_hansom_disp_fixed), ("hansom/disp.sizes", Rows.laid_hansom_disp_sizes), ("hansom/disp.counts", Rows.laid_hansom_disp_counts)] [.listed, .data, .data, .data, .data, .data] true :=
  Program.laidByTextLater_by_one 53 8 257 (by kernel_rfl) (by kernel_rfl) (by kernel_rfl) (by kernel_rfl) (by kernel_rfl) (by kernel_rfl) (fun _ _ => by kernel_rfl)
theorem noOwnUnsafe : Tryd.pinned.checked.prog.headLifts.contains "ownunsafe" = false := by kernel_rfl
theorem tie : Tryd.prog.laidByTextLater [("unicode.White_Space", Rows.laid_unicode_White_Space), ("strings.asciiSpace", Rows.laid_strings_asciiSpace), ("hansom/disp.repeats", Rows.laid_hansom_disp_repeats), ("hansom/disp.fixed", Rows.laid_hansom_disp_fixed), ("hansom/disp.sizes", Rows.laid_hansom_disp_sizes), ("hansom/disp.counts", Rows.laid_hansom_disp_counts)] [.listed, .data, .data, .data, .data, .data] true :=
  Program.laidByTextLater.sub seatTie1 ["unicode.White_Space", "strings.asciiSpace", "hansom/disp.repeats", "hansom/disp.fixed", "hansom/disp.sizes", "hansom/disp.counts"] (by kernel_rfl) (by kernel_rfl)
theorem dispNames_row_tie : Rows.dispNamesRow.laidByTextAt .later Tryd.pinned [.listed, .data, .data, .data, .data, .data] true :=
  OpenClaim.laidByTextAt_later rfl rfl tie noOwnUnsafe
theorem dispOwn_row_tie : Rows.dispOwnRow.laidByTextAt .later Tryd.pinned [.listed, .data, .data, .data, .data, .data] true :=
  OpenClaim.laidByTextAt_later rfl rfl tie noOwnUnsafe
theorem dispNamesUpto_row_tie : Rows.dispNamesUptoRow.laidByTextAt .later Tryd.pinned [.listed, .data, .data, .data, .data, .data] true :=
  OpenClaim.laidByTextAt_later rfl rfl tie noOwnUnsafe
theorem dispOwnUpto_row_tie : Rows.dispOwnUptoRow.laidByTextAt .later Tryd.pinned [.listed, .data, .data, .data, .data, .data] true :=
  OpenClaim.laidByTextAt_later rfl rfl tie noOwnUnsafe
end Go.Proofs.YtpngjefdgicmiaaDoor
