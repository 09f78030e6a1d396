/- An instruction as a law's argument. No statement of the seat is proved here. -/
import Derived.Test.YtpngjefdgicmiaaDoorInstM
import Derived.Test.YtpngjefdgicmiaaDoorSame
namespace Go.Proofs.YtpngjefdgicmiaaDoor
open Go.ChangeShapes Go.WideShapes Go.ChangeAt Go.RowKit
set_option linter.unusedVariables false
set_option linter.unusedSimpArgs false

theorem open_inst {w : World} {base : Nat} {v : Value} (h : Value.okWide Tryd.prog w .any base 28 v) : ∃ i : InstZ, i.ok ∧ v = .agg (encI i) := by
  obtain ⟨cs, rfl, hl, hc⟩ := open_flat (ts := [4, 3, 3, 5, 3, 3, 3, 26, 26, 26]) Tryd.underlying28 rfl (by kernel_rfl) (by kernel_rfl) h
  match cs, hl with
  | [c0, c1, c2, c3, c4, c5, c6, c7, c8, c9], _ =>
    obtain ⟨n0, rfl⟩ := cell_bool Tryd.underlying4 (hc 0 _ _ rfl rfl)
    obtain ⟨n1, rfl, b1⟩ := cell_int Tryd.underlying3 (hc 1 _ _ rfl rfl)
    obtain ⟨n2, rfl, b2⟩ := cell_int Tryd.underlying3 (hc 2 _ _ rfl rfl)
    obtain ⟨n3, rfl, b3⟩ := cell_int Tryd.underlying5 (hc 3 _ _ rfl rfl)
    obtain ⟨n4, rfl, b4⟩ := cell_int Tryd.underlying3 (hc 4 _ _ rfl rfl)
    obtain ⟨n5, rfl, b5⟩ := cell_int Tryd.underlying3 (hc 5 _ _ rfl rfl)
    obtain ⟨n6, rfl, b6⟩ := cell_int Tryd.underlying3 (hc 6 _ _ rfl rfl)
    obtain ⟨n7, rfl, b7⟩ := cell_int Tryd.underlying26 (hc 7 _ _ rfl rfl)
    obtain ⟨n8, rfl, b8⟩ := cell_int Tryd.underlying26 (hc 8 _ _ rfl rfl)
    obtain ⟨n9, rfl, b9⟩ := cell_int Tryd.underlying26 (hc 9 _ _ rfl rfl)
    exact ⟨⟨n0, n1, n2, n3, n4, n5, n6, n7, n8, n9⟩, ⟨b1, b2, b3, b4, b5, b6, b7, b8, b9⟩, rfl⟩

end Go.Proofs.YtpngjefdgicmiaaDoor
