







/- Contracts of long.Decimal and long.Adjust: each returns what plain arithmetic gives. No statement of the seat is proved here. -/
import Derived.Test.YtpkobahelnopmaaLongE
namespace Go.Proofs.Ytpkobahelnopmaa
open Go.ChangeShapes Go.WideShapes Go.ChangeAt Go.RowKit
set_option linter.unusedVariables false
set_option linter.unusedSimpArgs false

theorem dec_13 (ax was : Nat) (w : World) (hx : ax ≤ 65535) (hw : was ≤ 65535) :
    Calls Try.prog 14 #[.int .i64 13, .int .u16 ax, .int .u16 was] w fun e w' => e = .returned (.tuple #[.int .u16 (decX 13 ax was + 256 * decY 13 ax was : Nat), .int .u16 (decF 13 ax was : Nat), .bool true]) ∧ Below w.heap.size w w' := by
  have hR := Own.start w
  have H := Lib.hid (fun w => one_more ax was w hx hw)
  unfold funV at H
  generalize decX 13 ax was + 256 * decY 13 ax was = X at *
  generalize decF 13 ax was = F at *
  go_enter Try.func14, Try.ntmps14
  go_wp2_with (first
    | (go_at_call 27; refine (H.out _).mono ?_; rintro e w' ⟨rfl, rfl⟩))
  go_ret3
  exact ⟨rfl, hR.below⟩
theorem dec_14 (ax was : Nat) (w : World) (hx : ax ≤ 65535) (hw : was ≤ 65535) :
    Calls Try.prog 14 #[.int .i64 14, .int .u16 ax, .int .u16 was] w fun e w' => e = .returned (.tuple #[.int .u16 (decX 14 ax was + 256 * decY 14 ax was : Nat), .int .u16 (decF 14 ax was : Nat), .bool true]) ∧ Below w.heap.size w w' := by
  have hR := Own.start w
  have H := Lib.hid (fun w => one_less ax was w hx hw)
  unfold funV at H
  generalize decX 14 ax was + 256 * decY 14 ax was = X at *
  generalize decF 14 ax was = F at *
  go_enter Try.func14, Try.ntmps14
  go_wp2_with (first
    | (go_at_call 27; refine (H.out _).mono ?_; rintro e w' ⟨rfl, rfl⟩))
  go_ret3
  exact ⟨rfl, hR.below⟩
theorem dec_11 (ax was : Nat) (w : World) (hx : ax ≤ 65535) (hw : was ≤ 65535) :
    Calls Try.prog 14 #[.int .i64 11, .int .u16 ax, .int .u16 was] w fun e w' => e = .returned (.tuple #[.int .u16 (decX 11 ax was + 256 * decY 11 ax was : Nat), .int .u16 (decF 11 ax was : Nat), .bool true]) ∧ Below w.heap.size w w' := by
  have hR := Own.start w
  have H := Lib.hid (fun w => two_more ax was w hx hw)
  unfold funV at H
  generalize decX 11 ax was + 256 * decY 11 ax was = X at *
  generalize decF 11 ax was = F at *
  go_enter Try.func14, Try.ntmps14
  go_wp2_with (first
    | (go_at_call 30; refine (H.out _).mono ?_; rintro e w' ⟨rfl, hb⟩; replace hR := hR.grow hb; clear hb))
  go_ret3
  exact ⟨rfl, hR.below⟩
theorem dec_12 (ax was : Nat) (w : World) (hx : ax ≤ 65535) (hw : was ≤ 65535) :
    Calls Try.prog 14 #[.int .i64 12, .int .u16 ax, .int .u16 was] w fun e w' => e = .returned (.tuple #[.int .u16 (decX 12 ax was + 256 * decY 12 ax was : Nat), .int .u16 (decF 12 ax was : Nat), .bool true]) ∧ Below w.heap.size w w' := by
  have hR := Own.start w
  have H := Lib.hid (fun w => two_less ax was w hx hw)
  unfold funV at H
  generalize decX 12 ax was + 256 * decY 12 ax was = X at *
  generalize decF 12 ax was = F at *
  go_enter Try.func14, Try.ntmps14
  go_wp2_with (first
    | (go_at_call 30; refine (H.out _).mono ?_; rintro e w' ⟨rfl, hb⟩; replace hR := hR.grow hb; clear hb))
  go_ret3
  exact ⟨rfl, hR.below⟩
theorem decD_any (nm ax was : Nat) (w : World) (h1 : 11 ≤ nm) (h2 : nm ≤ 14) (hx : ax ≤ 65535) (hw : was ≤ 65535) :
    Calls Try.prog 14 #[.int .i64 nm, .int .u16 ax, .int .u16 was] w fun e w' => e = .returned (.tuple #[.int .u16 (decX nm ax was + 256 * decY nm ax was : Nat), .int .u16 (decF nm ax was : Nat), .bool true]) ∧ Below w.heap.size w w' := by
  rcases (by omega : nm = 11 ∨ nm = 12 ∨ nm = 13 ∨ nm = 14) with rfl | rfl | rfl | rfl
  · exact dec_11 ax was w hx hw
  · exact dec_12 ax was w hx hw
  · exact dec_13 ax was w hx hw
  · exact dec_14 ax was w hx hw
theorem and2065 {was : Nat} (h : was ≤ 65535) : bits .and .u16 (was : Int) 2065 = (was &&& 2065 : Nat) := andM was 2065 h (by decide)
theorem adj_or (was v : Nat) (h : was ≤ 65535) : bits .or .u16 (bits .and .u16 (was : Int) 2065) (signsN false v : Nat) = (adjF v was : Nat) := by
  have hs : signsN false v ≤ 65535 := Nat.le_trans (flagsN_le _ _ _ _ _ _) (by decide)
  rw [and2065 h, orM _ _ (and_le' (by decide)) hs, flags_adj]; rfl
theorem adjD_m (ax was : Nat) (w : World) (hx : ax ≤ 65535) (hw : was ≤ 65535) :
    Calls Try.prog 15 #[.int .i64 70, .int .u16 ax, .int .u16 was] w fun e w' => e = .returned (.tuple #[.int .u16 (adjM ax : Nat), .int .u16 (adjF (ax % 256 % 10) was : Nat), .bool true]) ∧ Below w.heap.size w w' := by
  have HF := Lib.hid (adj_or was (ax % 256 % 10) hw)
  have HM : Hid (adjM ax = ax % 256 % 10 + ax % 256 / 10 * 256) := Lib.hid rfl
  have HL := Lib.hid (fun w => lowN_any ax w hx)
  have HH := Lib.hid (fun w => highN_any ax w hx)
  have hl1 : ax % 256 ≤ 255 := by omega
  have hh1 : ax / 256 ≤ 255 := by omega
  generalize adjM ax = M at *
  generalize ax % 256 = l at *
  generalize ax / 256 = h at *
  generalize hv : l % 10 = v at *
  generalize adjF v was = F at *
  have HV := Lib.hid hv
  clear hv
  go_enter Try.func15, Try.ntmps15
  go_wp2_with (first
    | (go_at_call 31; refine (HL.out _).mono ?_; rintro e w' ⟨rfl, rfl⟩)
    | (go_at_call 32; refine (HH.out _).mono ?_; rintro e w' ⟨rfl, rfl⟩)
    | (go_at_call 33; refine (word_any _ _ _ (by omega) (by omega) (by omega) (by omega)).mono ?_; rintro e w' ⟨rfl, rfl⟩)
    | (go_at_call 34; refine (signsA_any _ v _ (by have := HV.out; omega) (by have := HV.out; omega)).mono ?_; rintro e w' ⟨rfl, rfl⟩))
  go_ret3
  exact ⟨ret_mul (by have := HM.out; have := HV.out; omega) HF.out rfl, Below.refl _ _⟩
theorem adjD_d (ax was : Nat) (w : World) (hx : ax ≤ 65535) (hw : was ≤ 65535) :
    Calls Try.prog 15 #[.int .i64 71, .int .u16 ax, .int .u16 was] w fun e w' => e = .returned (.tuple #[.int .u16 (adjD ax : Nat), .int .u16 (adjF (adjD ax) was : Nat), .bool true]) ∧ Below w.heap.size w w' := by
  have HF := Lib.hid (adj_or was (adjD ax) hw)
  have HM : Hid (adjD ax = (ax % 256 + 10 * (ax / 256)) % 256) := Lib.hid rfl
  have HL := Lib.hid (fun w => lowN_any ax w hx)
  have HH := Lib.hid (fun w => highN_any ax w hx)
  have hl1 : ax % 256 ≤ 255 := by omega
  have hh1 : ax / 256 ≤ 255 := by omega
  generalize adjD ax = v at *
  generalize ax % 256 = l at *
  generalize ax / 256 = h at *
  generalize adjF v was = F at *
  go_enter Try.func15, Try.ntmps15
  go_wp2_with (first
    | (go_at_call 31; refine (HL.out _).mono ?_; rintro e w' ⟨rfl, rfl⟩)
    | (go_at_call 32; refine (HH.out _).mono ?_; rintro e w' ⟨rfl, rfl⟩)
    | (go_at_call 33; refine (word_any _ _ _ (by omega) (by omega) (by omega) (by omega)).mono ?_; rintro e w' ⟨rfl, rfl⟩)
    | (go_at_call 34; refine (signsA_any _ v _ (by have := HM.out; omega) (by have := HM.out; omega)).mono ?_; rintro e w' ⟨rfl, rfl⟩))
  go_ret3
  exact ⟨ret_mul (by have := HM.out; omega) HF.out rfl, Below.refl _ _⟩
theorem adjD_not (name : Int) (ax was : Nat) (w : World) (h : name ≠ 70 ∧ name ≠ 71) (hx : ax ≤ 65535) (hw : was ≤ 65535) :
    Calls Try.prog 15 #[.int .i64 name, .int .u16 ax, .int .u16 was] w fun e w' => e = .returned (.tuple #[.int .u16 0, .int .u16 0, .bool false]) ∧ Below w.heap.size w w' := by
  obtain ⟨n1, n2⟩ := h
  have HL := Lib.hid (fun w => lowN_any ax w hx)
  have HH := Lib.hid (fun w => highN_any ax w hx)
  go_enter Try.func15, Try.ntmps15
  go_wp2_with (first
    | (go_at_call 31; refine (HL.out _).mono ?_; rintro e w' ⟨rfl, rfl⟩)
    | (go_at_call 32; refine (HH.out _).mono ?_; rintro e w' ⟨rfl, rfl⟩)
    | (go_at_call 33; refine (word_any _ _ _ (by omega) (by omega) (by omega) (by omega)).mono ?_; rintro e w' ⟨rfl, rfl⟩))
  go_ret3
  exact ⟨rfl, Below.refl _ _⟩
end Go.Proofs.Ytpkobahelnopmaa
