









/- Contracts of strconv.Atoi at one or two digits, and of the reference's Toks. No statement of the seat is proved here. -/
import Derived.Test.YtckkgooabnlooaaDoorExpS
namespace Go.Proofs.YtckkgooabnlooaaDoor
open Go.ChangeShapes Go.WideShapes Go.ChangeAt Go.RowKit
set_option linter.unusedVariables false
set_option linter.unusedSimpArgs false
set_option maxRecDepth 100000

def digZ (a : Int) : Prop := 48 ≤ a ∧ a ≤ 57
theorem atoiE_one {a : Int} (ha : digZ a) (w0 : World) : Calls Tryd.prog 26 #[.string (strOfNums [a])] w0 fun e w' => e = .returned (.tuple #[.int .i64 (a - 48), .nilIface]) ∧ Below w0.heap.size w0 w' := by
  have hR := Own.start w0
  obtain ⟨h1, h2⟩ := ha
  have hs : bytesOk [a] := .cons ⟨by omega, by omega⟩ .nil
  have HM0 := Lib.hid (show cmpB .eql a 45 = some false from congrArg some (decide_eq_false (by omega)))
  have HP := Lib.hid (show cmpB .eql a 43 = some false from congrArg some (decide_eq_false (by omega)))
  obtain ⟨x, hx⟩ : ∃ x, a - 48 = x := ⟨_, rfl⟩
  have HS0 := Lib.hid (show IntKind.u8.wrap (a - 48) = x by rw [hx]; exact IntWalk.u8_in _ (by omega))
  have HG0 := Lib.hid (show cmpB .gtr x 9 = some false from congrArg some (decide_eq_false (by omega)))
  have HW0 := Lib.hid (show IntKind.i64.wrap x = x from IntWalk.i64_in _ (by omega))
  have HT0 := Lib.hid (show IntKind.i64.wrap (0 * 10) = 0 from rfl)
  have HA0 := Lib.hid (show IntKind.i64.wrap (0 + x) = x by rw [Int.zero_add]; exact IntWalk.i64_in _ (by omega))
  have HS1 := HS0
  have HG1 := HG0
  have HW1 := HW0
  have HT1 := HT0
  have HA1 := HA0
  rw [hx]
  clear h1 h2 hx
  go_enter Tryd.func26, Tryd.ntmps26
  go_wp2_with (first
    | ((with_reducible apply wpList_bytesN hR Tryd.underlying9 Tryd.underlying60 Tryd.underlying5 hs); exact rfl; exact rfl; clear hR; intro vm w hR hM; obtain ⟨g, cap, cur, rfl, hcap, hg, hc⟩ := hM.way; have HC0 := Lib.hid (show w.cell? ⟨g, 0, none⟩ = some (.int .u8 a) by rw [cell_of_row _ _ _ _ _ _ hg]; exact hc 0 a rfl); have HC1 := HC0; clear hM hg hc; simp only [cS, cZ])
    | ((with_reducible apply q_ls0); exact rfl; (with_reducible apply t_lenN Tryd.underlying9); (apply EvC.now; exact rfl); (simp only [cS, cZ]; exact rfl))
    | ((with_reducible apply q_ls0); exact rfl; (with_reducible apply t_atN Tryd.underlying9 hs (k := 0)); (apply EvC.now; exact rfl); (apply EvC.now; exact rfl); exact rfl; exact rfl; (simp only [cS, cZ]; exact rfl))
    | ((with_reducible apply q_ls0); exact rfl; (with_reducible apply t_len Tryd.underlying60); (apply EvC.now; exact rfl); (simp only [cS, cZ]; exact rfl))
    | ((with_reducible apply q_ls0); exact rfl; (with_reducible apply t_six Tryd.underlying60 iByteE); (apply EvC.now; exact rfl); (apply EvC.now; exact rfl); (constructor <;> decide); (simp only [cS, cZ]; exact rfl))
    | ((with_reducible apply q_ls0); exact rfl; (with_reducible apply t_cellW tByteE); (apply EvC.now; exact rfl); (intro w' h; subst h; first | exact HC0.out | exact HC1.out); (simp only [cS, cZ]; exact rfl))
    | ((with_reducible apply q_ls0); exact rfl; (with_reducible apply t_numE (op := .sub)); (apply EvC.now; exact rfl); (apply EvC.now; exact rfl); exact rfl; (first | exact HS0.out | exact HS1.out); (simp only [cS, cZ]; exact rfl))
    | ((with_reducible apply q_ls0); exact rfl; (with_reducible apply t_cmp (op := .eql)); (apply EvC.now; exact rfl); (apply EvC.now; exact rfl); (first | exact HP.out | exact HM0.out); (simp only [cS, cZ]; exact rfl))
    | ((with_reducible apply q_ls0); exact rfl; (with_reducible apply t_cmp (op := .gtr)); (apply EvC.now; exact rfl); (apply EvC.now; exact rfl); (first | exact HG0.out | exact HG1.out); (simp only [cS, cZ]; exact rfl))
    | ((with_reducible apply q_ls0); exact rfl; (with_reducible apply t_conv Tryd.underlying5 Tryd.underlying3); (apply EvC.now; exact rfl); (first | exact HW0.out | exact HW1.out); (simp only [cS, cZ]; exact rfl))
    | ((with_reducible apply q_ls0); exact rfl; (with_reducible apply t_numE (op := .mul)); (apply EvC.now; exact rfl); (apply EvC.now; exact rfl); exact rfl; (first | exact HT0.out | exact HT1.out); (simp only [cS, cZ]; exact rfl))
    | ((with_reducible apply q_ls0); exact rfl; (with_reducible apply t_numE (op := .add)); (apply EvC.now; exact rfl); (apply EvC.now; exact rfl); exact rfl; (first | exact HA0.out | exact HA1.out); (simp only [cS, cZ]; exact rfl)))
  refine wp_loop_rounds 3 ?_
  rw [rounds_succ]
  go_wp2_with (first
    | ((with_reducible apply wpList_bytesN hR Tryd.underlying9 Tryd.underlying60 Tryd.underlying5 hs); exact rfl; exact rfl; clear hR; intro vm w hR hM; obtain ⟨g, cap, cur, rfl, hcap, hg, hc⟩ := hM.way; skip; clear hM hg hc; simp only [cS, cZ])
    | ((with_reducible apply q_ls0); exact rfl; (with_reducible apply t_lenN Tryd.underlying9); (apply EvC.now; exact rfl); (simp only [cS, cZ]; exact rfl))
    | ((with_reducible apply q_ls0); exact rfl; (with_reducible apply t_atN Tryd.underlying9 hs (k := 0)); (apply EvC.now; exact rfl); (apply EvC.now; exact rfl); exact rfl; exact rfl; (simp only [cS, cZ]; exact rfl))
    | ((with_reducible apply q_ls0); exact rfl; (with_reducible apply t_len Tryd.underlying60); (apply EvC.now; exact rfl); (simp only [cS, cZ]; exact rfl))
    | ((with_reducible apply q_ls0); exact rfl; (with_reducible apply t_six Tryd.underlying60 iByteE); (apply EvC.now; exact rfl); (apply EvC.now; exact rfl); (constructor <;> decide); (simp only [cS, cZ]; exact rfl))
    | ((with_reducible apply q_ls0); exact rfl; (with_reducible apply t_cellW tByteE); (apply EvC.now; exact rfl); (intro w' h; subst h; first | exact HC0.out | exact HC1.out); (simp only [cS, cZ]; exact rfl))
    | ((with_reducible apply q_ls0); exact rfl; (with_reducible apply t_numE (op := .sub)); (apply EvC.now; exact rfl); (apply EvC.now; exact rfl); exact rfl; (first | exact HS0.out | exact HS1.out); (simp only [cS, cZ]; exact rfl))
    | ((with_reducible apply q_ls0); exact rfl; (with_reducible apply t_cmp (op := .eql)); (apply EvC.now; exact rfl); (apply EvC.now; exact rfl); (first | exact HP.out | exact HM0.out); (simp only [cS, cZ]; exact rfl))
    | ((with_reducible apply q_ls0); exact rfl; (with_reducible apply t_cmp (op := .gtr)); (apply EvC.now; exact rfl); (apply EvC.now; exact rfl); (first | exact HG0.out | exact HG1.out); (simp only [cS, cZ]; exact rfl))
    | ((with_reducible apply q_ls0); exact rfl; (with_reducible apply t_conv Tryd.underlying5 Tryd.underlying3); (apply EvC.now; exact rfl); (first | exact HW0.out | exact HW1.out); (simp only [cS, cZ]; exact rfl))
    | ((with_reducible apply q_ls0); exact rfl; (with_reducible apply t_numE (op := .mul)); (apply EvC.now; exact rfl); (apply EvC.now; exact rfl); exact rfl; (first | exact HT0.out | exact HT1.out); (simp only [cS, cZ]; exact rfl))
    | ((with_reducible apply q_ls0); exact rfl; (with_reducible apply t_numE (op := .add)); (apply EvC.now; exact rfl); (apply EvC.now; exact rfl); exact rfl; (first | exact HA0.out | exact HA1.out); (simp only [cS, cZ]; exact rfl)))
  rw [rounds_succ]
  go_wp2_with (first
    | ((with_reducible apply wpList_bytesN hR Tryd.underlying9 Tryd.underlying60 Tryd.underlying5 hs); exact rfl; exact rfl; clear hR; intro vm w hR hM; obtain ⟨g, cap, cur, rfl, hcap, hg, hc⟩ := hM.way; skip; clear hM hg hc; simp only [cS, cZ])
    | ((with_reducible apply q_ls0); exact rfl; (with_reducible apply t_lenN Tryd.underlying9); (apply EvC.now; exact rfl); (simp only [cS, cZ]; exact rfl))
    | ((with_reducible apply q_ls0); exact rfl; (with_reducible apply t_atN Tryd.underlying9 hs (k := 0)); (apply EvC.now; exact rfl); (apply EvC.now; exact rfl); exact rfl; exact rfl; (simp only [cS, cZ]; exact rfl))
    | ((with_reducible apply q_ls0); exact rfl; (with_reducible apply t_len Tryd.underlying60); (apply EvC.now; exact rfl); (simp only [cS, cZ]; exact rfl))
    | ((with_reducible apply q_ls0); exact rfl; (with_reducible apply t_six Tryd.underlying60 iByteE); (apply EvC.now; exact rfl); (apply EvC.now; exact rfl); (constructor <;> decide); (simp only [cS, cZ]; exact rfl))
    | ((with_reducible apply q_ls0); exact rfl; (with_reducible apply t_cellW tByteE); (apply EvC.now; exact rfl); (intro w' h; subst h; first | exact HC0.out | exact HC1.out); (simp only [cS, cZ]; exact rfl))
    | ((with_reducible apply q_ls0); exact rfl; (with_reducible apply t_numE (op := .sub)); (apply EvC.now; exact rfl); (apply EvC.now; exact rfl); exact rfl; (first | exact HS0.out | exact HS1.out); (simp only [cS, cZ]; exact rfl))
    | ((with_reducible apply q_ls0); exact rfl; (with_reducible apply t_cmp (op := .eql)); (apply EvC.now; exact rfl); (apply EvC.now; exact rfl); (first | exact HP.out | exact HM0.out); (simp only [cS, cZ]; exact rfl))
    | ((with_reducible apply q_ls0); exact rfl; (with_reducible apply t_cmp (op := .gtr)); (apply EvC.now; exact rfl); (apply EvC.now; exact rfl); (first | exact HG0.out | exact HG1.out); (simp only [cS, cZ]; exact rfl))
    | ((with_reducible apply q_ls0); exact rfl; (with_reducible apply t_conv Tryd.underlying5 Tryd.underlying3); (apply EvC.now; exact rfl); (first | exact HW0.out | exact HW1.out); (simp only [cS, cZ]; exact rfl))
    | ((with_reducible apply q_ls0); exact rfl; (with_reducible apply t_numE (op := .mul)); (apply EvC.now; exact rfl); (apply EvC.now; exact rfl); exact rfl; (first | exact HT0.out | exact HT1.out); (simp only [cS, cZ]; exact rfl))
    | ((with_reducible apply q_ls0); exact rfl; (with_reducible apply t_numE (op := .add)); (apply EvC.now; exact rfl); (apply EvC.now; exact rfl); exact rfl; (first | exact HA0.out | exact HA1.out); (simp only [cS, cZ]; exact rfl)))
  go_ret2
  exact ⟨rfl, hR.below⟩
theorem atoiE_two {a b : Int} (ha : digZ a) (hb : digZ b) (w0 : World) : Calls Tryd.prog 26 #[.string (strOfNums [a, b])] w0 fun e w' => e = .returned (.tuple #[.int .i64 ((a - 48) * 10 + (b - 48)), .nilIface]) ∧ Below w0.heap.size w0 w' := by
  have hR := Own.start w0
  obtain ⟨h1, h2⟩ := ha
  obtain ⟨h3, h4⟩ := hb
  have hs : bytesOk [a, b] := .cons ⟨by omega, by omega⟩ (.cons ⟨by omega, by omega⟩ .nil)
  have HM0 := Lib.hid (show cmpB .eql a 45 = some false from congrArg some (decide_eq_false (by omega)))
  have HP := Lib.hid (show cmpB .eql a 43 = some false from congrArg some (decide_eq_false (by omega)))
  obtain ⟨x, hx⟩ : ∃ x, a - 48 = x := ⟨_, rfl⟩
  obtain ⟨y, hy⟩ : ∃ y, b - 48 = y := ⟨_, rfl⟩
  obtain ⟨z, hz⟩ : ∃ z, x * 10 = z := ⟨_, rfl⟩
  obtain ⟨q, hq⟩ : ∃ q, z + y = q := ⟨_, rfl⟩
  have HS0 := Lib.hid (show IntKind.u8.wrap (a - 48) = x by rw [hx]; exact IntWalk.u8_in _ (by omega))
  have HS1 := Lib.hid (show IntKind.u8.wrap (b - 48) = y by rw [hy]; exact IntWalk.u8_in _ (by omega))
  have HG0 := Lib.hid (show cmpB .gtr x 9 = some false from congrArg some (decide_eq_false (by omega)))
  have HG1 := Lib.hid (show cmpB .gtr y 9 = some false from congrArg some (decide_eq_false (by omega)))
  have HW0 := Lib.hid (show IntKind.i64.wrap x = x from IntWalk.i64_in _ (by omega))
  have HW1 := Lib.hid (show IntKind.i64.wrap y = y from IntWalk.i64_in _ (by omega))
  have HT0 := Lib.hid (show IntKind.i64.wrap (0 * 10) = 0 from rfl)
  have HT1 := Lib.hid (show IntKind.i64.wrap (x * 10) = z by rw [hz]; exact IntWalk.i64_in _ (by omega))
  have HA0 := Lib.hid (show IntKind.i64.wrap (0 + x) = x by rw [Int.zero_add]; exact IntWalk.i64_in _ (by omega))
  have HA1 := Lib.hid (show IntKind.i64.wrap (z + y) = q by rw [hq]; exact IntWalk.i64_in _ (by omega))
  rw [hx, hy, hz, hq]
  clear h1 h2 h3 h4 hx hy hz hq
  go_enter Tryd.func26, Tryd.ntmps26
  go_wp2_with (first
    | ((with_reducible apply wpList_bytesN hR Tryd.underlying9 Tryd.underlying60 Tryd.underlying5 hs); exact rfl; exact rfl; clear hR; intro vm w hR hM; obtain ⟨g, cap, cur, rfl, hcap, hg, hc⟩ := hM.way; have HC0 := Lib.hid (show w.cell? ⟨g, 0, none⟩ = some (.int .u8 a) by rw [cell_of_row _ _ _ _ _ _ hg]; exact hc 0 a rfl); have HC1 := Lib.hid (show w.cell? ⟨g, 1, none⟩ = some (.int .u8 b) by rw [cell_of_row _ _ _ _ _ _ hg]; exact hc 1 b rfl); clear hM hg hc; simp only [cS, cZ])
    | ((with_reducible apply q_ls0); exact rfl; (with_reducible apply t_lenN Tryd.underlying9); (apply EvC.now; exact rfl); (simp only [cS, cZ]; exact rfl))
    | ((with_reducible apply q_ls0); exact rfl; (with_reducible apply t_atN Tryd.underlying9 hs (k := 0)); (apply EvC.now; exact rfl); (apply EvC.now; exact rfl); exact rfl; exact rfl; (simp only [cS, cZ]; exact rfl))
    | ((with_reducible apply q_ls0); exact rfl; (with_reducible apply t_len Tryd.underlying60); (apply EvC.now; exact rfl); (simp only [cS, cZ]; exact rfl))
    | ((with_reducible apply q_ls0); exact rfl; (with_reducible apply t_six Tryd.underlying60 iByteE); (apply EvC.now; exact rfl); (apply EvC.now; exact rfl); (constructor <;> decide); (simp only [cS, cZ]; exact rfl))
    | ((with_reducible apply q_ls0); exact rfl; (with_reducible apply t_cellW tByteE); (apply EvC.now; exact rfl); (intro w' h; subst h; first | exact HC0.out | exact HC1.out); (simp only [cS, cZ]; exact rfl))
    | ((with_reducible apply q_ls0); exact rfl; (with_reducible apply t_numE (op := .sub)); (apply EvC.now; exact rfl); (apply EvC.now; exact rfl); exact rfl; (first | exact HS0.out | exact HS1.out); (simp only [cS, cZ]; exact rfl))
    | ((with_reducible apply q_ls0); exact rfl; (with_reducible apply t_cmp (op := .eql)); (apply EvC.now; exact rfl); (apply EvC.now; exact rfl); (first | exact HP.out | exact HM0.out); (simp only [cS, cZ]; exact rfl))
    | ((with_reducible apply q_ls0); exact rfl; (with_reducible apply t_cmp (op := .gtr)); (apply EvC.now; exact rfl); (apply EvC.now; exact rfl); (first | exact HG0.out | exact HG1.out); (simp only [cS, cZ]; exact rfl))
    | ((with_reducible apply q_ls0); exact rfl; (with_reducible apply t_conv Tryd.underlying5 Tryd.underlying3); (apply EvC.now; exact rfl); (first | exact HW0.out | exact HW1.out); (simp only [cS, cZ]; exact rfl))
    | ((with_reducible apply q_ls0); exact rfl; (with_reducible apply t_numE (op := .mul)); (apply EvC.now; exact rfl); (apply EvC.now; exact rfl); exact rfl; (first | exact HT0.out | exact HT1.out); (simp only [cS, cZ]; exact rfl))
    | ((with_reducible apply q_ls0); exact rfl; (with_reducible apply t_numE (op := .add)); (apply EvC.now; exact rfl); (apply EvC.now; exact rfl); exact rfl; (first | exact HA0.out | exact HA1.out); (simp only [cS, cZ]; exact rfl)))
  refine wp_loop_rounds 3 ?_
  rw [rounds_succ]
  go_wp2_with (first
    | ((with_reducible apply wpList_bytesN hR Tryd.underlying9 Tryd.underlying60 Tryd.underlying5 hs); exact rfl; exact rfl; clear hR; intro vm w hR hM; obtain ⟨g, cap, cur, rfl, hcap, hg, hc⟩ := hM.way; skip; clear hM hg hc; simp only [cS, cZ])
    | ((with_reducible apply q_ls0); exact rfl; (with_reducible apply t_lenN Tryd.underlying9); (apply EvC.now; exact rfl); (simp only [cS, cZ]; exact rfl))
    | ((with_reducible apply q_ls0); exact rfl; (with_reducible apply t_atN Tryd.underlying9 hs (k := 0)); (apply EvC.now; exact rfl); (apply EvC.now; exact rfl); exact rfl; exact rfl; (simp only [cS, cZ]; exact rfl))
    | ((with_reducible apply q_ls0); exact rfl; (with_reducible apply t_len Tryd.underlying60); (apply EvC.now; exact rfl); (simp only [cS, cZ]; exact rfl))
    | ((with_reducible apply q_ls0); exact rfl; (with_reducible apply t_six Tryd.underlying60 iByteE); (apply EvC.now; exact rfl); (apply EvC.now; exact rfl); (constructor <;> decide); (simp only [cS, cZ]; exact rfl))
    | ((with_reducible apply q_ls0); exact rfl; (with_reducible apply t_cellW tByteE); (apply EvC.now; exact rfl); (intro w' h; subst h; first | exact HC0.out | exact HC1.out); (simp only [cS, cZ]; exact rfl))
    | ((with_reducible apply q_ls0); exact rfl; (with_reducible apply t_numE (op := .sub)); (apply EvC.now; exact rfl); (apply EvC.now; exact rfl); exact rfl; (first | exact HS0.out | exact HS1.out); (simp only [cS, cZ]; exact rfl))
    | ((with_reducible apply q_ls0); exact rfl; (with_reducible apply t_cmp (op := .eql)); (apply EvC.now; exact rfl); (apply EvC.now; exact rfl); (first | exact HP.out | exact HM0.out); (simp only [cS, cZ]; exact rfl))
    | ((with_reducible apply q_ls0); exact rfl; (with_reducible apply t_cmp (op := .gtr)); (apply EvC.now; exact rfl); (apply EvC.now; exact rfl); (first | exact HG0.out | exact HG1.out); (simp only [cS, cZ]; exact rfl))
    | ((with_reducible apply q_ls0); exact rfl; (with_reducible apply t_conv Tryd.underlying5 Tryd.underlying3); (apply EvC.now; exact rfl); (first | exact HW0.out | exact HW1.out); (simp only [cS, cZ]; exact rfl))
    | ((with_reducible apply q_ls0); exact rfl; (with_reducible apply t_numE (op := .mul)); (apply EvC.now; exact rfl); (apply EvC.now; exact rfl); exact rfl; (first | exact HT0.out | exact HT1.out); (simp only [cS, cZ]; exact rfl))
    | ((with_reducible apply q_ls0); exact rfl; (with_reducible apply t_numE (op := .add)); (apply EvC.now; exact rfl); (apply EvC.now; exact rfl); exact rfl; (first | exact HA0.out | exact HA1.out); (simp only [cS, cZ]; exact rfl)))
  rw [rounds_succ]
  go_wp2_with (first
    | ((with_reducible apply wpList_bytesN hR Tryd.underlying9 Tryd.underlying60 Tryd.underlying5 hs); exact rfl; exact rfl; clear hR; intro vm w hR hM; obtain ⟨g, cap, cur, rfl, hcap, hg, hc⟩ := hM.way; skip; clear hM hg hc; simp only [cS, cZ])
    | ((with_reducible apply q_ls0); exact rfl; (with_reducible apply t_lenN Tryd.underlying9); (apply EvC.now; exact rfl); (simp only [cS, cZ]; exact rfl))
    | ((with_reducible apply q_ls0); exact rfl; (with_reducible apply t_atN Tryd.underlying9 hs (k := 0)); (apply EvC.now; exact rfl); (apply EvC.now; exact rfl); exact rfl; exact rfl; (simp only [cS, cZ]; exact rfl))
    | ((with_reducible apply q_ls0); exact rfl; (with_reducible apply t_len Tryd.underlying60); (apply EvC.now; exact rfl); (simp only [cS, cZ]; exact rfl))
    | ((with_reducible apply q_ls0); exact rfl; (with_reducible apply t_six Tryd.underlying60 iByteE); (apply EvC.now; exact rfl); (apply EvC.now; exact rfl); (constructor <;> decide); (simp only [cS, cZ]; exact rfl))
    | ((with_reducible apply q_ls0); exact rfl; (with_reducible apply t_cellW tByteE); (apply EvC.now; exact rfl); (intro w' h; subst h; first | exact HC0.out | exact HC1.out); (simp only [cS, cZ]; exact rfl))
    | ((with_reducible apply q_ls0); exact rfl; (with_reducible apply t_numE (op := .sub)); (apply EvC.now; exact rfl); (apply EvC.now; exact rfl); exact rfl; (first | exact HS0.out | exact HS1.out); (simp only [cS, cZ]; exact rfl))
    | ((with_reducible apply q_ls0); exact rfl; (with_reducible apply t_cmp (op := .eql)); (apply EvC.now; exact rfl); (apply EvC.now; exact rfl); (first | exact HP.out | exact HM0.out); (simp only [cS, cZ]; exact rfl))
    | ((with_reducible apply q_ls0); exact rfl; (with_reducible apply t_cmp (op := .gtr)); (apply EvC.now; exact rfl); (apply EvC.now; exact rfl); (first | exact HG0.out | exact HG1.out); (simp only [cS, cZ]; exact rfl))
    | ((with_reducible apply q_ls0); exact rfl; (with_reducible apply t_conv Tryd.underlying5 Tryd.underlying3); (apply EvC.now; exact rfl); (first | exact HW0.out | exact HW1.out); (simp only [cS, cZ]; exact rfl))
    | ((with_reducible apply q_ls0); exact rfl; (with_reducible apply t_numE (op := .mul)); (apply EvC.now; exact rfl); (apply EvC.now; exact rfl); exact rfl; (first | exact HT0.out | exact HT1.out); (simp only [cS, cZ]; exact rfl))
    | ((with_reducible apply q_ls0); exact rfl; (with_reducible apply t_numE (op := .add)); (apply EvC.now; exact rfl); (apply EvC.now; exact rfl); exact rfl; (first | exact HA0.out | exact HA1.out); (simp only [cS, cZ]; exact rfl)))
  rw [rounds_succ]
  go_wp2_with (first
    | ((with_reducible apply wpList_bytesN hR Tryd.underlying9 Tryd.underlying60 Tryd.underlying5 hs); exact rfl; exact rfl; clear hR; intro vm w hR hM; obtain ⟨g, cap, cur, rfl, hcap, hg, hc⟩ := hM.way; skip; clear hM hg hc; simp only [cS, cZ])
    | ((with_reducible apply q_ls0); exact rfl; (with_reducible apply t_lenN Tryd.underlying9); (apply EvC.now; exact rfl); (simp only [cS, cZ]; exact rfl))
    | ((with_reducible apply q_ls0); exact rfl; (with_reducible apply t_atN Tryd.underlying9 hs (k := 0)); (apply EvC.now; exact rfl); (apply EvC.now; exact rfl); exact rfl; exact rfl; (simp only [cS, cZ]; exact rfl))
    | ((with_reducible apply q_ls0); exact rfl; (with_reducible apply t_len Tryd.underlying60); (apply EvC.now; exact rfl); (simp only [cS, cZ]; exact rfl))
    | ((with_reducible apply q_ls0); exact rfl; (with_reducible apply t_six Tryd.underlying60 iByteE); (apply EvC.now; exact rfl); (apply EvC.now; exact rfl); (constructor <;> decide); (simp only [cS, cZ]; exact rfl))
    | ((with_reducible apply q_ls0); exact rfl; (with_reducible apply t_cellW tByteE); (apply EvC.now; exact rfl); (intro w' h; subst h; first | exact HC0.out | exact HC1.out); (simp only [cS, cZ]; exact rfl))
    | ((with_reducible apply q_ls0); exact rfl; (with_reducible apply t_numE (op := .sub)); (apply EvC.now; exact rfl); (apply EvC.now; exact rfl); exact rfl; (first | exact HS0.out | exact HS1.out); (simp only [cS, cZ]; exact rfl))
    | ((with_reducible apply q_ls0); exact rfl; (with_reducible apply t_cmp (op := .eql)); (apply EvC.now; exact rfl); (apply EvC.now; exact rfl); (first | exact HP.out | exact HM0.out); (simp only [cS, cZ]; exact rfl))
    | ((with_reducible apply q_ls0); exact rfl; (with_reducible apply t_cmp (op := .gtr)); (apply EvC.now; exact rfl); (apply EvC.now; exact rfl); (first | exact HG0.out | exact HG1.out); (simp only [cS, cZ]; exact rfl))
    | ((with_reducible apply q_ls0); exact rfl; (with_reducible apply t_conv Tryd.underlying5 Tryd.underlying3); (apply EvC.now; exact rfl); (first | exact HW0.out | exact HW1.out); (simp only [cS, cZ]; exact rfl))
    | ((with_reducible apply q_ls0); exact rfl; (with_reducible apply t_numE (op := .mul)); (apply EvC.now; exact rfl); (apply EvC.now; exact rfl); exact rfl; (first | exact HT0.out | exact HT1.out); (simp only [cS, cZ]; exact rfl))
    | ((with_reducible apply q_ls0); exact rfl; (with_reducible apply t_numE (op := .add)); (apply EvC.now; exact rfl); (apply EvC.now; exact rfl); exact rfl; (first | exact HA0.out | exact HA1.out); (simp only [cS, cZ]; exact rfl)))
  go_ret2
  exact ⟨rfl, hR.below⟩
/-! ### The reference's pieces -/
/-- One or two digits. -/
inductive Digs : List Int → Nat → Prop where
  | one {a : Int} (h : digZ a) : Digs [a] (a - 48).toNat
  | two {a b : Int} (h : digZ a) (h' : digZ b) : Digs [a, b] ((a - 48) * 10 + (b - 48)).toNat
theorem Digs.ok {s : List Int} {n : Nat} (h : Digs s n) : bytesOk s := by
  cases h with
  | one h => exact .cons ⟨by have := h.1; omega, by have := h.2; omega⟩ .nil
  | two h h' => exact .cons ⟨by have := h.1; omega, by have := h.2; omega⟩ (.cons ⟨by have := h'.1; omega, by have := h'.2; omega⟩ .nil)
theorem Digs.lt {s : List Int} {n : Nat} (h : Digs s n) : n ≤ 99 := by
  cases h with
  | one h => have := h.1; have := h.2; omega
  | two h h' => have := h.1; have := h.2; have := h'.1; have := h'.2; omega
theorem atoiE_any {s : List Int} {n : Nat} (h : Digs s n) (w0 : World) : Calls Tryd.prog 26 #[.string (strOfNums s)] w0 fun e w' => e = .returned (.tuple #[.int .i64 (n : Int), .nilIface]) ∧ Below w0.heap.size w0 w' := by
  cases h with
  | one h =>
    have := h.1
    rw [Int.toNat_of_nonneg (by omega)]
    exact atoiE_one h w0
  | two h h' =>
    have := h.1; have := h'.1
    rw [Int.toNat_of_nonneg (by omega)]
    exact atoiE_two h h' w0
theorem atoi_any {s : List Int} {n : Nat} (h : Digs s n) (w0 : World) : Calls Tryd.prog 19 #[.string (strOfNums s)] w0 fun e w' => e = .returned (.tuple #[.int .i64 (n : Int), .nilIface]) ∧ Below w0.heap.size w0 w' := by
  have hR := Own.start w0
  go_enter Tryd.func19, Tryd.ntmps19
  go_wp2_with (first
    | (go_at_call 26; refine (atoiE_any h _).mono ?_; rintro e w' ⟨rfl, hb⟩; replace hR := hR.grow hb; clear hb))
  go_ret2
  exact ⟨rfl, hR.below⟩
end Go.Proofs.YtckkgooabnlooaaDoor
