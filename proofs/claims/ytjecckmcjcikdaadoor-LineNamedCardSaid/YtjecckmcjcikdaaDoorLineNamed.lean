/- The law LineNamed (x) returns true whatever the arguments, in a state in which the listed package-level tables hold what the program lays them with (the card ties that to its text), and each argument reads afterwards as before. There is no condition on the arguments. -/
import Derived.Test.YtjecckmcjcikdaaDoorRows
import Derived.Test.YtjecckmcjcikdaaDoorNam31
import Derived.WalkKit
import Derived.ProofKit
import Derived.OpenShut
import Derived.ShutString
import Derived.ChangeOld
import Derived.Below
import Derived.Test.YtjecckmcjcikdaaDoorTie
import Derived.Test.YtjecckmcjcikdaaDoorCards
import Derived.Test.YtjecckmcjcikdaaDoorLexTab
import Derived.SevenTiedAt
import Derived.Lay
import Derived.LaidMore
namespace Go.Proofs.YtjecckmcjcikdaaDoor.lineNamed
open Go.ChangeShapes Go.WideShapes Go.ChangeAt Go.RowKit
open Go.ChangeMaps (open_string shut_string)
set_option linter.unusedVariables false
set_option linter.unusedSimpArgs false

theorem own : ownKnob Tryd.prog.godebug = none := by kernel_rfl
theorem laidOut : laidOutB Tryd.prog = true := by kernel_rfl











set_option maxHeartbeats 4000000 in
set_option maxRecDepth 100000 in
theorem walk (a0 : Int) (hw0 : (Lit.int .i64 a0).wf = true) (a1 : Bool) (w0 : World) (hT : True) :
    Calls Tryd.prog 4 #[.int .i64 a0, .bool a1] w0 fun e w' => e = .returned (.bool true) ∧ Below w0.heap.size w0 w' := by
  clear hT
  have hR := Own.start w0
  obtain ⟨k, hk, hk13⟩ : ∃ k : Nat, (a0 % 256).tmod 13 = (k : Int) ∧ k < 13 := ⟨((a0 % 256) % 13).toNat, by rw [rem_in (by omega)]; omega, by omega⟩
  have HA := Lib.hid (show bits .and .i64 a0 255 = a0 % 256 from i64_mask a0 8 255 (by decide) (by decide))
  have HK := Lib.hid hk
  obtain ⟨wd, hN⟩ := nm_p hk13 a1
  have hwo := hN.ok
  have hws := hN.short
  obtain ⟨z, hz, hy, hn⟩ := hN.way
  have HNM := Lib.hid (namedS_any hwo)
  rw [hN.named] at HNM
  have hto : bytesOk (nmS a1 wd) := by
    unfold nmS
    exact (((by cases a1 <;> exact ascii.ok (ascii_of rfl) : bytesOk (if a1 then wNAMEc else wNAMEb)).append hwo).append okw5)
  have HPZ := Lib.hid (parse_is (lit := strOfNums (nmS a1 wd)) rfl hto hz)
  have hl1 : wNAMEb.length + wd.length ≤ 1000000 := by show 5 + _ ≤ _; omega
  have hl2 : wNAMEc.length + wd.length ≤ 1000000 := by show 6 + _ ≤ _; omega
  have hl3 : (wNAMEb ++ wd).length + w5.length ≤ 1000000 := by rw [List.length_append]; show 5 + _ + 2 ≤ _; omega
  have hl4 : (wNAMEc ++ wd).length + w5.length ≤ 1000000 := by rw [List.length_append]; show 6 + _ + 2 ≤ _; omega
  go_enter Tryd.func4, Tryd.ntmps4
  go_upto_region 3 with (first
    | ((with_reducible apply wpList_buildS hR); exact rfl; exact rfl; (exact bStr13 _ _ _ _ _ _ _ _ _ _ _ _ _); clear hR; intro gs w hR; simp only [List.set_cons_succ, List.set_cons_zero])
    | ((with_reducible apply q_ls hR); exact rfl; (with_reducible apply t_numE (op := .and)); (apply EvC.now; exact rfl); (apply EvC.now; exact rfl); exact rfl; exact HA.out; (simp only [List.set_cons_succ, List.set_cons_zero]; exact rfl); clear hR; intro w hR)
    | ((with_reducible apply q_ls hR); exact rfl; (with_reducible apply t_rem); (apply EvC.now; exact rfl); (apply EvC.now; exact rfl); (decide); exact HK.out; (simp only [List.set_cons_succ, List.set_cons_zero]; exact rfl); clear hR; intro w hR))
  have hSt : Strs w (.slice (some ⟨gs, 0, none⟩) 13 13) tab31 := strs_row hR (by (focus (repeat (first | apply List.Mem.head | apply List.Mem.tail | apply List.mem_append_right)))) rfl rfl tab31_ok (by decide)
  have hC0 := hSt.cell hN.el
  have hZ2 := (Since.start w0).own hR
  have hR2 := hR.fresh
  clear hR
  try clear hZ
  have hZ := hZ2
  have hR := hR2
  clear hZ2 hR2
  have HC := Lib.hid (show w.cell? ((⟨gs, 0, none⟩ : Addr).add ((k : Int).toNat * 1)) = some (.string (strOfNums wd)) by rw [Int.toNat_natCast, Nat.mul_one]; exact hC0)
  have HKB := Lib.hid (show (0 : Int) ≤ k ∧ (k : Int) < (13 : Nat) by omega)
  have HE0 := Lib.hid (show cmpB .eql (0 : Int) 0 = some true from rfl)
  have HP2 := Lib.hid (show cmpB .eql ((2 : Nat) : Int) 2 = some true from rfl)
  clear hC0 hSt hk HA HK hw0 hz hto
  by_cases h11 : k < 11
  · have H11 := Lib.hid (show cmpB .lss (k : Int) 11 = some true from congrArg some (decide_eq_true (by omega)))
    rw [decide_eq_true h11] at HNM
    obtain ⟨hlab, hop, hcol, hal⟩ := hy (by rw [decide_eq_true h11, Bool.or_true])
    have HA1 := Lib.hid (show cmpB .eql (z.args.length : Int) 1 = some true by rw [hal]; rfl)
    clear hn hy hal h11
    cases a1
    · go_upto_region 9 with (first
    | ((with_reducible apply q_ls hR); exact rfl; (with_reducible apply t_six Tryd.underlying23 iStrO); (apply EvC.now; exact rfl); (apply EvC.now; exact rfl); exact HKB.out; (simp only [List.set_cons_succ, List.set_cons_zero]; exact rfl); clear hR; intro w hR)
    | ((with_reducible apply q_ls hR); exact rfl; (with_reducible apply t_oldOne tStrO); (apply EvC.now; exact rfl); (exact HC.out); exact rfl; (simp only [List.set_cons_succ, List.set_cons_zero]; exact rfl); clear hR; intro w hR)
    | ((with_reducible apply q_ls hR); exact rfl; (with_reducible apply t_catE); (exact lit_now lwNAMEb); (apply EvC.now; exact rfl); exact hl1; exact rfl; (simp only [List.set_cons_succ, List.set_cons_zero]; exact rfl); clear hR; intro w hR)
    | ((with_reducible apply q_ls hR); exact rfl; (with_reducible apply t_catE); (exact lit_now lwNAMEc); (apply EvC.now; exact rfl); exact hl2; exact rfl; (simp only [List.set_cons_succ, List.set_cons_zero]; exact rfl); clear hR; intro w hR)
    | ((with_reducible apply q_ls hR); exact rfl; (with_reducible apply t_catE); (apply EvC.now; exact rfl); (exact lit_now lw5); (first | exact hl3 | exact hl4); exact rfl; (simp only [List.set_cons_succ, List.set_cons_zero]; exact rfl); clear hR; intro w hR)
    | (go_at_call 6; refine (HPZ.out _).mono ?_; rintro e w2 ⟨vp, va, rfl, hb, hS⟩; replace hR := hR.grow hb; have hC2 := (hR.below.cell (World.block_lt_of_cell? _ _ HC.out)).trans HC.out; replace hZ := hZ.own hR; clear hR hb HC; have HC := Lib.hid hC2; clear hC2; have hR := Own.start w2; obtain ⟨vs, hargs⟩ := hS.args.rd; have hvp := hS.pre.rd.one; have hva := hargs.one)
    | ((with_reducible apply q_ls hR); exact rfl; (with_reducible apply t_extract); (apply EvC.now; exact rfl); exact rfl; (simp only [List.set_cons_succ, List.set_cons_zero]; exact rfl); clear hR; intro w hR)
    | ((with_reducible apply wpList_make hR zStm); exact rfl; clear hR; intro g w hR; simp only [List.set_cons_succ, List.set_cons_zero])
    | ((with_reducible apply wpList_put hR tStm); exact rfl; exact rfl; exact rfl; (focus (repeat (first | apply List.Mem.head | apply List.Mem.tail | apply List.mem_append_right))); exact put_stm _ _ _ _ _ _; exact rfl; exact Nat.le_refl 5; exact one_stm _ hvp hva; (focus (repeat (first | apply Upd.head | apply Upd.tail))); clear hR; intro w hR)
    | ((with_reducible apply q_ls hR); exact rfl; (with_reducible apply t_cmp (op := .lss)); (apply EvC.now; exact rfl); (apply EvC.now; exact rfl); exact H11.out; (simp only [List.set_cons_succ, List.set_cons_zero]; exact rfl); clear hR; intro w hR))
      refine wp_region_rows hR [0, 1, 2, 3, 4, 5, 6, 7, 8, 9, 10, 11, 12, 13, 14, 15, 16, 17, 18, 19, 20, 21, 22, 23, 24, 25, 26, 27, 28, 29, 30, 31, 32, 33, 34, 35, 36, 37, 38, 39, 40] 0 (by kernel_rfl) (by kernel_rfl) (by kernel_rfl) rfl ?_
      clear hR; intro hR
      repeat (refine wpT_step rfl ?_; first
          | ((with_reducible apply q_kn); exact rfl; (with_reducible apply t_cmp (op := .eql)); (apply EvC.now; exact rfl); (apply EvC.now; exact rfl); (with_reducible first | exact HE0.out | exact HA1.out | exact HP2.out); (simp only [List.set_cons_succ, List.set_cons_zero]; exact rfl))
          | ((with_reducible apply q_kn); exact rfl; (with_reducible apply t_wordK lwNAME okwNAME hS.label hlab); (apply EvC.now; exact rfl); (simp only [List.set_cons_succ, List.set_cons_zero]; exact rfl))
          | ((with_reducible apply q_kn); exact rfl; (with_reducible apply t_eqE hS.op hwo); (apply EvC.now; exact rfl); (apply EvC.now; exact rfl); exact hop; (simp only [List.set_cons_succ, List.set_cons_zero]; exact rfl))
          | ((with_reducible apply q_kn); exact rfl; (with_reducible apply t_eqbK Tryd.underlying4); (apply EvC.now; exact rfl); (apply EvC.now; exact rfl); (first | exact hcol | exact rfl); (simp only [List.set_cons_succ, List.set_cons_zero]; exact rfl))
          | ((with_reducible apply q_kn); exact rfl; (with_reducible apply t_six Tryd.underlying23 iStrO); (apply EvC.now; exact rfl); (apply EvC.now; exact rfl); exact HKB.out; (simp only [List.set_cons_succ, List.set_cons_zero]; exact rfl))
          | ((with_reducible apply q_kn); exact rfl; (with_reducible apply t_oldOne tStrO); (apply EvC.now; exact rfl); (exact HC.out); exact rfl; (simp only [List.set_cons_succ, List.set_cons_zero]; exact rfl))
          | ((with_reducible apply q_kn); exact rfl; (with_reducible apply t_lenRd Tryd.underlying24); (apply EvC.now; exact rfl); exact hargs; (simp only [List.set_cons_succ, List.set_cons_zero]; exact rfl))
          | ((with_reducible apply q_kn); exact rfl; (with_reducible apply t_call Tryd.call7); (first | (apply EvC.gv; exact rfl; (with_reducible first | exact Imp.refl _ | (apply Imp.left; exact Imp.refl _) | (apply Imp.right; exact Imp.refl _) | (apply Imp.left; apply Imp.left; exact Imp.refl _))) | (apply EvC.now; exact rfl) | exact rfl | (with_reducible exact EvAll.nil) | (focus (repeat (first | apply EvAll.cons | exact EvAll.nil | (apply EvC.gv; exact rfl; (with_reducible first | exact Imp.refl _ | (apply Imp.left; exact Imp.refl _) | (apply Imp.right; exact Imp.refl _) | (apply Imp.left; apply Imp.left; exact Imp.refl _))) | (apply EvC.now; exact rfl))); done) | (first | exact ext_tok _ | exact ext_stm _ _ _) | (focus (repeat (first | apply List.Mem.head | apply List.Mem.tail | apply List.mem_append_right)))); (intro hcc w hC; exact tame_below (awake31_any _) hC); (simp only [List.set_cons_succ, List.set_cons_zero]; exact rfl))
          | ((with_reducible apply q_kn); exact rfl; (with_reducible apply t_call Tryd.call9); (first | (apply EvC.gv; exact rfl; (with_reducible first | exact Imp.refl _ | (apply Imp.left; exact Imp.refl _) | (apply Imp.right; exact Imp.refl _) | (apply Imp.left; apply Imp.left; exact Imp.refl _))) | (apply EvC.now; exact rfl) | exact rfl | (with_reducible exact EvAll.nil) | (focus (repeat (first | apply EvAll.cons | exact EvAll.nil | (apply EvC.gv; exact rfl; (with_reducible first | exact Imp.refl _ | (apply Imp.left; exact Imp.refl _) | (apply Imp.right; exact Imp.refl _) | (apply Imp.left; apply Imp.left; exact Imp.refl _))) | (apply EvC.now; exact rfl))); done) | (first | exact ext_tok _ | exact ext_stm _ _ _) | (focus (repeat (first | apply List.Mem.head | apply List.Mem.tail | apply List.mem_append_right)))); (intro hcc w hC; exact tame_same' (HNM.out _) hC); (simp only [List.set_cons_succ, List.set_cons_zero]; exact rfl))
          | ((with_reducible apply q_kn); exact rfl; (first | ((with_reducible first | apply t_move | apply t_assign | apply t_addr (fTok _ (by decide)) | apply t_addr (fStm _ (by decide)) | apply t_one tIntL | apply t_one tStrO | apply t_one tBoolL | apply t_one tStrsL | apply t_one tPartsL | apply t_part tTok | apply t_part tStm) <;> (first | (apply EvC.gv; exact rfl; (with_reducible first | exact Imp.refl _ | (apply Imp.left; exact Imp.refl _) | (apply Imp.right; exact Imp.refl _) | (apply Imp.left; apply Imp.left; exact Imp.refl _))) | (apply EvC.now; exact rfl) | exact rfl | (with_reducible exact EvAll.nil) | (focus (repeat (first | apply EvAll.cons | exact EvAll.nil | (apply EvC.gv; exact rfl; (with_reducible first | exact Imp.refl _ | (apply Imp.left; exact Imp.refl _) | (apply Imp.right; exact Imp.refl _) | (apply Imp.left; apply Imp.left; exact Imp.refl _))) | (apply EvC.now; exact rfl))); done) | (first | exact ext_tok _ | exact ext_stm _ _ _) | (focus (repeat (first | apply List.Mem.head | apply List.Mem.tail | apply List.mem_append_right))))) | ((with_reducible apply t_pick); (apply EvC.now; exact rfl); (apply EvC.now; exact rfl))); (simp only [List.set_cons_succ, List.set_cons_zero]; exact rfl))
          | ((with_reducible apply q_kn); exact rfl; (with_reducible apply t_not); (apply EvC.now; exact rfl); (simp only [List.set_cons_succ, List.set_cons_zero]; exact rfl)))
      refine wpG_end hR (by kernel_rfl) ?_
      clear hR; intro w hR
      go_wp2_with fail
      go_ret
      exact ⟨ret_bool (by kernel_rfl), (hZ.own hR).below⟩
    · go_upto_region 9 with (first
    | ((with_reducible apply q_ls hR); exact rfl; (with_reducible apply t_six Tryd.underlying23 iStrO); (apply EvC.now; exact rfl); (apply EvC.now; exact rfl); exact HKB.out; (simp only [List.set_cons_succ, List.set_cons_zero]; exact rfl); clear hR; intro w hR)
    | ((with_reducible apply q_ls hR); exact rfl; (with_reducible apply t_oldOne tStrO); (apply EvC.now; exact rfl); (exact HC.out); exact rfl; (simp only [List.set_cons_succ, List.set_cons_zero]; exact rfl); clear hR; intro w hR)
    | ((with_reducible apply q_ls hR); exact rfl; (with_reducible apply t_catE); (exact lit_now lwNAMEb); (apply EvC.now; exact rfl); exact hl1; exact rfl; (simp only [List.set_cons_succ, List.set_cons_zero]; exact rfl); clear hR; intro w hR)
    | ((with_reducible apply q_ls hR); exact rfl; (with_reducible apply t_catE); (exact lit_now lwNAMEc); (apply EvC.now; exact rfl); exact hl2; exact rfl; (simp only [List.set_cons_succ, List.set_cons_zero]; exact rfl); clear hR; intro w hR)
    | ((with_reducible apply q_ls hR); exact rfl; (with_reducible apply t_catE); (apply EvC.now; exact rfl); (exact lit_now lw5); (first | exact hl3 | exact hl4); exact rfl; (simp only [List.set_cons_succ, List.set_cons_zero]; exact rfl); clear hR; intro w hR)
    | (go_at_call 6; refine (HPZ.out _).mono ?_; rintro e w2 ⟨vp, va, rfl, hb, hS⟩; replace hR := hR.grow hb; have hC2 := (hR.below.cell (World.block_lt_of_cell? _ _ HC.out)).trans HC.out; replace hZ := hZ.own hR; clear hR hb HC; have HC := Lib.hid hC2; clear hC2; have hR := Own.start w2; obtain ⟨vs, hargs⟩ := hS.args.rd; have hvp := hS.pre.rd.one; have hva := hargs.one)
    | ((with_reducible apply q_ls hR); exact rfl; (with_reducible apply t_extract); (apply EvC.now; exact rfl); exact rfl; (simp only [List.set_cons_succ, List.set_cons_zero]; exact rfl); clear hR; intro w hR)
    | ((with_reducible apply wpList_make hR zStm); exact rfl; clear hR; intro g w hR; simp only [List.set_cons_succ, List.set_cons_zero])
    | ((with_reducible apply wpList_put hR tStm); exact rfl; exact rfl; exact rfl; (focus (repeat (first | apply List.Mem.head | apply List.Mem.tail | apply List.mem_append_right))); exact put_stm _ _ _ _ _ _; exact rfl; exact Nat.le_refl 5; exact one_stm _ hvp hva; (focus (repeat (first | apply Upd.head | apply Upd.tail))); clear hR; intro w hR)
    | ((with_reducible apply q_ls hR); exact rfl; (with_reducible apply t_cmp (op := .lss)); (apply EvC.now; exact rfl); (apply EvC.now; exact rfl); exact H11.out; (simp only [List.set_cons_succ, List.set_cons_zero]; exact rfl); clear hR; intro w hR))
      refine wp_region_rows hR [0, 1, 2, 3, 4, 5, 6, 7, 8, 9, 10, 11, 12, 13, 14, 15, 16, 17, 18, 19, 20, 21, 22, 23, 24, 25, 26, 27, 28, 29, 30, 31, 32, 33, 34, 35, 36, 37, 38, 39, 40] 0 (by kernel_rfl) (by kernel_rfl) (by kernel_rfl) rfl ?_
      clear hR; intro hR
      repeat (refine wpT_step rfl ?_; first
          | ((with_reducible apply q_kn); exact rfl; (with_reducible apply t_cmp (op := .eql)); (apply EvC.now; exact rfl); (apply EvC.now; exact rfl); (with_reducible first | exact HE0.out | exact HA1.out | exact HP2.out); (simp only [List.set_cons_succ, List.set_cons_zero]; exact rfl))
          | ((with_reducible apply q_kn); exact rfl; (with_reducible apply t_wordK lwNAME okwNAME hS.label hlab); (apply EvC.now; exact rfl); (simp only [List.set_cons_succ, List.set_cons_zero]; exact rfl))
          | ((with_reducible apply q_kn); exact rfl; (with_reducible apply t_eqE hS.op hwo); (apply EvC.now; exact rfl); (apply EvC.now; exact rfl); exact hop; (simp only [List.set_cons_succ, List.set_cons_zero]; exact rfl))
          | ((with_reducible apply q_kn); exact rfl; (with_reducible apply t_eqbK Tryd.underlying4); (apply EvC.now; exact rfl); (apply EvC.now; exact rfl); (first | exact hcol | exact rfl); (simp only [List.set_cons_succ, List.set_cons_zero]; exact rfl))
          | ((with_reducible apply q_kn); exact rfl; (with_reducible apply t_six Tryd.underlying23 iStrO); (apply EvC.now; exact rfl); (apply EvC.now; exact rfl); exact HKB.out; (simp only [List.set_cons_succ, List.set_cons_zero]; exact rfl))
          | ((with_reducible apply q_kn); exact rfl; (with_reducible apply t_oldOne tStrO); (apply EvC.now; exact rfl); (exact HC.out); exact rfl; (simp only [List.set_cons_succ, List.set_cons_zero]; exact rfl))
          | ((with_reducible apply q_kn); exact rfl; (with_reducible apply t_lenRd Tryd.underlying24); (apply EvC.now; exact rfl); exact hargs; (simp only [List.set_cons_succ, List.set_cons_zero]; exact rfl))
          | ((with_reducible apply q_kn); exact rfl; (with_reducible apply t_call Tryd.call7); (first | (apply EvC.gv; exact rfl; (with_reducible first | exact Imp.refl _ | (apply Imp.left; exact Imp.refl _) | (apply Imp.right; exact Imp.refl _) | (apply Imp.left; apply Imp.left; exact Imp.refl _))) | (apply EvC.now; exact rfl) | exact rfl | (with_reducible exact EvAll.nil) | (focus (repeat (first | apply EvAll.cons | exact EvAll.nil | (apply EvC.gv; exact rfl; (with_reducible first | exact Imp.refl _ | (apply Imp.left; exact Imp.refl _) | (apply Imp.right; exact Imp.refl _) | (apply Imp.left; apply Imp.left; exact Imp.refl _))) | (apply EvC.now; exact rfl))); done) | (first | exact ext_tok _ | exact ext_stm _ _ _) | (focus (repeat (first | apply List.Mem.head | apply List.Mem.tail | apply List.mem_append_right)))); (intro hcc w hC; exact tame_below (awake31_any _) hC); (simp only [List.set_cons_succ, List.set_cons_zero]; exact rfl))
          | ((with_reducible apply q_kn); exact rfl; (with_reducible apply t_call Tryd.call9); (first | (apply EvC.gv; exact rfl; (with_reducible first | exact Imp.refl _ | (apply Imp.left; exact Imp.refl _) | (apply Imp.right; exact Imp.refl _) | (apply Imp.left; apply Imp.left; exact Imp.refl _))) | (apply EvC.now; exact rfl) | exact rfl | (with_reducible exact EvAll.nil) | (focus (repeat (first | apply EvAll.cons | exact EvAll.nil | (apply EvC.gv; exact rfl; (with_reducible first | exact Imp.refl _ | (apply Imp.left; exact Imp.refl _) | (apply Imp.right; exact Imp.refl _) | (apply Imp.left; apply Imp.left; exact Imp.refl _))) | (apply EvC.now; exact rfl))); done) | (first | exact ext_tok _ | exact ext_stm _ _ _) | (focus (repeat (first | apply List.Mem.head | apply List.Mem.tail | apply List.mem_append_right)))); (intro hcc w hC; exact tame_same' (HNM.out _) hC); (simp only [List.set_cons_succ, List.set_cons_zero]; exact rfl))
          | ((with_reducible apply q_kn); exact rfl; (first | ((with_reducible first | apply t_move | apply t_assign | apply t_addr (fTok _ (by decide)) | apply t_addr (fStm _ (by decide)) | apply t_one tIntL | apply t_one tStrO | apply t_one tBoolL | apply t_one tStrsL | apply t_one tPartsL | apply t_part tTok | apply t_part tStm) <;> (first | (apply EvC.gv; exact rfl; (with_reducible first | exact Imp.refl _ | (apply Imp.left; exact Imp.refl _) | (apply Imp.right; exact Imp.refl _) | (apply Imp.left; apply Imp.left; exact Imp.refl _))) | (apply EvC.now; exact rfl) | exact rfl | (with_reducible exact EvAll.nil) | (focus (repeat (first | apply EvAll.cons | exact EvAll.nil | (apply EvC.gv; exact rfl; (with_reducible first | exact Imp.refl _ | (apply Imp.left; exact Imp.refl _) | (apply Imp.right; exact Imp.refl _) | (apply Imp.left; apply Imp.left; exact Imp.refl _))) | (apply EvC.now; exact rfl))); done) | (first | exact ext_tok _ | exact ext_stm _ _ _) | (focus (repeat (first | apply List.Mem.head | apply List.Mem.tail | apply List.mem_append_right))))) | ((with_reducible apply t_pick); (apply EvC.now; exact rfl); (apply EvC.now; exact rfl))); (simp only [List.set_cons_succ, List.set_cons_zero]; exact rfl))
          | ((with_reducible apply q_kn); exact rfl; (with_reducible apply t_not); (apply EvC.now; exact rfl); (simp only [List.set_cons_succ, List.set_cons_zero]; exact rfl)))
      refine wpG_end hR (by kernel_rfl) ?_
      clear hR; intro w hR
      go_wp2_with fail
      go_ret
      exact ⟨ret_bool (by kernel_rfl), (hZ.own hR).below⟩
  · have H11 := Lib.hid (show cmpB .lss (k : Int) 11 = some false from congrArg some (decide_eq_false (by omega)))
    rw [decide_eq_false h11] at HNM
    cases a1
    · obtain ⟨hlab, hop, hal, p, hp, hpl⟩ := hn (by rw [decide_eq_false h11]; rfl)
      have HA1 := Lib.hid (show cmpB .eql (z.args.length : Int) 1 = some true by rw [hal]; rfl)
      have HAX := Lib.hid (show (0 : Int) ≤ 0 ∧ (0 : Int) < z.args.length by omega)
      have HPL := Lib.hid hpl
      clear hn hy h11
      go_upto_region 10 with (first
          | ((with_reducible apply q_ls hR); exact rfl; (with_reducible apply t_six Tryd.underlying23 iStrO); (apply EvC.now; exact rfl); (apply EvC.now; exact rfl); exact HKB.out; (simp only [List.set_cons_succ, List.set_cons_zero]; exact rfl); clear hR; intro w hR)
          | ((with_reducible apply q_ls hR); exact rfl; (with_reducible apply t_oldOne tStrO); (apply EvC.now; exact rfl); (exact HC.out); exact rfl; (simp only [List.set_cons_succ, List.set_cons_zero]; exact rfl); clear hR; intro w hR)
          | ((with_reducible apply q_ls hR); exact rfl; (with_reducible apply t_catE); (exact lit_now lwNAMEb); (apply EvC.now; exact rfl); exact hl1; exact rfl; (simp only [List.set_cons_succ, List.set_cons_zero]; exact rfl); clear hR; intro w hR)
          | ((with_reducible apply q_ls hR); exact rfl; (with_reducible apply t_catE); (exact lit_now lwNAMEc); (apply EvC.now; exact rfl); exact hl2; exact rfl; (simp only [List.set_cons_succ, List.set_cons_zero]; exact rfl); clear hR; intro w hR)
          | ((with_reducible apply q_ls hR); exact rfl; (with_reducible apply t_catE); (apply EvC.now; exact rfl); (exact lit_now lw5); (first | exact hl3 | exact hl4); exact rfl; (simp only [List.set_cons_succ, List.set_cons_zero]; exact rfl); clear hR; intro w hR)
          | (go_at_call 6; refine (HPZ.out _).mono ?_; rintro e w2 ⟨vp, va, rfl, hb, hS⟩; replace hR := hR.grow hb; have hC2 := (hR.below.cell (World.block_lt_of_cell? _ _ HC.out)).trans HC.out; replace hZ := hZ.own hR; clear hR hb HC; have HC := Lib.hid hC2; clear hC2; have hR := Own.start w2; obtain ⟨vs, hargs⟩ := hS.args.rd; have hvp := hS.pre.rd.one; have hva := hargs.one)
          | ((with_reducible apply q_ls hR); exact rfl; (with_reducible apply t_extract); (apply EvC.now; exact rfl); exact rfl; (simp only [List.set_cons_succ, List.set_cons_zero]; exact rfl); clear hR; intro w hR)
          | ((with_reducible apply wpList_make hR zStm); exact rfl; clear hR; intro g w hR; simp only [List.set_cons_succ, List.set_cons_zero])
          | ((with_reducible apply wpList_put hR tStm); exact rfl; exact rfl; exact rfl; (focus (repeat (first | apply List.Mem.head | apply List.Mem.tail | apply List.mem_append_right))); exact put_stm _ _ _ _ _ _; exact rfl; exact Nat.le_refl 5; exact one_stm _ hvp hva; (focus (repeat (first | apply Upd.head | apply Upd.tail))); clear hR; intro w hR)
          | ((with_reducible apply q_ls hR); exact rfl; (with_reducible apply t_cmp (op := .lss)); (apply EvC.now; exact rfl); (apply EvC.now; exact rfl); exact H11.out; (simp only [List.set_cons_succ, List.set_cons_zero]; exact rfl); clear hR; intro w hR))
      obtain ⟨aa, ca, u, rfl, hcu, hru, hou⟩ := hS.args.el hp
      have HU := Lib.hid (show w2.cell? (aa.add ((0 : Int).toNat * 1)) = some u from hcu)
      unfold RowsAt at hru
      rw [HPL.out] at hru
      refine wp_region_tame hR [0, 1, 2, 3, 4, 5, 6, 7, 8, 9, 10, 11, 12, 13, 14, 15, 16, 17, 18, 19, 20, 21, 22, 23, 24, 25, 26, 27, 28, 29, 30, 31, 32, 33, 34, 35, 36, 37] rfl ?_
      repeat (refine wpT_step rfl ?_; first
    | ((with_reducible apply q_kn); exact rfl; (with_reducible apply t_cmp (op := .eql)); (apply EvC.now; exact rfl); (apply EvC.now; exact rfl); (with_reducible first | exact HE0.out | exact HA1.out | exact HP2.out); (simp only [List.set_cons_succ, List.set_cons_zero]; exact rfl))
    | ((with_reducible apply q_kn); exact rfl; (with_reducible apply t_wordK lwNIL okwNIL hS.label hlab); (apply EvC.now; exact rfl); (simp only [List.set_cons_succ, List.set_cons_zero]; exact rfl))
    | ((with_reducible apply q_kn); exact rfl; (with_reducible apply t_wordK lwNAME okwNAME hS.op hop); (apply EvC.now; exact rfl); (simp only [List.set_cons_succ, List.set_cons_zero]; exact rfl))
    | ((with_reducible apply q_kn); exact rfl; (with_reducible apply t_six Tryd.underlying23 iStrO); (apply EvC.now; exact rfl); (apply EvC.now; exact rfl); exact HKB.out; (simp only [List.set_cons_succ, List.set_cons_zero]; exact rfl))
    | ((with_reducible apply q_kn); exact rfl; (with_reducible apply t_six Tryd.underlying24 iToksL); (apply EvC.now; exact rfl); (apply EvC.now; exact rfl); exact HAX.out; (simp only [List.set_cons_succ, List.set_cons_zero]; exact rfl))
    | ((with_reducible apply q_kn); exact rfl; (with_reducible apply t_oldOne tStrO); (apply EvC.now; exact rfl); (exact HC.out); exact rfl; (simp only [List.set_cons_succ, List.set_cons_zero]; exact rfl))
    | ((with_reducible apply q_kn); exact rfl; (with_reducible apply t_oldOne tToksL); (apply EvC.now; exact rfl); (exact HU.out); exact hou; (simp only [List.set_cons_succ, List.set_cons_zero]; exact rfl))
    | ((with_reducible apply q_kn); exact rfl; (with_reducible apply t_lenRd Tryd.underlying24); (apply EvC.now; exact rfl); exact hargs; (simp only [List.set_cons_succ, List.set_cons_zero]; exact rfl))
    | ((with_reducible apply q_kn); exact rfl; (with_reducible apply t_lenRd Tryd.underlying31); (apply EvC.now; exact rfl); exact hru; (simp only [List.set_cons_succ, List.set_cons_zero]; exact rfl))
    | ((with_reducible apply q_kn); exact rfl; (with_reducible apply t_call Tryd.call7); (first | (apply EvC.gv; exact rfl; (with_reducible first | exact Imp.refl _ | (apply Imp.left; exact Imp.refl _) | (apply Imp.right; exact Imp.refl _) | (apply Imp.left; apply Imp.left; exact Imp.refl _))) | (apply EvC.now; exact rfl) | exact rfl | (with_reducible exact EvAll.nil) | (focus (repeat (first | apply EvAll.cons | exact EvAll.nil | (apply EvC.gv; exact rfl; (with_reducible first | exact Imp.refl _ | (apply Imp.left; exact Imp.refl _) | (apply Imp.right; exact Imp.refl _) | (apply Imp.left; apply Imp.left; exact Imp.refl _))) | (apply EvC.now; exact rfl))); done) | (first | exact ext_tok _ | exact ext_stm _ _ _) | (focus (repeat (first | apply List.Mem.head | apply List.Mem.tail | apply List.mem_append_right)))); (intro hcc w hC; exact tame_below (awake31_any _) hC); (simp only [List.set_cons_succ, List.set_cons_zero]; exact rfl))
    | ((with_reducible apply q_kn); exact rfl; (with_reducible apply t_call Tryd.call9); (first | (apply EvC.gv; exact rfl; (with_reducible first | exact Imp.refl _ | (apply Imp.left; exact Imp.refl _) | (apply Imp.right; exact Imp.refl _) | (apply Imp.left; apply Imp.left; exact Imp.refl _))) | (apply EvC.now; exact rfl) | exact rfl | (with_reducible exact EvAll.nil) | (focus (repeat (first | apply EvAll.cons | exact EvAll.nil | (apply EvC.gv; exact rfl; (with_reducible first | exact Imp.refl _ | (apply Imp.left; exact Imp.refl _) | (apply Imp.right; exact Imp.refl _) | (apply Imp.left; apply Imp.left; exact Imp.refl _))) | (apply EvC.now; exact rfl))); done) | (first | exact ext_tok _ | exact ext_stm _ _ _) | (focus (repeat (first | apply List.Mem.head | apply List.Mem.tail | apply List.mem_append_right)))); (intro hcc w hC; exact tame_same' (HNM.out _) hC); (simp only [List.set_cons_succ, List.set_cons_zero]; exact rfl))
    | ((with_reducible apply q_kn); exact rfl; (with_reducible apply t_not); (apply EvC.now; exact rfl); (simp only [List.set_cons_succ, List.set_cons_zero]; exact rfl))
    | ((with_reducible apply q_kn); exact rfl; (first | ((with_reducible first | apply t_move | apply t_assign | apply t_addr (fTok _ (by decide)) | apply t_addr (fStm _ (by decide)) | apply t_one tIntL | apply t_one tStrO | apply t_one tBoolL | apply t_one tStrsL | apply t_one tPartsL | apply t_part tTok | apply t_part tStm) <;> (first | (apply EvC.gv; exact rfl; (with_reducible first | exact Imp.refl _ | (apply Imp.left; exact Imp.refl _) | (apply Imp.right; exact Imp.refl _) | (apply Imp.left; apply Imp.left; exact Imp.refl _))) | (apply EvC.now; exact rfl) | exact rfl | (with_reducible exact EvAll.nil) | (focus (repeat (first | apply EvAll.cons | exact EvAll.nil | (apply EvC.gv; exact rfl; (with_reducible first | exact Imp.refl _ | (apply Imp.left; exact Imp.refl _) | (apply Imp.right; exact Imp.refl _) | (apply Imp.left; apply Imp.left; exact Imp.refl _))) | (apply EvC.now; exact rfl))); done) | (first | exact ext_tok _ | exact ext_stm _ _ _) | (focus (repeat (first | apply List.Mem.head | apply List.Mem.tail | apply List.mem_append_right))))) | ((with_reducible apply t_pick); (apply EvC.now; exact rfl); (apply EvC.now; exact rfl))); (simp only [List.set_cons_succ, List.set_cons_zero]; exact rfl)))
      refine wpT_nil ?_
      clear hR; intro w hR
      go_wp2_with fail
      go_ret
      exact ⟨ret_bool (by kernel_rfl), (hZ.own hR).below⟩
    · obtain ⟨hlab, hop, hcol, hal⟩ := hy rfl
      have HA1 := Lib.hid (show cmpB .eql (z.args.length : Int) 1 = some true by rw [hal]; rfl)
      clear hn hy hal h11
      go_upto_region 9 with (first
          | ((with_reducible apply q_ls hR); exact rfl; (with_reducible apply t_six Tryd.underlying23 iStrO); (apply EvC.now; exact rfl); (apply EvC.now; exact rfl); exact HKB.out; (simp only [List.set_cons_succ, List.set_cons_zero]; exact rfl); clear hR; intro w hR)
          | ((with_reducible apply q_ls hR); exact rfl; (with_reducible apply t_oldOne tStrO); (apply EvC.now; exact rfl); (exact HC.out); exact rfl; (simp only [List.set_cons_succ, List.set_cons_zero]; exact rfl); clear hR; intro w hR)
          | ((with_reducible apply q_ls hR); exact rfl; (with_reducible apply t_catE); (exact lit_now lwNAMEb); (apply EvC.now; exact rfl); exact hl1; exact rfl; (simp only [List.set_cons_succ, List.set_cons_zero]; exact rfl); clear hR; intro w hR)
          | ((with_reducible apply q_ls hR); exact rfl; (with_reducible apply t_catE); (exact lit_now lwNAMEc); (apply EvC.now; exact rfl); exact hl2; exact rfl; (simp only [List.set_cons_succ, List.set_cons_zero]; exact rfl); clear hR; intro w hR)
          | ((with_reducible apply q_ls hR); exact rfl; (with_reducible apply t_catE); (apply EvC.now; exact rfl); (exact lit_now lw5); (first | exact hl3 | exact hl4); exact rfl; (simp only [List.set_cons_succ, List.set_cons_zero]; exact rfl); clear hR; intro w hR)
          | (go_at_call 6; refine (HPZ.out _).mono ?_; rintro e w2 ⟨vp, va, rfl, hb, hS⟩; replace hR := hR.grow hb; have hC2 := (hR.below.cell (World.block_lt_of_cell? _ _ HC.out)).trans HC.out; replace hZ := hZ.own hR; clear hR hb HC; have HC := Lib.hid hC2; clear hC2; have hR := Own.start w2; obtain ⟨vs, hargs⟩ := hS.args.rd; have hvp := hS.pre.rd.one; have hva := hargs.one)
          | ((with_reducible apply q_ls hR); exact rfl; (with_reducible apply t_extract); (apply EvC.now; exact rfl); exact rfl; (simp only [List.set_cons_succ, List.set_cons_zero]; exact rfl); clear hR; intro w hR)
          | ((with_reducible apply wpList_make hR zStm); exact rfl; clear hR; intro g w hR; simp only [List.set_cons_succ, List.set_cons_zero])
          | ((with_reducible apply wpList_put hR tStm); exact rfl; exact rfl; exact rfl; (focus (repeat (first | apply List.Mem.head | apply List.Mem.tail | apply List.mem_append_right))); exact put_stm _ _ _ _ _ _; exact rfl; exact Nat.le_refl 5; exact one_stm _ hvp hva; (focus (repeat (first | apply Upd.head | apply Upd.tail))); clear hR; intro w hR)
          | ((with_reducible apply q_ls hR); exact rfl; (with_reducible apply t_cmp (op := .lss)); (apply EvC.now; exact rfl); (apply EvC.now; exact rfl); exact H11.out; (simp only [List.set_cons_succ, List.set_cons_zero]; exact rfl); clear hR; intro w hR))
      refine wp_region_rows hR [0, 1, 2, 3, 4, 5, 6, 7, 8, 9, 10, 11, 12, 13, 14, 15, 16, 17, 18, 19, 20, 21, 22, 23, 24, 25, 26, 27, 28, 29, 30, 31, 32, 33, 34, 35, 36, 37, 38, 39, 40] 0 (by kernel_rfl) (by kernel_rfl) (by kernel_rfl) rfl ?_
      clear hR; intro hR
      repeat (refine wpT_step rfl ?_; first
          | ((with_reducible apply q_kn); exact rfl; (with_reducible apply t_cmp (op := .eql)); (apply EvC.now; exact rfl); (apply EvC.now; exact rfl); (with_reducible first | exact HE0.out | exact HA1.out | exact HP2.out); (simp only [List.set_cons_succ, List.set_cons_zero]; exact rfl))
          | ((with_reducible apply q_kn); exact rfl; (with_reducible apply t_wordK lwNAME okwNAME hS.label hlab); (apply EvC.now; exact rfl); (simp only [List.set_cons_succ, List.set_cons_zero]; exact rfl))
          | ((with_reducible apply q_kn); exact rfl; (with_reducible apply t_eqE hS.op hwo); (apply EvC.now; exact rfl); (apply EvC.now; exact rfl); exact hop; (simp only [List.set_cons_succ, List.set_cons_zero]; exact rfl))
          | ((with_reducible apply q_kn); exact rfl; (with_reducible apply t_eqbK Tryd.underlying4); (apply EvC.now; exact rfl); (apply EvC.now; exact rfl); (first | exact hcol | exact rfl); (simp only [List.set_cons_succ, List.set_cons_zero]; exact rfl))
          | ((with_reducible apply q_kn); exact rfl; (with_reducible apply t_six Tryd.underlying23 iStrO); (apply EvC.now; exact rfl); (apply EvC.now; exact rfl); exact HKB.out; (simp only [List.set_cons_succ, List.set_cons_zero]; exact rfl))
          | ((with_reducible apply q_kn); exact rfl; (with_reducible apply t_oldOne tStrO); (apply EvC.now; exact rfl); (exact HC.out); exact rfl; (simp only [List.set_cons_succ, List.set_cons_zero]; exact rfl))
          | ((with_reducible apply q_kn); exact rfl; (with_reducible apply t_lenRd Tryd.underlying24); (apply EvC.now; exact rfl); exact hargs; (simp only [List.set_cons_succ, List.set_cons_zero]; exact rfl))
          | ((with_reducible apply q_kn); exact rfl; (with_reducible apply t_call Tryd.call7); (first | (apply EvC.gv; exact rfl; (with_reducible first | exact Imp.refl _ | (apply Imp.left; exact Imp.refl _) | (apply Imp.right; exact Imp.refl _) | (apply Imp.left; apply Imp.left; exact Imp.refl _))) | (apply EvC.now; exact rfl) | exact rfl | (with_reducible exact EvAll.nil) | (focus (repeat (first | apply EvAll.cons | exact EvAll.nil | (apply EvC.gv; exact rfl; (with_reducible first | exact Imp.refl _ | (apply Imp.left; exact Imp.refl _) | (apply Imp.right; exact Imp.refl _) | (apply Imp.left; apply Imp.left; exact Imp.refl _))) | (apply EvC.now; exact rfl))); done) | (first | exact ext_tok _ | exact ext_stm _ _ _) | (focus (repeat (first | apply List.Mem.head | apply List.Mem.tail | apply List.mem_append_right)))); (intro hcc w hC; exact tame_below (awake31_any _) hC); (simp only [List.set_cons_succ, List.set_cons_zero]; exact rfl))
          | ((with_reducible apply q_kn); exact rfl; (with_reducible apply t_call Tryd.call9); (first | (apply EvC.gv; exact rfl; (with_reducible first | exact Imp.refl _ | (apply Imp.left; exact Imp.refl _) | (apply Imp.right; exact Imp.refl _) | (apply Imp.left; apply Imp.left; exact Imp.refl _))) | (apply EvC.now; exact rfl) | exact rfl | (with_reducible exact EvAll.nil) | (focus (repeat (first | apply EvAll.cons | exact EvAll.nil | (apply EvC.gv; exact rfl; (with_reducible first | exact Imp.refl _ | (apply Imp.left; exact Imp.refl _) | (apply Imp.right; exact Imp.refl _) | (apply Imp.left; apply Imp.left; exact Imp.refl _))) | (apply EvC.now; exact rfl))); done) | (first | exact ext_tok _ | exact ext_stm _ _ _) | (focus (repeat (first | apply List.Mem.head | apply List.Mem.tail | apply List.mem_append_right)))); (intro hcc w hC; exact tame_same' (HNM.out _) hC); (simp only [List.set_cons_succ, List.set_cons_zero]; exact rfl))
          | ((with_reducible apply q_kn); exact rfl; (first | ((with_reducible first | apply t_move | apply t_assign | apply t_addr (fTok _ (by decide)) | apply t_addr (fStm _ (by decide)) | apply t_one tIntL | apply t_one tStrO | apply t_one tBoolL | apply t_one tStrsL | apply t_one tPartsL | apply t_part tTok | apply t_part tStm) <;> (first | (apply EvC.gv; exact rfl; (with_reducible first | exact Imp.refl _ | (apply Imp.left; exact Imp.refl _) | (apply Imp.right; exact Imp.refl _) | (apply Imp.left; apply Imp.left; exact Imp.refl _))) | (apply EvC.now; exact rfl) | exact rfl | (with_reducible exact EvAll.nil) | (focus (repeat (first | apply EvAll.cons | exact EvAll.nil | (apply EvC.gv; exact rfl; (with_reducible first | exact Imp.refl _ | (apply Imp.left; exact Imp.refl _) | (apply Imp.right; exact Imp.refl _) | (apply Imp.left; apply Imp.left; exact Imp.refl _))) | (apply EvC.now; exact rfl))); done) | (first | exact ext_tok _ | exact ext_stm _ _ _) | (focus (repeat (first | apply List.Mem.head | apply List.Mem.tail | apply List.mem_append_right))))) | ((with_reducible apply t_pick); (apply EvC.now; exact rfl); (apply EvC.now; exact rfl))); (simp only [List.set_cons_succ, List.set_cons_zero]; exact rfl))
          | ((with_reducible apply q_kn); exact rfl; (with_reducible apply t_not); (apply EvC.now; exact rfl); (simp only [List.set_cons_succ, List.set_cons_zero]; exact rfl)))
      refine wpG_end hR (by kernel_rfl) ?_
      clear hR; intro w hR
      go_wp2_with fail
      go_ret
      exact ⟨ret_bool (by kernel_rfl), (hZ.own hR).below⟩

set_option maxRecDepth 100000 in
theorem lifted (os : Os) (started : os.Started) (H : Type) (enc : TypeId × Value → H) :
    ReturnsInHanded {} Tryd.checked os 4 .any (fun w args => (Rows.lineNamedSpec.pre enc Tryd.prog Tryd.f4 [] false w args ∧ laidMetH Tryd.prog laid2 w) ∧ sizedMet enc Tryd.prog Tryd.f4 (OpenSpec.ofChange Rows.lineNamedSpec) false w args)
      (Rows.lineNamedSpec.post enc Tryd.prog Tryd.f4 false true false false) := by
  refine returnsInHanded_of_change_and (C := Tryd.checked) (X := fun w _ => laidMetH Tryd.prog laid2 w) (fun _ _ _ hh h => h.of_heap hh) own started (by kernel_rfl) Tryd.func4
    (ChangeSpec.witness_shaped (enc := enc) (C := Tryd.checked) (os := os) (X := fun w _ => laidMetH Tryd.prog laid2 w) false (World.laidAll Tryd.prog os laid2) #[.int .i64 0, .bool false] 8 (World.laidAll_os _ _ _) (World.shaped_of_ZipB (by kernel_rfl) (by kernel_rfl)) (by kernel_rfl) (by kernel_rfl) (by kernel_rfl) (by rw [MakeChecks.laidMetH_plain _ _ _ (by kernel_rfl)]; exact laidMet_laidAll _ (by kernel_rfl) (by kernel_rfl))) ?_
  intro W base args ds gs before hval0 hW _ _ hL _
  have hval : ∀ (j : Nat) t v, Tryd.f4.params[j]? = some t → args[j]? = some v → Value.okWide Tryd.prog W .any base t v := hval0
  have hW' := hW
  obtain ⟨p, q, hA0, hV, rfl, hfz, hnd⟩ := hW
  have hA : DataW.TrodAll enc Tryd.prog W 0 (fun _ => true) true Tryd.f4.params.toList args.toList ds p := hA0
  rw [Tryd.params4] at hA hval
  obtain ⟨v0, vs0, d0, ds0, p0, q0, hargs, rfl, rfl, h0, r0⟩ := trodAll_cons hA
  obtain ⟨v1, vs1, d1, ds1, p1, q1, rfl, rfl, rfl, h1, r1⟩ := trodAll_cons r0
  obtain ⟨rfl, rfl, rfl⟩ := trodAll_nil r1
  obtain rfl : args = #[v0, v1] := by cases args; simp_all
  obtain ⟨rfl, rfl⟩ := trodVars_none hV
  obtain ⟨a0, rfl, rfl, rfl, w0⟩ := open_int Tryd.underlying3 (hval 0 3 v0 rfl rfl) h0
  obtain ⟨a1, rfl, rfl, rfl⟩ := open_bool Tryd.underlying4 (hval 1 4 v1 rfl rfl) h1
  clear hA0 hval0
  refine (walk a0 w0 a1 W (of_laid hL)).mono fun e W' ⟨he, bel⟩ => ?_
  subst he
  exact ⟨_, rfl, _, _, _, [], _, [], hW', trodAll_mk1 (shut_bool Tryd.underlying4 _), (trodAll_cons_mk (shut_int Tryd.underlying3 w0) (trodAll_cons_mk (shut_bool Tryd.underlying4 _) trodAll_mk0)), rfl, bel.frame _, fun h => by cases h⟩

theorem over : Rows.lineNamedRow.holds Tryd.pinned (OpenSpec.ofChange Rows.lineNamedSpec) :=
  OpenClaim.holds_of_wide 4 Tryd.f4 rfl rfl rfl rfl rfl rfl rfl ⟨rfl, rfl, rfl, rfl, rfl⟩ rfl rfl rfl rfl rfl (by kernel_rfl) Tryd.func4 (by kernel_rfl)
    (of_decide_eq_true (by kernel_rfl)) (by unfold Func.isWrapper; first | (rw [if_pos (by decide +kernel)]; kernel_rfl) | (rw [if_neg (by decide +kernel)]; exact ⟨rfl, rfl⟩))
    (fun os started H enc _ => lifted os started H enc)

theorem proved : Rows.LineNamedCardSaid :=
  Claim7.holds_tied_plain_at .later [] [.data, .pinned] true Rows.lineNamedCard.stood.harness Rows.lineNamedCard.stood.looks
    over (fun _ h => by cases h) (by kernel_rfl) (fun _ h => by cases h) lineNamed_row_tie rfl ⟨rfl, rfl⟩ (by kernel_rfl) rfl
    (fun f fn hf hfn => by
      obtain rfl : f = 4 := Option.some.inj ((show Tryd.prog.funcNamed "hansom/hansomlaw31.LineNamed" = some 4 by kernel_rfl).symm.trans hf) |>.symm
      obtain rfl : fn = Tryd.f4 := (Option.some.inj (Tryd.func4.symm.trans hfn)).symm
      exact ⟨by kernel_rfl, fun j t ht => by
        rw [Tryd.params4] at ht
        have hm : t ∈ [3, 4] := by simpa using Array.mem_of_getElem? ht
        have hall : ([3, 4].all fun u => !Tryd.prog.wantsStandIn u) = true := by kernel_rfl
        exact (show Tryd.prog.wantsStandIn t = false by simpa using List.all_eq_true.1 hall t hm)⟩)
    (by kernel_rfl)
#print axioms proved
end Go.Proofs.YtjecckmcjcikdaaDoor.lineNamed
