/- The law DataAny () returns true whatever the arguments, and each argument reads afterwards as before. There is no condition on the arguments. -/
import Derived.Test.YthklhkpikaopfaaRows
import Derived.Test.YthklhkpikaopfaaLaw23
import Derived.Test.YthklhkpikaopfaaBytesArg
import Derived.WalkKit
import Derived.ProofKit
import Derived.OpenShut
import Derived.ShutString
import Derived.ChangeOld
import Derived.Below
namespace Go.Proofs.Ythklhkpikaopfaa.dataAny
open Go.ChangeShapes Go.WideShapes Go.ChangeAt Go.RowKit
open Go.ChangeMaps (open_string shut_string)
set_option linter.unusedVariables false
set_option linter.unusedSimpArgs false

theorem own : ownKnob Try.prog.godebug = none := by kernel_rfl
theorem laidOut : laidOutB Try.prog = true := by kernel_rfl










theorem min40 (n : Nat) : (if (40 : Int) < (n : Int) then 40 else (n : Int)) = ((min n 40 : Nat) : Int) := by split <;> omega
theorem n20 : cmpB .neq 2 0 = some true := rfl
theorem n30 : cmpB .neq 3 0 = some true := rfl
theorem n00 : cmpB .neq 0 0 = some false := rfl
theorem z0 : cmpB .eql ((zeroD.b.length : Nat) : Int) 0 = some true := rfl
theorem e32 : cmpB .eql 3 2 = some false := rfl
set_option maxHeartbeats 4000000 in
set_option maxRecDepth 100000 in
theorem walk {w0 : World} (v0 : Value) (hB : BytesAt w0 v0) (wi : World) :
    Calls Try.prog 4 #[v0] w0 fun e w' => e = .returned (.bool true) ∧ Below w0.heap.size w0 w' := by
  clear wi
  obtain ⟨bs, hS0, hlen⟩ := hB
  have hR := Own.start w0
  obtain ⟨m, hm⟩ : ∃ m, min bs.length 40 = m := ⟨_, rfl⟩
  have hmb : m ≤ bs.length := by omega
  have HM := Lib.hid (min40 bs.length)
  rw [hm] at HM
  have hS1 := hS0.first m hmb
  have hl1 : (bs.take m).length ≤ 40 := by rw [List.length_take]; omega
  clear hm
  go_enter Try.func4, Try.ntmps4
  go_wp2_with (first
    | ((with_reducible apply q_ls hR); exact rfl; (with_reducible apply t_lenW Try.underlying23); (apply EvC.now; exact rfl); exact hS0; (simp only [List.set_cons_succ, List.set_cons_zero]; exact rfl); clear hR; intro w hR)
    | ((with_reducible apply q_ls hR); exact rfl; (with_reducible apply t_minK); (apply EvC.now; exact rfl); (apply EvC.now; exact rfl); (exact HM.out); (simp only [List.set_cons_succ, List.set_cons_zero]; exact rfl); clear hR; intro w hR)
    | ((with_reducible apply q_ls hR); exact rfl; (with_reducible apply t_cutH tBytesN hS0); (apply EvC.now; exact rfl); (apply EvC.now; exact rfl); exact rfl; (exact hmb); (simp only [List.set_cons_succ, List.set_cons_zero]; exact rfl); clear hR; intro w hR))
  generalize bs.take m = ys at *
  have hso := hS1.ok
  refine (datGet_any (hS1.own hR) (by omega)).mono ?_
  rintro e w1 ⟨v1, rfl, hb, hG⟩
  replace hR := hR.grow hb
  have hZ2 := (Since.start w0).own hR
  clear hR hb
  try clear hZ
  have hZ := hZ2
  clear hZ2
  have hR := Own.start w1
  have hdis := dat_any hso
  obtain ⟨r, hr⟩ : ∃ r, datR ys = r := ⟨_, rfl⟩
  rw [hr] at hdis hG ⊢
  obtain ⟨d, x⟩ := r
  dsimp only at hdis hG ⊢
  clear hr
  go_upto_region 3 with (first
    | ((with_reducible apply wpList_make hR zDat); exact rfl; clear hR; intro g w hR; simp only [List.set_cons_succ, List.set_cons_zero])
    | ((with_reducible apply wpList_put hR tDat); exact rfl; exact rfl; exact rfl; (focus (repeat (first | apply List.Mem.head | apply List.Mem.tail | apply List.mem_append_right))); exact put_dat _ rfl _ _ _ _; exact rfl; simp [encD]; exact one_dat _ _ hG.isSl IsSl.nil; (focus (repeat (first | apply Upd.head | apply Upd.tail))); clear hR; intro w hR))
  rcases hdis with ⟨rfl, hM, hle, hok⟩ | ⟨rfl, rfl | rfl⟩
  · go_upto_if 17 with (first
    | ((with_reducible apply q_ls hR); exact rfl; (with_reducible apply t_cmp); (apply EvC.now; exact rfl); (apply EvC.now; exact rfl); exact n00; (simp only [List.set_cons_succ, List.set_cons_zero]; exact rfl); clear hR; intro w hR))
    refine wp_cond_at (nm := false) rfl rfl (fun h => absurd h (by decide)) (fun _ => ?_)
    have hyes := (mayD_iff d).2 hM
    have HMAY := Lib.hid (fun w (h : SrcW w v1 d.b) => datMay_any d (x := nilV) hok h (by have := hM.n; simp only [maxLen]; omega) IsSl.nil)
    rw [hyes] at HMAY
    have HLE := Lib.hid (show cmpB .leq (d.b.length : Int) ((ys.length : Int) - 3) = some true from congrArg some (decide_eq_true (by omega)))
    have HSUB := Lib.hid (show IntKind.i64.wrap ((ys.length : Int) - 3) = (ys.length : Int) - 3 from IntWalk.i64_in _ (by omega))
    go_upto_region 5 with fail
    refine wp_region_tame hR [0, 1, 2, 3, 4, 5, 6, 7, 8, 9, 10, 11, 12, 13, 14] rfl ?_
    repeat (refine wpT_step rfl ?_; first
    | ((with_reducible apply q_kn); exact rfl; (with_reducible apply t_call Try.call7); (first | (apply EvC.gv; exact rfl; (with_reducible first | exact Imp.refl _ | (apply Imp.left; exact Imp.refl _) | (apply Imp.right; exact Imp.refl _) | (apply Imp.left; apply Imp.left; exact Imp.refl _))) | (apply EvC.now; exact rfl) | exact rfl | (with_reducible exact EvAll.nil) | (focus (repeat (first | apply EvAll.cons | exact EvAll.nil | (apply EvC.gv; exact rfl; (with_reducible first | exact Imp.refl _ | (apply Imp.left; exact Imp.refl _) | (apply Imp.right; exact Imp.refl _) | (apply Imp.left; apply Imp.left; exact Imp.refl _))) | (apply EvC.now; exact rfl))); done) | exact ext_dat _ _ _ | (focus (repeat (first | apply List.Mem.head | apply List.Mem.tail | apply List.mem_append_right)))); (intro hcc w hC; exact tame_below (awake23_any _) hC); (simp only [List.set_cons_succ, List.set_cons_zero]; exact rfl))
    | ((with_reducible apply q_kn); exact rfl; (with_reducible apply t_call Try.call8); (first | (apply EvC.gv; exact rfl; (with_reducible first | exact Imp.refl _ | (apply Imp.left; exact Imp.refl _) | (apply Imp.right; exact Imp.refl _) | (apply Imp.left; apply Imp.left; exact Imp.refl _))) | (apply EvC.now; exact rfl) | exact rfl | (with_reducible exact EvAll.nil) | (focus (repeat (first | apply EvAll.cons | exact EvAll.nil | (apply EvC.gv; exact rfl; (with_reducible first | exact Imp.refl _ | (apply Imp.left; exact Imp.refl _) | (apply Imp.right; exact Imp.refl _) | (apply Imp.left; apply Imp.left; exact Imp.refl _))) | (apply EvC.now; exact rfl))); done) | exact ext_dat _ _ _ | (focus (repeat (first | apply List.Mem.head | apply List.Mem.tail | apply List.mem_append_right)))); (intro hcc w hC; exact tame_below (HMAY.out _ (hG.own hC)) hC); (simp only [List.set_cons_succ, List.set_cons_zero]; exact rfl))
    | ((with_reducible apply q_kn); exact rfl; (with_reducible apply t_lenW Try.underlying23); (apply EvC.now; exact rfl); (first | exact hG | exact hS1); (simp only [List.set_cons_succ, List.set_cons_zero]; exact rfl))
    | ((with_reducible apply q_kn); exact rfl; (with_reducible apply t_numE); (apply EvC.now; exact rfl); (apply EvC.now; exact rfl); exact rfl; exact HSUB.out; (simp only [List.set_cons_succ, List.set_cons_zero]; exact rfl))
    | ((with_reducible apply q_kn); exact rfl; (with_reducible apply t_cmp); (apply EvC.now; exact rfl); (apply EvC.now; exact rfl); (exact HLE.out); (simp only [List.set_cons_succ, List.set_cons_zero]; exact rfl))
    | ((with_reducible apply q_kn); exact rfl; ((with_reducible first | apply t_addr (fRec _ (by decide)) | apply t_addr (fDat _ (by decide)) | apply t_one tByteR | apply t_one tSlR | apply t_one tIntR | apply t_one tWordD | apply t_one tFixD | apply t_part tDat) <;> (first | (apply EvC.gv; exact rfl; (with_reducible first | exact Imp.refl _ | (apply Imp.left; exact Imp.refl _) | (apply Imp.right; exact Imp.refl _) | (apply Imp.left; apply Imp.left; exact Imp.refl _))) | (apply EvC.now; exact rfl) | exact rfl | (with_reducible exact EvAll.nil) | (focus (repeat (first | apply EvAll.cons | exact EvAll.nil | (apply EvC.gv; exact rfl; (with_reducible first | exact Imp.refl _ | (apply Imp.left; exact Imp.refl _) | (apply Imp.right; exact Imp.refl _) | (apply Imp.left; apply Imp.left; exact Imp.refl _))) | (apply EvC.now; exact rfl))); done) | exact ext_dat _ _ _ | (focus (repeat (first | apply List.Mem.head | apply List.Mem.tail | apply List.mem_append_right))))); (simp only [List.set_cons_succ, List.set_cons_zero]; exact rfl))
    | ((with_reducible apply q_kn); exact rfl; (first | ((with_reducible first | apply t_move | apply t_assign | apply t_addr (fRec _ (by decide)) | apply t_addr (fDat _ (by decide)) | apply t_one tByteR | apply t_one tSlR | apply t_one tIntR | apply t_one tWordD | apply t_one tFixD | apply t_part tDat) <;> (first | (apply EvC.gv; exact rfl; (with_reducible first | exact Imp.refl _ | (apply Imp.left; exact Imp.refl _) | (apply Imp.right; exact Imp.refl _) | (apply Imp.left; apply Imp.left; exact Imp.refl _))) | (apply EvC.now; exact rfl) | exact rfl | (with_reducible exact EvAll.nil) | (focus (repeat (first | apply EvAll.cons | exact EvAll.nil | (apply EvC.gv; exact rfl; (with_reducible first | exact Imp.refl _ | (apply Imp.left; exact Imp.refl _) | (apply Imp.right; exact Imp.refl _) | (apply Imp.left; apply Imp.left; exact Imp.refl _))) | (apply EvC.now; exact rfl))); done) | exact ext_dat _ _ _ | (focus (repeat (first | apply List.Mem.head | apply List.Mem.tail | apply List.mem_append_right))))) | ((with_reducible apply t_pick); (apply EvC.now; exact rfl); (apply EvC.now; exact rfl))); (simp only [List.set_cons_succ, List.set_cons_zero]; exact rfl)))
    refine wpT_nil ?_
    clear hR; intro w hR
    go_wp2_with fail
    go_ret
    exact ⟨rfl, (hZ.own hR).below⟩
  · skip
    go_upto_if 17 with (first
        | ((with_reducible apply q_ls hR); exact rfl; (with_reducible apply t_cmp); (apply EvC.now; exact rfl); (apply EvC.now; exact rfl); exact n20; (simp only [List.set_cons_succ, List.set_cons_zero]; exact rfl); clear hR; intro w hR))
    refine wp_cond_at (nm := true) rfl rfl (fun _ => ?_) (fun h => absurd h (by decide))
    go_upto_region 4 with fail
    refine wp_region_tame hR [0, 1, 2, 3, 4, 5, 6, 7, 8, 9, 10, 11, 12, 13, 14, 15] rfl ?_
    repeat (refine wpT_step rfl ?_; first
        | ((with_reducible apply q_kn); exact rfl; (with_reducible apply t_call Try.call7); (first | (apply EvC.gv; exact rfl; (with_reducible first | exact Imp.refl _ | (apply Imp.left; exact Imp.refl _) | (apply Imp.right; exact Imp.refl _) | (apply Imp.left; apply Imp.left; exact Imp.refl _))) | (apply EvC.now; exact rfl) | exact rfl | (with_reducible exact EvAll.nil) | (focus (repeat (first | apply EvAll.cons | exact EvAll.nil | (apply EvC.gv; exact rfl; (with_reducible first | exact Imp.refl _ | (apply Imp.left; exact Imp.refl _) | (apply Imp.right; exact Imp.refl _) | (apply Imp.left; apply Imp.left; exact Imp.refl _))) | (apply EvC.now; exact rfl))); done) | exact ext_dat _ _ _ | (focus (repeat (first | apply List.Mem.head | apply List.Mem.tail | apply List.mem_append_right)))); (intro hcc w hC; exact tame_below (awake23_any _) hC); (simp only [List.set_cons_succ, List.set_cons_zero]; exact rfl))
        | ((with_reducible apply q_kn); exact rfl; (with_reducible apply t_lenW Try.underlying23); (apply EvC.now; exact rfl); exact hG; (simp only [List.set_cons_succ, List.set_cons_zero]; exact rfl))
        | ((with_reducible apply q_kn); exact rfl; (with_reducible apply t_cmp); (apply EvC.now; exact rfl); (apply EvC.now; exact rfl); (with_reducible first | exact z0 | exact cmp_selfS _ | exact e32); (simp only [List.set_cons_succ, List.set_cons_zero]; exact rfl))
        | ((with_reducible apply q_kn); exact rfl; ((with_reducible first | apply t_addr (fRec _ (by decide)) | apply t_addr (fDat _ (by decide)) | apply t_one tByteR | apply t_one tSlR | apply t_one tIntR | apply t_one tWordD | apply t_one tFixD | apply t_part tDat) <;> (first | (apply EvC.gv; exact rfl; (with_reducible first | exact Imp.refl _ | (apply Imp.left; exact Imp.refl _) | (apply Imp.right; exact Imp.refl _) | (apply Imp.left; apply Imp.left; exact Imp.refl _))) | (apply EvC.now; exact rfl) | exact rfl | (with_reducible exact EvAll.nil) | (focus (repeat (first | apply EvAll.cons | exact EvAll.nil | (apply EvC.gv; exact rfl; (with_reducible first | exact Imp.refl _ | (apply Imp.left; exact Imp.refl _) | (apply Imp.right; exact Imp.refl _) | (apply Imp.left; apply Imp.left; exact Imp.refl _))) | (apply EvC.now; exact rfl))); done) | exact ext_dat _ _ _ | (focus (repeat (first | apply List.Mem.head | apply List.Mem.tail | apply List.mem_append_right))))); (simp only [List.set_cons_succ, List.set_cons_zero]; exact rfl))
        | ((with_reducible apply q_kn); exact rfl; (first | ((with_reducible first | apply t_move | apply t_assign | apply t_addr (fRec _ (by decide)) | apply t_addr (fDat _ (by decide)) | apply t_one tByteR | apply t_one tSlR | apply t_one tIntR | apply t_one tWordD | apply t_one tFixD | apply t_part tDat) <;> (first | (apply EvC.gv; exact rfl; (with_reducible first | exact Imp.refl _ | (apply Imp.left; exact Imp.refl _) | (apply Imp.right; exact Imp.refl _) | (apply Imp.left; apply Imp.left; exact Imp.refl _))) | (apply EvC.now; exact rfl) | exact rfl | (with_reducible exact EvAll.nil) | (focus (repeat (first | apply EvAll.cons | exact EvAll.nil | (apply EvC.gv; exact rfl; (with_reducible first | exact Imp.refl _ | (apply Imp.left; exact Imp.refl _) | (apply Imp.right; exact Imp.refl _) | (apply Imp.left; apply Imp.left; exact Imp.refl _))) | (apply EvC.now; exact rfl))); done) | exact ext_dat _ _ _ | (focus (repeat (first | apply List.Mem.head | apply List.Mem.tail | apply List.mem_append_right))))) | ((with_reducible apply t_pick); (apply EvC.now; exact rfl); (apply EvC.now; exact rfl))); (simp only [List.set_cons_succ, List.set_cons_zero]; exact rfl))
        | ((with_reducible apply wpT1_skipL); exact rfl; (simp only [List.set_cons_succ, List.set_cons_zero]; exact rfl)))
    refine wpT_nil ?_
    clear hR; intro w hR
    go_wp2_with fail
    go_ret
    exact ⟨rfl, (hZ.own hR).below⟩
  · skip
    go_upto_if 17 with (first
        | ((with_reducible apply q_ls hR); exact rfl; (with_reducible apply t_cmp); (apply EvC.now; exact rfl); (apply EvC.now; exact rfl); exact n30; (simp only [List.set_cons_succ, List.set_cons_zero]; exact rfl); clear hR; intro w hR))
    refine wp_cond_at (nm := true) rfl rfl (fun _ => ?_) (fun h => absurd h (by decide))
    go_upto_region 4 with fail
    refine wp_region_tame hR [0, 1, 2, 3, 4, 5, 6, 7, 8, 9, 10, 11, 12, 13, 14, 15] rfl ?_
    repeat (refine wpT_step rfl ?_; first
        | ((with_reducible apply q_kn); exact rfl; (with_reducible apply t_call Try.call7); (first | (apply EvC.gv; exact rfl; (with_reducible first | exact Imp.refl _ | (apply Imp.left; exact Imp.refl _) | (apply Imp.right; exact Imp.refl _) | (apply Imp.left; apply Imp.left; exact Imp.refl _))) | (apply EvC.now; exact rfl) | exact rfl | (with_reducible exact EvAll.nil) | (focus (repeat (first | apply EvAll.cons | exact EvAll.nil | (apply EvC.gv; exact rfl; (with_reducible first | exact Imp.refl _ | (apply Imp.left; exact Imp.refl _) | (apply Imp.right; exact Imp.refl _) | (apply Imp.left; apply Imp.left; exact Imp.refl _))) | (apply EvC.now; exact rfl))); done) | exact ext_dat _ _ _ | (focus (repeat (first | apply List.Mem.head | apply List.Mem.tail | apply List.mem_append_right)))); (intro hcc w hC; exact tame_below (awake23_any _) hC); (simp only [List.set_cons_succ, List.set_cons_zero]; exact rfl))
        | ((with_reducible apply q_kn); exact rfl; (with_reducible apply t_lenW Try.underlying23); (apply EvC.now; exact rfl); exact hG; (simp only [List.set_cons_succ, List.set_cons_zero]; exact rfl))
        | ((with_reducible apply q_kn); exact rfl; (with_reducible apply t_cmp); (apply EvC.now; exact rfl); (apply EvC.now; exact rfl); (with_reducible first | exact z0 | exact cmp_selfS _ | exact e32); (simp only [List.set_cons_succ, List.set_cons_zero]; exact rfl))
        | ((with_reducible apply q_kn); exact rfl; ((with_reducible first | apply t_addr (fRec _ (by decide)) | apply t_addr (fDat _ (by decide)) | apply t_one tByteR | apply t_one tSlR | apply t_one tIntR | apply t_one tWordD | apply t_one tFixD | apply t_part tDat) <;> (first | (apply EvC.gv; exact rfl; (with_reducible first | exact Imp.refl _ | (apply Imp.left; exact Imp.refl _) | (apply Imp.right; exact Imp.refl _) | (apply Imp.left; apply Imp.left; exact Imp.refl _))) | (apply EvC.now; exact rfl) | exact rfl | (with_reducible exact EvAll.nil) | (focus (repeat (first | apply EvAll.cons | exact EvAll.nil | (apply EvC.gv; exact rfl; (with_reducible first | exact Imp.refl _ | (apply Imp.left; exact Imp.refl _) | (apply Imp.right; exact Imp.refl _) | (apply Imp.left; apply Imp.left; exact Imp.refl _))) | (apply EvC.now; exact rfl))); done) | exact ext_dat _ _ _ | (focus (repeat (first | apply List.Mem.head | apply List.Mem.tail | apply List.mem_append_right))))); (simp only [List.set_cons_succ, List.set_cons_zero]; exact rfl))
        | ((with_reducible apply q_kn); exact rfl; (first | ((with_reducible first | apply t_move | apply t_assign | apply t_addr (fRec _ (by decide)) | apply t_addr (fDat _ (by decide)) | apply t_one tByteR | apply t_one tSlR | apply t_one tIntR | apply t_one tWordD | apply t_one tFixD | apply t_part tDat) <;> (first | (apply EvC.gv; exact rfl; (with_reducible first | exact Imp.refl _ | (apply Imp.left; exact Imp.refl _) | (apply Imp.right; exact Imp.refl _) | (apply Imp.left; apply Imp.left; exact Imp.refl _))) | (apply EvC.now; exact rfl) | exact rfl | (with_reducible exact EvAll.nil) | (focus (repeat (first | apply EvAll.cons | exact EvAll.nil | (apply EvC.gv; exact rfl; (with_reducible first | exact Imp.refl _ | (apply Imp.left; exact Imp.refl _) | (apply Imp.right; exact Imp.refl _) | (apply Imp.left; apply Imp.left; exact Imp.refl _))) | (apply EvC.now; exact rfl))); done) | exact ext_dat _ _ _ | (focus (repeat (first | apply List.Mem.head | apply List.Mem.tail | apply List.mem_append_right))))) | ((with_reducible apply t_pick); (apply EvC.now; exact rfl); (apply EvC.now; exact rfl))); (simp only [List.set_cons_succ, List.set_cons_zero]; exact rfl))
        | ((with_reducible apply wpT1_skipL); exact rfl; (simp only [List.set_cons_succ, List.set_cons_zero]; exact rfl)))
    refine wpT_nil ?_
    clear hR; intro w hR
    go_wp2_with fail
    go_ret
    exact ⟨rfl, (hZ.own hR).below⟩

set_option maxRecDepth 100000 in
theorem lifted (os : Os) (started : os.Started) (H : Type) (enc : TypeId × Value → H) :
    ReturnsInHanded {} Try.checked os 4 .any (Rows.dataAnySpec.pre6 enc Try.prog Try.f4 Rows.dataAnyRow.domain false) (Rows.dataAnySpec.post enc Try.prog Try.f4 false true false false) := by
  refine returnsInHanded_of_change (C := Try.checked) own started (by kernel_rfl) Try.func4
    (ChangeSpec.witness6 (enc := enc) (C := Try.checked) false ⟨#[], #[.slice none 0 0], []⟩ 8 (by kernel_rfl) (by kernel_rfl) (by kernel_rfl) (by kernel_rfl)) ?_
  intro W base args ds gs before hval0 hW hcnd _
  have hval : ∀ (j : Nat) t v, Try.f4.params[j]? = some t → args[j]? = some v → Value.okWide Try.prog W .any base t v := hval0
  have hW' := hW
  obtain ⟨p, q, hA0, hV, rfl, hfz, hnd⟩ := hW
  have hA : DataW.TrodAll enc Try.prog W 0 (fun _ => true) true Try.f4.params.toList args.toList ds p := hA0
  rw [Try.params4] at hA hval
  obtain ⟨v0, vs0, d0, ds0, p0, q0, hargs, rfl, rfl, h0, r0⟩ := trodAll_cons hA
  obtain ⟨rfl, rfl, rfl⟩ := trodAll_nil r0
  obtain rfl : args = #[v0] := by cases args; simp_all
  obtain ⟨rfl, rfl⟩ := trodVars_none hV
  have k0 := h0
  have lt0 : ∀ x ∈ p0, x.block < W.heap.size := by obtain ⟨m, hm⟩ := k0; exact DataW.trod_lt m _ _ _ hm
  have o0 := open_bytes (hval 0 23 v0 rfl rfl) h0
  clear hA0 hval0
  refine (walk v0 o0 W).mono fun e W' ⟨he, bel⟩ => ?_
  subst he
  exact ⟨_, rfl, _, _, _, [], _, [], hW', trodAll_mk1 (shut_bool Try.underlying4 _), (trodAll_cons_mk (Below.trod laidOut (by kernel_rfl) (of_decide_eq_true (by kernel_rfl)) k0 bel lt0) trodAll_mk0), rfl, bel.frame _, fun h => by cases h⟩

theorem over : Rows.dataAnyRow.holds Try.pinned (OpenSpec.ofChange Rows.dataAnySpec) :=
  OpenClaim.holds_of_wide 4 Try.f4 rfl rfl rfl rfl rfl rfl rfl ⟨rfl, rfl, rfl, rfl, rfl⟩ rfl rfl rfl rfl rfl (by kernel_rfl) Try.func4 (by kernel_rfl)
    (of_decide_eq_true (by kernel_rfl)) (by unfold Func.isWrapper; first | (rw [if_pos (by decide +kernel)]; kernel_rfl) | (rw [if_neg (by decide +kernel)]; exact ⟨rfl, rfl⟩))
    (fun os started H enc _ => lifted os started H enc)

theorem proved : Rows.DataAnySaid := over
#print axioms proved
end Go.Proofs.Ythklhkpikaopfaa.dataAny
