/- The law DispOwn (instructions without prefixes of segments that have one text do the same to the same: their first bytes apart) returns true whatever the arguments, in a state in which the listed package-level tables hold what the program lays them with (the card ties that to its text), and each argument reads afterwards as before. There is no condition on the arguments. -/
import Derived.Test.YtpngjefdgicmiaaDoorRows
import Derived.Test.YtpngjefdgicmiaaDoorLaw17
import Derived.Test.YtpngjefdgicmiaaDoorOpen
import Derived.WalkKit
import Derived.ProofKit
import Derived.OpenShut
import Derived.ShutString
import Derived.ChangeOld
import Derived.Below
import Derived.Test.YtpngjefdgicmiaaDoorTie
import Derived.Test.YtpngjefdgicmiaaDoorCards
import Derived.Test.YtpngjefdgicmiaaDoorDispT
import Derived.SevenTiedAt
namespace Go.Proofs.YtpngjefdgicmiaaDoor.dispOwn
open Go.ChangeShapes Go.WideShapes Go.ChangeAt Go.RowKit
open Go.ChangeMaps (open_string shut_string)
set_option linter.unusedVariables false
set_option linter.unusedSimpArgs false

theorem own : ownKnob Tryd.prog.godebug = none := by kernel_rfl
theorem laidOut : laidOutB Tryd.prog = true := by kernel_rfl











theorem put_op (k : InstZ) (v : Int) : PutRel (encI k) 3 [.int .u8 v] (encI { k with op := v }) := ⟨rfl⟩
theorem may_text {i : InstZ} (h : mayR i = true) : dispV i = textV i := by unfold dispV; rw [h]; rfl
set_option maxHeartbeats 4000000 in
set_option maxRecDepth 100000 in
theorem walk {base : Nat} {W : World} (v0 : Value) (k0 : Value.okWide Tryd.prog W .any base 28 v0) (v1 : Value) (k1 : Value.okWide Tryd.prog W .any base 28 v1) (w0 : World) (hT : Tabs w0) :
    Calls Tryd.prog 4 #[v0, v1] w0 fun e w' => e = .returned (.bool true) ∧ Below w0.heap.size w0 w' := by
  obtain ⟨x, hx, rfl⟩ := open_inst k0
  obtain ⟨y, hy, rfl⟩ := open_inst k1
  clear k0 k1
  have hR := Own.start w0
  go_enter Tryd.func4, Tryd.ntmps4
  go_upto_region 1 with (first
    | ((with_reducible apply wpList_box hR); exact rfl; exact rfl; clear hR; intro g w hR; simp only [List.set_cons_succ, List.set_cons_zero])
    | ((with_reducible apply q_ls hR); exact rfl; ((with_reducible first | apply t_addr (fInst _ (by decide)) | apply t_addr (fRow _ (by decide)) | apply t_one tInt | apply t_one tWord | apply t_one tByte | apply t_one tBool | apply t_part tInst | apply t_part tRow) <;> (first | (apply EvC.gv; exact rfl; (with_reducible first | exact Imp.refl _ | (apply Imp.left; exact Imp.refl _) | (apply Imp.right; exact Imp.refl _) | (apply Imp.left; apply Imp.left; exact Imp.refl _))) | (apply EvC.now; exact rfl) | exact rfl | (with_reducible exact EvAll.nil) | (focus (repeat (first | apply EvAll.cons | exact EvAll.nil | (apply EvC.gv; exact rfl; (with_reducible first | exact Imp.refl _ | (apply Imp.left; exact Imp.refl _) | (apply Imp.right; exact Imp.refl _) | (apply Imp.left; apply Imp.left; exact Imp.refl _))) | (apply EvC.now; exact rfl))); done) | (first | apply ext_inst | apply ext_row) | (focus (repeat (first | apply List.Mem.head | apply List.Mem.tail | apply List.mem_append_right))))); (simp only [List.set_cons_succ, List.set_cons_zero]; exact rfl); clear hR; intro w hR))
  refine wp_region_rows hR [0, 1, 2, 3] 4 (by kernel_rfl) (by kernel_rfl) (by kernel_rfl) rfl ?_
  clear hR; intro hR
  repeat (refine wpT_step rfl ?_; first
    | ((first | (with_reducible apply q_pl) | ((with_reducible apply q_gd); (first | (apply GdBy.gt; exact rfl; exact rfl) | (apply GdBy.gf; exact rfl; exact rfl) | (apply GdBy.t; exact rfl; exact rfl) | (apply GdBy.f; exact rfl; exact rfl)))); (first | ((with_reducible first | apply t_move | apply t_assign | apply t_and | apply t_or | apply t_cmp | apply t_not | apply t_addr (fInst _ (by decide)) | apply t_addr (fRow _ (by decide)) | apply t_one tInt | apply t_one tWord | apply t_one tByte | apply t_one tBool | apply t_part tInst | apply t_part tRow) <;> (first | (apply EvC.gv; exact rfl; (with_reducible first | exact Imp.refl _ | (apply Imp.left; exact Imp.refl _) | (apply Imp.right; exact Imp.refl _) | (apply Imp.left; apply Imp.left; exact Imp.refl _))) | (apply EvC.now; exact rfl) | exact rfl | (with_reducible exact EvAll.nil) | (focus (repeat (first | apply EvAll.cons | exact EvAll.nil | (apply EvC.gv; exact rfl; (with_reducible first | exact Imp.refl _ | (apply Imp.left; exact Imp.refl _) | (apply Imp.right; exact Imp.refl _) | (apply Imp.left; apply Imp.left; exact Imp.refl _))) | (apply EvC.now; exact rfl))); done) | (first | apply ext_inst | apply ext_row) | (focus (repeat (first | apply List.Mem.head | apply List.Mem.tail | apply List.mem_append_right)))))); (simp only [List.set_cons_succ, List.set_cons_zero]; exact rfl))
    | ((first | (with_reducible apply q_pl) | ((with_reducible apply q_gd); (first | (apply GdBy.gt; exact rfl; exact rfl) | (apply GdBy.gf; exact rfl; exact rfl) | (apply GdBy.t; exact rfl; exact rfl) | (apply GdBy.f; exact rfl; exact rfl)))); (with_reducible apply t_call Tryd.call16); (first | (apply EvC.gv; exact rfl; (with_reducible first | exact Imp.refl _ | (apply Imp.left; exact Imp.refl _) | (apply Imp.right; exact Imp.refl _) | (apply Imp.left; apply Imp.left; exact Imp.refl _))) | (apply EvC.now; exact rfl) | exact rfl | (with_reducible exact EvAll.nil) | (focus (repeat (first | apply EvAll.cons | exact EvAll.nil | (apply EvC.gv; exact rfl; (with_reducible first | exact Imp.refl _ | (apply Imp.left; exact Imp.refl _) | (apply Imp.right; exact Imp.refl _) | (apply Imp.left; apply Imp.left; exact Imp.refl _))) | (apply EvC.now; exact rfl))); done) | (first | apply ext_inst | apply ext_row) | (focus (repeat (first | apply List.Mem.head | apply List.Mem.tail | apply List.mem_append_right)))); (intro hcc w hC; (with_reducible first | exact tame_below (near_fun x hx _) hC | exact tame_below (near_fun y hy _) hC)); (simp only [List.set_cons_succ, List.set_cons_zero]; exact rfl)))
  refine wpT_nil ?_
  refine wpG_pair hR (i := 4) (j := 5) (by kernel_rfl) rfl rfl zInst zInst (by decide) (by decide) (by kernel_rfl) (by kernel_rfl) (List.Sublist.refl _) ?_
  clear hR; intro g1 g2 w hR
  simp only [List.set_cons_succ, List.set_cons_zero]
  refine wpG_put hR tInst (i := 6) (by kernel_rfl) rfl rfl rfl (by (focus (repeat (first | apply List.Mem.head | apply List.Mem.tail | apply List.mem_append_right)))) (put_inst _ _) rfl (by simp [encI]) (one_inst _) (by (focus (repeat (first | apply Upd.head | apply Upd.tail)))) (by (focus (repeat (with_reducible first | exact List.Sublist.slnil | exact List.nil_sublist _ | exact List.Sublist.refl _ | exact List.sublist_append_right _ _ | apply List.Sublist.cons_cons | apply List.Sublist.cons | apply sub_right)))) ?_
  clear hR; intro w hR
  refine wpG_put hR tInst (i := 7) (by kernel_rfl) rfl rfl rfl (by (focus (repeat (first | apply List.Mem.head | apply List.Mem.tail | apply List.mem_append_right)))) (put_inst _ _) rfl (by simp [encI]) (one_inst _) (by (focus (repeat (first | apply Upd.head | apply Upd.tail)))) (by (focus (repeat (with_reducible first | exact List.Sublist.slnil | exact List.nil_sublist _ | exact List.Sublist.refl _ | exact List.sublist_append_right _ _ | apply List.Sublist.cons_cons | apply List.Sublist.cons | apply sub_right)))) ?_
  clear hR; intro w hR
  refine wpG_end hR (by kernel_rfl) ?_
  clear hR; intro w hR
  have hi := nearF_ok x hx
  have hk := nearF_ok y hy
  have mi := nearF_may x
  generalize nearF x = i at hR hi mi ⊢
  generalize nearF y = k at hR hk ⊢
  have hk2 : ({ k with op := i.op } : InstZ).ok := ⟨hk.rep, hk.seg, hi.op, hk.mod, hk.reg, hk.rm, hk.disp, hk.imm, hk.sel⟩
  go_upto_region 4 with (first
    | (go_at_call 16; refine (near_fun { k with op := i.op } hk2 _).mono ?_; rintro e w' ⟨rfl, hb⟩; replace hR := hR.grow hb; clear hb)
    | ((with_reducible apply wpList_put hR tInst); exact rfl; exact rfl; exact rfl; (focus (repeat (first | apply List.Mem.head | apply List.Mem.tail | apply List.mem_append_right))); apply put_inst; exact rfl; (simp [encI]); apply one_inst; (focus (repeat (first | apply Upd.head | apply Upd.tail))); clear hR; intro w hR)
    | ((with_reducible apply wpList_put1 hR tByte); exact rfl; exact rfl; exact rfl; (focus (repeat (first | apply List.Mem.head | apply List.Mem.tail | apply List.mem_append_right))); (exact put_op k i.op); (simp [encI]); exact rfl; (focus (repeat (first | apply Upd.head | apply Upd.tail))); clear hR; intro w hR)
    | ((with_reducible apply q_ls hR); exact rfl; ((with_reducible first | apply t_addr (fInst _ (by decide)) | apply t_addr (fRow _ (by decide)) | apply t_one tInt | apply t_one tWord | apply t_one tByte | apply t_one tBool | apply t_part tInst | apply t_part tRow) <;> (first | (apply EvC.gv; exact rfl; (with_reducible first | exact Imp.refl _ | (apply Imp.left; exact Imp.refl _) | (apply Imp.right; exact Imp.refl _) | (apply Imp.left; apply Imp.left; exact Imp.refl _))) | (apply EvC.now; exact rfl) | exact rfl | (with_reducible exact EvAll.nil) | (focus (repeat (first | apply EvAll.cons | exact EvAll.nil | (apply EvC.gv; exact rfl; (with_reducible first | exact Imp.refl _ | (apply Imp.left; exact Imp.refl _) | (apply Imp.right; exact Imp.refl _) | (apply Imp.left; apply Imp.left; exact Imp.refl _))) | (apply EvC.now; exact rfl))); done) | (first | apply ext_inst | apply ext_row) | (focus (repeat (first | apply List.Mem.head | apply List.Mem.tail | apply List.mem_append_right))))); (simp only [List.set_cons_succ, List.set_cons_zero]; exact rfl); clear hR; intro w hR))
  have hm := nearF_ok _ hk2
  have mm := nearF_may { k with op := i.op }
  generalize nearF { k with op := i.op } = m at hR hm mm ⊢
  refine wp_region_tame hR [0, 1, 2, 3, 4, 5, 6, 7, 8, 9, 10, 11, 12, 13, 14] rfl ?_
  repeat (refine wpT_step rfl ?_; first
    | ((first | (with_reducible apply q_pl) | ((with_reducible apply q_gd); (first | (apply GdBy.gt; exact rfl; exact rfl) | (apply GdBy.gf; exact rfl; exact rfl) | (apply GdBy.t; exact rfl; exact rfl) | (apply GdBy.f; exact rfl; exact rfl)))); (first | ((with_reducible first | apply t_move | apply t_assign | apply t_and | apply t_or | apply t_cmp | apply t_not | apply t_addr (fInst _ (by decide)) | apply t_addr (fRow _ (by decide)) | apply t_one tInt | apply t_one tWord | apply t_one tByte | apply t_one tBool | apply t_part tInst | apply t_part tRow) <;> (first | (apply EvC.gv; exact rfl; (with_reducible first | exact Imp.refl _ | (apply Imp.left; exact Imp.refl _) | (apply Imp.right; exact Imp.refl _) | (apply Imp.left; apply Imp.left; exact Imp.refl _))) | (apply EvC.now; exact rfl) | exact rfl | (with_reducible exact EvAll.nil) | (focus (repeat (first | apply EvAll.cons | exact EvAll.nil | (apply EvC.gv; exact rfl; (with_reducible first | exact Imp.refl _ | (apply Imp.left; exact Imp.refl _) | (apply Imp.right; exact Imp.refl _) | (apply Imp.left; apply Imp.left; exact Imp.refl _))) | (apply EvC.now; exact rfl))); done) | (first | apply ext_inst | apply ext_row) | (focus (repeat (first | apply List.Mem.head | apply List.Mem.tail | apply List.mem_append_right)))))); (simp only [List.set_cons_succ, List.set_cons_zero]; exact rfl))
    | ((with_reducible apply q_gd); (first | (apply GdBy.gt; exact rfl; exact rfl) | (apply GdBy.gf; exact rfl; exact rfl) | (apply GdBy.t; exact rfl; exact rfl) | (apply GdBy.f; exact rfl; exact rfl)); ((with_reducible apply t_num) <;> (first | (apply EvC.gv; exact rfl; (with_reducible first | exact Imp.refl _ | (apply Imp.left; exact Imp.refl _) | (apply Imp.right; exact Imp.refl _) | (apply Imp.left; apply Imp.left; exact Imp.refl _))) | (apply EvC.now; exact rfl) | exact rfl | (with_reducible exact EvAll.nil) | (focus (repeat (first | apply EvAll.cons | exact EvAll.nil | (apply EvC.gv; exact rfl; (with_reducible first | exact Imp.refl _ | (apply Imp.left; exact Imp.refl _) | (apply Imp.right; exact Imp.refl _) | (apply Imp.left; apply Imp.left; exact Imp.refl _))) | (apply EvC.now; exact rfl))); done) | (first | apply ext_inst | apply ext_row) | (focus (repeat (first | apply List.Mem.head | apply List.Mem.tail | apply List.mem_append_right))))); (simp only [List.set_cons_succ, List.set_cons_zero]; exact rfl))
    | ((with_reducible apply wpT1_gpure); (first | (apply GdBy.gt; exact rfl; exact rfl) | (apply GdBy.gf; exact rfl; exact rfl) | (apply GdBy.t; exact rfl; exact rfl) | (apply GdBy.f; exact rfl; exact rfl)); intro K hK; go_simp; refine hK _ ?_; clear hK K; simp only [List.set_cons_succ, List.set_cons_zero])
    | ((with_reducible apply wpT1_pure); exact rfl; intro K hK; go_simp; refine hK _ ?_; clear hK K; simp only [List.set_cons_succ, List.set_cons_zero]))
  refine wpT_nil ?_
  clear hR; intro w hR
  go_upto_if 30 with fail
  refine wp_cond_at (nm := (m.op != i.op) || decide (0 < i.seg) || decide (0 < m.seg)) rfl (by simp [Bool.or_assoc, bne]) (fun _ => ?_) (fun _ => ?_)
  · go_wp2_with (first
    | (go_at_call 6; refine (awake17_any _ (hT.own hR)).mono ?_; rintro e w' ⟨rfl, hb⟩; replace hR := hR.grow hb; clear hb))
    go_ret
    exact ⟨rfl, hR.below⟩
  · have CI := Lib.hid fun w hTw => dtext_any i hi w hTw
    have CM := Lib.hid fun w hTw => dtext_any m hm w hTw
    rw [may_text mi] at CI
    rw [may_text mm] at CM
    go_upto_region 6 with fail
    refine wp_region_rows hR [0, 1, 2, 3, 4, 5, 6, 7, 8, 9, 10, 11, 12, 13, 14] 0 (by kernel_rfl) (by kernel_rfl) (by kernel_rfl) rfl ?_
    clear hR; intro hR
    repeat (refine wpT_step rfl ?_; first
    | ((with_reducible apply q_kn); exact rfl; (with_reducible apply t_call Tryd.call6); (first | (apply EvC.gv; exact rfl; (with_reducible first | exact Imp.refl _ | (apply Imp.left; exact Imp.refl _) | (apply Imp.right; exact Imp.refl _) | (apply Imp.left; apply Imp.left; exact Imp.refl _))) | (apply EvC.now; exact rfl) | exact rfl | (with_reducible exact EvAll.nil) | (focus (repeat (first | apply EvAll.cons | exact EvAll.nil | (apply EvC.gv; exact rfl; (with_reducible first | exact Imp.refl _ | (apply Imp.left; exact Imp.refl _) | (apply Imp.right; exact Imp.refl _) | (apply Imp.left; apply Imp.left; exact Imp.refl _))) | (apply EvC.now; exact rfl))); done) | (first | apply ext_inst | apply ext_row) | (focus (repeat (first | apply List.Mem.head | apply List.Mem.tail | apply List.mem_append_right)))); (intro hcc w hC; exact tame_below (awake17_any _ (hT.own hC)) hC); (simp only [List.set_cons_succ, List.set_cons_zero]; exact rfl))
    | ((with_reducible apply q_kn); exact rfl; (with_reducible apply t_call Tryd.call17); (first | (apply EvC.gv; exact rfl; (with_reducible first | exact Imp.refl _ | (apply Imp.left; exact Imp.refl _) | (apply Imp.right; exact Imp.refl _) | (apply Imp.left; apply Imp.left; exact Imp.refl _))) | (apply EvC.now; exact rfl) | exact rfl | (with_reducible exact EvAll.nil) | (focus (repeat (first | apply EvAll.cons | exact EvAll.nil | (apply EvC.gv; exact rfl; (with_reducible first | exact Imp.refl _ | (apply Imp.left; exact Imp.refl _) | (apply Imp.right; exact Imp.refl _) | (apply Imp.left; apply Imp.left; exact Imp.refl _))) | (apply EvC.now; exact rfl))); done) | (first | apply ext_inst | apply ext_row) | (focus (repeat (first | apply List.Mem.head | apply List.Mem.tail | apply List.mem_append_right)))); (intro hcc w hC; (with_reducible first | exact tame_below (CI.out _ (hT.own hC)) hC | exact tame_below (CM.out _ (hT.own hC)) hC)); (simp only [List.set_cons_succ, List.set_cons_zero]; exact rfl))
    | ((with_reducible apply q_kn); exact rfl; (with_reducible apply t_call Tryd.call18); (first | (apply EvC.gv; exact rfl; (with_reducible first | exact Imp.refl _ | (apply Imp.left; exact Imp.refl _) | (apply Imp.right; exact Imp.refl _) | (apply Imp.left; apply Imp.left; exact Imp.refl _))) | (apply EvC.now; exact rfl) | exact rfl | (with_reducible exact EvAll.nil) | (focus (repeat (first | apply EvAll.cons | exact EvAll.nil | (apply EvC.gv; exact rfl; (with_reducible first | exact Imp.refl _ | (apply Imp.left; exact Imp.refl _) | (apply Imp.right; exact Imp.refl _) | (apply Imp.left; apply Imp.left; exact Imp.refl _))) | (apply EvC.now; exact rfl))); done) | (first | apply ext_inst | apply ext_row) | (focus (repeat (first | apply List.Mem.head | apply List.Mem.tail | apply List.mem_append_right)))); (intro hcc w hC; (with_reducible first | exact tame_below (text17_any i hi _) hC | exact tame_below (text17_any m hm _) hC)); (simp only [List.set_cons_succ, List.set_cons_zero]; exact rfl))
    | ((with_reducible apply q_kn); exact rfl; (with_reducible apply t_streq); (apply EvC.now; exact rfl); (apply EvC.now; exact rfl); (simp only [List.set_cons_succ, List.set_cons_zero]; exact rfl))
    | ((with_reducible apply q_kn); exact rfl; (with_reducible apply t_eqb Tryd.underlying4); (apply EvC.now; exact rfl); (apply EvC.now; exact rfl); (simp only [List.set_cons_succ, List.set_cons_zero]; exact rfl))
    | ((with_reducible apply q_kn); exact rfl; (first | ((with_reducible first | apply t_move | apply t_assign | apply t_addr (fInst _ (by decide)) | apply t_addr (fRow _ (by decide)) | apply t_one tInt | apply t_one tWord | apply t_one tByte | apply t_one tBool | apply t_part tInst | apply t_part tRow) <;> (first | (apply EvC.gv; exact rfl; (with_reducible first | exact Imp.refl _ | (apply Imp.left; exact Imp.refl _) | (apply Imp.right; exact Imp.refl _) | (apply Imp.left; apply Imp.left; exact Imp.refl _))) | (apply EvC.now; exact rfl) | exact rfl | (with_reducible exact EvAll.nil) | (focus (repeat (first | apply EvAll.cons | exact EvAll.nil | (apply EvC.gv; exact rfl; (with_reducible first | exact Imp.refl _ | (apply Imp.left; exact Imp.refl _) | (apply Imp.right; exact Imp.refl _) | (apply Imp.left; apply Imp.left; exact Imp.refl _))) | (apply EvC.now; exact rfl))); done) | (first | apply ext_inst | apply ext_row) | (focus (repeat (first | apply List.Mem.head | apply List.Mem.tail | apply List.mem_append_right))))) | ((with_reducible apply t_pick); (apply EvC.now; exact rfl); (apply EvC.now; exact rfl))); (simp only [List.set_cons_succ, List.set_cons_zero]; exact rfl)))
    refine wpG_end hR (by kernel_rfl) ?_
    clear hR; intro w hR
    go_wp2
    go_ret
    exact ⟨ret_bool (by simp), hR.below⟩

set_option maxRecDepth 100000 in
theorem lifted (os : Os) (started : os.Started) (H : Type) (enc : TypeId × Value → H) :
    ReturnsInHanded {} Tryd.checked os 4 .any (fun w args => (Rows.dispOwnSpec.pre enc Tryd.prog Tryd.f4 [] false w args ∧ laidMetH Tryd.prog laid2 w) ∧ sizedMet enc Tryd.prog Tryd.f4 (OpenSpec.ofChange Rows.dispOwnSpec) false w args)
      (Rows.dispOwnSpec.post enc Tryd.prog Tryd.f4 false true false false) := by
  refine returnsInHanded_of_change_and (C := Tryd.checked) (X := fun w _ => laidMetH Tryd.prog laid2 w) (fun _ _ _ hh h => h.of_heap hh) own started (by kernel_rfl) Tryd.func4
    (ChangeSpec.witness_shaped (enc := enc) (C := Tryd.checked) (os := os) (X := fun w _ => laidMetH Tryd.prog laid2 w) false (World.doorLaid Tryd.prog 400 os) #[.agg (encI zeroI), .agg (encI zeroI)] 8 rfl (World.shaped_of_RefB (by kernel_rfl) (by kernel_rfl)) (by kernel_rfl) (by kernel_rfl) (by kernel_rfl) (door_met os _)) ?_
  intro W base args ds gs before hval0 hW _ _ hL _
  have hval : ∀ (j : Nat) t v, Tryd.f4.params[j]? = some t → args[j]? = some v → Value.okWide Tryd.prog W .any base t v := hval0
  have hW' := hW
  obtain ⟨p, q, hA0, hV, rfl, hfz, hnd⟩ := hW
  have hA : DataW.TrodAll enc Tryd.prog W 0 (fun _ => true) true Tryd.f4.params.toList args.toList ds p := hA0
  rw [Tryd.params4] at hA hval
  obtain ⟨v0, vs0, d0, ds0, p0, q0, hargs, rfl, rfl, h0, r0⟩ := trodAll_cons hA
  obtain ⟨v1, vs1, d1, ds1, p1, q1, rfl, rfl, rfl, h1, r1⟩ := trodAll_cons r0
  obtain ⟨rfl, rfl, rfl⟩ := trodAll_nil r1
  obtain rfl : args = #[v0, v1] := by cases args; simp_all
  obtain ⟨rfl, rfl⟩ := trodVars_none hV
  have k0 := h0
  have lt0 : ∀ x ∈ p0, x.block < W.heap.size := by obtain ⟨m, hm⟩ := k0; exact DataW.trod_lt m _ _ _ hm
  have k1 := h1
  have lt1 : ∀ x ∈ p1, x.block < W.heap.size := by obtain ⟨m, hm⟩ := k1; exact DataW.trod_lt m _ _ _ hm
  clear hA0 hval0
  refine (walk v0 (hval 0 28 v0 rfl rfl) v1 (hval 1 28 v1 rfl rfl) W (of_laid hL)).mono fun e W' ⟨he, bel⟩ => ?_
  subst he
  exact ⟨_, rfl, _, _, _, [], _, [], hW', trodAll_mk1 (shut_bool Tryd.underlying4 _), (trodAll_cons_mk (Below.trod laidOut (by kernel_rfl) (of_decide_eq_true (by kernel_rfl)) k0 bel lt0) (trodAll_cons_mk (Below.trod laidOut (by kernel_rfl) (of_decide_eq_true (by kernel_rfl)) k1 bel lt1) trodAll_mk0)), rfl, bel.frame _, fun h => by cases h⟩

theorem over : Rows.dispOwnRow.holds Tryd.pinned (OpenSpec.ofChange Rows.dispOwnSpec) :=
  OpenClaim.holds_of_wide 4 Tryd.f4 rfl rfl rfl rfl rfl rfl rfl ⟨rfl, rfl, rfl, rfl, rfl⟩ rfl rfl rfl rfl rfl (by kernel_rfl) Tryd.func4 (by kernel_rfl)
    (of_decide_eq_true (by kernel_rfl)) (by unfold Func.isWrapper; first | (rw [if_pos (by decide +kernel)]; kernel_rfl) | (rw [if_neg (by decide +kernel)]; exact ⟨rfl, rfl⟩))
    (fun os started H enc _ => lifted os started H enc)

theorem proved : Rows.DispOwnCardSaid :=
  Claim7.holds_tied_plain_at .later [] [.listed, .data, .data, .data, .data, .data] true Rows.dispOwnCard.stood.harness false
    over (fun _ h => by cases h) (by kernel_rfl) (fun _ h => by cases h) dispOwn_row_tie rfl ⟨rfl, rfl⟩ (by kernel_rfl) rfl
    (fun f fn hf hfn => by
      obtain rfl : f = 4 := Option.some.inj ((show Tryd.prog.funcNamed "hansom/hansomlaw17.DispOwn" = some 4 by kernel_rfl).symm.trans hf) |>.symm
      obtain rfl : fn = Tryd.f4 := (Option.some.inj (Tryd.func4.symm.trans hfn)).symm
      exact ⟨by kernel_rfl, fun j t ht => by
        rw [Tryd.params4] at ht
        have hm : t ∈ [28, 28] := by simpa using Array.mem_of_getElem? ht
        have hall : ([28, 28].all fun u => !Tryd.prog.wantsStandIn u) = true := by kernel_rfl
        exact (show Tryd.prog.wantsStandIn t = false by simpa using List.all_eq_true.1 hall t hm)⟩)
    (by kernel_rfl)
#print axioms proved
end Go.Proofs.YtpngjefdgicmiaaDoor.dispOwn
