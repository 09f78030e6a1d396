




/- Contracts of package shift: each returns what plain arithmetic gives and writes nothing but what is its own. No statement of the seat is proved here. -/
import Derived.Test.YtcplcjfkehogkaaShiftE
namespace Go.Proofs.Ytcplcjfkehogkaa
open Go.ChangeShapes Go.WideShapes Go.ChangeAt Go.RowKit
set_option linter.unusedVariables false
set_option linter.unusedSimpArgs false

theorem t_neqb {P : Program} {C : World → Prop} {c : Bool} {dd : Option Tmp} {ls : List Value} {ds : List Deferred} {tp : TypeId} {pos : String} {af : Array Edge} {gd : Option (Nat × Bool)} {ty ty' : TypeId} {x y : Operand} {a b : Bool} (hu : P.underlying ty = some .bool) (hx : EvC ls c x (.bool a)) (hy : EvC ls c y (.bool b)) : TIf P C c ⟨dd, .binOp .neq ty x y ty', tp, pos, af, gd⟩ ⟨ls.toArray, ds⟩ (.bool (a != b)) := by
  refine ⟨fun e => .inl fun w _ => ?_⟩
  have he : (Op.equal ty (.bool a) (.bool b)).run P w = .ok (a == b) w := eq_two (P := P) 1 ty (.bool a) (.bool b) (a == b) 9999 w (by simp [eqB, hu])
  unfold execOp
  simp only [eval_of (hx.of e), eval_of (hy.of e)]
  simp [eqGuard, binOp, he, bne]
theorem zNum : ZeroTy Try.prog 36 (encS zeroS) := .of (by kernel_rfl)
theorem bNum (z : Int) (c wide : Bool) : Built Try.prog 36 [(0, .int .u16 z), (1, .bool c), (2, .bool wide)] #[.int .u16 z, .bool c, .bool wide] := ⟨by kernel_rfl⟩
theorem bNumZ (x : NumS) {z : Int} (hz : z = x.v) : Built Try.prog 36 [(0, .int .u16 z), (1, .bool x.c), (2, .bool x.wide)] (encS x) := by subst hz; exact bNum _ _ _
theorem iNum : (Try.prog.info? 36).map (·.size) = some 3 := by kernel_rfl
theorem tNum : RowTy Try.prog 36 3 := .of Try.underlying36 rfl iNum
theorem tWordD : OneTy Try.prog 22 := .of Try.underlying22 rfl (by kernel_rfl)
theorem tBoolD : OneTy Try.prog 4 := .of Try.underlying4 rfl (by kernel_rfl)
theorem ext_num (x : NumS) : ExtRel (encS x) 0 3 (encS x) := extract_all rfl
theorem put_num (x y : NumS) : PutRel (encS x) 0 (encS y).toList (encS y) := putList_all rfl
theorem one_num (x : NumS) : (encS x).all (·.oneCell') = true := by simp [encS, Value.oneCell']
theorem fNum (k : Nat) (h : k < 3) : FieldAt Try.prog 36 k k := by
  match k, h with
  | 0, _ => exact ⟨fun g w => by simp [go_sem, Instr.fieldAt, fieldPlace]⟩
  | 1, _ => exact ⟨fun g w => by simp [go_sem, Instr.fieldAt, fieldPlace]⟩
  | 2, _ => exact ⟨fun g w => by simp [go_sem, Instr.fieldAt, fieldPlace]⟩

theorem setD_any (k : Int) (on : Bool) (w : World) :
    Calls Try.prog 15 #[.int .u16 k, .bool on] w fun e w' => e = .returned (.int .u16 (flZ k on)) ∧ w = w' := by
  cases on
  · go_enter Try.func15, Try.ntmps15
    go_wp2
    go_ret
    exact ⟨rfl, rfl⟩
  · go_enter Try.func15, Try.ntmps15
    go_wp2
    go_ret
    exact ⟨rfl, rfl⟩
theorem signD_any (x : NumS) (w : World) :
    Calls Try.prog 26 #[.agg (encS x)] w fun e w' => e = .returned (.int .u16 (topN x.wide : Nat)) ∧ Below w.heap.size w w' := by
  have hR := Own.start w
  obtain ⟨v, c, wide⟩ := x
  cases wide
  · go_enter Try.func26, Try.ntmps26
    go_wp2_with (first
    | ((with_reducible apply q_ls hR); exact rfl; ((with_reducible first | apply t_addr (fNum _ (by decide)) | apply t_one tWordD | apply t_one tBoolD | apply t_part tNum) <;> (first | (apply EvC.gv; exact rfl; (with_reducible first | exact Imp.refl _ | (apply Imp.left; exact Imp.refl _) | (apply Imp.right; exact Imp.refl _) | (apply Imp.left; apply Imp.left; exact Imp.refl _))) | (apply EvC.now; exact rfl) | exact rfl | (with_reducible exact EvAll.nil) | (focus (repeat (first | apply EvAll.cons | exact EvAll.nil | (apply EvC.gv; exact rfl; (with_reducible first | exact Imp.refl _ | (apply Imp.left; exact Imp.refl _) | (apply Imp.right; exact Imp.refl _) | (apply Imp.left; apply Imp.left; exact Imp.refl _))) | (apply EvC.now; exact rfl))); done) | apply ext_num | (focus (repeat (first | apply List.Mem.head | apply List.Mem.tail | apply List.mem_append_right))))); (simp only [List.set_cons_succ, List.set_cons_zero]; exact rfl); clear hR; intro w hR)
    | ((with_reducible apply wpList_box hR); exact rfl; exact rfl; clear hR; intro g w hR; simp only [List.set_cons_succ, List.set_cons_zero])
    | ((with_reducible apply wpList_make hR zNum); exact rfl; clear hR; intro g w hR; simp only [List.set_cons_succ, List.set_cons_zero])
    | ((with_reducible apply wpList_put hR tNum); exact rfl; exact rfl; exact rfl; (focus (repeat (first | apply List.Mem.head | apply List.Mem.tail | apply List.mem_append_right))); apply put_num; exact rfl; simp [encS]; apply one_num; (focus (repeat (first | apply Upd.head | apply Upd.tail))); clear hR; intro w hR))
    go_ret
    exact ⟨rfl, hR.below⟩
  · go_enter Try.func26, Try.ntmps26
    go_wp2_with (first
    | ((with_reducible apply q_ls hR); exact rfl; ((with_reducible first | apply t_addr (fNum _ (by decide)) | apply t_one tWordD | apply t_one tBoolD | apply t_part tNum) <;> (first | (apply EvC.gv; exact rfl; (with_reducible first | exact Imp.refl _ | (apply Imp.left; exact Imp.refl _) | (apply Imp.right; exact Imp.refl _) | (apply Imp.left; apply Imp.left; exact Imp.refl _))) | (apply EvC.now; exact rfl) | exact rfl | (with_reducible exact EvAll.nil) | (focus (repeat (first | apply EvAll.cons | exact EvAll.nil | (apply EvC.gv; exact rfl; (with_reducible first | exact Imp.refl _ | (apply Imp.left; exact Imp.refl _) | (apply Imp.right; exact Imp.refl _) | (apply Imp.left; apply Imp.left; exact Imp.refl _))) | (apply EvC.now; exact rfl))); done) | apply ext_num | (focus (repeat (first | apply List.Mem.head | apply List.Mem.tail | apply List.mem_append_right))))); (simp only [List.set_cons_succ, List.set_cons_zero]; exact rfl); clear hR; intro w hR)
    | ((with_reducible apply wpList_box hR); exact rfl; exact rfl; clear hR; intro g w hR; simp only [List.set_cons_succ, List.set_cons_zero])
    | ((with_reducible apply wpList_make hR zNum); exact rfl; clear hR; intro g w hR; simp only [List.set_cons_succ, List.set_cons_zero])
    | ((with_reducible apply wpList_put hR tNum); exact rfl; exact rfl; exact rfl; (focus (repeat (first | apply List.Mem.head | apply List.Mem.tail | apply List.mem_append_right))); apply put_num; exact rfl; simp [encS]; apply one_num; (focus (repeat (first | apply Upd.head | apply Upd.tail))); clear hR; intro w hR))
    go_ret
    exact ⟨rfl, hR.below⟩
theorem lowest_any (x : NumS) (h : x.ok) (w : World) :
    Calls Try.prog 25 #[.agg (encS x)] w fun e w' => e = .returned (.bool (loS x)) ∧ Below w.heap.size w w' := by
  have hR := Own.start w
  go_enter Try.func25, Try.ntmps25
  go_wp2_with (first
    | ((with_reducible apply q_ls hR); exact rfl; ((with_reducible first | apply t_addr (fNum _ (by decide)) | apply t_one tWordD | apply t_one tBoolD | apply t_part tNum) <;> (first | (apply EvC.gv; exact rfl; (with_reducible first | exact Imp.refl _ | (apply Imp.left; exact Imp.refl _) | (apply Imp.right; exact Imp.refl _) | (apply Imp.left; apply Imp.left; exact Imp.refl _))) | (apply EvC.now; exact rfl) | exact rfl | (with_reducible exact EvAll.nil) | (focus (repeat (first | apply EvAll.cons | exact EvAll.nil | (apply EvC.gv; exact rfl; (with_reducible first | exact Imp.refl _ | (apply Imp.left; exact Imp.refl _) | (apply Imp.right; exact Imp.refl _) | (apply Imp.left; apply Imp.left; exact Imp.refl _))) | (apply EvC.now; exact rfl))); done) | apply ext_num | (focus (repeat (first | apply List.Mem.head | apply List.Mem.tail | apply List.mem_append_right))))); (simp only [List.set_cons_succ, List.set_cons_zero]; exact rfl); clear hR; intro w hR)
    | ((with_reducible apply wpList_box hR); exact rfl; exact rfl; clear hR; intro g w hR; simp only [List.set_cons_succ, List.set_cons_zero])
    | ((with_reducible apply wpList_make hR zNum); exact rfl; clear hR; intro g w hR; simp only [List.set_cons_succ, List.set_cons_zero])
    | ((with_reducible apply wpList_put hR tNum); exact rfl; exact rfl; exact rfl; (focus (repeat (first | apply List.Mem.head | apply List.Mem.tail | apply List.mem_append_right))); apply put_num; exact rfl; simp [encS]; apply one_num; (focus (repeat (first | apply Upd.head | apply Upd.tail))); clear hR; intro w hR))
  go_ret
  exact ⟨ret_bool (lo_num h), hR.below⟩
theorem upper_any (x : NumS) (h : x.ok) (w : World) :
    Calls Try.prog 16 #[.agg (encS x)] w fun e w' => e = .returned (.bool (upS x)) ∧ Below w.heap.size w w' := by
  have hR := Own.start w
  go_enter Try.func16, Try.ntmps16
  go_upto_region 1 with (first
    | ((with_reducible apply q_ls hR); exact rfl; ((with_reducible first | apply t_addr (fNum _ (by decide)) | apply t_one tWordD | apply t_one tBoolD | apply t_part tNum) <;> (first | (apply EvC.gv; exact rfl; (with_reducible first | exact Imp.refl _ | (apply Imp.left; exact Imp.refl _) | (apply Imp.right; exact Imp.refl _) | (apply Imp.left; apply Imp.left; exact Imp.refl _))) | (apply EvC.now; exact rfl) | exact rfl | (with_reducible exact EvAll.nil) | (focus (repeat (first | apply EvAll.cons | exact EvAll.nil | (apply EvC.gv; exact rfl; (with_reducible first | exact Imp.refl _ | (apply Imp.left; exact Imp.refl _) | (apply Imp.right; exact Imp.refl _) | (apply Imp.left; apply Imp.left; exact Imp.refl _))) | (apply EvC.now; exact rfl))); done) | apply ext_num | (focus (repeat (first | apply List.Mem.head | apply List.Mem.tail | apply List.mem_append_right))))); (simp only [List.set_cons_succ, List.set_cons_zero]; exact rfl); clear hR; intro w hR)
    | ((with_reducible apply wpList_box hR); exact rfl; exact rfl; clear hR; intro g w hR; simp only [List.set_cons_succ, List.set_cons_zero])
    | ((with_reducible apply wpList_make hR zNum); exact rfl; clear hR; intro g w hR; simp only [List.set_cons_succ, List.set_cons_zero])
    | ((with_reducible apply wpList_put hR tNum); exact rfl; exact rfl; exact rfl; (focus (repeat (first | apply List.Mem.head | apply List.Mem.tail | apply List.mem_append_right))); apply put_num; exact rfl; simp [encS]; apply one_num; (focus (repeat (first | apply Upd.head | apply Upd.tail))); clear hR; intro w hR))
  refine wp_region_rows hR [0, 1, 2, 3, 4, 5, 6] 0 (by kernel_rfl) (by kernel_rfl) (by kernel_rfl) rfl ?_
  clear hR; intro hR
  repeat (refine wpT_step rfl ?_; first
    | ((first | (with_reducible apply q_pl) | ((with_reducible apply q_gd); (first | (apply GdBy.gt; exact rfl; exact rfl) | (apply GdBy.gf; exact rfl; exact rfl) | (apply GdBy.t; exact rfl; exact rfl) | (apply GdBy.f; exact rfl; exact rfl)))); (first | ((with_reducible first | apply t_move | apply t_assign | apply t_and | apply t_or | apply t_cmp | apply t_not | apply t_addr (fNum _ (by decide)) | apply t_one tWordD | apply t_one tBoolD | apply t_part tNum) <;> (first | (apply EvC.gv; exact rfl; (with_reducible first | exact Imp.refl _ | (apply Imp.left; exact Imp.refl _) | (apply Imp.right; exact Imp.refl _) | (apply Imp.left; apply Imp.left; exact Imp.refl _))) | (apply EvC.now; exact rfl) | exact rfl | (with_reducible exact EvAll.nil) | (focus (repeat (first | apply EvAll.cons | exact EvAll.nil | (apply EvC.gv; exact rfl; (with_reducible first | exact Imp.refl _ | (apply Imp.left; exact Imp.refl _) | (apply Imp.right; exact Imp.refl _) | (apply Imp.left; apply Imp.left; exact Imp.refl _))) | (apply EvC.now; exact rfl))); done) | apply ext_num | (focus (repeat (first | apply List.Mem.head | apply List.Mem.tail | apply List.mem_append_right)))))); (simp only [List.set_cons_succ, List.set_cons_zero]; exact rfl))
    | ((first | (with_reducible apply q_pl) | ((with_reducible apply q_gd); (first | (apply GdBy.gt; exact rfl; exact rfl) | (apply GdBy.gf; exact rfl; exact rfl) | (apply GdBy.t; exact rfl; exact rfl) | (apply GdBy.f; exact rfl; exact rfl)))); (with_reducible apply t_call Try.call26); (first | (apply EvC.gv; exact rfl; (with_reducible first | exact Imp.refl _ | (apply Imp.left; exact Imp.refl _) | (apply Imp.right; exact Imp.refl _) | (apply Imp.left; apply Imp.left; exact Imp.refl _))) | (apply EvC.now; exact rfl) | exact rfl | (with_reducible exact EvAll.nil) | (focus (repeat (first | apply EvAll.cons | exact EvAll.nil | (apply EvC.gv; exact rfl; (with_reducible first | exact Imp.refl _ | (apply Imp.left; exact Imp.refl _) | (apply Imp.right; exact Imp.refl _) | (apply Imp.left; apply Imp.left; exact Imp.refl _))) | (apply EvC.now; exact rfl))); done) | apply ext_num | (focus (repeat (first | apply List.Mem.head | apply List.Mem.tail | apply List.mem_append_right)))); (intro hcc w hC; exact tame_below (signD_any _ _) hC); (simp only [List.set_cons_succ, List.set_cons_zero]; exact rfl))
    | ((with_reducible apply q_gd); (first | (apply GdBy.gt; exact rfl; exact rfl) | (apply GdBy.gf; exact rfl; exact rfl) | (apply GdBy.t; exact rfl; exact rfl) | (apply GdBy.f; exact rfl; exact rfl)); ((with_reducible apply t_num) <;> (first | (apply EvC.gv; exact rfl; (with_reducible first | exact Imp.refl _ | (apply Imp.left; exact Imp.refl _) | (apply Imp.right; exact Imp.refl _) | (apply Imp.left; apply Imp.left; exact Imp.refl _))) | (apply EvC.now; exact rfl) | exact rfl | (with_reducible exact EvAll.nil) | (focus (repeat (first | apply EvAll.cons | exact EvAll.nil | (apply EvC.gv; exact rfl; (with_reducible first | exact Imp.refl _ | (apply Imp.left; exact Imp.refl _) | (apply Imp.right; exact Imp.refl _) | (apply Imp.left; apply Imp.left; exact Imp.refl _))) | (apply EvC.now; exact rfl))); done) | apply ext_num | (focus (repeat (first | apply List.Mem.head | apply List.Mem.tail | apply List.mem_append_right))))); (simp only [List.set_cons_succ, List.set_cons_zero]; exact rfl))
    | ((with_reducible apply wpT1_gpure); (first | (apply GdBy.gt; exact rfl; exact rfl) | (apply GdBy.gf; exact rfl; exact rfl) | (apply GdBy.t; exact rfl; exact rfl) | (apply GdBy.f; exact rfl; exact rfl)); intro K hK; go_simp; refine hK _ ?_; clear hK K; simp only [List.set_cons_succ, List.set_cons_zero])
    | ((with_reducible apply wpT1_pure); exact rfl; intro K hK; go_simp; refine hK _ ?_; clear hK K; simp only [List.set_cons_succ, List.set_cons_zero]))
  refine wpG_end hR (by kernel_rfl) ?_
  clear hR; intro w hR
  go_wp2
  go_ret
  exact ⟨ret_bool (up_num h), hR.below⟩
theorem cut_at (x : Nat) {z : Int} (wide : Bool) (w : World) (hz : z = x) (h : x ≤ 65535) :
    Calls Try.prog 13 #[.int .u16 z, .bool wide] w fun e w' => e = .returned (.int .u16 (cutN wide x : Nat)) ∧ w = w' := by
  subst hz; exact cut_any _ _ _ h
theorem shl_num {x : NumS} (h : x.ok) : IntKind.u16.wrap ((x.v : Int) * 2) = (x.v * 2 % 65536 : Nat) := by rw [IntKind.wrap_u16]; rfl
theorem left_any (x : NumS) (i : Bool) (h : x.ok) (w : World) :
    Calls Try.prog 23 #[.agg (encS x), .bool i] w fun e w' => e = .returned (.agg (encS (leftS x i))) ∧ Below w.heap.size w w' := by
  have hR := Own.start w
  have ht := topN_le x.wide
  have hv : x.v * 2 % 65536 ≤ 65535 := by omega
  have HZ := Lib.hid (shl_num h)
  have HL := Lib.hid (left_num h i rfl)
  go_enter Try.func23, Try.ntmps23
  go_upto_region 1 with (first
    | ((with_reducible apply wpList_box hR); exact rfl; exact rfl; clear hR; intro g1 w hR; simp only [List.set_cons_succ, List.set_cons_zero])
    | ((with_reducible apply wpList_make hR zNum); exact rfl; clear hR; intro g2 w hR; simp only [List.set_cons_succ, List.set_cons_zero])
    | ((with_reducible apply q_ls hR); exact rfl; ((with_reducible first | apply t_addr (fNum _ (by decide)) | apply t_one tWordD | apply t_one tBoolD | apply t_part tNum) <;> (first | (apply EvC.gv; exact rfl; (with_reducible first | exact Imp.refl _ | (apply Imp.left; exact Imp.refl _) | (apply Imp.right; exact Imp.refl _) | (apply Imp.left; apply Imp.left; exact Imp.refl _))) | (apply EvC.now; exact rfl) | exact rfl | (with_reducible exact EvAll.nil) | (focus (repeat (first | apply EvAll.cons | exact EvAll.nil | (apply EvC.gv; exact rfl; (with_reducible first | exact Imp.refl _ | (apply Imp.left; exact Imp.refl _) | (apply Imp.right; exact Imp.refl _) | (apply Imp.left; apply Imp.left; exact Imp.refl _))) | (apply EvC.now; exact rfl))); done) | apply ext_num | (focus (repeat (first | apply List.Mem.head | apply List.Mem.tail | apply List.mem_append_right))))); (simp only [List.set_cons_succ, List.set_cons_zero]; exact rfl); clear hR; intro w hR)
    | ((with_reducible apply wpList_put hR tNum); exact rfl; exact rfl; exact rfl; (focus (repeat (first | apply List.Mem.head | apply List.Mem.tail | apply List.mem_append_right))); apply put_num; exact rfl; simp [encS]; apply one_num; (focus (repeat (first | apply Upd.head | apply Upd.tail))); clear hR; intro w hR))
  refine wp_region_some hR [(g1, encS x, 36)] (by (focus (repeat (with_reducible first | exact List.Sublist.slnil | exact List.nil_sublist _ | exact List.Sublist.refl _ | exact List.sublist_append_right _ _ | apply List.Sublist.cons_cons | apply List.Sublist.cons | apply sub_right)))) [0, 1, 2, 3, 4, 5, 6, 7, 8, 9, 10, 11, 12, 13] 1 (by kernel_rfl) (by kernel_rfl) (by kernel_rfl) rfl ?_
  clear hR; intro hR
  repeat (refine wpT_step rfl ?_; first
    | ((first | (with_reducible apply q_pl) | ((with_reducible apply q_gd); (first | (apply GdBy.gt; exact rfl; exact rfl) | (apply GdBy.gf; exact rfl; exact rfl) | (apply GdBy.t; exact rfl; exact rfl) | (apply GdBy.f; exact rfl; exact rfl)))); (first | ((with_reducible first | apply t_move | apply t_assign | apply t_and | apply t_or | apply t_cmp | apply t_not | apply t_addr (fNum _ (by decide)) | apply t_one tWordD | apply t_one tBoolD | apply t_part tNum) <;> (first | (apply EvC.gv; exact rfl; (with_reducible first | exact Imp.refl _ | (apply Imp.left; exact Imp.refl _) | (apply Imp.right; exact Imp.refl _) | (apply Imp.left; apply Imp.left; exact Imp.refl _))) | (apply EvC.now; exact rfl) | exact rfl | (with_reducible exact EvAll.nil) | (focus (repeat (first | apply EvAll.cons | exact EvAll.nil | (apply EvC.gv; exact rfl; (with_reducible first | exact Imp.refl _ | (apply Imp.left; exact Imp.refl _) | (apply Imp.right; exact Imp.refl _) | (apply Imp.left; apply Imp.left; exact Imp.refl _))) | (apply EvC.now; exact rfl))); done) | apply ext_num | (focus (repeat (first | apply List.Mem.head | apply List.Mem.tail | apply List.mem_append_right)))))); (simp only [List.set_cons_succ, List.set_cons_zero]; exact rfl))
    | ((first | (with_reducible apply q_pl) | ((with_reducible apply q_gd); (first | (apply GdBy.gt; exact rfl; exact rfl) | (apply GdBy.gf; exact rfl; exact rfl) | (apply GdBy.t; exact rfl; exact rfl) | (apply GdBy.f; exact rfl; exact rfl)))); (with_reducible apply t_call Try.call13); (first | (apply EvC.gv; exact rfl; (with_reducible first | exact Imp.refl _ | (apply Imp.left; exact Imp.refl _) | (apply Imp.right; exact Imp.refl _) | (apply Imp.left; apply Imp.left; exact Imp.refl _))) | (apply EvC.now; exact rfl) | exact rfl | (with_reducible exact EvAll.nil) | (focus (repeat (first | apply EvAll.cons | exact EvAll.nil | (apply EvC.gv; exact rfl; (with_reducible first | exact Imp.refl _ | (apply Imp.left; exact Imp.refl _) | (apply Imp.right; exact Imp.refl _) | (apply Imp.left; apply Imp.left; exact Imp.refl _))) | (apply EvC.now; exact rfl))); done) | apply ext_num | (focus (repeat (first | apply List.Mem.head | apply List.Mem.tail | apply List.mem_append_right)))); (intro hcc w hC; exact tame_same (cut_at (x.v * 2 % 65536) _ _ HZ.out hv) hC); (simp only [List.set_cons_succ, List.set_cons_zero]; exact rfl))
    | ((first | (with_reducible apply q_pl) | ((with_reducible apply q_gd); (first | (apply GdBy.gt; exact rfl; exact rfl) | (apply GdBy.gf; exact rfl; exact rfl) | (apply GdBy.t; exact rfl; exact rfl) | (apply GdBy.f; exact rfl; exact rfl)))); (with_reducible apply t_call Try.call15); (first | (apply EvC.gv; exact rfl; (with_reducible first | exact Imp.refl _ | (apply Imp.left; exact Imp.refl _) | (apply Imp.right; exact Imp.refl _) | (apply Imp.left; apply Imp.left; exact Imp.refl _))) | (apply EvC.now; exact rfl) | exact rfl | (with_reducible exact EvAll.nil) | (focus (repeat (first | apply EvAll.cons | exact EvAll.nil | (apply EvC.gv; exact rfl; (with_reducible first | exact Imp.refl _ | (apply Imp.left; exact Imp.refl _) | (apply Imp.right; exact Imp.refl _) | (apply Imp.left; apply Imp.left; exact Imp.refl _))) | (apply EvC.now; exact rfl))); done) | apply ext_num | (focus (repeat (first | apply List.Mem.head | apply List.Mem.tail | apply List.mem_append_right)))); (intro hcc w hC; exact tame_same (setD_any _ _ _) hC); (simp only [List.set_cons_succ, List.set_cons_zero]; exact rfl))
    | ((first | (with_reducible apply q_pl) | ((with_reducible apply q_gd); (first | (apply GdBy.gt; exact rfl; exact rfl) | (apply GdBy.gf; exact rfl; exact rfl) | (apply GdBy.t; exact rfl; exact rfl) | (apply GdBy.f; exact rfl; exact rfl)))); (with_reducible apply t_call Try.call16); (first | (apply EvC.gv; exact rfl; (with_reducible first | exact Imp.refl _ | (apply Imp.left; exact Imp.refl _) | (apply Imp.right; exact Imp.refl _) | (apply Imp.left; apply Imp.left; exact Imp.refl _))) | (apply EvC.now; exact rfl) | exact rfl | (with_reducible exact EvAll.nil) | (focus (repeat (first | apply EvAll.cons | exact EvAll.nil | (apply EvC.gv; exact rfl; (with_reducible first | exact Imp.refl _ | (apply Imp.left; exact Imp.refl _) | (apply Imp.right; exact Imp.refl _) | (apply Imp.left; apply Imp.left; exact Imp.refl _))) | (apply EvC.now; exact rfl))); done) | apply ext_num | (focus (repeat (first | apply List.Mem.head | apply List.Mem.tail | apply List.mem_append_right)))); (intro hcc w hC; exact tame_below (upper_any _ h _) hC); (simp only [List.set_cons_succ, List.set_cons_zero]; exact rfl))
    | ((with_reducible apply q_kn); exact rfl; (with_reducible apply t_built); exact rfl; exact bNumZ (leftS x i) HL.out; (simp only [List.set_cons_succ, List.set_cons_zero]; exact rfl))
    | ((with_reducible apply q_gd); (first | (apply GdBy.gt; exact rfl; exact rfl) | (apply GdBy.gf; exact rfl; exact rfl) | (apply GdBy.t; exact rfl; exact rfl) | (apply GdBy.f; exact rfl; exact rfl)); ((with_reducible apply t_num) <;> (first | (apply EvC.gv; exact rfl; (with_reducible first | exact Imp.refl _ | (apply Imp.left; exact Imp.refl _) | (apply Imp.right; exact Imp.refl _) | (apply Imp.left; apply Imp.left; exact Imp.refl _))) | (apply EvC.now; exact rfl) | exact rfl | (with_reducible exact EvAll.nil) | (focus (repeat (first | apply EvAll.cons | exact EvAll.nil | (apply EvC.gv; exact rfl; (with_reducible first | exact Imp.refl _ | (apply Imp.left; exact Imp.refl _) | (apply Imp.right; exact Imp.refl _) | (apply Imp.left; apply Imp.left; exact Imp.refl _))) | (apply EvC.now; exact rfl))); done) | apply ext_num | (focus (repeat (first | apply List.Mem.head | apply List.Mem.tail | apply List.mem_append_right))))); (simp only [List.set_cons_succ, List.set_cons_zero]; exact rfl))
    | ((with_reducible apply wpT1_gpure); (first | (apply GdBy.gt; exact rfl; exact rfl) | (apply GdBy.gf; exact rfl; exact rfl) | (apply GdBy.t; exact rfl; exact rfl) | (apply GdBy.f; exact rfl; exact rfl)); intro K hK; go_simp; refine hK _ ?_; clear hK K; simp only [List.set_cons_succ, List.set_cons_zero])
    | ((with_reducible apply wpT1_pure); exact rfl; intro K hK; go_simp; refine hK _ ?_; clear hK K; simp only [List.set_cons_succ, List.set_cons_zero]))
  refine wpT_nil ?_
  refine wpG_put hR tNum (i := 14) (by kernel_rfl) rfl rfl rfl (by (focus (repeat (first | apply List.Mem.head | apply List.Mem.tail | apply List.mem_append_right)))) (put_num _ _) rfl (by simp [encS]) (one_num _) (by (focus (repeat (first | apply Upd.head | apply Upd.tail)))) (by (focus (repeat (with_reducible first | exact List.Sublist.slnil | exact List.nil_sublist _ | exact List.Sublist.refl _ | exact List.sublist_append_right _ _ | apply List.Sublist.cons_cons | apply List.Sublist.cons | apply sub_right)))) ?_
  clear hR; intro w hR
  refine wpG_end hR (by kernel_rfl) ?_
  clear hR; intro w hR
  go_wp2
  (try simp only [Exit.inBlock, Exit.then])
  exact post_row hR rfl (by rfl) (by (focus (repeat (first | apply List.Mem.head | apply List.Mem.tail | apply List.mem_append_right)))) Try.underlying36 rfl iNum (by rfl) (by rfl) ⟨rfl, hR.below⟩
theorem right_any (x : NumS) (i : Bool) (h : x.ok) (w : World) :
    Calls Try.prog 24 #[.agg (encS x), .bool i] w fun e w' => e = .returned (.agg (encS (rightS x i))) ∧ Below w.heap.size w w' := by
  have hR := Own.start w
  have HL := Lib.hid (right_num h i (Int.natCast_ediv x.v 2).symm)
  go_enter Try.func24, Try.ntmps24
  go_upto_region 1 with (first
    | ((with_reducible apply wpList_box hR); exact rfl; exact rfl; clear hR; intro g1 w hR; simp only [List.set_cons_succ, List.set_cons_zero])
    | ((with_reducible apply wpList_make hR zNum); exact rfl; clear hR; intro g2 w hR; simp only [List.set_cons_succ, List.set_cons_zero])
    | ((with_reducible apply q_ls hR); exact rfl; ((with_reducible first | apply t_addr (fNum _ (by decide)) | apply t_one tWordD | apply t_one tBoolD | apply t_part tNum) <;> (first | (apply EvC.gv; exact rfl; (with_reducible first | exact Imp.refl _ | (apply Imp.left; exact Imp.refl _) | (apply Imp.right; exact Imp.refl _) | (apply Imp.left; apply Imp.left; exact Imp.refl _))) | (apply EvC.now; exact rfl) | exact rfl | (with_reducible exact EvAll.nil) | (focus (repeat (first | apply EvAll.cons | exact EvAll.nil | (apply EvC.gv; exact rfl; (with_reducible first | exact Imp.refl _ | (apply Imp.left; exact Imp.refl _) | (apply Imp.right; exact Imp.refl _) | (apply Imp.left; apply Imp.left; exact Imp.refl _))) | (apply EvC.now; exact rfl))); done) | apply ext_num | (focus (repeat (first | apply List.Mem.head | apply List.Mem.tail | apply List.mem_append_right))))); (simp only [List.set_cons_succ, List.set_cons_zero]; exact rfl); clear hR; intro w hR)
    | ((with_reducible apply wpList_put hR tNum); exact rfl; exact rfl; exact rfl; (focus (repeat (first | apply List.Mem.head | apply List.Mem.tail | apply List.mem_append_right))); apply put_num; exact rfl; simp [encS]; apply one_num; (focus (repeat (first | apply Upd.head | apply Upd.tail))); clear hR; intro w hR))
  refine wp_region_some hR [(g1, encS x, 36)] (by (focus (repeat (with_reducible first | exact List.Sublist.slnil | exact List.nil_sublist _ | exact List.Sublist.refl _ | exact List.sublist_append_right _ _ | apply List.Sublist.cons_cons | apply List.Sublist.cons | apply sub_right)))) [0, 1, 2, 3, 4, 5, 6, 7, 8, 9, 10, 11, 12] 1 (by kernel_rfl) (by kernel_rfl) (by kernel_rfl) rfl ?_
  clear hR; intro hR
  repeat (refine wpT_step rfl ?_; first
    | ((first | (with_reducible apply q_pl) | ((with_reducible apply q_gd); (first | (apply GdBy.gt; exact rfl; exact rfl) | (apply GdBy.gf; exact rfl; exact rfl) | (apply GdBy.t; exact rfl; exact rfl) | (apply GdBy.f; exact rfl; exact rfl)))); (first | ((with_reducible first | apply t_move | apply t_assign | apply t_and | apply t_or | apply t_cmp | apply t_not | apply t_addr (fNum _ (by decide)) | apply t_one tWordD | apply t_one tBoolD | apply t_part tNum) <;> (first | (apply EvC.gv; exact rfl; (with_reducible first | exact Imp.refl _ | (apply Imp.left; exact Imp.refl _) | (apply Imp.right; exact Imp.refl _) | (apply Imp.left; apply Imp.left; exact Imp.refl _))) | (apply EvC.now; exact rfl) | exact rfl | (with_reducible exact EvAll.nil) | (focus (repeat (first | apply EvAll.cons | exact EvAll.nil | (apply EvC.gv; exact rfl; (with_reducible first | exact Imp.refl _ | (apply Imp.left; exact Imp.refl _) | (apply Imp.right; exact Imp.refl _) | (apply Imp.left; apply Imp.left; exact Imp.refl _))) | (apply EvC.now; exact rfl))); done) | apply ext_num | (focus (repeat (first | apply List.Mem.head | apply List.Mem.tail | apply List.mem_append_right)))))); (simp only [List.set_cons_succ, List.set_cons_zero]; exact rfl))
    | ((first | (with_reducible apply q_pl) | ((with_reducible apply q_gd); (first | (apply GdBy.gt; exact rfl; exact rfl) | (apply GdBy.gf; exact rfl; exact rfl) | (apply GdBy.t; exact rfl; exact rfl) | (apply GdBy.f; exact rfl; exact rfl)))); (with_reducible apply t_call Try.call26); (first | (apply EvC.gv; exact rfl; (with_reducible first | exact Imp.refl _ | (apply Imp.left; exact Imp.refl _) | (apply Imp.right; exact Imp.refl _) | (apply Imp.left; apply Imp.left; exact Imp.refl _))) | (apply EvC.now; exact rfl) | exact rfl | (with_reducible exact EvAll.nil) | (focus (repeat (first | apply EvAll.cons | exact EvAll.nil | (apply EvC.gv; exact rfl; (with_reducible first | exact Imp.refl _ | (apply Imp.left; exact Imp.refl _) | (apply Imp.right; exact Imp.refl _) | (apply Imp.left; apply Imp.left; exact Imp.refl _))) | (apply EvC.now; exact rfl))); done) | apply ext_num | (focus (repeat (first | apply List.Mem.head | apply List.Mem.tail | apply List.mem_append_right)))); (intro hcc w hC; exact tame_below (signD_any _ _) hC); (simp only [List.set_cons_succ, List.set_cons_zero]; exact rfl))
    | ((first | (with_reducible apply q_pl) | ((with_reducible apply q_gd); (first | (apply GdBy.gt; exact rfl; exact rfl) | (apply GdBy.gf; exact rfl; exact rfl) | (apply GdBy.t; exact rfl; exact rfl) | (apply GdBy.f; exact rfl; exact rfl)))); (with_reducible apply t_call Try.call15); (first | (apply EvC.gv; exact rfl; (with_reducible first | exact Imp.refl _ | (apply Imp.left; exact Imp.refl _) | (apply Imp.right; exact Imp.refl _) | (apply Imp.left; apply Imp.left; exact Imp.refl _))) | (apply EvC.now; exact rfl) | exact rfl | (with_reducible exact EvAll.nil) | (focus (repeat (first | apply EvAll.cons | exact EvAll.nil | (apply EvC.gv; exact rfl; (with_reducible first | exact Imp.refl _ | (apply Imp.left; exact Imp.refl _) | (apply Imp.right; exact Imp.refl _) | (apply Imp.left; apply Imp.left; exact Imp.refl _))) | (apply EvC.now; exact rfl))); done) | apply ext_num | (focus (repeat (first | apply List.Mem.head | apply List.Mem.tail | apply List.mem_append_right)))); (intro hcc w hC; exact tame_same (setD_any _ _ _) hC); (simp only [List.set_cons_succ, List.set_cons_zero]; exact rfl))
    | ((first | (with_reducible apply q_pl) | ((with_reducible apply q_gd); (first | (apply GdBy.gt; exact rfl; exact rfl) | (apply GdBy.gf; exact rfl; exact rfl) | (apply GdBy.t; exact rfl; exact rfl) | (apply GdBy.f; exact rfl; exact rfl)))); (with_reducible apply t_call Try.call25); (first | (apply EvC.gv; exact rfl; (with_reducible first | exact Imp.refl _ | (apply Imp.left; exact Imp.refl _) | (apply Imp.right; exact Imp.refl _) | (apply Imp.left; apply Imp.left; exact Imp.refl _))) | (apply EvC.now; exact rfl) | exact rfl | (with_reducible exact EvAll.nil) | (focus (repeat (first | apply EvAll.cons | exact EvAll.nil | (apply EvC.gv; exact rfl; (with_reducible first | exact Imp.refl _ | (apply Imp.left; exact Imp.refl _) | (apply Imp.right; exact Imp.refl _) | (apply Imp.left; apply Imp.left; exact Imp.refl _))) | (apply EvC.now; exact rfl))); done) | apply ext_num | (focus (repeat (first | apply List.Mem.head | apply List.Mem.tail | apply List.mem_append_right)))); (intro hcc w hC; exact tame_below (lowest_any _ h _) hC); (simp only [List.set_cons_succ, List.set_cons_zero]; exact rfl))
    | ((with_reducible apply q_kn); exact rfl; (with_reducible apply t_built); exact rfl; exact bNumZ (rightS x i) HL.out; (simp only [List.set_cons_succ, List.set_cons_zero]; exact rfl))
    | ((with_reducible apply q_gd); (first | (apply GdBy.gt; exact rfl; exact rfl) | (apply GdBy.gf; exact rfl; exact rfl) | (apply GdBy.t; exact rfl; exact rfl) | (apply GdBy.f; exact rfl; exact rfl)); ((with_reducible apply t_num) <;> (first | (apply EvC.gv; exact rfl; (with_reducible first | exact Imp.refl _ | (apply Imp.left; exact Imp.refl _) | (apply Imp.right; exact Imp.refl _) | (apply Imp.left; apply Imp.left; exact Imp.refl _))) | (apply EvC.now; exact rfl) | exact rfl | (with_reducible exact EvAll.nil) | (focus (repeat (first | apply EvAll.cons | exact EvAll.nil | (apply EvC.gv; exact rfl; (with_reducible first | exact Imp.refl _ | (apply Imp.left; exact Imp.refl _) | (apply Imp.right; exact Imp.refl _) | (apply Imp.left; apply Imp.left; exact Imp.refl _))) | (apply EvC.now; exact rfl))); done) | apply ext_num | (focus (repeat (first | apply List.Mem.head | apply List.Mem.tail | apply List.mem_append_right))))); (simp only [List.set_cons_succ, List.set_cons_zero]; exact rfl))
    | ((with_reducible apply wpT1_gpure); (first | (apply GdBy.gt; exact rfl; exact rfl) | (apply GdBy.gf; exact rfl; exact rfl) | (apply GdBy.t; exact rfl; exact rfl) | (apply GdBy.f; exact rfl; exact rfl)); intro K hK; go_simp; refine hK _ ?_; clear hK K; simp only [List.set_cons_succ, List.set_cons_zero])
    | ((with_reducible apply wpT1_pure); exact rfl; intro K hK; go_simp; refine hK _ ?_; clear hK K; simp only [List.set_cons_succ, List.set_cons_zero]))
  refine wpT_nil ?_
  refine wpG_put hR tNum (i := 13) (by kernel_rfl) rfl rfl rfl (by (focus (repeat (first | apply List.Mem.head | apply List.Mem.tail | apply List.mem_append_right)))) (put_num _ _) rfl (by simp [encS]) (one_num _) (by (focus (repeat (first | apply Upd.head | apply Upd.tail)))) (by (focus (repeat (with_reducible first | exact List.Sublist.slnil | exact List.nil_sublist _ | exact List.Sublist.refl _ | exact List.sublist_append_right _ _ | apply List.Sublist.cons_cons | apply List.Sublist.cons | apply sub_right)))) ?_
  clear hR; intro w hR
  refine wpG_end hR (by kernel_rfl) ?_
  clear hR; intro w hR
  go_wp2
  (try simp only [Exit.inBlock, Exit.then])
  exact post_row hR rfl (by rfl) (by (focus (repeat (first | apply List.Mem.head | apply List.Mem.tail | apply List.mem_append_right)))) Try.underlying36 rfl iNum (by rfl) (by rfl) ⟨rfl, hR.below⟩
theorem step_63 (x : NumS) (h : x.ok) (w : World) :
    Calls Try.prog 14 #[.agg (encS x), .int .i64 63] w fun e w' => e = .returned (.agg (encS (leftS x (upS x)))) ∧ Below w.heap.size w w' := by
  have hR := Own.start w
  go_enter Try.func14, Try.ntmps14
  go_upto_region 3 with (first
    | ((with_reducible apply wpList_box hR); exact rfl; exact rfl; clear hR; intro g1 w hR; simp only [List.set_cons_succ, List.set_cons_zero])
    | ((with_reducible apply wpList_make hR zNum); exact rfl; clear hR; intro g2 w hR; simp only [List.set_cons_succ, List.set_cons_zero])
    | ((with_reducible apply q_ls hR); exact rfl; ((with_reducible first | apply t_addr (fNum _ (by decide)) | apply t_one tWordD | apply t_one tBoolD | apply t_part tNum) <;> (first | (apply EvC.gv; exact rfl; (with_reducible first | exact Imp.refl _ | (apply Imp.left; exact Imp.refl _) | (apply Imp.right; exact Imp.refl _) | (apply Imp.left; apply Imp.left; exact Imp.refl _))) | (apply EvC.now; exact rfl) | exact rfl | (with_reducible exact EvAll.nil) | (focus (repeat (first | apply EvAll.cons | exact EvAll.nil | (apply EvC.gv; exact rfl; (with_reducible first | exact Imp.refl _ | (apply Imp.left; exact Imp.refl _) | (apply Imp.right; exact Imp.refl _) | (apply Imp.left; apply Imp.left; exact Imp.refl _))) | (apply EvC.now; exact rfl))); done) | apply ext_num | (focus (repeat (first | apply List.Mem.head | apply List.Mem.tail | apply List.mem_append_right))))); (simp only [List.set_cons_succ, List.set_cons_zero]; exact rfl); clear hR; intro w hR)
    | ((with_reducible apply wpList_put hR tNum); exact rfl; exact rfl; exact rfl; (focus (repeat (first | apply List.Mem.head | apply List.Mem.tail | apply List.mem_append_right))); apply put_num; exact rfl; simp [encS]; apply one_num; (focus (repeat (first | apply Upd.head | apply Upd.tail))); clear hR; intro w hR))
  refine wp_region_some hR [(g1, encS x, 36)] (by (focus (repeat (with_reducible first | exact List.Sublist.slnil | exact List.nil_sublist _ | exact List.Sublist.refl _ | exact List.sublist_append_right _ _ | apply List.Sublist.cons_cons | apply List.Sublist.cons | apply sub_right)))) [0, 1, 2, 3] 1 (by kernel_rfl) (by kernel_rfl) (by kernel_rfl) rfl ?_
  clear hR; intro hR
  repeat (refine wpT_step rfl ?_; first
    | ((first | (with_reducible apply q_pl) | ((with_reducible apply q_gd); (first | (apply GdBy.gt; exact rfl; exact rfl) | (apply GdBy.gf; exact rfl; exact rfl) | (apply GdBy.t; exact rfl; exact rfl) | (apply GdBy.f; exact rfl; exact rfl)))); (first | ((with_reducible first | apply t_move | apply t_assign | apply t_and | apply t_or | apply t_cmp | apply t_not | apply t_addr (fNum _ (by decide)) | apply t_one tWordD | apply t_one tBoolD | apply t_part tNum) <;> (first | (apply EvC.gv; exact rfl; (with_reducible first | exact Imp.refl _ | (apply Imp.left; exact Imp.refl _) | (apply Imp.right; exact Imp.refl _) | (apply Imp.left; apply Imp.left; exact Imp.refl _))) | (apply EvC.now; exact rfl) | exact rfl | (with_reducible exact EvAll.nil) | (focus (repeat (first | apply EvAll.cons | exact EvAll.nil | (apply EvC.gv; exact rfl; (with_reducible first | exact Imp.refl _ | (apply Imp.left; exact Imp.refl _) | (apply Imp.right; exact Imp.refl _) | (apply Imp.left; apply Imp.left; exact Imp.refl _))) | (apply EvC.now; exact rfl))); done) | apply ext_num | (focus (repeat (first | apply List.Mem.head | apply List.Mem.tail | apply List.mem_append_right)))))); (simp only [List.set_cons_succ, List.set_cons_zero]; exact rfl))
    | ((first | (with_reducible apply q_pl) | ((with_reducible apply q_gd); (first | (apply GdBy.gt; exact rfl; exact rfl) | (apply GdBy.gf; exact rfl; exact rfl) | (apply GdBy.t; exact rfl; exact rfl) | (apply GdBy.f; exact rfl; exact rfl)))); (with_reducible apply t_call Try.call16); (first | (apply EvC.gv; exact rfl; (with_reducible first | exact Imp.refl _ | (apply Imp.left; exact Imp.refl _) | (apply Imp.right; exact Imp.refl _) | (apply Imp.left; apply Imp.left; exact Imp.refl _))) | (apply EvC.now; exact rfl) | exact rfl | (with_reducible exact EvAll.nil) | (focus (repeat (first | apply EvAll.cons | exact EvAll.nil | (apply EvC.gv; exact rfl; (with_reducible first | exact Imp.refl _ | (apply Imp.left; exact Imp.refl _) | (apply Imp.right; exact Imp.refl _) | (apply Imp.left; apply Imp.left; exact Imp.refl _))) | (apply EvC.now; exact rfl))); done) | apply ext_num | (focus (repeat (first | apply List.Mem.head | apply List.Mem.tail | apply List.mem_append_right)))); (intro hcc w hC; exact tame_below (upper_any _ h _) hC); (simp only [List.set_cons_succ, List.set_cons_zero]; exact rfl))
    | ((first | (with_reducible apply q_pl) | ((with_reducible apply q_gd); (first | (apply GdBy.gt; exact rfl; exact rfl) | (apply GdBy.gf; exact rfl; exact rfl) | (apply GdBy.t; exact rfl; exact rfl) | (apply GdBy.f; exact rfl; exact rfl)))); (with_reducible apply t_call Try.call23); (first | (apply EvC.gv; exact rfl; (with_reducible first | exact Imp.refl _ | (apply Imp.left; exact Imp.refl _) | (apply Imp.right; exact Imp.refl _) | (apply Imp.left; apply Imp.left; exact Imp.refl _))) | (apply EvC.now; exact rfl) | exact rfl | (with_reducible exact EvAll.nil) | (focus (repeat (first | apply EvAll.cons | exact EvAll.nil | (apply EvC.gv; exact rfl; (with_reducible first | exact Imp.refl _ | (apply Imp.left; exact Imp.refl _) | (apply Imp.right; exact Imp.refl _) | (apply Imp.left; apply Imp.left; exact Imp.refl _))) | (apply EvC.now; exact rfl))); done) | apply ext_num | (focus (repeat (first | apply List.Mem.head | apply List.Mem.tail | apply List.mem_append_right)))); (intro hcc w hC; exact tame_below (left_any _ _ h _) hC); (simp only [List.set_cons_succ, List.set_cons_zero]; exact rfl))
    | ((with_reducible apply q_gd); (first | (apply GdBy.gt; exact rfl; exact rfl) | (apply GdBy.gf; exact rfl; exact rfl) | (apply GdBy.t; exact rfl; exact rfl) | (apply GdBy.f; exact rfl; exact rfl)); ((with_reducible apply t_num) <;> (first | (apply EvC.gv; exact rfl; (with_reducible first | exact Imp.refl _ | (apply Imp.left; exact Imp.refl _) | (apply Imp.right; exact Imp.refl _) | (apply Imp.left; apply Imp.left; exact Imp.refl _))) | (apply EvC.now; exact rfl) | exact rfl | (with_reducible exact EvAll.nil) | (focus (repeat (first | apply EvAll.cons | exact EvAll.nil | (apply EvC.gv; exact rfl; (with_reducible first | exact Imp.refl _ | (apply Imp.left; exact Imp.refl _) | (apply Imp.right; exact Imp.refl _) | (apply Imp.left; apply Imp.left; exact Imp.refl _))) | (apply EvC.now; exact rfl))); done) | apply ext_num | (focus (repeat (first | apply List.Mem.head | apply List.Mem.tail | apply List.mem_append_right))))); (simp only [List.set_cons_succ, List.set_cons_zero]; exact rfl))
    | ((with_reducible apply wpT1_gpure); (first | (apply GdBy.gt; exact rfl; exact rfl) | (apply GdBy.gf; exact rfl; exact rfl) | (apply GdBy.t; exact rfl; exact rfl) | (apply GdBy.f; exact rfl; exact rfl)); intro K hK; go_simp; refine hK _ ?_; clear hK K; simp only [List.set_cons_succ, List.set_cons_zero])
    | ((with_reducible apply wpT1_pure); exact rfl; intro K hK; go_simp; refine hK _ ?_; clear hK K; simp only [List.set_cons_succ, List.set_cons_zero]))
  refine wpT_nil ?_
  refine wpG_put hR tNum (i := 4) (by kernel_rfl) rfl rfl rfl (by (focus (repeat (first | apply List.Mem.head | apply List.Mem.tail | apply List.mem_append_right)))) (put_num _ _) rfl (by simp [encS]) (one_num _) (by (focus (repeat (first | apply Upd.head | apply Upd.tail)))) (by (focus (repeat (with_reducible first | exact List.Sublist.slnil | exact List.nil_sublist _ | exact List.Sublist.refl _ | exact List.sublist_append_right _ _ | apply List.Sublist.cons_cons | apply List.Sublist.cons | apply sub_right)))) ?_
  clear hR; intro w hR
  refine wpG_end hR (by kernel_rfl) ?_
  clear hR; intro w hR
  go_wp2
  (try simp only [Exit.inBlock, Exit.then])
  exact post_row hR rfl (by rfl) (by (focus (repeat (first | apply List.Mem.head | apply List.Mem.tail | apply List.mem_append_right)))) Try.underlying36 rfl iNum (by rfl) (by rfl) ⟨rfl, hR.below⟩
theorem step_64 (x : NumS) (h : x.ok) (w : World) :
    Calls Try.prog 14 #[.agg (encS x), .int .i64 64] w fun e w' => e = .returned (.agg (encS (rightS x (loS x)))) ∧ Below w.heap.size w w' := by
  have hR := Own.start w
  go_enter Try.func14, Try.ntmps14
  go_upto_region 9 with (first
    | ((with_reducible apply wpList_box hR); exact rfl; exact rfl; clear hR; intro g1 w hR; simp only [List.set_cons_succ, List.set_cons_zero])
    | ((with_reducible apply wpList_make hR zNum); exact rfl; clear hR; intro g2 w hR; simp only [List.set_cons_succ, List.set_cons_zero])
    | ((with_reducible apply q_ls hR); exact rfl; ((with_reducible first | apply t_addr (fNum _ (by decide)) | apply t_one tWordD | apply t_one tBoolD | apply t_part tNum) <;> (first | (apply EvC.gv; exact rfl; (with_reducible first | exact Imp.refl _ | (apply Imp.left; exact Imp.refl _) | (apply Imp.right; exact Imp.refl _) | (apply Imp.left; apply Imp.left; exact Imp.refl _))) | (apply EvC.now; exact rfl) | exact rfl | (with_reducible exact EvAll.nil) | (focus (repeat (first | apply EvAll.cons | exact EvAll.nil | (apply EvC.gv; exact rfl; (with_reducible first | exact Imp.refl _ | (apply Imp.left; exact Imp.refl _) | (apply Imp.right; exact Imp.refl _) | (apply Imp.left; apply Imp.left; exact Imp.refl _))) | (apply EvC.now; exact rfl))); done) | apply ext_num | (focus (repeat (first | apply List.Mem.head | apply List.Mem.tail | apply List.mem_append_right))))); (simp only [List.set_cons_succ, List.set_cons_zero]; exact rfl); clear hR; intro w hR)
    | ((with_reducible apply wpList_put hR tNum); exact rfl; exact rfl; exact rfl; (focus (repeat (first | apply List.Mem.head | apply List.Mem.tail | apply List.mem_append_right))); apply put_num; exact rfl; simp [encS]; apply one_num; (focus (repeat (first | apply Upd.head | apply Upd.tail))); clear hR; intro w hR))
  refine wp_region_some hR [(g1, encS x, 36)] (by (focus (repeat (with_reducible first | exact List.Sublist.slnil | exact List.nil_sublist _ | exact List.Sublist.refl _ | exact List.sublist_append_right _ _ | apply List.Sublist.cons_cons | apply List.Sublist.cons | apply sub_right)))) [0, 1, 2, 3] 1 (by kernel_rfl) (by kernel_rfl) (by kernel_rfl) rfl ?_
  clear hR; intro hR
  repeat (refine wpT_step rfl ?_; first
    | ((first | (with_reducible apply q_pl) | ((with_reducible apply q_gd); (first | (apply GdBy.gt; exact rfl; exact rfl) | (apply GdBy.gf; exact rfl; exact rfl) | (apply GdBy.t; exact rfl; exact rfl) | (apply GdBy.f; exact rfl; exact rfl)))); (first | ((with_reducible first | apply t_move | apply t_assign | apply t_and | apply t_or | apply t_cmp | apply t_not | apply t_addr (fNum _ (by decide)) | apply t_one tWordD | apply t_one tBoolD | apply t_part tNum) <;> (first | (apply EvC.gv; exact rfl; (with_reducible first | exact Imp.refl _ | (apply Imp.left; exact Imp.refl _) | (apply Imp.right; exact Imp.refl _) | (apply Imp.left; apply Imp.left; exact Imp.refl _))) | (apply EvC.now; exact rfl) | exact rfl | (with_reducible exact EvAll.nil) | (focus (repeat (first | apply EvAll.cons | exact EvAll.nil | (apply EvC.gv; exact rfl; (with_reducible first | exact Imp.refl _ | (apply Imp.left; exact Imp.refl _) | (apply Imp.right; exact Imp.refl _) | (apply Imp.left; apply Imp.left; exact Imp.refl _))) | (apply EvC.now; exact rfl))); done) | apply ext_num | (focus (repeat (first | apply List.Mem.head | apply List.Mem.tail | apply List.mem_append_right)))))); (simp only [List.set_cons_succ, List.set_cons_zero]; exact rfl))
    | ((first | (with_reducible apply q_pl) | ((with_reducible apply q_gd); (first | (apply GdBy.gt; exact rfl; exact rfl) | (apply GdBy.gf; exact rfl; exact rfl) | (apply GdBy.t; exact rfl; exact rfl) | (apply GdBy.f; exact rfl; exact rfl)))); (with_reducible apply t_call Try.call25); (first | (apply EvC.gv; exact rfl; (with_reducible first | exact Imp.refl _ | (apply Imp.left; exact Imp.refl _) | (apply Imp.right; exact Imp.refl _) | (apply Imp.left; apply Imp.left; exact Imp.refl _))) | (apply EvC.now; exact rfl) | exact rfl | (with_reducible exact EvAll.nil) | (focus (repeat (first | apply EvAll.cons | exact EvAll.nil | (apply EvC.gv; exact rfl; (with_reducible first | exact Imp.refl _ | (apply Imp.left; exact Imp.refl _) | (apply Imp.right; exact Imp.refl _) | (apply Imp.left; apply Imp.left; exact Imp.refl _))) | (apply EvC.now; exact rfl))); done) | apply ext_num | (focus (repeat (first | apply List.Mem.head | apply List.Mem.tail | apply List.mem_append_right)))); (intro hcc w hC; exact tame_below (lowest_any _ h _) hC); (simp only [List.set_cons_succ, List.set_cons_zero]; exact rfl))
    | ((first | (with_reducible apply q_pl) | ((with_reducible apply q_gd); (first | (apply GdBy.gt; exact rfl; exact rfl) | (apply GdBy.gf; exact rfl; exact rfl) | (apply GdBy.t; exact rfl; exact rfl) | (apply GdBy.f; exact rfl; exact rfl)))); (with_reducible apply t_call Try.call24); (first | (apply EvC.gv; exact rfl; (with_reducible first | exact Imp.refl _ | (apply Imp.left; exact Imp.refl _) | (apply Imp.right; exact Imp.refl _) | (apply Imp.left; apply Imp.left; exact Imp.refl _))) | (apply EvC.now; exact rfl) | exact rfl | (with_reducible exact EvAll.nil) | (focus (repeat (first | apply EvAll.cons | exact EvAll.nil | (apply EvC.gv; exact rfl; (with_reducible first | exact Imp.refl _ | (apply Imp.left; exact Imp.refl _) | (apply Imp.right; exact Imp.refl _) | (apply Imp.left; apply Imp.left; exact Imp.refl _))) | (apply EvC.now; exact rfl))); done) | apply ext_num | (focus (repeat (first | apply List.Mem.head | apply List.Mem.tail | apply List.mem_append_right)))); (intro hcc w hC; exact tame_below (right_any _ _ h _) hC); (simp only [List.set_cons_succ, List.set_cons_zero]; exact rfl))
    | ((with_reducible apply q_gd); (first | (apply GdBy.gt; exact rfl; exact rfl) | (apply GdBy.gf; exact rfl; exact rfl) | (apply GdBy.t; exact rfl; exact rfl) | (apply GdBy.f; exact rfl; exact rfl)); ((with_reducible apply t_num) <;> (first | (apply EvC.gv; exact rfl; (with_reducible first | exact Imp.refl _ | (apply Imp.left; exact Imp.refl _) | (apply Imp.right; exact Imp.refl _) | (apply Imp.left; apply Imp.left; exact Imp.refl _))) | (apply EvC.now; exact rfl) | exact rfl | (with_reducible exact EvAll.nil) | (focus (repeat (first | apply EvAll.cons | exact EvAll.nil | (apply EvC.gv; exact rfl; (with_reducible first | exact Imp.refl _ | (apply Imp.left; exact Imp.refl _) | (apply Imp.right; exact Imp.refl _) | (apply Imp.left; apply Imp.left; exact Imp.refl _))) | (apply EvC.now; exact rfl))); done) | apply ext_num | (focus (repeat (first | apply List.Mem.head | apply List.Mem.tail | apply List.mem_append_right))))); (simp only [List.set_cons_succ, List.set_cons_zero]; exact rfl))
    | ((with_reducible apply wpT1_gpure); (first | (apply GdBy.gt; exact rfl; exact rfl) | (apply GdBy.gf; exact rfl; exact rfl) | (apply GdBy.t; exact rfl; exact rfl) | (apply GdBy.f; exact rfl; exact rfl)); intro K hK; go_simp; refine hK _ ?_; clear hK K; simp only [List.set_cons_succ, List.set_cons_zero])
    | ((with_reducible apply wpT1_pure); exact rfl; intro K hK; go_simp; refine hK _ ?_; clear hK K; simp only [List.set_cons_succ, List.set_cons_zero]))
  refine wpT_nil ?_
  refine wpG_put hR tNum (i := 4) (by kernel_rfl) rfl rfl rfl (by (focus (repeat (first | apply List.Mem.head | apply List.Mem.tail | apply List.mem_append_right)))) (put_num _ _) rfl (by simp [encS]) (one_num _) (by (focus (repeat (first | apply Upd.head | apply Upd.tail)))) (by (focus (repeat (with_reducible first | exact List.Sublist.slnil | exact List.nil_sublist _ | exact List.Sublist.refl _ | exact List.sublist_append_right _ _ | apply List.Sublist.cons_cons | apply List.Sublist.cons | apply sub_right)))) ?_
  clear hR; intro w hR
  refine wpG_end hR (by kernel_rfl) ?_
  clear hR; intro w hR
  go_wp2
  (try simp only [Exit.inBlock, Exit.then])
  exact post_row hR rfl (by rfl) (by (focus (repeat (first | apply List.Mem.head | apply List.Mem.tail | apply List.mem_append_right)))) Try.underlying36 rfl iNum (by rfl) (by rfl) ⟨rfl, hR.below⟩
theorem step_65 (x : NumS) (h : x.ok) (w : World) :
    Calls Try.prog 14 #[.agg (encS x), .int .i64 65] w fun e w' => e = .returned (.agg (encS (leftS x x.c))) ∧ Below w.heap.size w w' := by
  have hR := Own.start w
  go_enter Try.func14, Try.ntmps14
  go_wp2_with (first
    | ((with_reducible apply wpList_box hR); exact rfl; exact rfl; clear hR; intro g1 w hR; simp only [List.set_cons_succ, List.set_cons_zero])
    | ((with_reducible apply wpList_make hR zNum); exact rfl; clear hR; intro g2 w hR; simp only [List.set_cons_succ, List.set_cons_zero])
    | ((with_reducible apply q_ls hR); exact rfl; ((with_reducible first | apply t_addr (fNum _ (by decide)) | apply t_one tWordD | apply t_one tBoolD | apply t_part tNum) <;> (first | (apply EvC.gv; exact rfl; (with_reducible first | exact Imp.refl _ | (apply Imp.left; exact Imp.refl _) | (apply Imp.right; exact Imp.refl _) | (apply Imp.left; apply Imp.left; exact Imp.refl _))) | (apply EvC.now; exact rfl) | exact rfl | (with_reducible exact EvAll.nil) | (focus (repeat (first | apply EvAll.cons | exact EvAll.nil | (apply EvC.gv; exact rfl; (with_reducible first | exact Imp.refl _ | (apply Imp.left; exact Imp.refl _) | (apply Imp.right; exact Imp.refl _) | (apply Imp.left; apply Imp.left; exact Imp.refl _))) | (apply EvC.now; exact rfl))); done) | apply ext_num | (focus (repeat (first | apply List.Mem.head | apply List.Mem.tail | apply List.mem_append_right))))); (simp only [List.set_cons_succ, List.set_cons_zero]; exact rfl); clear hR; intro w hR)
    | ((with_reducible apply wpList_put hR tNum); exact rfl; exact rfl; exact rfl; (focus (repeat (first | apply List.Mem.head | apply List.Mem.tail | apply List.mem_append_right))); apply put_num; exact rfl; simp [encS]; apply one_num; (focus (repeat (first | apply Upd.head | apply Upd.tail))); clear hR; intro w hR)
    | (go_at_call 23; refine (left_any _ _ h _).mono ?_; rintro e w' ⟨rfl, hb⟩; replace hR := hR.grow hb; clear hb))
  (try simp only [Exit.inBlock, Exit.then])
  exact post_row hR rfl (by rfl) (by (focus (repeat (first | apply List.Mem.head | apply List.Mem.tail | apply List.mem_append_right)))) Try.underlying36 rfl iNum (by rfl) (by rfl) ⟨rfl, hR.below⟩
theorem step_66 (x : NumS) (h : x.ok) (w : World) :
    Calls Try.prog 14 #[.agg (encS x), .int .i64 66] w fun e w' => e = .returned (.agg (encS (rightS x x.c))) ∧ Below w.heap.size w w' := by
  have hR := Own.start w
  go_enter Try.func14, Try.ntmps14
  go_wp2_with (first
    | ((with_reducible apply wpList_box hR); exact rfl; exact rfl; clear hR; intro g1 w hR; simp only [List.set_cons_succ, List.set_cons_zero])
    | ((with_reducible apply wpList_make hR zNum); exact rfl; clear hR; intro g2 w hR; simp only [List.set_cons_succ, List.set_cons_zero])
    | ((with_reducible apply q_ls hR); exact rfl; ((with_reducible first | apply t_addr (fNum _ (by decide)) | apply t_one tWordD | apply t_one tBoolD | apply t_part tNum) <;> (first | (apply EvC.gv; exact rfl; (with_reducible first | exact Imp.refl _ | (apply Imp.left; exact Imp.refl _) | (apply Imp.right; exact Imp.refl _) | (apply Imp.left; apply Imp.left; exact Imp.refl _))) | (apply EvC.now; exact rfl) | exact rfl | (with_reducible exact EvAll.nil) | (focus (repeat (first | apply EvAll.cons | exact EvAll.nil | (apply EvC.gv; exact rfl; (with_reducible first | exact Imp.refl _ | (apply Imp.left; exact Imp.refl _) | (apply Imp.right; exact Imp.refl _) | (apply Imp.left; apply Imp.left; exact Imp.refl _))) | (apply EvC.now; exact rfl))); done) | apply ext_num | (focus (repeat (first | apply List.Mem.head | apply List.Mem.tail | apply List.mem_append_right))))); (simp only [List.set_cons_succ, List.set_cons_zero]; exact rfl); clear hR; intro w hR)
    | ((with_reducible apply wpList_put hR tNum); exact rfl; exact rfl; exact rfl; (focus (repeat (first | apply List.Mem.head | apply List.Mem.tail | apply List.mem_append_right))); apply put_num; exact rfl; simp [encS]; apply one_num; (focus (repeat (first | apply Upd.head | apply Upd.tail))); clear hR; intro w hR)
    | (go_at_call 24; refine (right_any _ _ h _).mono ?_; rintro e w' ⟨rfl, hb⟩; replace hR := hR.grow hb; clear hb))
  (try simp only [Exit.inBlock, Exit.then])
  exact post_row hR rfl (by rfl) (by (focus (repeat (first | apply List.Mem.head | apply List.Mem.tail | apply List.mem_append_right)))) Try.underlying36 rfl iNum (by rfl) (by rfl) ⟨rfl, hR.below⟩
theorem step_67 (x : NumS) (h : x.ok) (w : World) :
    Calls Try.prog 14 #[.agg (encS x), .int .i64 67] w fun e w' => e = .returned (.agg (encS (leftS x false))) ∧ Below w.heap.size w w' := by
  have hR := Own.start w
  go_enter Try.func14, Try.ntmps14
  go_wp2_with (first
    | ((with_reducible apply wpList_box hR); exact rfl; exact rfl; clear hR; intro g1 w hR; simp only [List.set_cons_succ, List.set_cons_zero])
    | ((with_reducible apply wpList_make hR zNum); exact rfl; clear hR; intro g2 w hR; simp only [List.set_cons_succ, List.set_cons_zero])
    | ((with_reducible apply q_ls hR); exact rfl; ((with_reducible first | apply t_addr (fNum _ (by decide)) | apply t_one tWordD | apply t_one tBoolD | apply t_part tNum) <;> (first | (apply EvC.gv; exact rfl; (with_reducible first | exact Imp.refl _ | (apply Imp.left; exact Imp.refl _) | (apply Imp.right; exact Imp.refl _) | (apply Imp.left; apply Imp.left; exact Imp.refl _))) | (apply EvC.now; exact rfl) | exact rfl | (with_reducible exact EvAll.nil) | (focus (repeat (first | apply EvAll.cons | exact EvAll.nil | (apply EvC.gv; exact rfl; (with_reducible first | exact Imp.refl _ | (apply Imp.left; exact Imp.refl _) | (apply Imp.right; exact Imp.refl _) | (apply Imp.left; apply Imp.left; exact Imp.refl _))) | (apply EvC.now; exact rfl))); done) | apply ext_num | (focus (repeat (first | apply List.Mem.head | apply List.Mem.tail | apply List.mem_append_right))))); (simp only [List.set_cons_succ, List.set_cons_zero]; exact rfl); clear hR; intro w hR)
    | ((with_reducible apply wpList_put hR tNum); exact rfl; exact rfl; exact rfl; (focus (repeat (first | apply List.Mem.head | apply List.Mem.tail | apply List.mem_append_right))); apply put_num; exact rfl; simp [encS]; apply one_num; (focus (repeat (first | apply Upd.head | apply Upd.tail))); clear hR; intro w hR)
    | (go_at_call 23; refine (left_any _ _ h _).mono ?_; rintro e w' ⟨rfl, hb⟩; replace hR := hR.grow hb; clear hb))
  (try simp only [Exit.inBlock, Exit.then])
  exact post_row hR rfl (by rfl) (by (focus (repeat (first | apply List.Mem.head | apply List.Mem.tail | apply List.mem_append_right)))) Try.underlying36 rfl iNum (by rfl) (by rfl) ⟨rfl, hR.below⟩
theorem step_68 (x : NumS) (h : x.ok) (w : World) :
    Calls Try.prog 14 #[.agg (encS x), .int .i64 68] w fun e w' => e = .returned (.agg (encS (rightS x false))) ∧ Below w.heap.size w w' := by
  have hR := Own.start w
  go_enter Try.func14, Try.ntmps14
  go_wp2_with (first
    | ((with_reducible apply wpList_box hR); exact rfl; exact rfl; clear hR; intro g1 w hR; simp only [List.set_cons_succ, List.set_cons_zero])
    | ((with_reducible apply wpList_make hR zNum); exact rfl; clear hR; intro g2 w hR; simp only [List.set_cons_succ, List.set_cons_zero])
    | ((with_reducible apply q_ls hR); exact rfl; ((with_reducible first | apply t_addr (fNum _ (by decide)) | apply t_one tWordD | apply t_one tBoolD | apply t_part tNum) <;> (first | (apply EvC.gv; exact rfl; (with_reducible first | exact Imp.refl _ | (apply Imp.left; exact Imp.refl _) | (apply Imp.right; exact Imp.refl _) | (apply Imp.left; apply Imp.left; exact Imp.refl _))) | (apply EvC.now; exact rfl) | exact rfl | (with_reducible exact EvAll.nil) | (focus (repeat (first | apply EvAll.cons | exact EvAll.nil | (apply EvC.gv; exact rfl; (with_reducible first | exact Imp.refl _ | (apply Imp.left; exact Imp.refl _) | (apply Imp.right; exact Imp.refl _) | (apply Imp.left; apply Imp.left; exact Imp.refl _))) | (apply EvC.now; exact rfl))); done) | apply ext_num | (focus (repeat (first | apply List.Mem.head | apply List.Mem.tail | apply List.mem_append_right))))); (simp only [List.set_cons_succ, List.set_cons_zero]; exact rfl); clear hR; intro w hR)
    | ((with_reducible apply wpList_put hR tNum); exact rfl; exact rfl; exact rfl; (focus (repeat (first | apply List.Mem.head | apply List.Mem.tail | apply List.mem_append_right))); apply put_num; exact rfl; simp [encS]; apply one_num; (focus (repeat (first | apply Upd.head | apply Upd.tail))); clear hR; intro w hR)
    | (go_at_call 24; refine (right_any _ _ h _).mono ?_; rintro e w' ⟨rfl, hb⟩; replace hR := hR.grow hb; clear hb))
  (try simp only [Exit.inBlock, Exit.then])
  exact post_row hR rfl (by rfl) (by (focus (repeat (first | apply List.Mem.head | apply List.Mem.tail | apply List.mem_append_right)))) Try.underlying36 rfl iNum (by rfl) (by rfl) ⟨rfl, hR.below⟩
theorem step_69 (x : NumS) (h : x.ok) (w : World) :
    Calls Try.prog 14 #[.agg (encS x), .int .i64 69] w fun e w' => e = .returned (.agg (encS (rightS x (upS x)))) ∧ Below w.heap.size w w' := by
  have hR := Own.start w
  go_enter Try.func14, Try.ntmps14
  go_upto_region 14 with (first
    | ((with_reducible apply wpList_box hR); exact rfl; exact rfl; clear hR; intro g1 w hR; simp only [List.set_cons_succ, List.set_cons_zero])
    | ((with_reducible apply wpList_make hR zNum); exact rfl; clear hR; intro g2 w hR; simp only [List.set_cons_succ, List.set_cons_zero])
    | ((with_reducible apply q_ls hR); exact rfl; ((with_reducible first | apply t_addr (fNum _ (by decide)) | apply t_one tWordD | apply t_one tBoolD | apply t_part tNum) <;> (first | (apply EvC.gv; exact rfl; (with_reducible first | exact Imp.refl _ | (apply Imp.left; exact Imp.refl _) | (apply Imp.right; exact Imp.refl _) | (apply Imp.left; apply Imp.left; exact Imp.refl _))) | (apply EvC.now; exact rfl) | exact rfl | (with_reducible exact EvAll.nil) | (focus (repeat (first | apply EvAll.cons | exact EvAll.nil | (apply EvC.gv; exact rfl; (with_reducible first | exact Imp.refl _ | (apply Imp.left; exact Imp.refl _) | (apply Imp.right; exact Imp.refl _) | (apply Imp.left; apply Imp.left; exact Imp.refl _))) | (apply EvC.now; exact rfl))); done) | apply ext_num | (focus (repeat (first | apply List.Mem.head | apply List.Mem.tail | apply List.mem_append_right))))); (simp only [List.set_cons_succ, List.set_cons_zero]; exact rfl); clear hR; intro w hR)
    | ((with_reducible apply wpList_put hR tNum); exact rfl; exact rfl; exact rfl; (focus (repeat (first | apply List.Mem.head | apply List.Mem.tail | apply List.mem_append_right))); apply put_num; exact rfl; simp [encS]; apply one_num; (focus (repeat (first | apply Upd.head | apply Upd.tail))); clear hR; intro w hR))
  refine wp_region_some hR [(g1, encS x, 36)] (by (focus (repeat (with_reducible first | exact List.Sublist.slnil | exact List.nil_sublist _ | exact List.Sublist.refl _ | exact List.sublist_append_right _ _ | apply List.Sublist.cons_cons | apply List.Sublist.cons | apply sub_right)))) [0, 1, 2, 3] 1 (by kernel_rfl) (by kernel_rfl) (by kernel_rfl) rfl ?_
  clear hR; intro hR
  repeat (refine wpT_step rfl ?_; first
    | ((first | (with_reducible apply q_pl) | ((with_reducible apply q_gd); (first | (apply GdBy.gt; exact rfl; exact rfl) | (apply GdBy.gf; exact rfl; exact rfl) | (apply GdBy.t; exact rfl; exact rfl) | (apply GdBy.f; exact rfl; exact rfl)))); (first | ((with_reducible first | apply t_move | apply t_assign | apply t_and | apply t_or | apply t_cmp | apply t_not | apply t_addr (fNum _ (by decide)) | apply t_one tWordD | apply t_one tBoolD | apply t_part tNum) <;> (first | (apply EvC.gv; exact rfl; (with_reducible first | exact Imp.refl _ | (apply Imp.left; exact Imp.refl _) | (apply Imp.right; exact Imp.refl _) | (apply Imp.left; apply Imp.left; exact Imp.refl _))) | (apply EvC.now; exact rfl) | exact rfl | (with_reducible exact EvAll.nil) | (focus (repeat (first | apply EvAll.cons | exact EvAll.nil | (apply EvC.gv; exact rfl; (with_reducible first | exact Imp.refl _ | (apply Imp.left; exact Imp.refl _) | (apply Imp.right; exact Imp.refl _) | (apply Imp.left; apply Imp.left; exact Imp.refl _))) | (apply EvC.now; exact rfl))); done) | apply ext_num | (focus (repeat (first | apply List.Mem.head | apply List.Mem.tail | apply List.mem_append_right)))))); (simp only [List.set_cons_succ, List.set_cons_zero]; exact rfl))
    | ((first | (with_reducible apply q_pl) | ((with_reducible apply q_gd); (first | (apply GdBy.gt; exact rfl; exact rfl) | (apply GdBy.gf; exact rfl; exact rfl) | (apply GdBy.t; exact rfl; exact rfl) | (apply GdBy.f; exact rfl; exact rfl)))); (with_reducible apply t_call Try.call16); (first | (apply EvC.gv; exact rfl; (with_reducible first | exact Imp.refl _ | (apply Imp.left; exact Imp.refl _) | (apply Imp.right; exact Imp.refl _) | (apply Imp.left; apply Imp.left; exact Imp.refl _))) | (apply EvC.now; exact rfl) | exact rfl | (with_reducible exact EvAll.nil) | (focus (repeat (first | apply EvAll.cons | exact EvAll.nil | (apply EvC.gv; exact rfl; (with_reducible first | exact Imp.refl _ | (apply Imp.left; exact Imp.refl _) | (apply Imp.right; exact Imp.refl _) | (apply Imp.left; apply Imp.left; exact Imp.refl _))) | (apply EvC.now; exact rfl))); done) | apply ext_num | (focus (repeat (first | apply List.Mem.head | apply List.Mem.tail | apply List.mem_append_right)))); (intro hcc w hC; exact tame_below (upper_any _ h _) hC); (simp only [List.set_cons_succ, List.set_cons_zero]; exact rfl))
    | ((first | (with_reducible apply q_pl) | ((with_reducible apply q_gd); (first | (apply GdBy.gt; exact rfl; exact rfl) | (apply GdBy.gf; exact rfl; exact rfl) | (apply GdBy.t; exact rfl; exact rfl) | (apply GdBy.f; exact rfl; exact rfl)))); (with_reducible apply t_call Try.call24); (first | (apply EvC.gv; exact rfl; (with_reducible first | exact Imp.refl _ | (apply Imp.left; exact Imp.refl _) | (apply Imp.right; exact Imp.refl _) | (apply Imp.left; apply Imp.left; exact Imp.refl _))) | (apply EvC.now; exact rfl) | exact rfl | (with_reducible exact EvAll.nil) | (focus (repeat (first | apply EvAll.cons | exact EvAll.nil | (apply EvC.gv; exact rfl; (with_reducible first | exact Imp.refl _ | (apply Imp.left; exact Imp.refl _) | (apply Imp.right; exact Imp.refl _) | (apply Imp.left; apply Imp.left; exact Imp.refl _))) | (apply EvC.now; exact rfl))); done) | apply ext_num | (focus (repeat (first | apply List.Mem.head | apply List.Mem.tail | apply List.mem_append_right)))); (intro hcc w hC; exact tame_below (right_any _ _ h _) hC); (simp only [List.set_cons_succ, List.set_cons_zero]; exact rfl))
    | ((with_reducible apply q_gd); (first | (apply GdBy.gt; exact rfl; exact rfl) | (apply GdBy.gf; exact rfl; exact rfl) | (apply GdBy.t; exact rfl; exact rfl) | (apply GdBy.f; exact rfl; exact rfl)); ((with_reducible apply t_num) <;> (first | (apply EvC.gv; exact rfl; (with_reducible first | exact Imp.refl _ | (apply Imp.left; exact Imp.refl _) | (apply Imp.right; exact Imp.refl _) | (apply Imp.left; apply Imp.left; exact Imp.refl _))) | (apply EvC.now; exact rfl) | exact rfl | (with_reducible exact EvAll.nil) | (focus (repeat (first | apply EvAll.cons | exact EvAll.nil | (apply EvC.gv; exact rfl; (with_reducible first | exact Imp.refl _ | (apply Imp.left; exact Imp.refl _) | (apply Imp.right; exact Imp.refl _) | (apply Imp.left; apply Imp.left; exact Imp.refl _))) | (apply EvC.now; exact rfl))); done) | apply ext_num | (focus (repeat (first | apply List.Mem.head | apply List.Mem.tail | apply List.mem_append_right))))); (simp only [List.set_cons_succ, List.set_cons_zero]; exact rfl))
    | ((with_reducible apply wpT1_gpure); (first | (apply GdBy.gt; exact rfl; exact rfl) | (apply GdBy.gf; exact rfl; exact rfl) | (apply GdBy.t; exact rfl; exact rfl) | (apply GdBy.f; exact rfl; exact rfl)); intro K hK; go_simp; refine hK _ ?_; clear hK K; simp only [List.set_cons_succ, List.set_cons_zero])
    | ((with_reducible apply wpT1_pure); exact rfl; intro K hK; go_simp; refine hK _ ?_; clear hK K; simp only [List.set_cons_succ, List.set_cons_zero]))
  refine wpT_nil ?_
  refine wpG_put hR tNum (i := 4) (by kernel_rfl) rfl rfl rfl (by (focus (repeat (first | apply List.Mem.head | apply List.Mem.tail | apply List.mem_append_right)))) (put_num _ _) rfl (by simp [encS]) (one_num _) (by (focus (repeat (first | apply Upd.head | apply Upd.tail)))) (by (focus (repeat (with_reducible first | exact List.Sublist.slnil | exact List.nil_sublist _ | exact List.Sublist.refl _ | exact List.sublist_append_right _ _ | apply List.Sublist.cons_cons | apply List.Sublist.cons | apply sub_right)))) ?_
  clear hR; intro w hR
  refine wpG_end hR (by kernel_rfl) ?_
  clear hR; intro w hR
  go_wp2
  (try simp only [Exit.inBlock, Exit.then])
  exact post_row hR rfl (by rfl) (by (focus (repeat (first | apply List.Mem.head | apply List.Mem.tail | apply List.mem_append_right)))) Try.underlying36 rfl iNum (by rfl) (by rfl) ⟨rfl, hR.below⟩
theorem step_any (nm : Nat) (h1 : 63 ≤ nm) (h2 : nm ≤ 69) (x : NumS) (h : x.ok) (w : World) :
    Calls Try.prog 14 #[.agg (encS x), .int .i64 nm] w fun e w' => e = .returned (.agg (encS (stepS nm x))) ∧ Below w.heap.size w w' := by
  rcases (by omega : nm = 63 ∨ nm = 64 ∨ nm = 65 ∨ nm = 66 ∨ nm = 67 ∨ nm = 68 ∨ nm = 69) with rfl | rfl | rfl | rfl | rfl | rfl | rfl
  · exact step_63 x h w
  · exact step_64 x h w
  · exact step_65 x h w
  · exact step_66 x h w
  · exact step_67 x h w
  · exact step_68 x h w
  · exact step_69 x h w
theorem turns_at (name : Int) (w : World) (h : 63 ≤ name ∧ name ≤ 66) :
    Calls Try.prog 11 #[.int .i64 name] w fun e w' => e = .returned (.bool true) ∧ w = w' := by
  rcases (by omega : name = 63 ∨ name = 64 ∨ name = 65 ∨ name = 66) with rfl | rfl | rfl | rfl <;>
    (go_enter Try.func11, Try.ntmps11
     go_wp2
     go_ret
     exact ⟨rfl, rfl⟩)
theorem shifts_at (name : Int) (w : World) (h : 67 ≤ name ∧ name ≤ 69) :
    Calls Try.prog 12 #[.int .i64 name] w fun e w' => e = .returned (.bool true) ∧ w = w' := by
  rcases (by omega : name = 67 ∨ name = 68 ∨ name = 69) with rfl | rfl | rfl <;>
    (go_enter Try.func12, Try.ntmps12
     go_wp2
     go_ret
     exact ⟨rfl, rfl⟩)
theorem turns_no (name : Int) (w : World) (h : ¬ (63 ≤ name ∧ name ≤ 66)) :
    Calls Try.prog 11 #[.int .i64 name] w fun e w' => e = .returned (.bool false) ∧ w = w' := by
  obtain ⟨h1, h2, h3, h4⟩ : name ≠ 63 ∧ name ≠ 64 ∧ name ≠ 65 ∧ name ≠ 66 := by omega
  go_enter Try.func11, Try.ntmps11
  go_wp2
  go_ret
  exact ⟨rfl, rfl⟩
theorem shifts_no (name : Int) (w : World) (h : ¬ (67 ≤ name ∧ name ≤ 69)) :
    Calls Try.prog 12 #[.int .i64 name] w fun e w' => e = .returned (.bool false) ∧ w = w' := by
  obtain ⟨h1, h2, h3⟩ : name ≠ 67 ∧ name ≠ 68 ∧ name ≠ 69 := by omega
  go_enter Try.func12, Try.ntmps12
  go_wp2
  go_ret
  exact ⟨rfl, rfl⟩
theorem shiftDo_not (name : Int) (v n was : Nat) (wide : Bool) (w : World) (h : ¬ (63 ≤ name ∧ name ≤ 69)) (hv : v ≤ 65535) (hn : n ≤ 255) (hw : was ≤ 65535) :
    Calls Try.prog 6 #[.int .i64 name, .int .u16 v, .int .u8 n, .int .u16 was, .bool wide] w fun e w' => e = .returned (.tuple #[.int .u16 0, .int .u16 0, .bool false]) ∧ Below w.heap.size w w' := by
  have hR := Own.start w
  go_enter Try.func6, Try.ntmps6
  go_wp2_with (first
    | (go_at_call 11; refine (turns_no _ _ (by omega)).mono ?_; rintro e w' ⟨rfl, rfl⟩)
    | (go_at_call 12; refine (shifts_no _ _ (by omega)).mono ?_; rintro e w' ⟨rfl, rfl⟩))
  go_ret3
  exact ⟨rfl, hR.below⟩
theorem k_next {k : Nat} (h : k < 255) : IntKind.u8.wrap ((k : Int) + 1) = ((k + 1 : Nat) : Int) := by rw [IntKind.wrap_u8]; omega
theorem ret_sh {a b : Nat} {c d : Int} (h : a = b) (h' : c = d) : Ending.returned (.tuple #[.int .u16 (a : Int), .int .u16 c, .bool true]) = .returned (.tuple #[.int .u16 (b : Int), .int .u16 d, .bool true]) := by rw [h, h']
theorem bNumC (x : NumS) {z : Int} {b : Bool} (hz : z = x.v) (hb : b = x.c) : Built Try.prog 36 [(0, .int .u16 z), (1, .bool b), (2, .bool x.wide)] (encS x) := by subst hz hb; exact bNum _ _ _
theorem it_wide {nm : Nat} (h1 : 63 ≤ nm) (h2 : nm ≤ 69) (wide : Bool) {v : Nat} (n was : Nat) (h : v ≤ 65535) : (itS nm n (fromS wide v was)).wide = wide := (it_same h1 h2 (from_ok wide was h) n).1
theorem signs_at (nm : Nat) (wide : Bool) {v : Nat} (n was : Nat) (w : World) (h1 : 63 ≤ nm) (h2 : nm ≤ 69) (h : v ≤ 65535) :
    Calls Try.prog 17 #[.int .u16 ((itS nm n (fromS wide v was)).v : Int), .bool wide] w fun e w' => e = .returned (.int .u16 (signsN wide (shV nm wide v n was) : Nat)) ∧ w = w' := by
  have hok := it_ok h1 h2 (from_ok wide was h) n
  have hw := it_wide h1 h2 wide n was h
  unfold NumS.ok at hok
  rw [hw] at hok
  have := topN_le wide
  rw [← value_same h1 h2 wide n was h]
  exact signs_any _ _ _ (by omega)
set_option maxHeartbeats 4000000 in
set_option maxRecDepth 100000 in
theorem shiftDo_turn (nm v n was : Nat) (wide : Bool) (w0 : World) (h1 : 63 ≤ nm) (h2 : nm ≤ 66) (hv : v ≤ 65535) (hn : n ≤ 255) (hw : was ≤ 65535) :
    Calls Try.prog 6 #[.int .i64 nm, .int .u16 v, .int .u8 n, .int .u16 was, .bool wide] w0 fun e w' => e = .returned (.tuple #[.int .u16 (shV nm wide v n was : Nat), .int .u16 (shF nm wide v n was), .bool true]) ∧ Below w0.heap.size w0 w' := by
  have hR := Own.start w0
  have hok := from_ok wide was hv
  have HC := Lib.hid (c_num hw)
  by_cases hn0 : n = 0
  · subst hn0
    go_enter Try.func6, Try.ntmps6
    go_wp2_with (first
    | ((with_reducible apply q_ls hR); exact rfl; ((with_reducible first | apply t_addr (fNum _ (by decide)) | apply t_one tWordD | apply t_one tBoolD | apply t_part tNum) <;> (first | (apply EvC.gv; exact rfl; (with_reducible first | exact Imp.refl _ | (apply Imp.left; exact Imp.refl _) | (apply Imp.right; exact Imp.refl _) | (apply Imp.left; apply Imp.left; exact Imp.refl _))) | (apply EvC.now; exact rfl) | exact rfl | (with_reducible exact EvAll.nil) | (focus (repeat (first | apply EvAll.cons | exact EvAll.nil | (apply EvC.gv; exact rfl; (with_reducible first | exact Imp.refl _ | (apply Imp.left; exact Imp.refl _) | (apply Imp.right; exact Imp.refl _) | (apply Imp.left; apply Imp.left; exact Imp.refl _))) | (apply EvC.now; exact rfl))); done) | apply ext_num | (focus (repeat (first | apply List.Mem.head | apply List.Mem.tail | apply List.mem_append_right))))); (simp only [List.set_cons_succ, List.set_cons_zero]; exact rfl); clear hR; intro w hR)
    | ((with_reducible apply wpList_box hR); exact rfl; exact rfl; clear hR; intro g w hR; simp only [List.set_cons_succ, List.set_cons_zero])
    | ((with_reducible apply wpList_make hR zNum); exact rfl; clear hR; intro g w hR; simp only [List.set_cons_succ, List.set_cons_zero])
    | ((with_reducible apply wpList_put hR tNum); exact rfl; exact rfl; exact rfl; (focus (repeat (first | apply List.Mem.head | apply List.Mem.tail | apply List.mem_append_right))); apply put_num; exact rfl; simp [encS]; apply one_num; (focus (repeat (first | apply Upd.head | apply Upd.tail))); clear hR; intro w hR)
    | (go_at_call 11; refine (turns_at _ _ (by omega)).mono ?_; rintro e w' ⟨rfl, rfl⟩)
    | (go_at_call 13; refine (cut_any _ _ _ hv).mono ?_; rintro e w' ⟨rfl, rfl⟩)
    | ((with_reducible apply wpList_built); exact rfl; exact rfl; exact bNumC (fromS wide v was) rfl HC.out; (simp only [List.set_cons_succ, List.set_cons_zero]; exact rfl)))
    go_ret3
    exact ⟨rfl, hR.below⟩
  · go_enter Try.func6, Try.ntmps6
    go_upto_region 6 with (first
    | ((with_reducible apply wpList_make hR zNum); exact rfl; clear hR; intro g1 w hR; simp only [List.set_cons_succ, List.set_cons_zero])
    | ((with_reducible apply q_ls hR); exact rfl; ((with_reducible first | apply t_addr (fNum _ (by decide)) | apply t_one tWordD | apply t_one tBoolD | apply t_part tNum) <;> (first | (apply EvC.gv; exact rfl; (with_reducible first | exact Imp.refl _ | (apply Imp.left; exact Imp.refl _) | (apply Imp.right; exact Imp.refl _) | (apply Imp.left; apply Imp.left; exact Imp.refl _))) | (apply EvC.now; exact rfl) | exact rfl | (with_reducible exact EvAll.nil) | (focus (repeat (first | apply EvAll.cons | exact EvAll.nil | (apply EvC.gv; exact rfl; (with_reducible first | exact Imp.refl _ | (apply Imp.left; exact Imp.refl _) | (apply Imp.right; exact Imp.refl _) | (apply Imp.left; apply Imp.left; exact Imp.refl _))) | (apply EvC.now; exact rfl))); done) | apply ext_num | (focus (repeat (first | apply List.Mem.head | apply List.Mem.tail | apply List.mem_append_right))))); (simp only [List.set_cons_succ, List.set_cons_zero]; exact rfl); clear hR; intro w hR)
    | ((with_reducible apply wpList_box hR); exact rfl; exact rfl; clear hR; intro g w hR; simp only [List.set_cons_succ, List.set_cons_zero])
    | ((with_reducible apply wpList_make hR zNum); exact rfl; clear hR; intro g w hR; simp only [List.set_cons_succ, List.set_cons_zero])
    | ((with_reducible apply wpList_put hR tNum); exact rfl; exact rfl; exact rfl; (focus (repeat (first | apply List.Mem.head | apply List.Mem.tail | apply List.mem_append_right))); apply put_num; exact rfl; simp [encS]; apply one_num; (focus (repeat (first | apply Upd.head | apply Upd.tail))); clear hR; intro w hR)
    | (go_at_call 11; refine (turns_at _ _ (by omega)).mono ?_; rintro e w' ⟨rfl, rfl⟩)
    | (go_at_call 13; refine (cut_any _ _ _ hv).mono ?_; rintro e w' ⟨rfl, rfl⟩)
    | ((with_reducible apply wpList_built); exact rfl; exact rfl; exact bNumC (fromS wide v was) rfl HC.out; (simp only [List.set_cons_succ, List.set_cons_zero]; exact rfl)))
    go_wp2_with (first
    | ((with_reducible apply wpList_make hR zNum); exact rfl; clear hR; intro g2 w hR; simp only [List.set_cons_succ, List.set_cons_zero]))
    go_loopw [39] (fun vk wr => ∃ k : Nat, k ≤ n ∧ vk = .int .u8 k ∧ Own w0 wr [(g2, encS (agoS nm k (fromS wide v was)), 36), (g1, encS (itS nm k (fromS wide v was)), 36)]) (fun vk _ => n - (intOf vk).toNat)
    case atStart => exact ⟨0, by omega, rfl, hR⟩
    case round =>
      clear hR
      obtain ⟨k, hk, rfl, hR⟩ := hrel
      by_cases hlt : k < n
      · go_upto_region 9 with fail
        refine wp_region_some hR [] (by (focus (repeat (with_reducible first | exact List.Sublist.slnil | exact List.nil_sublist _ | exact List.Sublist.refl _ | exact List.sublist_append_right _ _ | apply List.Sublist.cons_cons | apply List.Sublist.cons | apply sub_right)))) [2] 5 (by kernel_rfl) (by kernel_rfl) (by kernel_rfl) rfl ?_
        clear hR; intro hR
        refine wpT_step rfl ?_
        first
    | ((first | (with_reducible apply q_pl) | ((with_reducible apply q_gd); (first | (apply GdBy.gt; exact rfl; exact rfl) | (apply GdBy.gf; exact rfl; exact rfl) | (apply GdBy.t; exact rfl; exact rfl) | (apply GdBy.f; exact rfl; exact rfl)))); (first | ((with_reducible first | apply t_move | apply t_assign | apply t_and | apply t_or | apply t_cmp | apply t_not | apply t_addr (fNum _ (by decide)) | apply t_one tWordD | apply t_one tBoolD | apply t_part tNum) <;> (first | (apply EvC.gv; exact rfl; (with_reducible first | exact Imp.refl _ | (apply Imp.left; exact Imp.refl _) | (apply Imp.right; exact Imp.refl _) | (apply Imp.left; apply Imp.left; exact Imp.refl _))) | (apply EvC.now; exact rfl) | exact rfl | (with_reducible exact EvAll.nil) | (focus (repeat (first | apply EvAll.cons | exact EvAll.nil | (apply EvC.gv; exact rfl; (with_reducible first | exact Imp.refl _ | (apply Imp.left; exact Imp.refl _) | (apply Imp.right; exact Imp.refl _) | (apply Imp.left; apply Imp.left; exact Imp.refl _))) | (apply EvC.now; exact rfl))); done) | apply ext_num | (focus (repeat (first | apply List.Mem.head | apply List.Mem.tail | apply List.mem_append_right)))))); (simp only [List.set_cons_succ, List.set_cons_zero]; exact rfl))
        refine wpT_nil ?_
        refine wpG_two hR (i := 0) (j := 1) (by kernel_rfl) ?_ ?_
        · clear hR; intro w hR
          refine opQ hR rfl rfl (t_part tNum (EvC.now rfl) (by (focus (repeat (first | apply List.Mem.head | apply List.Mem.tail | apply List.mem_append_right)))) (ext_num _) rfl) (by (simp only [List.set_cons_succ, List.set_cons_zero]; exact rfl)) ?_
          clear hR; intro w hR
          refine ⟨hR.drop (by (focus (repeat (with_reducible first | exact List.Sublist.slnil | exact List.nil_sublist _ | exact List.Sublist.refl _ | exact List.sublist_append_right _ _ | apply List.Sublist.cons_cons | apply List.Sublist.cons | apply sub_right)))), ?_⟩
          refine wpG_q hR (i := 1) (by kernel_rfl) rfl rfl (t_part tNum (EvC.now rfl) (by (focus (repeat (first | apply List.Mem.head | apply List.Mem.tail | apply List.mem_append_right)))) (ext_num _) rfl) (by (simp only [List.set_cons_succ, List.set_cons_zero]; exact rfl)) (by (focus (repeat (with_reducible first | exact List.Sublist.slnil | exact List.nil_sublist _ | exact List.Sublist.refl _ | exact List.sublist_append_right _ _ | apply List.Sublist.cons_cons | apply List.Sublist.cons | apply sub_right)))) ?_
          clear hR; intro w hR
          refine wpG_callO hR (i := 3) (by kernel_rfl) Try.call14 rfl rfl rfl ?_
          clear hR; intro w hR
          refine (step_any nm (by omega) (by omega) _ (it_ok (by omega) (by omega) hok k) _).mono ?_
          rintro en w' ⟨rfl, hb⟩
          replace hR := hR.grow hb
          clear hb
          refine ⟨_, rfl, hR.drop (by (focus (repeat (with_reducible first | exact List.Sublist.slnil | exact List.nil_sublist _ | exact List.Sublist.refl _ | exact List.sublist_append_right _ _ | apply List.Sublist.cons_cons | apply List.Sublist.cons | apply sub_right)))), ?_⟩
          simp only [List.set_cons_succ, List.set_cons_zero]
          refine wpG_put hR tNum (i := 4) (by kernel_rfl) rfl rfl rfl (by (focus (repeat (first | apply List.Mem.head | apply List.Mem.tail | apply List.mem_append_right)))) (put_num _ _) rfl (by simp [encS]) (one_num _) (by (focus (repeat (first | apply Upd.head | apply Upd.tail)))) (by (focus (repeat (with_reducible first | exact List.Sublist.slnil | exact List.nil_sublist _ | exact List.Sublist.refl _ | exact List.sublist_append_right _ _ | apply List.Sublist.cons_cons | apply List.Sublist.cons | apply sub_right)))) ?_
          clear hR; intro w hR
          refine wpG_put hR tNum (i := 5) (by kernel_rfl) rfl rfl rfl (by (focus (repeat (first | apply List.Mem.head | apply List.Mem.tail | apply List.mem_append_right)))) (put_num _ _) rfl (by simp [encS]) (one_num _) (by (focus (repeat (first | apply Upd.head | apply Upd.tail)))) (by (focus (repeat (with_reducible first | exact List.Sublist.slnil | exact List.nil_sublist _ | exact List.Sublist.refl _ | exact List.sublist_append_right _ _ | apply List.Sublist.cons_cons | apply List.Sublist.cons | apply sub_right)))) ?_
          clear hR; intro w hR
          refine wpG_end hR (by kernel_rfl) ?_
          clear hR; intro w hR
          go_wp2
          go_roundw
          case rel => exact ⟨k + 1, by omega, val_int (by omega), hR⟩
          case measure => simp [intOf]; omega
        · clear hR; intro w hR
          refine opQ hR rfl rfl (t_part tNum (EvC.now rfl) (by (focus (repeat (first | apply List.Mem.head | apply List.Mem.tail | apply List.mem_append_right)))) (ext_num _) rfl) (by (simp only [List.set_cons_succ, List.set_cons_zero]; exact rfl)) ?_
          clear hR; intro w hR
          refine ⟨hR.drop (by (focus (repeat (with_reducible first | exact List.Sublist.slnil | exact List.nil_sublist _ | exact List.Sublist.refl _ | exact List.sublist_append_right _ _ | apply List.Sublist.cons_cons | apply List.Sublist.cons | apply sub_right)))), ?_⟩
          refine wpG_two hR (i := 0) (j := 3) (by kernel_rfl) ?_ ?_
          · clear hR; intro w hR
            refine opQ hR rfl rfl (t_part tNum (EvC.now rfl) (by (focus (repeat (first | apply List.Mem.head | apply List.Mem.tail | apply List.mem_append_right)))) (ext_num _) rfl) (by (simp only [List.set_cons_succ, List.set_cons_zero]; exact rfl)) ?_
            clear hR; intro w hR
            refine ⟨hR.drop (by (focus (repeat (with_reducible first | exact List.Sublist.slnil | exact List.nil_sublist _ | exact List.Sublist.refl _ | exact List.sublist_append_right _ _ | apply List.Sublist.cons_cons | apply List.Sublist.cons | apply sub_right)))), ?_⟩
            refine wpG_callO hR (i := 3) (by kernel_rfl) Try.call14 rfl rfl rfl ?_
            clear hR; intro w hR
            refine (step_any nm (by omega) (by omega) _ (it_ok (by omega) (by omega) hok k) _).mono ?_
            rintro en w' ⟨rfl, hb⟩
            replace hR := hR.grow hb
            clear hb
            refine ⟨_, rfl, hR.drop (by (focus (repeat (with_reducible first | exact List.Sublist.slnil | exact List.nil_sublist _ | exact List.Sublist.refl _ | exact List.sublist_append_right _ _ | apply List.Sublist.cons_cons | apply List.Sublist.cons | apply sub_right)))), ?_⟩
            simp only [List.set_cons_succ, List.set_cons_zero]
            refine wpG_put hR tNum (i := 4) (by kernel_rfl) rfl rfl rfl (by (focus (repeat (first | apply List.Mem.head | apply List.Mem.tail | apply List.mem_append_right)))) (put_num _ _) rfl (by simp [encS]) (one_num _) (by (focus (repeat (first | apply Upd.head | apply Upd.tail)))) (by (focus (repeat (with_reducible first | exact List.Sublist.slnil | exact List.nil_sublist _ | exact List.Sublist.refl _ | exact List.sublist_append_right _ _ | apply List.Sublist.cons_cons | apply List.Sublist.cons | apply sub_right)))) ?_
            clear hR; intro w hR
            refine wpG_put hR tNum (i := 5) (by kernel_rfl) rfl rfl rfl (by (focus (repeat (first | apply List.Mem.head | apply List.Mem.tail | apply List.mem_append_right)))) (put_num _ _) rfl (by simp [encS]) (one_num _) (by (focus (repeat (first | apply Upd.head | apply Upd.tail)))) (by (focus (repeat (with_reducible first | exact List.Sublist.slnil | exact List.nil_sublist _ | exact List.Sublist.refl _ | exact List.sublist_append_right _ _ | apply List.Sublist.cons_cons | apply List.Sublist.cons | apply sub_right)))) ?_
            clear hR; intro w hR
            refine wpG_end hR (by kernel_rfl) ?_
            clear hR; intro w hR
            go_wp2
            go_roundw
            case rel => exact ⟨k + 1, by omega, val_int (by omega), hR⟩
            case measure => simp [intOf]; omega
          · clear hR; intro w hR
            refine opCallO hR Try.call14 rfl rfl rfl ?_
            refine (step_any nm (by omega) (by omega) _ (it_ok (by omega) (by omega) hok k) _).mono ?_
            rintro en w' ⟨rfl, hb⟩
            replace hR := hR.grow hb
            clear hb
            refine ⟨_, rfl, hR.drop (by (focus (repeat (with_reducible first | exact List.Sublist.slnil | exact List.nil_sublist _ | exact List.Sublist.refl _ | exact List.sublist_append_right _ _ | apply List.Sublist.cons_cons | apply List.Sublist.cons | apply sub_right)))), ?_⟩
            simp only [List.set_cons_succ, List.set_cons_zero]
            refine wpG_q hR (i := 0) (by kernel_rfl) rfl rfl (t_part tNum (EvC.now rfl) (by (focus (repeat (first | apply List.Mem.head | apply List.Mem.tail | apply List.mem_append_right)))) (ext_num _) rfl) (by (simp only [List.set_cons_succ, List.set_cons_zero]; exact rfl)) (by (focus (repeat (with_reducible first | exact List.Sublist.slnil | exact List.nil_sublist _ | exact List.Sublist.refl _ | exact List.sublist_append_right _ _ | apply List.Sublist.cons_cons | apply List.Sublist.cons | apply sub_right)))) ?_
            clear hR; intro w hR
            refine wpG_put hR tNum (i := 4) (by kernel_rfl) rfl rfl rfl (by (focus (repeat (first | apply List.Mem.head | apply List.Mem.tail | apply List.mem_append_right)))) (put_num _ _) rfl (by simp [encS]) (one_num _) (by (focus (repeat (first | apply Upd.head | apply Upd.tail)))) (by (focus (repeat (with_reducible first | exact List.Sublist.slnil | exact List.nil_sublist _ | exact List.Sublist.refl _ | exact List.sublist_append_right _ _ | apply List.Sublist.cons_cons | apply List.Sublist.cons | apply sub_right)))) ?_
            clear hR; intro w hR
            refine wpG_put hR tNum (i := 5) (by kernel_rfl) rfl rfl rfl (by (focus (repeat (first | apply List.Mem.head | apply List.Mem.tail | apply List.mem_append_right)))) (put_num _ _) rfl (by simp [encS]) (one_num _) (by (focus (repeat (first | apply Upd.head | apply Upd.tail)))) (by (focus (repeat (with_reducible first | exact List.Sublist.slnil | exact List.nil_sublist _ | exact List.Sublist.refl _ | exact List.sublist_append_right _ _ | apply List.Sublist.cons_cons | apply List.Sublist.cons | apply sub_right)))) ?_
            clear hR; intro w hR
            refine wpG_end hR (by kernel_rfl) ?_
            clear hR; intro w hR
            go_wp2
            go_roundw
            case rel => exact ⟨k + 1, by omega, val_int (by omega), hR⟩
            case measure => simp [intOf]; omega
      · have e : k = n := by omega
        subst e
        have HA := Lib.hid (it_ok (by omega : 63 ≤ nm) (by omega) hok k)
        have HB := Lib.hid (ago_ok (by omega : 63 ≤ nm) (by omega) hok k)
        have HV := Lib.hid (value_same (by omega : 63 ≤ nm) (by omega) wide k was hv)
        have HS := Lib.hid (fun w => signs_at nm wide k was w (by omega) (by omega) hv)
        go_upto_region 11 with fail
        refine wp_region_rows hR [0, 1, 2, 3, 4, 5, 6, 7, 8, 9, 10] 0 (by kernel_rfl) (by kernel_rfl) (by kernel_rfl) rfl ?_
        clear hR; intro hR
        repeat (refine wpT_step rfl ?_; first
    | ((first | (with_reducible apply q_pl) | ((with_reducible apply q_gd); (first | (apply GdBy.gt; exact rfl; exact rfl) | (apply GdBy.gf; exact rfl; exact rfl) | (apply GdBy.t; exact rfl; exact rfl) | (apply GdBy.f; exact rfl; exact rfl)))); ((with_reducible apply t_neqb Try.underlying4) <;> (first | (apply EvC.gv; exact rfl; (with_reducible first | exact Imp.refl _ | (apply Imp.left; exact Imp.refl _) | (apply Imp.right; exact Imp.refl _) | (apply Imp.left; apply Imp.left; exact Imp.refl _))) | (apply EvC.now; exact rfl) | exact rfl | (with_reducible exact EvAll.nil) | (focus (repeat (first | apply EvAll.cons | exact EvAll.nil | (apply EvC.gv; exact rfl; (with_reducible first | exact Imp.refl _ | (apply Imp.left; exact Imp.refl _) | (apply Imp.right; exact Imp.refl _) | (apply Imp.left; apply Imp.left; exact Imp.refl _))) | (apply EvC.now; exact rfl))); done) | apply ext_num | (focus (repeat (first | apply List.Mem.head | apply List.Mem.tail | apply List.mem_append_right))))); (simp only [List.set_cons_succ, List.set_cons_zero]; exact rfl))
    | ((first | (with_reducible apply q_pl) | ((with_reducible apply q_gd); (first | (apply GdBy.gt; exact rfl; exact rfl) | (apply GdBy.gf; exact rfl; exact rfl) | (apply GdBy.t; exact rfl; exact rfl) | (apply GdBy.f; exact rfl; exact rfl)))); (first | ((with_reducible first | apply t_move | apply t_assign | apply t_and | apply t_or | apply t_cmp | apply t_not | apply t_addr (fNum _ (by decide)) | apply t_one tWordD | apply t_one tBoolD | apply t_part tNum) <;> (first | (apply EvC.gv; exact rfl; (with_reducible first | exact Imp.refl _ | (apply Imp.left; exact Imp.refl _) | (apply Imp.right; exact Imp.refl _) | (apply Imp.left; apply Imp.left; exact Imp.refl _))) | (apply EvC.now; exact rfl) | exact rfl | (with_reducible exact EvAll.nil) | (focus (repeat (first | apply EvAll.cons | exact EvAll.nil | (apply EvC.gv; exact rfl; (with_reducible first | exact Imp.refl _ | (apply Imp.left; exact Imp.refl _) | (apply Imp.right; exact Imp.refl _) | (apply Imp.left; apply Imp.left; exact Imp.refl _))) | (apply EvC.now; exact rfl))); done) | apply ext_num | (focus (repeat (first | apply List.Mem.head | apply List.Mem.tail | apply List.mem_append_right)))))); (simp only [List.set_cons_succ, List.set_cons_zero]; exact rfl))
    | ((first | (with_reducible apply q_pl) | ((with_reducible apply q_gd); (first | (apply GdBy.gt; exact rfl; exact rfl) | (apply GdBy.gf; exact rfl; exact rfl) | (apply GdBy.t; exact rfl; exact rfl) | (apply GdBy.f; exact rfl; exact rfl)))); (with_reducible apply t_call Try.call15); (first | (apply EvC.gv; exact rfl; (with_reducible first | exact Imp.refl _ | (apply Imp.left; exact Imp.refl _) | (apply Imp.right; exact Imp.refl _) | (apply Imp.left; apply Imp.left; exact Imp.refl _))) | (apply EvC.now; exact rfl) | exact rfl | (with_reducible exact EvAll.nil) | (focus (repeat (first | apply EvAll.cons | exact EvAll.nil | (apply EvC.gv; exact rfl; (with_reducible first | exact Imp.refl _ | (apply Imp.left; exact Imp.refl _) | (apply Imp.right; exact Imp.refl _) | (apply Imp.left; apply Imp.left; exact Imp.refl _))) | (apply EvC.now; exact rfl))); done) | apply ext_num | (focus (repeat (first | apply List.Mem.head | apply List.Mem.tail | apply List.mem_append_right)))); (intro hcc w hC; exact tame_same (setD_any _ _ _) hC); (simp only [List.set_cons_succ, List.set_cons_zero]; exact rfl))
    | ((first | (with_reducible apply q_pl) | ((with_reducible apply q_gd); (first | (apply GdBy.gt; exact rfl; exact rfl) | (apply GdBy.gf; exact rfl; exact rfl) | (apply GdBy.t; exact rfl; exact rfl) | (apply GdBy.f; exact rfl; exact rfl)))); (with_reducible apply t_call Try.call16); (first | (apply EvC.gv; exact rfl; (with_reducible first | exact Imp.refl _ | (apply Imp.left; exact Imp.refl _) | (apply Imp.right; exact Imp.refl _) | (apply Imp.left; apply Imp.left; exact Imp.refl _))) | (apply EvC.now; exact rfl) | exact rfl | (with_reducible exact EvAll.nil) | (focus (repeat (first | apply EvAll.cons | exact EvAll.nil | (apply EvC.gv; exact rfl; (with_reducible first | exact Imp.refl _ | (apply Imp.left; exact Imp.refl _) | (apply Imp.right; exact Imp.refl _) | (apply Imp.left; apply Imp.left; exact Imp.refl _))) | (apply EvC.now; exact rfl))); done) | apply ext_num | (focus (repeat (first | apply List.Mem.head | apply List.Mem.tail | apply List.mem_append_right)))); (intro hcc w hC; (with_reducible first | exact tame_below (upper_any _ HA.out _) hC | exact tame_below (upper_any _ HB.out _) hC)); (simp only [List.set_cons_succ, List.set_cons_zero]; exact rfl))
    | ((with_reducible apply q_gd); (first | (apply GdBy.gt; exact rfl; exact rfl) | (apply GdBy.gf; exact rfl; exact rfl) | (apply GdBy.t; exact rfl; exact rfl) | (apply GdBy.f; exact rfl; exact rfl)); ((with_reducible apply t_num) <;> (first | (apply EvC.gv; exact rfl; (with_reducible first | exact Imp.refl _ | (apply Imp.left; exact Imp.refl _) | (apply Imp.right; exact Imp.refl _) | (apply Imp.left; apply Imp.left; exact Imp.refl _))) | (apply EvC.now; exact rfl) | exact rfl | (with_reducible exact EvAll.nil) | (focus (repeat (first | apply EvAll.cons | exact EvAll.nil | (apply EvC.gv; exact rfl; (with_reducible first | exact Imp.refl _ | (apply Imp.left; exact Imp.refl _) | (apply Imp.right; exact Imp.refl _) | (apply Imp.left; apply Imp.left; exact Imp.refl _))) | (apply EvC.now; exact rfl))); done) | apply ext_num | (focus (repeat (first | apply List.Mem.head | apply List.Mem.tail | apply List.mem_append_right))))); (simp only [List.set_cons_succ, List.set_cons_zero]; exact rfl))
    | ((with_reducible apply wpT1_gpure); (first | (apply GdBy.gt; exact rfl; exact rfl) | (apply GdBy.gf; exact rfl; exact rfl) | (apply GdBy.t; exact rfl; exact rfl) | (apply GdBy.f; exact rfl; exact rfl)); intro K hK; go_simp; refine hK _ ?_; clear hK K; simp only [List.set_cons_succ, List.set_cons_zero])
    | ((with_reducible apply wpT1_pure); exact rfl; intro K hK; go_simp; refine hK _ ?_; clear hK K; simp only [List.set_cons_succ, List.set_cons_zero]))
        refine wpG_end hR (by kernel_rfl) ?_
        clear hR; intro w hR
        go_wp2_with (first
    | ((with_reducible apply q_ls hR); exact rfl; ((with_reducible first | apply t_addr (fNum _ (by decide)) | apply t_one tWordD | apply t_one tBoolD | apply t_part tNum) <;> (first | (apply EvC.gv; exact rfl; (with_reducible first | exact Imp.refl _ | (apply Imp.left; exact Imp.refl _) | (apply Imp.right; exact Imp.refl _) | (apply Imp.left; apply Imp.left; exact Imp.refl _))) | (apply EvC.now; exact rfl) | exact rfl | (with_reducible exact EvAll.nil) | (focus (repeat (first | apply EvAll.cons | exact EvAll.nil | (apply EvC.gv; exact rfl; (with_reducible first | exact Imp.refl _ | (apply Imp.left; exact Imp.refl _) | (apply Imp.right; exact Imp.refl _) | (apply Imp.left; apply Imp.left; exact Imp.refl _))) | (apply EvC.now; exact rfl))); done) | apply ext_num | (focus (repeat (first | apply List.Mem.head | apply List.Mem.tail | apply List.mem_append_right))))); (simp only [List.set_cons_succ, List.set_cons_zero]; exact rfl); clear hR; intro w hR)
    | ((with_reducible apply wpList_box hR); exact rfl; exact rfl; clear hR; intro g w hR; simp only [List.set_cons_succ, List.set_cons_zero])
    | ((with_reducible apply wpList_make hR zNum); exact rfl; clear hR; intro g w hR; simp only [List.set_cons_succ, List.set_cons_zero])
    | ((with_reducible apply wpList_put hR tNum); exact rfl; exact rfl; exact rfl; (focus (repeat (first | apply List.Mem.head | apply List.Mem.tail | apply List.mem_append_right))); apply put_num; exact rfl; simp [encS]; apply one_num; (focus (repeat (first | apply Upd.head | apply Upd.tail))); clear hR; intro w hR)
    | (go_at_call 11; refine (turns_at _ _ (by omega)).mono ?_; rintro e w' ⟨rfl, rfl⟩)
    | (go_at_call 17; refine (HS.out _).mono ?_; rintro e w' ⟨rfl, rfl⟩))
        go_ret3
        exact ⟨ret_sh HV.out (turn_same h1 h2 hn0 wide hv hw), hR.below⟩
set_option maxHeartbeats 4000000 in
set_option maxRecDepth 100000 in
theorem shiftDo_out (nm v n was : Nat) (wide : Bool) (w0 : World) (h1 : 67 ≤ nm) (h2 : nm ≤ 69) (hv : v ≤ 65535) (hn : n ≤ 255) (hw : was ≤ 65535) :
    Calls Try.prog 6 #[.int .i64 nm, .int .u16 v, .int .u8 n, .int .u16 was, .bool wide] w0 fun e w' => e = .returned (.tuple #[.int .u16 (shV nm wide v n was : Nat), .int .u16 (shF nm wide v n was), .bool true]) ∧ Below w0.heap.size w0 w' := by
  have hR := Own.start w0
  have hok := from_ok wide was hv
  have HC := Lib.hid (c_num hw)
  by_cases hn0 : n = 0
  · subst hn0
    go_enter Try.func6, Try.ntmps6
    go_wp2_with (first
    | ((with_reducible apply q_ls hR); exact rfl; ((with_reducible first | apply t_addr (fNum _ (by decide)) | apply t_one tWordD | apply t_one tBoolD | apply t_part tNum) <;> (first | (apply EvC.gv; exact rfl; (with_reducible first | exact Imp.refl _ | (apply Imp.left; exact Imp.refl _) | (apply Imp.right; exact Imp.refl _) | (apply Imp.left; apply Imp.left; exact Imp.refl _))) | (apply EvC.now; exact rfl) | exact rfl | (with_reducible exact EvAll.nil) | (focus (repeat (first | apply EvAll.cons | exact EvAll.nil | (apply EvC.gv; exact rfl; (with_reducible first | exact Imp.refl _ | (apply Imp.left; exact Imp.refl _) | (apply Imp.right; exact Imp.refl _) | (apply Imp.left; apply Imp.left; exact Imp.refl _))) | (apply EvC.now; exact rfl))); done) | apply ext_num | (focus (repeat (first | apply List.Mem.head | apply List.Mem.tail | apply List.mem_append_right))))); (simp only [List.set_cons_succ, List.set_cons_zero]; exact rfl); clear hR; intro w hR)
    | ((with_reducible apply wpList_box hR); exact rfl; exact rfl; clear hR; intro g w hR; simp only [List.set_cons_succ, List.set_cons_zero])
    | ((with_reducible apply wpList_make hR zNum); exact rfl; clear hR; intro g w hR; simp only [List.set_cons_succ, List.set_cons_zero])
    | ((with_reducible apply wpList_put hR tNum); exact rfl; exact rfl; exact rfl; (focus (repeat (first | apply List.Mem.head | apply List.Mem.tail | apply List.mem_append_right))); apply put_num; exact rfl; simp [encS]; apply one_num; (focus (repeat (first | apply Upd.head | apply Upd.tail))); clear hR; intro w hR)
    | (go_at_call 11; refine (turns_no _ _ (by omega)).mono ?_; rintro e w' ⟨rfl, rfl⟩)
    | (go_at_call 12; refine (shifts_at _ _ (by omega)).mono ?_; rintro e w' ⟨rfl, rfl⟩)
    | (go_at_call 13; refine (cut_any _ _ _ hv).mono ?_; rintro e w' ⟨rfl, rfl⟩)
    | ((with_reducible apply wpList_built); exact rfl; exact rfl; exact bNumC (fromS wide v was) rfl HC.out; (simp only [List.set_cons_succ, List.set_cons_zero]; exact rfl)))
    go_ret3
    exact ⟨rfl, hR.below⟩
  · go_enter Try.func6, Try.ntmps6
    go_upto_region 6 with (first
    | ((with_reducible apply wpList_make hR zNum); exact rfl; clear hR; intro g1 w hR; simp only [List.set_cons_succ, List.set_cons_zero])
    | ((with_reducible apply q_ls hR); exact rfl; ((with_reducible first | apply t_addr (fNum _ (by decide)) | apply t_one tWordD | apply t_one tBoolD | apply t_part tNum) <;> (first | (apply EvC.gv; exact rfl; (with_reducible first | exact Imp.refl _ | (apply Imp.left; exact Imp.refl _) | (apply Imp.right; exact Imp.refl _) | (apply Imp.left; apply Imp.left; exact Imp.refl _))) | (apply EvC.now; exact rfl) | exact rfl | (with_reducible exact EvAll.nil) | (focus (repeat (first | apply EvAll.cons | exact EvAll.nil | (apply EvC.gv; exact rfl; (with_reducible first | exact Imp.refl _ | (apply Imp.left; exact Imp.refl _) | (apply Imp.right; exact Imp.refl _) | (apply Imp.left; apply Imp.left; exact Imp.refl _))) | (apply EvC.now; exact rfl))); done) | apply ext_num | (focus (repeat (first | apply List.Mem.head | apply List.Mem.tail | apply List.mem_append_right))))); (simp only [List.set_cons_succ, List.set_cons_zero]; exact rfl); clear hR; intro w hR)
    | ((with_reducible apply wpList_box hR); exact rfl; exact rfl; clear hR; intro g w hR; simp only [List.set_cons_succ, List.set_cons_zero])
    | ((with_reducible apply wpList_make hR zNum); exact rfl; clear hR; intro g w hR; simp only [List.set_cons_succ, List.set_cons_zero])
    | ((with_reducible apply wpList_put hR tNum); exact rfl; exact rfl; exact rfl; (focus (repeat (first | apply List.Mem.head | apply List.Mem.tail | apply List.mem_append_right))); apply put_num; exact rfl; simp [encS]; apply one_num; (focus (repeat (first | apply Upd.head | apply Upd.tail))); clear hR; intro w hR)
    | (go_at_call 11; refine (turns_no _ _ (by omega)).mono ?_; rintro e w' ⟨rfl, rfl⟩)
    | (go_at_call 12; refine (shifts_at _ _ (by omega)).mono ?_; rintro e w' ⟨rfl, rfl⟩)
    | (go_at_call 13; refine (cut_any _ _ _ hv).mono ?_; rintro e w' ⟨rfl, rfl⟩)
    | ((with_reducible apply wpList_built); exact rfl; exact rfl; exact bNumC (fromS wide v was) rfl HC.out; (simp only [List.set_cons_succ, List.set_cons_zero]; exact rfl)))
    go_wp2_with (first
    | ((with_reducible apply wpList_make hR zNum); exact rfl; clear hR; intro g2 w hR; simp only [List.set_cons_succ, List.set_cons_zero]))
    go_loopw [39] (fun vk wr => ∃ k : Nat, k ≤ n ∧ vk = .int .u8 k ∧ Own w0 wr [(g2, encS (agoS nm k (fromS wide v was)), 36), (g1, encS (itS nm k (fromS wide v was)), 36)]) (fun vk _ => n - (intOf vk).toNat)
    case atStart => exact ⟨0, by omega, rfl, hR⟩
    case round =>
      clear hR
      obtain ⟨k, hk, rfl, hR⟩ := hrel
      by_cases hlt : k < n
      · go_upto_region 9 with fail
        refine wp_region_some hR [] (by (focus (repeat (with_reducible first | exact List.Sublist.slnil | exact List.nil_sublist _ | exact List.Sublist.refl _ | exact List.sublist_append_right _ _ | apply List.Sublist.cons_cons | apply List.Sublist.cons | apply sub_right)))) [2] 5 (by kernel_rfl) (by kernel_rfl) (by kernel_rfl) rfl ?_
        clear hR; intro hR
        refine wpT_step rfl ?_
        first
    | ((first | (with_reducible apply q_pl) | ((with_reducible apply q_gd); (first | (apply GdBy.gt; exact rfl; exact rfl) | (apply GdBy.gf; exact rfl; exact rfl) | (apply GdBy.t; exact rfl; exact rfl) | (apply GdBy.f; exact rfl; exact rfl)))); (first | ((with_reducible first | apply t_move | apply t_assign | apply t_and | apply t_or | apply t_cmp | apply t_not | apply t_addr (fNum _ (by decide)) | apply t_one tWordD | apply t_one tBoolD | apply t_part tNum) <;> (first | (apply EvC.gv; exact rfl; (with_reducible first | exact Imp.refl _ | (apply Imp.left; exact Imp.refl _) | (apply Imp.right; exact Imp.refl _) | (apply Imp.left; apply Imp.left; exact Imp.refl _))) | (apply EvC.now; exact rfl) | exact rfl | (with_reducible exact EvAll.nil) | (focus (repeat (first | apply EvAll.cons | exact EvAll.nil | (apply EvC.gv; exact rfl; (with_reducible first | exact Imp.refl _ | (apply Imp.left; exact Imp.refl _) | (apply Imp.right; exact Imp.refl _) | (apply Imp.left; apply Imp.left; exact Imp.refl _))) | (apply EvC.now; exact rfl))); done) | apply ext_num | (focus (repeat (first | apply List.Mem.head | apply List.Mem.tail | apply List.mem_append_right)))))); (simp only [List.set_cons_succ, List.set_cons_zero]; exact rfl))
        refine wpT_nil ?_
        refine wpG_two hR (i := 0) (j := 1) (by kernel_rfl) ?_ ?_
        · clear hR; intro w hR
          refine opQ hR rfl rfl (t_part tNum (EvC.now rfl) (by (focus (repeat (first | apply List.Mem.head | apply List.Mem.tail | apply List.mem_append_right)))) (ext_num _) rfl) (by (simp only [List.set_cons_succ, List.set_cons_zero]; exact rfl)) ?_
          clear hR; intro w hR
          refine ⟨hR.drop (by (focus (repeat (with_reducible first | exact List.Sublist.slnil | exact List.nil_sublist _ | exact List.Sublist.refl _ | exact List.sublist_append_right _ _ | apply List.Sublist.cons_cons | apply List.Sublist.cons | apply sub_right)))), ?_⟩
          refine wpG_q hR (i := 1) (by kernel_rfl) rfl rfl (t_part tNum (EvC.now rfl) (by (focus (repeat (first | apply List.Mem.head | apply List.Mem.tail | apply List.mem_append_right)))) (ext_num _) rfl) (by (simp only [List.set_cons_succ, List.set_cons_zero]; exact rfl)) (by (focus (repeat (with_reducible first | exact List.Sublist.slnil | exact List.nil_sublist _ | exact List.Sublist.refl _ | exact List.sublist_append_right _ _ | apply List.Sublist.cons_cons | apply List.Sublist.cons | apply sub_right)))) ?_
          clear hR; intro w hR
          refine wpG_callO hR (i := 3) (by kernel_rfl) Try.call14 rfl rfl rfl ?_
          clear hR; intro w hR
          refine (step_any nm (by omega) (by omega) _ (it_ok (by omega) (by omega) hok k) _).mono ?_
          rintro en w' ⟨rfl, hb⟩
          replace hR := hR.grow hb
          clear hb
          refine ⟨_, rfl, hR.drop (by (focus (repeat (with_reducible first | exact List.Sublist.slnil | exact List.nil_sublist _ | exact List.Sublist.refl _ | exact List.sublist_append_right _ _ | apply List.Sublist.cons_cons | apply List.Sublist.cons | apply sub_right)))), ?_⟩
          simp only [List.set_cons_succ, List.set_cons_zero]
          refine wpG_put hR tNum (i := 4) (by kernel_rfl) rfl rfl rfl (by (focus (repeat (first | apply List.Mem.head | apply List.Mem.tail | apply List.mem_append_right)))) (put_num _ _) rfl (by simp [encS]) (one_num _) (by (focus (repeat (first | apply Upd.head | apply Upd.tail)))) (by (focus (repeat (with_reducible first | exact List.Sublist.slnil | exact List.nil_sublist _ | exact List.Sublist.refl _ | exact List.sublist_append_right _ _ | apply List.Sublist.cons_cons | apply List.Sublist.cons | apply sub_right)))) ?_
          clear hR; intro w hR
          refine wpG_put hR tNum (i := 5) (by kernel_rfl) rfl rfl rfl (by (focus (repeat (first | apply List.Mem.head | apply List.Mem.tail | apply List.mem_append_right)))) (put_num _ _) rfl (by simp [encS]) (one_num _) (by (focus (repeat (first | apply Upd.head | apply Upd.tail)))) (by (focus (repeat (with_reducible first | exact List.Sublist.slnil | exact List.nil_sublist _ | exact List.Sublist.refl _ | exact List.sublist_append_right _ _ | apply List.Sublist.cons_cons | apply List.Sublist.cons | apply sub_right)))) ?_
          clear hR; intro w hR
          refine wpG_end hR (by kernel_rfl) ?_
          clear hR; intro w hR
          go_wp2
          go_roundw
          case rel => exact ⟨k + 1, by omega, val_int (by omega), hR⟩
          case measure => simp [intOf]; omega
        · clear hR; intro w hR
          refine opQ hR rfl rfl (t_part tNum (EvC.now rfl) (by (focus (repeat (first | apply List.Mem.head | apply List.Mem.tail | apply List.mem_append_right)))) (ext_num _) rfl) (by (simp only [List.set_cons_succ, List.set_cons_zero]; exact rfl)) ?_
          clear hR; intro w hR
          refine ⟨hR.drop (by (focus (repeat (with_reducible first | exact List.Sublist.slnil | exact List.nil_sublist _ | exact List.Sublist.refl _ | exact List.sublist_append_right _ _ | apply List.Sublist.cons_cons | apply List.Sublist.cons | apply sub_right)))), ?_⟩
          refine wpG_two hR (i := 0) (j := 3) (by kernel_rfl) ?_ ?_
          · clear hR; intro w hR
            refine opQ hR rfl rfl (t_part tNum (EvC.now rfl) (by (focus (repeat (first | apply List.Mem.head | apply List.Mem.tail | apply List.mem_append_right)))) (ext_num _) rfl) (by (simp only [List.set_cons_succ, List.set_cons_zero]; exact rfl)) ?_
            clear hR; intro w hR
            refine ⟨hR.drop (by (focus (repeat (with_reducible first | exact List.Sublist.slnil | exact List.nil_sublist _ | exact List.Sublist.refl _ | exact List.sublist_append_right _ _ | apply List.Sublist.cons_cons | apply List.Sublist.cons | apply sub_right)))), ?_⟩
            refine wpG_callO hR (i := 3) (by kernel_rfl) Try.call14 rfl rfl rfl ?_
            clear hR; intro w hR
            refine (step_any nm (by omega) (by omega) _ (it_ok (by omega) (by omega) hok k) _).mono ?_
            rintro en w' ⟨rfl, hb⟩
            replace hR := hR.grow hb
            clear hb
            refine ⟨_, rfl, hR.drop (by (focus (repeat (with_reducible first | exact List.Sublist.slnil | exact List.nil_sublist _ | exact List.Sublist.refl _ | exact List.sublist_append_right _ _ | apply List.Sublist.cons_cons | apply List.Sublist.cons | apply sub_right)))), ?_⟩
            simp only [List.set_cons_succ, List.set_cons_zero]
            refine wpG_put hR tNum (i := 4) (by kernel_rfl) rfl rfl rfl (by (focus (repeat (first | apply List.Mem.head | apply List.Mem.tail | apply List.mem_append_right)))) (put_num _ _) rfl (by simp [encS]) (one_num _) (by (focus (repeat (first | apply Upd.head | apply Upd.tail)))) (by (focus (repeat (with_reducible first | exact List.Sublist.slnil | exact List.nil_sublist _ | exact List.Sublist.refl _ | exact List.sublist_append_right _ _ | apply List.Sublist.cons_cons | apply List.Sublist.cons | apply sub_right)))) ?_
            clear hR; intro w hR
            refine wpG_put hR tNum (i := 5) (by kernel_rfl) rfl rfl rfl (by (focus (repeat (first | apply List.Mem.head | apply List.Mem.tail | apply List.mem_append_right)))) (put_num _ _) rfl (by simp [encS]) (one_num _) (by (focus (repeat (first | apply Upd.head | apply Upd.tail)))) (by (focus (repeat (with_reducible first | exact List.Sublist.slnil | exact List.nil_sublist _ | exact List.Sublist.refl _ | exact List.sublist_append_right _ _ | apply List.Sublist.cons_cons | apply List.Sublist.cons | apply sub_right)))) ?_
            clear hR; intro w hR
            refine wpG_end hR (by kernel_rfl) ?_
            clear hR; intro w hR
            go_wp2
            go_roundw
            case rel => exact ⟨k + 1, by omega, val_int (by omega), hR⟩
            case measure => simp [intOf]; omega
          · clear hR; intro w hR
            refine opCallO hR Try.call14 rfl rfl rfl ?_
            refine (step_any nm (by omega) (by omega) _ (it_ok (by omega) (by omega) hok k) _).mono ?_
            rintro en w' ⟨rfl, hb⟩
            replace hR := hR.grow hb
            clear hb
            refine ⟨_, rfl, hR.drop (by (focus (repeat (with_reducible first | exact List.Sublist.slnil | exact List.nil_sublist _ | exact List.Sublist.refl _ | exact List.sublist_append_right _ _ | apply List.Sublist.cons_cons | apply List.Sublist.cons | apply sub_right)))), ?_⟩
            simp only [List.set_cons_succ, List.set_cons_zero]
            refine wpG_q hR (i := 0) (by kernel_rfl) rfl rfl (t_part tNum (EvC.now rfl) (by (focus (repeat (first | apply List.Mem.head | apply List.Mem.tail | apply List.mem_append_right)))) (ext_num _) rfl) (by (simp only [List.set_cons_succ, List.set_cons_zero]; exact rfl)) (by (focus (repeat (with_reducible first | exact List.Sublist.slnil | exact List.nil_sublist _ | exact List.Sublist.refl _ | exact List.sublist_append_right _ _ | apply List.Sublist.cons_cons | apply List.Sublist.cons | apply sub_right)))) ?_
            clear hR; intro w hR
            refine wpG_put hR tNum (i := 4) (by kernel_rfl) rfl rfl rfl (by (focus (repeat (first | apply List.Mem.head | apply List.Mem.tail | apply List.mem_append_right)))) (put_num _ _) rfl (by simp [encS]) (one_num _) (by (focus (repeat (first | apply Upd.head | apply Upd.tail)))) (by (focus (repeat (with_reducible first | exact List.Sublist.slnil | exact List.nil_sublist _ | exact List.Sublist.refl _ | exact List.sublist_append_right _ _ | apply List.Sublist.cons_cons | apply List.Sublist.cons | apply sub_right)))) ?_
            clear hR; intro w hR
            refine wpG_put hR tNum (i := 5) (by kernel_rfl) rfl rfl rfl (by (focus (repeat (first | apply List.Mem.head | apply List.Mem.tail | apply List.mem_append_right)))) (put_num _ _) rfl (by simp [encS]) (one_num _) (by (focus (repeat (first | apply Upd.head | apply Upd.tail)))) (by (focus (repeat (with_reducible first | exact List.Sublist.slnil | exact List.nil_sublist _ | exact List.Sublist.refl _ | exact List.sublist_append_right _ _ | apply List.Sublist.cons_cons | apply List.Sublist.cons | apply sub_right)))) ?_
            clear hR; intro w hR
            refine wpG_end hR (by kernel_rfl) ?_
            clear hR; intro w hR
            go_wp2
            go_roundw
            case rel => exact ⟨k + 1, by omega, val_int (by omega), hR⟩
            case measure => simp [intOf]; omega
      · have e : k = n := by omega
        subst e
        have HA := Lib.hid (it_ok (by omega : 63 ≤ nm) (by omega) hok k)
        have HB := Lib.hid (ago_ok (by omega : 63 ≤ nm) (by omega) hok k)
        have HV := Lib.hid (value_same (by omega : 63 ≤ nm) (by omega) wide k was hv)
        have HS := Lib.hid (fun w => signs_at nm wide k was w (by omega) (by omega) hv)
        go_upto_region 11 with fail
        refine wp_region_rows hR [0, 1, 2, 3, 4, 5, 6, 7, 8, 9, 10] 0 (by kernel_rfl) (by kernel_rfl) (by kernel_rfl) rfl ?_
        clear hR; intro hR
        repeat (refine wpT_step rfl ?_; first
    | ((first | (with_reducible apply q_pl) | ((with_reducible apply q_gd); (first | (apply GdBy.gt; exact rfl; exact rfl) | (apply GdBy.gf; exact rfl; exact rfl) | (apply GdBy.t; exact rfl; exact rfl) | (apply GdBy.f; exact rfl; exact rfl)))); ((with_reducible apply t_neqb Try.underlying4) <;> (first | (apply EvC.gv; exact rfl; (with_reducible first | exact Imp.refl _ | (apply Imp.left; exact Imp.refl _) | (apply Imp.right; exact Imp.refl _) | (apply Imp.left; apply Imp.left; exact Imp.refl _))) | (apply EvC.now; exact rfl) | exact rfl | (with_reducible exact EvAll.nil) | (focus (repeat (first | apply EvAll.cons | exact EvAll.nil | (apply EvC.gv; exact rfl; (with_reducible first | exact Imp.refl _ | (apply Imp.left; exact Imp.refl _) | (apply Imp.right; exact Imp.refl _) | (apply Imp.left; apply Imp.left; exact Imp.refl _))) | (apply EvC.now; exact rfl))); done) | apply ext_num | (focus (repeat (first | apply List.Mem.head | apply List.Mem.tail | apply List.mem_append_right))))); (simp only [List.set_cons_succ, List.set_cons_zero]; exact rfl))
    | ((first | (with_reducible apply q_pl) | ((with_reducible apply q_gd); (first | (apply GdBy.gt; exact rfl; exact rfl) | (apply GdBy.gf; exact rfl; exact rfl) | (apply GdBy.t; exact rfl; exact rfl) | (apply GdBy.f; exact rfl; exact rfl)))); (first | ((with_reducible first | apply t_move | apply t_assign | apply t_and | apply t_or | apply t_cmp | apply t_not | apply t_addr (fNum _ (by decide)) | apply t_one tWordD | apply t_one tBoolD | apply t_part tNum) <;> (first | (apply EvC.gv; exact rfl; (with_reducible first | exact Imp.refl _ | (apply Imp.left; exact Imp.refl _) | (apply Imp.right; exact Imp.refl _) | (apply Imp.left; apply Imp.left; exact Imp.refl _))) | (apply EvC.now; exact rfl) | exact rfl | (with_reducible exact EvAll.nil) | (focus (repeat (first | apply EvAll.cons | exact EvAll.nil | (apply EvC.gv; exact rfl; (with_reducible first | exact Imp.refl _ | (apply Imp.left; exact Imp.refl _) | (apply Imp.right; exact Imp.refl _) | (apply Imp.left; apply Imp.left; exact Imp.refl _))) | (apply EvC.now; exact rfl))); done) | apply ext_num | (focus (repeat (first | apply List.Mem.head | apply List.Mem.tail | apply List.mem_append_right)))))); (simp only [List.set_cons_succ, List.set_cons_zero]; exact rfl))
    | ((first | (with_reducible apply q_pl) | ((with_reducible apply q_gd); (first | (apply GdBy.gt; exact rfl; exact rfl) | (apply GdBy.gf; exact rfl; exact rfl) | (apply GdBy.t; exact rfl; exact rfl) | (apply GdBy.f; exact rfl; exact rfl)))); (with_reducible apply t_call Try.call15); (first | (apply EvC.gv; exact rfl; (with_reducible first | exact Imp.refl _ | (apply Imp.left; exact Imp.refl _) | (apply Imp.right; exact Imp.refl _) | (apply Imp.left; apply Imp.left; exact Imp.refl _))) | (apply EvC.now; exact rfl) | exact rfl | (with_reducible exact EvAll.nil) | (focus (repeat (first | apply EvAll.cons | exact EvAll.nil | (apply EvC.gv; exact rfl; (with_reducible first | exact Imp.refl _ | (apply Imp.left; exact Imp.refl _) | (apply Imp.right; exact Imp.refl _) | (apply Imp.left; apply Imp.left; exact Imp.refl _))) | (apply EvC.now; exact rfl))); done) | apply ext_num | (focus (repeat (first | apply List.Mem.head | apply List.Mem.tail | apply List.mem_append_right)))); (intro hcc w hC; exact tame_same (setD_any _ _ _) hC); (simp only [List.set_cons_succ, List.set_cons_zero]; exact rfl))
    | ((first | (with_reducible apply q_pl) | ((with_reducible apply q_gd); (first | (apply GdBy.gt; exact rfl; exact rfl) | (apply GdBy.gf; exact rfl; exact rfl) | (apply GdBy.t; exact rfl; exact rfl) | (apply GdBy.f; exact rfl; exact rfl)))); (with_reducible apply t_call Try.call16); (first | (apply EvC.gv; exact rfl; (with_reducible first | exact Imp.refl _ | (apply Imp.left; exact Imp.refl _) | (apply Imp.right; exact Imp.refl _) | (apply Imp.left; apply Imp.left; exact Imp.refl _))) | (apply EvC.now; exact rfl) | exact rfl | (with_reducible exact EvAll.nil) | (focus (repeat (first | apply EvAll.cons | exact EvAll.nil | (apply EvC.gv; exact rfl; (with_reducible first | exact Imp.refl _ | (apply Imp.left; exact Imp.refl _) | (apply Imp.right; exact Imp.refl _) | (apply Imp.left; apply Imp.left; exact Imp.refl _))) | (apply EvC.now; exact rfl))); done) | apply ext_num | (focus (repeat (first | apply List.Mem.head | apply List.Mem.tail | apply List.mem_append_right)))); (intro hcc w hC; (with_reducible first | exact tame_below (upper_any _ HA.out _) hC | exact tame_below (upper_any _ HB.out _) hC)); (simp only [List.set_cons_succ, List.set_cons_zero]; exact rfl))
    | ((with_reducible apply q_gd); (first | (apply GdBy.gt; exact rfl; exact rfl) | (apply GdBy.gf; exact rfl; exact rfl) | (apply GdBy.t; exact rfl; exact rfl) | (apply GdBy.f; exact rfl; exact rfl)); ((with_reducible apply t_num) <;> (first | (apply EvC.gv; exact rfl; (with_reducible first | exact Imp.refl _ | (apply Imp.left; exact Imp.refl _) | (apply Imp.right; exact Imp.refl _) | (apply Imp.left; apply Imp.left; exact Imp.refl _))) | (apply EvC.now; exact rfl) | exact rfl | (with_reducible exact EvAll.nil) | (focus (repeat (first | apply EvAll.cons | exact EvAll.nil | (apply EvC.gv; exact rfl; (with_reducible first | exact Imp.refl _ | (apply Imp.left; exact Imp.refl _) | (apply Imp.right; exact Imp.refl _) | (apply Imp.left; apply Imp.left; exact Imp.refl _))) | (apply EvC.now; exact rfl))); done) | apply ext_num | (focus (repeat (first | apply List.Mem.head | apply List.Mem.tail | apply List.mem_append_right))))); (simp only [List.set_cons_succ, List.set_cons_zero]; exact rfl))
    | ((with_reducible apply wpT1_gpure); (first | (apply GdBy.gt; exact rfl; exact rfl) | (apply GdBy.gf; exact rfl; exact rfl) | (apply GdBy.t; exact rfl; exact rfl) | (apply GdBy.f; exact rfl; exact rfl)); intro K hK; go_simp; refine hK _ ?_; clear hK K; simp only [List.set_cons_succ, List.set_cons_zero])
    | ((with_reducible apply wpT1_pure); exact rfl; intro K hK; go_simp; refine hK _ ?_; clear hK K; simp only [List.set_cons_succ, List.set_cons_zero]))
        refine wpG_end hR (by kernel_rfl) ?_
        clear hR; intro w hR
        go_wp2_with (first
    | ((with_reducible apply q_ls hR); exact rfl; ((with_reducible first | apply t_addr (fNum _ (by decide)) | apply t_one tWordD | apply t_one tBoolD | apply t_part tNum) <;> (first | (apply EvC.gv; exact rfl; (with_reducible first | exact Imp.refl _ | (apply Imp.left; exact Imp.refl _) | (apply Imp.right; exact Imp.refl _) | (apply Imp.left; apply Imp.left; exact Imp.refl _))) | (apply EvC.now; exact rfl) | exact rfl | (with_reducible exact EvAll.nil) | (focus (repeat (first | apply EvAll.cons | exact EvAll.nil | (apply EvC.gv; exact rfl; (with_reducible first | exact Imp.refl _ | (apply Imp.left; exact Imp.refl _) | (apply Imp.right; exact Imp.refl _) | (apply Imp.left; apply Imp.left; exact Imp.refl _))) | (apply EvC.now; exact rfl))); done) | apply ext_num | (focus (repeat (first | apply List.Mem.head | apply List.Mem.tail | apply List.mem_append_right))))); (simp only [List.set_cons_succ, List.set_cons_zero]; exact rfl); clear hR; intro w hR)
    | ((with_reducible apply wpList_box hR); exact rfl; exact rfl; clear hR; intro g w hR; simp only [List.set_cons_succ, List.set_cons_zero])
    | ((with_reducible apply wpList_make hR zNum); exact rfl; clear hR; intro g w hR; simp only [List.set_cons_succ, List.set_cons_zero])
    | ((with_reducible apply wpList_put hR tNum); exact rfl; exact rfl; exact rfl; (focus (repeat (first | apply List.Mem.head | apply List.Mem.tail | apply List.mem_append_right))); apply put_num; exact rfl; simp [encS]; apply one_num; (focus (repeat (first | apply Upd.head | apply Upd.tail))); clear hR; intro w hR)
    | (go_at_call 11; refine (turns_no _ _ (by omega)).mono ?_; rintro e w' ⟨rfl, rfl⟩)
    | (go_at_call 12; refine (shifts_at _ _ (by omega)).mono ?_; rintro e w' ⟨rfl, rfl⟩)
    | (go_at_call 17; refine (HS.out _).mono ?_; rintro e w' ⟨rfl, rfl⟩))
        go_ret3
        exact ⟨ret_sh HV.out (out_same h1 h2 hn0 wide hv hw), hR.below⟩
theorem shiftDo_any (nm v n was : Nat) (wide : Bool) (w : World) (h1 : 63 ≤ nm) (h2 : nm ≤ 69) (hv : v ≤ 65535) (hn : n ≤ 255) (hw : was ≤ 65535) :
    Calls Try.prog 6 #[.int .i64 nm, .int .u16 v, .int .u8 n, .int .u16 was, .bool wide] w fun e w' => e = .returned (.tuple #[.int .u16 (shV nm wide v n was : Nat), .int .u16 (shF nm wide v n was), .bool true]) ∧ Below w.heap.size w w' := by
  by_cases h : nm ≤ 66
  · exact shiftDo_turn nm v n was wide w h1 h hv hn hw
  · exact shiftDo_out nm v n was wide w (by omega) h2 hv hn hw
end Go.Proofs.Ytcplcjfkehogkaa
