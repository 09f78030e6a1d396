



/- Contracts of code.Put and of the law's awake. No statement of the seat is proved here. -/
import Derived.Test.YtlklfnmhnffmoaaDoorCodeC
import Derived.Test.YtlklfnmhnffmoaaDoorOpen
namespace Go.Proofs.YtlklfnmhnffmoaaDoor
open Go.ChangeShapes Go.WideShapes Go.ChangeAt Go.RowKit
set_option linter.unusedVariables false
set_option linter.unusedSimpArgs false

theorem putN_len (i : InstZ) : (putL i).length = (putN i).length := by rw [putN_cells, cellsB_len]
theorem putN_pos (i : InstZ) : 0 < (putN i).length := by unfold putN; simp; omega
theorem frontN_bd (i : InstZ) (hi : i.ok) (h : mayR i = true) : (putN i).length ≤ 15 := by
  have := put_len i hi
  have := frontZ_bd i i.row
  have := immsZ_bd i.row
  rw [← putN_len]
  omega
/-- A slice of bytes that a call returns, in a new row, and OK. -/
def RetB (w : World) (ns : List Int) (en : Ending) (w' : World) : Prop :=
  ∃ g cur cap, en = .returned (.tuple #[.slice (some ⟨g, 0, none⟩) ns.length cap, .int .i64 0]) ∧ Own w w' [(g, cur, 5)] ∧ SlIs cur ns.length cap (cellsB ns)
theorem SIs.bytes {w0 w : World} {ns : List Int} {m : Nat} {v : Value} (h : SIs w0 (cellsB ns) m [] v w) (hn : 0 < ns.length) : ∃ g cur cap, v = .slice (some ⟨g, 0, none⟩) ns.length cap ∧ Own w0 w [(g, cur, 5)] ∧ SlIs cur ns.length cap (cellsB ns) := by
  obtain ⟨s, n, _, hR, hS⟩ := h
  obtain ⟨g, cap, cur, rfl, h2, h3⟩ := hS.row (by intro e; have := congrArg List.length e; rw [cellsB_len] at this; rw [this] at hn; exact absurd hn (by decide))
  have e : n = ns.length := by have := h3.len; rw [cellsB_len] at this; exact this.symm
  subst e
  exact ⟨g, cur, cap, h2, hR, h3⟩
set_option maxHeartbeats 1000000 in
theorem putC_any (i : InstZ) (hi : i.ok) (hm : mayR i = true) (w0 : World) (hT : Tabs w0) : Calls Tryd.prog 7 #[.agg (encI i)] w0 (RetB w0 (putN i)) := by
  have hR := Own.start w0
  have hmay : ∀ w, Calls Tryd.prog 17 #[.agg (encI i)] w fun e w' => e = .returned (.bool true) ∧ Below w.heap.size w w' := by
    intro w; have := may_any i hi w; rw [may_same i hi, hm] at this; exact this
  have HM := Lib.hid hmay
  have hf := fine_of i hi hm
  clear hm hmay
  go_enter Tryd.func7, Tryd.ntmps7
  go_wp2_with (first
    | ((with_reducible apply wpList_box hR); exact rfl; exact rfl; clear hR; intro gi w hR; simp only [List.set_cons_succ, List.set_cons_zero])
    | ((with_reducible apply q_ls hR); exact rfl; ((with_reducible first | apply t_addr (fInst _ (by decide)) | apply t_addr (fRow _ (by decide)) | apply t_one tInt | apply t_one tWord | apply t_one tByte | apply t_one tBool | apply t_part tInst | apply t_part tRow) <;> (first | (apply EvC.gv; exact rfl; (with_reducible first | exact Imp.refl _ | (apply Imp.left; exact Imp.refl _) | (apply Imp.right; exact Imp.refl _) | (apply Imp.left; apply Imp.left; exact Imp.refl _))) | (apply EvC.now; exact rfl) | exact rfl | (with_reducible exact EvAll.nil) | (focus (repeat (first | apply EvAll.cons | exact EvAll.nil | (apply EvC.gv; exact rfl; (with_reducible first | exact Imp.refl _ | (apply Imp.left; exact Imp.refl _) | (apply Imp.right; exact Imp.refl _) | (apply Imp.left; apply Imp.left; exact Imp.refl _))) | (apply EvC.now; exact rfl))); done) | (first | apply ext_inst | apply ext_row) | (focus (repeat (first | apply List.Mem.head | apply List.Mem.tail | apply List.mem_append_right))))); (simp only [List.set_cons_succ, List.set_cons_zero]; exact rfl); clear hR; intro w hR)
    | ((with_reducible apply wpList_box hR); exact rfl; exact rfl; clear hR; intro g w hR; simp only [List.set_cons_succ, List.set_cons_zero])
    | ((with_reducible apply wpList_make hR zInst); exact rfl; clear hR; intro g w hR; simp only [List.set_cons_succ, List.set_cons_zero])
    | ((with_reducible apply wpList_make hR zRow); exact rfl; clear hR; intro g w hR; simp only [List.set_cons_succ, List.set_cons_zero])
    | ((with_reducible apply wpList_put hR tInst); exact rfl; exact rfl; exact rfl; (focus (repeat (first | apply List.Mem.head | apply List.Mem.tail | apply List.mem_append_right))); apply put_inst; exact rfl; simp [encI]; apply one_inst; (focus (repeat (first | apply Upd.head | apply Upd.tail))); clear hR; intro w hR)
    | ((with_reducible apply wpList_put hR tRow); exact rfl; exact rfl; exact rfl; (focus (repeat (first | apply List.Mem.head | apply List.Mem.tail | apply List.mem_append_right))); apply put_row; exact rfl; simp [encR]; apply one_row; (focus (repeat (first | apply Upd.head | apply Upd.tail))); clear hR; intro w hR)
    | ((with_reducible apply wpList_built); exact rfl; exact rfl; (first | exact bInst1 _ | exact bInst2 _ _ | exact bInst3 _ _ | exact bRow0); (simp only [List.set_cons_succ, List.set_cons_zero]; exact rfl))
    | (go_at_call 17; refine (HM.out _).mono ?_; rintro e w' ⟨rfl, hb⟩; replace hR := hR.grow hb; clear hb)
    | (go_at_call 18; refine (whole_any i hf hT hR (Les.none _) (Sl.nil _ _) (by decide)).mono ?_; rintro e w' ⟨v1, rfl, HS⟩; clear hR))
  go_ret2
  obtain ⟨s, n, hn, hR2, hS⟩ := HS
  have H : SIs w0 (cellsB (putN i)) 15 [] v1 w' := ⟨s, n, hn, hR2.drop (List.Sublist.append (List.Sublist.refl _) (by (focus (repeat (with_reducible first | exact List.Sublist.slnil | exact List.nil_sublist _ | exact List.Sublist.refl _ | exact List.sublist_append_right _ _ | apply List.Sublist.cons_cons | apply List.Sublist.cons | apply sub_right))))), hS.cast (by rw [← putN_cells]; rfl)⟩
  obtain ⟨g, cur, cap, rfl, h2, h3⟩ := H.bytes (putN_pos i)
  exact ⟨g, cur, cap, rfl, h2, h3⟩
set_option maxHeartbeats 1000000 in
theorem putC_bad (i : InstZ) (hi : i.ok) (hm : mayR i = false) (w0 : World) : Calls Tryd.prog 7 #[.agg (encI i)] w0 fun e w' => e = .returned (.tuple #[.slice none 0 0, .int .i64 1]) ∧ Below w0.heap.size w0 w' := by
  have hR := Own.start w0
  have hmay : ∀ w, Calls Tryd.prog 17 #[.agg (encI i)] w fun e w' => e = .returned (.bool false) ∧ Below w.heap.size w w' := by
    intro w; have := may_any i hi w; rw [may_same i hi, hm] at this; exact this
  have HM := Lib.hid hmay
  clear hm hmay
  go_enter Tryd.func7, Tryd.ntmps7
  go_wp2_with (first
    | ((with_reducible apply wpList_box hR); exact rfl; exact rfl; clear hR; intro gi w hR; simp only [List.set_cons_succ, List.set_cons_zero])
    | ((with_reducible apply q_ls hR); exact rfl; ((with_reducible first | apply t_addr (fInst _ (by decide)) | apply t_addr (fRow _ (by decide)) | apply t_one tInt | apply t_one tWord | apply t_one tByte | apply t_one tBool | apply t_part tInst | apply t_part tRow) <;> (first | (apply EvC.gv; exact rfl; (with_reducible first | exact Imp.refl _ | (apply Imp.left; exact Imp.refl _) | (apply Imp.right; exact Imp.refl _) | (apply Imp.left; apply Imp.left; exact Imp.refl _))) | (apply EvC.now; exact rfl) | exact rfl | (with_reducible exact EvAll.nil) | (focus (repeat (first | apply EvAll.cons | exact EvAll.nil | (apply EvC.gv; exact rfl; (with_reducible first | exact Imp.refl _ | (apply Imp.left; exact Imp.refl _) | (apply Imp.right; exact Imp.refl _) | (apply Imp.left; apply Imp.left; exact Imp.refl _))) | (apply EvC.now; exact rfl))); done) | (first | apply ext_inst | apply ext_row) | (focus (repeat (first | apply List.Mem.head | apply List.Mem.tail | apply List.mem_append_right))))); (simp only [List.set_cons_succ, List.set_cons_zero]; exact rfl); clear hR; intro w hR)
    | ((with_reducible apply wpList_box hR); exact rfl; exact rfl; clear hR; intro g w hR; simp only [List.set_cons_succ, List.set_cons_zero])
    | ((with_reducible apply wpList_make hR zInst); exact rfl; clear hR; intro g w hR; simp only [List.set_cons_succ, List.set_cons_zero])
    | ((with_reducible apply wpList_make hR zRow); exact rfl; clear hR; intro g w hR; simp only [List.set_cons_succ, List.set_cons_zero])
    | ((with_reducible apply wpList_put hR tInst); exact rfl; exact rfl; exact rfl; (focus (repeat (first | apply List.Mem.head | apply List.Mem.tail | apply List.mem_append_right))); apply put_inst; exact rfl; simp [encI]; apply one_inst; (focus (repeat (first | apply Upd.head | apply Upd.tail))); clear hR; intro w hR)
    | ((with_reducible apply wpList_put hR tRow); exact rfl; exact rfl; exact rfl; (focus (repeat (first | apply List.Mem.head | apply List.Mem.tail | apply List.mem_append_right))); apply put_row; exact rfl; simp [encR]; apply one_row; (focus (repeat (first | apply Upd.head | apply Upd.tail))); clear hR; intro w hR)
    | ((with_reducible apply wpList_built); exact rfl; exact rfl; (first | exact bInst1 _ | exact bInst2 _ _ | exact bInst3 _ _ | exact bRow0); (simp only [List.set_cons_succ, List.set_cons_zero]; exact rfl))
    | (go_at_call 17; refine (HM.out _).mono ?_; rintro e w' ⟨rfl, hb⟩; replace hR := hR.grow hb; clear hb))
  go_ret2
  exact ⟨rfl, hR.below⟩

/-! ### awake -/
def moveI : InstZ := { zeroI with op := 184, imm := 4660 }
theorem move_ok : moveI.ok := by constructor <;> decide
theorem move_may : mayR moveI = true := by decide +kernel
theorem move_put : putN moveI = [184, 52, 18] := by decide +kernel
theorem tText : TextTy Tryd.prog 26 5 9 := ⟨Tryd.underlying26, Tryd.underlying5, Tryd.underlying9⟩
theorem put_move (w : World) (hT : Tabs w) : Calls Tryd.prog 7 #[.agg (encI { zeroI with op := 184, imm := 4660 })] w (RetB w [184, 52, 18]) := by
  have := putC_any moveI move_ok move_may w hT
  rw [move_put] at this
  exact this
set_option maxHeartbeats 1000000 in
theorem awake_any (w0 : World) (hT : Tabs w0) : Calls Tryd.prog 9 #[] w0 fun e w' => e = .returned (.bool true) ∧ Below w0.heap.size w0 w' := by
  have hR := Own.start w0
  go_enter Tryd.func9, Tryd.ntmps9
  go_upto_region 2 with (first
    | ((with_reducible apply q_ls hR); exact rfl; ((with_reducible first | apply t_addr (fInst _ (by decide)) | apply t_addr (fRow _ (by decide)) | apply t_one tInt | apply t_one tWord | apply t_one tByte | apply t_one tBool | apply t_part tInst | apply t_part tRow) <;> (first | (apply EvC.gv; exact rfl; (with_reducible first | exact Imp.refl _ | (apply Imp.left; exact Imp.refl _) | (apply Imp.right; exact Imp.refl _) | (apply Imp.left; apply Imp.left; exact Imp.refl _))) | (apply EvC.now; exact rfl) | exact rfl | (with_reducible exact EvAll.nil) | (focus (repeat (first | apply EvAll.cons | exact EvAll.nil | (apply EvC.gv; exact rfl; (with_reducible first | exact Imp.refl _ | (apply Imp.left; exact Imp.refl _) | (apply Imp.right; exact Imp.refl _) | (apply Imp.left; apply Imp.left; exact Imp.refl _))) | (apply EvC.now; exact rfl))); done) | (first | apply ext_inst | apply ext_row) | (focus (repeat (first | apply List.Mem.head | apply List.Mem.tail | apply List.mem_append_right))))); (simp only [List.set_cons_succ, List.set_cons_zero]; exact rfl); clear hR; intro w hR)
    | ((with_reducible apply wpList_box hR); exact rfl; exact rfl; clear hR; intro g w hR; simp only [List.set_cons_succ, List.set_cons_zero])
    | ((with_reducible apply wpList_make hR zInst); exact rfl; clear hR; intro g w hR; simp only [List.set_cons_succ, List.set_cons_zero])
    | ((with_reducible apply wpList_make hR zRow); exact rfl; clear hR; intro g w hR; simp only [List.set_cons_succ, List.set_cons_zero])
    | ((with_reducible apply wpList_put hR tInst); exact rfl; exact rfl; exact rfl; (focus (repeat (first | apply List.Mem.head | apply List.Mem.tail | apply List.mem_append_right))); apply put_inst; exact rfl; simp [encI]; apply one_inst; (focus (repeat (first | apply Upd.head | apply Upd.tail))); clear hR; intro w hR)
    | ((with_reducible apply wpList_put hR tRow); exact rfl; exact rfl; exact rfl; (focus (repeat (first | apply List.Mem.head | apply List.Mem.tail | apply List.mem_append_right))); apply put_row; exact rfl; simp [encR]; apply one_row; (focus (repeat (first | apply Upd.head | apply Upd.tail))); clear hR; intro w hR)
    | ((with_reducible apply wpList_built); exact rfl; exact rfl; (first | exact bInst1 _ | exact bInst2 _ _ | exact bInst3 _ _ | exact bRow0); (simp only [List.set_cons_succ, List.set_cons_zero]; exact rfl))
    | (go_at_call 7; refine (put_move _ (hT.own hR)).mono ?_; rintro e w' ⟨g, cur, cap, rfl, hO, hS⟩; replace hR := hR.join hO; clear hO))
  refine wp_region_tame hR [0, 1, 2, 3, 4, 5, 6, 7] rfl ?_
  repeat (refine wpT_step rfl ?_; first
    | ((with_reducible apply q_kn); exact rfl; (first | ((with_reducible first | apply t_move | apply t_assign | apply t_addr (fInst _ (by decide)) | apply t_addr (fRow _ (by decide)) | apply t_one tInt | apply t_one tWord | apply t_one tByte | apply t_one tBool | apply t_part tInst | apply t_part tRow) <;> (first | (apply EvC.gv; exact rfl; (with_reducible first | exact Imp.refl _ | (apply Imp.left; exact Imp.refl _) | (apply Imp.right; exact Imp.refl _) | (apply Imp.left; apply Imp.left; exact Imp.refl _))) | (apply EvC.now; exact rfl) | exact rfl | (with_reducible exact EvAll.nil) | (focus (repeat (first | apply EvAll.cons | exact EvAll.nil | (apply EvC.gv; exact rfl; (with_reducible first | exact Imp.refl _ | (apply Imp.left; exact Imp.refl _) | (apply Imp.right; exact Imp.refl _) | (apply Imp.left; apply Imp.left; exact Imp.refl _))) | (apply EvC.now; exact rfl))); done) | (first | apply ext_inst | apply ext_row) | (focus (repeat (first | apply List.Mem.head | apply List.Mem.tail | apply List.mem_append_right))))) | ((with_reducible apply t_pick); (apply EvC.now; exact rfl); (apply EvC.now; exact rfl))); (simp only [List.set_cons_succ, List.set_cons_zero]; exact rfl))
    | ((with_reducible apply q_kn); exact rfl; (with_reducible apply t_str tText); (apply EvC.now; exact rfl); (focus (repeat (first | apply List.Mem.head | apply List.Mem.tail | apply List.mem_append_right))); exact hS; (simp only [List.set_cons_succ, List.set_cons_zero]; exact rfl))
    | ((with_reducible apply q_kn); exact rfl; (with_reducible apply t_streq); (apply EvC.now; exact rfl); (apply EvC.now; exact rfl); (simp only [List.set_cons_succ, List.set_cons_zero]; exact rfl))
    | ((with_reducible apply q_gd); (first | (apply GdBy.gt; exact rfl; exact rfl) | (apply GdBy.gf; exact rfl; exact rfl) | (apply GdBy.t; exact rfl; exact rfl) | (apply GdBy.f; exact rfl; exact rfl)); ((with_reducible apply t_num) <;> (first | (apply EvC.gv; exact rfl; (with_reducible first | exact Imp.refl _ | (apply Imp.left; exact Imp.refl _) | (apply Imp.right; exact Imp.refl _) | (apply Imp.left; apply Imp.left; exact Imp.refl _))) | (apply EvC.now; exact rfl) | exact rfl | (with_reducible exact EvAll.nil) | (focus (repeat (first | apply EvAll.cons | exact EvAll.nil | (apply EvC.gv; exact rfl; (with_reducible first | exact Imp.refl _ | (apply Imp.left; exact Imp.refl _) | (apply Imp.right; exact Imp.refl _) | (apply Imp.left; apply Imp.left; exact Imp.refl _))) | (apply EvC.now; exact rfl))); done) | (first | apply ext_inst | apply ext_row) | (focus (repeat (first | apply List.Mem.head | apply List.Mem.tail | apply List.mem_append_right))))); (simp only [List.set_cons_succ, List.set_cons_zero]; exact rfl))
    | ((with_reducible apply wpT1_gpure); (first | (apply GdBy.gt; exact rfl; exact rfl) | (apply GdBy.gf; exact rfl; exact rfl) | (apply GdBy.t; exact rfl; exact rfl) | (apply GdBy.f; exact rfl; exact rfl)); intro K hK; go_simp; refine hK _ ?_; clear hK K; simp only [List.set_cons_succ, List.set_cons_zero])
    | ((with_reducible apply wpT1_pure); exact rfl; intro K hK; go_simp; refine hK _ ?_; clear hK K; simp only [List.set_cons_succ, List.set_cons_zero]))
  refine wpT_nil ?_
  clear hR; intro w hR
  go_wp2
  go_ret
  exact ⟨ret_bool (by decide +kernel), hR.below⟩
end Go.Proofs.YtlklfnmhnffmoaaDoor
