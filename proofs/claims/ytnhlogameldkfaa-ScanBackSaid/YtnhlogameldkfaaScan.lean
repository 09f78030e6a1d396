




/- Contracts of package scan: next, spread, word, need, prefix. What they come to is told by the functions of ScanM. No statement of the seat is proved here. -/
import Derived.Test.YtnhlogameldkfaaScanN
import Derived.Test.YtnhlogameldkfaaSrc
import Derived.Recover
import Derived.Deep.CutBlock
import Derived.Deep.LoopGhost
import Derived.WalkSmall
namespace Go.Proofs.Ytnhlogameldkfaa
open Go.ChangeShapes Go.WideShapes Go.ChangeAt Go.RowKit
set_option linter.unusedVariables false
set_option linter.unusedSimpArgs false

/-- A reader's cells, when these bytes are left. -/
def rd (v : Value) (bs l : List Int) : Array Value := #[v, .int .i64 ((bs.length - l.length : Nat) : Int)]
def errV (e : Int) : Value := .iface 28 (.int .i64 e)
def errCh (e : Int) : List PanicEntry := [{ v := errV e, recovered := false }]
/-- What a call comes to: something, or a panic with an error's number. -/
def Ans {α : Type} (w0 : World) (enc : α → Value) (rows : α → List Int → List RowT) (R : List RowT) (m : Sc α) (en : Ending) (w' : World) : Prop := match m with
  | .ok a r => en = .returned (enc a) ∧ Own w0 w' (rows a r)
  | .bad e => en = .panicked (errCh e) ∧ Own w0 w' R
section
variable {α : Type} {P : Program} {f : FuncId} {args : Array Value} {w w0 : World} {enc : α → Value} {rows : α → List Int → List RowT} {R : List RowT} {m : Sc α}
theorem ans_ok {a : α} {r : List Int} (h : Calls P f args w (Ans w0 enc rows R m)) (hm : m = .ok a r) : Calls P f args w fun en w' => en = .returned (enc a) ∧ Own w0 w' (rows a r) := by rw [hm] at h; exact h
theorem ans_bad {e : Int} (h : Calls P f args w (Ans w0 enc rows R m)) (hm : m = .bad e) : Calls P f args w fun en w' => en = .panicked (errCh e) ∧ Own w0 w' R := by rw [hm] at h; exact h
theorem Ans.mk {en : Ending} {w' : World} {a : α} {r : List Int} (hm : m = .ok a r) (h1 : en = .returned (enc a)) (h2 : Own w0 w' (rows a r)) : Ans w0 enc rows R m en w' := by rw [hm]; exact ⟨h1, h2⟩
theorem Ans.no {en : Ending} {w' : World} {e : Int} (hm : m = .bad e) (h1 : en = .panicked (errCh e)) (h2 : Own w0 w' R) : Ans w0 enc rows R m en w' := by rw [hm]; exact ⟨h1, h2⟩
theorem ok_ans {a : α} {r : List Int} (h : Calls P f args w fun en w' => en = .returned (enc a) ∧ Own w0 w' (rows a r)) (hm : m = .ok a r) : Calls P f args w (Ans w0 enc rows R m) := by rw [hm]; exact h
theorem bad_ans {e : Int} (h : Calls P f args w fun en w' => en = .panicked (errCh e) ∧ Own w0 w' R) (hm : m = .bad e) : Calls P f args w (Ans w0 enc rows R m) := by rw [hm]; exact h
end

theorem tSlB : OneTy Try.prog 26 := .of Try.underlying26 rfl (by kernel_rfl)
theorem iByte : (Try.prog.info? 5).map (·.size) = some 1 := by kernel_rfl
theorem fRd (k : Nat) (h : k < 2) : FieldAt Try.prog 50 k k := by
  match k, h with
  | 0, _ => exact ⟨fun g w => by simp [go_sem, Instr.fieldAt, fieldPlace]⟩
  | 1, _ => exact ⟨fun g w => by simp [go_sem, Instr.fieldAt, fieldPlace]⟩
theorem put_rd (v : Value) (n x : Int) : PutRel #[v, .int .i64 n] 1 [.int .i64 x] #[v, .int .i64 x] := ⟨rfl⟩
/-! ### One byte -/
theorem suf_at {bs r : List Int} {b : Int} (h : b :: r <:+ bs) : bs[bs.length - (r.length + 1)]? = some b := by
  obtain ⟨p, rfl⟩ := h
  rw [show (p ++ b :: r).length - (r.length + 1) = p.length by simp, List.getElem?_append_right (Nat.le_refl _), Nat.sub_self]
  rfl
set_option maxHeartbeats 400000 in
theorem rNext_any {w0 w : World} {v : Value} {bs l : List Int} {gr : Nat} {L R : List RowT} (hS : Src w0 v bs) (hl : l <:+ bs) (hO : Own w0 w L) (hd : Del (gr, rd v bs l, 50) L R) :
    Calls Try.prog 38 #[.pointer (some ⟨gr, 0, none⟩)] w (Ans w0 (fun b => .int .u8 b) (fun _ r => (gr, rd v bs r, 50) :: R) R (nextM l)) := by
  have hR := hO.lead hd
  clear hO hd
  have hm := hS.most
  have hle := hl.length_le
  rcases l with _ | ⟨b, r⟩
  · refine bad_ans ?_ rfl
    unfold rd at hR
    simp only [List.length_nil, Nat.sub_zero] at hR
    go_enter Try.func38, Try.ntmps38
    go_upto_region 1 with fail
    refine wp_region_rows hR [0, 1, 2, 3, 4, 5, 6, 7, 8, 9] 0 (by kernel_rfl) (by kernel_rfl) (by kernel_rfl) rfl ?_
    clear hR; intro hR
    repeat (refine wpT_step rfl ?_; first
    | ((first | (with_reducible apply q_pl) | ((with_reducible apply q_gd); (first | (apply GdBy.gt; exact rfl; exact rfl) | (apply GdBy.gf; exact rfl; exact rfl) | (apply GdBy.t; exact rfl; exact rfl) | (apply GdBy.f; exact rfl; exact rfl)))); (first | ((with_reducible first | apply t_move | apply t_assign | apply t_and | apply t_or | apply t_cmp | apply t_not | apply t_addr (fRd _ (by decide)) | apply t_addr (fInst _ (by decide)) | apply t_addr (fRow _ (by decide)) | apply t_one tInt | apply t_one tWord | apply t_one tByte | apply t_one tBool | apply t_one tSlB | apply t_part tInst | apply t_part tRow) <;> (first | (apply EvC.gv; exact rfl; (with_reducible first | exact Imp.refl _ | (apply Imp.left; exact Imp.refl _) | (apply Imp.right; exact Imp.refl _) | (apply Imp.left; apply Imp.left; exact Imp.refl _))) | (apply EvC.now; exact rfl) | exact rfl | (with_reducible exact EvAll.nil) | (focus (repeat (first | apply EvAll.cons | exact EvAll.nil | (apply EvC.gv; exact rfl; (with_reducible first | exact Imp.refl _ | (apply Imp.left; exact Imp.refl _) | (apply Imp.right; exact Imp.refl _) | (apply Imp.left; apply Imp.left; exact Imp.refl _))) | (apply EvC.now; exact rfl))); done) | (first | apply ext_inst | apply ext_row) | (focus (repeat (first | apply List.Mem.head | apply List.Mem.tail | apply List.mem_append_right)))))); (simp only [List.set_cons_succ, List.set_cons_zero]; exact rfl))
    | ((with_reducible apply q_pl); (with_reducible apply t_nilck); (apply EvC.now; exact rfl); (simp only [List.set_cons_succ, List.set_cons_zero]; exact rfl))
    | ((with_reducible apply q_pl); (with_reducible apply t_lenSrc Try.underlying26); (apply EvC.now; exact rfl); exact hS; (simp only [List.set_cons_succ, List.set_cons_zero]; exact rfl))
    | ((with_reducible apply q_gd); (first | (apply GdBy.gt; exact rfl; exact rfl) | (apply GdBy.gf; exact rfl; exact rfl) | (apply GdBy.t; exact rfl; exact rfl) | (apply GdBy.f; exact rfl; exact rfl)); ((with_reducible apply t_num) <;> (first | (apply EvC.gv; exact rfl; (with_reducible first | exact Imp.refl _ | (apply Imp.left; exact Imp.refl _) | (apply Imp.right; exact Imp.refl _) | (apply Imp.left; apply Imp.left; exact Imp.refl _))) | (apply EvC.now; exact rfl) | exact rfl | (with_reducible exact EvAll.nil) | (focus (repeat (first | apply EvAll.cons | exact EvAll.nil | (apply EvC.gv; exact rfl; (with_reducible first | exact Imp.refl _ | (apply Imp.left; exact Imp.refl _) | (apply Imp.right; exact Imp.refl _) | (apply Imp.left; apply Imp.left; exact Imp.refl _))) | (apply EvC.now; exact rfl))); done) | (first | apply ext_inst | apply ext_row) | (focus (repeat (first | apply List.Mem.head | apply List.Mem.tail | apply List.mem_append_right))))); (simp only [List.set_cons_succ, List.set_cons_zero]; exact rfl))
    | ((with_reducible apply wpT1_gpure); (first | (apply GdBy.gt; exact rfl; exact rfl) | (apply GdBy.gf; exact rfl; exact rfl) | (apply GdBy.t; exact rfl; exact rfl) | (apply GdBy.f; exact rfl; exact rfl)); intro K hK; go_simp; refine hK _ ?_; clear hK K; simp only [List.set_cons_succ, List.set_cons_zero])
    | ((with_reducible apply wpT1_pure); exact rfl; intro K hK; go_simp; refine hK _ ?_; clear hK K; simp only [List.set_cons_succ, List.set_cons_zero]))
    refine wpT_nil ?_
    refine wpG_end hR (by kernel_rfl) ?_
    clear hR; intro w hR
    go_wp2
    exact ⟨rfl, rfl, hR.tail⟩
  · have hat := suf_at hl
    refine ok_ans ?_ rfl
    unfold rd at hR ⊢
    simp only [List.length_cons] at hR hle
    generalize hn : bs.length - (r.length + 1) = n at hR hat
    have e1 : bs.length - r.length = n + 1 := by omega
    rw [e1]
    have hlt : n < bs.length := by omega
    have hlt' : (n : Int) < (bs.length : Int) := by omega
    obtain ⟨a, cap, rfl, _, hc⟩ : ∃ a cap, v = .slice (some a) bs.length cap ∧ bs.length ≤ cap ∧ ∀ j u, bs[j]? = some u → w0.cell? (a.add j) = some (.int .u8 u) := by
      rcases hS.way with ⟨_, h⟩ | h
      · rw [h] at hlt; simp at hlt
      · exact h
    have HC := Lib.hid (hc n b hat)
    clear hc hat hS hl hn e1
    go_enter Try.func38, Try.ntmps38
    go_upto_region 1 with fail
    refine wp_region_rows hR [0, 1, 2, 3, 4, 5, 6, 7, 8, 9] 0 (by kernel_rfl) (by kernel_rfl) (by kernel_rfl) rfl ?_
    clear hR; intro hR
    repeat (refine wpT_step rfl ?_; first
    | ((first | (with_reducible apply q_pl) | ((with_reducible apply q_gd); (first | (apply GdBy.gt; exact rfl; exact rfl) | (apply GdBy.gf; exact rfl; exact rfl) | (apply GdBy.t; exact rfl; exact rfl) | (apply GdBy.f; exact rfl; exact rfl)))); (first | ((with_reducible first | apply t_move | apply t_assign | apply t_and | apply t_or | apply t_cmp | apply t_not | apply t_addr (fRd _ (by decide)) | apply t_addr (fInst _ (by decide)) | apply t_addr (fRow _ (by decide)) | apply t_one tInt | apply t_one tWord | apply t_one tByte | apply t_one tBool | apply t_one tSlB | apply t_part tInst | apply t_part tRow) <;> (first | (apply EvC.gv; exact rfl; (with_reducible first | exact Imp.refl _ | (apply Imp.left; exact Imp.refl _) | (apply Imp.right; exact Imp.refl _) | (apply Imp.left; apply Imp.left; exact Imp.refl _))) | (apply EvC.now; exact rfl) | exact rfl | (with_reducible exact EvAll.nil) | (focus (repeat (first | apply EvAll.cons | exact EvAll.nil | (apply EvC.gv; exact rfl; (with_reducible first | exact Imp.refl _ | (apply Imp.left; exact Imp.refl _) | (apply Imp.right; exact Imp.refl _) | (apply Imp.left; apply Imp.left; exact Imp.refl _))) | (apply EvC.now; exact rfl))); done) | (first | apply ext_inst | apply ext_row) | (focus (repeat (first | apply List.Mem.head | apply List.Mem.tail | apply List.mem_append_right)))))); (simp only [List.set_cons_succ, List.set_cons_zero]; exact rfl))
    | ((with_reducible apply q_pl); (with_reducible apply t_nilck); (apply EvC.now; exact rfl); (simp only [List.set_cons_succ, List.set_cons_zero]; exact rfl))
    | ((with_reducible apply q_pl); (with_reducible apply t_len Try.underlying26); (apply EvC.now; exact rfl); (simp only [List.set_cons_succ, List.set_cons_zero]; exact rfl))
    | ((with_reducible apply q_gd); (first | (apply GdBy.gt; exact rfl; exact rfl) | (apply GdBy.gf; exact rfl; exact rfl) | (apply GdBy.t; exact rfl; exact rfl) | (apply GdBy.f; exact rfl; exact rfl)); ((with_reducible apply t_num) <;> (first | (apply EvC.gv; exact rfl; (with_reducible first | exact Imp.refl _ | (apply Imp.left; exact Imp.refl _) | (apply Imp.right; exact Imp.refl _) | (apply Imp.left; apply Imp.left; exact Imp.refl _))) | (apply EvC.now; exact rfl) | exact rfl | (with_reducible exact EvAll.nil) | (focus (repeat (first | apply EvAll.cons | exact EvAll.nil | (apply EvC.gv; exact rfl; (with_reducible first | exact Imp.refl _ | (apply Imp.left; exact Imp.refl _) | (apply Imp.right; exact Imp.refl _) | (apply Imp.left; apply Imp.left; exact Imp.refl _))) | (apply EvC.now; exact rfl))); done) | (first | apply ext_inst | apply ext_row) | (focus (repeat (first | apply List.Mem.head | apply List.Mem.tail | apply List.mem_append_right))))); (simp only [List.set_cons_succ, List.set_cons_zero]; exact rfl))
    | ((with_reducible apply wpT1_gpure); (first | (apply GdBy.gt; exact rfl; exact rfl) | (apply GdBy.gf; exact rfl; exact rfl) | (apply GdBy.t; exact rfl; exact rfl) | (apply GdBy.f; exact rfl; exact rfl)); intro K hK; go_simp; refine hK _ ?_; clear hK K; simp only [List.set_cons_succ, List.set_cons_zero])
    | ((with_reducible apply wpT1_pure); exact rfl; intro K hK; go_simp; refine hK _ ?_; clear hK K; simp only [List.set_cons_succ, List.set_cons_zero]))
    refine wpT_nil ?_
    refine wpG_end hR (by kernel_rfl) ?_
    clear hR; intro w hR
    go_upto_region 3 with fail
    refine wp_region_rows hR [0, 1, 2, 3, 4, 5, 6, 7, 8, 9, 10] 0 (by kernel_rfl) (by kernel_rfl) (by kernel_rfl) rfl ?_
    clear hR; intro hR
    repeat (refine wpT_step rfl ?_; first
    | ((first | (with_reducible apply q_pl) | ((with_reducible apply q_gd); (first | (apply GdBy.gt; exact rfl; exact rfl) | (apply GdBy.gf; exact rfl; exact rfl) | (apply GdBy.t; exact rfl; exact rfl) | (apply GdBy.f; exact rfl; exact rfl)))); (first | ((with_reducible first | apply t_move | apply t_assign | apply t_and | apply t_or | apply t_cmp | apply t_not | apply t_addr (fRd _ (by decide)) | apply t_addr (fInst _ (by decide)) | apply t_addr (fRow _ (by decide)) | apply t_one tInt | apply t_one tWord | apply t_one tByte | apply t_one tBool | apply t_one tSlB | apply t_part tInst | apply t_part tRow) <;> (first | (apply EvC.gv; exact rfl; (with_reducible first | exact Imp.refl _ | (apply Imp.left; exact Imp.refl _) | (apply Imp.right; exact Imp.refl _) | (apply Imp.left; apply Imp.left; exact Imp.refl _))) | (apply EvC.now; exact rfl) | exact rfl | (with_reducible exact EvAll.nil) | (focus (repeat (first | apply EvAll.cons | exact EvAll.nil | (apply EvC.gv; exact rfl; (with_reducible first | exact Imp.refl _ | (apply Imp.left; exact Imp.refl _) | (apply Imp.right; exact Imp.refl _) | (apply Imp.left; apply Imp.left; exact Imp.refl _))) | (apply EvC.now; exact rfl))); done) | (first | apply ext_inst | apply ext_row) | (focus (repeat (first | apply List.Mem.head | apply List.Mem.tail | apply List.mem_append_right)))))); (simp only [List.set_cons_succ, List.set_cons_zero]; exact rfl))
    | ((with_reducible apply q_pl); (with_reducible apply t_nilck); (apply EvC.now; exact rfl); (simp only [List.set_cons_succ, List.set_cons_zero]; exact rfl))
    | ((with_reducible apply q_pl); (with_reducible apply t_six Try.underlying26 iByte); (apply EvC.now; exact rfl); (apply EvC.now; exact rfl); (constructor <;> omega); (simp only [List.set_cons_succ, List.set_cons_zero]; exact rfl))
    | ((with_reducible apply q_pl); (with_reducible apply t_oldCell tByte); (apply EvC.now; exact rfl); (simpa using HC.out); (simp only [List.set_cons_succ, List.set_cons_zero]; exact rfl))
    | ((with_reducible apply q_gd); (first | (apply GdBy.gt; exact rfl; exact rfl) | (apply GdBy.gf; exact rfl; exact rfl) | (apply GdBy.t; exact rfl; exact rfl) | (apply GdBy.f; exact rfl; exact rfl)); ((with_reducible apply t_num) <;> (first | (apply EvC.gv; exact rfl; (with_reducible first | exact Imp.refl _ | (apply Imp.left; exact Imp.refl _) | (apply Imp.right; exact Imp.refl _) | (apply Imp.left; apply Imp.left; exact Imp.refl _))) | (apply EvC.now; exact rfl) | exact rfl | (with_reducible exact EvAll.nil) | (focus (repeat (first | apply EvAll.cons | exact EvAll.nil | (apply EvC.gv; exact rfl; (with_reducible first | exact Imp.refl _ | (apply Imp.left; exact Imp.refl _) | (apply Imp.right; exact Imp.refl _) | (apply Imp.left; apply Imp.left; exact Imp.refl _))) | (apply EvC.now; exact rfl))); done) | (first | apply ext_inst | apply ext_row) | (focus (repeat (first | apply List.Mem.head | apply List.Mem.tail | apply List.mem_append_right))))); (simp only [List.set_cons_succ, List.set_cons_zero]; exact rfl))
    | ((with_reducible apply wpT1_gpure); (first | (apply GdBy.gt; exact rfl; exact rfl) | (apply GdBy.gf; exact rfl; exact rfl) | (apply GdBy.t; exact rfl; exact rfl) | (apply GdBy.f; exact rfl; exact rfl)); intro K hK; go_simp; refine hK _ ?_; clear hK K; simp only [List.set_cons_succ, List.set_cons_zero])
    | ((with_reducible apply wpT1_pure); exact rfl; intro K hK; go_simp; refine hK _ ?_; clear hK K; simp only [List.set_cons_succ, List.set_cons_zero]))
    refine wpT_nil ?_
    refine wpG_end hR (by kernel_rfl) ?_
    clear hR; intro w hR
    go_wp2_with (first
    | ((with_reducible apply q_ls hR); exact rfl; (with_reducible apply t_nilck); (apply EvC.now; exact rfl); (simp only [List.set_cons_succ, List.set_cons_zero]; exact rfl); clear hR; intro w hR)
    | ((with_reducible apply q_ls hR); exact rfl; ((with_reducible first | apply t_addr (fRd _ (by decide)) | apply t_addr (fInst _ (by decide)) | apply t_addr (fRow _ (by decide)) | apply t_one tInt | apply t_one tWord | apply t_one tByte | apply t_one tBool | apply t_one tSlB | apply t_part tInst | apply t_part tRow) <;> (first | (apply EvC.gv; exact rfl; (with_reducible first | exact Imp.refl _ | (apply Imp.left; exact Imp.refl _) | (apply Imp.right; exact Imp.refl _) | (apply Imp.left; apply Imp.left; exact Imp.refl _))) | (apply EvC.now; exact rfl) | exact rfl | (with_reducible exact EvAll.nil) | (focus (repeat (first | apply EvAll.cons | exact EvAll.nil | (apply EvC.gv; exact rfl; (with_reducible first | exact Imp.refl _ | (apply Imp.left; exact Imp.refl _) | (apply Imp.right; exact Imp.refl _) | (apply Imp.left; apply Imp.left; exact Imp.refl _))) | (apply EvC.now; exact rfl))); done) | (first | apply ext_inst | apply ext_row) | (focus (repeat (first | apply List.Mem.head | apply List.Mem.tail | apply List.mem_append_right))))); (simp only [List.set_cons_succ, List.set_cons_zero]; exact rfl); clear hR; intro w hR)
    | ((with_reducible apply wpList_put1 hR tInt); exact rfl; exact rfl; exact rfl; (focus (repeat (first | apply List.Mem.head | apply List.Mem.tail | apply List.mem_append_right))); apply put_rd; simp; exact rfl; (focus (repeat (first | apply Upd.head | apply Upd.tail))); clear hR; intro w hR))
    go_ret
    exact ⟨rfl, by simpa using hR⟩

/-! ### Two bytes, or one whose sign is spread -/
theorem suf_tail {b : Int} {r bs : List Int} (h : b :: r <:+ bs) : r <:+ bs := (List.suffix_cons b r).trans h
theorem src_head {w : World} {v : Value} {bs r : List Int} {b : Int} (hS : Src w v bs) (h : b :: r <:+ bs) : 0 ≤ b ∧ b ≤ 255 := (hS.ok.of_suf h).head
set_option maxHeartbeats 400000 in
theorem rSpread_any {w0 w : World} {v : Value} {bs l : List Int} {gr : Nat} {L R : List RowT} (hS : Src w0 v bs) (hl : l <:+ bs) (hO : Own w0 w L) (hd : Del (gr, rd v bs l, 50) L R) :
    Calls Try.prog 43 #[.pointer (some ⟨gr, 0, none⟩)] w (Ans w0 (fun x => .int .u16 x) (fun _ r => (gr, rd v bs r, 50) :: R) R (spreadM l)) := by
  have hR := hO.lead hd
  clear hO hd
  rcases l with _ | ⟨b, r⟩
  · refine bad_ans ?_ rfl
    go_enter Try.func43, Try.ntmps43
    go_wp2_with fail
    refine (ans_bad (rNext_any hS hl hR (by (focus (repeat (first | apply Del.head | apply Del.tail))))) rfl).mono ?_
    rintro e w' ⟨rfl, hO⟩
    clear hR; have hR := hO; clear hO
    go_wp2_with fail
    exact ⟨rfl, rfl, hR⟩
  · refine ok_ans ?_ rfl
    have hb := src_head hS hl
    go_enter Try.func43, Try.ntmps43
    go_wp2_with fail
    refine (ans_ok (rNext_any hS hl hR (by (focus (repeat (first | apply Del.head | apply Del.tail))))) rfl).mono ?_
    rintro e w' ⟨rfl, hO⟩
    clear hR; have hR := hO; clear hO
    go_wp2_with fail
    refine (signC_any _ _ hb.1 hb.2).mono ?_
    rintro e w' ⟨rfl, rfl⟩
    go_wp2_with fail
    go_ret
    exact ⟨rfl, hR⟩
set_option maxHeartbeats 400000 in
theorem wordC_any (l h : Int) (w : World) (h0 : 0 ≤ l) (h1 : l ≤ 255) (h2 : 0 ≤ h) (h3 : h ≤ 255) :
    Calls Try.prog 51 #[.int .u8 l, .int .u8 h] w fun e w' => e = .returned (.int .u16 (h * 256 + l)) ∧ w = w' := by
  go_enter Try.func51, Try.ntmps51
  go_wp2
  go_ret
  refine ⟨ret_int ?_, rfl⟩
  rw [u16_or _ _ (by omega) (by omega) (by omega) (by omega), nat_join 8 _ _ (by omega) (by omega)]
  omega
set_option maxHeartbeats 400000 in
theorem rWord_any {w0 w : World} {v : Value} {bs l : List Int} {gr : Nat} {L R : List RowT} (hS : Src w0 v bs) (hl : l <:+ bs) (hO : Own w0 w L) (hd : Del (gr, rd v bs l, 50) L R) :
    Calls Try.prog 44 #[.pointer (some ⟨gr, 0, none⟩)] w (Ans w0 (fun x => .int .u16 x) (fun _ r => (gr, rd v bs r, 50) :: R) R (wordM l)) := by
  have hR := hO.lead hd
  clear hO hd
  rcases l with _ | ⟨a, _ | ⟨b, r⟩⟩
  · refine bad_ans ?_ rfl
    go_enter Try.func44, Try.ntmps44
    go_wp2_with fail
    refine (ans_bad (rNext_any hS hl hR (by (focus (repeat (first | apply Del.head | apply Del.tail))))) rfl).mono ?_
    rintro e w' ⟨rfl, hO⟩
    clear hR; have hR := hO; clear hO
    go_wp2_with fail
    exact ⟨rfl, rfl, hR⟩
  · refine bad_ans ?_ rfl
    have hl1 := suf_tail hl
    go_enter Try.func44, Try.ntmps44
    go_wp2_with fail
    refine (ans_ok (rNext_any hS hl hR (by (focus (repeat (first | apply Del.head | apply Del.tail))))) rfl).mono ?_
    rintro e w' ⟨rfl, hO⟩
    clear hR; have hR := hO; clear hO
    go_wp2_with fail
    refine (ans_bad (rNext_any hS hl1 hR (by (focus (repeat (first | apply Del.head | apply Del.tail))))) rfl).mono ?_
    rintro e w' ⟨rfl, hO⟩
    clear hR; have hR := hO; clear hO
    go_wp2_with fail
    exact ⟨rfl, rfl, hR⟩
  · refine ok_ans ?_ rfl
    have hl1 := suf_tail hl
    have ha := src_head hS hl
    have hb := src_head hS hl1
    go_enter Try.func44, Try.ntmps44
    go_wp2_with fail
    refine (ans_ok (rNext_any hS hl hR (by (focus (repeat (first | apply Del.head | apply Del.tail))))) rfl).mono ?_
    rintro e w' ⟨rfl, hO⟩
    clear hR; have hR := hO; clear hO
    go_wp2_with fail
    refine (ans_ok (rNext_any hS hl1 hR (by (focus (repeat (first | apply Del.head | apply Del.tail))))) rfl).mono ?_
    rintro e w' ⟨rfl, hO⟩
    clear hR; have hR := hO; clear hO
    go_wp2_with fail
    refine (wordC_any _ _ _ ha.1 ha.2 hb.1 hb.2).mono ?_
    rintro e w' ⟨rfl, rfl⟩
    go_wp2_with fail
    go_ret
    exact ⟨rfl, hR⟩

/-! ### What must be -/
theorem need_yes (w : World) : Calls Try.prog 29 #[.bool true] w fun e w' => e = .returned (.tuple #[]) ∧ w = w' := by
  go_enter Try.func29, Try.ntmps29
  go_wp2
  go_end0
  exact ⟨rfl, rfl⟩
theorem need_no (w : World) : Calls Try.prog 29 #[.bool false] w fun e w' => e = .panicked (errCh 3) ∧ w = w' := by
  go_enter Try.func29, Try.ntmps29
  go_wp2
  exact ⟨rfl, rfl, rfl⟩
end Go.Proofs.Ytnhlogameldkfaa
