


/- Contracts of package inst's functions, and what they return as functions on numbers ('mayC', 'lenC', 'tailC'). No statement of the seat is proved here. -/
import Derived.Test.YtenhcbaljjhhbaaDoorInst
namespace Go.Proofs.YtenhcbaljjhhbaaDoor
open Go.ChangeShapes Go.WideShapes Go.ChangeAt Go.RowKit
set_option linter.unusedVariables false
set_option linter.unusedSimpArgs false

theorem val_int {k : IntKind} {a b : Int} (h : a = b) : Value.int k a = Value.int k b := by rw [h]
theorem val_bool {a b : Bool} (h : a = b) : Value.bool a = Value.bool b := by rw [h]
def signZ (b : Int) : Int := if b < 128 then b else 65280 + b
def fitsZ (x : Int) : Bool := decide (x < 128) || decide (65408 ≤ x)
theorem fits_iff (x : Int) (h0 : 0 ≤ x) (h1 : x ≤ 65535) : ((signZ (x % 256) == x) : Bool) = fitsZ x := by
  unfold signZ fitsZ
  rw [Bool.eq_iff_iff]
  simp only [beq_iff_eq, Bool.or_eq_true, decide_eq_true_eq]
  split <;> omega
theorem fitsR_any (x : Int) (w : World) :
    Calls Tryd.prog 25 #[.int .u16 x] w fun e w' => e = .returned (.bool (fitsZ x)) ∧ Below w.heap.size w w' := by
  have hR := Own.start w
  go_enter Tryd.func25, Tryd.ntmps25
  go_upto_region 1 with fail
  refine wp_region_tame hR [0, 1, 2, 3, 4, 5, 6] rfl ?_
  repeat (refine wpT_step rfl ?_; first
    | ((first | (with_reducible apply q_pl) | ((with_reducible apply q_gd); (first | (apply GdBy.gt; exact rfl; exact rfl) | (apply GdBy.gf; exact rfl; exact rfl) | (apply GdBy.t; exact rfl; exact rfl) | (apply GdBy.f; exact rfl; exact rfl)))); (first | ((with_reducible first | apply t_move | apply t_assign | apply t_and | apply t_or | apply t_cmp | apply t_not | apply t_addr (fInst _ (by decide)) | apply t_addr (fRow _ (by decide)) | apply t_one tInt | apply t_one tWord | apply t_one tByte | apply t_one tBool | apply t_part tInst | apply t_part tRow) <;> (first | (apply EvC.gv; exact rfl; (with_reducible first | exact Imp.refl _ | (apply Imp.left; exact Imp.refl _) | (apply Imp.right; exact Imp.refl _) | (apply Imp.left; apply Imp.left; exact Imp.refl _))) | (apply EvC.now; exact rfl) | exact rfl | (with_reducible exact EvAll.nil) | (focus (repeat (first | apply EvAll.cons | exact EvAll.nil | (apply EvC.gv; exact rfl; (with_reducible first | exact Imp.refl _ | (apply Imp.left; exact Imp.refl _) | (apply Imp.right; exact Imp.refl _) | (apply Imp.left; apply Imp.left; exact Imp.refl _))) | (apply EvC.now; exact rfl))); done) | (first | apply ext_inst | apply ext_row) | (focus (repeat (first | apply List.Mem.head | apply List.Mem.tail)))))); (simp only [List.set_cons_succ, List.set_cons_zero]; exact rfl))
    | ((with_reducible apply q_gd); (first | (apply GdBy.gt; exact rfl; exact rfl) | (apply GdBy.gf; exact rfl; exact rfl) | (apply GdBy.t; exact rfl; exact rfl) | (apply GdBy.f; exact rfl; exact rfl)); ((with_reducible apply t_num) <;> (first | (apply EvC.gv; exact rfl; (with_reducible first | exact Imp.refl _ | (apply Imp.left; exact Imp.refl _) | (apply Imp.right; exact Imp.refl _) | (apply Imp.left; apply Imp.left; exact Imp.refl _))) | (apply EvC.now; exact rfl) | exact rfl | (with_reducible exact EvAll.nil) | (focus (repeat (first | apply EvAll.cons | exact EvAll.nil | (apply EvC.gv; exact rfl; (with_reducible first | exact Imp.refl _ | (apply Imp.left; exact Imp.refl _) | (apply Imp.right; exact Imp.refl _) | (apply Imp.left; apply Imp.left; exact Imp.refl _))) | (apply EvC.now; exact rfl))); done) | (first | apply ext_inst | apply ext_row) | (focus (repeat (first | apply List.Mem.head | apply List.Mem.tail))))); (simp only [List.set_cons_succ, List.set_cons_zero]; exact rfl))
    | ((with_reducible apply wpT1_gpure); (first | (apply GdBy.gt; exact rfl; exact rfl) | (apply GdBy.gf; exact rfl; exact rfl) | (apply GdBy.t; exact rfl; exact rfl) | (apply GdBy.f; exact rfl; exact rfl)); intro K hK; go_simp; refine hK _ ?_; clear hK K; simp only [List.set_cons_succ, List.set_cons_zero])
    | ((with_reducible apply wpT1_pure); exact rfl; intro K hK; go_simp; refine hK _ ?_; clear hK K; simp only [List.set_cons_succ, List.set_cons_zero]))
  refine wpT_nil ?_
  clear hR; intro w hR
  go_wp2
  go_ret
  exact ⟨rfl, hR.below⟩

def mayImmC (imm a n : Int) : Bool := bif a == 6 then (bif n == 70 || n == 71 then imm == 10 else decide (imm < 256)) else bif a == 8 then fitsZ imm else bif a == 9 then fitsZ imm else true
def mayDispC (disp n : Int) : Bool := bif n == 0 then disp == 0 else bif n == 1 then fitsZ disp else true
/-! ### Both operands -/
def encP (a b : Int) : Array Value := #[.int .i64 a, .int .i64 b]
theorem zPair : ZeroTy Tryd.prog 51 (encP 0 0) := .of (by kernel_rfl)
theorem bPair (a b : Int) : Built Tryd.prog 51 [(0, .int .i64 a), (1, .int .i64 b)] (encP a b) := ⟨by kernel_rfl⟩
theorem iPair : (Tryd.prog.info? 51).map (·.size) = some 2 := by kernel_rfl
theorem tPair : RowTy Tryd.prog 51 2 := .of Tryd.underlying51 rfl iPair
theorem put_pair (a b c d : Int) : PutRel (encP a b) 0 (encP c d).toList (encP c d) := putList_all rfl
theorem one_pair (a b : Int) : (encP a b).all (·.oneCell') = true := by simp [encP, Value.oneCell']
theorem immZ_bd (a : Int) : 0 ≤ immZ a ∧ immZ a ≤ 4 := by
  unfold immZ
  cases a == 6 <;> cases a == 8 <;> cases a == 9 <;> cases a == 7 <;> cases a == 10 <;> cases a == 12 <;> cases a == 13 <;> cases a == 11 <;> decide
def immsZ (r : RowZ) : Int := immZ r.a + immZ r.b
end Go.Proofs.YtenhcbaljjhhbaaDoor
