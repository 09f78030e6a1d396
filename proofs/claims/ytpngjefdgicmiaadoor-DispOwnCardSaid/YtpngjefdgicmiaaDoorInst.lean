


/- An instruction and a row as numbers ('InstZ', 'RowZ'), how they lie in cells, and contracts of small functions of package inst and of hansomref05. No statement of the seat is proved here. -/
import Derived.Test.YtpngjefdgicmiaaDoorTame
import Derived.Test.YtpngjefdgicmiaaDoorTab
import Derived.Test.YtpngjefdgicmiaaDoorKinds
import Derived.Deep.DeepCutAuto
namespace Go.Proofs.YtpngjefdgicmiaaDoor
open Go.ChangeShapes Go.WideShapes Go.ChangeAt Go.RowKit
set_option linter.unusedVariables false
set_option linter.unusedSimpArgs false

structure InstZ where
  lock : Bool
  rep : Int
  seg : Int
  op : Int
  mod : Int
  reg : Int
  rm : Int
  disp : Int
  imm : Int
  sel : Int
structure RowZ where
  n : Int
  a : Int
  b : Int
  m : Bool
structure InstZ.ok (i : InstZ) : Prop where
  rep : -9223372036854775808 ≤ i.rep ∧ i.rep ≤ 9223372036854775807
  seg : -9223372036854775808 ≤ i.seg ∧ i.seg ≤ 9223372036854775807
  op : 0 ≤ i.op ∧ i.op ≤ 255
  mod : -9223372036854775808 ≤ i.mod ∧ i.mod ≤ 9223372036854775807
  reg : -9223372036854775808 ≤ i.reg ∧ i.reg ≤ 9223372036854775807
  rm : -9223372036854775808 ≤ i.rm ∧ i.rm ≤ 9223372036854775807
  disp : 0 ≤ i.disp ∧ i.disp ≤ 65535
  imm : 0 ≤ i.imm ∧ i.imm ≤ 65535
  sel : 0 ≤ i.sel ∧ i.sel ≤ 65535

def encI (i : InstZ) : Array Value := #[.bool i.lock, .int .i64 i.rep, .int .i64 i.seg, .int .u8 i.op, .int .i64 i.mod, .int .i64 i.reg, .int .i64 i.rm, .int .u16 i.disp, .int .u16 i.imm, .int .u16 i.sel]
def encR (r : RowZ) : Array Value := #[.int .i64 r.n, .int .i64 r.a, .int .i64 r.b, .bool r.m]
def zeroI : InstZ := ⟨false, 0, 0, 0, 0, 0, 0, 0, 0, 0⟩
def zeroR : RowZ := ⟨0, 0, 0, false⟩

theorem zInst : ZeroTy Tryd.prog 28 (encI zeroI) := .of (by kernel_rfl)
theorem zRow : ZeroTy Tryd.prog 39 (encR zeroR) := .of (by kernel_rfl)
theorem bInst1 (o : Int) : Built Tryd.prog 28 [(3, .int .u8 o)] (encI { zeroI with op := o }) := ⟨by kernel_rfl⟩
theorem bInst2 (o : Int) (l : Bool) : Built Tryd.prog 28 [(3, .int .u8 o), (0, .bool l)] (encI { zeroI with op := o, lock := l }) := ⟨by kernel_rfl⟩
theorem bInst3 (o x : Int) : Built Tryd.prog 28 [(3, .int .u8 o), (8, .int .u16 x)] (encI { zeroI with op := o, imm := x }) := ⟨by kernel_rfl⟩
theorem bRow0 : Built Tryd.prog 39 [] (encR zeroR) := ⟨by kernel_rfl⟩
theorem iInst : (Tryd.prog.info? 28).map (·.size) = some 10 := by kernel_rfl
theorem iRow : (Tryd.prog.info? 39).map (·.size) = some 4 := by kernel_rfl
theorem tInst : RowTy Tryd.prog 28 10 := .of Tryd.underlying28 rfl iInst
theorem tRow : RowTy Tryd.prog 39 4 := .of Tryd.underlying39 rfl iRow
theorem tInt : OneTy Tryd.prog 3 := .of Tryd.underlying3 rfl (by kernel_rfl)
theorem tWord : OneTy Tryd.prog 26 := .of Tryd.underlying26 rfl (by kernel_rfl)
theorem tByte : OneTy Tryd.prog 5 := .of Tryd.underlying5 rfl (by kernel_rfl)
theorem tBool : OneTy Tryd.prog 4 := .of Tryd.underlying4 rfl (by kernel_rfl)
theorem ext_inst (i : InstZ) : ExtRel (encI i) 0 10 (encI i) := extract_all rfl
theorem ext_row (r : RowZ) : ExtRel (encR r) 0 4 (encR r) := extract_all rfl
theorem put_inst (i j : InstZ) : PutRel (encI i) 0 (encI j).toList (encI j) := putList_all rfl
theorem put_row (r s : RowZ) : PutRel (encR r) 0 (encR s).toList (encR s) := putList_all rfl
theorem put_rep (i : InstZ) (x : Int) : PutRel (encI i) 1 [.int .i64 x] (encI { i with rep := x }) := ⟨rfl⟩
theorem put_seg (i : InstZ) (x : Int) : PutRel (encI i) 2 [.int .i64 x] (encI { i with seg := x }) := ⟨rfl⟩
theorem put_mod (i : InstZ) (x : Int) : PutRel (encI i) 4 [.int .i64 x] (encI { i with mod := x }) := ⟨rfl⟩
theorem put_reg (i : InstZ) (x : Int) : PutRel (encI i) 5 [.int .i64 x] (encI { i with reg := x }) := ⟨rfl⟩
theorem put_rm (i : InstZ) (x : Int) : PutRel (encI i) 6 [.int .i64 x] (encI { i with rm := x }) := ⟨rfl⟩
theorem put_disp (i : InstZ) (x : Int) : PutRel (encI i) 7 [.int .u16 x] (encI { i with disp := x }) := ⟨rfl⟩
theorem put_imm (i : InstZ) (x : Int) : PutRel (encI i) 8 [.int .u16 x] (encI { i with imm := x }) := ⟨rfl⟩
theorem put_sel (i : InstZ) (x : Int) : PutRel (encI i) 9 [.int .u16 x] (encI { i with sel := x }) := ⟨rfl⟩
theorem one_inst (i : InstZ) : (encI i).all (·.oneCell') = true := by simp [encI, Value.oneCell']
theorem one_row (r : RowZ) : (encR r).all (·.oneCell') = true := by simp [encR, Value.oneCell']
theorem fInst (k : Nat) (h : k < 10) : FieldAt Tryd.prog 28 k k := by
  match k, h with
  | 0, _ => exact ⟨fun g w => by simp [go_sem, Instr.fieldAt, fieldPlace]⟩
  | 1, _ => exact ⟨fun g w => by simp [go_sem, Instr.fieldAt, fieldPlace]⟩
  | 2, _ => exact ⟨fun g w => by simp [go_sem, Instr.fieldAt, fieldPlace]⟩
  | 3, _ => exact ⟨fun g w => by simp [go_sem, Instr.fieldAt, fieldPlace]⟩
  | 4, _ => exact ⟨fun g w => by simp [go_sem, Instr.fieldAt, fieldPlace]⟩
  | 5, _ => exact ⟨fun g w => by simp [go_sem, Instr.fieldAt, fieldPlace]⟩
  | 6, _ => exact ⟨fun g w => by simp [go_sem, Instr.fieldAt, fieldPlace]⟩
  | 7, _ => exact ⟨fun g w => by simp [go_sem, Instr.fieldAt, fieldPlace]⟩
  | 8, _ => exact ⟨fun g w => by simp [go_sem, Instr.fieldAt, fieldPlace]⟩
  | 9, _ => exact ⟨fun g w => by simp [go_sem, Instr.fieldAt, fieldPlace]⟩
theorem fRow (k : Nat) (h : k < 4) : FieldAt Tryd.prog 39 k k := by
  match k, h with
  | 0, _ => exact ⟨fun g w => by simp [go_sem, Instr.fieldAt, fieldPlace]⟩
  | 1, _ => exact ⟨fun g w => by simp [go_sem, Instr.fieldAt, fieldPlace]⟩
  | 2, _ => exact ⟨fun g w => by simp [go_sem, Instr.fieldAt, fieldPlace]⟩
  | 3, _ => exact ⟨fun g w => by simp [go_sem, Instr.fieldAt, fieldPlace]⟩

/-! ### Small functions -/
def btwB (n m : Int) : Bool := decide (0 ≤ n) && decide (n ≤ m)
theorem between_any (n m : Int) (w : World) :
    Calls Tryd.prog 52 #[.int .i64 n, .int .i64 m] w fun e w' => e = .returned (.bool (btwB n m)) ∧ Below w.heap.size w w' := by
  have hR := Own.start w
  go_enter Tryd.func52, Tryd.ntmps52
  go_upto_region 1 with fail
  refine wp_region_tame hR [0, 1, 2, 3, 4, 5, 6, 7] rfl ?_
  repeat (refine wpT_step rfl ?_; first
    | ((first | (with_reducible apply q_pl) | ((with_reducible apply q_gd); (first | (apply GdBy.gt; exact rfl; exact rfl) | (apply GdBy.gf; exact rfl; exact rfl) | (apply GdBy.t; exact rfl; exact rfl) | (apply GdBy.f; exact rfl; exact rfl)))); (first | ((with_reducible first | apply t_move | apply t_assign | apply t_and | apply t_or | apply t_cmp | apply t_not | apply t_addr (fInst _ (by decide)) | apply t_addr (fRow _ (by decide)) | apply t_one tInt | apply t_one tWord | apply t_one tByte | apply t_one tBool | apply t_part tInst | apply t_part tRow) <;> (first | (apply EvC.gv; exact rfl; (with_reducible first | exact Imp.refl _ | (apply Imp.left; exact Imp.refl _) | (apply Imp.right; exact Imp.refl _) | (apply Imp.left; apply Imp.left; exact Imp.refl _))) | (apply EvC.now; exact rfl) | exact rfl | (with_reducible exact EvAll.nil) | (focus (repeat (first | apply EvAll.cons | exact EvAll.nil | (apply EvC.gv; exact rfl; (with_reducible first | exact Imp.refl _ | (apply Imp.left; exact Imp.refl _) | (apply Imp.right; exact Imp.refl _) | (apply Imp.left; apply Imp.left; exact Imp.refl _))) | (apply EvC.now; exact rfl))); done) | (first | apply ext_inst | apply ext_row) | (focus (repeat (first | apply List.Mem.head | apply List.Mem.tail)))))); (simp only [List.set_cons_succ, List.set_cons_zero]; exact rfl))
    | ((with_reducible apply q_gd); (first | (apply GdBy.gt; exact rfl; exact rfl) | (apply GdBy.gf; exact rfl; exact rfl) | (apply GdBy.t; exact rfl; exact rfl) | (apply GdBy.f; exact rfl; exact rfl)); ((with_reducible apply t_num) <;> (first | (apply EvC.gv; exact rfl; (with_reducible first | exact Imp.refl _ | (apply Imp.left; exact Imp.refl _) | (apply Imp.right; exact Imp.refl _) | (apply Imp.left; apply Imp.left; exact Imp.refl _))) | (apply EvC.now; exact rfl) | exact rfl | (with_reducible exact EvAll.nil) | (focus (repeat (first | apply EvAll.cons | exact EvAll.nil | (apply EvC.gv; exact rfl; (with_reducible first | exact Imp.refl _ | (apply Imp.left; exact Imp.refl _) | (apply Imp.right; exact Imp.refl _) | (apply Imp.left; apply Imp.left; exact Imp.refl _))) | (apply EvC.now; exact rfl))); done) | (first | apply ext_inst | apply ext_row) | (focus (repeat (first | apply List.Mem.head | apply List.Mem.tail))))); (simp only [List.set_cons_succ, List.set_cons_zero]; exact rfl))
    | ((with_reducible apply wpT1_gpure); (first | (apply GdBy.gt; exact rfl; exact rfl) | (apply GdBy.gf; exact rfl; exact rfl) | (apply GdBy.t; exact rfl; exact rfl) | (apply GdBy.f; exact rfl; exact rfl)); intro K hK; go_simp; refine hK _ ?_; clear hK K; simp only [List.set_cons_succ, List.set_cons_zero])
    | ((with_reducible apply wpT1_pure); exact rfl; intro K hK; go_simp; refine hK _ ?_; clear hK K; simp only [List.set_cons_succ, List.set_cons_zero]))
  refine wpT_nil ?_
  clear hR; intro w hR
  go_wp2
  go_ret
  exact ⟨rfl, hR.below⟩

def mayRepC (rep n : Int) : Bool := bif rep == 0 then true else bif rep == 1 then n == 2 else bif rep == 2 then decide (0 < n) else false
theorem mayRepeat_any (rep n : Int) (w : World) :
    Calls Tryd.prog 53 #[.int .i64 rep, .int .i64 n] w fun e w' => e = .returned (.bool (mayRepC rep n)) ∧ w = w' := by
  go_enter Tryd.func53, Tryd.ntmps53
  go_wp2
  all_goals
    go_ret
    exact ⟨ret_bool (by simp [mayRepC, *]), rfl⟩

def dispsZ (mod rm : Int) : Int := bif mod == 1 then 1 else bif mod == 2 then 2 else bif mod == 0 && rm == 6 then 2 else 0
theorem dispsC_any (mod rm : Int) (w : World) :
    Calls Tryd.prog 57 #[.int .i64 mod, .int .i64 rm] w fun e w' => e = .returned (.int .i64 (dispsZ mod rm)) ∧ w = w' := by
  go_enter Tryd.func57, Tryd.ntmps57
  go_wp2
  all_goals
    go_ret
    exact ⟨ret_int (by first | (simp [dispsZ, *]; done) | (simp [dispsZ, *, show (mod == 0) = false from by simp [*]])), rfl⟩
theorem dispsR_any (mod rm : Int) (w : World) :
    Calls Tryd.prog 26 #[.int .i64 mod, .int .i64 rm] w fun e w' => e = .returned (.int .i64 (dispsZ mod rm)) ∧ w = w' := by
  go_enter Tryd.func26, Tryd.ntmps26
  go_wp2
  all_goals
    go_ret
    exact ⟨ret_int (by first | (simp [dispsZ, *]; done) | (simp [dispsZ, *, show (mod == 0) = false from by simp [*]])), rfl⟩
end Go.Proofs.YtpngjefdgicmiaaDoor
