








/- A fixup as a value: its type, its fields, how it comes in, is put, read and held against others; lists of them. No statement of the seat is proved here. -/
import Derived.Test.YtimciiaajlfkoaaFixM
import Derived.Test.YtimciiaajlfkoaaRecT
import Derived.Test.YtimciiaajlfkoaaSame
import Derived.Test.YtimciiaajlfkoaaLst
namespace Go.Proofs.Ytimciiaajlfkoaa
open Go.ChangeShapes Go.WideShapes Go.ChangeAt Go.RowKit
set_option linter.unusedVariables false
set_option linter.unusedSimpArgs false

def encF (f : FixZ) : Array Value := #[.int .i64 f.a, .int .i64 f.loc, .bool f.sf, .int .i64 f.fr, .int .i64 f.fn, .int .i64 f.tg, .int .i64 f.n, .int .u16 f.d]
def cellsF (f : FixZ) : List Value := (encF f).toList
theorem cellsF_len (f : FixZ) : (cellsF f).length = 8 := rfl
theorem cellsF_one (f : FixZ) : (cellsF f).all (·.oneCell') = true := by simp [cellsF, encF, Value.oneCell']
theorem tWordF : OneTy Try.prog 22 := .of Try.underlying22 rfl (by kernel_rfl)
theorem tBoolF : OneTy Try.prog 4 := .of Try.underlying4 rfl (by kernel_rfl)
theorem iFix : (Try.prog.info? 24).map (·.size) = some 8 := by kernel_rfl
theorem tFix : RowTy Try.prog 24 8 := .of Try.underlying24 rfl iFix
theorem zFix : ZeroTy Try.prog 24 (encF zeroF) := .of (by kernel_rfl)
theorem fFix (k : Nat) (h : k < 8) : FieldAt Try.prog 24 k k := by
  match k, h with
  | 0, _ => exact ⟨fun g w => by simp [go_sem, Instr.fieldAt, fieldPlace]⟩
  | 1, _ => exact ⟨fun g w => by simp [go_sem, Instr.fieldAt, fieldPlace]⟩
  | 2, _ => exact ⟨fun g w => by simp [go_sem, Instr.fieldAt, fieldPlace]⟩
  | 3, _ => exact ⟨fun g w => by simp [go_sem, Instr.fieldAt, fieldPlace]⟩
  | 4, _ => exact ⟨fun g w => by simp [go_sem, Instr.fieldAt, fieldPlace]⟩
  | 5, _ => exact ⟨fun g w => by simp [go_sem, Instr.fieldAt, fieldPlace]⟩
  | 6, _ => exact ⟨fun g w => by simp [go_sem, Instr.fieldAt, fieldPlace]⟩
  | 7, _ => exact ⟨fun g w => by simp [go_sem, Instr.fieldAt, fieldPlace]⟩
theorem fFixA (k : Nat) (h : k < 8) : FieldAtA Try.prog 24 k k := by
  match k, h with
  | 0, _ => exact ⟨fun g w => by simp [go_sem, Instr.fieldAt, fieldPlace]⟩
  | 1, _ => exact ⟨fun g w => by simp [go_sem, Instr.fieldAt, fieldPlace]⟩
  | 2, _ => exact ⟨fun g w => by simp [go_sem, Instr.fieldAt, fieldPlace]⟩
  | 3, _ => exact ⟨fun g w => by simp [go_sem, Instr.fieldAt, fieldPlace]⟩
  | 4, _ => exact ⟨fun g w => by simp [go_sem, Instr.fieldAt, fieldPlace]⟩
  | 5, _ => exact ⟨fun g w => by simp [go_sem, Instr.fieldAt, fieldPlace]⟩
  | 6, _ => exact ⟨fun g w => by simp [go_sem, Instr.fieldAt, fieldPlace]⟩
  | 7, _ => exact ⟨fun g w => by simp [go_sem, Instr.fieldAt, fieldPlace]⟩
theorem ext_fix (f : FixZ) : ExtRel (encF f) 0 8 (encF f) := extract_all rfl
theorem put_fix (f g : FixZ) : PutRel (encF f) 0 (encF g).toList (encF g) := putList_all rfl
theorem one_fix (f : FixZ) : (encF f).all (·.oneCell') = true := by simp [encF, Value.oneCell']
theorem put_fa (f : FixZ) (x : Int) : PutRel (encF f) 0 [.int .i64 x] (encF { f with a := x }) := ⟨rfl⟩
theorem put_floc (f : FixZ) (x : Int) : PutRel (encF f) 1 [.int .i64 x] (encF { f with loc := x }) := ⟨rfl⟩
theorem put_fsf (f : FixZ) (x : Bool) : PutRel (encF f) 2 [.bool x] (encF { f with sf := x }) := ⟨rfl⟩
theorem put_ffr (f : FixZ) (x : Int) : PutRel (encF f) 3 [.int .i64 x] (encF { f with fr := x }) := ⟨rfl⟩
theorem put_ffn (f : FixZ) (x : Int) : PutRel (encF f) 4 [.int .i64 x] (encF { f with fn := x }) := ⟨rfl⟩
theorem put_ftg (f : FixZ) (x : Int) : PutRel (encF f) 5 [.int .i64 x] (encF { f with tg := x }) := ⟨rfl⟩
theorem put_fn (f : FixZ) (x : Int) : PutRel (encF f) 6 [.int .i64 x] (encF { f with n := x }) := ⟨rfl⟩
theorem put_fd (f : FixZ) (x : Nat) : PutRel (encF f) 7 [.int .u16 (x : Int)] (encF { f with d := x }) := ⟨rfl⟩
theorem tFixesB : SliceB Try.prog 34 24 8 64 := .of (z := .agg (encF zeroF)) Try.underlying34 (by kernel_rfl) rfl (by decide)
theorem bFixes0 : BuiltS Try.prog 34 0 [] 24 #[] := ⟨fun w => by simp [go_sem]⟩
theorem bFixes1 (f : FixZ) : BuiltS Try.prog 34 1 [(0, .agg (encF f))] 24 (encF f) := ⟨fun w => by simp [go_sem, encF]⟩
theorem open_fix {w : World} {base : Nat} {x : Value} (h : Value.okWide Try.prog w .any base 24 x) : ∃ f : FixZ, f.ok ∧ x = .agg (encF f) := by
  obtain ⟨cs, rfl, hl, hc⟩ := open_flat (ts := [3, 3, 4, 3, 3, 3, 3, 22]) Try.underlying24 rfl (by kernel_rfl) (by kernel_rfl) h
  match cs, hl with
  | [c0, c1, c2, c3, c4, c5, c6, c7], _ =>
    obtain ⟨n0, rfl, b0⟩ := cell_int Try.underlying3 (hc 0 _ _ rfl rfl)
    obtain ⟨n1, rfl, b1⟩ := cell_int Try.underlying3 (hc 1 _ _ rfl rfl)
    obtain ⟨n2, rfl⟩ := cell_bool Try.underlying4 (hc 2 _ _ rfl rfl)
    obtain ⟨n3, rfl, b3⟩ := cell_int Try.underlying3 (hc 3 _ _ rfl rfl)
    obtain ⟨n4, rfl, b4⟩ := cell_int Try.underlying3 (hc 4 _ _ rfl rfl)
    obtain ⟨n5, rfl, b5⟩ := cell_int Try.underlying3 (hc 5 _ _ rfl rfl)
    obtain ⟨n6, rfl, b6⟩ := cell_int Try.underlying3 (hc 6 _ _ rfl rfl)
    obtain ⟨n7, rfl, b7⟩ := cell_int Try.underlying22 (hc 7 _ _ rfl rfl)
    have b7' : 0 ≤ n7 ∧ n7 ≤ 65535 := b7
    obtain ⟨m7, rfl⟩ := Int.eq_ofNat_of_zero_le b7'.1
    exact ⟨⟨n0, n1, n2, n3, n4, n5, n6, m7⟩, ⟨b0, b1, b3, b4, b5, b6, by dsimp only; omega⟩, rfl⟩
section
variable {H : Type} {enc : TypeId × Value → H} {w : World} {base : Nat} {spare : Nat → Bool} {held : Bool}
theorem open_fixEl {m : Nat} {cs : List Value} {x : DataW H × List MemPlace} (h : DataW.trod enc Try.prog w base spare held m 24 cs = some x) (hl : cs.length = 8) : ∃ f : FixZ, f.ok ∧ cs = cellsF f := by
  obtain ⟨ys, n, rfl, _, _, hy, hf⟩ := DataW.trod_struct Try.underlying24 h
  have c2 : Try.prog.cellsOf 3 = 1 := by kernel_rfl
  have c3 : Try.prog.cellsOf 22 = 1 := by kernel_rfl
  have c4 : Try.prog.cellsOf 4 = 1 := by kernel_rfl
  match cs, hl with
  | [x0, x1, x2, x3, x4, x5, x6, x7], _ =>
    have hy' : ys.length = 8 := hy
    have h0 : DataW.trod enc Try.prog w base spare held n 3 (([x0, x1, x2, x3, x4, x5, x6, x7].drop 0).take (Try.prog.cellsOf 3)) = ys[0]? := hf 0 _ rfl
    have h1 : DataW.trod enc Try.prog w base spare held n 3 (([x0, x1, x2, x3, x4, x5, x6, x7].drop 1).take (Try.prog.cellsOf 3)) = ys[1]? := hf 1 _ rfl
    have h2 : DataW.trod enc Try.prog w base spare held n 4 (([x0, x1, x2, x3, x4, x5, x6, x7].drop 2).take (Try.prog.cellsOf 4)) = ys[2]? := hf 2 _ rfl
    have h3 : DataW.trod enc Try.prog w base spare held n 3 (([x0, x1, x2, x3, x4, x5, x6, x7].drop 3).take (Try.prog.cellsOf 3)) = ys[3]? := hf 3 _ rfl
    have h4 : DataW.trod enc Try.prog w base spare held n 3 (([x0, x1, x2, x3, x4, x5, x6, x7].drop 4).take (Try.prog.cellsOf 3)) = ys[4]? := hf 4 _ rfl
    have h5 : DataW.trod enc Try.prog w base spare held n 3 (([x0, x1, x2, x3, x4, x5, x6, x7].drop 5).take (Try.prog.cellsOf 3)) = ys[5]? := hf 5 _ rfl
    have h6 : DataW.trod enc Try.prog w base spare held n 3 (([x0, x1, x2, x3, x4, x5, x6, x7].drop 6).take (Try.prog.cellsOf 3)) = ys[6]? := hf 6 _ rfl
    have h7 : DataW.trod enc Try.prog w base spare held n 22 (([x0, x1, x2, x3, x4, x5, x6, x7].drop 7).take (Try.prog.cellsOf 22)) = ys[7]? := hf 7 _ rfl
    rw [c2] at h0 h1 h3 h4 h5 h6
    rw [c3] at h7
    rw [c4] at h2
    obtain ⟨n0, rfl, w0⟩ := cell1 Try.underlying3 h0 (some_at hy' (by decide)) (x := x0) rfl
    obtain ⟨n1, rfl, w1⟩ := cell1 Try.underlying3 h1 (some_at hy' (by decide)) (x := x1) rfl
    obtain ⟨n2, rfl⟩ := cell1b Try.underlying4 h2 (some_at hy' (by decide)) (x := x2) rfl
    obtain ⟨n3, rfl, w3⟩ := cell1 Try.underlying3 h3 (some_at hy' (by decide)) (x := x3) rfl
    obtain ⟨n4, rfl, w4⟩ := cell1 Try.underlying3 h4 (some_at hy' (by decide)) (x := x4) rfl
    obtain ⟨n5, rfl, w5⟩ := cell1 Try.underlying3 h5 (some_at hy' (by decide)) (x := x5) rfl
    obtain ⟨n6, rfl, w6⟩ := cell1 Try.underlying3 h6 (some_at hy' (by decide)) (x := x6) rfl
    obtain ⟨n7, rfl, w7⟩ := cell1 Try.underlying22 h7 (some_at hy' (by decide)) (x := x7) rfl
    have b7 := bounds_u16 w7
    obtain ⟨m7, rfl⟩ := Int.eq_ofNat_of_zero_le b7.1
    exact ⟨⟨n0, n1, n2, n3, n4, n5, n6, m7⟩, ⟨bounds_i64 w0, bounds_i64 w1, bounds_i64 w3, bounds_i64 w4, bounds_i64 w5, bounds_i64 w6, by dsimp only; omega⟩, rfl⟩
def FixesIn (w : World) (v : Value) : Prop := ∃ l : List FixZ, (∀ f ∈ l, f.ok) ∧ RowsAt 8 cellsF w v l
theorem open_fixes {W : World} {b : Nat} {v : Value} {d : DataW H} {p : List MemPlace} (hk : Value.okWide Try.prog W .any b 34 v) (h : DataW.Trod enc Try.prog w base spare held 34 v d p) : FixesIn w v :=
  open_list zeroF cellsF_len (by decide) cellsF_one Try.underlying34 (by kernel_rfl) open_fixEl hk h
end
theorem gFix : Try.prog.eqGuardType Try.prog.depth 24 = false := by kernel_rfl
theorem eqF_self (f : FixZ) : eqB Try.prog 9 24 (.agg (encF f)) (.agg (encF f)) = some true := by
  have h : eqB Try.prog 9 24 (.agg (encF f)) (.agg (encF f)) = some ((f.a == f.a) && ((f.loc == f.loc) && ((f.sf == f.sf) && ((f.fr == f.fr) && ((f.fn == f.fn) && ((f.tg == f.tg) && ((f.n == f.n) && (((f.d : Int) == (f.d : Int)) && true)))))))) := by kernel_rfl
  rw [h]; simp
end Go.Proofs.Ytimciiaajlfkoaa
