








/- A segment's struct as a value: its type, its fields, how it comes in, is put and held against another. No statement of the seat is proved here. -/
import Derived.Test.YtmdiemebfmnmkaaSegM
import Derived.Test.YtmdiemebfmnmkaaRecT
import Derived.Test.YtmdiemebfmnmkaaSame
namespace Go.Proofs.Ytmdiemebfmnmkaa
open Go.ChangeShapes Go.WideShapes Go.ChangeAt Go.RowKit
set_option linter.unusedVariables false
set_option linter.unusedSimpArgs false

theorem iSeg : (Try.prog.info? 24).map (·.size) = some 8 := by kernel_rfl
theorem tSeg : RowTy Try.prog 24 8 := .of Try.underlying24 rfl iSeg
theorem tWordS : OneTy Try.prog 22 := .of Try.underlying22 rfl (by kernel_rfl)
theorem zSeg : ZeroTy Try.prog 24 (encSeg zeroS) := .of (by kernel_rfl)
theorem fSeg (k : Nat) (h : k < 8) : FieldAt Try.prog 24 k k := by
  match k, h with
  | 0, _ => exact ⟨fun g w => by simp [go_sem, Instr.fieldAt, fieldPlace]⟩
  | 1, _ => exact ⟨fun g w => by simp [go_sem, Instr.fieldAt, fieldPlace]⟩
  | 2, _ => exact ⟨fun g w => by simp [go_sem, Instr.fieldAt, fieldPlace]⟩
  | 3, _ => exact ⟨fun g w => by simp [go_sem, Instr.fieldAt, fieldPlace]⟩
  | 4, _ => exact ⟨fun g w => by simp [go_sem, Instr.fieldAt, fieldPlace]⟩
  | 5, _ => exact ⟨fun g w => by simp [go_sem, Instr.fieldAt, fieldPlace]⟩
  | 6, _ => exact ⟨fun g w => by simp [go_sem, Instr.fieldAt, fieldPlace]⟩
  | 7, _ => exact ⟨fun g w => by simp [go_sem, Instr.fieldAt, fieldPlace]⟩
theorem ext_seg (s : SegZ) : ExtRel (encSeg s) 0 8 (encSeg s) := extract_all rfl
theorem put_seg (s d : SegZ) : PutRel (encSeg s) 0 (encSeg d).toList (encSeg d) := putList_all rfl
theorem one_seg (s : SegZ) : (encSeg s).all (·.oneCell') = true := by simp [encSeg, Value.oneCell']
theorem put_a (s : SegZ) (x : Int) : PutRel (encSeg s) 0 [.int .i64 x] (encSeg { s with a := x }) := ⟨rfl⟩
theorem put_c (s : SegZ) (x : Int) : PutRel (encSeg s) 1 [.int .i64 x] (encSeg { s with c := x }) := ⟨rfl⟩
theorem put_f (s : SegZ) (x : Int) : PutRel (encSeg s) 2 [.int .u16 x] (encSeg { s with f := x }) := ⟨rfl⟩
theorem put_o (s : SegZ) (x : Int) : PutRel (encSeg s) 3 [.int .u8 x] (encSeg { s with o := x }) := ⟨rfl⟩
theorem put_l (s : SegZ) (x : Int) : PutRel (encSeg s) 4 [.int .i64 x] (encSeg { s with l := x }) := ⟨rfl⟩
theorem put_n (s : SegZ) (x : Int) : PutRel (encSeg s) 5 [.int .i64 x] (encSeg { s with n := x }) := ⟨rfl⟩
theorem open_seg {w : World} {base : Nat} {x : Value} (h : Value.okWide Try.prog w .any base 24 x) : ∃ s : SegZ, s.ok ∧ x = .agg (encSeg s) := by
  obtain ⟨cs, rfl, hl, hc⟩ := open_flat (ts := [3, 3, 22, 5, 3, 3, 3, 3]) Try.underlying24 rfl (by kernel_rfl) (by kernel_rfl) h
  match cs, hl with
  | [c0, c1, c2, c3, c4, c5, c6, c7], _ =>
    obtain ⟨n0, rfl, b0⟩ := cell_int Try.underlying3 (hc 0 _ _ rfl rfl)
    obtain ⟨n1, rfl, b1⟩ := cell_int Try.underlying3 (hc 1 _ _ rfl rfl)
    obtain ⟨n2, rfl, b2⟩ := cell_int Try.underlying22 (hc 2 _ _ rfl rfl)
    obtain ⟨n3, rfl, b3⟩ := cell_int Try.underlying5 (hc 3 _ _ rfl rfl)
    obtain ⟨n4, rfl, b4⟩ := cell_int Try.underlying3 (hc 4 _ _ rfl rfl)
    obtain ⟨n5, rfl, b5⟩ := cell_int Try.underlying3 (hc 5 _ _ rfl rfl)
    obtain ⟨n6, rfl, b6⟩ := cell_int Try.underlying3 (hc 6 _ _ rfl rfl)
    obtain ⟨n7, rfl, b7⟩ := cell_int Try.underlying3 (hc 7 _ _ rfl rfl)
    exact ⟨⟨n0, n1, n2, n3, n4, n5, n6, n7⟩, ⟨b0, b1, b2, b3, b4, b5, b6, b7⟩, rfl⟩
theorem gSeg : Try.prog.eqGuardType Try.prog.depth 24 = false := by kernel_rfl
theorem eqB_seg (s d : SegZ) : eqB Try.prog 9 24 (.agg (encSeg s)) (.agg (encSeg d)) = some (decide (s = d)) := by
  have h : eqB Try.prog 9 24 (.agg (encSeg s)) (.agg (encSeg d)) = some ((s.a == d.a) && ((s.c == d.c) && ((s.f == d.f) && ((s.o == d.o) && ((s.l == d.l) && ((s.n == d.n) && ((s.k == d.k) && ((s.v == d.v) && true)))))))) := by kernel_rfl
  rw [h]
  congr 1
  rw [Bool.eq_iff_iff]
  cases s; cases d
  simp
theorem eqS_self (s : SegZ) : eqB Try.prog 9 24 (.agg (encSeg s)) (.agg (encSeg s)) = some true := by rw [eqB_seg]; simp
end Go.Proofs.Ytmdiemebfmnmkaa
