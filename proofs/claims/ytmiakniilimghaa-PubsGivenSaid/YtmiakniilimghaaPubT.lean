








/- What is given and taken, as values: types, fields, how they come in, are put and held against others. No statement of the seat is proved here. -/
import Derived.Test.YtmiakniilimghaaPubM
import Derived.Test.YtmiakniilimghaaRecT
import Derived.Test.YtmiakniilimghaaSame
import Derived.Test.YtmiakniilimghaaLst
import Derived.Test.YtmiakniilimghaaStrs
namespace Go.Proofs.Ytmiakniilimghaa
open Go.ChangeShapes Go.WideShapes Go.ChangeAt Go.RowKit
set_option linter.unusedVariables false
set_option linter.unusedSimpArgs false

def encPub (p : PubZ) : Array Value := #[.int .i64 p.g, .int .i64 p.s, .int .u16 p.f, .string (strOfNums p.nm), .int .u16 p.o]
def encExt (x : ExtZ) : Array Value := #[.string (strOfNums x.nm), .int .i64 x.c, .int .u32 x.l]
theorem cellsPub_len (p : PubZ) : (cellsPub p).length = 5 := rfl
theorem cellsExt_len (x : ExtZ) : (cellsExt x).length = 3 := rfl
theorem cellsPub_one (p : PubZ) : (cellsPub p).all (·.oneCell') = true := by simp [cellsPub, Value.oneCell']
theorem cellsExt_one (x : ExtZ) : (cellsExt x).all (·.oneCell') = true := by simp [cellsExt, Value.oneCell']
theorem tWordP : OneTy Try.prog 23 := .of Try.underlying23 rfl (by kernel_rfl)
theorem tNumX : OneTy Try.prog 42 := .of Try.underlying42 rfl (by kernel_rfl)
theorem iPub : (Try.prog.info? 25).map (·.size) = some 5 := by kernel_rfl
theorem tPub : RowTy Try.prog 25 5 := .of Try.underlying25 rfl iPub
theorem zPub : ZeroTy Try.prog 25 (encPub zeroP) := .of (by kernel_rfl)
theorem iExt : (Try.prog.info? 44).map (·.size) = some 3 := by kernel_rfl
theorem tExt : RowTy Try.prog 44 3 := .of Try.underlying44 rfl iExt
theorem zExt : ZeroTy Try.prog 44 (encExt zeroX) := .of (by kernel_rfl)
theorem fPub (k : Nat) (h : k < 5) : FieldAt Try.prog 25 k k := by
  match k, h with
  | 0, _ => exact ⟨fun g w => by simp [go_sem, Instr.fieldAt, fieldPlace]⟩
  | 1, _ => exact ⟨fun g w => by simp [go_sem, Instr.fieldAt, fieldPlace]⟩
  | 2, _ => exact ⟨fun g w => by simp [go_sem, Instr.fieldAt, fieldPlace]⟩
  | 3, _ => exact ⟨fun g w => by simp [go_sem, Instr.fieldAt, fieldPlace]⟩
  | 4, _ => exact ⟨fun g w => by simp [go_sem, Instr.fieldAt, fieldPlace]⟩
theorem fPubA (k : Nat) (h : k < 5) : FieldAtA Try.prog 25 k k := by
  match k, h with
  | 0, _ => exact ⟨fun g w => by simp [go_sem, Instr.fieldAt, fieldPlace]⟩
  | 1, _ => exact ⟨fun g w => by simp [go_sem, Instr.fieldAt, fieldPlace]⟩
  | 2, _ => exact ⟨fun g w => by simp [go_sem, Instr.fieldAt, fieldPlace]⟩
  | 3, _ => exact ⟨fun g w => by simp [go_sem, Instr.fieldAt, fieldPlace]⟩
  | 4, _ => exact ⟨fun g w => by simp [go_sem, Instr.fieldAt, fieldPlace]⟩
theorem fExt (k : Nat) (h : k < 3) : FieldAt Try.prog 44 k k := by
  match k, h with
  | 0, _ => exact ⟨fun g w => by simp [go_sem, Instr.fieldAt, fieldPlace]⟩
  | 1, _ => exact ⟨fun g w => by simp [go_sem, Instr.fieldAt, fieldPlace]⟩
  | 2, _ => exact ⟨fun g w => by simp [go_sem, Instr.fieldAt, fieldPlace]⟩
theorem fExtA (k : Nat) (h : k < 3) : FieldAtA Try.prog 44 k k := by
  match k, h with
  | 0, _ => exact ⟨fun g w => by simp [go_sem, Instr.fieldAt, fieldPlace]⟩
  | 1, _ => exact ⟨fun g w => by simp [go_sem, Instr.fieldAt, fieldPlace]⟩
  | 2, _ => exact ⟨fun g w => by simp [go_sem, Instr.fieldAt, fieldPlace]⟩
theorem ext_pub (p : PubZ) : ExtRel (encPub p) 0 5 (encPub p) := extract_all rfl
theorem ext_ext (x : ExtZ) : ExtRel (encExt x) 0 3 (encExt x) := extract_all rfl
theorem put_pub (p q : PubZ) : PutRel (encPub p) 0 (encPub q).toList (encPub q) := putList_all rfl
theorem put_ext (x y : ExtZ) : PutRel (encExt x) 0 (encExt y).toList (encExt y) := putList_all rfl
theorem one_pub (p : PubZ) : (encPub p).all (·.oneCell') = true := by simp [encPub, Value.oneCell']
theorem one_ext (x : ExtZ) : (encExt x).all (·.oneCell') = true := by simp [encExt, Value.oneCell']
theorem put_ps (p : PubZ) (x : Int) : PutRel (encPub p) 1 [.int .i64 x] (encPub { p with s := x }) := ⟨rfl⟩
theorem put_pf (p : PubZ) (x : Int) : PutRel (encPub p) 2 [.int .u16 x] (encPub { p with f := x }) := ⟨rfl⟩
theorem tPubsB : SliceB Try.prog 22 25 5 48 := .of (z := .agg (encPub zeroP)) Try.underlying22 (by kernel_rfl) rfl (by decide)
theorem tExtsB : SliceB Try.prog 39 44 3 32 := .of (z := .agg (encExt zeroX)) Try.underlying39 (by kernel_rfl) rfl (by decide)
theorem bPubs0 : BuiltS Try.prog 22 0 [] 25 #[] := ⟨fun w => by simp [go_sem]⟩
theorem bPubs1 (p : PubZ) : BuiltS Try.prog 22 1 [(0, .agg (encPub p))] 25 (encPub p) := ⟨fun w => by simp [go_sem, encPub]⟩
theorem bExts0 : BuiltS Try.prog 39 0 [] 44 #[] := ⟨fun w => by simp [go_sem]⟩
theorem bExts1 (x : ExtZ) : BuiltS Try.prog 39 1 [(0, .agg (encExt x))] 44 (encExt x) := ⟨fun w => by simp [go_sem, encExt]⟩
theorem cell_text22 {P : Program} {w : World} {r : Reach} {base : Nat} {u : TypeId} {c : Value} (hu : P.underlying u = some .string) (h : Cell.okWide P w r base u c) : ∃ s, c = .string s := by
  unfold Cell.okWide at h
  rw [hu] at h
  unfold Cell.ok at h
  rw [hu] at h
  cases c <;> simp only [] at h <;> first | exact h.elim | exact ⟨_, rfl⟩
theorem open_pub {w : World} {base : Nat} {x : Value} (h : Value.okWide Try.prog w .any base 25 x) : ∃ p : PubZ, p.ok ∧ x = .agg (encPub p) := by
  obtain ⟨cs, rfl, hl, hc⟩ := open_flat (ts := [3, 3, 23, 9, 23]) Try.underlying25 rfl (by kernel_rfl) (by kernel_rfl) h
  match cs, hl with
  | [c0, c1, c2, c3, c4], _ =>
    obtain ⟨n0, rfl, b0⟩ := cell_int Try.underlying3 (hc 0 _ _ rfl rfl)
    obtain ⟨n1, rfl, b1⟩ := cell_int Try.underlying3 (hc 1 _ _ rfl rfl)
    obtain ⟨n2, rfl, b2⟩ := cell_int Try.underlying23 (hc 2 _ _ rfl rfl)
    obtain ⟨s3, rfl⟩ := cell_text22 Try.underlying9 (hc 3 _ _ rfl rfl)
    obtain ⟨n4, rfl, b4⟩ := cell_int Try.underlying23 (hc 4 _ _ rfl rfl)
    have b4' : 0 ≤ n4 ∧ n4 ≤ 65535 := b4
    obtain ⟨m4, rfl⟩ := Int.eq_ofNat_of_zero_le b4'.1
    exact ⟨⟨n0, n1, n2, numsS s3, m4⟩, ⟨b0, b1, b2, numsS_ok s3, by dsimp only; omega⟩, by unfold encPub; rw [strOf_nums]⟩
section
variable {H : Type} {enc : TypeId × Value → H} {w : World} {base : Nat} {spare : Nat → Bool} {held : Bool}
theorem open_pubEl {m : Nat} {cs : List Value} {x : DataW H × List MemPlace} (h : DataW.trod enc Try.prog w base spare held m 25 cs = some x) (hl : cs.length = 5) : ∃ p : PubZ, p.ok ∧ cs = cellsPub p := by
  obtain ⟨ys, n, rfl, _, _, hy, hf⟩ := DataW.trod_struct Try.underlying25 h
  have c2 : Try.prog.cellsOf 3 = 1 := by kernel_rfl
  have c3 : Try.prog.cellsOf 23 = 1 := by kernel_rfl
  have c4 : Try.prog.cellsOf 9 = 1 := by kernel_rfl
  match cs, hl with
  | [x0, x1, x2, x3, x4], _ =>
    have hy' : ys.length = 5 := hy
    have h0 : DataW.trod enc Try.prog w base spare held n 3 (([x0, x1, x2, x3, x4].drop 0).take (Try.prog.cellsOf 3)) = ys[0]? := hf 0 _ rfl
    rw [c2] at h0
    have h1 : DataW.trod enc Try.prog w base spare held n 3 (([x0, x1, x2, x3, x4].drop 1).take (Try.prog.cellsOf 3)) = ys[1]? := hf 1 _ rfl
    rw [c2] at h1
    have h2 : DataW.trod enc Try.prog w base spare held n 23 (([x0, x1, x2, x3, x4].drop 2).take (Try.prog.cellsOf 23)) = ys[2]? := hf 2 _ rfl
    rw [c3] at h2
    have h3 : DataW.trod enc Try.prog w base spare held n 9 (([x0, x1, x2, x3, x4].drop 3).take (Try.prog.cellsOf 9)) = ys[3]? := hf 3 _ rfl
    rw [c4] at h3
    have h4 : DataW.trod enc Try.prog w base spare held n 23 (([x0, x1, x2, x3, x4].drop 4).take (Try.prog.cellsOf 23)) = ys[4]? := hf 4 _ rfl
    rw [c3] at h4
    obtain ⟨n0, rfl, w0⟩ := cell1 Try.underlying3 h0 (some_at hy' (by decide)) (x := x0) rfl
    obtain ⟨n1, rfl, w1⟩ := cell1 Try.underlying3 h1 (some_at hy' (by decide)) (x := x1) rfl
    obtain ⟨n2, rfl, w2⟩ := cell1 Try.underlying23 h2 (some_at hy' (by decide)) (x := x2) rfl
    obtain ⟨y3, hy3⟩ := Option.isSome_iff_exists.1 (some_at hy' (show 3 < 5 by decide))
    rw [hy3] at h3
    obtain ⟨s3, hs3, _, _⟩ := DataW.trod_string Try.underlying9 h3
    have hx3 : x3 = .string s3 := (List.cons.inj hs3).1
    obtain ⟨n4, rfl, w4⟩ := cell1 Try.underlying23 h4 (some_at hy' (by decide)) (x := x4) rfl
    have b4 := bounds_u16 w4
    obtain ⟨m4, rfl⟩ := Int.eq_ofNat_of_zero_le b4.1
    refine ⟨⟨n0, n1, n2, numsS s3, m4⟩, ⟨bounds_i64 w0, bounds_i64 w1, bounds_u16 w2, numsS_ok s3, by dsimp only; omega⟩, ?_⟩
    rw [hx3]; unfold cellsPub; rw [strOf_nums]
theorem open_extEl {m : Nat} {cs : List Value} {x : DataW H × List MemPlace} (h : DataW.trod enc Try.prog w base spare held m 44 cs = some x) (hl : cs.length = 3) : ∃ p : ExtZ, p.ok ∧ cs = cellsExt p := by
  obtain ⟨ys, n, rfl, _, _, hy, hf⟩ := DataW.trod_struct Try.underlying44 h
  have c2 : Try.prog.cellsOf 3 = 1 := by kernel_rfl
  have c3 : Try.prog.cellsOf 42 = 1 := by kernel_rfl
  have c4 : Try.prog.cellsOf 9 = 1 := by kernel_rfl
  match cs, hl with
  | [x0, x1, x2], _ =>
    have hy' : ys.length = 3 := hy
    have h0 : DataW.trod enc Try.prog w base spare held n 9 (([x0, x1, x2].drop 0).take (Try.prog.cellsOf 9)) = ys[0]? := hf 0 _ rfl
    rw [c4] at h0
    have h1 : DataW.trod enc Try.prog w base spare held n 3 (([x0, x1, x2].drop 1).take (Try.prog.cellsOf 3)) = ys[1]? := hf 1 _ rfl
    rw [c2] at h1
    have h2 : DataW.trod enc Try.prog w base spare held n 42 (([x0, x1, x2].drop 2).take (Try.prog.cellsOf 42)) = ys[2]? := hf 2 _ rfl
    rw [c3] at h2
    obtain ⟨y0, hy0⟩ := Option.isSome_iff_exists.1 (some_at hy' (show 0 < 3 by decide))
    rw [hy0] at h0
    obtain ⟨s0, hs0, _, _⟩ := DataW.trod_string Try.underlying9 h0
    have hx0 : x0 = .string s0 := (List.cons.inj hs0).1
    obtain ⟨n1, rfl, w1⟩ := cell1 Try.underlying3 h1 (some_at hy' (by decide)) (x := x1) rfl
    obtain ⟨n2, rfl, w2⟩ := cell1 Try.underlying42 h2 (some_at hy' (by decide)) (x := x2) rfl
    have b2 := bounds_u32 w2
    obtain ⟨m2, rfl⟩ := Int.eq_ofNat_of_zero_le b2.1
    refine ⟨⟨numsS s0, n1, m2⟩, ⟨numsS_ok s0, bounds_i64 w1, by dsimp only; omega⟩, ?_⟩
    rw [hx0]; unfold cellsExt; rw [strOf_nums]
def PubsIn (w : World) (v : Value) : Prop := ∃ l : List PubZ, (∀ p ∈ l, p.ok) ∧ RowsAt 5 cellsPub w v l
def ExtsIn (w : World) (v : Value) : Prop := ∃ l : List ExtZ, (∀ x ∈ l, x.ok) ∧ RowsAt 3 cellsExt w v l
theorem open_pubs {W : World} {b : Nat} {v : Value} {d : DataW H} {p : List MemPlace} (hk : Value.okWide Try.prog W .any b 22 v) (h : DataW.Trod enc Try.prog w base spare held 22 v d p) : PubsIn w v :=
  open_list zeroP cellsPub_len (by decide) cellsPub_one Try.underlying22 (by kernel_rfl) open_pubEl hk h
theorem open_exts {W : World} {b : Nat} {v : Value} {d : DataW H} {p : List MemPlace} (hk : Value.okWide Try.prog W .any b 39 v) (h : DataW.Trod enc Try.prog w base spare held 39 v d p) : ExtsIn w v :=
  open_list zeroX cellsExt_len (by decide) cellsExt_one Try.underlying39 (by kernel_rfl) open_extEl hk h
end
theorem gPub : Try.prog.eqGuardType Try.prog.depth 25 = false := by kernel_rfl
theorem eqP_self (p : PubZ) : eqB Try.prog 9 25 (.agg (encPub p)) (.agg (encPub p)) = some true := by
  have h : eqB Try.prog 9 25 (.agg (encPub p)) (.agg (encPub p)) = some ((p.g == p.g) && ((p.s == p.s) && ((p.f == p.f) && (((strOfNums p.nm).toList == (strOfNums p.nm).toList) && (((p.o : Int) == (p.o : Int)) && true))))) := by kernel_rfl
  rw [h]; simp
theorem gExt : Try.prog.eqGuardType Try.prog.depth 44 = false := by kernel_rfl
theorem eqX_self (x : ExtZ) : eqB Try.prog 9 44 (.agg (encExt x)) (.agg (encExt x)) = some true := by
  have h : eqB Try.prog 9 44 (.agg (encExt x)) (.agg (encExt x)) = some (((strOfNums x.nm).toList == (strOfNums x.nm).toList) && ((x.c == x.c) && (((x.l : Int) == (x.l : Int)) && true))) := by kernel_rfl
  rw [h]; simp
end Go.Proofs.Ytmiakniilimghaa
