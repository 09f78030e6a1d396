






/- A record's struct: its type, its fields, how it is put and read. No statement of the seat is proved here. -/
import Derived.Test.YtimciiaajlfkoaaRecZ
namespace Go.Proofs.Ytimciiaajlfkoaa
open Go.ChangeShapes Go.WideShapes Go.ChangeAt Go.RowKit
set_option linter.unusedVariables false
set_option linter.unusedSimpArgs false

theorem iRec : (Try.prog.info? 36).map (·.size) = some 2 := by kernel_rfl
theorem tRec : RowTy Try.prog 36 2 := .of Try.underlying36 rfl iRec
theorem zRec : ZeroTy Try.prog 36 #[.int .u8 0, .slice none 0 0] := .of (by kernel_rfl)
theorem fRec (k : Nat) (h : k < 2) : FieldAt Try.prog 36 k k := by
  match k, h with
  | 0, _ => exact ⟨fun g w => by simp [go_sem, Instr.fieldAt, fieldPlace]⟩
  | 1, _ => exact ⟨fun g w => by simp [go_sem, Instr.fieldAt, fieldPlace]⟩
theorem tByteR : OneTy Try.prog 5 := .of Try.underlying5 rfl (by kernel_rfl)
theorem tIntR : OneTy Try.prog 3 := .of Try.underlying3 rfl (by kernel_rfl)
theorem tSlR : OneTy Try.prog 29 := .of Try.underlying29 rfl (by kernel_rfl)
theorem tBytesB : SliceB Try.prog 29 5 1 1 := .of (z := .int .u8 0) Try.underlying29 (by kernel_rfl) rfl (by decide)
theorem bB0 : BuiltS Try.prog 29 0 [] 5 #[] := ⟨fun w => by simp [go_sem]⟩
theorem put_rec (k : Int) (v : Value) (k' : Int) (v' : Value) : PutRel #[.int .u8 k, v] 0 (#[Value.int .u8 k', v'] : Array Value).toList #[.int .u8 k', v'] := putList_all rfl
theorem one_rec (k : Int) {w : World} {v : Value} {bs : List Int} (h : SrcW w v bs) : (#[Value.int .u8 k, v] : Array Value).all (·.oneCell') = true := by
  obtain ⟨a, n, c, rfl⟩ := h.shape
  simp [Value.oneCell']
theorem fvRec (k : Int) (v : Value) : FieldVal Try.prog 36 1 #[.int .u8 k, v] v := ⟨fun w => by kernel_rfl⟩
theorem fvRec0 (k : Int) (v : Value) : FieldVal Try.prog 36 0 #[.int .u8 k, v] (.int .u8 k) := ⟨fun w => by kernel_rfl⟩
theorem ext_recQ (k : Int) (v : Value) : ExtRel #[.int .u8 k, v] 0 2 #[.int .u8 k, v] := extract_all rfl
theorem bRecZ : Built Try.prog 36 [] #[.int .u8 0, .slice none 0 0] := ⟨by kernel_rfl⟩
theorem bRecS (k : Int) (a : Option Addr) (n c : Nat) : Built Try.prog 36 [(0, .int .u8 k), (1, .slice a n c)] #[.int .u8 k, .slice a n c] := ⟨by kernel_rfl⟩
theorem bRec {w : World} {v : Value} {bs : List Int} (k : Int) (h : SrcW w v bs) : Built Try.prog 36 [(0, .int .u8 k), (1, v)] #[.int .u8 k, v] := by
  obtain ⟨a, n, c, rfl⟩ := h.shape
  exact bRecS k a n c
/-- A struct in a cell and two results in slots. -/
theorem post_row_two {P : Program} {fn : Func} {R : Ending → World → Prop} {a : Act} {w0 w : World} {l : List RowT} (hR : Own w0 w l) {p q r : Tmp} {ty : TypeId} (h : fn.results = #[.cell p ty, .tmp q, .tmp r]) {g : Nat} {t : TypeId} {cs : Array Value} {d : TypeDesc} {n : Nat} {v u : Value}
    (hp : a.tmps.getD p undef = .pointer (some ⟨g, 0, none⟩)) (hq : a.tmps.getD q undef = v) (hr : a.tmps.getD r undef = u) (hm : (g, cs, t) ∈ l) (hu : P.underlying ty = some d) (hd : (match d with | .struct _ | .array _ _ => true | _ => false) = true) (hi : (P.info? ty).map (·.size) = some n) (hn : cs.size = n)
    (hdf : a.defers = []) (hR2 : R (.returned (.tuple #[.agg cs, v, u])) w) : bodyPost P fn R .ret a w := by
  refine bodyPost_ret ?_ hdf hR2
  have hp' : a.tmps[p]?.getD undef = .pointer (some ⟨g, 0, none⟩) := by simpa using hp
  have hq' : a.tmps[q]?.getD undef = v := by simpa using hq
  have hr' : a.tmps[r]?.getD undef = u := by simpa using hr
  simp [results, h, hp', hq', hr', asAddr, run_loadVar_row w g t ty cs (0, 0) d (hR.get hm) hu hd (by rw [hi, hn])]
end Go.Proofs.Ytimciiaajlfkoaa
