








/- The struct of a block as a value, its bytes and blocks wherever they lie. No statement of the seat is proved here. -/
import Derived.Test.YtalgadinoaeihaaIterM
import Derived.Test.YtalgadinoaeihaaRecT
import Derived.Test.YtalgadinoaeihaaSame
import Derived.Test.YtalgadinoaeihaaBytesArg
import Derived.Test.YtalgadinoaeihaaLst
namespace Go.Proofs.Ytalgadinoaeihaa
open Go.ChangeShapes Go.WideShapes Go.ChangeAt Go.RowKit
set_option linter.unusedVariables false
set_option linter.unusedSimpArgs false

structure BlkV where
  t : Int
  v : Value
  x : Value
def encK (t : Int) (v x : Value) : Array Value := #[.int .i64 t, v, x]
def cellsK (d : BlkV) : List Value := (encK d.t d.v d.x).toList
def nilS : Value := .slice none 0 0
theorem cellsK_len (d : BlkV) : (cellsK d).length = 3 := rfl
structure IsS (v : Value) : Prop where
  shape : ∃ a n c, v = .slice a n c
theorem IsS.nil : IsS nilS := ⟨⟨_, _, _, rfl⟩⟩
theorem SrcW.isS {w : World} {v : Value} {bs : List Int} (h : SrcW w v bs) : IsS v := ⟨h.shape⟩
theorem iBlk : (Try.prog.info? 25).map (·.size) = some 3 := by kernel_rfl
theorem tBlk : RowTy Try.prog 25 3 := .of Try.underlying25 rfl iBlk
theorem tBlks : OneTy Try.prog 23 := .of Try.underlying23 rfl (by kernel_rfl)
theorem zBlk : ZeroTy Try.prog 25 (encK 0 nilS nilS) := .of (by kernel_rfl)
theorem fBlk (k : Nat) (h : k < 3) : FieldAt Try.prog 25 k k := by
  match k, h with
  | 0, _ => exact ⟨fun g w => by simp [go_sem, Instr.fieldAt, fieldPlace]⟩
  | 1, _ => exact ⟨fun g w => by simp [go_sem, Instr.fieldAt, fieldPlace]⟩
  | 2, _ => exact ⟨fun g w => by simp [go_sem, Instr.fieldAt, fieldPlace]⟩
theorem ext_blk (t : Int) (v x : Value) : ExtRel (encK t v x) 0 3 (encK t v x) := extract_all rfl
theorem put_blk (c : Array Value) (hc : c.size = 3) (t : Int) (v x : Value) : PutRel c 0 (encK t v x).toList (encK t v x) := putList_all (by simp [hc, encK])
theorem one_blk (t : Int) {v x : Value} (hv : IsS v) (hx : IsS x) : (encK t v x).all (·.oneCell') = true := by
  obtain ⟨a, n, c, rfl⟩ := hv.shape
  obtain ⟨a', n', c', rfl⟩ := hx.shape
  simp [encK, Value.oneCell']
/-- A block, wherever its bytes and blocks lie. -/
inductive BlkAt (w : World) : BlkV → BlkZ → Prop
  | mk {t : Int} {v x : Value} {bs : List Int} {ds : List BlkV} {l : List BlkZ} (ht : -9223372036854775808 ≤ t ∧ t ≤ 9223372036854775807) (hv : SrcW w v bs) (hm : bs.length ≤ maxLen) (hx : RowsAt 3 cellsK w x ds) (hn : ds.length = l.length)
    (hd : ∀ (i : Nat) (d : BlkV) (z : BlkZ), ds[i]? = some d → l[i]? = some z → BlkAt w d z) : BlkAt w ⟨t, v, x⟩ (.mk t bs l)
theorem BlkAt.keep {w w' : World} {d : BlkV} {z : BlkZ} (h : BlkAt w d z) (hb : Below w.heap.size w w') : BlkAt w' d z := by
  induction h with
  | mk ht hv hm hx hn _ ih => exact .mk ht (hv.keep hb) hm (hx.keep hb) hn ih
theorem BlkAt.own {w0 w : World} {l : List RowT} {d : BlkV} {z : BlkZ} (h : BlkAt w0 d z) (hR : Own w0 w l) : BlkAt w d z := h.keep hR.below
end Go.Proofs.Ytalgadinoaeihaa
