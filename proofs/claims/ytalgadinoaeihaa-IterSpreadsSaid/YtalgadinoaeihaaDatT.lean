








/- The struct of data as a value, its bytes wherever they lie: its type, its fields, how it comes in, is put and read. No statement of the seat is proved here. -/
import Derived.Test.YtalgadinoaeihaaDatM
import Derived.Test.YtalgadinoaeihaaRecT
import Derived.Test.YtalgadinoaeihaaSame
import Derived.Test.YtalgadinoaeihaaBytesArg
import Derived.Test.YtalgadinoaeihaaLst
namespace Go.Proofs.Ytalgadinoaeihaa
open Go.ChangeShapes Go.WideShapes Go.ChangeAt Go.RowKit
set_option linter.unusedVariables false
set_option linter.unusedSimpArgs false

/-- A segment, an offset, a slice of bytes, a slice of fixups. -/
structure DatV where
  s : Int
  o : Nat
  v : Value
  x : Value
def encD (s : Int) (o : Nat) (v x : Value) : Array Value := #[.int .i64 s, .int .u16 o, v, x]
def cellsD (d : DatV) : List Value := (encD d.s d.o d.v d.x).toList
def nilV : Value := .slice none 0 0
/-- Slices are one cell. -/
structure IsSl (v : Value) : Prop where
  shape : ∃ a n c, v = .slice a n c
theorem IsSl.nil : IsSl nilV := ⟨⟨_, _, _, rfl⟩⟩
theorem SrcW.isSl {w : World} {v : Value} {bs : List Int} (h : SrcW w v bs) : IsSl v := ⟨h.shape⟩
theorem Cell.asValue {P : Program} {w : World} {r : Reach} {base : Nat} {t e : TypeId} {v : Value} (hu : P.underlying t = some (.slice e)) (h : Cell.okWide P w r base t v) : Value.okWide P w r base t v := by
  unfold Value.okWide; rw [hu]; exact h
theorem iDat : (Try.prog.info? 41).map (·.size) = some 4 := by kernel_rfl
theorem tDat : RowTy Try.prog 41 4 := .of Try.underlying41 rfl iDat
theorem tWordD : OneTy Try.prog 35 := .of Try.underlying35 rfl (by kernel_rfl)
theorem tFixD : OneTy Try.prog 39 := .of Try.underlying39 rfl (by kernel_rfl)
theorem zDat : ZeroTy Try.prog 41 (encD 0 0 nilV nilV) := .of (by kernel_rfl)
theorem fDat (k : Nat) (h : k < 4) : FieldAt Try.prog 41 k k := by
  match k, h with
  | 0, _ => exact ⟨fun g w => by simp [go_sem, Instr.fieldAt, fieldPlace]⟩
  | 1, _ => exact ⟨fun g w => by simp [go_sem, Instr.fieldAt, fieldPlace]⟩
  | 2, _ => exact ⟨fun g w => by simp [go_sem, Instr.fieldAt, fieldPlace]⟩
  | 3, _ => exact ⟨fun g w => by simp [go_sem, Instr.fieldAt, fieldPlace]⟩
section
variable {s : Int} {o : Nat} {v x : Value}
theorem ext_dat (s : Int) (o : Nat) (v : Value) {x : Value} : ExtRel (encD s o v x) 0 4 (encD s o v x) := extract_all rfl
theorem put_dat (d : Array Value) (hd : d.size = 4) (s : Int) (o : Nat) (v x : Value) : PutRel d 0 (encD s o v x).toList (encD s o v x) := putList_all (by simp [hd, encD])
theorem one_dat (s : Int) (o : Nat) (hv : IsSl v) (hx : IsSl x) : (encD s o v x).all (·.oneCell') = true := by
  obtain ⟨a, n, c, rfl⟩ := hv.shape
  obtain ⟨a', n', c', rfl⟩ := hx.shape
  simp [encD, Value.oneCell']
theorem put_ds (s : Int) (o : Nat) (v x : Value) (n : Int) : PutRel (encD s o v x) 0 [.int .i64 n] (encD n o v x) := ⟨rfl⟩
theorem put_db (s : Int) (o : Nat) (v x : Value) {a : Option Addr} {n c : Nat} : PutRel (encD s o v x) 2 [.slice a n c] (encD s o (.slice a n c) x) := ⟨rfl⟩
theorem bD3 (s : Int) (o : Nat) {a : Option Addr} {n c : Nat} : Built Try.prog 41 [(0, .int .i64 s), (1, .int .u16 (o : Int)), (2, .slice a n c)] (encD s o (.slice a n c) nilV) := ⟨by kernel_rfl⟩
theorem bD3v (s : Int) (o : Nat) (hv : IsSl v) : Built Try.prog 41 [(0, .int .i64 s), (1, .int .u16 (o : Int)), (2, v)] (encD s o v nilV) := by
  obtain ⟨a, n, c, rfl⟩ := hv.shape
  exact bD3 s o
theorem bD1 (s : Int) : Built Try.prog 41 [(0, .int .i64 s)] (encD s 0 nilV nilV) := ⟨by kernel_rfl⟩
end
/-! ### As an argument -/
/-- Data that came in, by value. -/
def DatIn (w : World) (u : Value) : Prop := ∃ (d : DatZ) (v x : Value), d.ok ∧ u = .agg (encD d.s d.o v x) ∧ SrcW w v d.b ∧ d.b.length ≤ maxLen ∧ IsSl x
section
variable {H : Type} {enc : TypeId × Value → H} {w : World} {base : Nat} {spare : Nat → Bool} {held : Bool}
theorem open_data {W : World} {b : Nat} {u : Value} {d : DataW H} {p : List MemPlace} (hk : Value.okWide Try.prog W .any b 41 u) (h : DataW.Trod enc Try.prog w base spare held 41 u d p) : DatIn w u := by
  obtain ⟨cs, rfl, hl, hc⟩ := open_flat (ts := [3, 35, 22, 39]) Try.underlying41 rfl (by kernel_rfl) (by kernel_rfl) hk
  obtain ⟨fuel, hf⟩ := h
  match cs, hl with
  | [c0, c1, c2, c3], _ =>
    obtain ⟨n0, rfl, b0⟩ := cell_int Try.underlying3 (hc 0 _ _ rfl rfl)
    obtain ⟨n1, rfl, b1⟩ := cell_int Try.underlying35 (hc 1 _ _ rfl rfl)
    have b1' : 0 ≤ n1 ∧ n1 ≤ 65535 := b1
    obtain ⟨m1, rfl⟩ := Int.eq_ofNat_of_zero_le b1'.1
    have k2 := Cell.asValue Try.underlying22 (hc 2 _ _ rfl rfl)
    obtain ⟨a3, len3, cap3, rfl⟩ := okWide_slice Try.underlying39 (Cell.asValue Try.underlying39 (hc 3 _ _ rfl rfl))
    obtain ⟨ys, n, rfl, _, _, hy, hf⟩ := DataW.trod_struct Try.underlying41 hf
    have hy' : ys.length = 4 := hy
    have cC : Try.prog.cellsOf 22 = 1 := by kernel_rfl
    have h2 : DataW.trod enc Try.prog w base spare held n 22 (([Value.int .i64 n0, .int .u16 (m1 : Int), c2, .slice a3 len3 cap3].drop 2).take (Try.prog.cellsOf 22)) = ys[2]? := hf 2 _ rfl
    rw [cC] at h2
    obtain ⟨y2, hy2⟩ := Option.isSome_iff_exists.1 (some_at hy' (show 2 < 4 by decide))
    rw [hy2] at h2
    obtain ⟨a2, len2, cap2, rfl⟩ := okWide_slice Try.underlying22 k2
    obtain ⟨bs, hS, hm⟩ := open_bytes k2 (d := y2.1) (p := y2.2) ⟨n, h2⟩
    exact ⟨⟨n0, m1, bs⟩, _, _, ⟨b0, by dsimp only; omega, hS.ok⟩, rfl, hS, hm, ⟨⟨_, _, _, rfl⟩⟩⟩
end
end Go.Proofs.Ytalgadinoaeihaa
