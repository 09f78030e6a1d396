


/- The contract of hansomref05.Put: the bytes of an instruction ('putL'). No statement of the seat is proved here. -/
import Derived.Test.YtpngjefdgicmiaaDoorInstR
import Derived.Test.YtpngjefdgicmiaaDoorSlice
namespace Go.Proofs.YtpngjefdgicmiaaDoor
open Go.ChangeShapes Go.WideShapes Go.ChangeAt Go.RowKit
set_option linter.unusedVariables false
set_option linter.unusedSimpArgs false

theorem bS0 : BuiltS Tryd.prog 78 0 [] 5 #[] := ⟨fun w => by simp [go_sem]⟩
theorem bS1 (x : Int) : BuiltS Tryd.prog 78 1 [(0, .int .u8 x)] 5 #[.int .u8 x] := ⟨fun w => by simp [go_sem]⟩
theorem bS2 (x y : Int) : BuiltS Tryd.prog 78 2 [(0, .int .u8 x), (1, .int .u8 y)] 5 #[.int .u8 x, .int .u8 y] := ⟨fun w => by simp [go_sem]⟩
theorem tBytes : SliceTy Tryd.prog 78 5 := .of (z := .int .u8 0) (b := 1) Tryd.underlying78 (by kernel_rfl) (by decide) (by rfl)

/-- A slice of two bytes, in a new row. -/
def RetTwo (w : World) (a b : Int) (en : Ending) (w' : World) : Prop :=
  ∃ g, en = .returned (.slice (some ⟨g, 0, none⟩) 2 2) ∧ Own w w' [(g, #[.int .u8 a, .int .u8 b], 5)]
def b8 (x : Int) : Value := .int .u8 x
def lockV (i : InstZ) : List Value := bif i.lock then [b8 240] else []
def repV (i : InstZ) : List Value := bif decide (0 < i.rep) then [b8 (241 + i.rep)] else []
def segV (i : InstZ) : List Value := bif decide (0 < i.seg) then [b8 (30 + 8 * i.seg)] else []
def twoV (x : Int) : List Value := [b8 (x % 256), b8 (x / 256)]
def midZ (i : InstZ) : Int := 64 * i.mod + 8 * i.reg + i.rm
def midV (i : InstZ) : List Value := bif i.row.m then b8 (midZ i) :: (twoV i.disp).take (dispsZ i.mod i.rm).toNat else []
def immV (i : InstZ) : List Value := bif immsZ i.row == 1 then (twoV i.imm).take 1 else bif immsZ i.row == 2 then twoV i.imm else bif immsZ i.row == 4 then twoV i.imm ++ twoV i.sel else []
def putL (i : InstZ) : List Value := lockV i ++ repV i ++ segV i ++ [b8 i.op] ++ midV i ++ immV i
/-- What Put asks of an instruction's numbers. -/
structure Near0 (i : InstZ) : Prop where
  rep : i.rep ≤ 2
  seg : i.seg ≤ 4
  mid : i.row.m = true → (0 ≤ i.mod ∧ i.mod ≤ 3) ∧ (0 ≤ i.reg ∧ i.reg ≤ 7) ∧ (0 ≤ i.rm ∧ i.rm ≤ 7)

theorem SlIs.first {a b : Value} {k : Nat} (h : k ≤ 2) : SlIs #[a, b] k 2 ([a, b].take k) := ⟨by simp; omega, h, by simp [maxLen], rfl, rfl⟩
theorem SlIs.cast {cur : Array Value} {n cap : Nat} {xs ys : List Value} (h : SlIs cur n cap xs) (e : xs = ys) : SlIs cur n cap ys := e ▸ h
theorem ones_two (a b : Int) (k : Nat) : (([b8 a, b8 b] : List Value).take k).all (·.oneCell') = true := by
  match k with
  | 0 => rfl
  | 1 => rfl
  | 2 => rfl
  | k + 3 => rfl
theorem put_fin {i : InstZ} {cur : Array Value} {m cap : Nat} {xs ys : List Value} (h1 : immV i = ys) (h2 : SlIs cur m cap xs) (h3 : xs = lockV i ++ repV i ++ segV i ++ [b8 i.op] ++ midV i ++ ys) : xs = putL i ∧ m = (putL i).length ∧ SlIs cur (putL i).length cap (putL i) := by
  subst h1
  have e : xs = putL i := h3
  subst e
  exact ⟨rfl, h2.len.symm, by have := h2.len; rw [this]; exact h2⟩
theorem retSl_of {w0 w' : World} {e : TypeId} {xs : List Value} {g m cap : Nat} {cur : Array Value} {v : Value} (hv : v = .slice (some ⟨g, 0, none⟩) m cap) (hm : m = xs.length) (hO : Own w0 w' [(g, cur, e)]) (hS : SlIs cur xs.length cap xs) : RetSl w0 e xs (.returned v) w' :=
  ⟨g, cur, cap, by rw [hv, hm], hO, hS⟩
/-- How far Put has come. -/
def OutIs (w0 : World) (xs : List Value) (m : Nat) (l : List RowT) (v : Value) (wx : World) : Prop :=
  ∃ g cur cap n, v = .slice (some ⟨g, 0, none⟩) n cap ∧ n ≤ m ∧ Own w0 wx ((g, cur, 5) :: l) ∧ SlIs cur n cap xs

end Go.Proofs.YtpngjefdgicmiaaDoor
