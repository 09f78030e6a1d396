





/- What the document's own shifts come to, bit by bit, and how far they are: for the contracts of Shift of hansomref08. No statement of the seat is proved here. -/
import Derived.Test.YtcplcjfkehogkaaFill
import Derived.Test.YtcplcjfkehogkaaShiftN
import Derived.Deep.DeepCutAuto
import Derived.Deep.CutBlock
namespace Go.Proofs.Ytcplcjfkehogkaa
open Go.ChangeShapes Go.WideShapes Go.ChangeAt Go.RowKit
set_option linter.unusedVariables false
set_option linter.unusedSimpArgs false

/-- What a shift tells: the number, and the flags. -/
def startN (wide : Bool) (x was : Nat) : Nat × Nat := (cutN wide x, was % 2)
def shV (name : Nat) (wide : Bool) (x n was : Nat) : Nat := (stepsN name wide n (startN wide x was)).1
def shBase (name : Nat) (wide : Bool) (v was : Nat) : Int := if 67 ≤ name then (signsN wide v : Nat) else bits .and .u16 was 2261
def shC (f : Int) (c : Nat) : Int := if c = 1 then bits .or .u16 f 1 else f
def shO (f : Int) (a b : Nat) : Int := if a = b then f else bits .or .u16 f 2048
def shF (name : Nat) (wide : Bool) (x n was : Nat) : Int :=
  if n = 0 then bits .and .u16 was 2261 else
    let s := stepsN name wide n (startN wide x was)
    shO (shC (bits .andNot .u16 (shBase name wide s.1 was) 2049) s.2) (signAt name wide n (startN wide x was)) (s.1 / topN wide)
theorem and_one {was : Nat} (h : was ≤ 65535) : bits .and .u16 (was : Int) 1 = (was % 2 : Nat) := by
  have := u16_and_nat was 1 (by omega) (by decide)
  rw [Nat.and_one_is_mod] at this
  exact this
theorem BitsIs.row {w0 wx : World} {xs : List Nat} {v : Value} (h : BitsIs w0 xs v wx) (hx : xs ≠ []) : ∃ g cap cur, v = .slice (some ⟨g, 0, none⟩) xs.length cap ∧ SlIs cur xs.length cap (cellsN xs) ∧ Own w0 wx [(g, cur, 3)] := by
  obtain ⟨s, hR, hS⟩ := h
  obtain ⟨g, cap, cur, h1, h2, h3⟩ := hS.row (by intro e; exact hx (List.eq_nil_of_map_eq_nil e))
  subst h1
  exact ⟨g, cap, cur, h2, h3, hR.drop (by simp)⟩
theorem src_row {w0 wx : World} {xs : List Nat} {g n cap : Nat} {cur : Array Value} {l : List RowT} (hR : Own w0 wx l) (hm : (g, cur, 3) ∈ l) (h : SlIs cur n cap (cellsN xs)) : SrcI wx ⟨g, 0, none⟩ xs := by
  refine ⟨fun j u hu => ?_⟩
  rw [addr_mid, cell_of_row _ _ _ _ _ _ (hR.get hm)]
  exact (Part.ofIs h).get j _ (cells_at hu)
/-- How far the bits have come. -/
structure UpIs (w0 : World) (wide : Bool) (x : Nat) (vb vi : Value) (wx : World) (k : Nat) (xs : List Nat) : Prop where
  le : k ≤ sizeN wide
  at_ : vi = .int .i64 k
  len : xs.length = k
  one : ∀ y ∈ xs, y ≤ 1
  sum : ofN xs = x % 2 ^ k
  bits : BitsIs w0 xs vb wx
/-- How far it has turned. -/
structure TurnIs (w0 : World) (name : Nat) (wide : Bool) (n : Nat) (s0 : Nat × Nat) (vb vc vs vk : Value) (wx : World) (k : Nat) (xs : List Nat) (g cap : Nat) (cur : Array Value) : Prop where
  le : k ≤ n
  at_ : vk = .int .i64 k
  b : vb = .slice (some ⟨g, 0, none⟩) (sizeN wide) cap
  row : SlIs cur (sizeN wide) cap (cellsN xs)
  own : Own w0 wx [(g, cur, 3)]
  len : xs.length = sizeN wide
  one : ∀ y ∈ xs, y ≤ 1
  num : ofN xs = (stepsN name wide k s0).1
  cy : vc = .int .i64 ((stepsN name wide k s0).2 : Nat)
  sg : vs = .int .i64 (signAt name wide k s0 : Nat)
def CarryIs (w0 : World) (g : Nat) (cur : Array Value) (c : Nat) (v : Value) (wx : World) : Prop := v = .int .i64 c ∧ Own w0 wx [(g, cur, 3)]
theorem size_less (wide : Bool) : wrap64 (((sizeN wide : Nat) : Int) - 1) = ((sizeN wide - 1 : Nat) : Int) := by cases wide <;> decide +kernel
theorem size_less' (wide : Bool) : IntKind.i64.wrap (((sizeN wide : Nat) : Int) - 1) = ((sizeN wide - 1 : Nat) : Int) := by cases wide <;> decide +kernel
/-- The bits, one behind the other. -/
theorem up_start (w0 : World) (wide : Bool) (x : Nat) {w : World} {g : Nat} (hR : Own w0 w [(g, #[], 3)]) : UpIs w0 wide x (.slice (some ⟨g, 0, none⟩) 0 0) (.int .i64 0) w 0 [] :=
  ⟨by omega, rfl, rfl, (fun _ h => nomatch h), by simp [ofN, Nat.mod_one], BitsIs.of hR (Les.head (s := [_])) (Sl.ofIs (SlIs.all rfl (by decide))) rfl rfl⟩
end Go.Proofs.Ytcplcjfkehogkaa
