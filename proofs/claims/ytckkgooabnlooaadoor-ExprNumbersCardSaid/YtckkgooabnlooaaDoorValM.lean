








/- Values as numbers, what they come to (plain mathematics), and how they lie in cells. No statement of the seat is proved here. -/
import Derived.Test.YtckkgooabnlooaaDoorRow
import Derived.Test.YtckkgooabnlooaaDoorSame
import Derived.Test.YtckkgooabnlooaaDoorText
import Derived.Test.YtckkgooabnlooaaDoorNum
import Derived.Test.YtckkgooabnlooaaDoorStrE
import Derived.Test.YtckkgooabnlooaaDoorChecked
import Derived.Handy
import Derived.OpenShut
namespace Go.Proofs.YtckkgooabnlooaaDoor
open Go.ChangeShapes Go.WideShapes Go.ChangeAt Go.RowKit
set_option linter.unusedVariables false
set_option linter.unusedSimpArgs false

structure ValZ where
  n : Int
  f : Int
  w : Int
  t : Int
  a : Int
  k : Bool
deriving DecidableEq
def zeroVal : ValZ := ⟨0, 0, 0, 0, 0, false⟩
def cutZ (n : Int) : Int := (n + 2147483648) % 4294967296 - 2147483648
theorem cutZ_bd (n : Int) : -2147483648 ≤ cutZ n ∧ cutZ n ≤ 2147483647 := by unfold cutZ; omega
theorem cutZ_cut (n : Int) : cutZ (cutZ n) = cutZ n := by unfold cutZ; omega
theorem cutZ_w64 (n : Int) : cutZ (wrap64 n) = cutZ n := by unfold cutZ wrap64; omega
theorem cutZ_i64 (n : Int) : cutZ (IntKind.i64.wrap n) = cutZ n := by rw [IntKind.wrap_i64]; unfold cutZ; omega
theorem i64_cutZ (n : Int) : IntKind.i64.wrap (cutZ n) = cutZ n := IntWalk.i64_in _ (by have := cutZ_bd n; omega)
theorem i32_cutZ (n : Int) : IntKind.i32.wrap n = cutZ n := by rw [IntKind.wrap_i32]; unfold cutZ; omega
theorem u32_mod (n : Int) : IntKind.u32.wrap n = n % 4294967296 := by rw [IntKind.wrap_u32]
def plainZ (v : ValZ) : Bool := v.f == 0 && v.a == 0
def numVZ (n : Int) (k : Bool) : ValZ := ⟨cutZ n, 0, 0, 0, 0, k⟩
def farZ (v : ValZ) (n : Int) (k : Bool) : ValZ := { v with n := cutZ (v.n + n), k := v.k && k }
def togZ (x y : ValZ) : Bool := x.f == y.f && x.w == y.w && x.a == y.a && x.a != 2
def addZ (x y : ValZ) : ValZ × Bool := if plainZ y then (farZ x y.n y.k, true) else if plainZ x then (farZ y x.n x.k, true) else (zeroVal, false)
def subZ (x y : ValZ) : ValZ × Bool := if plainZ y then (farZ x (-y.n) y.k, true) else if togZ x y then (numVZ (x.n - y.n) (x.k && y.k), true) else (zeroVal, false)
/-! ### Words -/
def wordK : Nat → ByteArray
  | 0 => ⟨#[42]⟩
  | 1 => ⟨#[47]⟩
  | 2 => ⟨#[77, 79, 68]⟩
  | 3 => ⟨#[83, 72, 76]⟩
  | 4 => ⟨#[83, 72, 82]⟩
  | 5 => ⟨#[65, 78, 68]⟩
  | 6 => ⟨#[79, 82]⟩
  | 7 => ⟨#[88, 79, 82]⟩
  | 8 => ⟨#[69, 81]⟩
  | 9 => ⟨#[78, 69]⟩
  | 10 => ⟨#[76, 84]⟩
  | 11 => ⟨#[76, 69]⟩
  | 12 => ⟨#[71, 84]⟩
  | 13 => ⟨#[71, 69]⟩
  | 14 => ⟨#[78, 79, 84]⟩
  | _ => ⟨#[43]⟩
def truthZ (b : Bool) : Int := if b then -1 else 0
/-- What two numbers come to by the word of that number, perhaps with more bits; and whether there is such a thing. -/
def resZ (k : Nat) (a b : Int) : Int × Bool :=
  match k with
  | 0 => (wrap64 (a * b), true)
  | 1 => if b = 0 then (0, false) else (wrap64 (a.tdiv b), true)
  | 2 => if b = 0 then (0, false) else (a.tmod b, true)
  | 3 => if b < 0 then (0, false) else (a % 4294967296 * 2 ^ (b % 32).toNat % 4294967296, true)
  | 4 => if b < 0 then (0, false) else (a % 4294967296 / 2 ^ (b % 32).toNat, true)
  | 5 => (bits .and .i64 a b, true)
  | 6 => (bits .or .i64 a b, true)
  | 7 => (bits .xor .i64 a b, true)
  | 8 => (truthZ (decide (a = b)), true)
  | 9 => (truthZ (!decide (a = b)), true)
  | 10 => (truthZ (decide (a < b)), true)
  | 11 => (truthZ (decide (a ≤ b)), true)
  | 12 => (truthZ (decide (b < a)), true)
  | 13 => (truthZ (decide (b ≤ a)), true)
  | _ => (0, false)
def doZ (k : Nat) (x y : ValZ) : ValZ × Bool :=
  if plainZ x && plainZ y then
    if (resZ k (cutZ x.n) (cutZ y.n)).2 then (numVZ (resZ k (cutZ x.n) (cutZ y.n)).1 (x.k && y.k), true) else (zeroVal, false)
  else (zeroVal, false)
def fitsZ (n s : Int) : Bool := if s = 1 then decide (-128 ≤ n) && decide (n ≤ 255) else decide (-32768 ≤ n) && decide (n ≤ 65535)
def sizeZ (t : Int) : Int := if t = 1 then 1 else if t = 2 then 2 else if t = 4 then 4 else if t = 8 then 8 else 0
/-! ### In cells -/
def encV (v : ValZ) : Array Value := #[.int .i64 v.n, .int .i64 v.f, .int .i64 v.w, .int .i64 v.t, .int .i64 v.a, .bool v.k]
def twoV (p : ValZ × Bool) : Value := .tuple #[.agg (encV p.1), .bool p.2]
def twoN (p : Int × Bool) : Value := .tuple #[.int .i64 p.1, .bool p.2]
theorem tIntV : OneTy Tryd.prog 3 := .of Tryd.underlying3 rfl (by kernel_rfl)
theorem tBoolV : OneTy Tryd.prog 4 := .of Tryd.underlying4 rfl (by kernel_rfl)
theorem iVal : (Tryd.prog.info? 27).map (·.size) = some 6 := by kernel_rfl
theorem tVal : RowTy Tryd.prog 27 6 := .of Tryd.underlying27 rfl iVal
theorem zVal : ZeroTy Tryd.prog 27 (encV zeroVal) := .of (by kernel_rfl)
theorem fVal (k : Nat) (h : k < 6) : FieldAt Tryd.prog 27 k k := by
  match k, h with
  | 0, _ => exact ⟨fun g w => by simp [go_sem, Instr.fieldAt, fieldPlace]⟩
  | 1, _ => exact ⟨fun g w => by simp [go_sem, Instr.fieldAt, fieldPlace]⟩
  | 2, _ => exact ⟨fun g w => by simp [go_sem, Instr.fieldAt, fieldPlace]⟩
  | 3, _ => exact ⟨fun g w => by simp [go_sem, Instr.fieldAt, fieldPlace]⟩
  | 4, _ => exact ⟨fun g w => by simp [go_sem, Instr.fieldAt, fieldPlace]⟩
  | 5, _ => exact ⟨fun g w => by simp [go_sem, Instr.fieldAt, fieldPlace]⟩
theorem ext_val (v : ValZ) : ExtRel (encV v) 0 6 (encV v) := extract_all rfl
theorem put_val (v u : ValZ) : PutRel (encV v) 0 (encV u).toList (encV u) := putList_all rfl
theorem one_val (v : ValZ) : (encV v).all (·.oneCell') = true := by simp [encV, Value.oneCell']
theorem put_vn (v : ValZ) (x : Int) : PutRel (encV v) 0 [.int .i64 x] (encV { v with n := x }) := ⟨rfl⟩
theorem put_vf (v : ValZ) (x : Int) : PutRel (encV v) 1 [.int .i64 x] (encV { v with f := x }) := ⟨rfl⟩
theorem put_vw (v : ValZ) (x : Int) : PutRel (encV v) 2 [.int .i64 x] (encV { v with w := x }) := ⟨rfl⟩
theorem put_va (v : ValZ) (x : Int) : PutRel (encV v) 4 [.int .i64 x] (encV { v with a := x }) := ⟨rfl⟩
theorem put_vk (v : ValZ) (x : Bool) : PutRel (encV v) 5 [.bool x] (encV { v with k := x }) := ⟨rfl⟩
theorem bVal0 : Built Tryd.prog 27 [] (encV zeroVal) := ⟨by kernel_rfl⟩
theorem bValN (n : Int) (k : Bool) : Built Tryd.prog 27 [(0, .int .i64 n), (5, .bool k)] (encV ⟨n, 0, 0, 0, 0, k⟩) := ⟨by kernel_rfl⟩
theorem bValF (f : Int) : Built Tryd.prog 27 [(1, .int .i64 f)] (encV ⟨0, f, 0, 0, 0, false⟩) := ⟨by kernel_rfl⟩
theorem gVal : Tryd.prog.eqGuardType Tryd.prog.depth 27 = false := by kernel_rfl
theorem eqV_self (v : ValZ) : eqB Tryd.prog 9 27 (.agg (encV v)) (.agg (encV v)) = some true := by
  have h : eqB Tryd.prog 9 27 (.agg (encV v)) (.agg (encV v)) = some ((v.n == v.n) && ((v.f == v.f) && ((v.w == v.w) && ((v.t == v.t) && ((v.a == v.a) && ((v.k == v.k) && true)))))) := by kernel_rfl
  rw [h]; simp
set_option maxRecDepth 100000 in
theorem open_val {w : World} {base : Nat} {x : Value} (h : Value.okWide Tryd.prog w .any base 27 x) : ∃ v : ValZ, x = .agg (encV v) := by
  obtain ⟨cs, rfl, hl, hc⟩ := open_flat (ts := [3, 3, 3, 3, 3, 4]) Tryd.underlying27 rfl (by kernel_rfl) (by kernel_rfl) h
  match cs, hl with
  | [c0, c1, c2, c3, c4, c5], _ =>
    obtain ⟨n0, rfl, b0⟩ := cell_int Tryd.underlying3 (hc 0 _ _ rfl rfl)
    obtain ⟨n1, rfl, b1⟩ := cell_int Tryd.underlying3 (hc 1 _ _ rfl rfl)
    obtain ⟨n2, rfl, b2⟩ := cell_int Tryd.underlying3 (hc 2 _ _ rfl rfl)
    obtain ⟨n3, rfl, b3⟩ := cell_int Tryd.underlying3 (hc 3 _ _ rfl rfl)
    obtain ⟨n4, rfl, b4⟩ := cell_int Tryd.underlying3 (hc 4 _ _ rfl rfl)
    obtain ⟨n5, rfl⟩ := cell_bool Tryd.underlying4 (hc 5 _ _ rfl rfl)
    exact ⟨⟨n0, n1, n2, n3, n4, n5⟩, rfl⟩
end Go.Proofs.YtckkgooabnlooaaDoor
