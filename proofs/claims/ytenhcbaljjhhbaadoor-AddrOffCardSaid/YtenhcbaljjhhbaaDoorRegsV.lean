

/- The registers as numbers ('RegsZ'), how they lie in cells, and as a law's argument: for seats that have instructions, too. No statement of the seat is proved here. -/
import Derived.Test.YtenhcbaljjhhbaaDoorRow
import Derived.Test.YtenhcbaljjhhbaaDoorSame
import Derived.Test.YtenhcbaljjhhbaaDoorChecked
import Derived.Handy
import Derived.OpenShut
namespace Go.Proofs.YtenhcbaljjhhbaaDoor
open Go.ChangeShapes Go.WideShapes Go.ChangeAt Go.RowKit
set_option linter.unusedVariables false
set_option linter.unusedSimpArgs false

structure RegsZ where
  g : Nat → Int
  h : Nat → Bool
  s : Nat → Int
  u : Nat → Bool
  ip : Int
  fl : Int

def encVal (v : Int) (t : Bool) : Array Value := #[.int .u16 v, .bool t]
def encRegs (r : RegsZ) : Array Value := #[.int .u16 (r.g 0), .bool (r.h 0), .int .u16 (r.g 1), .bool (r.h 1), .int .u16 (r.g 2), .bool (r.h 2), .int .u16 (r.g 3), .bool (r.h 3),
  .int .u16 (r.g 4), .bool (r.h 4), .int .u16 (r.g 5), .bool (r.h 5), .int .u16 (r.g 6), .bool (r.h 6), .int .u16 (r.g 7), .bool (r.h 7),
  .int .u16 (r.s 0), .bool (r.u 0), .int .u16 (r.s 1), .bool (r.u 1), .int .u16 (r.s 2), .bool (r.u 2), .int .u16 (r.s 3), .bool (r.u 3), .int .u16 r.ip, .int .u16 r.fl]
def zeroRegs : RegsZ := ⟨fun _ => 0, fun _ => false, fun _ => 0, fun _ => false, 0, 0⟩

theorem zRegs : ZeroTy Tryd.prog 28 (encRegs zeroRegs) := .of (by kernel_rfl)
theorem zVal : ZeroTy Tryd.prog 24 (encVal 0 false) := .of (by kernel_rfl)
theorem bVal0 : Built Tryd.prog 24 [] (encVal 0 false) := ⟨by kernel_rfl⟩
theorem bVal1 (v : Int) : Built Tryd.prog 24 [(0, .int .u16 v)] (encVal v false) := ⟨by kernel_rfl⟩
theorem iRegs : (Tryd.prog.info? 28).map (·.size) = some 26 := by kernel_rfl
theorem iVal : (Tryd.prog.info? 24).map (·.size) = some 2 := by kernel_rfl
theorem tRegs : RowTy Tryd.prog 28 26 := .of Tryd.underlying28 rfl iRegs
theorem tVal : RowTy Tryd.prog 24 2 := .of Tryd.underlying24 rfl iVal
theorem tWordV : OneTy Tryd.prog 22 := .of Tryd.underlying22 rfl (by kernel_rfl)
theorem tBoolV : OneTy Tryd.prog 4 := .of Tryd.underlying4 rfl (by kernel_rfl)
theorem iWordV : (Tryd.prog.info? 22).map (·.size) = some 1 := by kernel_rfl

theorem ext_regs (r : RegsZ) : ExtRel (encRegs r) 0 26 (encRegs r) := extract_all rfl
theorem ext_val (v : Int) (t : Bool) : ExtRel (encVal v t) 0 2 (encVal v t) := extract_all rfl
theorem ext_g (r : RegsZ) (k : Nat) (hk : k < 8) : ExtRel (encRegs r) (k * 2) 2 (encVal (r.g k) (r.h k)) := by
  constructor
  match k, hk with
  | 0, _ => rfl
  | 1, _ => rfl
  | 2, _ => rfl
  | 3, _ => rfl
  | 4, _ => rfl
  | 5, _ => rfl
  | 6, _ => rfl
  | 7, _ => rfl
theorem ext_s (r : RegsZ) (k : Nat) (hk : k < 4) : ExtRel (encRegs r) (16 + k * 2) 2 (encVal (r.s k) (r.u k)) := by
  constructor
  match k, hk with
  | 0, _ => rfl
  | 1, _ => rfl
  | 2, _ => rfl
  | 3, _ => rfl

def RegsZ.putG (r : RegsZ) (n : Nat) (v : Int) (t : Bool) : RegsZ := { r with g := fun k => if k = n then v else r.g k, h := fun k => if k = n then t else r.h k }
def RegsZ.putS (r : RegsZ) (n : Nat) (v : Int) (t : Bool) : RegsZ := { r with s := fun k => if k = n then v else r.s k, u := fun k => if k = n then t else r.u k }
theorem put_g (r : RegsZ) (k : Nat) (v : Int) (t : Bool) (hk : k < 8) : PutRel (encRegs r) (k * 2) (encVal v t).toList (encRegs (r.putG k v t)) := by
  constructor
  match k, hk with
  | 0, _ => rfl
  | 1, _ => rfl
  | 2, _ => rfl
  | 3, _ => rfl
  | 4, _ => rfl
  | 5, _ => rfl
  | 6, _ => rfl
  | 7, _ => rfl
theorem put_s (r : RegsZ) (k : Nat) (v : Int) (t : Bool) (hk : k < 4) : PutRel (encRegs r) (16 + k * 2) (encVal v t).toList (encRegs (r.putS k v t)) := by
  constructor
  match k, hk with
  | 0, _ => rfl
  | 1, _ => rfl
  | 2, _ => rfl
  | 3, _ => rfl
theorem put_regs (r r' : RegsZ) : PutRel (encRegs r) 0 (encRegs r').toList (encRegs r') := putList_all rfl
theorem put_val (v v' : Int) (t t' : Bool) : PutRel (encVal v t) 0 (encVal v' t').toList (encVal v' t') := putList_all rfl

theorem one_val (v : Int) (t : Bool) : (encVal v t).all (·.oneCell') = true := by simp [encVal, Value.oneCell']
theorem one_regs (r : RegsZ) : (encRegs r).all (·.oneCell') = true := by simp [encRegs, Value.oneCell']

structure RegsZ.ok (r : RegsZ) : Prop where
  g : ∀ k, 0 ≤ r.g k ∧ r.g k ≤ 65535
  s : ∀ k, 0 ≤ r.s k ∧ r.s k ≤ 65535
  ip : 0 ≤ r.ip ∧ r.ip ≤ 65535
  fl : 0 ≤ r.fl ∧ r.fl ≤ 65535
theorem open_regs {w : World} {base : Nat} {v : Value} (h : Value.okWide Tryd.prog w .any base 28 v) : ∃ r : RegsZ, r.ok ∧ v = .agg (encRegs r) := by
  obtain ⟨cs, rfl, hl, hc⟩ := open_flat (ts := [22, 4, 22, 4, 22, 4, 22, 4, 22, 4, 22, 4, 22, 4, 22, 4, 22, 4, 22, 4, 22, 4, 22, 4, 22, 22]) Tryd.underlying28 rfl (by kernel_rfl) (by kernel_rfl) h
  match cs, hl with
  | [c0, c1, c2, c3, c4, c5, c6, c7, c8, c9, c10, c11, c12, c13, c14, c15, c16, c17, c18, c19, c20, c21, c22, c23, c24, c25], _ =>
    obtain ⟨n0, rfl, b0⟩ := cell_int Tryd.underlying22 (hc 0 _ _ rfl rfl)
    obtain ⟨n1, rfl⟩ := cell_bool Tryd.underlying4 (hc 1 _ _ rfl rfl)
    obtain ⟨n2, rfl, b2⟩ := cell_int Tryd.underlying22 (hc 2 _ _ rfl rfl)
    obtain ⟨n3, rfl⟩ := cell_bool Tryd.underlying4 (hc 3 _ _ rfl rfl)
    obtain ⟨n4, rfl, b4⟩ := cell_int Tryd.underlying22 (hc 4 _ _ rfl rfl)
    obtain ⟨n5, rfl⟩ := cell_bool Tryd.underlying4 (hc 5 _ _ rfl rfl)
    obtain ⟨n6, rfl, b6⟩ := cell_int Tryd.underlying22 (hc 6 _ _ rfl rfl)
    obtain ⟨n7, rfl⟩ := cell_bool Tryd.underlying4 (hc 7 _ _ rfl rfl)
    obtain ⟨n8, rfl, b8⟩ := cell_int Tryd.underlying22 (hc 8 _ _ rfl rfl)
    obtain ⟨n9, rfl⟩ := cell_bool Tryd.underlying4 (hc 9 _ _ rfl rfl)
    obtain ⟨n10, rfl, b10⟩ := cell_int Tryd.underlying22 (hc 10 _ _ rfl rfl)
    obtain ⟨n11, rfl⟩ := cell_bool Tryd.underlying4 (hc 11 _ _ rfl rfl)
    obtain ⟨n12, rfl, b12⟩ := cell_int Tryd.underlying22 (hc 12 _ _ rfl rfl)
    obtain ⟨n13, rfl⟩ := cell_bool Tryd.underlying4 (hc 13 _ _ rfl rfl)
    obtain ⟨n14, rfl, b14⟩ := cell_int Tryd.underlying22 (hc 14 _ _ rfl rfl)
    obtain ⟨n15, rfl⟩ := cell_bool Tryd.underlying4 (hc 15 _ _ rfl rfl)
    obtain ⟨n16, rfl, b16⟩ := cell_int Tryd.underlying22 (hc 16 _ _ rfl rfl)
    obtain ⟨n17, rfl⟩ := cell_bool Tryd.underlying4 (hc 17 _ _ rfl rfl)
    obtain ⟨n18, rfl, b18⟩ := cell_int Tryd.underlying22 (hc 18 _ _ rfl rfl)
    obtain ⟨n19, rfl⟩ := cell_bool Tryd.underlying4 (hc 19 _ _ rfl rfl)
    obtain ⟨n20, rfl, b20⟩ := cell_int Tryd.underlying22 (hc 20 _ _ rfl rfl)
    obtain ⟨n21, rfl⟩ := cell_bool Tryd.underlying4 (hc 21 _ _ rfl rfl)
    obtain ⟨n22, rfl, b22⟩ := cell_int Tryd.underlying22 (hc 22 _ _ rfl rfl)
    obtain ⟨n23, rfl⟩ := cell_bool Tryd.underlying4 (hc 23 _ _ rfl rfl)
    obtain ⟨n24, rfl, b24⟩ := cell_int Tryd.underlying22 (hc 24 _ _ rfl rfl)
    obtain ⟨n25, rfl, b25⟩ := cell_int Tryd.underlying22 (hc 25 _ _ rfl rfl)
    have z : (0 : Int) ≤ 0 ∧ (0 : Int) ≤ 65535 := ⟨by decide, by decide⟩
    refine ⟨⟨(fun k => match k with | 0 => n0 | 1 => n2 | 2 => n4 | 3 => n6 | 4 => n8 | 5 => n10 | 6 => n12 | 7 => n14 | _ => 0), (fun k => match k with | 0 => n1 | 1 => n3 | 2 => n5 | 3 => n7 | 4 => n9 | 5 => n11 | 6 => n13 | 7 => n15 | _ => false), (fun k => match k with | 0 => n16 | 1 => n18 | 2 => n20 | 3 => n22 | _ => 0), (fun k => match k with | 0 => n17 | 1 => n19 | 2 => n21 | 3 => n23 | _ => false), n24, n25⟩, ⟨fun k => ?_, fun k => ?_, b24, b25⟩, rfl⟩
    · match k with
      | 0 => exact b0
      | 1 => exact b2
      | 2 => exact b4
      | 3 => exact b6
      | 4 => exact b8
      | 5 => exact b10
      | 6 => exact b12
      | 7 => exact b14
      | _ + 8 => exact z
    · match k with
      | 0 => exact b16
      | 1 => exact b18
      | 2 => exact b20
      | 3 => exact b22
      | _ + 4 => exact z
theorem open_val {w : World} {base : Nat} {x : Value} (h : Value.okWide Tryd.prog w .any base 24 x) : ∃ v t, (0 ≤ v ∧ v ≤ 65535) ∧ x = .agg (encVal v t) := by
  obtain ⟨cs, rfl, hl, hc⟩ := open_flat (ts := [22, 4]) Tryd.underlying24 rfl (by kernel_rfl) (by kernel_rfl) h
  match cs, hl with
  | [c0, c1], _ =>
    obtain ⟨n0, rfl, b0⟩ := cell_int Tryd.underlying22 (hc 0 _ _ rfl rfl)
    obtain ⟨n1, rfl⟩ := cell_bool Tryd.underlying4 (hc 1 _ _ rfl rfl)
    exact ⟨n0, n1, b0, rfl⟩
/-! ### A place in memory -/
structure PlaceZ where
  v : Int
  t : Bool
  off : Int
def encPlace (p : PlaceZ) : Array Value := #[.int .u16 p.v, .bool p.t, .int .u16 p.off]
def zeroPlace : PlaceZ := ⟨0, false, 0⟩
theorem zPlace : ZeroTy Tryd.prog 37 (encPlace zeroPlace) := .of (by kernel_rfl)
theorem iPlace : (Tryd.prog.info? 37).map (·.size) = some 3 := by kernel_rfl
theorem tPlace : RowTy Tryd.prog 37 3 := .of Tryd.underlying37 rfl iPlace
theorem ext_place (p : PlaceZ) : ExtRel (encPlace p) 0 3 (encPlace p) := extract_all rfl
theorem put_place (p q : PlaceZ) : PutRel (encPlace p) 0 (encPlace q).toList (encPlace q) := putList_all rfl
theorem put_placeSeg (p : PlaceZ) (v : Int) (t : Bool) : PutRel (encPlace p) 0 (encVal v t).toList (encPlace { p with v := v, t := t }) := by
  constructor
  rfl
theorem put_placeOff (p : PlaceZ) (x : Int) : PutRel (encPlace p) 2 [.int .u16 x] (encPlace { p with off := x }) := ⟨rfl⟩
theorem one_place (p : PlaceZ) : (encPlace p).all (·.oneCell') = true := by simp [encPlace, Value.oneCell']
end Go.Proofs.YtenhcbaljjhhbaaDoor
