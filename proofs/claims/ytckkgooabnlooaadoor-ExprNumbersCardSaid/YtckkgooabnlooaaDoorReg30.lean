










/- What the twenty registers come to alone, and with something added. No statement of the seat is proved here. -/
import Derived.Test.YtckkgooabnlooaaDoorLaw30
namespace Go.Proofs.YtckkgooabnlooaaDoor
open Go.ChangeShapes Go.WideShapes Go.ChangeAt Go.RowKit
set_option linter.unusedVariables false
set_option linter.unusedSimpArgs false
set_option maxRecDepth 100000

def gotB (r : Rs PartZ) : Bool := match r with
  | .out => false
  | _ => true
theorem got_of {r : Rs PartZ} (h : gotB r = true) : r.got := by
  cases r with
  | out => exact nomatch h
  | _ => trivial
theorem bStr20 (a b c d e f g h i j k l m n o p q r s t : ByteArray) : BuiltS Tryd.prog 23 20 [(0, .string a), (1, .string b), (2, .string c), (3, .string d), (4, .string e), (5, .string f), (6, .string g), (7, .string h), (8, .string i), (9, .string j), (10, .string k), (11, .string l), (12, .string m), (13, .string n), (14, .string o), (15, .string p), (16, .string q), (17, .string r), (18, .string s), (19, .string t)] 9 #[.string a, .string b, .string c, .string d, .string e, .string f, .string g, .string h, .string i, .string j, .string k, .string l, .string m, .string n, .string o, .string p, .string q, .string r, .string s, .string t] := ⟨fun w => by simp [go_sem]⟩
structure RegK (k : Nat) (s : List Int) : Prop where
  el : regsZ[k]? = some s
  tok : TokIs s (tkA s)
  g1 : (parseM zTab 40 (.ex 1) (startS [tkA s])).got
  p1 : opdR (parseM zTab 40 (.ex 1) (startS [tkA s])) = (namedOZ k, 0)
  n1 : numberR (namedOZ k, 0) = (zeroVal, 3)
  g2 : (parseM zTab 40 (.ex 1) (startS [tkA s, tkS 43, tkN 1])).got
  p2 : opdR (parseM zTab 40 (.ex 1) (startS [tkA s, tkS 43, tkN 1])) = (zeroOpd, 3)
  ix : regIx s = k
theorem reg_k {k : Nat} (h : k < 20) : ∃ s, RegK k s := by
  have h2 : k = 0 ∨ k = 1 ∨ k = 2 ∨ k = 3 ∨ k = 4 ∨ k = 5 ∨ k = 6 ∨ k = 7 ∨ k = 8 ∨ k = 9 ∨ k = 10 ∨ k = 11 ∨ k = 12 ∨ k = 13 ∨ k = 14 ∨ k = 15 ∨ k = 16 ∨ k = 17 ∨ k = 18 ∨ k = 19 := by omega
  rcases h2 with rfl | rfl | rfl | rfl | rfl | rfl | rfl | rfl | rfl | rfl | rfl | rfl | rfl | rfl | rfl | rfl | rfl | rfl | rfl | rfl
  all_goals exact ⟨_, ⟨rfl, .name (ascii.ok (ascii_of rfl)) (by decide), got_of (by kernel_rfl), by kernel_rfl, by kernel_rfl, got_of (by kernel_rfl), by kernel_rfl, by kernel_rfl⟩⟩
def sXX : List Int := [88, 88]
theorem lsXX : (⟨#[88, 88]⟩ : ByteArray) = strOfNums sXX := rfl
theorem oksXX : bytesOk sXX := ascii.ok (ascii_of rfl)
theorem ix_xx : regIx sXX = -1 := by kernel_rfl
theorem gOpd : Tryd.prog.eqGuardType Tryd.prog.depth 41 = false := by kernel_rfl
theorem eqO_self (v : OpdZ) : eqB Tryd.prog 9 41 (.agg (encOp v)) (.agg (encOp v)) = some true := by
  have h : eqB Tryd.prog 9 41 (.agg (encOp v)) (.agg (encOp v)) = some ((v.kd == v.kd) && ((v.n == v.n) && ((v.rm == v.rm) && (((v.v.n == v.v.n) && ((v.v.f == v.v.f) && ((v.v.w == v.v.w) && ((v.v.t == v.v.t) && ((v.v.a == v.v.a) && ((v.v.k == v.v.k) && true)))))) && ((v.t == v.t) && ((v.o == v.o) && ((v.s == v.s) && true))))))) := by kernel_rfl
  rw [h]; simp
end Go.Proofs.YtckkgooabnlooaaDoor
