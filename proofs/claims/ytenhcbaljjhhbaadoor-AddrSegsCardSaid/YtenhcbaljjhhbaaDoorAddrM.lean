





/- For AddrSegs: places built under guards and held against others; what a segment register's number is. No statement of the seat is proved here. -/
import Derived.Test.YtenhcbaljjhhbaaDoorAddrL
import Derived.Test.YtenhcbaljjhhbaaDoorText
namespace Go.Proofs.YtenhcbaljjhhbaaDoor
open Go.ChangeShapes Go.WideShapes Go.ChangeAt Go.RowKit
set_option linter.unusedVariables false
set_option linter.unusedSimpArgs false

theorem t_built2 {P : Program} {C : World → Prop} {c : Bool} {dd : Option Tmp} {ls : List Value} {ds : List Deferred} {tp : TypeId} {pos : String} {af : Array Edge} {gd : Option (Nat × Bool)} {t : TypeId} {cs : Array Value} {i0 i1 : Nat} {x y : Operand} {v u : Value} (hx : EvC ls c x v) (hy : EvC ls c y u) (hb : Built P t [(i0, v), (i1, u)] cs) :
    TIf P C c ⟨dd, .build t #[(i0, x), (i1, y)], tp, pos, af, gd⟩ ⟨ls.toArray, ds⟩ (.agg cs) :=
  ⟨fun e => .inl fun w _ => run_buildRow rfl (by rw [evalParts_of (vs := [(i0, v), (i1, u)]) (by simp [evalParts, hx.of e, hy.of e])]; exact hb.eq)⟩
theorem t_aix {P : Program} {C : World → Prop} {c : Bool} {dd : Option Tmp} {ls : List Value} {ds : List Deferred} {tp : TypeId} {pos : String} {af : Array Edge} {gd : Option (Nat × Bool)} {ty e : TypeId} {x ix : Operand} {g off n k : Nat} {q : IntKind} {j : Int} (hu : P.underlying ty = some (.array n e)) (hz : (P.info? e).map (·.size) = some k) (hx : EvC ls c x (.pointer (some ⟨g, off, none⟩))) (hi : EvC ls c ix (.int q j)) (hj : 0 ≤ j ∧ j < n) :
    TIf P C c ⟨dd, .indexAddr ty x ix, tp, pos, af, gd⟩ ⟨ls.toArray, ds⟩ (.pointer (some ⟨g, off + j.toNat * k, none⟩)) := by
  refine ⟨fun h => .inl fun w _ => ?_⟩
  cases hq : P.info? e with
  | none => simp [hq] at hz
  | some inf =>
    have hsz : inf.size = k := by simpa [hq] using hz
    unfold execOp
    simp [Instr.indexAt, eval_of (hx.of h), eval_of (hi.of h), run_underlying hu, asIntOf, hj, sizeOf, typeInfo, hq, hsz, Instr.sureAddr, Addr.add]
theorem bPlace (v : Int) (t : Bool) (off : Int) : Built Tryd.prog 37 [(0, .agg (encVal v t)), (1, .int .u16 off)] (encPlace ⟨v, t, off⟩) := ⟨by kernel_rfl⟩
theorem eqB_place (p q : PlaceZ) : eqB Tryd.prog 9 37 (.agg (encPlace p)) (.agg (encPlace q)) = some ((p.v == q.v && (p.t == q.t && true)) && (p.off == q.off && true)) := by kernel_rfl
theorem gPlace : Tryd.prog.eqGuardType Tryd.prog.depth 37 = false := by kernel_rfl
theorem fRegsS : FieldAt Tryd.prog 28 1 16 := ⟨fun g w => by simp [go_sem, Instr.fieldAt, fieldPlace]⟩
theorem i64_and3 (n : Int) : bits .and .i64 n 3 = n % 4 := by
  have h3 : (BitVec.ofInt 64 3).toNat = 2 ^ 2 - 1 := by decide
  have key : (BitVec.ofInt 64 n &&& BitVec.ofInt 64 3).toNat = (n % ((2 ^ 64 : Nat) : Int)).toNat % 2 ^ 2 := by
    rw [BitVec.toNat_and, BitVec.toNat_ofInt, h3, Nat.and_two_pow_sub_one_eq_mod]
  show IntKind.i64.wrap ((BitVec.ofInt 64 n &&& BitVec.ofInt 64 3).toNat : Nat) = n % 4
  rw [key, IntKind.wrap_i64]
  omega
theorem i64_and7 (n : Int) : bits .and .i64 n 7 = n % 8 := by
  have h3 : (BitVec.ofInt 64 7).toNat = 2 ^ 3 - 1 := by decide
  have key : (BitVec.ofInt 64 n &&& BitVec.ofInt 64 7).toNat = (n % ((2 ^ 64 : Nat) : Int)).toNat % 2 ^ 3 := by
    rw [BitVec.toNat_and, BitVec.toNat_ofInt, h3, Nat.and_two_pow_sub_one_eq_mod]
  show IntKind.i64.wrap ((BitVec.ofInt 64 n &&& BitVec.ofInt 64 7).toNat : Nat) = n % 8
  rw [key, IntKind.wrap_i64]
  omega
theorem may_seg {i : InstZ} (h : mayR i = true) : 0 ≤ i.seg ∧ i.seg ≤ 4 := by
  unfold mayR at h
  cases hb : bad1R i
  · unfold bad1R at hb
    simp at hb
    omega
  · rw [hb] at h; simp at h
end Go.Proofs.YtenhcbaljjhhbaaDoor
