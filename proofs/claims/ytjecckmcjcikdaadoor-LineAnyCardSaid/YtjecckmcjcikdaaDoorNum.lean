/- Quotients, remainders and conversions in regions where tests guard them: rules beside those of Tame. No statement of the seat is proved here. -/
import Derived.Test.YtjecckmcjcikdaaDoorHand
namespace Go.Proofs.YtjecckmcjcikdaaDoor
open Go.ChangeShapes Go.WideShapes Go.ChangeAt Go.RowKit
set_option linter.unusedVariables false
set_option linter.unusedSimpArgs false
section
variable {P : Program} {C : World → Prop} {tp : TypeId} {pos : String} {af : Array Edge} {gd : Option (Nat × Bool)} {ls : List Value} {ds : List Deferred} {c : Bool} {dd : Option Tmp}
/-- A conversion of a number that fits; one that wraps. -/
theorem t_conv {src dst : TypeId} {d : TypeDesc} {x : Operand} {q k : IntKind} {n m : Int} (hs : P.underlying src = some d) (hd : P.underlying dst = some (.int k)) (hx : EvC ls c x (.int q n)) (hn : k.wrap n = m) : TIf P C c ⟨dd, .convert src dst x, tp, pos, af, gd⟩ ⟨ls.toArray, ds⟩ (.int k m) := by
  subst hn
  refine ⟨fun e => .inl fun w _ => ?_⟩
  unfold execOp
  simp [eval_of (hx.of e), convert, run_underlying hs, run_underlying hd, Conv.intToInt]
theorem t_neqB {ty ty' : TypeId} {x y : Operand} {a b : Bool} (hu : P.underlying ty = some .bool) (hx : EvC ls c x (.bool a)) (hy : EvC ls c y (.bool b)) : TIf P C c ⟨dd, .binOp .neq ty x y ty', tp, pos, af, gd⟩ ⟨ls.toArray, ds⟩ (.bool (a != b)) := by
  refine ⟨fun e => .inl fun w _ => ?_⟩
  have he : (Op.equal ty (.bool a) (.bool b)).run P w = .ok (a == b) w := eq_two (P := P) 1 ty (.bool a) (.bool b) (a == b) 9999 w (by simp [eqB, hu])
  unfold execOp
  simp only [eval_of (hx.of e), eval_of (hy.of e)]
  simp [eqGuard, binOp, he, bne]
theorem t_nel {t t' : TypeId} {x y : Operand} {cx cy : Array Value} {b : Bool}
    (hm : P.eqGuardType P.depth t = false) (hx : EvC ls c x (.agg cx)) (hy : EvC ls c y (.agg cy)) (hb : eqB P 9 t (.agg cx) (.agg cy) = some b) : TIf P C c ⟨dd, .binOp .neq t x y t', tp, pos, af, gd⟩ ⟨ls.toArray, ds⟩ (.bool (!b)) := by
  refine ⟨fun e => .inl fun w _ => ?_⟩
  have he := eq_two (P := P) 9 t (.agg cx) (.agg cy) b 9991 w hb
  have h1 := run_neq_struct (P := P) w t cx cy
  have h2 : (Op.equalIn 10000 t (.agg cx) (.agg cy)).run P w = .ok b w := he
  rw [h2] at h1
  unfold execOp
  simp only [eval_of (hx.of e), eval_of (hy.of e), Sem.run_bind, run_eqGuard_agg w .neq t x y cx cy hm, Result.andThen_ok, h1]
  simp
theorem t_rem {ty ty' : TypeId} {x y : Operand} {q : IntKind} {a b m : Int} (hx : EvC ls c x (.int q a)) (hy : EvC ls c y (.int q b)) (hb : b ≠ 0) (hm : a.tmod b = m) : TIf P C c ⟨dd, .binOp .rem ty x y ty', tp, pos, af, gd⟩ ⟨ls.toArray, ds⟩ (.int q m) := by
  subst hm
  refine ⟨fun e => .inl fun w _ => ?_⟩
  unfold execOp
  simp [eval_of (hx.of e), eval_of (hy.of e), eqGuard, binOp_rem, Op.intDiv, hb]
theorem t_quo {ty ty' : TypeId} {x y : Operand} {q : IntKind} {a b m : Int} (hx : EvC ls c x (.int q a)) (hy : EvC ls c y (.int q b)) (hb : b ≠ 0) (hm : q.wrap (a.tdiv b) = m) : TIf P C c ⟨dd, .binOp .quo ty x y ty', tp, pos, af, gd⟩ ⟨ls.toArray, ds⟩ (.int q m) := by
  subst hm
  refine ⟨fun e => .inl fun w _ => ?_⟩
  unfold execOp
  simp [eval_of (hx.of e), eval_of (hy.of e), eqGuard, binOp_quo, Op.intDiv, hb]
/-- A sum and the like, told as one wishes. -/
theorem t_numE {op : BinOp} {ty ty' : TypeId} {x y : Operand} {q : IntKind} {a b m m' : Int} (hx : EvC ls c x (.int q a)) (hy : EvC ls c y (.int q b)) (ht : numB q op a b = some m) (hm : m = m') : TIf P C c ⟨dd, .binOp op ty x y ty', tp, pos, af, gd⟩ ⟨ls.toArray, ds⟩ (.int q m') := by
  subst hm; exact t_num hx hy ht
/-- Shifts by so many bits. -/
theorem t_shrE {ty ty' : TypeId} {x y : Operand} {q q' : IntKind} {a b m : Int} {k : Nat} (hx : EvC ls c x (.int q a)) (hy : EvC ls c y (.int q' b)) (hb : b = k) (hk : k ≤ q.bits) (hm : a / 2 ^ k = m) : TIf P C c ⟨dd, .binOp .shr ty x y ty', tp, pos, af, gd⟩ ⟨ls.toArray, ds⟩ (.int q m) := by
  subst hb hm
  refine ⟨fun e => .inl fun w _ => ?_⟩
  have h1 : min k q.bits = k := by omega
  have h2 : ¬ ((k : Int) < 0) := by omega
  unfold execOp
  simp only [eval_of (hx.of e), eval_of (hy.of e)]
  simp [eqGuard, binOp, Op.shift, h1, h2]
  exact Int.fdiv_eq_ediv_of_nonneg a (Int.le_of_lt (Int.pow_pos (by decide)))
theorem t_shlE {ty ty' : TypeId} {x y : Operand} {q q' : IntKind} {a b m : Int} {k : Nat} (hx : EvC ls c x (.int q a)) (hy : EvC ls c y (.int q' b)) (hb : b = k) (hk : k ≤ q.bits) (hm : q.wrap (a * 2 ^ k) = m) : TIf P C c ⟨dd, .binOp .shl ty x y ty', tp, pos, af, gd⟩ ⟨ls.toArray, ds⟩ (.int q m) := by
  subst hb hm
  refine ⟨fun e => .inl fun w _ => ?_⟩
  have h1 : min k q.bits = k := by omega
  have h2 : ¬ ((k : Int) < 0) := by omega
  unfold execOp
  simp only [eval_of (hx.of e), eval_of (hy.of e)]
  simp [eqGuard, binOp, Op.shift, h1, h2]
theorem t_neg {ty : TypeId} {x : Operand} {q : IntKind} {a m : Int} (hx : EvC ls c x (.int q a)) (hm : q.wrap (-a) = m) : TIf P C c ⟨dd, .unOp .neg ty x, tp, pos, af, gd⟩ ⟨ls.toArray, ds⟩ (.int q m) := by
  subst hm
  refine ⟨fun e => .inl fun w _ => ?_⟩
  unfold execOp
  simp [eval_of (hx.of e), Op.unary, Op.intArith, Int.zero_sub]
end
theorem i64_and255 (n : Int) : bits .and .i64 n 255 = n % 256 := by
  have h3 : (BitVec.ofInt 64 255).toNat = 2 ^ 8 - 1 := by decide
  have key : (BitVec.ofInt 64 n &&& BitVec.ofInt 64 255).toNat = (n % ((2 ^ 64 : Nat) : Int)).toNat % 2 ^ 8 := by
    rw [BitVec.toNat_and, BitVec.toNat_ofInt, h3, Nat.and_two_pow_sub_one_eq_mod]
  show IntKind.i64.wrap ((BitVec.ofInt 64 n &&& BitVec.ofInt 64 255).toNat : Nat) = n % 256
  rw [key, IntKind.wrap_i64]
  omega
/-- The lower k bits of a number. -/
theorem i64_mask (n : Int) (k m : Nat) (hk : k ≤ 62) (hm : m + 1 = 2 ^ k) : bits .and .i64 n (m : Int) = n % ((m + 1 : Nat) : Int) := by
  have hm2 : m < 2 ^ 62 := by have := Nat.pow_le_pow_right (show 0 < 2 by decide) hk; omega
  have h3 : (BitVec.ofInt 64 (m : Int)).toNat = 2 ^ k - 1 := by rw [BitVec.toNat_ofInt]; omega
  have key : (BitVec.ofInt 64 n &&& BitVec.ofInt 64 (m : Int)).toNat = (n % ((2 ^ 64 : Nat) : Int)).toNat % 2 ^ k := by
    rw [BitVec.toNat_and, BitVec.toNat_ofInt, h3, Nat.and_two_pow_sub_one_eq_mod]
  show IntKind.i64.wrap ((BitVec.ofInt 64 n &&& BitVec.ofInt 64 (m : Int)).toNat : Nat) = n % ((m + 1 : Nat) : Int)
  have hd : ((2 ^ k : Nat) : Int) ∣ ((2 ^ 64 : Nat) : Int) := by
    rw [Int.natCast_dvd_natCast]; exact Nat.pow_dvd_pow 2 (by omega)
  have h5 : ((n % ((2 ^ 64 : Nat) : Int)).toNat % 2 ^ k : Nat) = (n % ((2 ^ k : Nat) : Int)) := by
    rw [Int.natCast_emod, Int.toNat_of_nonneg (Int.emod_nonneg _ (by decide)), Int.emod_emod_of_dvd _ hd]
  have h6 : (n % ((2 ^ k : Nat) : Int)) < ((2 ^ k : Nat) : Int) := Int.emod_lt_of_pos _ (by omega)
  have h7 : 0 ≤ (n % ((2 ^ k : Nat) : Int)) := Int.emod_nonneg _ (by omega)
  rw [key, h5, IntKind.wrap_i64, hm]
  omega
theorem u32_mask (n k m : Nat) (hk : k ≤ 31) (hm : m + 1 = 2 ^ k) : bits .and .u32 (n : Int) (m : Int) = ((n % (m + 1) : Nat) : Int) := by
  have hm2 : m < 2 ^ 31 := by have := Nat.pow_le_pow_right (show 0 < 2 by decide) hk; omega
  have h3 : (BitVec.ofInt 32 (m : Int)).toNat = 2 ^ k - 1 := by rw [BitVec.toNat_ofInt]; omega
  have key : (BitVec.ofInt 32 (n : Int) &&& BitVec.ofInt 32 (m : Int)).toNat = ((n : Int) % ((2 ^ 32 : Nat) : Int)).toNat % 2 ^ k := by
    rw [BitVec.toNat_and, BitVec.toNat_ofInt, h3, Nat.and_two_pow_sub_one_eq_mod]
  show IntKind.u32.wrap ((BitVec.ofInt 32 (n : Int) &&& BitVec.ofInt 32 (m : Int)).toNat : Nat) = ((n % (m + 1) : Nat) : Int)
  have h5 : ((n : Int) % ((2 ^ 32 : Nat) : Int)).toNat = n % 2 ^ 32 := by omega
  have h6 : n % 2 ^ 32 % 2 ^ k = n % 2 ^ k := Nat.mod_mod_of_dvd _ (Nat.pow_dvd_pow 2 (by omega))
  have h7 : n % 2 ^ k < 2 ^ k := Nat.mod_lt _ (by omega)
  rw [key, h5, h6, IntKind.wrap_u32, hm]
  omega
theorem u16_mask (n k m : Nat) (hk : k ≤ 15) (hm : m + 1 = 2 ^ k) : bits .and .u16 (n : Int) (m : Int) = ((n % (m + 1) : Nat) : Int) := by
  have hm2 : m < 2 ^ 15 := by have := Nat.pow_le_pow_right (show 0 < 2 by decide) hk; omega
  have h3 : (BitVec.ofInt 16 (m : Int)).toNat = 2 ^ k - 1 := by rw [BitVec.toNat_ofInt]; omega
  have key : (BitVec.ofInt 16 (n : Int) &&& BitVec.ofInt 16 (m : Int)).toNat = ((n : Int) % ((2 ^ 16 : Nat) : Int)).toNat % 2 ^ k := by
    rw [BitVec.toNat_and, BitVec.toNat_ofInt, h3, Nat.and_two_pow_sub_one_eq_mod]
  show IntKind.u16.wrap ((BitVec.ofInt 16 (n : Int) &&& BitVec.ofInt 16 (m : Int)).toNat : Nat) = ((n % (m + 1) : Nat) : Int)
  have h5 : ((n : Int) % ((2 ^ 16 : Nat) : Int)).toNat = n % 2 ^ 16 := by omega
  have h6 : n % 2 ^ 16 % 2 ^ k = n % 2 ^ k := Nat.mod_mod_of_dvd _ (Nat.pow_dvd_pow 2 (by omega))
  have h7 : n % 2 ^ k < 2 ^ k := Nat.mod_lt _ (by omega)
  rw [key, h5, h6, IntKind.wrap_u16, hm]
  omega
theorem u16_quo_in {a b : Int} (h : 0 ≤ a ∧ a ≤ 65535) (hb : 1 ≤ b) : IntKind.u16.wrap (a.tdiv b) = a / b := by
  rw [Int.tdiv_eq_ediv_of_nonneg h.1]
  have h2 : a / b ≤ a := Int.ediv_le_self b h.1
  have h3 : 0 ≤ a / b := Int.ediv_nonneg h.1 (by omega)
  exact IntWalk.u16_in _ (by omega)
theorem quo_in {a b : Int} (h : 0 ≤ a) (h1 : a ≤ 4611686018427387903) (hb : 1 ≤ b) : IntKind.i64.wrap (a.tdiv b) = a / b := by
  rw [Int.tdiv_eq_ediv_of_nonneg h]
  have h2 : a / b ≤ a := Int.ediv_le_self b h
  have h3 : 0 ≤ a / b := Int.ediv_nonneg h (by omega)
  exact IntWalk.i64_in _ (by omega)
theorem rem_in {a b : Int} (h : 0 ≤ a) : a.tmod b = a % b := Int.tmod_eq_emod_of_nonneg h
end Go.Proofs.YtjecckmcjcikdaaDoor
