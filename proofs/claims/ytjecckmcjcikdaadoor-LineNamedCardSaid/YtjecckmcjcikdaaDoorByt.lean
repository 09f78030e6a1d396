/- Bytes of the call's own that are written one by one; turned around bit by bit. No statement of the seat is proved here. -/
import Derived.Test.YtjecckmcjcikdaaDoorStr
import Derived.Test.YtjecckmcjcikdaaDoorFlat
import Derived.Test.YtjecckmcjcikdaaDoorChecked
namespace Go.Proofs.YtjecckmcjcikdaaDoor
open Go.ChangeShapes Go.WideShapes Go.ChangeAt Go.RowKit
set_option linter.unusedVariables false
set_option linter.unusedSimpArgs false

theorem cmp_self (a : Int) : cmpB .eql a a = some true := congrArg some (beq_self_eq_true a)
theorem bB0 : BuiltS Tryd.prog 70 0 [] 5 #[] := ⟨fun w => by simp [go_sem]⟩
theorem tBytesB : SliceB Tryd.prog 70 5 1 1 := .of (z := .int .u8 0) Tryd.underlying70 (by kernel_rfl) rfl (by decide)
theorem iByteR : (Tryd.prog.info? 5).map (·.size) = some 1 := by kernel_rfl
theorem cells_flat (ns : List Int) : cellsB ns = ns.flatMap fun n => [Value.int .u8 n] := by
  induction ns with
  | nil => rfl
  | cons n l ih => rw [List.flatMap_cons, ← ih]; rfl
/-- A byte of a row of the call's own is put anew. -/
theorem put_byte {cur : Array Value} {ns : List Int} {cap i : Nat} (h : RwIs 1 cur ns.length cap (cellsB ns)) (hi : i < ns.length) (x : Int) : RwIs 1 (putList cur i [.int .u8 x]) ns.length cap (cellsB (ns.set i x)) := by
  have h2 := flat_put (f := fun n => [Value.int .u8 n]) (fun _ => rfl) (by decide) (by rw [← cells_flat]; exact h) hi x
  rw [Nat.mul_one, ← cells_flat] at h2
  exact h2
theorem RwIs.at_ {cur : Array Value} {ns : List Int} {cap i : Nat} {x : Int} (h : RwIs 1 cur ns.length cap (cellsB ns)) (hi : ns[i]? = some x) : cur.toList[i]? = some (.int .u8 x) := by
  have := h.part.get i (.int .u8 x) (by unfold cellsB; rw [List.getElem?_map, hi]; rfl)
  rw [Nat.zero_add] at this
  rw [Array.getElem?_toList]; exact this
theorem bytesOk.set {a : List Int} (ha : bytesOk a) (k : Nat) {x : Int} (hx : 0 ≤ x ∧ x ≤ 255) : bytesOk (a.set k x) := by
  intro n hn
  rcases List.mem_or_eq_of_mem_set hn with h | rfl
  · exact ha n h
  · exact hx
theorem t_lenSrc' {P : Program} {C : World → Prop} {tp : TypeId} {pos : String} {af : Array Edge} {gd : Option (Nat × Bool)} {ls : List Value} {ds : List Deferred} {c : Bool} {dd : Option Tmp} {t e' : TypeId} {v : Value} {bs : List Int} {w : World} {x : Operand} (hA : SrcW w v bs) (ht : P.underlying t = some (.slice e')) (hx : EvC ls c x v) : TIf P C c ⟨dd, .call ⟨.builtin .len, #[x], #[t]⟩, tp, pos, af, gd⟩ ⟨ls.toArray, ds⟩ (.int .i64 bs.length) := t_lenW ht hx hA
theorem xor8 {x b : Int} (hx : 0 ≤ x ∧ x ≤ 255) (hb : 1 ≤ b ∧ b ≤ 255) : (0 ≤ bits .xor .u8 x b ∧ bits .xor .u8 x b ≤ 255) ∧ bits .xor .u8 x b ≠ x := by
  have h : bits .xor .u8 x b = (((BitVec.ofInt 8 x ^^^ BitVec.ofInt 8 b).toNat : Nat) : Int) := by
    show IntKind.u8.wrap (((BitVec.ofInt 8 x ^^^ BitVec.ofInt 8 b).toNat : Nat) : Int) = _
    have := (BitVec.ofInt 8 x ^^^ BitVec.ofInt 8 b).isLt
    rw [IntKind.wrap_u8]
    omega
  have h1 := (BitVec.ofInt 8 x ^^^ BitVec.ofInt 8 b).isLt
  refine ⟨by rw [h]; omega, fun he => ?_⟩
  rw [h] at he
  have h2 : BitVec.ofInt 8 x ^^^ BitVec.ofInt 8 b = BitVec.ofInt 8 x := by
    apply BitVec.eq_of_toNat_eq
    rw [BitVec.toNat_ofInt]
    omega
  have h3 : BitVec.ofInt 8 b = 0#8 := by
    have := congrArg (fun v => BitVec.ofInt 8 x ^^^ v) h2
    simpa [← BitVec.xor_assoc] using this
  have h4 := congrArg BitVec.toNat h3
  rw [BitVec.toNat_ofInt] at h4
  simp at h4
  omega
end Go.Proofs.YtjecckmcjcikdaaDoor
