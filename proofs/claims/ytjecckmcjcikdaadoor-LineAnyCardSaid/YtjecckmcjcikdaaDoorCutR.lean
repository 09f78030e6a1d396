



/- Slices of elements of any size, cut at both ends or at one, wherever they lie. No statement of the seat is proved here. -/
import Derived.Test.YtjecckmcjcikdaaDoorApp
import Derived.Test.YtjecckmcjcikdaaDoorLst
namespace Go.Proofs.YtjecckmcjcikdaaDoor
open Go.ChangeShapes Go.WideShapes Go.ChangeAt Go.RowKit
set_option linter.unusedVariables false
set_option linter.unusedSimpArgs false

/-- The places i to j of a slice. -/
def cutR (k : Nat) (v : Value) (i j : Nat) : Value := match v with
  | .slice (some a) n cap => .slice (some (a.add (tailOff cap i k))) (j - i) (cap - i)
  | v => v
theorem Rd.cutR {w : World} {k m : Nat} {v : Value} {ys : List Value} (h : Rd w k v m ys) {i j : Nat} (hij : i ≤ j) (hj : j ≤ m) : Rd w k (cutR k v i j) (j - i) ((ys.drop (i * k)).take ((j - i) * k)) := by
  have hle : (j - i) * k ≤ m * k - i * k := by rw [← Nat.sub_mul]; exact Nat.mul_le_mul_right k (by omega)
  refine ⟨by rw [List.length_take, List.length_drop, h.len]; omega, List.all_eq_true.2 fun x hx => List.all_eq_true.1 h.ones x (List.mem_of_mem_drop (List.mem_of_mem_take hx)), ?_⟩
  rcases h.way with ⟨rfl, rfl, rfl⟩ | ⟨a, cap, rfl, hc, hcell⟩
  · exact .inl ⟨rfl, by omega, by simp⟩
  · refine .inr ⟨_, _, rfl, by omega, fun q u hu => ?_⟩
    rw [List.getElem?_take] at hu
    split at hu
    · rename_i hq
      have hne : ¬ cap = i := by
        intro he
        rw [show j - i = 0 by omega, Nat.zero_mul] at hq
        omega
      rw [List.getElem?_drop] at hu
      unfold tailOff
      rw [if_neg hne, _root_.Go.Addr.add_add]
      exact hcell _ u hu
    · exact nomatch hu
section
variable {α : Type} {k : Nat} {f : α → List Value}
theorem flat_drop (hk : ∀ x, (f x).length = k) : ∀ (l : List α) (j : Nat), (l.drop j).flatMap f = (l.flatMap f).drop (j * k)
  | [], j => by simp
  | y :: l, 0 => by simp
  | y :: l, j + 1 => by
    rw [List.drop_succ_cons, flat_drop hk l j, List.flatMap_cons, show (j + 1) * k = (f y).length + j * k by rw [hk, Nat.add_mul, Nat.one_mul, Nat.add_comm], ← List.drop_drop, List.drop_left]
theorem RowsAt.cut {w : World} {v : Value} {zs : List α} (hk : ∀ x, (f x).length = k) (h : RowsAt k f w v zs) {i j : Nat} (hij : i ≤ j) (hj : j ≤ zs.length) : RowsAt k f w (cutR k v i j) ((zs.drop i).take (j - i)) := by
  have h2 := Rd.cutR h hij hj
  unfold RowsAt
  rw [flat_take hk, flat_drop hk, List.length_take, List.length_drop, show min (j - i) (zs.length - i) = j - i by omega]
  exact h2
theorem RowsAt.tail {w : World} {v : Value} {zs : List α} (hk : ∀ x, (f x).length = k) (h : RowsAt k f w v zs) {i : Nat} (hi : i ≤ zs.length) : RowsAt k f w (cutR k v i zs.length) (zs.drop i) := by
  have h2 := h.cut hk hi (Nat.le_refl _)
  rwa [List.take_of_length_le (by rw [List.length_drop]; omega)] at h2
end
section
variable {P : Program} {C : World → Prop} {tp : TypeId} {pos : String} {af : Array Edge} {gd : Option (Nat × Bool)} {ls : List Value} {ds : List Deferred} {c : Bool} {dd : Option Tmp}
theorem run_midRd {w w1 : World} {t e : TypeId} {k m i j : Nat} {v : Value} {ys : List Value} {q q' : IntKind} (hu : P.underlying t = some (.slice e)) (hz : (P.info? e).map (·.size) = some k) (hA : Rd w1 k v m ys) (hij : i ≤ j) (hj : j ≤ m) :
    (Instr.sliceAt t v (some (.int q (i : Int))) (some (.int q' (j : Int))) none).run P w = .ok (cutR k v i j) w := by
  cases hq : P.info? e with
  | none => simp [hq] at hz
  | some inf =>
    have hsz : inf.size = k := by simpa [hq] using hz
    rcases hA.way with ⟨rfl, rfl, _⟩ | ⟨a, cap, rfl, hle, _⟩
    · obtain rfl : j = 0 := by omega
      obtain rfl : i = 0 := by omega
      simp [Instr.sliceAt, Instr.slice, run_underlying hu, Instr.sliceBounds, Instr.sliceBound, asIntOf, sizeOf, typeInfo, hq, hsz, cutR]
    · have h1 : (0 : Int) ≤ (i : Int) ∧ (i : Int) ≤ (j : Int) := ⟨by omega, by omega⟩
      have h2 : (0 : Int) ≤ (j : Int) ∧ (j : Int) ≤ (cap : Int) := ⟨by omega, by omega⟩
      have h3 : i ≤ j := hij
      have h4 : j ≤ cap := by omega
      unfold cutR tailOff
      simp [Instr.sliceAt, Instr.slice, run_underlying hu, Instr.sliceBounds, Instr.sliceBound, asIntOf, h1, h2, sizeOf, typeInfo, hq, hsz]
      by_cases hcm : cap = i
      · subst hcm
        have : j = cap := by omega
        subst this
        simp [Addr.add]
      · simp [hcm]
        rw [if_pos h4, if_pos h3]
theorem run_tailRd {w w1 : World} {t e : TypeId} {k m i : Nat} {v : Value} {ys : List Value} {q : IntKind} (hu : P.underlying t = some (.slice e)) (hz : (P.info? e).map (·.size) = some k) (hA : Rd w1 k v m ys) (hi : i ≤ m) :
    (Instr.sliceAt t v (some (.int q (i : Int))) none none).run P w = .ok (cutR k v i m) w := by
  cases hq : P.info? e with
  | none => simp [hq] at hz
  | some inf =>
    have hsz : inf.size = k := by simpa [hq] using hz
    rcases hA.way with ⟨rfl, rfl, _⟩ | ⟨a, cap, rfl, hle, _⟩
    · obtain rfl : i = 0 := by omega
      simp [Instr.sliceAt, Instr.slice, run_underlying hu, Instr.sliceBounds, Instr.sliceBound, asIntOf, sizeOf, typeInfo, hq, hsz, cutR]
    · have h1 : (0 : Int) ≤ (i : Int) ∧ (i : Int) ≤ (m : Int) := ⟨by omega, by omega⟩
      have h2 : (0 : Int) ≤ (m : Int) ∧ (m : Int) ≤ (cap : Int) := ⟨by omega, by omega⟩
      unfold cutR tailOff
      simp [Instr.sliceAt, Instr.slice, run_underlying hu, Instr.sliceBounds, Instr.sliceBound, asIntOf, h1, h2, sizeOf, typeInfo, hq, hsz]
      by_cases hcm : cap = i
      · simp [hcm]
        rw [if_pos hi, show a.add 0 = a by simp [Addr.add]]
      · simp [hcm]; omega
theorem t_midRd {t e : TypeId} {k m i j : Nat} {v : Value} {ys : List Value} {w : World} {x y z : Operand} {q q' : IntKind} {a b : Int} (hu : P.underlying t = some (.slice e)) (hz : (P.info? e).map (·.size) = some k) (hx : EvC ls c x v) (hy : EvC ls c y (.int q a)) (hy' : EvC ls c z (.int q' b)) (hA : Rd w k v m ys) (ha : a = i) (hb : b = j) (hij : i ≤ j) (hj : j ≤ m) :
    TIf P C c ⟨dd, .slice t x (some y) (some z) none, tp, pos, af, gd⟩ ⟨ls.toArray, ds⟩ (cutR k v i j) := by
  subst ha hb
  refine ⟨fun h => .inl fun w' _ => ?_⟩
  unfold execOp
  simp [eval_of (hx.of h), eval_of (hy.of h), eval_of (hy'.of h), run_midRd (q := q) (q' := q') hu hz hA hij hj]
theorem t_tailRd {t e : TypeId} {k m i : Nat} {v : Value} {ys : List Value} {w : World} {x y : Operand} {q : IntKind} {a : Int} (hu : P.underlying t = some (.slice e)) (hz : (P.info? e).map (·.size) = some k) (hx : EvC ls c x v) (hy : EvC ls c y (.int q a)) (hA : Rd w k v m ys) (ha : a = i) (hi : i ≤ m) :
    TIf P C c ⟨dd, .slice t x (some y) none none, tp, pos, af, gd⟩ ⟨ls.toArray, ds⟩ (cutR k v i m) := by
  subst ha
  refine ⟨fun h => .inl fun w' _ => ?_⟩
  unfold execOp
  simp [eval_of (hx.of h), eval_of (hy.of h), run_tailRd (q := q) hu hz hA hi]
end
end Go.Proofs.YtjecckmcjcikdaaDoor
