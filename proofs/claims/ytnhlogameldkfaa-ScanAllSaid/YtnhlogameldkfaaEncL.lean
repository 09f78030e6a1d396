



/- Some instructions as the cells of a row, one behind the other ('encL'); Put's bytes as numbers ('RetBy'). No statement of the seat is proved here. -/
import Derived.Test.YtnhlogameldkfaaMany
import Derived.Test.YtnhlogameldkfaaInstQ
namespace Go.Proofs.Ytnhlogameldkfaa
open Go.ChangeShapes Go.WideShapes Go.ChangeAt Go.RowKit
set_option linter.unusedVariables false
set_option linter.unusedSimpArgs false

/-- Instructions' cells, one behind the other. -/
def encL (js : List InstZ) : List Value := js.flatMap fun j => (encI j).toList
theorem encI_len (j : InstZ) : (encI j).toList.length = 10 := rfl
theorem encL_append (a b : List InstZ) : encL (a ++ b) = encL a ++ encL b := by unfold encL; rw [List.flatMap_append]
theorem encL_len (js : List InstZ) : (encL js).length = js.length * 10 := by
  induction js with
  | nil => rfl
  | cons j js ih => rw [show encL (j :: js) = (encI j).toList ++ encL js from rfl, List.length_append, ih, encI_len]; simp; omega
theorem encL_ones (js : List InstZ) : (encL js).all (·.oneCell') = true := by
  rw [List.all_eq_true]
  intro v hv
  obtain ⟨j, _, hj⟩ := List.mem_flatMap.1 hv
  have := one_inst j
  exact (Array.all_eq_true_iff_forall_mem.1 this) v (by simpa using hj)
theorem encL_at (js : List InstZ) (k : Nat) (j : InstZ) (h : js[k]? = some j) (m : Nat) (u : Value) (hu : (encI j).toList[m]? = some u) : (encL js)[k * 10 + m]? = some u := by
  induction js generalizing k with
  | nil => simp at h
  | cons x js ih =>
    rw [show encL (x :: js) = (encI x).toList ++ encL js from rfl]
    cases k with
    | zero =>
      simp at h
      subst h
      have hm : m < (encI x).toList.length := (List.getElem?_eq_some_iff.1 hu).1
      rw [Nat.zero_mul, Nat.zero_add, List.getElem?_append_left hm]; exact hu
    | succ k =>
      rw [List.getElem?_append_right (by rw [encI_len]; omega), encI_len, show (k + 1) * 10 + m - 10 = k * 10 + m by omega]
      exact ih k (by simpa using h)
theorem part_el {cur : Array Value} {js : List InstZ} {n cap : Nat} (h : RwIs 10 cur n cap (encL js)) {k : Nat} {j : InstZ} (hk : js[k]? = some j) : Part cur (k * 10) (encI j).toList :=
  ⟨fun m u hu => by have := h.part.get _ u (encL_at js k j hk m u hu); rw [Nat.zero_add] at this; exact this⟩
theorem tInsts : SliceK Try.prog 36 24 10 := .of (z := .agg (encI zeroI)) (b := 64) Try.underlying36 (by kernel_rfl) (by decide) (by rfl) (by decide)

theorem bI0 : BuiltS Try.prog 36 0 [] 24 #[] := ⟨fun w => by simp [go_sem]⟩
theorem bI1 (i : InstZ) : BuiltS Try.prog 36 1 [(0, .agg (encI i))] 24 (encI i) := ⟨fun w => by simp [go_sem, encI]⟩
def RetBy (w : World) (ns : List Int) (en : Ending) (w' : World) : Prop :=
  ∃ g cur cap, en = .returned (.slice (some ⟨g, 0, none⟩) ns.length cap) ∧ Own w w' [(g, cur, 5)] ∧ SlIs cur ns.length cap (cellsB ns)
theorem put5_bytes (i : InstZ) (hi : i.ok) (hm : mayR i = true) (w : World) : Calls Try.prog 7 #[.agg (encI i)] w (RetBy w (putN i)) := by
  refine (put5_any i hi (near_of i hm).1 w).mono ?_
  rintro e w' ⟨g, cur, cap, h1, h2, h3⟩
  rw [putN_cells, cellsB_len] at h1 h3
  exact ⟨g, cur, cap, h1, h2, h3⟩
theorem encL_take (js : List InstZ) (k : Nat) : (encL js).take (k * 10) = encL (js.take k) := by
  induction js generalizing k with
  | nil => simp [encL]
  | cons j js ih =>
    cases k with
    | zero => simp [encL]
    | succ k =>
      rw [show encL (j :: js) = (encI j).toList ++ encL js from rfl, List.take_succ_cons, show encL (j :: js.take k) = (encI j).toList ++ encL (js.take k) from rfl, ← ih k]
      rw [List.take_append, encI_len, List.take_of_length_le (by rw [encI_len]; omega), show (k + 1) * 10 - 10 = k * 10 by omega]
theorem encL_drop (js : List InstZ) (k : Nat) : (encL js).drop (k * 10) = encL (js.drop k) := by
  induction js generalizing k with
  | nil => simp [encL]
  | cons j js ih =>
    cases k with
    | zero => simp
    | succ k =>
      rw [show encL (j :: js) = (encI j).toList ++ encL js from rfl, List.drop_succ_cons, ← ih k]
      rw [List.drop_append, encI_len, List.drop_of_length_le (by rw [encI_len]; omega), show (k + 1) * 10 - 10 = k * 10 by omega, List.nil_append]
theorem part_take {cur : Array Value} {js : List InstZ} {n cap : Nat} (h : RwIs 10 cur n cap (encL js)) (k : Nat) : Part cur 0 (encL (js.take k)) := by
  rw [← encL_take]; exact h.part.take _
theorem part_drop {cur : Array Value} {js : List InstZ} {cap k : Nat} (h : RwIs 10 cur js.length cap (encL js)) (hk : k ≤ js.length) : Part cur (tailOff cap k 10) (encL (js.drop k)) := by
  unfold tailOff
  by_cases e : cap = k
  · have : js.length = k := by have := h.le; omega
    rw [List.drop_of_length_le (by omega)]
    exact ⟨fun j u hu => by simp [encL] at hu⟩
  · rw [if_neg e, ← encL_drop]
    have := h.part.drop (k * 10)
    rw [Nat.zero_add] at this
    exact this
end Go.Proofs.Ytnhlogameldkfaa
