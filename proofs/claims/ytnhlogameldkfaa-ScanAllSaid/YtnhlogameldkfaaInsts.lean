



/- Some instructions as a law's argument. No statement of the seat is proved here. -/
import Derived.Test.YtnhlogameldkfaaEncL
import Derived.ChangeArms
import Derived.WalkArith
import Derived.ProofKit
import Derived.WideShapes
namespace Go.Proofs.Ytnhlogameldkfaa
open Go.ChangeShapes Go.WideShapes Go.ChangeAt Go.RowKit
set_option linter.unusedVariables false
set_option linter.unusedSimpArgs false

section
variable {H : Type} {enc : TypeId × Value → H} {w : World} {base : Nat} {spare : Nat → Bool} {held : Bool}
theorem cell1 {P : Program} {m : Nat} {t : TypeId} {k : IntKind} {cs : List Value} {y : Option (DataW H × List MemPlace)} {x : Value} (hu : P.underlying t = some (.int k)) (h : DataW.trod enc P w base spare held m t cs = y) (hy : y.isSome = true) (hc : cs = [x]) : ∃ n, x = .int k n ∧ (Lit.int k n).wf = true := by
  obtain ⟨y, rfl⟩ := Option.isSome_iff_exists.1 hy
  obtain ⟨n, h1, _, h3⟩ := DataW.trod_int hu h
  rw [hc] at h1
  exact ⟨n, (List.cons.inj h1).1, h3⟩
theorem cell1b {P : Program} {m : Nat} {t : TypeId} {cs : List Value} {y : Option (DataW H × List MemPlace)} {x : Value} (hu : P.underlying t = some .bool) (h : DataW.trod enc P w base spare held m t cs = y) (hy : y.isSome = true) (hc : cs = [x]) : ∃ b, x = .bool b := by
  obtain ⟨y, rfl⟩ := Option.isSome_iff_exists.1 hy
  obtain ⟨n, h1, _⟩ := DataW.trod_bool hu h
  rw [hc] at h1
  exact ⟨n, (List.cons.inj h1).1⟩
theorem some_at {α : Type} {l : List α} {n j : Nat} (hl : l.length = n) (hj : j < n) : (l[j]?).isSome = true := by rw [List.getElem?_eq_getElem (by omega)]; rfl
theorem open_el {m : Nat} {cs : List Value} {x : DataW H × List MemPlace} (h : DataW.trod enc Try.prog w base spare held m 24 cs = some x) (hl : cs.length = 10) : ∃ i : InstZ, i.ok ∧ cs = (encI i).toList := by
  obtain ⟨ys, n, rfl, _, _, hy, hf⟩ := DataW.trod_struct Try.underlying24 h
  have c1 : Try.prog.cellsOf 4 = 1 := by kernel_rfl
  have c2 : Try.prog.cellsOf 3 = 1 := by kernel_rfl
  have c3 : Try.prog.cellsOf 5 = 1 := by kernel_rfl
  have c4 : Try.prog.cellsOf 22 = 1 := by kernel_rfl
  match cs, hl with
  | [x0, x1, x2, x3, x4, x5, x6, x7, x8, x9], _ =>
    have hy' : ys.length = 10 := hy
    have h0 : DataW.trod enc Try.prog w base spare held n 4 (([x0, x1, x2, x3, x4, x5, x6, x7, x8, x9].drop 0).take (Try.prog.cellsOf 4)) = ys[0]? := hf 0 _ rfl
    rw [c1] at h0
    have h1 : DataW.trod enc Try.prog w base spare held n 3 (([x0, x1, x2, x3, x4, x5, x6, x7, x8, x9].drop 1).take (Try.prog.cellsOf 3)) = ys[1]? := hf 1 _ rfl
    rw [c2] at h1
    have h2 : DataW.trod enc Try.prog w base spare held n 3 (([x0, x1, x2, x3, x4, x5, x6, x7, x8, x9].drop 2).take (Try.prog.cellsOf 3)) = ys[2]? := hf 2 _ rfl
    rw [c2] at h2
    have h3 : DataW.trod enc Try.prog w base spare held n 5 (([x0, x1, x2, x3, x4, x5, x6, x7, x8, x9].drop 3).take (Try.prog.cellsOf 5)) = ys[3]? := hf 3 _ rfl
    rw [c3] at h3
    have h4 : DataW.trod enc Try.prog w base spare held n 3 (([x0, x1, x2, x3, x4, x5, x6, x7, x8, x9].drop 4).take (Try.prog.cellsOf 3)) = ys[4]? := hf 4 _ rfl
    rw [c2] at h4
    have h5 : DataW.trod enc Try.prog w base spare held n 3 (([x0, x1, x2, x3, x4, x5, x6, x7, x8, x9].drop 5).take (Try.prog.cellsOf 3)) = ys[5]? := hf 5 _ rfl
    rw [c2] at h5
    have h6 : DataW.trod enc Try.prog w base spare held n 3 (([x0, x1, x2, x3, x4, x5, x6, x7, x8, x9].drop 6).take (Try.prog.cellsOf 3)) = ys[6]? := hf 6 _ rfl
    rw [c2] at h6
    have h7 : DataW.trod enc Try.prog w base spare held n 22 (([x0, x1, x2, x3, x4, x5, x6, x7, x8, x9].drop 7).take (Try.prog.cellsOf 22)) = ys[7]? := hf 7 _ rfl
    rw [c4] at h7
    have h8 : DataW.trod enc Try.prog w base spare held n 22 (([x0, x1, x2, x3, x4, x5, x6, x7, x8, x9].drop 8).take (Try.prog.cellsOf 22)) = ys[8]? := hf 8 _ rfl
    rw [c4] at h8
    have h9 : DataW.trod enc Try.prog w base spare held n 22 (([x0, x1, x2, x3, x4, x5, x6, x7, x8, x9].drop 9).take (Try.prog.cellsOf 22)) = ys[9]? := hf 9 _ rfl
    rw [c4] at h9
    obtain ⟨b0, rfl⟩ := cell1b Try.underlying4 h0 (some_at hy' (by decide)) (x := x0) rfl
    obtain ⟨n1, rfl, w1⟩ := cell1 Try.underlying3 h1 (some_at hy' (by decide)) (x := x1) rfl
    obtain ⟨n2, rfl, w2⟩ := cell1 Try.underlying3 h2 (some_at hy' (by decide)) (x := x2) rfl
    obtain ⟨n3, rfl, w3⟩ := cell1 Try.underlying5 h3 (some_at hy' (by decide)) (x := x3) rfl
    obtain ⟨n4, rfl, w4⟩ := cell1 Try.underlying3 h4 (some_at hy' (by decide)) (x := x4) rfl
    obtain ⟨n5, rfl, w5⟩ := cell1 Try.underlying3 h5 (some_at hy' (by decide)) (x := x5) rfl
    obtain ⟨n6, rfl, w6⟩ := cell1 Try.underlying3 h6 (some_at hy' (by decide)) (x := x6) rfl
    obtain ⟨n7, rfl, w7⟩ := cell1 Try.underlying22 h7 (some_at hy' (by decide)) (x := x7) rfl
    obtain ⟨n8, rfl, w8⟩ := cell1 Try.underlying22 h8 (some_at hy' (by decide)) (x := x8) rfl
    obtain ⟨n9, rfl, w9⟩ := cell1 Try.underlying22 h9 (some_at hy' (by decide)) (x := x9) rfl
    exact ⟨⟨b0, n1, n2, n3, n4, n5, n6, n7, n8, n9⟩, ⟨bounds_i64 w1, bounds_i64 w2, bounds_u8 w3, bounds_i64 w4, bounds_i64 w5, bounds_i64 w6, bounds_u16 w7, bounds_u16 w8, bounds_u16 w9⟩, rfl⟩
/-- A slice of instructions that came in. -/
def InstsAt (w : World) (v : Value) : Prop := ∃ (n : Nat) (E : Nat → InstZ), (∀ i, i < n → (E i).ok) ∧ ArgIs w 10 v n fun i => encI (E i)
theorem open_insts {W : World} {b : Nat} {v : Value} {d : DataW H} {p : List MemPlace} (hk : Value.okWide Try.prog W .any b 36 v) (h : DataW.Trod enc Try.prog w base spare held 36 v d p) : InstsAt w v := by
  obtain ⟨a0, len, cap, rfl⟩ := okWide_slice Try.underlying36 hk
  obtain ⟨fuel, hf⟩ := h
  have hC : Try.prog.cellsOf 24 = 10 := by kernel_rfl
  rcases Deep.open_slice Try.underlying36 hf with ⟨h0, _⟩ | ⟨a, len', cap', m, n, D, Pl, h0, _, hlc, _, hm, _, hx⟩
  · have e : Value.slice a0 len cap = .slice none 0 0 := (List.cons.inj h0).1
    rw [e]
    exact ⟨0, fun _ => zeroI, fun i hi => absurd hi (by omega), ⟨.inl ⟨rfl, rfl⟩⟩⟩
  · have e : Value.slice a0 len cap = .slice (some a) len' cap' := (List.cons.inj h0).1
    rw [e]
    have hle : len' ≤ m := by rw [hm]; split <;> omega
    have hE : ∀ i, ∃ z : InstZ, i < len' → z.ok ∧ ∀ j u, (encI z).toList[j]? = some u → w.cell? ((a.add (i * 10)).add j) = some u := by
      intro i
      by_cases hi : i < len'
      · obtain ⟨cs', h1, h2⟩ := hx i (by omega)
        rw [hC] at h1
        obtain ⟨_, hl, hat⟩ := World.cells?_some h1
        obtain ⟨z, hz, rfl⟩ := open_el h2 hl
        refine ⟨z, fun _ => ⟨hz, fun j u hu => ?_⟩⟩
        have hj : j < 10 := (List.getElem?_eq_some_iff.1 hu).1
        rw [hat j hj]; exact hu
      · exact ⟨zeroI, fun h => absurd h hi⟩
    obtain ⟨E, hE⟩ := Classical.axiomOfChoice hE
    exact ⟨len', E, fun i hi => (hE i hi).1, ⟨.inr ⟨a, cap', rfl, fun i hi => ⟨rfl, (hE i hi).2⟩⟩⟩⟩
end
end Go.Proofs.Ytnhlogameldkfaa
