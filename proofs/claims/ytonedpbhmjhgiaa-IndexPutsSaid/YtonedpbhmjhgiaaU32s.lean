/- Numbers of 32 bits as a law's argument. No statement of the seat is proved here. -/
import Derived.Test.YtonedpbhmjhgiaaCell
import Derived.Test.YtonedpbhmjhgiaaFlat
import Derived.Test.YtonedpbhmjhgiaaChecked
import Derived.OpenShut
namespace Go.Proofs.Ytonedpbhmjhgiaa
open Go.ChangeShapes Go.WideShapes Go.ChangeAt Go.RowKit
set_option linter.unusedVariables false
set_option linter.unusedSimpArgs false

def cellU (n : Nat) : List Value := [.int .u32 n]
theorem cellU_len (n : Nat) : (cellU n).length = 1 := rfl
theorem cellU_one (n : Nat) : (cellU n).all (·.oneCell') = true := by simp [cellU, Value.oneCell']
def U32sIn (w : World) (v : Value) : Prop := ∃ l : List Nat, (∀ n ∈ l, n ≤ 4294967295) ∧ Rd w 1 v l.length (l.flatMap cellU)
section
variable {H : Type} {enc : TypeId × Value → H} {w : World} {base : Nat} {spare : Nat → Bool} {held : Bool}
theorem open_u32s {W : World} {b : Nat} {v : Value} {d : DataW H} {p : List MemPlace} (hk : Value.okWide Try.prog W .any b 36 v) (h : DataW.Trod enc Try.prog w base spare held 36 v d p) : U32sIn w v := by
  obtain ⟨a0, len, cap, rfl⟩ := okWide_slice Try.underlying36 hk
  obtain ⟨fuel, hf⟩ := h
  have hC : Try.prog.cellsOf 22 = 1 := by kernel_rfl
  rcases Deep.open_slice1 Try.underlying36 hC hf with ⟨h0, _⟩ | ⟨a, len', cap', m, n, V, D, Pl, h0, _, hlc, hcm, hm, hd, hx⟩
  · have e : Value.slice a0 len cap = .slice none 0 0 := (List.cons.inj h0).1
    rw [e]
    exact ⟨[], (fun _ h => nomatch h), ⟨rfl, rfl, .inl ⟨rfl, rfl, rfl⟩⟩⟩
  · have e : Value.slice a0 len cap = .slice (some a) len' cap' := (List.cons.inj h0).1
    rw [e]
    have hle : len' ≤ m := by rw [hm]; split <;> omega
    have hE : ∀ i, ∃ z : Nat, i < len' → z ≤ 4294967295 ∧ w.cell? (a.add i) = some (.int .u32 z) := by
      intro i
      by_cases hi : i < len'
      · obtain ⟨h1, h2⟩ := hx i (by omega)
        obtain ⟨z, hz, wf⟩ := cell1 Try.underlying22 h2 rfl (x := V i) rfl
        obtain ⟨z0, z1⟩ := bounds_u32 wf
        obtain ⟨y, rfl⟩ := Int.eq_ofNat_of_zero_le z0
        exact ⟨y, fun _ => ⟨by omega, by rw [h1, hz]⟩⟩
      · exact ⟨0, fun h => absurd h hi⟩
    obtain ⟨E, hE⟩ := Classical.axiomOfChoice hE
    refine ⟨(List.range len').map E, fun x hx => ?_, ?_⟩
    · obtain ⟨i, hi, rfl⟩ := List.mem_map.1 hx
      exact (hE i (by simpa using hi)).1
    · have hr := rd_flat (w := w) (a := a) (cap := cap') (E := E) cellU_len (by decide) cellU_one hlc (fun i hi j u hu => by
        have hj : j = 0 := by have := (List.getElem?_eq_some_iff.1 hu).1; simp [cellU] at this; exact this
        subst hj
        obtain rfl := Option.some.inj hu
        rw [Nat.mul_one, show (a.add i).add 0 = a.add i by simp [Addr.add]]
        exact (hE i hi).2)
      rw [List.length_map, List.length_range]
      exact hr
end
end Go.Proofs.Ytonedpbhmjhgiaa
