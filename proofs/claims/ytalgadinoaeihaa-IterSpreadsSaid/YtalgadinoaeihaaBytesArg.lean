



/- A slice of bytes as a law's argument. No statement of the seat is proved here. -/
import Derived.Test.YtalgadinoaeihaaSrc
import Derived.Test.YtalgadinoaeihaaCell
import Derived.Test.YtalgadinoaeihaaChecked
import Derived.OpenShut
namespace Go.Proofs.Ytalgadinoaeihaa
open Go.ChangeShapes Go.WideShapes Go.ChangeAt Go.RowKit
set_option linter.unusedVariables false
set_option linter.unusedSimpArgs false

/-- Bytes that came in. -/
def BytesAt (w : World) (v : Value) : Prop := ∃ bs : List Int, SrcW w v bs ∧ bs.length ≤ maxLen
section
variable {H : Type} {enc : TypeId × Value → H} {w : World} {base : Nat} {spare : Nat → Bool} {held : Bool}
theorem open_bytes {W : World} {b : Nat} {v : Value} {d : DataW H} {p : List MemPlace} (hk : Value.okWide Try.prog W .any b 22 v) (h : DataW.Trod enc Try.prog w base spare held 22 v d p) : BytesAt w v := by
  obtain ⟨a0, len, cap, rfl⟩ := okWide_slice Try.underlying22 hk
  obtain ⟨fuel, hf⟩ := h
  have hC : Try.prog.cellsOf 5 = 1 := by kernel_rfl
  rcases Deep.open_slice1 Try.underlying22 hC hf with ⟨h0, _⟩ | ⟨a, len', cap', m, n, V, D, Pl, h0, _, hlc, hcm, hm, _, hx⟩
  · have e : Value.slice a0 len cap = .slice none 0 0 := (List.cons.inj h0).1
    rw [e]
    exact ⟨[], ⟨(fun _ h => nomatch h), .inl ⟨rfl, rfl⟩⟩, by simp⟩
  · have e : Value.slice a0 len cap = .slice (some a) len' cap' := (List.cons.inj h0).1
    rw [e]
    have hle : len' ≤ m := by rw [hm]; split <;> omega
    have hE : ∀ i, ∃ z : Int, i < len' → (0 ≤ z ∧ z ≤ 255) ∧ w.cell? (a.add i) = some (.int .u8 z) := by
      intro i
      by_cases hi : i < len'
      · obtain ⟨h1, h2⟩ := hx i (by omega)
        obtain ⟨z, hz, wf⟩ := cell1 Try.underlying5 h2 rfl (x := V i) rfl
        exact ⟨z, fun _ => ⟨bounds_u8 wf, by rw [h1, hz]⟩⟩
      · exact ⟨0, fun h => absurd h hi⟩
    obtain ⟨E, hE⟩ := Classical.axiomOfChoice hE
    have hl : ((List.range len').map E).length = len' := by simp
    refine ⟨(List.range len').map E, ⟨fun n hn => ?_, .inr ⟨a, cap', by rw [hl], by rw [hl]; exact hlc, fun j u hu => ?_⟩⟩, by rw [hl]; omega⟩
    · obtain ⟨i, hi, rfl⟩ := List.mem_map.1 hn
      exact (hE i (by simpa using hi)).1
    · rw [List.getElem?_map] at hu
      have hj : j < len' := by
        rcases Nat.lt_or_ge j len' with h | h
        · exact h
        · rw [List.getElem?_eq_none (by simpa using h)] at hu; exact nomatch hu
      rw [List.getElem?_range hj] at hu
      obtain rfl := Option.some.inj hu
      exact (hE j hj).2
end
end Go.Proofs.Ytalgadinoaeihaa
