/- Numbers of 64 bits as a law's argument. No statement of the seat is proved here. -/
import Derived.Test.YtjgkhhbjmheihaaDoorCell
import Derived.Test.YtjgkhhbjmheihaaDoorFlat
import Derived.Test.YtjgkhhbjmheihaaDoorChecked
import Derived.OpenShut
namespace Go.Proofs.YtjgkhhbjmheihaaDoor
open Go.ChangeShapes Go.WideShapes Go.ChangeAt Go.RowKit
set_option linter.unusedVariables false
set_option linter.unusedSimpArgs false

def cellV (n : Nat) : List Value := [.int .u64 n]
theorem cellV_len (n : Nat) : (cellV n).length = 1 := rfl
theorem cellV_one (n : Nat) : (cellV n).all (·.oneCell') = true := by simp [cellV, Value.oneCell']
def U64sIn (w : World) (v : Value) : Prop := ∃ l : List Nat, (∀ n ∈ l, n ≤ 18446744073709551615) ∧ Rd w 1 v l.length (l.flatMap cellV)
section
variable {H : Type} {enc : TypeId × Value → H} {w : World} {base : Nat} {spare : Nat → Bool} {held : Bool}
theorem open_u64s {W : World} {b : Nat} {v : Value} {d : DataW H} {p : List MemPlace} (hk : Value.okWide Tryd.prog W .any b 24 v) (h : DataW.Trod enc Tryd.prog w base spare held 24 v d p) : U64sIn w v := by
  obtain ⟨a0, len, cap, rfl⟩ := okWide_slice Tryd.underlying24 hk
  obtain ⟨fuel, hf⟩ := h
  have hC : Tryd.prog.cellsOf 26 = 1 := by kernel_rfl
  rcases Deep.open_slice1 Tryd.underlying24 hC hf with ⟨h0, _⟩ | ⟨a, len', cap', m, n, V, D, Pl, h0, _, hlc, hcm, hm, hd, hx⟩
  · have e : Value.slice a0 len cap = .slice none 0 0 := (List.cons.inj h0).1
    rw [e]
    exact ⟨[], (fun _ h => nomatch h), ⟨rfl, rfl, .inl ⟨rfl, rfl, rfl⟩⟩⟩
  · have e : Value.slice a0 len cap = .slice (some a) len' cap' := (List.cons.inj h0).1
    rw [e]
    have hle : len' ≤ m := by rw [hm]; split <;> omega
    have hE : ∀ i, ∃ z : Nat, i < len' → z ≤ 18446744073709551615 ∧ w.cell? (a.add i) = some (.int .u64 z) := by
      intro i
      by_cases hi : i < len'
      · obtain ⟨h1, h2⟩ := hx i (by omega)
        obtain ⟨z, hz, wf⟩ := cell1 Tryd.underlying26 h2 rfl (x := V i) rfl
        obtain ⟨z0, z1⟩ := bounds_u64 wf
        obtain ⟨y, rfl⟩ := Int.eq_ofNat_of_zero_le z0
        exact ⟨y, fun _ => ⟨by omega, by rw [h1, hz]⟩⟩
      · exact ⟨0, fun h => absurd h hi⟩
    obtain ⟨E, hE⟩ := Classical.axiomOfChoice hE
    refine ⟨(List.range len').map E, fun x hx => ?_, ?_⟩
    · obtain ⟨i, hi, rfl⟩ := List.mem_map.1 hx
      exact (hE i (by simpa using hi)).1
    · have hr := rd_flat (w := w) (a := a) (cap := cap') (E := E) cellV_len (by decide) cellV_one hlc (fun i hi j u hu => by
        have hj : j = 0 := by have := (List.getElem?_eq_some_iff.1 hu).1; simp [cellV] at this; exact this
        subst hj
        obtain rfl := Option.some.inj hu
        rw [Nat.mul_one, show (a.add i).add 0 = a.add i by simp [Addr.add]]
        exact (hE i hi).2)
      rw [List.length_map, List.length_range]
      exact hr
end
end Go.Proofs.YtjgkhhbjmheihaaDoor
