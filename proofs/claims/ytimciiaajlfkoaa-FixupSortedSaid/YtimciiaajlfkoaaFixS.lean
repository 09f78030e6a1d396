/- Fixups in the order of their places, those of one place as they were. Plain mathematics. No statement of the seat is proved here. -/
import Derived.Test.YtimciiaajlfkoaaFixN
namespace Go.Proofs.Ytimciiaajlfkoaa
open Go.ChangeShapes Go.WideShapes Go.ChangeAt Go.RowKit
set_option linter.unusedVariables false
set_option linter.unusedSimpArgs false

structure StableF (X Y : List FixZ) : Prop where
  perm : Y.Perm X
  up : Y.Pairwise fun a b => a.a ≤ b.a
  same : ∀ v : Int, Y.filter (fun f => f.a == v) = X.filter (fun f => f.a == v)
/-- The i-th tells that it is the i-th. -/
def Numbered (X : List FixZ) : Prop := ∀ (i : Nat) (f : FixZ), X[i]? = some f → f.n = i
theorem Numbered.pair {X : List FixZ} (h : Numbered X) : X.Pairwise fun a b => a.n < b.n := by
  rw [List.pairwise_iff_getElem]
  intro i j hi hj hij
  rw [h i _ (List.getElem?_eq_getElem hi), h j _ (List.getElem?_eq_getElem hj)]
  omega
theorem stable_at {X Y : List FixZ} (h : StableF X Y) (hX : Numbered X) {i : Nat} {f : FixZ} (hi : Y[i]? = some f) : ∃ j : Nat, f.n = j ∧ j < X.length ∧ X[j]? = some f := by
  have hm : f ∈ X := h.perm.subset (List.mem_of_getElem? hi)
  obtain ⟨j, hj⟩ := List.getElem?_of_mem hm
  exact ⟨j, hX j f hj, (List.getElem?_eq_some_iff.1 hj).1, hj⟩
theorem two_sub {Y : List FixZ} {i : Nat} {f g : FixZ} (hf : Y[i]? = some f) (hg : Y[i + 1]? = some g) : [f, g].Sublist Y := by
  have h1 : Y.drop i = f :: g :: Y.drop (i + 2) := by
    obtain ⟨h2, h3⟩ := List.getElem?_eq_some_iff.1 hf
    obtain ⟨h4, h5⟩ := List.getElem?_eq_some_iff.1 hg
    rw [List.drop_eq_getElem_cons h2, h3, List.drop_eq_getElem_cons h4, h5]
  have h2 : [f, g].Sublist (Y.drop i) := by rw [h1]; exact .cons_cons _ (.cons_cons _ (List.nil_sublist _))
  exact h2.trans (List.drop_sublist _ _)
theorem stable_next {X Y : List FixZ} (h : StableF X Y) (hX : Numbered X) {i : Nat} {f g : FixZ} (hf : Y[i]? = some f) (hg : Y[i + 1]? = some g) : f.a < g.a ∨ (f.a = g.a ∧ f.n < g.n) := by
  have hs := two_sub hf hg
  have h1 := h.up.sublist hs
  have h2 : f.a ≤ g.a := by simpa using h1
  by_cases he : f.a = g.a
  · right
    refine ⟨he, ?_⟩
    have h3 := hs.filter (fun x => x.a == g.a)
    have h4 : [f, g].filter (fun x => x.a == g.a) = [f, g] := by simp [he]
    rw [h4, h.same] at h3
    have h5 := (hX.pair.filter (fun x => x.a == g.a)).sublist h3
    simpa using h5
  · left; omega
end Go.Proofs.Ytimciiaajlfkoaa
