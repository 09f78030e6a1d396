/- Small fixups near to whatever: as the reference has them; fixups in the order of their places. Plain mathematics. No statement of the seat is proved here. -/
import Derived.Test.YtimciiaajlfkoaaFixM
namespace Go.Proofs.Ytimciiaajlfkoaa
open Go.ChangeShapes Go.WideShapes Go.ChangeAt Go.RowKit
set_option linter.unusedVariables false
set_option linter.unusedSimpArgs false

/-- How many there are of a kind. -/
def manyF (m0 m1 m2 : Int) (k : Int) : Int := if k = 0 then m0 else if k = 1 then m1 else m2
structure ManyOk (m0 m1 m2 : Int) : Prop where
  a : 1 ≤ m0 ∧ m0 ≤ 30000
  b : 1 ≤ m1 ∧ m1 ≤ 30000
  c : 1 ≤ m2 ∧ m2 ≤ 30000
theorem manyF_bd {m0 m1 m2 : Int} (h : ManyOk m0 m1 m2) (k : Int) : 1 ≤ manyF m0 m1 m2 k ∧ manyF m0 m1 m2 k ≤ 30000 := by
  unfold manyF
  split
  · exact h.a
  split
  · exact h.b
  · exact h.c
def locN (f : FixZ) : Int := f.loc % 256 % 5
def tgN (f : FixZ) : Int := f.tg % 256 % 3
def frN0 (f : FixZ) : Int := f.fr % 256 % 5
def frN (f : FixZ) : Int := if frN0 f = 3 then 5 else frN0 f
def sfN (f : FixZ) : Bool := f.sf && decide (locN f < 2)
def topN (f : FixZ) (n : Int) : Int := if 1024 < n - sizeF (locN f) + 1 then 1024 else n - sizeF (locN f) + 1
def aN (f : FixZ) (n : Int) : Int := f.a % 65536 % topN f n
def nN (f : FixZ) (m0 m1 m2 : Int) : Int := f.n % 256 % manyF m0 m1 m2 (tgN f) + 1
def fnN (f : FixZ) (m0 m1 m2 : Int) : Int := if frN f < 3 then f.fn % 256 % manyF m0 m1 m2 (frN f) + 1 else 0
def nearF (f : FixZ) (n m0 m1 m2 : Int) : FixZ := ⟨aN f n, locN f, sfN f, frN f, fnN f m0 m1 m2, tgN f, nN f m0 m1 m2, f.d⟩
theorem locN_bd (f : FixZ) : 0 ≤ locN f ∧ locN f ≤ 4 := by unfold locN; omega
theorem tgN_bd (f : FixZ) : 0 ≤ tgN f ∧ tgN f ≤ 2 := by unfold tgN; omega
theorem frN_bd (f : FixZ) : (0 ≤ frN f ∧ frN f ≤ 2) ∨ frN f = 4 ∨ frN f = 5 := by
  unfold frN frN0; split <;> omega
theorem near_mayF (f : FixZ) {n m0 m1 m2 : Int} (hn : 4 ≤ n) (h : ManyOk m0 m1 m2) : MayF (nearF f n m0 m1 m2) n := by
  have h1 := locN_bd f
  have h2 := tgN_bd f
  have h3 := frN_bd f
  have h4 := sizeF_bd (locN f)
  have ht : 1 ≤ topN f n ∧ topN f n ≤ 1024 ∧ topN f n ≤ n - sizeF (locN f) + 1 := by unfold topN; split <;> omega
  have ha1 := Int.emod_nonneg (f.a % 65536) (b := topN f n) (by omega)
  have ha2 := Int.emod_lt_of_pos (f.a % 65536) (b := topN f n) (by omega)
  have hm1 := manyF_bd h (tgN f)
  have hm2 := manyF_bd h (frN f)
  have hn1 := Int.emod_nonneg (f.n % 256) (b := manyF m0 m1 m2 (tgN f)) (by omega)
  have hn2 := Int.emod_lt_of_pos (f.n % 256) (b := manyF m0 m1 m2 (tgN f)) (by omega)
  have hf1 := Int.emod_nonneg (f.fn % 256) (b := manyF m0 m1 m2 (frN f)) (by omega)
  have hf2 := Int.emod_lt_of_pos (f.fn % 256) (b := manyF m0 m1 m2 (frN f)) (by omega)
  refine ⟨h1, ⟨?_, ?_, ?_⟩, fun hs => ?_, h2, ?_, ?_⟩
  · show 0 ≤ aN f n; unfold aN; omega
  · show aN f n ≤ 1023; unfold aN; omega
  · show aN f n ≤ n - sizeF (locN f); unfold aN; omega
  · have hs' : sfN f = true := hs
    unfold sfN at hs'
    simp only [Bool.and_eq_true, decide_eq_true_eq] at hs'
    show locN f ≤ 1
    omega
  · show 1 ≤ nN f m0 m1 m2 ∧ nN f m0 m1 m2 ≤ 32767; unfold nN; omega
  · show (0 ≤ frN f ∧ frN f ≤ 2 ∧ 1 ≤ fnN f m0 m1 m2 ∧ fnN f m0 m1 m2 ≤ 32767) ∨ ((frN f = 4 ∨ frN f = 5) ∧ fnN f m0 m1 m2 = 0)
    unfold fnN
    rcases h3 with h3 | h3
    · left; rw [if_pos (by omega)]; omega
    · right; rw [if_neg (by omega)]; exact ⟨h3, rfl⟩
end Go.Proofs.Ytimciiaajlfkoaa
