/- What an iterator wants kept while a loop's body within a range over a function turns its own rows ('Apart': the text Keep). No statement of the seat is proved here. -/
import Derived.Test.YtimciiaajlfkoaaRnd
import Derived.Test.YtimciiaajlfkoaaKeep
import Derived.Test.YtimciiaajlfkoaaFnV
namespace Go.Proofs.Ytimciiaajlfkoaa
open Go.ChangeShapes Go.WideShapes Go.ChangeAt Go.RowKit
set_option linter.unusedVariables false
set_option linter.unusedSimpArgs false

/-- A block that holds cells. -/
theorem Own.isCells {w0 w : World} {l : List RowT} (h : Own w0 w l) {k : Nat} (hk : k ∈ l.map (·.1)) {o : Obj} (ho : w.heap[k]? = some o) : o.isCells = true := by
  obtain ⟨x, hx, rfl⟩ := List.mem_map.1 hk
  rw [(h.here x hx).2] at ho
  cases ho
  rfl
theorem Apart.from {W W' : World} {ks : List Nat} (B : Nat) (h : Apart W W' ks) (hc : ∀ k ∈ ks, ∀ o, W.heap[k]? = some o → o.isCells = true) : KeepsFrom B W W' :=
  ⟨h.size, fun k o _ hk ho => by
    rw [h.same k (Array.getElem?_eq_some_iff.1 hk).1 (fun hm => by rw [hc k hm o hk] at ho; exact nomatch ho)]
    exact hk⟩
theorem Own.grownNC {w0 w w' : World} {l : List RowT} {B : Nat} {row : Option Nat} (h : Own w0 w l) (hg : w.grownBy w' row) (hB : w0.heap.size ≤ B) (hr : ∀ r, row = some r → B ≤ r ∧ ∃ o : Obj, w.heap[r]? = some o ∧ o.isCells = false) : Own w0 w' l :=
  h.grown hg fun k e => by
    obtain ⟨h1, o, ho, hc⟩ := hr k e
    refine ⟨by omega, fun y hy he => ?_⟩
    have := h.isCells (k := k) (List.mem_map.2 ⟨y, hy, he⟩) ho
    rw [hc] at this
    exact nomatch this
/-- What an iterator over bytes and two variables of its own wants kept. -/
def KpR (n0 : Nat) (G : List Nat) (A B : World) : Prop := Below n0 A B ∧ ∀ g ∈ G, g < A.heap.size → B.heap[g]? = A.heap[g]?
theorem kpR_t {n0 : Nat} {G : List Nat} {A B C : World} (h : KpR n0 G A B) (k : KpR n0 G B C) : KpR n0 G A C :=
  ⟨h.1.trans k.1, fun g hg hA => (k.2 g hg (Nat.lt_of_lt_of_le hA h.1.size)).trans (h.2 g hg hA)⟩
theorem kpR_b {n0 : Nat} {G : List Nat} {w : World} (hn : n0 ≤ w.heap.size) (hG : ∀ g ∈ G, g < w.heap.size) (W : World) (l : Nat) (o o' : Obj) (hl : w.heap.size ≤ l) (h : W.heap[l]? = some o) (_ : o.isCells = false) (_ : o.isWalk = false) : KpR n0 G W (W.putObj l o') :=
  ⟨(Below.refl n0 W).grown (grownBy_putObj' W l o') (by have := (Array.getElem?_eq_some_iff.1 h).1; omega) (fun k e => by cases e; omega),
   fun g hg _ => World.putObj_heap_other (by have := hG g hg; omega)⟩
theorem Apart.kpR {W W' : World} {ks G : List Nat} {n0 : Nat} (h : Apart W W' ks) (hn : n0 ≤ W.heap.size) (hk : ∀ k ∈ ks, n0 ≤ k) (hG : ∀ g ∈ G, g ∉ ks) : KpR n0 G W W' :=
  ⟨⟨h.os, h.tape, h.output, h.size, fun k hk' => h.same k (by omega) (fun hm => by have := hk k hm; omega)⟩, fun g hg hlt => h.same g hlt (hG g hg)⟩
end Go.Proofs.Ytimciiaajlfkoaa
