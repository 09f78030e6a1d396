/- What the row's one listed table (addr.counts) gives a walk: its block's cells ('Tabs'); and that the door's own run meets the condition. No statement of the seat is proved here. -/
import Derived.Test.YtenhcbaljjhhbaaDoorRows
import Derived.Test.YtenhcbaljjhhbaaDoorHand
import Derived.ProofKit
import Derived.LaidMore
import Derived.OpenShut
import Derived.Stop.Joined
namespace Go.Proofs.YtenhcbaljjhhbaaDoor
open Go.ChangeShapes Go.WideShapes Go.ChangeAt Go.WideMaps Go.WideElems Go.RowKit
set_option linter.unusedVariables false
set_option linter.unusedSimpArgs false

theorem var_heap {P : Program} {w : World} {n : String} {g : Nat} {cs : Array Value} (hg : P.globalNamed n = some g) (hv : w.var? P n = some cs) : ∃ t fr, w.heap[g]? = some (.cells cs t fr) := by
  unfold World.var? at hv
  rw [hg, Option.bind_some] at hv
  split at hv
  · rename_i cs' t fr he
    obtain rfl := Option.some.inj hv
    exact ⟨t, fr, he⟩
  · exact nomatch hv
/-- An array of numbers of one cell each reads as its numbers. -/
theorem tab_open {H : Type} {enc : TypeId × Value → H} {P : Program} {w : World} {base : Nat} {spare : Nat → Bool} {held : Bool} {fuel : Nat} {t e : TypeId} {n : Nat} {k : IntKind} {cs : List Value} {ns : List Int} {p : List MemPlace}
    (ht : P.underlying t = some (.array n e)) (he : P.underlying e = some (.int k)) (h1 : P.cellsOf e = 1) (h2 : P.cellsOf t = n) (h : DataW.trod enc P w base spare held fuel t cs = some (.agg (ns.map fun a => .lit (.int k a)), p)) : cs = ns.map (.int k) := by
  obtain ⟨xs, m, rfl, hx, hl, hn, hel⟩ := DataW.trod_array ht h
  simp only [Prod.mk.injEq, DataW.agg.injEq] at hx
  have hln : ns.length = n := by have := congrArg List.length hx.1; simp at this; omega
  rw [h2] at hl
  apply List.ext_getElem?
  intro j
  by_cases hj : j < n
  · have h3 := hel j hj
    have hjx : j < xs.length := by omega
    rw [List.getElem?_eq_getElem hjx] at h3
    obtain ⟨a, e1, e2, _⟩ := DataW.trod_int he h3
    have e3 := congrArg (fun l => l[j]?) hx.1
    simp only [List.getElem?_map, List.getElem?_eq_getElem hjx, Option.map_some, e2] at e3
    rw [h1, Nat.mul_one] at e1
    have hjc : j < cs.length := by omega
    have e4 : cs[j]? = some (.int k a) := by
      have := congrArg (fun l => l[0]?) e1
      simpa [List.getElem?_take, List.getElem?_drop] using this
    rw [e4, List.getElem?_map]
    have hjn : j < ns.length := by omega
    rw [List.getElem?_eq_getElem hjn] at e3 ⊢
    simp at e3 ⊢
    exact e3.symm
  · rw [List.getElem?_eq_none (by omega), List.getElem?_eq_none (by simp; omega)]
/-- .. one of an array of such arrays. -/
theorem tab_part {H : Type} {enc : TypeId × Value → H} {P : Program} {w : World} {base : Nat} {spare : Nat → Bool} {held : Bool} {fuel : Nat} {t e e' : TypeId} {n m : Nat} {k : IntKind} {cs : List Value} {nss : List (List Int)} {p : List MemPlace}
    (ht : P.underlying t = some (.array n e)) (he : P.underlying e = some (.array m e')) (he' : P.underlying e' = some (.int k)) (h1 : P.cellsOf e' = 1) (h2 : P.cellsOf e = m)
    (h : DataW.trod enc P w base spare held fuel t cs = some (.agg (nss.map fun ns => .agg (ns.map fun a => .lit (.int k a))), p)) (j : Nat) (ns : List Int) (hj : nss[j]? = some ns) : (cs.drop (j * m)).take m = ns.map (.int k) := by
  obtain ⟨xs, f, rfl, hx, hl, hn, hel⟩ := DataW.trod_array ht h
  simp only [Prod.mk.injEq, DataW.agg.injEq] at hx
  have hln : nss.length = n := by have := congrArg List.length hx.1; simp at this; omega
  have hjn : j < nss.length := (List.getElem?_eq_some_iff.1 hj).1
  have h3 := hel j (by omega)
  have hjx : j < xs.length := by omega
  rw [List.getElem?_eq_getElem hjx, h2] at h3
  have e3 := congrArg (fun l => l[j]?) hx.1
  simp only [List.getElem?_map, List.getElem?_eq_getElem hjx, Option.map_some, hj] at e3
  have e4 : xs[j] = (.agg (ns.map fun a => .lit (.int k a)), xs[j].2) := Prod.ext (Option.some.inj e3).symm rfl
  rw [e4] at h3
  exact tab_open he he' h1 h2 h3

/-- The table holds what it is laid with. -/
def cntC : Array Value := #[.int .i64 3, .int .i64 6, .int .i64 3, .int .i64 7, .int .i64 5, .int .i64 6, .int .i64 5, .int .i64 7, .int .i64 6, .int .i64 (-1), .int .i64 7, .int .i64 (-1), .int .i64 5, .int .i64 (-1), .int .i64 3, .int .i64 (-1)]
structure Tabs (w : World) : Prop where
  cnt : ∃ t fr, w.heap[0]? = some (.cells cntC t fr)
theorem Tabs.keep {w w' : World} (h : Tabs w) (hb : Below w.heap.size w w') : Tabs w' := by
  obtain ⟨t, f, h1⟩ := h.cnt
  exact ⟨t, f, by rw [hb.block _ (Array.getElem?_eq_some_iff.1 h1).1]; exact h1⟩
theorem Tabs.own {w w' : World} {l : List RowT} (h : Tabs w) (hR : Own w w' l) : Tabs w' := h.keep hR.below

def laid2 : List (String × DataW Unit) := [("hansom/addr.counts", Rows.laid_hansom_addr_counts)]
theorem gCnt : Tryd.prog.globalNamed "hansom/addr.counts" = some 0 := by kernel_rfl
theorem tCnt : (Tryd.prog.globals[0]?).map (·.type) = some 62 := by kernel_rfl
theorem door_met (os : Os) (args : Array Value) : laidMetH Tryd.prog laid2 ((World.doorLaid Tryd.prog 400 os).forCall (fun _ _ => 0) ⟨#[], args, []⟩).memory :=
  laidMetH_of_parts3 (fuel := 8) (laidMet_of_run' 8 (by kernel_rfl) (by kernel_rfl)) (by kernel_rfl) (by kernel_rfl)
theorem of_laid {W : World} (h : laidMetH Tryd.prog laid2 W) : Tabs W := by
  rw [MakeChecks.laidMetH_plain _ _ _ (by kernel_rfl)] at h
  obtain ⟨ps, ⟨g0, t0, cs0, f0, p0, q0, hg0, ht0, hv0, hd0, _, _⟩, _, _⟩ := h
  obtain rfl := Option.some.inj (gCnt.symm.trans hg0)
  obtain rfl := Option.some.inj (tCnt.symm.trans ht0)
  have hl : cs0.toList.length = 16 := by
    obtain ⟨xs, f, rfl, hx, hl, hn, hel⟩ := DataW.trod_array Tryd.underlying62 hd0
    rw [hl]
    kernel_rfl
  have e := tab_part (nss := [[3, 6], [3, 7], [5, 6], [5, 7], [6, -1], [7, -1], [5, -1], [3, -1]]) Tryd.underlying62 Tryd.underlying51 Tryd.underlying3 (by kernel_rfl) (by kernel_rfl) hd0
  obtain ⟨u0, r0, h0⟩ := var_heap gCnt hv0
  have a0 : cs0 = cntC := by
    apply Array.toList_inj.1
    generalize cs0.toList = cs at hl e
    match cs, hl with
    | [c0, c1, c2, c3, c4, c5, c6, c7, c8, c9, c10, c11, c12, c13, c14, c15], _ =>
      have e0 := e 0 _ rfl
      have e1 := e 1 _ rfl
      have e2 := e 2 _ rfl
      have e3 := e 3 _ rfl
      have e4 := e 4 _ rfl
      have e5 := e 5 _ rfl
      have e6 := e 6 _ rfl
      have e7 := e 7 _ rfl
      simp at e0 e1 e2 e3 e4 e5 e6 e7
      simp [cntC, e0, e1, e2, e3, e4, e5, e6, e7]
  subst a0
  exact ⟨u0, r0, h0⟩
end Go.Proofs.YtenhcbaljjhhbaaDoor
