/- What a row's listed tables give a walk: their blocks' cells ('Tabs'); and that the door's own run meets the condition. No statement of the seat is proved here. -/
import Derived.Test.YtlklfnmhnffmoaaDoorRows
import Derived.Test.YtlklfnmhnffmoaaDoorCode
import Derived.ProofKit
import Derived.LaidMore
import Derived.OpenShut
import Derived.Stop.Joined
namespace Go.Proofs.YtlklfnmhnffmoaaDoor
open Go.ChangeShapes Go.WideShapes Go.ChangeAt Go.WideMaps Go.WideElems Go.RowKit
set_option linter.unusedVariables false
set_option linter.unusedSimpArgs false

theorem var_heap {P : Program} {w : World} {n : String} {g : Nat} {cs : Array Value} (hg : P.globalNamed n = some g) (hv : w.var? P n = some cs) : ∃ t fr, w.heap[g]? = some (.cells cs t fr) := by
  unfold World.var? at hv
  rw [hg, Option.bind_some] at hv
  split at hv
  · rename_i cs' t fr he
    obtain rfl := Option.some.inj hv
    exact ⟨t, fr, he⟩
  · exact nomatch hv
/-- An array of numbers of one cell each reads as its numbers. -/
theorem tab_open {H : Type} {enc : TypeId × Value → H} {P : Program} {w : World} {base : Nat} {spare : Nat → Bool} {held : Bool} {fuel : Nat} {t e : TypeId} {n : Nat} {k : IntKind} {cs : List Value} {ns : List Int} {p : List MemPlace}
    (ht : P.underlying t = some (.array n e)) (he : P.underlying e = some (.int k)) (h1 : P.cellsOf e = 1) (h2 : P.cellsOf t = n) (h : DataW.trod enc P w base spare held fuel t cs = some (.agg (ns.map fun a => .lit (.int k a)), p)) : cs = ns.map (.int k) := by
  obtain ⟨xs, m, rfl, hx, hl, hn, hel⟩ := DataW.trod_array ht h
  simp only [Prod.mk.injEq, DataW.agg.injEq] at hx
  have hln : ns.length = n := by have := congrArg List.length hx.1; simp at this; omega
  rw [h2] at hl
  apply List.ext_getElem?
  intro j
  by_cases hj : j < n
  · have h3 := hel j hj
    have hjx : j < xs.length := by omega
    rw [List.getElem?_eq_getElem hjx] at h3
    obtain ⟨a, e1, e2, _⟩ := DataW.trod_int he h3
    have e3 := congrArg (fun l => l[j]?) hx.1
    simp only [List.getElem?_map, List.getElem?_eq_getElem hjx, Option.map_some, e2] at e3
    rw [h1, Nat.mul_one] at e1
    have hjc : j < cs.length := by omega
    have e4 : cs[j]? = some (.int k a) := by
      have := congrArg (fun l => l[0]?) e1
      simpa [List.getElem?_take, List.getElem?_drop] using this
    rw [e4, List.getElem?_map]
    have hjn : j < ns.length := by omega
    rw [List.getElem?_eq_getElem hjn] at e3 ⊢
    simp at e3 ⊢
    exact e3.symm
  · rw [List.getElem?_eq_none (by omega), List.getElem?_eq_none (by simp; omega)]

def laid2 : List (String × DataW Unit) := [("hansom/code.repeats", Rows.laid_hansom_code_repeats), ("hansom/code.segments", Rows.laid_hansom_code_segments)]
theorem gRep : Tryd.prog.globalNamed "hansom/code.repeats" = some 0 := by kernel_rfl
theorem gSeg : Tryd.prog.globalNamed "hansom/code.segments" = some 1 := by kernel_rfl
theorem tRep : (Tryd.prog.globals[0]?).map (·.type) = some 67 := by kernel_rfl
theorem tSeg : (Tryd.prog.globals[1]?).map (·.type) = some 68 := by kernel_rfl
theorem door_met (os : Os) (args : Array Value) : laidMetH Tryd.prog laid2 ((World.doorLaid Tryd.prog 400 os).forCall (fun _ _ => 0) ⟨#[], args, []⟩).memory :=
  laidMetH_of_parts3 (fuel := 8) (laidMet_of_run' 8 (by kernel_rfl) (by kernel_rfl)) (by kernel_rfl) (by kernel_rfl)
theorem of_laid {W : World} (h : laidMetH Tryd.prog laid2 W) : Tabs W := by
  rw [MakeChecks.laidMetH_plain _ _ _ (by kernel_rfl)] at h
  obtain ⟨ps, ⟨g0, t0, cs0, f0, p0, q0, hg0, ht0, hv0, hd0, ⟨g1, t1, cs1, f1, p1, q1, hg1, ht1, hv1, hd1, _, _⟩, _⟩, _, _⟩ := h
  obtain rfl := Option.some.inj (gRep.symm.trans hg0)
  obtain rfl := Option.some.inj (gSeg.symm.trans hg1)
  obtain rfl := Option.some.inj (tRep.symm.trans ht0)
  obtain rfl := Option.some.inj (tSeg.symm.trans ht1)
  have e0 := tab_open (ns := [242, 243]) Tryd.underlying67 Tryd.underlying5 (by kernel_rfl) (by kernel_rfl) hd0
  have e1 := tab_open (ns := [38, 46, 54, 62]) Tryd.underlying68 Tryd.underlying5 (by kernel_rfl) (by kernel_rfl) hd1
  obtain ⟨u0, r0, h0⟩ := var_heap gRep hv0
  obtain ⟨u1, r1, h1⟩ := var_heap gSeg hv1
  have a0 : cs0 = #[.int .u8 242, .int .u8 243] := Array.toList_inj.1 e0
  have a1 : cs1 = #[.int .u8 38, .int .u8 46, .int .u8 54, .int .u8 62] := Array.toList_inj.1 e1
  subst a0 a1
  exact ⟨⟨u0, r0, h0⟩, ⟨u1, r1, h1⟩⟩
end Go.Proofs.YtlklfnmhnffmoaaDoor
