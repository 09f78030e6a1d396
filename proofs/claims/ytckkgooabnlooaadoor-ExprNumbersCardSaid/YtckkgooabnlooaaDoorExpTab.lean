/- What the rows' listed tables (expr.registers, expr.manners) give a walk; and that the door's own run meets the condition. No statement of the seat is proved here. -/
import Derived.Test.YtckkgooabnlooaaDoorRows
import Derived.Test.YtckkgooabnlooaaDoorExpM
import Derived.ProofKit
import Derived.LaidMore
import Derived.OpenShut
import Derived.Stop.Joined
import Derived.Deep.Slices
namespace Go.Proofs.YtckkgooabnlooaaDoor
open Go.ChangeShapes Go.WideShapes Go.ChangeAt Go.WideMaps Go.WideElems Go.RowKit
set_option linter.unusedVariables false
set_option linter.unusedSimpArgs false
set_option maxRecDepth 100000

theorem var_heap {P : Program} {w : World} {n : String} {g : Nat} {cs : Array Value} (hg : P.globalNamed n = some g) (hv : w.var? P n = some cs) : ∃ t fr, w.heap[g]? = some (.cells cs t fr) := by
  unfold World.var? at hv
  rw [hg, Option.bind_some] at hv
  split at hv
  · rename_i cs' t fr he
    obtain rfl := Option.some.inj hv
    exact ⟨t, fr, he⟩
  · exact nomatch hv
/-- An array of numbers of one cell each reads as its numbers. -/
theorem tab_open {H : Type} {enc : TypeId × Value → H} {P : Program} {w : World} {base : Nat} {spare : Nat → Bool} {held : Bool} {fuel : Nat} {t e : TypeId} {n : Nat} {k : IntKind} {cs : List Value} {ns : List Int} {p : List MemPlace}
    (ht : P.underlying t = some (.array n e)) (he : P.underlying e = some (.int k)) (h1 : P.cellsOf e = 1) (h2 : P.cellsOf t = n) (h : DataW.trod enc P w base spare held fuel t cs = some (.agg (ns.map fun a => .lit (.int k a)), p)) : cs = ns.map (.int k) := by
  obtain ⟨xs, m, rfl, hx, hl, hn, hel⟩ := DataW.trod_array ht h
  simp only [Prod.mk.injEq, DataW.agg.injEq] at hx
  have hln : ns.length = n := by have := congrArg List.length hx.1; simp at this; omega
  rw [h2] at hl
  apply List.ext_getElem?
  intro j
  by_cases hj : j < n
  · have h3 := hel j hj
    have hjx : j < xs.length := by omega
    rw [List.getElem?_eq_getElem hjx] at h3
    obtain ⟨a, e1, e2, _⟩ := DataW.trod_int he h3
    have e3 := congrArg (fun l => l[j]?) hx.1
    simp only [List.getElem?_map, List.getElem?_eq_getElem hjx, Option.map_some, e2] at e3
    rw [h1, Nat.mul_one] at e1
    have hjc : j < cs.length := by omega
    have e4 : cs[j]? = some (.int k a) := by
      have := congrArg (fun l => l[0]?) e1
      simpa [List.getElem?_take, List.getElem?_drop] using this
    rw [e4, List.getElem?_map]
    have hjn : j < ns.length := by omega
    rw [List.getElem?_eq_getElem hjn] at e3 ⊢
    simp at e3 ⊢
    exact e3.symm
  · rw [List.getElem?_eq_none (by omega), List.getElem?_eq_none (by simp; omega)]
/-- .. one of an array of such arrays. -/
theorem tab_part {H : Type} {enc : TypeId × Value → H} {P : Program} {w : World} {base : Nat} {spare : Nat → Bool} {held : Bool} {fuel : Nat} {t e e' : TypeId} {n m : Nat} {k : IntKind} {cs : List Value} {nss : List (List Int)} {p : List MemPlace}
    (ht : P.underlying t = some (.array n e)) (he : P.underlying e = some (.array m e')) (he' : P.underlying e' = some (.int k)) (h1 : P.cellsOf e' = 1) (h2 : P.cellsOf e = m)
    (h : DataW.trod enc P w base spare held fuel t cs = some (.agg (nss.map fun ns => .agg (ns.map fun a => .lit (.int k a))), p)) (j : Nat) (ns : List Int) (hj : nss[j]? = some ns) : (cs.drop (j * m)).take m = ns.map (.int k) := by
  obtain ⟨xs, f, rfl, hx, hl, hn, hel⟩ := DataW.trod_array ht h
  simp only [Prod.mk.injEq, DataW.agg.injEq] at hx
  have hln : nss.length = n := by have := congrArg List.length hx.1; simp at this; omega
  have hjn : j < nss.length := (List.getElem?_eq_some_iff.1 hj).1
  have h3 := hel j (by omega)
  have hjx : j < xs.length := by omega
  rw [List.getElem?_eq_getElem hjx, h2] at h3
  have e3 := congrArg (fun l => l[j]?) hx.1
  simp only [List.getElem?_map, List.getElem?_eq_getElem hjx, Option.map_some, hj] at e3
  have e4 : xs[j] = (.agg (ns.map fun a => .lit (.int k a)), xs[j].2) := Prod.ext (Option.some.inj e3).symm rfl
  rw [e4] at h3
  exact tab_open he he' h1 h2 h3

def regsB : List (List UInt8) := [[65, 76], [67, 76], [68, 76], [66, 76], [65, 72], [67, 72], [68, 72], [66, 72], [65, 88], [67, 88], [68, 88], [66, 88], [83, 80], [66, 80], [83, 73], [68, 73], [69, 83], [67, 83], [83, 83], [68, 83]]
theorem regsB_is : regsB.map (fun b => strOfNums (b.map fun x => (x.toNat : Int))) = regsB.map fun b => (⟨b.toArray⟩ : ByteArray) := by kernel_rfl
theorem regsB_nums : regsB.map (fun b => b.map fun x => (x.toNat : Int)) = regsZ := by kernel_rfl
def laid2 : List (String × DataW Unit) := [("math/bits.deBruijn32tab", Rows.laid_math_bits_deBruijn32tab), ("math/bits.deBruijn64tab", Rows.laid_math_bits_deBruijn64tab), ("internal/strconv.uint64pow10", Rows.laid_internal_strconv_uint64pow10), ("hansom/expr.registers", Rows.laid_hansom_expr_registers), ("hansom/expr.manners", Rows.laid_hansom_expr_manners), ("strconv.ErrRange", Rows.laid_strconv_ErrRange), ("strconv.ErrSyntax", Rows.laid_strconv_ErrSyntax)]
theorem gReg : Tryd.prog.globalNamed "hansom/expr.registers" = some 0 := by kernel_rfl
theorem gMan : Tryd.prog.globalNamed "hansom/expr.manners" = some 1 := by kernel_rfl
theorem tReg : (Tryd.prog.globals[0]?).map (·.type) = some 23 := by kernel_rfl
theorem tMan : (Tryd.prog.globals[1]?).map (·.type) = some 81 := by kernel_rfl
theorem dReg : (Rows.laid_hansom_expr_registers : DataW Unit) = .slice (regsB.map fun b => .lit (.string b)) [] := by kernel_rfl
theorem door_met (os : Os) (args : Array Value) : laidMetH Tryd.prog laid2 ((World.doorLaid Tryd.prog 400 os).forCall (fun _ _ => 0) ⟨#[], args, []⟩).memory :=
  laidMetH_of_parts3 (fuel := 8) (laidMet_of_run' 8 (by kernel_rfl) (by kernel_rfl)) (by kernel_rfl) (by kernel_rfl)
theorem of_laid {W : World} (h : laidMetH Tryd.prog laid2 W) : Tabs W := by
  rw [MakeChecks.laidMetH_plain _ _ _ (by kernel_rfl)] at h
  obtain ⟨ps, ⟨_, _, _, _, _, _, _, _, _, _, ⟨_, _, _, _, _, _, _, _, _, _, ⟨_, _, _, _, _, _, _, _, _, _, ⟨g1, t1, cs1, f1, p1, q1, hg1, ht1, hv1, hd1, ⟨g2, t2, cs2, f2, p2, q2, hg2, ht2, hv2, hd2, _, _⟩, _⟩, _⟩, _⟩, _⟩, _, _⟩ := h
  obtain rfl := Option.some.inj (gReg.symm.trans hg1)
  obtain rfl := Option.some.inj (tReg.symm.trans ht1)
  obtain rfl := Option.some.inj (gMan.symm.trans hg2)
  obtain rfl := Option.some.inj (tMan.symm.trans ht2)
  refine ⟨?_, ?_⟩
  · rw [dReg] at hd1
    obtain ⟨u0, r0, h0⟩ := var_heap gReg hv1
    have hC : Tryd.prog.cellsOf 9 = 1 := by kernel_rfl
    rcases Deep.open_slice1 Tryd.underlying23 hC hd1 with ⟨_, hx⟩ | ⟨a, len, cap, m, n, V, D, Pl, hcs, _, hlc, _, hm, hx, hel⟩
    · exact nomatch congrArg Prod.fst hx
    have hcs' : cs1 = #[.slice (some a) len cap] := Array.toList_inj.1 hcs
    subst hcs'
    simp only [Prod.mk.injEq, DataW.slice.injEq] at hx
    have hlen : len = 20 := by
      have := congrArg List.length hx.1.1
      simp only [List.length_map, List.length_range] at this
      rw [← this]; rfl
    subst hlen
    refine ⟨_, u0, r0, h0, ?_, ?_⟩
    · intro t ht
      have : t ∈ regsB.map (fun b => b.map fun x => (x.toNat : Int)) := by rw [regsB_nums]; exact ht
      obtain ⟨b, _, rfl⟩ := List.mem_map.1 this
      intro c hc
      obtain ⟨x, _, rfl⟩ := List.mem_map.1 hc
      have := x.toNat_lt
      omega
    · refine ⟨rfl, by kernel_rfl, .inr ⟨a, cap, rfl, hlc, fun j u hu => ?_⟩⟩
      have hj : j < 20 := by
        have := (List.getElem?_eq_some_iff.1 hu).1
        exact this
      have hjm : j < m := by rw [hm]; split <;> omega
      obtain ⟨h1, h2⟩ := hel j hjm
      rw [h1]
      obtain ⟨s, hs, hs2, _⟩ := DataW.trod_string Tryd.underlying9 h2
      have hsV : V j = .string s := (List.cons.inj hs).1
      simp only [Prod.mk.injEq] at hs2
      have hD : (regsB.map fun b => (DataW.lit (.string b) : DataW Unit))[j]? = some (D j) := by
        rw [hx.1.1, List.getElem?_map, List.getElem?_range hj]; rfl
      rw [hs2.1, List.getElem?_map] at hD
      obtain ⟨b, hb1, hb2⟩ := Option.map_eq_some_iff.1 hD
      have hbs : b = s.data.toList := by simpa using hb2
      rw [← hu, hsV, flatT_at, ← regsB_nums, List.getElem?_map, hb1]
      simp only [Option.map_some]
      have h3 := congrArg (fun l => l[j]?) regsB_is
      simp only [List.getElem?_map, hb1, Option.map_some, Option.some.injEq] at h3
      rw [h3, hbs]
  · have hl : cs2.toList.length = 9 := by
      obtain ⟨xs, f, rfl, hx, hl, hn, hel⟩ := DataW.trod_array Tryd.underlying81 hd2
      rw [hl]
      kernel_rfl
    have e := tab_part (nss := [[8, 4, 5], [7, 0, 1], [6, 2, 3]]) Tryd.underlying81 Tryd.underlying80 Tryd.underlying3 (by kernel_rfl) (by kernel_rfl) hd2
    obtain ⟨u0, r0, h0⟩ := var_heap gMan hv2
    have a0 : cs2 = mannersC := by
      apply Array.toList_inj.1
      generalize cs2.toList = cs at hl e
      match cs, hl with
      | [c0, c1, c2, c3, c4, c5, c6, c7, c8], _ =>
        have e0 := e 0 _ rfl
        have e1 := e 1 _ rfl
        have e2 := e 2 _ rfl
        simp at e0 e1 e2
        simp [mannersC, e0, e1, e2]
    subst a0
    exact ⟨u0, r0, h0⟩
end Go.Proofs.YtckkgooabnlooaaDoor
