/- What the rows' listed tables (strings.asciiSpace, and the four of package disp) give a walk: their blocks' cells ('Tabs'); and that the door's own run meets the condition. No statement of the seat is proved here. -/
import Derived.Test.YtpngjefdgicmiaaDoorRows
import Derived.Test.YtpngjefdgicmiaaDoorStr
import Derived.Test.YtpngjefdgicmiaaDoorApp
import Derived.ProofKit
import Derived.LaidMore
import Derived.OpenShut
import Derived.Stop.Joined
namespace Go.Proofs.YtpngjefdgicmiaaDoor
open Go.ChangeShapes Go.WideShapes Go.ChangeAt Go.WideMaps Go.WideElems Go.RowKit
set_option linter.unusedVariables false
set_option linter.unusedSimpArgs false

theorem var_heap {P : Program} {w : World} {n : String} {g : Nat} {cs : Array Value} (hg : P.globalNamed n = some g) (hv : w.var? P n = some cs) : ∃ t fr, w.heap[g]? = some (.cells cs t fr) := by
  unfold World.var? at hv
  rw [hg, Option.bind_some] at hv
  split at hv
  · rename_i cs' t fr he
    obtain rfl := Option.some.inj hv
    exact ⟨t, fr, he⟩
  · exact nomatch hv
/-- An array of elements of one cell each: what each cell is. -/
theorem tab_each {H : Type} {enc : TypeId × Value → H} {P : Program} {w : World} {base : Nat} {spare : Nat → Bool} {held : Bool} {fuel : Nat} {t e : TypeId} {n : Nat} {A : Type} {F : A → DataW H} {V : A → Value} {cs : List Value} {ns : List A} {p : List MemPlace}
    (ht : P.underlying t = some (.array n e)) (h1 : P.cellsOf e = 1) (h2 : P.cellsOf t = n)
    (hel : ∀ (m : Nat) (c : List Value) (a : A) (q : List MemPlace), DataW.trod enc P w base spare held m e c = some (F a, q) → c = [V a])
    (h : DataW.trod enc P w base spare held fuel t cs = some (.agg (ns.map F), p)) : cs = ns.map V := by
  obtain ⟨xs, m, rfl, hx, hl, hn, he⟩ := DataW.trod_array ht h
  simp only [Prod.mk.injEq, DataW.agg.injEq] at hx
  have hln : ns.length = n := by have := congrArg List.length hx.1; simp at this; omega
  rw [h2] at hl
  apply List.ext_getElem?
  intro j
  by_cases hj : j < n
  · have h3 := he j hj
    have hjx : j < xs.length := by omega
    have hjn : j < ns.length := by omega
    rw [List.getElem?_eq_getElem hjx] at h3
    have e3 := congrArg (fun l => l[j]?) hx.1
    simp only [List.getElem?_map, List.getElem?_eq_getElem hjx, List.getElem?_eq_getElem hjn, Option.map_some, Option.some.injEq] at e3
    have e4 : xs[j] = (F ns[j], xs[j].2) := Prod.ext e3.symm rfl
    rw [e4] at h3
    have e1 := hel _ _ _ _ h3
    rw [h1, Nat.mul_one] at e1
    have e5 : cs[j]? = some (V ns[j]) := by
      have := congrArg (fun l => l[0]?) e1
      simpa [List.getElem?_take, List.getElem?_drop] using this
    rw [e5, List.getElem?_map, List.getElem?_eq_getElem hjn]; rfl
  · rw [List.getElem?_eq_none (by omega), List.getElem?_eq_none (by simp; omega)]
theorem tab_ints {H : Type} {enc : TypeId × Value → H} {P : Program} {w : World} {base : Nat} {spare : Nat → Bool} {held : Bool} {fuel : Nat} {t e : TypeId} {n : Nat} {k : IntKind} {cs : List Value} {ns : List Int} {p : List MemPlace}
    (ht : P.underlying t = some (.array n e)) (he : P.underlying e = some (.int k)) (h1 : P.cellsOf e = 1) (h2 : P.cellsOf t = n) (h : DataW.trod enc P w base spare held fuel t cs = some (.agg (ns.map fun a => .lit (.int k a)), p)) : cs = ns.map (.int k) :=
  tab_each ht h1 h2 (fun m c a q hq => by
    obtain ⟨b, e1, e2, _⟩ := DataW.trod_int he hq
    simp only [Prod.mk.injEq, DataW.lit.injEq, Lit.int.injEq] at e2
    rw [e1, e2.1.2]) h
theorem tab_strs {H : Type} {enc : TypeId × Value → H} {P : Program} {w : World} {base : Nat} {spare : Nat → Bool} {held : Bool} {fuel : Nat} {t e : TypeId} {n : Nat} {cs : List Value} {ns : List (List UInt8)} {p : List MemPlace}
    (ht : P.underlying t = some (.array n e)) (he : P.underlying e = some .string) (h1 : P.cellsOf e = 1) (h2 : P.cellsOf t = n) (h : DataW.trod enc P w base spare held fuel t cs = some (.agg (ns.map fun a => .lit (.string a)), p)) : cs = ns.map fun b => .string ⟨b.toArray⟩ :=
  tab_each (V := fun b => .string ⟨b.toArray⟩) ht h1 h2 (fun m c a q hq => by
    obtain ⟨s, e1, e2, _⟩ := DataW.trod_string he hq
    simp only [Prod.mk.injEq, DataW.lit.injEq, Lit.string.injEq] at e2
    rw [e1, e2.1]) h

/-! ### The tables -/
def spV (c : Nat) : Int := bif (Nat.ble 9 c && Nat.ble c 13) || Nat.beq c 32 then 1 else 0
def spcN : List Int := (List.range 256).map spV
def repB : List (List UInt8) := [[], [82, 69, 80, 78, 69, 32], [82, 69, 80, 32]]
def fixB : List (List UInt8) := [[], [], [], [], [], [], [], [], [], [], [], [], [], [], [65, 76], [67, 76], [65, 88], [68, 88], [49], [], [], [], [], [], [51]]
def sizB : List (List UInt8) := [[], [66, 89, 84, 69, 32], [87, 79, 82, 68, 32], [], [], [], [], [], [], [], [], [], [66, 89, 84, 69, 32], [87, 79, 82, 68, 32], [], [], [], [], [], [70, 65, 82, 32], []]
def cntB : List (List UInt8) := [[66, 88, 43, 83, 73], [66, 88, 43, 68, 73], [66, 80, 43, 83, 73], [66, 80, 43, 68, 73], [83, 73], [68, 73], [66, 80], [66, 88]]
def cellsU (L : List (List UInt8)) : Array Value := (L.map fun b => Value.string ⟨b.toArray⟩).toArray
def spcC : Array Value := (spcN.map (Value.int .u8)).toArray
theorem spc_at {c : Int} (h0 : 0 ≤ c) (h1 : c ≤ 255) : spcC[c.toNat]? = some (.int .u8 (spV c.toNat)) := by
  unfold spcC spcN
  rw [List.getElem?_toArray, List.getElem?_map, List.getElem?_map, List.getElem?_range (by omega)]
  rfl
structure Tabs (w : World) : Prop where
  spc : ∃ t fr, w.heap[0]? = some (.cells spcC t fr)
  rep : ∃ t fr, w.heap[1]? = some (.cells (cellsU repB) t fr)
  fix : ∃ t fr, w.heap[3]? = some (.cells (cellsU fixB) t fr)
  siz : ∃ t fr, w.heap[4]? = some (.cells (cellsU sizB) t fr)
  cnt : ∃ t fr, w.heap[5]? = some (.cells (cellsU cntB) t fr)
theorem tab_keep {w w' : World} (hb : Below w.heap.size w w') {g : Nat} {cs : Array Value} (h : ∃ t fr, w.heap[g]? = some (.cells cs t fr)) : ∃ t fr, w'.heap[g]? = some (.cells cs t fr) := by
  obtain ⟨t, f, h1⟩ := h
  exact ⟨t, f, by rw [hb.block _ (Array.getElem?_eq_some_iff.1 h1).1]; exact h1⟩
theorem Tabs.keep {w w' : World} (h : Tabs w) (hb : Below w.heap.size w w') : Tabs w' :=
  ⟨tab_keep hb h.spc, tab_keep hb h.rep, tab_keep hb h.fix, tab_keep hb h.siz, tab_keep hb h.cnt⟩
theorem Tabs.own {w w' : World} {l : List RowT} (h : Tabs w) (hR : Own w w' l) : Tabs w' := h.keep hR.below

def laid2 : List (String × DataW Unit) := [("unicode.White_Space", Rows.laid_unicode_White_Space), ("strings.asciiSpace", Rows.laid_strings_asciiSpace), ("hansom/disp.repeats", Rows.laid_hansom_disp_repeats), ("hansom/disp.fixed", Rows.laid_hansom_disp_fixed), ("hansom/disp.sizes", Rows.laid_hansom_disp_sizes), ("hansom/disp.counts", Rows.laid_hansom_disp_counts)]
theorem gSpc : Tryd.prog.globalNamed "strings.asciiSpace" = some 0 := by kernel_rfl
theorem gRep : Tryd.prog.globalNamed "hansom/disp.repeats" = some 1 := by kernel_rfl
theorem gFix : Tryd.prog.globalNamed "hansom/disp.fixed" = some 3 := by kernel_rfl
theorem gSiz : Tryd.prog.globalNamed "hansom/disp.sizes" = some 4 := by kernel_rfl
theorem gCnt : Tryd.prog.globalNamed "hansom/disp.counts" = some 5 := by kernel_rfl
theorem tSpc : (Tryd.prog.globals[0]?).map (·.type) = some 49 := by kernel_rfl
theorem tRep : (Tryd.prog.globals[1]?).map (·.type) = some 56 := by kernel_rfl
theorem tFix : (Tryd.prog.globals[3]?).map (·.type) = some 77 := by kernel_rfl
theorem tSiz : (Tryd.prog.globals[4]?).map (·.type) = some 99 := by kernel_rfl
theorem tCnt : (Tryd.prog.globals[5]?).map (·.type) = some 100 := by kernel_rfl
theorem dSpc : (Rows.laid_strings_asciiSpace : DataW Unit) = .agg (spcN.map fun a => .lit (.int .u8 a)) := by kernel_rfl
theorem dRep : (Rows.laid_hansom_disp_repeats : DataW Unit) = .agg (repB.map fun a => .lit (.string a)) := by kernel_rfl
theorem dFix : (Rows.laid_hansom_disp_fixed : DataW Unit) = .agg (fixB.map fun a => .lit (.string a)) := by kernel_rfl
theorem dSiz : (Rows.laid_hansom_disp_sizes : DataW Unit) = .agg (sizB.map fun a => .lit (.string a)) := by kernel_rfl
theorem dCnt : (Rows.laid_hansom_disp_counts : DataW Unit) = .agg (cntB.map fun a => .lit (.string a)) := by kernel_rfl
set_option maxRecDepth 100000 in
theorem door_met (os : Os) (args : Array Value) : laidMetH Tryd.prog laid2 ((World.doorLaid Tryd.prog 400 os).forCall (fun _ _ => 0) ⟨#[], args, []⟩).memory :=
  laidMetH_of_parts3 (fuel := 8) (laidMet_of_run' 8 (by kernel_rfl) (by kernel_rfl)) (by kernel_rfl) (by kernel_rfl)
theorem of_laid {W : World} (h : laidMetH Tryd.prog laid2 W) : Tabs W := by
  rw [MakeChecks.laidMetH_plain _ _ _ (by kernel_rfl)] at h
  obtain ⟨ps, ⟨_, _, _, _, _, _, _, _, _, _, ⟨g1, t1, cs1, f1, p1, q1, hg1, ht1, hv1, hd1, ⟨g2, t2, cs2, f2, p2, q2, hg2, ht2, hv2, hd2, ⟨g3, t3, cs3, f3, p3, q3, hg3, ht3, hv3, hd3, ⟨g4, t4, cs4, f4, p4, q4, hg4, ht4, hv4, hd4, ⟨g5, t5, cs5, f5, p5, q5, hg5, ht5, hv5, hd5, _, _⟩, _⟩, _⟩, _⟩, _⟩, _⟩, _, _⟩ := h
  obtain rfl := Option.some.inj (gSpc.symm.trans hg1)
  obtain rfl := Option.some.inj (tSpc.symm.trans ht1)
  obtain rfl := Option.some.inj (gRep.symm.trans hg2)
  obtain rfl := Option.some.inj (tRep.symm.trans ht2)
  obtain rfl := Option.some.inj (gFix.symm.trans hg3)
  obtain rfl := Option.some.inj (tFix.symm.trans ht3)
  obtain rfl := Option.some.inj (gSiz.symm.trans hg4)
  obtain rfl := Option.some.inj (tSiz.symm.trans ht4)
  obtain rfl := Option.some.inj (gCnt.symm.trans hg5)
  obtain rfl := Option.some.inj (tCnt.symm.trans ht5)
  rw [dSpc] at hd1
  rw [dRep] at hd2
  rw [dFix] at hd3
  rw [dSiz] at hd4
  rw [dCnt] at hd5
  have e1 := tab_ints Tryd.underlying49 Tryd.underlying5 (by kernel_rfl) (by kernel_rfl) hd1
  have e2 := tab_strs Tryd.underlying56 Tryd.underlying9 (by kernel_rfl) (by kernel_rfl) hd2
  have e3 := tab_strs Tryd.underlying77 Tryd.underlying9 (by kernel_rfl) (by kernel_rfl) hd3
  have e4 := tab_strs Tryd.underlying99 Tryd.underlying9 (by kernel_rfl) (by kernel_rfl) hd4
  have e5 := tab_strs Tryd.underlying100 Tryd.underlying9 (by kernel_rfl) (by kernel_rfl) hd5
  have a1 : cs1 = spcC := Array.toList_inj.1 e1
  have a2 : cs2 = cellsU repB := Array.toList_inj.1 e2
  have a3 : cs3 = cellsU fixB := Array.toList_inj.1 e3
  have a4 : cs4 = cellsU sizB := Array.toList_inj.1 e4
  have a5 : cs5 = cellsU cntB := Array.toList_inj.1 e5
  subst a1 a2 a3 a4 a5
  exact ⟨var_heap gSpc hv1, var_heap gRep hv2, var_heap gFix hv3, var_heap gSiz hv4, var_heap gCnt hv5⟩
end Go.Proofs.YtpngjefdgicmiaaDoor
