







/- Lists of slices of bytes in rows of the call's own, to be joined by slices.Concat. No statement of the seat is proved here. -/
import Derived.Test.YtalgadinoaeihaaCat
import Derived.Test.YtalgadinoaeihaaSrcG
namespace Go.Proofs.Ytalgadinoaeihaa
open Go.ChangeShapes Go.WideShapes Go.ChangeAt Go.RowKit
set_option linter.unusedVariables false
set_option linter.unusedSimpArgs false

/-! ### Lists of slices, to be joined -/
theorem bCat2 {a1 a2 : Option Addr} {n1 n2 c1 c2 : Nat} : BuiltS Try.prog 66 2 [(0, .slice a1 n1 c1), (1, .slice a2 n2 c2)] 22 #[.slice a1 n1 c1, .slice a2 n2 c2] := ⟨fun w => by simp [go_sem]⟩
theorem bCat3 {a1 a2 a3 : Option Addr} {n1 n2 n3 c1 c2 c3 : Nat} : BuiltS Try.prog 66 3 [(0, .slice a1 n1 c1), (1, .slice a2 n2 c2), (2, .slice a3 n3 c3)] 22 #[.slice a1 n1 c1, .slice a2 n2 c2, .slice a3 n3 c3] := ⟨fun w => by simp [go_sem]⟩
theorem bCat4 {a1 a2 a3 a4 : Option Addr} {n1 n2 n3 n4 c1 c2 c3 c4 : Nat} : BuiltS Try.prog 66 4 [(0, .slice a1 n1 c1), (1, .slice a2 n2 c2), (2, .slice a3 n3 c3), (3, .slice a4 n4 c4)] 22 #[.slice a1 n1 c1, .slice a2 n2 c2, .slice a3 n3 c3, .slice a4 n4 c4] := ⟨fun w => by simp [go_sem]⟩
theorem rd_cells {w0 w : World} {l : List RowT} {g : Nat} {e : TypeId} {cs : List Value} (hR : Own w0 w l) (hm : (g, cs.toArray, e) ∈ l) (h1 : cs.all (·.oneCell') = true) (hl : cs.length ≤ 1000000) : Rd w 1 (.slice (some ⟨g, 0, none⟩) cs.length cs.length) cs.length cs := by
  have hi : RwIs 1 cs.toArray cs.length cs.length cs := (RwIs.all (by simp) hl).cast (by simp)
  have h : Sl e 1 [(g, cs.toArray, e)] (.slice (some ⟨g, 0, none⟩) cs.length cs.length) cs.length cs := hi.sl
  exact h.rd hR (fun x hx => by rw [List.mem_singleton.1 hx]; exact hm) h1
/-- The pieces lie in a row of the call's own. -/
theorem cat_row {w0 w : World} {l : List RowT} {g : Nat} (ps : List Piece) (hR : Own w0 w l) (hm : (g, (ps.map (·.1)).toArray, 22) ∈ l) (hb : ∀ p ∈ ps, SrcW w p.1 p.2) (hl : ∀ p ∈ ps, p.2.length ≤ 2000) (hn : ps.length ≤ 100) :
    Calls Try.prog 24 #[.slice (some ⟨g, 0, none⟩) ps.length ps.length] w fun e w' => RowsB w w' e (catL ps) := by
  have h := rd_cells hR hm (by rw [List.all_map, List.all_eq_true]; intro p hp; exact (hb p hp).one) (by rw [List.length_map]; omega)
  rw [List.length_map] at h
  refine concat_any (ps := ps) ?_ hb hl hn
  have : ps.flatMap cellP = ps.map (·.1) := by rw [List.map_eq_flatMap]; rfl
  rw [this]
  exact h
theorem cat2_row {w0 w : World} {l : List RowT} {g : Nat} {v1 v2 : Value} {b1 b2 : List Int} (hR : Own w0 w l) (hm : (g, #[v1, v2], 22) ∈ l) (h1 : SrcW w v1 b1) (h2 : SrcW w v2 b2) (l1 : b1.length ≤ 2000) (l2 : b2.length ≤ 2000) :
    Calls Try.prog 24 #[.slice (some ⟨g, 0, none⟩) 2 2] w fun e w' => RowsB w w' e (b1 ++ b2) := by
  have := cat_row [(v1, b1), (v2, b2)] hR hm
    (fun p hp => by rcases List.mem_cons.1 hp with e | hp; (subst e; exact h1); cases List.mem_singleton.1 hp; exact h2)
    (fun p hp => by rcases List.mem_cons.1 hp with e | hp; (subst e; exact l1); cases List.mem_singleton.1 hp; exact l2) (by simp)
  rwa [show catL [(v1, b1), (v2, b2)] = b1 ++ b2 by simp [catL]] at this
theorem cat3_row {w0 w : World} {l : List RowT} {g : Nat} {v1 v2 v3 : Value} {b1 b2 b3 : List Int} (hR : Own w0 w l) (hm : (g, #[v1, v2, v3], 22) ∈ l) (h1 : SrcW w v1 b1) (h2 : SrcW w v2 b2) (h3 : SrcW w v3 b3) (l1 : b1.length ≤ 2000) (l2 : b2.length ≤ 2000) (l3 : b3.length ≤ 2000) :
    Calls Try.prog 24 #[.slice (some ⟨g, 0, none⟩) 3 3] w fun e w' => RowsB w w' e (b1 ++ (b2 ++ b3)) := by
  have := cat_row [(v1, b1), (v2, b2), (v3, b3)] hR hm
    (fun p hp => by rcases List.mem_cons.1 hp with e | hp; (subst e; exact h1); rcases List.mem_cons.1 hp with e | hp; (subst e; exact h2); cases List.mem_singleton.1 hp; exact h3)
    (fun p hp => by rcases List.mem_cons.1 hp with e | hp; (subst e; exact l1); rcases List.mem_cons.1 hp with e | hp; (subst e; exact l2); cases List.mem_singleton.1 hp; exact l3) (by simp)
  rwa [show catL [(v1, b1), (v2, b2), (v3, b3)] = b1 ++ (b2 ++ b3) by simp [catL]] at this
theorem cat4_row {w0 w : World} {l : List RowT} {g : Nat} {v1 v2 v3 v4 : Value} {b1 b2 b3 b4 : List Int} (hR : Own w0 w l) (hm : (g, #[v1, v2, v3, v4], 22) ∈ l) (h1 : SrcW w v1 b1) (h2 : SrcW w v2 b2) (h3 : SrcW w v3 b3) (h4 : SrcW w v4 b4) (l1 : b1.length ≤ 2000) (l2 : b2.length ≤ 2000) (l3 : b3.length ≤ 2000) (l4 : b4.length ≤ 2000) :
    Calls Try.prog 24 #[.slice (some ⟨g, 0, none⟩) 4 4] w fun e w' => RowsB w w' e (b1 ++ (b2 ++ (b3 ++ b4))) := by
  have := cat_row [(v1, b1), (v2, b2), (v3, b3), (v4, b4)] hR hm
    (fun p hp => by rcases List.mem_cons.1 hp with e | hp; (subst e; exact h1); rcases List.mem_cons.1 hp with e | hp; (subst e; exact h2); rcases List.mem_cons.1 hp with e | hp; (subst e; exact h3); cases List.mem_singleton.1 hp; exact h4)
    (fun p hp => by rcases List.mem_cons.1 hp with e | hp; (subst e; exact l1); rcases List.mem_cons.1 hp with e | hp; (subst e; exact l2); rcases List.mem_cons.1 hp with e | hp; (subst e; exact l3); cases List.mem_singleton.1 hp; exact l4) (by simp)
  rwa [show catL [(v1, b1), (v2, b2), (v3, b3), (v4, b4)] = b1 ++ (b2 ++ (b3 ++ b4)) by simp [catL]] at this
theorem ones_p (ns : List Int) : (cellsB ns).all (·.oneCell') = true := by simp [cellsB, List.all_map, Value.oneCell']
theorem one_src {w0 w : World} {l : List RowT} {g : Nat} {n : Int} (hR : Own w0 w l) (hm : (g, #[.int .u8 n], 5) ∈ l) (hb : bytesOk [n]) : SrcW w (.slice (some ⟨g, 0, none⟩) 1 1) [n] := src_row (ns := [n]) hR hm rfl hb (by simp)
end Go.Proofs.Ytalgadinoaeihaa
