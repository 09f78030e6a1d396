/- Lists of whole numbers: as a law's argument, read wherever they lie, in rows of a call's own. No statement of the seat is proved here. -/
import Derived.Test.YtjecckmcjcikdaaDoorBase
import Derived.Test.YtjecckmcjcikdaaDoorCell
import Derived.Test.YtjecckmcjcikdaaDoorFlat
import Derived.Test.YtjecckmcjcikdaaDoorChecked
import Derived.OpenShut
namespace Go.Proofs.YtjecckmcjcikdaaDoor
open Go.ChangeShapes Go.WideShapes Go.ChangeAt Go.RowKit
set_option linter.unusedVariables false
set_option linter.unusedSimpArgs false

def cellI (n : Int) : List Value := [.int .i64 n]
theorem cellI_len (n : Int) : (cellI n).length = 1 := rfl
theorem cellI_one (n : Int) : (cellI n).all (·.oneCell') = true := by simp [cellI, Value.oneCell']
/-- Numbers that lie somewhere. -/
def Ints (w : World) (v : Value) (l : List Int) : Prop := Rd w 1 v l.length (l.flatMap cellI)
theorem Ints.keep {w w' : World} {v : Value} {l : List Int} (h : Ints w v l) (hb : Below w.heap.size w w') : Ints w' v l := Rd.keep h hb
theorem Ints.own {w0 w : World} {l : List RowT} {v : Value} {xs : List Int} (h : Ints w0 v xs) (hR : Own w0 w l) : Ints w v xs := h.keep hR.below
theorem Ints.none (w : World) : Ints w (.slice none 0 0) [] := ⟨rfl, rfl, .inl ⟨rfl, rfl, rfl⟩⟩
theorem Ints.shape {w : World} {v : Value} {l : List Int} (h : Ints w v l) : ∃ a n c, v = .slice a n c := by
  rcases Rd.way h with ⟨h1, _⟩ | ⟨a, cap, h1, _⟩
  · exact ⟨_, _, _, h1⟩
  · exact ⟨_, _, _, h1⟩
theorem Ints.one {w : World} {v : Value} {l : List Int} (h : Ints w v l) : v.oneCell' = true := by
  obtain ⟨a, n, c, rfl⟩ := h.shape; rfl
theorem Ints.el {w : World} {v : Value} {l : List Int} (h : Ints w v l) {i : Nat} {n : Int} (hi : l[i]? = some n) : ∃ a cap, v = .slice (some a) l.length cap ∧ w.cell? (a.add i) = some (.int .i64 n) := by
  obtain ⟨a, cap, h1, h2⟩ := Rd.el cellI_len h hi
  have h3 := h2 0 _ rfl
  rw [Nat.mul_one, show (a.add i).add 0 = a.add i by simp [Addr.add]] at h3
  exact ⟨a, cap, h1, h3⟩
theorem Ints.cell {w : World} {a : Addr} {n cap : Nat} {l : List Int} (h : Ints w (.slice (some a) n cap) l) {i : Nat} {x : Int} (hi : l[i]? = some x) : w.cell? (a.add i) = some (.int .i64 x) := by
  obtain ⟨a', cap', h1, h2⟩ := h.el hi
  injection h1 with h3 h4 h5
  obtain rfl := Option.some.inj h3
  exact h2
theorem flatI_at (l : List Int) (i : Nat) : (l.flatMap cellI)[i]? = (l[i]?).map fun n => Value.int .i64 n := by
  have : l.flatMap cellI = l.map fun n => Value.int .i64 n := by
    induction l with
    | nil => rfl
    | cons x l ih => rw [List.flatMap_cons, ih]; rfl
  rw [this, List.getElem?_map]
theorem Sl.ints {w0 w : World} {l s : List RowT} {e : TypeId} {v : Value} {xs : List Int} (h : Sl e 1 s v xs.length (xs.flatMap cellI)) (hR : Own w0 w l) (hs : ∀ r ∈ s, r ∈ l) : Ints w v xs := h.rd hR hs (flat_ones cellI_one _)
theorem RwIs.num {cur : Array Value} {l : List Int} {n cap i : Nat} {x : Int} (h : RwIs 1 cur n cap (l.flatMap cellI)) (hi : l[i]? = some x) : cur.toList[i]? = some (.int .i64 x) := by
  have := h.part.get i (.int .i64 x) (by rw [flatI_at, hi]; rfl)
  rw [Nat.zero_add] at this
  rw [Array.getElem?_toList]; exact this
/-- Numbers that lie in rows. -/
def IntsR (sr : List RowT) (v : Value) (xs : List Int) : Prop := ∀ (w0 w : World) (l : List RowT), Own w0 w l → (∀ r ∈ sr, r ∈ l) → Ints w v xs
theorem Sl.intsR {s : List RowT} {e : TypeId} {v : Value} {xs : List Int} (h : Sl e 1 s v xs.length (xs.flatMap cellI)) : IntsR s v xs := fun _ _ _ hR hs => h.ints hR hs
def RetI (w w' : World) (F : Value → Value) (e : Ending) (xs : List Int) : Prop := ∃ s v, e = .returned (F v) ∧ Own w w' s ∧ IntsR s v xs
theorem RetI.now {w w' : World} {F : Value → Value} {e : Ending} {xs : List Int} (h : RetI w w' F e xs) : ∃ v, e = .returned (F v) ∧ Below w.heap.size w w' ∧ Ints w' v xs := by
  obtain ⟨s, v, rfl, hO, hV⟩ := h
  exact ⟨v, rfl, hO.below, hV _ _ _ hO fun _ h => h⟩
def IntsIn (w : World) (v : Value) : Prop := ∃ l : List Int, (∀ n ∈ l, -9223372036854775808 ≤ n ∧ n ≤ 9223372036854775807) ∧ Ints w v l
section
variable {H : Type} {enc : TypeId × Value → H} {w : World} {base : Nat} {spare : Nat → Bool} {held : Bool}
set_option maxRecDepth 100000 in
theorem open_i64s {W : World} {b : Nat} {v : Value} {d : DataW H} {p : List MemPlace} (hk : Value.okWide Tryd.prog W .any b 22 v) (h : DataW.Trod enc Tryd.prog w base spare held 22 v d p) : IntsIn w v := by
  obtain ⟨a0, len, cap, rfl⟩ := okWide_slice Tryd.underlying22 hk
  obtain ⟨fuel, hf⟩ := h
  have hC : Tryd.prog.cellsOf 3 = 1 := by kernel_rfl
  rcases Deep.open_slice1 Tryd.underlying22 hC hf with ⟨h0, _⟩ | ⟨a, len', cap', m, n, V, D, Pl, h0, _, hlc, hcm, hm, hd, hx⟩
  · have e : Value.slice a0 len cap = .slice none 0 0 := (List.cons.inj h0).1
    rw [e]
    exact ⟨[], (fun _ h => nomatch h), Ints.none w⟩
  · have e : Value.slice a0 len cap = .slice (some a) len' cap' := (List.cons.inj h0).1
    rw [e]
    have hle : len' ≤ m := by rw [hm]; split <;> omega
    have hE : ∀ i, ∃ z : Int, i < len' → (-9223372036854775808 ≤ z ∧ z ≤ 9223372036854775807) ∧ w.cell? (a.add i) = some (.int .i64 z) := by
      intro i
      by_cases hi : i < len'
      · obtain ⟨h1, h2⟩ := hx i (by omega)
        obtain ⟨z, hz, wf⟩ := cell1 Tryd.underlying3 h2 rfl (x := V i) rfl
        exact ⟨z, fun _ => ⟨bounds_i64 wf, by rw [h1, hz]⟩⟩
      · exact ⟨0, fun h => absurd h hi⟩
    obtain ⟨E, hE⟩ := Classical.axiomOfChoice hE
    refine ⟨(List.range len').map E, fun x hx => ?_, ?_⟩
    · obtain ⟨i, hi, rfl⟩ := List.mem_map.1 hx
      exact (hE i (by simpa using hi)).1
    · have hr := rd_flat (w := w) (a := a) (cap := cap') (E := E) cellI_len (by decide) cellI_one hlc (fun i hi j u hu => by
        have hj : j = 0 := by have := (List.getElem?_eq_some_iff.1 hu).1; simp [cellI] at this; exact this
        subst hj
        obtain rfl := Option.some.inj hu
        rw [Nat.mul_one, show (a.add i).add 0 = a.add i by simp [Addr.add]]
        exact (hE i hi).2)
      unfold Ints
      rw [List.length_map, List.length_range]
      exact hr
end
/-! ### Types -/
theorem tIntO : OneTy Tryd.prog 3 := .of Tryd.underlying3 rfl (by kernel_rfl)
theorem iIntO : (Tryd.prog.info? 3).map (·.size) = some 1 := by kernel_rfl
theorem tIntsO : OneTy Tryd.prog 22 := .of Tryd.underlying22 rfl (by kernel_rfl)
theorem tIntsB : SliceB Tryd.prog 22 3 1 8 := .of (z := .int .i64 0) Tryd.underlying22 (by kernel_rfl) rfl (by decide)
theorem bInts1 (n : Int) : BuiltS Tryd.prog 22 1 [(0, .int .i64 n)] 3 #[.int .i64 n] := ⟨fun w => by simp [go_sem]⟩
/-- A row of one number. -/
theorem rd_int {w0 w : World} {l : List RowT} {g : Nat} {e : TypeId} {n : Int} (hR : Own w0 w l) (hm : (g, #[.int .i64 n], e) ∈ l) : Rd w 1 (.slice (some ⟨g, 0, none⟩) 1 1) 1 (cellI n) := by
  have h : Sl e 1 [(g, #[.int .i64 n], e)] (.slice (some ⟨g, 0, none⟩) 1 1) 1 (cellI n) := (RwIs.all rfl (by decide)).sl
  exact h.rd hR (fun x hx => by rw [List.mem_singleton.1 hx]; exact hm) (cellI_one n)
end Go.Proofs.YtjecckmcjcikdaaDoor
