/- Lists of structs, of whatever element: read wherever they lie, in rows of a call's own, as a law's argument. No statement of the seat is proved here. -/
import Derived.Test.YtjecckmcjcikdaaDoorBase
import Derived.Test.YtjecckmcjcikdaaDoorCell
import Derived.Test.YtjecckmcjcikdaaDoorFlat
import Derived.Test.YtjecckmcjcikdaaDoorChecked
import Derived.OpenShut
namespace Go.Proofs.YtjecckmcjcikdaaDoor
open Go.ChangeShapes Go.WideShapes Go.ChangeAt Go.RowKit
set_option linter.unusedVariables false
set_option linter.unusedSimpArgs false

section
variable {α : Type} {k : Nat} {f : α → List Value}
/-- Structs that lie somewhere. -/
def RowsAt (k : Nat) (f : α → List Value) (w : World) (v : Value) (zs : List α) : Prop := Rd w k v zs.length (zs.flatMap f)
theorem RowsAt.keep {w w' : World} {v : Value} {zs : List α} (h : RowsAt k f w v zs) (hb : Below w.heap.size w w') : RowsAt k f w' v zs := Rd.keep h hb
theorem RowsAt.own {w0 w : World} {l : List RowT} {v : Value} {zs : List α} (h : RowsAt k f w0 v zs) (hR : Own w0 w l) : RowsAt k f w v zs := h.keep hR.below
theorem RowsAt.shape {w : World} {v : Value} {zs : List α} (h : RowsAt k f w v zs) : ∃ a n c, v = .slice a n c := by
  rcases Rd.way h with ⟨h1, _⟩ | ⟨a, cap, h1, _⟩
  · exact ⟨_, _, _, h1⟩
  · exact ⟨_, _, _, h1⟩
theorem RowsAt.el {w : World} {v : Value} {zs : List α} (hk : ∀ x, (f x).length = k) (h : RowsAt k f w v zs) {i : Nat} {z : α} (hi : zs[i]? = some z) :
    ∃ a cap, v = .slice (some a) zs.length cap ∧ ∀ j u, (f z)[j]? = some u → w.cell? ((a.add (i * k)).add j) = some u := Rd.el hk h hi
theorem RowsAt.cell {w : World} {a : Addr} {n cap : Nat} {zs : List α} (hk : ∀ x, (f x).length = k) (h : RowsAt k f w (.slice (some a) n cap) zs) {i : Nat} {z : α} (hi : zs[i]? = some z) :
    ∀ j u, (f z)[j]? = some u → w.cell? ((a.add (i * k)).add j) = some u := by
  obtain ⟨a', cap', h1, h2⟩ := h.el hk hi
  injection h1 with h3 h4 h5
  obtain rfl := Option.some.inj h3
  exact h2
theorem Sl.rowsAt {w0 w : World} {l s : List RowT} {e : TypeId} {v : Value} {zs : List α} (h1 : ∀ x, (f x).all (·.oneCell') = true) (h : Sl e k s v zs.length (zs.flatMap f)) (hR : Own w0 w l) (hs : ∀ r ∈ s, r ∈ l) : RowsAt k f w v zs :=
  h.rd hR hs (flat_ones h1 _)
/-- Structs that lie in rows. -/
def RowsR (k : Nat) (f : α → List Value) (sr : List RowT) (v : Value) (zs : List α) : Prop := ∀ (w0 w : World) (l : List RowT), Own w0 w l → (∀ r ∈ sr, r ∈ l) → RowsAt k f w v zs
theorem Sl.rowsR {s : List RowT} {e : TypeId} {v : Value} {zs : List α} (h1 : ∀ x, (f x).all (·.oneCell') = true) (h : Sl e k s v zs.length (zs.flatMap f)) : RowsR k f s v zs := fun _ _ _ hR hs => h.rowsAt h1 hR hs
def RetR (k : Nat) (f : α → List Value) (w w' : World) (F : Value → Value) (e : Ending) (zs : List α) : Prop := ∃ s v, e = .returned (F v) ∧ Own w w' s ∧ RowsR k f s v zs
theorem RetR.now {w w' : World} {F : Value → Value} {e : Ending} {zs : List α} (h : RetR k f w w' F e zs) : ∃ v, e = .returned (F v) ∧ Below w.heap.size w w' ∧ RowsAt k f w' v zs := by
  obtain ⟨s, v, rfl, hO, hV⟩ := h
  exact ⟨v, rfl, hO.below, hV _ _ _ hO fun _ h => h⟩
/-- A row of one struct. -/
theorem rd_one {w0 w : World} {l : List RowT} {g : Nat} {e : TypeId} {z : α} (hk : ∀ x, (f x).length = k) (h1 : ∀ x, (f x).all (·.oneCell') = true) (hR : Own w0 w l) (hm : (g, (f z).toArray, e) ∈ l) : Rd w k (.slice (some ⟨g, 0, none⟩) 1 1) 1 (f z) := by
  have hi : RwIs k (f z).toArray 1 1 (f z) := (RwIs.all (by simp [hk]) (by decide)).cast (by simp)
  have h : Sl e k [(g, (f z).toArray, e)] (.slice (some ⟨g, 0, none⟩) 1 1) 1 (f z) := hi.sl
  exact h.rd hR (fun x hx => by rw [List.mem_singleton.1 hx]; exact hm) (h1 z)
section
variable {H : Type} {P : Program} {enc : TypeId × Value → H} {w : World} {base : Nat} {spare : Nat → Bool} {held : Bool}
theorem open_list {ok : α → Prop} (z0 : α) (hk : ∀ x, (f x).length = k) (hp : 0 < k) (h1 : ∀ x, (f x).all (·.oneCell') = true) {T E : TypeId} (hu : P.underlying T = some (.slice E)) (hC : P.cellsOf E = k)
    (hel : ∀ {m : Nat} {cs : List Value} {x : DataW H × List MemPlace}, DataW.trod enc P w base spare held m E cs = some x → cs.length = k → ∃ z, ok z ∧ cs = f z)
    {W : World} {b : Nat} {v : Value} {d : DataW H} {p : List MemPlace} (hkw : Value.okWide P W .any b T v) (h : DataW.Trod enc P w base spare held T v d p) : ∃ zs : List α, (∀ z ∈ zs, ok z) ∧ RowsAt k f w v zs := by
  obtain ⟨a0, len, cap, rfl⟩ := okWide_slice hu hkw
  obtain ⟨fuel, hf⟩ := h
  rcases Deep.open_slice hu hf with ⟨h0, _⟩ | ⟨a, len', cap', m, n, D, Pl, h0, _, hlc, _, hm, _, hx⟩
  · have e : Value.slice a0 len cap = .slice none 0 0 := (List.cons.inj h0).1
    rw [e]
    exact ⟨[], (fun _ h => nomatch h), ⟨by simp, rfl, .inl ⟨rfl, rfl, rfl⟩⟩⟩
  · have e : Value.slice a0 len cap = .slice (some a) len' cap' := (List.cons.inj h0).1
    rw [e]
    have hle : len' ≤ m := by rw [hm]; split <;> omega
    have hE : ∀ i, ∃ z : α, i < len' → ok z ∧ ∀ j u, (f z)[j]? = some u → w.cell? ((a.add (i * k)).add j) = some u := by
      intro i
      by_cases hi : i < len'
      · obtain ⟨cs', h1, h2⟩ := hx i (by omega)
        rw [hC] at h1
        obtain ⟨_, hl, hat⟩ := World.cells?_some h1
        obtain ⟨z, hz, rfl⟩ := hel h2 hl
        refine ⟨z, fun _ => ⟨hz, fun j u hu => ?_⟩⟩
        have hj : j < k := by rw [← hk z]; exact (List.getElem?_eq_some_iff.1 hu).1
        rw [hat j hj]; exact hu
      · exact ⟨z0, fun h => absurd h hi⟩
    obtain ⟨E', hE⟩ := Classical.axiomOfChoice hE
    refine ⟨(List.range len').map E', fun z hz => ?_, ?_⟩
    · obtain ⟨i, hi, rfl⟩ := List.mem_map.1 hz
      exact (hE i (by simpa using hi)).1
    · have hr := rd_flat (w := w) (a := a) (cap := cap') (E := E') hk hp h1 hlc (fun i hi => (hE i hi).2)
      unfold RowsAt
      rw [List.length_map, List.length_range]
      exact hr
end
end
section
variable {P : Program} {C : World → Prop} {tp : TypeId} {pos : String} {af : Array Edge} {gd : Option (Nat × Bool)} {ls : List Value} {ds : List Deferred} {c : Bool} {dd : Option Tmp}
/-- A struct is loaded, wherever it lies. -/
theorem t_manyW {ty : TypeId} {n : Nat} (ht : RowTy P ty n) {x : Operand} {a : Addr} {cs : Array Value} (hx : EvC ls c x (.pointer (some a))) (hc : ∀ w, C w → ∀ j u, cs.toList[j]? = some u → w.cell? (a.add j) = some u) (hn : cs.size = n) :
    TIf P C c ⟨dd, .load ty x, tp, pos, af, gd⟩ ⟨ls.toArray, ds⟩ (.agg cs) := by
  obtain ⟨d', hu, hd, hi⟩ := ht
  exact ⟨fun e => .inl fun w hC => run_loadMany rfl (eval_of (hx.of e)) (hc w hC) hu hd hi hn⟩
end
end Go.Proofs.YtjecckmcjcikdaaDoor
