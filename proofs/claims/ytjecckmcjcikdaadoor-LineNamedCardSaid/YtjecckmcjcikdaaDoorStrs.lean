



/- Lists of texts: as a law's argument, read wherever they lie, an element appended. No statement of the seat is proved here. -/
import Derived.Test.YtjecckmcjcikdaaDoorStr
import Derived.Test.YtjecckmcjcikdaaDoorBase
import Derived.Test.YtjecckmcjcikdaaDoorFlat
import Derived.Test.YtjecckmcjcikdaaDoorCell
import Derived.Test.YtjecckmcjcikdaaDoorChecked
import Derived.OpenShut
namespace Go.Proofs.YtjecckmcjcikdaaDoor
open Go.ChangeShapes Go.WideShapes Go.ChangeAt Go.RowKit
set_option linter.unusedVariables false
set_option linter.unusedSimpArgs false

def cellT (t : List Int) : List Value := [.string (strOfNums t)]
theorem cellT_len (t : List Int) : (cellT t).length = 1 := rfl
theorem cellT_one (t : List Int) : (cellT t).all (·.oneCell') = true := by simp [cellT, Value.oneCell']
/-- Texts that lie somewhere. -/
structure Strs (w : World) (v : Value) (ts : List (List Int)) : Prop where
  ok : ∀ t ∈ ts, bytesOk t
  rd : Rd w 1 v ts.length (ts.flatMap cellT)
theorem Strs.keep {w w' : World} {v : Value} {ts : List (List Int)} (h : Strs w v ts) (hb : Below w.heap.size w w') : Strs w' v ts := ⟨h.ok, h.rd.keep hb⟩
theorem Strs.own {w0 w : World} {l : List RowT} {v : Value} {ts : List (List Int)} (h : Strs w0 v ts) (hR : Own w0 w l) : Strs w v ts := h.keep hR.below
theorem Strs.el {w : World} {v : Value} {ts : List (List Int)} (h : Strs w v ts) {i : Nat} {t : List Int} (hi : ts[i]? = some t) :
    ∃ a cap, v = .slice (some a) ts.length cap ∧ w.cell? (a.add i) = some (.string (strOfNums t)) := by
  obtain ⟨a, cap, h1, h2⟩ := h.rd.el cellT_len hi
  have h3 := h2 0 _ rfl
  rw [Nat.mul_one, show (a.add i).add 0 = a.add i by simp [Addr.add]] at h3
  exact ⟨a, cap, h1, h3⟩
theorem Strs.cell {w : World} {a : Addr} {n cap : Nat} {ts : List (List Int)} (h : Strs w (.slice (some a) n cap) ts) {i : Nat} {t : List Int} (hi : ts[i]? = some t) : w.cell? (a.add i) = some (.string (strOfNums t)) := by
  obtain ⟨a', cap', h1, h2⟩ := h.el hi
  injection h1 with h3 h4 h5
  obtain rfl := Option.some.inj h3
  exact h2
theorem flatT_at (ts : List (List Int)) (i : Nat) : (ts.flatMap cellT)[i]? = (ts[i]?).map fun t => Value.string (strOfNums t) := by
  have : ts.flatMap cellT = ts.map fun t => Value.string (strOfNums t) := by
    induction ts with
    | nil => rfl
    | cons x ts ih => rw [List.flatMap_cons, ih]; rfl
  rw [this, List.getElem?_map]
theorem Sl.strs {w0 w : World} {l s : List RowT} {e : TypeId} {v : Value} {ts : List (List Int)} (h : Sl e 1 s v ts.length (ts.flatMap cellT)) (hR : Own w0 w l) (hs : ∀ r ∈ s, r ∈ l) (hok : ∀ t ∈ ts, bytesOk t) : Strs w v ts :=
  ⟨hok, h.rd hR hs (flat_ones cellT_one _)⟩
/-- Texts that lie in rows. -/
def StrsR (sr : List RowT) (v : Value) (ts : List (List Int)) : Prop := ∀ (w0 w : World) (l : List RowT), Own w0 w l → (∀ r ∈ sr, r ∈ l) → Strs w v ts
theorem Sl.strsR {s : List RowT} {e : TypeId} {v : Value} {ts : List (List Int)} (h : Sl e 1 s v ts.length (ts.flatMap cellT)) (hok : ∀ t ∈ ts, bytesOk t) : StrsR s v ts := fun _ _ _ hR hs => h.strs hR hs hok
def RetT (w w' : World) (F : Value → Value) (e : Ending) (ts : List (List Int)) : Prop := ∃ s v, e = .returned (F v) ∧ Own w w' s ∧ StrsR s v ts
theorem RetT.now {w w' : World} {F : Value → Value} {e : Ending} {ts : List (List Int)} (h : RetT w w' F e ts) : ∃ v, e = .returned (F v) ∧ Below w.heap.size w w' ∧ Strs w' v ts := by
  obtain ⟨s, v, rfl, hO, hV⟩ := h
  exact ⟨v, rfl, hO.below, hV _ _ _ hO fun _ h => h⟩
def StrsIn (w : World) (v : Value) : Prop := ∃ ts, Strs w v ts
section
variable {H : Type} {enc : TypeId × Value → H} {w : World} {base : Nat} {spare : Nat → Bool} {held : Bool}
set_option maxRecDepth 100000 in
theorem open_strs {W : World} {b : Nat} {v : Value} {d : DataW H} {p : List MemPlace} (hk : Value.okWide Tryd.prog W .any b 23 v) (h : DataW.Trod enc Tryd.prog w base spare held 23 v d p) : StrsIn w v := by
  obtain ⟨a0, len, cap, rfl⟩ := okWide_slice Tryd.underlying23 hk
  obtain ⟨fuel, hf⟩ := h
  have hC : Tryd.prog.cellsOf 9 = 1 := by kernel_rfl
  rcases Deep.open_slice1 Tryd.underlying23 hC hf with ⟨h0, _⟩ | ⟨a, len', cap', m, n, V, D, Pl, h0, _, hlc, hcm, hm, hd, hx⟩
  · have e : Value.slice a0 len cap = .slice none 0 0 := (List.cons.inj h0).1
    rw [e]
    exact ⟨[], ⟨(fun _ h => nomatch h), ⟨rfl, rfl, .inl ⟨rfl, rfl, rfl⟩⟩⟩⟩
  · have e : Value.slice a0 len cap = .slice (some a) len' cap' := (List.cons.inj h0).1
    rw [e]
    have hle : len' ≤ m := by rw [hm]; split <;> omega
    have hE : ∀ i, ∃ t : List Int, i < len' → bytesOk t ∧ w.cell? (a.add i) = some (.string (strOfNums t)) := by
      intro i
      by_cases hi : i < len'
      · obtain ⟨h1, h2⟩ := hx i (by omega)
        obtain ⟨s, hs, _, _⟩ := DataW.trod_string Tryd.underlying9 h2
        have hs' : V i = .string s := (List.cons.inj hs).1
        exact ⟨numsS s, fun _ => ⟨numsS_ok s, by rw [h1, hs', strOf_nums]⟩⟩
      · exact ⟨[], fun h => absurd h hi⟩
    obtain ⟨E, hE⟩ := Classical.axiomOfChoice hE
    refine ⟨(List.range len').map E, fun x hx => ?_, ?_⟩
    · obtain ⟨i, hi, rfl⟩ := List.mem_map.1 hx
      exact (hE i (by simpa using hi)).1
    · have hr := rd_flat (w := w) (a := a) (cap := cap') (E := E) cellT_len (by decide) cellT_one hlc (fun i hi j u hu => by
        have hj : j = 0 := by have := (List.getElem?_eq_some_iff.1 hu).1; simp [cellT] at this; exact this
        subst hj
        obtain rfl := Option.some.inj hu
        rw [Nat.mul_one, show (a.add i).add 0 = a.add i by simp [Addr.add]]
        exact (hE i hi).2)
      rw [List.length_map, List.length_range]
      exact hr
end
/-- The same text twice. -/
theorem t_strsameN {P : Program} {C : World → Prop} {tp : TypeId} {pos : String} {af : Array Edge} {gd : Option (Nat × Bool)} {ls : List Value} {ds : List Deferred} {c : Bool} {dd : Option Tmp} {ty ty' : TypeId} {x y : Operand} {a : ByteArray} (hx : EvC ls c x (.string a)) (hy : EvC ls c y (.string a)) : TIf P C c ⟨dd, .binOp .neq ty x y ty', tp, pos, af, gd⟩ ⟨ls.toArray, ds⟩ (.bool false) := by
  have := t_strne (P := P) (C := C) (tp := tp) (pos := pos) (af := af) (gd := gd) (ds := ds) (dd := dd) (ty := ty) (ty' := ty') hx hy
  rw [beq_self_eq_true] at this
  exact this
theorem RwIs.text {cur : Array Value} {ts : List (List Int)} {n cap i : Nat} {t : List Int} (h : RwIs 1 cur n cap (ts.flatMap cellT)) (hi : ts[i]? = some t) : cur.toList[i]? = some (.string (strOfNums t)) := by
  have := h.part.get i (.string (strOfNums t)) (by rw [flatT_at, hi]; rfl)
  rw [Nat.zero_add] at this
  rw [Array.getElem?_toList]; exact this
/-- Texts that are cut. -/
def cutT (m : Nat) (ts : List (List Int)) (k : Nat) : List (List Int) := (ts.take k).map (·.take m)
theorem cutT_more {m : Nat} {ts : List (List Int)} {k : Nat} {t : List Int} (h : ts[k]? = some t) : cutT m ts (k + 1) = cutT m ts k ++ [t.take m] := by
  unfold cutT; rw [List.take_add_one, h]; simp
theorem cutT_len {m : Nat} {ts : List (List Int)} {k : Nat} (h : k ≤ ts.length) : (cutT m ts k).length = k := by
  unfold cutT; rw [List.length_map, List.length_take]; omega
theorem cutT_ok {m : Nat} {ts : List (List Int)} {k : Nat} (h : ∀ t ∈ ts, bytesOk t) : ∀ t ∈ cutT m ts k, bytesOk t := by
  intro t ht
  obtain ⟨q, hq, rfl⟩ := List.mem_map.1 ht
  exact (h q (List.mem_of_mem_take hq)).take m
theorem cutT_short {m : Nat} {ts : List (List Int)} {k : Nat} : ∀ t ∈ cutT m ts k, t.length ≤ m := by
  intro t ht
  obtain ⟨q, _, rfl⟩ := List.mem_map.1 ht
  rw [List.length_take]; omega
theorem minE (m n : Nat) : (if (m : Int) < (n : Int) then (m : Int) else (n : Int)) = ((min n m : Nat) : Int) := by split <;> omega
theorem take_min (t : List Int) (m : Nat) : t.take (min t.length m) = t.take m := by
  rw [Nat.min_def]; split
  · rw [List.take_length, List.take_of_length_le (by omega)]
  · rfl
theorem cmp_selfS (a : Int) : cmpB .eql a a = some true := congrArg some (beq_self_eq_true a)
theorem cmp_nselfS (a : Int) : cmpB .neq a a = some false := congrArg some (by simp)
/-! ### Types -/
theorem tStrO : OneTy Tryd.prog 9 := .of Tryd.underlying9 rfl (by kernel_rfl)
theorem iStrO : (Tryd.prog.info? 9).map (·.size) = some 1 := by kernel_rfl
theorem tStrsB : SliceB Tryd.prog 23 9 1 16 := .of (z := .string ByteArray.empty) Tryd.underlying23 (by kernel_rfl) rfl (by decide)
theorem bStrs0 : BuiltS Tryd.prog 23 0 [] 9 #[] := ⟨fun w => by simp [go_sem]⟩
theorem bStrs1 (s : ByteArray) : BuiltS Tryd.prog 23 1 [(0, .string s)] 9 #[.string s] := ⟨fun w => by simp [go_sem]⟩
/-- A row of one text. -/
theorem rd_str {w0 w : World} {l : List RowT} {g : Nat} {e : TypeId} {t : List Int} (hR : Own w0 w l) (hm : (g, #[.string (strOfNums t)], e) ∈ l) : Rd w 1 (.slice (some ⟨g, 0, none⟩) 1 1) 1 (cellT t) := by
  have h : Sl e 1 [(g, #[.string (strOfNums t)], e)] (.slice (some ⟨g, 0, none⟩) 1 1) 1 (cellT t) := (RwIs.all rfl (by decide)).sl
  exact h.rd hR (fun x hx => by rw [List.mem_singleton.1 hx]; exact hm) (cellT_one t)
end Go.Proofs.YtjecckmcjcikdaaDoor
