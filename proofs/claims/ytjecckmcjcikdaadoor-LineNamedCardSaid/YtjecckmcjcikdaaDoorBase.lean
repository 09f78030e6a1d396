



/- A base that is taken anew: what lay at one world, told of a later one; bytes that a call returns; the greater of two numbers, a part of a struct. No statement of the seat is proved here. -/
import Derived.Test.YtjecckmcjcikdaaDoorSrc
import Derived.Test.YtjecckmcjcikdaaDoorApp
namespace Go.Proofs.YtjecckmcjcikdaaDoor
open Go.ChangeShapes Go.WideShapes Go.ChangeAt Go.RowKit
set_option linter.unusedVariables false
set_option linter.unusedSimpArgs false

/-- A row, where it lies and what it holds. -/
structure At (w : World) (g : Nat) (cs : Array Value) (t : TypeId) : Prop where
  get : w.heap[g]? = some (.cells cs t (0, 0))
theorem At.keep {w w' : World} {g : Nat} {cs : Array Value} {t : TypeId} (h : At w g cs t) (hb : Below w.heap.size w w') : At w' g cs t :=
  ⟨by rw [hb.block g (Array.getElem?_eq_some_iff.1 h.get).1]; exact h.get⟩
theorem Own.at {w0 w : World} {l : List RowT} {g : Nat} {cs : Array Value} {t : TypeId} (h : Own w0 w l) (hm : (g, cs, t) ∈ l) : At w g cs t := ⟨h.get hm⟩
theorem SrcW.own {w0 w : World} {l : List RowT} {v : Value} {bs : List Int} (h : SrcW w0 v bs) (hR : Own w0 w l) : SrcW w v bs := h.keep hR.below
theorem At.own {w0 w : World} {l : List RowT} {g : Nat} {cs : Array Value} {t : TypeId} (h : At w0 g cs t) (hR : Own w0 w l) : At w g cs t := h.keep hR.below
/-- The world that the whole began with, and the base that is now. -/
structure Since (w0 wb : World) : Prop where
  below : Below w0.heap.size w0 wb
theorem Since.start (w : World) : Since w w := ⟨Below.refl _ w⟩
theorem Since.own {w0 wb w : World} {l : List RowT} (h : Since w0 wb) (hR : Own wb w l) : Since w0 w := ⟨below_more h.below hR.below⟩
theorem Own.fresh {w0 w : World} {l : List RowT} (h : Own w0 w l) : Own w w [] := Own.start w
/-- Bytes of the call's own. -/
theorem Sl.src {w0 w : World} {l s : List RowT} {e : TypeId} {n : Nat} {v : Value} {bs : List Int} (h : Sl e 1 s v n (cellsB bs)) (hR : Own w0 w l) (hs : ∀ r ∈ s, r ∈ l) (hb : bytesOk bs) : SrcW w v bs := by
  have hl := h.len
  rw [cellsB_len, Nat.mul_one] at hl
  rcases h.way with ⟨_, rfl, h0⟩ | ⟨g, cap, cur, rfl, rfl, h3, h4, h5, h6⟩
  · exact ⟨hb, .inl ⟨rfl, List.eq_nil_of_length_eq_zero (by omega)⟩⟩
  · exact .ofRw hR (hs _ (.head _)) ⟨h.len, h3, h4, h5, h6⟩ hb
theorem SrcW.none (w : World) : SrcW w (.slice none 0 0) [] := ⟨(fun _ h => nomatch h), .inl ⟨rfl, rfl⟩⟩
/-- Bytes that lie somewhere, as cells. -/
theorem SrcW.rd {w : World} {v : Value} {bs : List Int} (h : SrcW w v bs) : Rd w 1 v bs.length (cellsB bs) := by
  refine ⟨by rw [cellsB_len, Nat.mul_one], by unfold cellsB; rw [List.all_map]; exact List.all_eq_true.2 fun _ _ => rfl, ?_⟩
  rcases h.way with ⟨h1, h2⟩ | ⟨a, cap, h1, h2, h3⟩
  · subst h2; exact .inl ⟨h1, rfl, rfl⟩
  · refine .inr ⟨a, cap, h1, h2, fun j u hu => ?_⟩
    unfold cellsB at hu
    rw [List.getElem?_map] at hu
    cases hb : bs[j]? with
    | none => rw [hb] at hu; exact nomatch hu
    | some n => rw [hb] at hu; obtain rfl := Option.some.inj hu; exact h3 j n hb
/-- The first of them. -/
theorem SrcW.first {w : World} {v : Value} {bs : List Int} (h : SrcW w v bs) (k : Nat) (hk : k ≤ bs.length) : SrcW w (cutV v 0 k) (bs.take k) := by
  have h2 := h.cut 0 k (Nat.zero_le _) hk
  simpa using h2
/-- Bytes that lie in rows, whatever else there is. -/
def SrcR (sr : List RowT) (v : Value) (bs : List Int) : Prop := ∀ (w0 w : World) (l : List RowT), Own w0 w l → (∀ r ∈ sr, r ∈ l) → SrcW w v bs
theorem Sl.srcR {s : List RowT} {e : TypeId} {n : Nat} {v : Value} {bs : List Int} (h : Sl e 1 s v n (cellsB bs)) (hb : bytesOk bs) : SrcR s v bs := fun _ _ _ hR hs => h.src hR hs hb
/-- What a call returns holds bytes in new rows of its own. -/
def RetB (w w' : World) (F : Value → Value) (e : Ending) (bs : List Int) : Prop := ∃ s v, e = .returned (F v) ∧ Own w w' s ∧ SrcR s v bs
theorem RetB.now {w w' : World} {F : Value → Value} {e : Ending} {bs : List Int} (h : RetB w w' F e bs) : ∃ v, e = .returned (F v) ∧ Below w.heap.size w w' ∧ SrcW w' v bs := by
  obtain ⟨s, v, rfl, hO, hV⟩ := h
  exact ⟨v, rfl, hO.below, hV _ _ _ hO fun _ h => h⟩
section
variable {P : Program} {C : World → Prop} {tp : TypeId} {pos : String} {af : Array Edge} {gd : Option (Nat × Bool)} {ls : List Value} {ds : List Deferred} {c : Bool} {dd : Option Tmp}
theorem t_max {ts : Array TypeId} {x y : Operand} {q : IntKind} {a b : Int} (hx : EvC ls c x (.int q a)) (hy : EvC ls c y (.int q b)) : TIf P C c ⟨dd, .call ⟨.builtin .max, #[x, y], ts⟩, tp, pos, af, gd⟩ ⟨ls.toArray, ds⟩ (.int q (if a < b then b else a)) := by
  refine ⟨fun e => .inl fun w _ => ?_⟩
  unfold execOp
  simp [resolve, invoke, builtin, eval_of (hx.of e), eval_of (hy.of e), Builtin.max_, Builtin.max2]
theorem t_maxK {ts : Array TypeId} {x y : Operand} {q : IntKind} {a b m : Int} (hx : EvC ls c x (.int q a)) (hy : EvC ls c y (.int q b)) (hm : (if a < b then b else a) = m) : TIf P C c ⟨dd, .call ⟨.builtin .max, #[x, y], ts⟩, tp, pos, af, gd⟩ ⟨ls.toArray, ds⟩ (.int q m) := hm ▸ t_max hx hy
/-- A part of a struct that a call returned. -/
structure FieldVal (P : Program) (s : TypeId) (k : Nat) (cs : Array Value) (v : Value) : Prop where
  of : ∀ w, (Instr.field s (.agg cs) k).run P w = .ok v w
theorem t_fieldV {s : TypeId} {k : Nat} {cs : Array Value} {v : Value} {x : Operand} (hf : FieldVal P s k cs v) (hx : EvC ls c x (.agg cs)) : TIf P C c ⟨dd, .field s x k, tp, pos, af, gd⟩ ⟨ls.toArray, ds⟩ v := by
  refine ⟨fun e => .inl fun w _ => ?_⟩
  unfold execOp
  simp only [eval_of (hx.of e), Sem.run_bind, hf.of w, Result.andThen_ok, Sem.run_pure]
end
end Go.Proofs.YtjecckmcjcikdaaDoor
