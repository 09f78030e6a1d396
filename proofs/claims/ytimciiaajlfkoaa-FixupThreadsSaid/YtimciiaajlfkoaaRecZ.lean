/- Records as values, where their bytes lie elsewhere. No statement of the seat is proved here. -/
import Derived.Test.YtimciiaajlfkoaaFlat
import Derived.Test.YtimciiaajlfkoaaBase
import Derived.Test.YtimciiaajlfkoaaRecM
namespace Go.Proofs.Ytimciiaajlfkoaa
open Go.ChangeShapes Go.WideShapes Go.ChangeAt Go.RowKit
set_option linter.unusedVariables false
set_option linter.unusedSimpArgs false

theorem SrcW.shape {w : World} {v : Value} {bs : List Int} (h : SrcW w v bs) : ∃ a n c, v = .slice a n c := by
  rcases h.way with ⟨h1, _⟩ | ⟨a, cap, h1, _⟩
  · exact ⟨_, _, _, h1⟩
  · exact ⟨_, _, _, h1⟩
theorem SrcW.one {w : World} {v : Value} {bs : List Int} (h : SrcW w v bs) : v.oneCell' = true := by
  obtain ⟨a, n, c, rfl⟩ := h.shape; rfl
/-- A record: its kind, its bytes and where they lie. -/
structure RecZ where
  k : Int
  v : Value
  b : List Int
def RecZ.ok (w : World) (r : RecZ) : Prop := (0 ≤ r.k ∧ r.k ≤ 255) ∧ SrcW w r.v r.b ∧ r.b.length ≤ maxLen
def cellsRec (r : RecZ) : List Value := [.int .u8 r.k, r.v]
theorem cellsRec_len (r : RecZ) : (cellsRec r).length = 2 := rfl
/-- Records that lie somewhere. -/
structure Recs (w : World) (v : Value) (rs : List RecZ) : Prop where
  ok : ∀ r ∈ rs, r.ok w
  rd : Rd w 2 v rs.length (rs.flatMap cellsRec)
theorem RecZ.ok.keep {w w' : World} {r : RecZ} (h : r.ok w) (hb : Below w.heap.size w w') : r.ok w' := ⟨h.1, h.2.1.keep hb, h.2.2⟩
theorem Recs.keep {w w' : World} {v : Value} {rs : List RecZ} (h : Recs w v rs) (hb : Below w.heap.size w w') : Recs w' v rs := ⟨fun r hr => (h.ok r hr).keep hb, h.rd.keep hb⟩
theorem Recs.own {w0 w : World} {l : List RowT} {v : Value} {rs : List RecZ} (h : Recs w0 v rs) (hR : Own w0 w l) : Recs w v rs := h.keep hR.below
theorem cellsRec_one {w : World} {r : RecZ} (h : r.ok w) : (cellsRec r).all (·.oneCell') = true := by
  obtain ⟨a, n, c, hv⟩ := h.2.1.shape
  simp [cellsRec, hv, Value.oneCell']
theorem recs_one {w : World} : ∀ {rs : List RecZ}, (∀ r ∈ rs, r.ok w) → (rs.flatMap cellsRec).all (·.oneCell') = true
  | [], _ => rfl
  | r :: rs, h => by
    rw [List.flatMap_cons, List.all_append, cellsRec_one (h r (.head _)), recs_one fun x hx => h x (.tail _ hx)]; rfl
def RecZ.two (r : RecZ) : Int × List Int := (r.k, r.b)
def bigR (rs : List RecZ) : Bool := rs.any fun r => decide (4000 < r.b.length)
theorem bigR_not {rs : List RecZ} (h : ∀ r ∈ rs, r.b.length ≤ 4000) : bigR rs = false := by
  unfold bigR
  rw [List.any_eq_false]
  intro r hr
  have := h r hr
  simp; omega
theorem bigR_yes {rs : List RecZ} {r : RecZ} (h : r ∈ rs) (hb : 4000 < r.b.length) : bigR rs = true := by
  unfold bigR
  rw [List.any_eq_true]
  exact ⟨r, h, by simpa using hb⟩
/-- A row of records of the call's own. -/
theorem Sl.recs {w0 w : World} {l s : List RowT} {e : TypeId} {v : Value} {rs : List RecZ} (h : Sl e 2 s v rs.length (rs.flatMap cellsRec)) (hR : Own w0 w l) (hs : ∀ r ∈ s, r ∈ l) (hok : ∀ r ∈ rs, r.ok w) : Recs w v rs :=
  ⟨hok, h.rd hR hs (recs_one hok)⟩
/-- One of them. -/
theorem Recs.el {w : World} {v : Value} {rs : List RecZ} (h : Recs w v rs) {i : Nat} {r : RecZ} (hi : rs[i]? = some r) :
    ∃ a cap, v = .slice (some a) rs.length cap ∧ w.cell? ((a.add (i * 2)).add 0) = some (.int .u8 r.k) ∧ w.cell? ((a.add (i * 2)).add 1) = some r.v := by
  obtain ⟨a, cap, h1, h2⟩ := h.rd.el cellsRec_len hi
  exact ⟨a, cap, h1, h2 0 _ rfl, h2 1 _ rfl⟩
/-! ### A field's place, wherever the struct lies -/
structure FieldAtA (P : Program) (s : TypeId) (k off : Nat) : Prop where
  of : ∀ (a : Addr) (w : World), (Instr.fieldAt s (.pointer (some a)) k).run P w = .ok (.pointer (some (a.add off))) w
theorem t_fieldA {P : Program} {C : World → Prop} {tp : TypeId} {pos : String} {af : Array Edge} {gd : Option (Nat × Bool)} {ls : List Value} {ds : List Deferred} {c : Bool} {dd : Option Tmp} {s : TypeId} {f off : Nat} {x : Operand} {a : Addr} (hf : FieldAtA P s f off) (hx : EvC ls c x (.pointer (some a))) :
    TIf P C c ⟨dd, .fieldAddr s x f, tp, pos, af, gd⟩ ⟨ls.toArray, ds⟩ (.pointer (some (a.add off))) := by
  refine ⟨fun e => .inl fun w _ => ?_⟩
  unfold execOp
  simp only [eval_of (hx.of e), Sem.run_bind, hf.of a w, Result.andThen_ok, Sem.run_pure]
end Go.Proofs.Ytimciiaajlfkoaa
