






/- What is general about texts that read a source and hand a record back. No statement of the seat is proved here. -/
import Derived.Test.YtimciiaajlfkoaaRecT
import Derived.Test.YtimciiaajlfkoaaIdx
namespace Go.Proofs.Ytimciiaajlfkoaa
open Go.ChangeShapes Go.WideShapes Go.ChangeAt Go.RowKit
set_option linter.unusedVariables false
set_option linter.unusedSimpArgs false

theorem Upd.skipC {g : Nat} {c' : Array Value} {l l' : List RowT} (A : List RowT) (h : Upd g c' l l') : Upd g c' (A ++ l) (A ++ l') := by
  induction A with
  | nil => exact h
  | cons x A ih => exact .tail ih
theorem ret_two {p q : Value} {a b : Int} (h : p = q) (h' : a = b) : Ending.returned (.tuple #[p, .int .i64 a]) = .returned (.tuple #[q, .int .i64 b]) := by rw [h, h']
theorem src_start {w0 : World} {v : Value} {bs : List Int} (h : SrcW w0 v bs) : SrcIn w0 [] v bs := fun w l hO _ => h.own hO
theorem one_recC (k : Int) {e : TypeId} {m n : Nat} {s : List RowT} {v : Value} {xs : List Value} (h : Sl e m s v n xs) : (#[Value.int .u8 k, v] : Array Value).all (·.oneCell') = true := by
  obtain ⟨a, n, c, rfl⟩ := h.shapeIdx
  simp [Value.oneCell']
theorem bRecC (k : Int) {e : TypeId} {m n : Nat} {s : List RowT} {v : Value} {xs : List Value} (h : Sl e m s v n xs) : Built Try.prog 36 [(0, .int .u8 k), (1, v)] #[.int .u8 k, v] := by
  obtain ⟨a, n, c, rfl⟩ := h.shapeIdx
  exact bRecS k a n c
def lenV (v : Value) : Nat := match v with
  | .slice _ n _ => n
  | _ => 0
theorem Sl.lenV {e : TypeId} {k n : Nat} {s : List RowT} {v : Value} {xs : List Value} (h : Sl e k s v n xs) : lenV v = n := by
  rcases h.way with ⟨_, h1, h2⟩ | ⟨g, c, _, _, h1, _⟩
  · subst h1; exact h2.symm
  · subst h1; rfl
end Go.Proofs.Ytimciiaajlfkoaa
