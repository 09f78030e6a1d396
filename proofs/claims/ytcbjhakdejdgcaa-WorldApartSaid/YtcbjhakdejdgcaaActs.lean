



/- Acts of a law of layer 12, as an argument: a list of them. No statement of the seat is proved here. -/
import Derived.Test.YtcbjhakdejdgcaaEv
namespace Go.Proofs.Ytcbjhakdejdgcaa
open Go.ChangeShapes Go.WideShapes Go.ChangeAt Go.RowKit
set_option linter.unusedVariables false
set_option linter.unusedSimpArgs false

structure ActZ where
  what : Int
  n : Int
  v : Int
  wide : Bool
def ActZ.ok (e : ActZ) : Prop := (-9223372036854775808 ≤ e.what ∧ e.what ≤ 9223372036854775807) ∧ (0 ≤ e.n ∧ e.n ≤ 65535) ∧ (0 ≤ e.v ∧ e.v ≤ 65535)
def encA (e : ActZ) : Array Value := #[.int .i64 e.what, .int .u16 e.n, .int .u16 e.v, .bool e.wide]
def cellsA (e : ActZ) : List Value := (encA e).toList
def actL (l : List ActZ) : List Value := l.flatMap cellsA
theorem cellsA_len (e : ActZ) : (cellsA e).length = 4 := rfl
theorem cellsA_one (e : ActZ) : (cellsA e).all (·.oneCell') = true := by simp [cellsA, encA, Value.oneCell']
theorem iAct : (Try.prog.info? 29).map (·.size) = some 4 := by kernel_rfl
theorem tAct : RowTy Try.prog 29 4 := .of Try.underlying29 rfl iAct
theorem fAct (k : Nat) (h : k < 4) : FieldAt Try.prog 29 k k := by
  match k, h with
  | 0, _ => exact ⟨fun g w => by simp [go_sem, Instr.fieldAt, fieldPlace]⟩
  | 1, _ => exact ⟨fun g w => by simp [go_sem, Instr.fieldAt, fieldPlace]⟩
  | 2, _ => exact ⟨fun g w => by simp [go_sem, Instr.fieldAt, fieldPlace]⟩
  | 3, _ => exact ⟨fun g w => by simp [go_sem, Instr.fieldAt, fieldPlace]⟩
def ActsIn (w : World) (v : Value) : Prop := ∃ l : List ActZ, (∀ e ∈ l, e.ok) ∧ Rd w 4 v l.length (actL l)
section
variable {H : Type} {enc : TypeId × Value → H} {w : World} {base : Nat} {spare : Nat → Bool} {held : Bool}
theorem open_actEl {m : Nat} {cs : List Value} {x : DataW H × List MemPlace} (h : DataW.trod enc Try.prog w base spare held m 29 cs = some x) (hl : cs.length = 4) : ∃ e : ActZ, e.ok ∧ cs = cellsA e := by
  obtain ⟨ys, n, rfl, _, _, hy, hf⟩ := DataW.trod_struct Try.underlying29 h
  have c2 : Try.prog.cellsOf 3 = 1 := by kernel_rfl
  have c4 : Try.prog.cellsOf 27 = 1 := by kernel_rfl
  have c1 : Try.prog.cellsOf 4 = 1 := by kernel_rfl
  match cs, hl with
  | [x0, x1, x2, x3], _ =>
    have hy' : ys.length = 4 := hy
    have h0 : DataW.trod enc Try.prog w base spare held n 3 (([x0, x1, x2, x3].drop 0).take (Try.prog.cellsOf 3)) = ys[0]? := hf 0 _ rfl
    rw [c2] at h0
    have h1 : DataW.trod enc Try.prog w base spare held n 27 (([x0, x1, x2, x3].drop 1).take (Try.prog.cellsOf 27)) = ys[1]? := hf 1 _ rfl
    rw [c4] at h1
    have h2 : DataW.trod enc Try.prog w base spare held n 27 (([x0, x1, x2, x3].drop 2).take (Try.prog.cellsOf 27)) = ys[2]? := hf 2 _ rfl
    rw [c4] at h2
    have h3 : DataW.trod enc Try.prog w base spare held n 4 (([x0, x1, x2, x3].drop 3).take (Try.prog.cellsOf 4)) = ys[3]? := hf 3 _ rfl
    rw [c1] at h3
    obtain ⟨n0, rfl, w0⟩ := cell1 Try.underlying3 h0 (some_at hy' (by decide)) (x := x0) rfl
    obtain ⟨n1, rfl, w1⟩ := cell1 Try.underlying27 h1 (some_at hy' (by decide)) (x := x1) rfl
    obtain ⟨n2, rfl, w2⟩ := cell1 Try.underlying27 h2 (some_at hy' (by decide)) (x := x2) rfl
    obtain ⟨b3, rfl⟩ := cell1b Try.underlying4 h3 (some_at hy' (by decide)) (x := x3) rfl
    exact ⟨⟨n0, n1, n2, b3⟩, ⟨bounds_i64 w0, bounds_u16 w1, bounds_u16 w2⟩, rfl⟩
theorem open_acts {W : World} {b : Nat} {v : Value} {d : DataW H} {p : List MemPlace} (hk : Value.okWide Try.prog W .any b 23 v) (h : DataW.Trod enc Try.prog w base spare held 23 v d p) : ActsIn w v := by
  obtain ⟨a0, len, cap, rfl⟩ := okWide_slice Try.underlying23 hk
  obtain ⟨fuel, hf⟩ := h
  have hC : Try.prog.cellsOf 29 = 4 := by kernel_rfl
  rcases Deep.open_slice Try.underlying23 hf with ⟨h0, _⟩ | ⟨a, len', cap', m, n, D, Pl, h0, _, hlc, _, hm, _, hx⟩
  · have e : Value.slice a0 len cap = .slice none 0 0 := (List.cons.inj h0).1
    rw [e]
    exact ⟨[], (fun _ h => nomatch h), ⟨rfl, rfl, .inl ⟨rfl, rfl, rfl⟩⟩⟩
  · have e : Value.slice a0 len cap = .slice (some a) len' cap' := (List.cons.inj h0).1
    rw [e]
    have hle : len' ≤ m := by rw [hm]; split <;> omega
    have hE : ∀ i, ∃ z : ActZ, i < len' → z.ok ∧ ∀ j u, (cellsA z)[j]? = some u → w.cell? ((a.add (i * 4)).add j) = some u := by
      intro i
      by_cases hi : i < len'
      · obtain ⟨cs', h1, h2⟩ := hx i (by omega)
        rw [hC] at h1
        obtain ⟨_, hl, hat⟩ := World.cells?_some h1
        obtain ⟨z, hz, rfl⟩ := open_actEl h2 hl
        refine ⟨z, fun _ => ⟨hz, fun j u hu => ?_⟩⟩
        have hj : j < 4 := (List.getElem?_eq_some_iff.1 hu).1
        rw [hat j hj]; exact hu
      · exact ⟨⟨0, 0, 0, false⟩, fun h => absurd h hi⟩
    obtain ⟨E, hE⟩ := Classical.axiomOfChoice hE
    refine ⟨(List.range len').map E, mem_made fun i hi => (hE i hi).1, ?_⟩
    have hr := rd_flat (w := w) (a := a) (cap := cap') (E := E) cellsA_len (by decide) cellsA_one hlc (fun i hi => (hE i hi).2)
    rw [List.length_map, List.length_range]
    exact hr
end
theorem one_act (e : ActZ) : (encA e).all (·.oneCell') = true := by simp [encA, Value.oneCell']
theorem zAct : ZeroTy Try.prog 29 (encA ⟨0, 0, 0, false⟩) := .of (by kernel_rfl)
theorem put_act (x y : ActZ) : PutRel (encA x) 0 (encA y).toList (encA y) := putList_all rfl
end Go.Proofs.Ytcbjhakdejdgcaa
