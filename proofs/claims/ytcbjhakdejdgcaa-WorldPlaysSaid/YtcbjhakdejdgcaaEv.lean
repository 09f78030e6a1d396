



/- Events, as values, as lists of them, as arguments; what a law of layer 12 is handed (words, acts); where two lists of events part. No statement of the seat is proved here. -/
import Derived.Test.YtcbjhakdejdgcaaChecked
import Derived.Test.YtcbjhakdejdgcaaFlat
import Derived.Test.YtcbjhakdejdgcaaCell
import Derived.Test.YtcbjhakdejdgcaaSame
import Derived.Handy
import Derived.SizedLaws
namespace Go.Proofs.Ytcbjhakdejdgcaa
open Go.ChangeShapes Go.WideShapes Go.ChangeAt Go.RowKit
set_option linter.unusedVariables false
set_option linter.unusedSimpArgs false

structure EvZ where
  kind : Int
  n : Int
  v : Int
  a : Int
  b : Int
  c : Int
  d : Int
deriving DecidableEq
def EvZ.ok (e : EvZ) : Prop := (-9223372036854775808 ≤ e.kind ∧ e.kind ≤ 9223372036854775807) ∧ (0 ≤ e.n ∧ e.n ≤ 65535) ∧ (0 ≤ e.v ∧ e.v ≤ 65535) ∧ (0 ≤ e.a ∧ e.a ≤ 65535) ∧ (0 ≤ e.b ∧ e.b ≤ 65535) ∧ (0 ≤ e.c ∧ e.c ≤ 65535) ∧ (0 ≤ e.d ∧ e.d ≤ 65535)
def encE (e : EvZ) : Array Value := #[.int .i64 e.kind, .int .u16 e.n, .int .u16 e.v, .int .u16 e.a, .int .u16 e.b, .int .u16 e.c, .int .u16 e.d]
def zeroE : EvZ := ⟨0, 0, 0, 0, 0, 0, 0⟩
def cellsE (e : EvZ) : List Value := (encE e).toList
def evL (l : List EvZ) : List Value := l.flatMap cellsE
theorem cellsE_len (e : EvZ) : (cellsE e).length = 7 := rfl
theorem cellsE_one (e : EvZ) : (cellsE e).all (·.oneCell') = true := by simp [cellsE, encE, Value.oneCell']
theorem evL_len (l : List EvZ) : (evL l).length = l.length * 7 := flat_len cellsE_len l
theorem evL_one (l : List EvZ) : (evL l).all (·.oneCell') = true := flat_ones cellsE_one l
theorem evL_more (l : List EvZ) (e : EvZ) : evL l ++ (encE e).toList = evL (l ++ [e]) := by unfold evL; rw [List.flatMap_append]; simp [cellsE]
/-- Words. -/
def cellW (n : Int) : List Value := [.int .u16 n]
def wordL (l : List Int) : List Value := l.flatMap cellW
theorem cellW_len (n : Int) : (cellW n).length = 1 := rfl
theorem cellW_one (n : Int) : (cellW n).all (·.oneCell') = true := by simp [cellW, Value.oneCell']
theorem wordL_len (l : List Int) : (wordL l).length = l.length * 1 := flat_len cellW_len l
theorem wordL_one (l : List Int) : (wordL l).all (·.oneCell') = true := flat_ones cellW_one l
/-! ### Where two lists part -/
def apartFrom : Nat → List EvZ → List EvZ → Int
  | _, [], [] => -1
  | k, x :: l, y :: m => if x = y then apartFrom (k + 1) l m else k
  | k, _, _ => k
def apartL (l m : List EvZ) : Int := apartFrom 0 l m
theorem apartFrom_self : ∀ (l : List EvZ) (k : Nat), apartFrom k l l = -1
  | [], _ => rfl
  | x :: l, k => by simp only [apartFrom, if_true]; exact apartFrom_self l (k + 1)
theorem apart_self (l : List EvZ) : apartL l l = -1 := apartFrom_self l 0
theorem apartFrom_set : ∀ (l : List EvZ) (k i : Nat) (e x : EvZ), l[i]? = some x → apartFrom k l (l.set i e) = if x = e then -1 else ((k + i : Nat) : Int)
  | [], _, _, _, _, h => by simp at h
  | y :: l, k, 0, e, x, h => by
    obtain rfl := Option.some.inj h
    simp only [List.set_cons_zero, apartFrom]
    by_cases q : y = e
    · simp only [if_pos q]; exact apartFrom_self l _
    · simp only [if_neg q]; rfl
  | y :: l, k, i + 1, e, x, h => by
    simp only [List.set_cons_succ, apartFrom, if_true]
    rw [apartFrom_set l (k + 1) i e x (by simpa using h)]
    split
    · rfl
    · congr 1; omega
theorem apart_set {l : List EvZ} {i : Nat} {x : EvZ} (e : EvZ) (h : l[i]? = some x) : apartL l (l.set i e) = if x = e then -1 else (i : Int) := by
  have := apartFrom_set l 0 i e x h
  rw [Nat.zero_add] at this; exact this
theorem apartFrom_take : ∀ (l : List EvZ) (k i : Nat), apartFrom k l (l.take i) = if i < l.length then ((k + i : Nat) : Int) else -1
  | [], k, i => by simp [apartFrom]
  | y :: l, k, 0 => by simp [apartFrom]
  | y :: l, k, i + 1 => by
    simp only [List.take_succ_cons, apartFrom, if_true]
    rw [apartFrom_take l (k + 1) i]
    by_cases q : i < l.length
    · rw [if_pos q, if_pos (by simp; omega)]; congr 1; omega
    · rw [if_neg q, if_neg (by simp; omega)]
theorem apart_take (l : List EvZ) (i : Nat) : apartL l (l.take i) = if i < l.length then (i : Int) else -1 := by
  have := apartFrom_take l 0 i
  rw [Nat.zero_add] at this; exact this
/-! ### Types -/
theorem iEv : (Try.prog.info? 32).map (·.size) = some 7 := by kernel_rfl
theorem tEv : RowTy Try.prog 32 7 := .of Try.underlying32 rfl iEv
theorem tWordE : OneTy Try.prog 27 := .of Try.underlying27 rfl (by kernel_rfl)
theorem iWordE : (Try.prog.info? 27).map (·.size) = some 1 := by kernel_rfl
theorem tEvs : SliceK Try.prog 26 32 7 := .of (z := .agg (encE ⟨0, 0, 0, 0, 0, 0, 0⟩)) (b := 24) Try.underlying26 (by kernel_rfl) (by decide) rfl (by decide)
theorem tEvsB : SliceB Try.prog 26 32 7 24 := .of (z := .agg (encE ⟨0, 0, 0, 0, 0, 0, 0⟩)) Try.underlying26 (by kernel_rfl) rfl (by decide)
theorem tWordsB : SliceB Try.prog 22 27 1 2 := .of (z := .int .u16 0) Try.underlying22 (by kernel_rfl) rfl (by decide)
/-! ### Arguments -/
/-- Events, words that came in. -/
def EvsIn (w : World) (v : Value) : Prop := ∃ l : List EvZ, (∀ e ∈ l, e.ok) ∧ Rd w 7 v l.length (evL l)
/-- Words that came in, not too many for memory. -/
def WordsB (w : World) (v : Value) : Prop := ∃ l : List Int, (∀ n ∈ l, 0 ≤ n ∧ n ≤ 65535) ∧ Rd w 1 v l.length (wordL l) ∧ l.length * 2 ≤ 140737488351232
/-- An event, by value. -/
def EvIs (v : Value) : Prop := ∃ e : EvZ, e.ok ∧ v = .agg (encE e)
def WordsIn (w : World) (v : Value) : Prop := ∃ l : List Int, (∀ n ∈ l, 0 ≤ n ∧ n ≤ 65535) ∧ Rd w 1 v l.length (wordL l)
theorem mem_made {α : Type} {len : Nat} {E : Nat → α} {p : α → Prop} (h : ∀ i, i < len → p (E i)) : ∀ x ∈ (List.range len).map E, p x := by
  intro x hx
  obtain ⟨i, hi, rfl⟩ := List.mem_map.1 hx
  exact h i (by simpa using hi)
section
variable {H : Type} {enc : TypeId × Value → H} {w : World} {base : Nat} {spare : Nat → Bool} {held : Bool}
theorem open_wordsL {W : World} {b : Nat} {v : Value} {d : DataW H} {p : List MemPlace} (hk : Value.okWide Try.prog W .any b 22 v) (h : DataW.Trod enc Try.prog w base spare held 22 v d p) :
    ∃ l : List Int, (∀ n ∈ l, 0 ≤ n ∧ n ≤ 65535) ∧ Rd w 1 v l.length (wordL l) ∧ (l = [] ∨ ∃ el sp, d = .slice el sp ∧ el.length = l.length) := by
  obtain ⟨a0, len, cap, rfl⟩ := okWide_slice Try.underlying22 hk
  obtain ⟨fuel, hf⟩ := h
  have hC : Try.prog.cellsOf 27 = 1 := by kernel_rfl
  rcases Deep.open_slice1 Try.underlying22 hC hf with ⟨h0, _⟩ | ⟨a, len', cap', m, n, V, D, Pl, h0, _, hlc, hcm, hm, hd, hx⟩
  · have e : Value.slice a0 len cap = .slice none 0 0 := (List.cons.inj h0).1
    rw [e]
    exact ⟨[], (fun _ h => nomatch h), ⟨rfl, rfl, .inl ⟨rfl, rfl, rfl⟩⟩, .inl rfl⟩
  · have e : Value.slice a0 len cap = .slice (some a) len' cap' := (List.cons.inj h0).1
    rw [e]
    have hle : len' ≤ m := by rw [hm]; split <;> omega
    have hE : ∀ i, ∃ z : Int, i < len' → (0 ≤ z ∧ z ≤ 65535) ∧ w.cell? (a.add i) = some (.int .u16 z) := by
      intro i
      by_cases hi : i < len'
      · obtain ⟨h1, h2⟩ := hx i (by omega)
        obtain ⟨z, hz, wf⟩ := cell1 Try.underlying27 h2 rfl (x := V i) rfl
        exact ⟨z, fun _ => ⟨bounds_u16 wf, by rw [h1, hz]⟩⟩
      · exact ⟨0, fun h => absurd h hi⟩
    obtain ⟨E, hE⟩ := Classical.axiomOfChoice hE
    refine ⟨(List.range len').map E, mem_made fun i hi => (hE i hi).1, ?_, .inr ⟨_, _, (Prod.mk.inj hd).1, by simp⟩⟩
    have hr := rd_flat (w := w) (a := a) (cap := cap') (E := E) cellW_len (by decide) cellW_one hlc (fun i hi j u hu => by
      have hj : j = 0 := by have := (List.getElem?_eq_some_iff.1 hu).1; simp [cellW] at this; exact this
      subst hj
      obtain rfl := Option.some.inj hu
      rw [Nat.mul_one, show (a.add i).add 0 = a.add i by simp [Addr.add]]
      exact (hE i hi).2)
    rw [List.length_map, List.length_range]
    exact hr
theorem open_words {W : World} {b : Nat} {v : Value} {d : DataW H} {p : List MemPlace} (hk : Value.okWide Try.prog W .any b 22 v) (h : DataW.Trod enc Try.prog w base spare held 22 v d p) : WordsIn w v := by
  obtain ⟨l, h1, h2, _⟩ := open_wordsL hk h
  exact ⟨l, h1, h2⟩
/-- With what the form itself says of its size. -/
theorem open_wordsB {W : World} {b : Nat} {v : Value} {d : DataW H} {p : List MemPlace} (hk : Value.okWide Try.prog W .any b 22 v) (h : DataW.Trod enc Try.prog w base spare held 22 v d p)
    (hz : ∀ el sp, d = .slice el sp → (el.length + sp.length) * Try.prog.bytesOf 27 ≤ reachBytes) : WordsB w v := by
  obtain ⟨l, h1, h2, h3⟩ := open_wordsL hk h
  refine ⟨l, h1, h2, ?_⟩
  rcases h3 with rfl | ⟨el, sp, hd, hl⟩
  · simp
  · have h4 := hz el sp hd
    rw [show Try.prog.bytesOf 27 = 2 by kernel_rfl, show reachBytes = 140737488351232 from rfl] at h4
    omega
theorem open_evEl {m : Nat} {cs : List Value} {x : DataW H × List MemPlace} (h : DataW.trod enc Try.prog w base spare held m 32 cs = some x) (hl : cs.length = 7) : ∃ e : EvZ, e.ok ∧ cs = cellsE e := by
  obtain ⟨ys, n, rfl, _, _, hy, hf⟩ := DataW.trod_struct Try.underlying32 h
  have c2 : Try.prog.cellsOf 3 = 1 := by kernel_rfl
  have c4 : Try.prog.cellsOf 27 = 1 := by kernel_rfl
  match cs, hl with
  | [x0, x1, x2, x3, x4, x5, x6], _ =>
    have hy' : ys.length = 7 := hy
    have h0 : DataW.trod enc Try.prog w base spare held n 3 (([x0, x1, x2, x3, x4, x5, x6].drop 0).take (Try.prog.cellsOf 3)) = ys[0]? := hf 0 _ rfl
    rw [c2] at h0
    have h1 : DataW.trod enc Try.prog w base spare held n 27 (([x0, x1, x2, x3, x4, x5, x6].drop 1).take (Try.prog.cellsOf 27)) = ys[1]? := hf 1 _ rfl
    rw [c4] at h1
    have h2 : DataW.trod enc Try.prog w base spare held n 27 (([x0, x1, x2, x3, x4, x5, x6].drop 2).take (Try.prog.cellsOf 27)) = ys[2]? := hf 2 _ rfl
    rw [c4] at h2
    have h3 : DataW.trod enc Try.prog w base spare held n 27 (([x0, x1, x2, x3, x4, x5, x6].drop 3).take (Try.prog.cellsOf 27)) = ys[3]? := hf 3 _ rfl
    rw [c4] at h3
    have h4 : DataW.trod enc Try.prog w base spare held n 27 (([x0, x1, x2, x3, x4, x5, x6].drop 4).take (Try.prog.cellsOf 27)) = ys[4]? := hf 4 _ rfl
    rw [c4] at h4
    have h5 : DataW.trod enc Try.prog w base spare held n 27 (([x0, x1, x2, x3, x4, x5, x6].drop 5).take (Try.prog.cellsOf 27)) = ys[5]? := hf 5 _ rfl
    rw [c4] at h5
    have h6 : DataW.trod enc Try.prog w base spare held n 27 (([x0, x1, x2, x3, x4, x5, x6].drop 6).take (Try.prog.cellsOf 27)) = ys[6]? := hf 6 _ rfl
    rw [c4] at h6
    obtain ⟨n0, rfl, w0⟩ := cell1 Try.underlying3 h0 (some_at hy' (by decide)) (x := x0) rfl
    obtain ⟨n1, rfl, w1⟩ := cell1 Try.underlying27 h1 (some_at hy' (by decide)) (x := x1) rfl
    obtain ⟨n2, rfl, w2⟩ := cell1 Try.underlying27 h2 (some_at hy' (by decide)) (x := x2) rfl
    obtain ⟨n3, rfl, w3⟩ := cell1 Try.underlying27 h3 (some_at hy' (by decide)) (x := x3) rfl
    obtain ⟨n4, rfl, w4⟩ := cell1 Try.underlying27 h4 (some_at hy' (by decide)) (x := x4) rfl
    obtain ⟨n5, rfl, w5⟩ := cell1 Try.underlying27 h5 (some_at hy' (by decide)) (x := x5) rfl
    obtain ⟨n6, rfl, w6⟩ := cell1 Try.underlying27 h6 (some_at hy' (by decide)) (x := x6) rfl
    exact ⟨⟨n0, n1, n2, n3, n4, n5, n6⟩, ⟨bounds_i64 w0, bounds_u16 w1, bounds_u16 w2, bounds_u16 w3, bounds_u16 w4, bounds_u16 w5, bounds_u16 w6⟩, rfl⟩
theorem open_events {W : World} {b : Nat} {v : Value} {d : DataW H} {p : List MemPlace} (hk : Value.okWide Try.prog W .any b 26 v) (h : DataW.Trod enc Try.prog w base spare held 26 v d p) : EvsIn w v := by
  obtain ⟨a0, len, cap, rfl⟩ := okWide_slice Try.underlying26 hk
  obtain ⟨fuel, hf⟩ := h
  have hC : Try.prog.cellsOf 32 = 7 := by kernel_rfl
  rcases Deep.open_slice Try.underlying26 hf with ⟨h0, _⟩ | ⟨a, len', cap', m, n, D, Pl, h0, _, hlc, _, hm, _, hx⟩
  · have e : Value.slice a0 len cap = .slice none 0 0 := (List.cons.inj h0).1
    rw [e]
    exact ⟨[], (fun _ h => nomatch h), ⟨rfl, rfl, .inl ⟨rfl, rfl, rfl⟩⟩⟩
  · have e : Value.slice a0 len cap = .slice (some a) len' cap' := (List.cons.inj h0).1
    rw [e]
    have hle : len' ≤ m := by rw [hm]; split <;> omega
    have hE : ∀ i, ∃ z : EvZ, i < len' → z.ok ∧ ∀ j u, (cellsE z)[j]? = some u → w.cell? ((a.add (i * 7)).add j) = some u := by
      intro i
      by_cases hi : i < len'
      · obtain ⟨cs', h1, h2⟩ := hx i (by omega)
        rw [hC] at h1
        obtain ⟨_, hl, hat⟩ := World.cells?_some h1
        obtain ⟨z, hz, rfl⟩ := open_evEl h2 hl
        refine ⟨z, fun _ => ⟨hz, fun j u hu => ?_⟩⟩
        have hj : j < 7 := (List.getElem?_eq_some_iff.1 hu).1
        rw [hat j hj]; exact hu
      · exact ⟨⟨0, 0, 0, 0, 0, 0, 0⟩, fun h => absurd h hi⟩
    obtain ⟨E, hE⟩ := Classical.axiomOfChoice hE
    refine ⟨(List.range len').map E, mem_made fun i hi => (hE i hi).1, ?_⟩
    have hr := rd_flat (w := w) (a := a) (cap := cap') (E := E) cellsE_len (by decide) cellsE_one hlc (fun i hi => (hE i hi).2)
    rw [List.length_map, List.length_range]
    exact hr
theorem open_ev {w : World} {base : Nat} {v : Value} (h : Value.okWide Try.prog w .any base 32 v) : ∃ e : EvZ, e.ok ∧ v = .agg (encE e) := by
  obtain ⟨cs, rfl, hl, hc⟩ := open_flat (ts := [3, 27, 27, 27, 27, 27, 27]) Try.underlying32 rfl (by kernel_rfl) (by kernel_rfl) h
  match cs, hl with
  | [c0, c1, c2, c3, c4, c5, c6], _ =>
    obtain ⟨n0, rfl, b0⟩ := cell_int Try.underlying3 (hc 0 _ _ rfl rfl)
    obtain ⟨n1, rfl, b1⟩ := cell_int Try.underlying27 (hc 1 _ _ rfl rfl)
    obtain ⟨n2, rfl, b2⟩ := cell_int Try.underlying27 (hc 2 _ _ rfl rfl)
    obtain ⟨n3, rfl, b3⟩ := cell_int Try.underlying27 (hc 3 _ _ rfl rfl)
    obtain ⟨n4, rfl, b4⟩ := cell_int Try.underlying27 (hc 4 _ _ rfl rfl)
    obtain ⟨n5, rfl, b5⟩ := cell_int Try.underlying27 (hc 5 _ _ rfl rfl)
    obtain ⟨n6, rfl, b6⟩ := cell_int Try.underlying27 (hc 6 _ _ rfl rfl)
    exact ⟨⟨n0, n1, n2, n3, n4, n5, n6⟩, ⟨b0, b1, b2, b3, b4, b5, b6⟩, rfl⟩
/-- One, by value. -/
theorem open_evR {W : World} {b : Nat} {v : Value} {d : DataW H} {p : List MemPlace} (hk : Value.okWide Try.prog W .any b 32 v) (h : DataW.Trod enc Try.prog w base spare held 32 v d p) : EvIs v := open_ev hk
end
/-! ### '==' of two events -/
theorem eqB_ev (x y : EvZ) : eqB Try.prog 9 32 (.agg (encE x)) (.agg (encE y)) = some (decide (x = y)) := by
  have h : eqB Try.prog 9 32 (.agg (encE x)) (.agg (encE y)) = some ((x.kind == y.kind) && ((x.n == y.n) && ((x.v == y.v) && ((x.a == y.a) && ((x.b == y.b) && ((x.c == y.c) && ((x.d == y.d) && true))))))) := by kernel_rfl
  rw [h]
  congr 1
  rw [Bool.eq_iff_iff]
  obtain ⟨a0, a1, a2, a3, a4, a5, a6⟩ := x
  obtain ⟨b0, b1, b2, b3, b4, b5, b6⟩ := y
  simp
end Go.Proofs.Ytcbjhakdejdgcaa
