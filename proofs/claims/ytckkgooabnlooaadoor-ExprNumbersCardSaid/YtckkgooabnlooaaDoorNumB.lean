/- Several texts in one, in their order of building; each begins with what it is. No statement of the seat is proved here. -/
import Derived.Test.YtckkgooabnlooaaDoorBase
import Derived.Test.YtckkgooabnlooaaDoorCell
import Derived.Test.YtckkgooabnlooaaDoorFlat
import Derived.Test.YtckkgooabnlooaaDoorChecked
import Derived.OpenShut
import Derived.Test.YtckkgooabnlooaaDoorReg30
import Derived.Test.YtckkgooabnlooaaDoorMem30
/- Lists of whole numbers: as a law's argument, read wherever they lie, in rows of a call's own. No statement of the seat is proved here. -/
namespace Go.Proofs.YtckkgooabnlooaaDoor
open Go.ChangeShapes Go.WideShapes Go.ChangeAt Go.RowKit
set_option linter.unusedVariables false
set_option linter.unusedSimpArgs false

def cellI (n : Int) : List Value := [.int .i64 n]
theorem cellI_len (n : Int) : (cellI n).length = 1 := rfl
theorem cellI_one (n : Int) : (cellI n).all (·.oneCell') = true := by simp [cellI, Value.oneCell']
/-- Numbers that lie somewhere. -/
def Ints (w : World) (v : Value) (l : List Int) : Prop := Rd w 1 v l.length (l.flatMap cellI)
theorem Ints.keep {w w' : World} {v : Value} {l : List Int} (h : Ints w v l) (hb : Below w.heap.size w w') : Ints w' v l := Rd.keep h hb
theorem Ints.own {w0 w : World} {l : List RowT} {v : Value} {xs : List Int} (h : Ints w0 v xs) (hR : Own w0 w l) : Ints w v xs := h.keep hR.below
theorem Ints.none (w : World) : Ints w (.slice none 0 0) [] := ⟨rfl, rfl, .inl ⟨rfl, rfl, rfl⟩⟩
theorem Ints.shape {w : World} {v : Value} {l : List Int} (h : Ints w v l) : ∃ a n c, v = .slice a n c := by
  rcases Rd.way h with ⟨h1, _⟩ | ⟨a, cap, h1, _⟩
  · exact ⟨_, _, _, h1⟩
  · exact ⟨_, _, _, h1⟩
theorem Ints.one {w : World} {v : Value} {l : List Int} (h : Ints w v l) : v.oneCell' = true := by
  obtain ⟨a, n, c, rfl⟩ := h.shape; rfl
theorem Ints.el {w : World} {v : Value} {l : List Int} (h : Ints w v l) {i : Nat} {n : Int} (hi : l[i]? = some n) : ∃ a cap, v = .slice (some a) l.length cap ∧ w.cell? (a.add i) = some (.int .i64 n) := by
  obtain ⟨a, cap, h1, h2⟩ := Rd.el cellI_len h hi
  have h3 := h2 0 _ rfl
  rw [Nat.mul_one, show (a.add i).add 0 = a.add i by simp [Addr.add]] at h3
  exact ⟨a, cap, h1, h3⟩
theorem Ints.cell {w : World} {a : Addr} {n cap : Nat} {l : List Int} (h : Ints w (.slice (some a) n cap) l) {i : Nat} {x : Int} (hi : l[i]? = some x) : w.cell? (a.add i) = some (.int .i64 x) := by
  obtain ⟨a', cap', h1, h2⟩ := h.el hi
  injection h1 with h3 h4 h5
  obtain rfl := Option.some.inj h3
  exact h2
theorem flatI_at (l : List Int) (i : Nat) : (l.flatMap cellI)[i]? = (l[i]?).map fun n => Value.int .i64 n := by
  have : l.flatMap cellI = l.map fun n => Value.int .i64 n := by
    induction l with
    | nil => rfl
    | cons x l ih => rw [List.flatMap_cons, ih]; rfl
  rw [this, List.getElem?_map]
theorem Sl.ints {w0 w : World} {l s : List RowT} {e : TypeId} {v : Value} {xs : List Int} (h : Sl e 1 s v xs.length (xs.flatMap cellI)) (hR : Own w0 w l) (hs : ∀ r ∈ s, r ∈ l) : Ints w v xs := h.rd hR hs (flat_ones cellI_one _)
theorem RwIs.num {cur : Array Value} {l : List Int} {n cap i : Nat} {x : Int} (h : RwIs 1 cur n cap (l.flatMap cellI)) (hi : l[i]? = some x) : cur.toList[i]? = some (.int .i64 x) := by
  have := h.part.get i (.int .i64 x) (by rw [flatI_at, hi]; rfl)
  rw [Nat.zero_add] at this
  rw [Array.getElem?_toList]; exact this
/-- Numbers that lie in rows. -/
def IntsR (sr : List RowT) (v : Value) (xs : List Int) : Prop := ∀ (w0 w : World) (l : List RowT), Own w0 w l → (∀ r ∈ sr, r ∈ l) → Ints w v xs
theorem Sl.intsR {s : List RowT} {e : TypeId} {v : Value} {xs : List Int} (h : Sl e 1 s v xs.length (xs.flatMap cellI)) : IntsR s v xs := fun _ _ _ hR hs => h.ints hR hs
def RetI (w w' : World) (F : Value → Value) (e : Ending) (xs : List Int) : Prop := ∃ s v, e = .returned (F v) ∧ Own w w' s ∧ IntsR s v xs
theorem RetI.now {w w' : World} {F : Value → Value} {e : Ending} {xs : List Int} (h : RetI w w' F e xs) : ∃ v, e = .returned (F v) ∧ Below w.heap.size w w' ∧ Ints w' v xs := by
  obtain ⟨s, v, rfl, hO, hV⟩ := h
  exact ⟨v, rfl, hO.below, hV _ _ _ hO fun _ h => h⟩
def IntsIn (w : World) (v : Value) : Prop := ∃ l : List Int, (∀ n ∈ l, -9223372036854775808 ≤ n ∧ n ≤ 9223372036854775807) ∧ Ints w v l
section
variable {H : Type} {enc : TypeId × Value → H} {w : World} {base : Nat} {spare : Nat → Bool} {held : Bool}
set_option maxRecDepth 100000 in
theorem open_i64s {W : World} {b : Nat} {v : Value} {d : DataW H} {p : List MemPlace} (hk : Value.okWide Tryd.prog W .any b 22 v) (h : DataW.Trod enc Tryd.prog w base spare held 22 v d p) : IntsIn w v := by
  obtain ⟨a0, len, cap, rfl⟩ := okWide_slice Tryd.underlying22 hk
  obtain ⟨fuel, hf⟩ := h
  have hC : Tryd.prog.cellsOf 3 = 1 := by kernel_rfl
  rcases Deep.open_slice1 Tryd.underlying22 hC hf with ⟨h0, _⟩ | ⟨a, len', cap', m, n, V, D, Pl, h0, _, hlc, hcm, hm, hd, hx⟩
  · have e : Value.slice a0 len cap = .slice none 0 0 := (List.cons.inj h0).1
    rw [e]
    exact ⟨[], (fun _ h => nomatch h), Ints.none w⟩
  · have e : Value.slice a0 len cap = .slice (some a) len' cap' := (List.cons.inj h0).1
    rw [e]
    have hle : len' ≤ m := by rw [hm]; split <;> omega
    have hE : ∀ i, ∃ z : Int, i < len' → (-9223372036854775808 ≤ z ∧ z ≤ 9223372036854775807) ∧ w.cell? (a.add i) = some (.int .i64 z) := by
      intro i
      by_cases hi : i < len'
      · obtain ⟨h1, h2⟩ := hx i (by omega)
        obtain ⟨z, hz, wf⟩ := cell1 Tryd.underlying3 h2 rfl (x := V i) rfl
        exact ⟨z, fun _ => ⟨bounds_i64 wf, by rw [h1, hz]⟩⟩
      · exact ⟨0, fun h => absurd h hi⟩
    obtain ⟨E, hE⟩ := Classical.axiomOfChoice hE
    refine ⟨(List.range len').map E, fun x hx => ?_, ?_⟩
    · obtain ⟨i, hi, rfl⟩ := List.mem_map.1 hx
      exact (hE i (by simpa using hi)).1
    · have hr := rd_flat (w := w) (a := a) (cap := cap') (E := E) cellI_len (by decide) cellI_one hlc (fun i hi j u hu => by
        have hj : j = 0 := by have := (List.getElem?_eq_some_iff.1 hu).1; simp [cellI] at this; exact this
        subst hj
        obtain rfl := Option.some.inj hu
        rw [Nat.mul_one, show (a.add i).add 0 = a.add i by simp [Addr.add]]
        exact (hE i hi).2)
      unfold Ints
      rw [List.length_map, List.length_range]
      exact hr
end
/-! ### Types -/
theorem tIntO : OneTy Tryd.prog 3 := .of Tryd.underlying3 rfl (by kernel_rfl)
theorem iIntO : (Tryd.prog.info? 3).map (·.size) = some 1 := by kernel_rfl
theorem tIntsO : OneTy Tryd.prog 22 := .of Tryd.underlying22 rfl (by kernel_rfl)
theorem tIntsB : SliceB Tryd.prog 22 3 1 8 := .of (z := .int .i64 0) Tryd.underlying22 (by kernel_rfl) rfl (by decide)
theorem bInts1 (n : Int) : BuiltS Tryd.prog 22 1 [(0, .int .i64 n)] 3 #[.int .i64 n] := ⟨fun w => by simp [go_sem]⟩
/-- A row of one number. -/
theorem rd_int {w0 w : World} {l : List RowT} {g : Nat} {e : TypeId} {n : Int} (hR : Own w0 w l) (hm : (g, #[.int .i64 n], e) ∈ l) : Rd w 1 (.slice (some ⟨g, 0, none⟩) 1 1) 1 (cellI n) := by
  have h : Sl e 1 [(g, #[.int .i64 n], e)] (.slice (some ⟨g, 0, none⟩) 1 1) 1 (cellI n) := (RwIs.all rfl (by decide)).sl
  exact h.rd hR (fun x hx => by rw [List.mem_singleton.1 hx]; exact hm) (cellI_one n)
end Go.Proofs.YtckkgooabnlooaaDoor
/- How the reader's model reads an expression of numbers, words and ( ): by strength. Mathematics alone. No statement of the seat is proved here. -/
namespace Go.Proofs.YtckkgooabnlooaaDoor
open Go.ChangeShapes Go.WideShapes Go.ChangeAt Go.RowKit
set_option linter.unusedVariables false
set_option linter.unusedSimpArgs false
set_option maxRecDepth 100000

/-- With fuel enough it comes to that. -/
def Reads (tb : TabZ) (j : Job) (s : St) (r : Rs PartZ) : Prop := ∃ n, ∀ m, n ≤ m → parseM tb m j s = r
section
variable {tb : TabZ} {s s1 s2 : St} {k : Int} {p q p' : PartZ} {r : Rs PartZ} {e : Int} {t : TokZ} {l : List TokZ}
theorem reads_step {j : Job} {n : Nat} (h : ∀ m, n ≤ m → stepM tb (parseM tb m) j s = r) : Reads tb j s r := by
  refine ⟨n + 1, fun m hm => ?_⟩
  obtain ⟨m', rfl⟩ : ∃ m', m = m' + 1 := ⟨m - 1, by omega⟩
  exact h m' (by omega)
theorem Reads.ex_ok (h1 : Reads tb .ah s (.ok p s1)) (h2 : Reads tb (.lo k p) s1 r) : Reads tb (.ex k) s r := by
  obtain ⟨n1, h1⟩ := h1
  obtain ⟨n2, h2⟩ := h2
  refine reads_step (n := max n1 n2) fun m hm => ?_
  show andThen (parseM tb m .ah s) (fun p s1 => parseM tb m (.lo k p) s1) = r
  rw [h1 m (by omega)]
  exact h2 m (by omega)
theorem Reads.ex_bad (h1 : Reads tb .ah s (.bad e)) : Reads tb (.ex k) s (.bad e) := by
  obtain ⟨n1, h1⟩ := h1
  refine reads_step (n := n1) fun m hm => ?_
  show andThen (parseM tb m .ah s) (fun p s1 => parseM tb m (.lo k p) s1) = .bad e
  rw [h1 m hm]
  rfl
/-- A piece that is no word ahead, nor a type, nor a register with a colon. -/
def plainT (t : TokZ) : Bool := !leadsZ t && !decide (t.k = 1)
theorem Reads.ah_on (hl : s.l = t :: l) (ht : plainT t = true) (h : Reads tb .on s r) : Reads tb .ah s r := by
  obtain ⟨n1, h⟩ := h
  refine reads_step (n := n1) fun m hm => ?_
  show aheadM (parseM tb m .ah) (parseM tb m .on) s = r
  have hn : nextZ s = t := by unfold nextZ; rw [hl]; rfl
  unfold plainT at ht
  simp only [Bool.and_eq_true, Bool.not_eq_true', decide_eq_false_iff_not] at ht
  have hs : segB s = false := by unfold segB; rw [hl]; simp [ht.2]
  unfold aheadM
  rw [hn, ht.1, hs, show (decide (t.k = 1) && !decide (pointedZ t.s = 0)) = false by simp [ht.2]]
  exact h m hm
def notIn (l : List TokZ) : Prop := isZ (l.headD noTok) 4 sIN = false
def numP (n : Int) : PartZ := valPart (numVZ n true)
theorem ol_stop (hl : notIn s.l) (m : Nat) : parseM tb (m + 1) (.ol p) s = .ok p s := by
  show (bif isZ (nextZ s) 4 sIN then _ else Rs.ok p s) = .ok p s
  rw [show isZ (nextZ s) 4 sIN = false from hl]
  rfl
theorem Reads.on_num {n : Nat} (hl : s.l = tkN n :: l) (hn : notIn l) : Reads tb .on s (.ok (numP (IntKind.i64.wrap n)) { s with l := l }) := by
  refine reads_step (n := 1) fun m hm => ?_
  obtain ⟨m', rfl⟩ : ∃ m', m = m' + 1 := ⟨m - 1, by omega⟩
  show andThen (firstM tb (parseM tb (m' + 1) (.ex 1)) s) (fun p s1 => parseM tb (m' + 1) (.ol p) s1) = _
  have hf : firstM tb (parseM tb (m' + 1) (.ex 1)) s = .ok (numP (IntKind.i64.wrap n)) { s with l := l } := by
    unfold firstM
    rw [hl]
    rfl
  rw [hf]
  exact ol_stop (s := { s with l := l }) hn m'
theorem first_par {ex : St → Rs PartZ} (hl : s.l = tkS 40 :: l) : firstM tb ex s = closeR (deepM ex { s with l := l }) := by
  unfold firstM
  rw [hl]
  rfl
theorem Reads.on_par (hl : s.l = tkS 40 :: l) (hd : ¬ 65536 < wrap64 (s.d + 1)) (h : Reads tb (.ex 1) (deepS { s with l := l }) (.ok p s2)) {l2 : List TokZ} (h2 : s2.l = tkS 41 :: l2) (hn : notIn l2) :
    Reads tb .on s (.ok p { upS' s2 with l := l2 }) := by
  obtain ⟨n1, h⟩ := h
  refine reads_step (n := max n1 1) fun m hm => ?_
  obtain ⟨m', rfl⟩ : ∃ m', m = m' + 1 := ⟨m - 1, by omega⟩
  show andThen (firstM tb (parseM tb (m' + 1) (.ex 1)) s) (fun p s1 => parseM tb (m' + 1) (.ol p) s1) = _
  have hf : firstM tb (parseM tb (m' + 1) (.ex 1)) s = .ok p { upS' s2 with l := l2 } := by
    rw [first_par hl]
    unfold deepM
    rw [if_neg hd, h (m' + 1) (by omega)]
    show mustM p (upS' s2) sCLOSE = _
    unfold mustM
    rw [show (upS' s2).l = tkS 41 :: l2 from h2]
    rfl
  rw [hf]
  exact ol_stop (s := { upS' s2 with l := l2 }) hn m'
theorem Reads.on_bad (hl : s.l = tkS 40 :: l) (hd : ¬ 65536 < wrap64 (s.d + 1)) (h : Reads tb (.ex 1) (deepS { s with l := l }) (.bad e)) : Reads tb .on s (.bad e) := by
  obtain ⟨n1, h⟩ := h
  refine reads_step (n := n1) fun m hm => ?_
  show andThen (firstM tb (parseM tb m (.ex 1)) s) (fun p s1 => parseM tb m (.ol p) s1) = _
  have hf : firstM tb (parseM tb m (.ex 1)) s = .bad e := by
    rw [first_par hl]
    unfold deepM
    rw [if_neg hd, h m (by omega)]
    rfl
  rw [hf]
  rfl
theorem Reads.lo_stop (h : strengthZ (nextZ s) < k) : Reads tb (.lo k p) s (.ok p s) := by
  refine reads_step (n := 0) fun m hm => ?_
  show (if strengthZ (nextZ s) < k then Rs.ok p s else _) = .ok p s
  rw [if_pos h]
theorem lo_go_step (hl : s.l = t :: l) (hk : ¬ strengthZ t < k) (m : Nat) : stepM tb (parseM tb m) (.lo k p) s = andThen (parseM tb m (.ex (strengthZ t + 1)) { s with l := l }) fun q s2 => meetR (togetherZ t.s p q) fun p' => parseM tb m (.lo k p') s2 := by
  obtain ⟨sl, sd, sm, si⟩ := s
  have hl' : sl = t :: l := hl
  subst hl'
  show (if strengthZ t < k then _ else _) = _
  rw [if_neg hk]
theorem Reads.lo_go (hl : s.l = t :: l) (hk : ¬ strengthZ t < k) (h1 : Reads tb (.ex (strengthZ t + 1)) { s with l := l } (.ok q s2)) (ht : togetherZ t.s p q = some p') (h2 : Reads tb (.lo k p') s2 r) : Reads tb (.lo k p) s r := by
  obtain ⟨n1, h1⟩ := h1
  obtain ⟨n2, h2⟩ := h2
  refine reads_step (n := max n1 n2) fun m hm => ?_
  rw [lo_go_step hl hk, h1 m (by omega)]
  show meetR (togetherZ t.s p q) _ = r
  rw [ht]
  exact h2 m (by omega)
theorem Reads.lo_bad (hl : s.l = t :: l) (hk : ¬ strengthZ t < k) (h1 : Reads tb (.ex (strengthZ t + 1)) { s with l := l } (.bad e)) : Reads tb (.lo k p) s (.bad e) := by
  obtain ⟨n1, h1⟩ := h1
  refine reads_step (n := n1) fun m hm => ?_
  rw [lo_go_step hl hk, h1 m (by omega)]
  rfl
theorem Reads.lo_none (hl : s.l = t :: l) (hk : ¬ strengthZ t < k) (h1 : Reads tb (.ex (strengthZ t + 1)) { s with l := l } (.ok q s2)) (ht : togetherZ t.s p q = none) : Reads tb (.lo k p) s (.bad 3) := by
  obtain ⟨n1, h1⟩ := h1
  refine reads_step (n := n1) fun m hm => ?_
  rw [lo_go_step hl hk, h1 m (by omega)]
  show meetR (togetherZ t.s p q) _ = _
  rw [ht]
  rfl
end
end Go.Proofs.YtckkgooabnlooaaDoor
/- Expressions of numbers, words and ( ) as trees: their pieces are read as the tree's value. Mathematics alone. No statement of the seat is proved here. -/
namespace Go.Proofs.YtckkgooabnlooaaDoor
open Go.ChangeShapes Go.WideShapes Go.ChangeAt Go.RowKit
set_option linter.unusedVariables false
set_option linter.unusedSimpArgs false
set_option maxRecDepth 100000

inductive ExZ where
  | num (n : Nat)
  | op (o : Nat) (l r : ExZ)
def opS : Nat → List Int
  | 0 => sOR
  | 1 => sXOR
  | 2 => sAND
  | 3 => sEQ
  | 4 => sNE
  | 5 => sLT
  | 6 => sGE
  | 7 => sPLUS
  | 8 => sMINUS
  | 9 => sSTAR
  | 10 => sMOD
  | _ => sSHL
def opT (o : Nat) : TokZ := if o = 7 ∨ o = 8 ∨ o = 9 then ⟨4, opS o, 0, 0⟩ else ⟨1, opS o, 0, 0⟩
def lvl : Nat → Int
  | 0 => 1
  | 1 => 1
  | 2 => 2
  | 3 => 3
  | 4 => 3
  | 5 => 3
  | 6 => 3
  | 7 => 4
  | 8 => 4
  | _ => 5
theorem op_ways {o : Nat} (h : o < 12) : o = 0 ∨ o = 1 ∨ o = 2 ∨ o = 3 ∨ o = 4 ∨ o = 5 ∨ o = 6 ∨ o = 7 ∨ o = 8 ∨ o = 9 ∨ o = 10 ∨ o = 11 := by omega
theorem str_op {o : Nat} (h : o < 12) : strengthZ (opT o) = lvl o := by
  rcases op_ways h with rfl | rfl | rfl | rfl | rfl | rfl | rfl | rfl | rfl | rfl | rfl | rfl <;> decide
theorem lvl_bd (o : Nat) : 1 ≤ lvl o ∧ lvl o ≤ 5 := by
  unfold lvl; split <;> omega
theorem op_notIn {o : Nat} (h : o < 12) (l : List TokZ) : notIn (opT o :: l) := by
  show isZ (opT o) 4 sIN = false
  rcases op_ways h with rfl | rfl | rfl | rfl | rfl | rfl | rfl | rfl | rfl | rfl | rfl | rfl <;> decide
theorem opT_s (o : Nat) : (opT o).s = opS o := by
  unfold opT; split <;> rfl
/-- What two numbers come to, perhaps with more bits. -/
def doE (o : Nat) (a b : Int) : Option Int :=
  if o = 7 then some (cutZ a + cutZ b) else if o = 8 then some (cutZ a + -(cutZ b)) else
  if (resZ (wordIx (opS o)) (cutZ (cutZ a)) (cutZ (cutZ b))).2 then some (resZ (wordIx (opS o)) (cutZ (cutZ a)) (cutZ (cutZ b))).1 else none
theorem done_num (k : Nat) (a b : Int) : doneZ k (numP a) (numP b) = if (resZ k (cutZ (cutZ a)) (cutZ (cutZ b))).2 then some (numP (resZ k (cutZ (cutZ a)) (cutZ (cutZ b))).1) else none := by
  show sureJoinZ (numP a) (numP b) (if (resZ k (cutZ (cutZ a)) (cutZ (cutZ b))).2 then (numVZ (resZ k (cutZ (cutZ a)) (cutZ (cutZ b))).1 true, true) else (zeroVal, false)) = _
  generalize (resZ k (cutZ (cutZ a)) (cutZ (cutZ b))).1 = c
  cases (resZ k (cutZ (cutZ a)) (cutZ (cutZ b))).2
  · kernel_rfl
  · kernel_rfl
theorem tog {o : Nat} (h : o < 12) (a b : Int) : togetherZ (opS o) (numP a) (numP b) = (doE o a b).map numP := by
  by_cases h7 : o = 7
  · subst h7; kernel_rfl
  by_cases h8 : o = 8
  · subst h8; kernel_rfl
  have e : togetherZ (opS o) (numP a) (numP b) = doneZ (wordIx (opS o)) (numP a) (numP b) := by
    rcases op_ways h with rfl | rfl | rfl | rfl | rfl | rfl | rfl | rfl | rfl | rfl | rfl | rfl <;> first | rfl | exact absurd rfl h7 | exact absurd rfl h8
  rw [e, done_num]
  unfold doE
  rw [if_neg h7, if_neg h8]
  split <;> rfl
def stE : ExZ → Int
  | .num _ => 9
  | .op o _ _ => lvl o
def parT (b : Bool) (l : List TokZ) : List TokZ := if b then tkS 40 :: (l ++ [tkS 41]) else l
def tkE : ExZ → List TokZ
  | .num n => [tkN n]
  | .op o l r => parT (decide (stE l < lvl o)) (tkE l) ++ opT o :: parT (decide (stE r ≤ lvl o)) (tkE r)
def valE : ExZ → Option Int
  | .num n => some (IntKind.i64.wrap n)
  | .op o l r => match valE l with
    | none => none
    | some a => match valE r with
      | none => none
      | some b => doE o a b
def depE : ExZ → Nat
  | .num _ => 0
  | .op _ l r => max (depE l) (depE r) + 1
def okE : ExZ → Prop
  | .num _ => True
  | .op o l r => o < 12 ∧ okE l ∧ okE r
theorem stE_bd (e : ExZ) : 1 ≤ stE e := by
  cases e with
  | num n => show (1 : Int) ≤ 9; omega
  | op o l r => exact (lvl_bd o).1
/-- An expression read from the state s: an error, or reading goes on behind it with its value. -/
def Comes (tb : TabZ) (k : Int) (v : Option Int) (s : St) (rest : List TokZ) (h : Nat) : Prop := match v with
  | none => Reads tb (.ex k) s (.bad 3)
  | some v => ∃ M : Int, M ≤ max s.m (s.d + h) ∧ ∀ r, Reads tb (.lo k (numP v)) ⟨rest, s.d, M, s.i⟩ r → Reads tb (.ex k) s r
theorem Comes.mono {tb : TabZ} {k : Int} {v : Option Int} {s : St} {rest : List TokZ} {h h' : Nat} (hc : Comes tb k v s rest h) (hh : h ≤ h') : Comes tb k v s rest h' := by
  cases v with
  | none => exact hc
  | some v =>
    obtain ⟨M, h1, h2⟩ := hc
    exact ⟨M, by omega, h2⟩
def TreeR (tb : TabZ) (e : ExZ) : Prop := ∀ (s : St) (rest : List TokZ) (k : Int), s.l = tkE e ++ rest → 0 ≤ s.d → s.d + depE e ≤ 1000 → 1 ≤ k → k ≤ stE e → strengthZ (rest.headD noTok) ≤ stE e → notIn rest → Comes tb k (valE e) s rest (depE e)
theorem part_reads {tb : TabZ} {e : ExZ} (H : TreeR tb e) (b : Bool) {s : St} {rest : List TokZ} {k : Int} (hl : s.l = parT b (tkE e) ++ rest) (hd : 0 ≤ s.d) (hd2 : s.d + depE e + 1 ≤ 1000) (hk : 1 ≤ k)
    (hb : b = false → k ≤ stE e ∧ strengthZ (rest.headD noTok) ≤ stE e) (hn : notIn rest) : Comes tb k (valE e) s rest (depE e + 1) := by
  cases b with
  | false => exact (H s rest k hl hd (by omega) hk (hb rfl).1 (hb rfl).2 hn).mono (by omega)
  | true =>
    have hl2 : s.l = tkS 40 :: (tkE e ++ tkS 41 :: rest) := by rw [hl]; simp [parT]
    have hw : wrap64 (s.d + 1) = s.d + 1 := IntWalk.wrap64_in _ (by omega)
    have hw2 : wrap64 (s.d + 1 - 1) = s.d := by rw [IntWalk.wrap64_in _ (by omega)]; omega
    have h0 : ¬ 65536 < wrap64 (s.d + 1) := by rw [hw]; omega
    have hp : plainT (tkS 40) = true := by decide
    have h1 := H (deepS { s with l := tkE e ++ tkS 41 :: rest }) (tkS 41 :: rest) 1 rfl (by show 0 ≤ wrap64 (s.d + 1); omega) (by show wrap64 (s.d + 1) + depE e ≤ 1000; omega) (by omega) (stE_bd e)
      (by show strengthZ (tkS 41) ≤ stE e; have := stE_bd e; have h : strengthZ (tkS 41) = 0 := by decide
          omega) (show isZ (tkS 41) 4 sIN = false by decide)
    cases hv : valE e with
    | none =>
      rw [hv] at h1
      exact Reads.ex_bad (Reads.ah_on hl2 hp (Reads.on_bad hl2 h0 h1))
    | some v =>
      rw [hv] at h1
      obtain ⟨M, hM, h2⟩ := h1
      have h3 := h2 _ (Reads.lo_stop (show strengthZ (tkS 41) < 1 by decide))
      have h4 := Reads.on_par hl2 h0 h3 (l2 := rest) rfl hn
      have e2 : ({ upS' ⟨tkS 41 :: rest, (deepS { s with l := tkE e ++ tkS 41 :: rest }).d, M, (deepS { s with l := tkE e ++ tkS 41 :: rest }).i⟩ with l := rest } : St) = ⟨rest, s.d, M, s.i⟩ := by
        show (⟨rest, wrap64 (wrap64 (s.d + 1) - 1), M, s.i⟩ : St) = _
        rw [hw, hw2]
      rw [e2] at h4
      refine ⟨M, ?_, fun r hr => Reads.ex_ok (Reads.ah_on hl2 hp h4) hr⟩
      have hM2 : M ≤ max (maxZ s.m (wrap64 (s.d + 1))) (wrap64 (s.d + 1) + depE e) := hM
      rw [hw] at hM2
      unfold maxZ at hM2
      split at hM2 <;> omega
theorem tree_reads (tb : TabZ) : ∀ (e : ExZ), okE e → TreeR tb e
  | .num n, _ => by
    intro s rest k hl hd hd2 hk1 hk hs hn
    have hp : plainT (tkN n) = true := rfl
    exact ⟨s.m, by omega, fun r hr => Reads.ex_ok (Reads.ah_on hl hp (Reads.on_num hl hn)) hr⟩
  | .op o l r, hok => by
    intro s rest k hl hd hd2 hk1 hk hs hn
    obtain ⟨ho, hol, hor⟩ := hok
    have hdl : depE l ≤ max (depE l) (depE r) := Nat.le_max_left _ _
    have hdr : depE r ≤ max (depE l) (depE r) := Nat.le_max_right _ _
    have hd3 : s.d + (max (depE l) (depE r) + 1 : Nat) ≤ 1000 := hd2
    have hk2 : k ≤ lvl o := hk
    have hs2 : strengthZ (rest.headD noTok) ≤ lvl o := hs
    have hb := lvl_bd o
    have hl2 : s.l = parT (decide (stE l < lvl o)) (tkE l) ++ (opT o :: (parT (decide (stE r ≤ lvl o)) (tkE r) ++ rest)) := by rw [hl]; simp [tkE]
    have h1 := (part_reads (tree_reads tb l hol) (decide (stE l < lvl o)) hl2 hd (by omega) hk1 (fun h => by
      have h' := of_decide_eq_false h
      exact ⟨by omega, by show strengthZ (opT o) ≤ stE l; rw [str_op ho]; omega⟩) (op_notIn ho _)).mono (show depE l + 1 ≤ max (depE l) (depE r) + 1 by omega)
    show Comes tb k (match valE l with
      | none => none
      | some a => match valE r with
        | none => none
        | some b => doE o a b) s rest (max (depE l) (depE r) + 1)
    cases hv : valE l with
    | none => rw [hv] at h1; exact h1
    | some a =>
      rw [hv] at h1
      obtain ⟨M1, hM1, h1⟩ := h1
      have hso := str_op ho
      have hnk : ¬ strengthZ (opT o) < k := by rw [hso]; omega
      have h2 := (part_reads (tree_reads tb r hor) (decide (stE r ≤ lvl o)) (s := ⟨parT (decide (stE r ≤ lvl o)) (tkE r) ++ rest, s.d, M1, s.i⟩) (rest := rest) (k := strengthZ (opT o) + 1) rfl hd (by show s.d + depE r + 1 ≤ 1000; omega) (by omega) (fun h => by
        have h' := of_decide_eq_false h
        exact ⟨by omega, by omega⟩) hn).mono (show depE r + 1 ≤ max (depE l) (depE r) + 1 by omega)
      dsimp only
      cases hw : valE r with
      | none =>
        rw [hw] at h2
        exact h1 _ (Reads.lo_bad rfl hnk h2)
      | some b =>
        rw [hw] at h2
        obtain ⟨M2, hM2, h2⟩ := h2
        have hM3 : M2 ≤ max M1 (s.d + (max (depE l) (depE r) + 1 : Nat)) := hM2
        have h3 := h2 _ (Reads.lo_stop (show strengthZ (rest.headD noTok) < strengthZ (opT o) + 1 by omega))
        have ht := tog ho a b
        rw [← opT_s o] at ht
        dsimp only
        cases hc : doE o a b with
        | none =>
          rw [hc] at ht
          exact h1 _ (Reads.lo_none rfl hnk h3 ht)
        | some c =>
          rw [hc] at ht
          exact ⟨M2, by omega, fun r hr => h1 _ (Reads.lo_go rfl hnk h3 ht hr)⟩
end Go.Proofs.YtckkgooabnlooaaDoor
/- Contracts of hansomref30's cut, truth, do. No statement of the seat is proved here. -/
namespace Go.Proofs.YtckkgooabnlooaaDoor
open Go.ChangeShapes Go.WideShapes Go.ChangeAt Go.RowKit
set_option linter.unusedVariables false
set_option linter.unusedSimpArgs false
set_option maxRecDepth 100000

def in32 (n : Int) : Prop := -2147483648 ≤ n ∧ n ≤ 2147483647
theorem cut_in {n : Int} (h : in32 n) : cutZ n = n := by obtain ⟨h1, h2⟩ := h; unfold cutZ; omega
theorem wrap_toInt (v : BitVec 64) : IntKind.i64.wrap (v.toNat : Int) = v.toInt := by
  rw [IntKind.wrap_i64, BitVec.toInt_eq_toNat_cond]
  have := v.isLt
  split <;> omega
theorem ext_in (z : BitVec 32) : in32 (z.signExtend 64).toInt := by
  rw [BitVec.toInt_signExtend_of_le (by decide), BitVec.toInt_eq_toNat_cond]
  have := z.isLt
  unfold in32
  split <;> omega
theorem ofInt_ext {a : Int} (h : in32 a) : BitVec.ofInt 64 a = (BitVec.ofInt 32 a).signExtend 64 := by
  obtain ⟨h1, h2⟩ := h
  apply BitVec.eq_of_toInt_eq
  rw [BitVec.toInt_signExtend_of_le (by decide), BitVec.toInt_ofInt, BitVec.toInt_ofInt]
  simp only [Int.bmod]
  omega
theorem and_in {a b : Int} (ha : in32 a) (hb : in32 b) : in32 (bits .and .i64 a b) := by
  show in32 (IntKind.i64.wrap ((BitVec.ofInt 64 a &&& BitVec.ofInt 64 b).toNat : Nat))
  rw [wrap_toInt, ofInt_ext ha, ofInt_ext hb, ← BitVec.signExtend_and]
  exact ext_in _
theorem or_in {a b : Int} (ha : in32 a) (hb : in32 b) : in32 (bits .or .i64 a b) := by
  show in32 (IntKind.i64.wrap ((BitVec.ofInt 64 a ||| BitVec.ofInt 64 b).toNat : Nat))
  rw [wrap_toInt, ofInt_ext ha, ofInt_ext hb, ← BitVec.signExtend_or]
  exact ext_in _
theorem xor_in {a b : Int} (ha : in32 a) (hb : in32 b) : in32 (bits .xor .i64 a b) := by
  show in32 (IntKind.i64.wrap ((BitVec.ofInt 64 a ^^^ BitVec.ofInt 64 b).toNat : Nat))
  rw [wrap_toInt, ofInt_ext ha, ofInt_ext hb, ← BitVec.signExtend_xor]
  exact ext_in _
theorem tmod_in {a b : Int} (ha : in32 a) : in32 (a.tmod b) := by
  obtain ⟨h1, h2⟩ := ha
  have h := Int.natAbs_tmod a b
  have h3 := Nat.mod_le a.natAbs b.natAbs
  rw [← h] at h3
  unfold in32
  rcases Int.le_total 0 a with h0 | h0
  · have := Int.tmod_nonneg b h0
    omega
  · have := Int.tmod_nonneg b (show 0 ≤ -a by omega)
    rw [Int.neg_tmod] at this
    omega
theorem cut_shl (a p : Int) : cutZ (a % 4294967296 * p % 4294967296) = cutZ (wrap64 (a * p)) := by
  rw [cutZ_w64]
  have h : a * p = 4294967296 * (a / 4294967296 * p) + a % 4294967296 * p := by
    rw [← Int.mul_assoc, ← Int.add_mul]
    congr 1
    omega
  rw [h]
  generalize a / 4294967296 * p = x
  generalize a % 4294967296 * p = y
  unfold cutZ
  omega
/-- What 'do' comes to, beside the model's own. -/
structure DoR (o : Nat) (a b n : Int) (ok : Bool) : Prop where
  num : in32 n
  val : ∀ c d, cutZ c = a → cutZ d = b → match doE o c d with
    | none => ok = false
    | some x => ok = true ∧ cutZ x = n
theorem doE_at {o : Nat} {a b c d : Int} (hc : cutZ c = a) (hd : cutZ d = b) : doE o c d = if o = 7 then some (a + b) else if o = 8 then some (a + -b) else
    if (resZ (wordIx (opS o)) a b).2 then some (resZ (wordIx (opS o)) a b).1 else none := by
  unfold doE
  rw [cutZ_cut, cutZ_cut, hc, hd]
theorem truth_in (b : Bool) : in32 (truthZ b) := by cases b <;> constructor <;> decide
theorem DoR.of {o : Nat} {a b n : Int} {x : Int} (h : ∀ c d, cutZ c = a → cutZ d = b → doE o c d = some x) (hn : cutZ x = n) : DoR o a b n true :=
  ⟨by rw [← hn]; exact cutZ_bd x, fun c d hc hd => by rw [h c d hc hd]; exact ⟨rfl, hn⟩⟩
theorem DoR.no {o : Nat} {a b n : Int} (h : ∀ c d, cutZ c = a → cutZ d = b → doE o c d = none) (hn : in32 n) : DoR o a b n false :=
  ⟨hn, fun c d hc hd => by rw [h c d hc hd]⟩
theorem cutR_any (n : Int) (w0 : World) : Calls Tryd.prog 25 #[.int .i64 n] w0 fun e w' => e = .returned (.int .i64 (cutZ n)) ∧ Below w0.heap.size w0 w' := by
  have hR := Own.start w0
  have HA := Lib.hid (show IntKind.i32.wrap n = cutZ n from i32_cutZ n)
  have HB := Lib.hid (show IntKind.i64.wrap (cutZ n) = cutZ n from i64_cutZ n)
  go_enter Tryd.func25, Tryd.ntmps25
  go_wp2_with (first
    | ((with_reducible apply q_ls hR); exact rfl; (with_reducible apply t_conv Tryd.underlying3 Tryd.underlying21); (apply EvC.now; exact rfl); exact HA.out; (simp only [cS, cZ]; exact rfl); clear hR; intro w hR)
    | ((with_reducible apply q_ls hR); exact rfl; (with_reducible apply t_conv Tryd.underlying21 Tryd.underlying3); (apply EvC.now; exact rfl); exact HB.out; (simp only [cS, cZ]; exact rfl); clear hR; intro w hR))
  go_ret
  exact ⟨rfl, hR.below⟩
theorem truthR_any (b : Bool) (w0 : World) : Calls Tryd.prog 24 #[.bool b] w0 fun e w' => e = .returned (.int .i64 (truthZ b)) ∧ Below w0.heap.size w0 w' := by
  cases b
  all_goals
    have hR := Own.start w0
    go_enter Tryd.func24, Tryd.ntmps24
    go_wp2_with fail
    go_ret
    exact ⟨rfl, hR.below⟩
def DoP (o : Nat) (a b : Int) (w0 : World) (e : Ending) (w' : World) : Prop := ∃ n ok, e = .returned (.tuple #[.int .i64 n, .bool ok]) ∧ Below w0.heap.size w0 w' ∧ DoR o a b n ok
set_option maxHeartbeats 400000 in
theorem do0_any {a b : Int} (ha : in32 a) (hb : in32 b) (w0 : World) : Calls Tryd.prog 17 #[.int .i64 0, .int .i64 a, .int .i64 b] w0 (DoP 0 a b w0) := by
  have hD : DoR 0 a b (bits .or .i64 a b) true := DoR.of (x := bits .or .i64 a b) (fun c d hc hd => by rw [doE_at hc hd]; rfl) (cut_in (or_in ha hb))
  have hR := Own.start w0
  go_enter Tryd.func17, Tryd.ntmps17
  go_wp2_with (first
      | ((with_reducible apply q_ls hR); exact rfl; (with_reducible apply t_numE); (apply EvC.now; exact rfl); (apply EvC.now; exact rfl); exact rfl; (with_reducible first | exact HJ.out | exact rfl); (simp only [cS, cZ]; exact rfl); clear hR; intro w hR)
      | ((with_reducible apply q_ls hR); exact rfl; (with_reducible apply t_shlE (k := j)); (apply EvC.now; exact rfl); (apply EvC.now; exact rfl); exact rfl; exact HJB.out; exact rfl; (simp only [cS, cZ]; exact rfl); clear hR; intro w hR)
      | ((with_reducible apply q_ls hR); exact rfl; (with_reducible apply t_cmp); (apply EvC.now; exact rfl); (apply EvC.now; exact rfl); (with_reducible first | exact HZ.out | exact rfl); (simp only [cS, cZ]; exact rfl); clear hR; intro w hR)
      | ((with_reducible apply q_ls hR); exact rfl; (with_reducible apply t_rem); (apply EvC.now; exact rfl); (apply EvC.now; exact rfl); exact HNZ.out; exact rfl; (simp only [cS, cZ]; exact rfl); clear hR; intro w hR)
      | ((with_reducible apply q_ls hR); exact rfl; (with_reducible apply t_conv Tryd.underlying3 Tryd.underlying38); (apply EvC.now; exact rfl); exact HCJ.out; (simp only [cS, cZ]; exact rfl); clear hR; intro w hR)
      | (go_at_call 25; refine (cutR_any _ _).mono ?_; rintro e w' ⟨rfl, hb⟩; replace hR := hR.grow hb; clear hb)
      | (go_at_call 24; refine (truthR_any _ _).mono ?_; rintro e w' ⟨rfl, hb⟩; replace hR := hR.grow hb; clear hb))
  go_ret2
  exact ⟨_, _, rfl, hR.below, hD⟩
set_option maxHeartbeats 400000 in
theorem do1_any {a b : Int} (ha : in32 a) (hb : in32 b) (w0 : World) : Calls Tryd.prog 17 #[.int .i64 1, .int .i64 a, .int .i64 b] w0 (DoP 1 a b w0) := by
  have hD : DoR 1 a b (bits .xor .i64 a b) true := DoR.of (x := bits .xor .i64 a b) (fun c d hc hd => by rw [doE_at hc hd]; rfl) (cut_in (xor_in ha hb))
  have hR := Own.start w0
  go_enter Tryd.func17, Tryd.ntmps17
  go_wp2_with (first
      | ((with_reducible apply q_ls hR); exact rfl; (with_reducible apply t_numE); (apply EvC.now; exact rfl); (apply EvC.now; exact rfl); exact rfl; (with_reducible first | exact HJ.out | exact rfl); (simp only [cS, cZ]; exact rfl); clear hR; intro w hR)
      | ((with_reducible apply q_ls hR); exact rfl; (with_reducible apply t_shlE (k := j)); (apply EvC.now; exact rfl); (apply EvC.now; exact rfl); exact rfl; exact HJB.out; exact rfl; (simp only [cS, cZ]; exact rfl); clear hR; intro w hR)
      | ((with_reducible apply q_ls hR); exact rfl; (with_reducible apply t_cmp); (apply EvC.now; exact rfl); (apply EvC.now; exact rfl); (with_reducible first | exact HZ.out | exact rfl); (simp only [cS, cZ]; exact rfl); clear hR; intro w hR)
      | ((with_reducible apply q_ls hR); exact rfl; (with_reducible apply t_rem); (apply EvC.now; exact rfl); (apply EvC.now; exact rfl); exact HNZ.out; exact rfl; (simp only [cS, cZ]; exact rfl); clear hR; intro w hR)
      | ((with_reducible apply q_ls hR); exact rfl; (with_reducible apply t_conv Tryd.underlying3 Tryd.underlying38); (apply EvC.now; exact rfl); exact HCJ.out; (simp only [cS, cZ]; exact rfl); clear hR; intro w hR)
      | (go_at_call 25; refine (cutR_any _ _).mono ?_; rintro e w' ⟨rfl, hb⟩; replace hR := hR.grow hb; clear hb)
      | (go_at_call 24; refine (truthR_any _ _).mono ?_; rintro e w' ⟨rfl, hb⟩; replace hR := hR.grow hb; clear hb))
  go_ret2
  exact ⟨_, _, rfl, hR.below, hD⟩
set_option maxHeartbeats 400000 in
theorem do2_any {a b : Int} (ha : in32 a) (hb : in32 b) (w0 : World) : Calls Tryd.prog 17 #[.int .i64 2, .int .i64 a, .int .i64 b] w0 (DoP 2 a b w0) := by
  have hD : DoR 2 a b (bits .and .i64 a b) true := DoR.of (x := bits .and .i64 a b) (fun c d hc hd => by rw [doE_at hc hd]; rfl) (cut_in (and_in ha hb))
  have hR := Own.start w0
  go_enter Tryd.func17, Tryd.ntmps17
  go_wp2_with (first
      | ((with_reducible apply q_ls hR); exact rfl; (with_reducible apply t_numE); (apply EvC.now; exact rfl); (apply EvC.now; exact rfl); exact rfl; (with_reducible first | exact HJ.out | exact rfl); (simp only [cS, cZ]; exact rfl); clear hR; intro w hR)
      | ((with_reducible apply q_ls hR); exact rfl; (with_reducible apply t_shlE (k := j)); (apply EvC.now; exact rfl); (apply EvC.now; exact rfl); exact rfl; exact HJB.out; exact rfl; (simp only [cS, cZ]; exact rfl); clear hR; intro w hR)
      | ((with_reducible apply q_ls hR); exact rfl; (with_reducible apply t_cmp); (apply EvC.now; exact rfl); (apply EvC.now; exact rfl); (with_reducible first | exact HZ.out | exact rfl); (simp only [cS, cZ]; exact rfl); clear hR; intro w hR)
      | ((with_reducible apply q_ls hR); exact rfl; (with_reducible apply t_rem); (apply EvC.now; exact rfl); (apply EvC.now; exact rfl); exact HNZ.out; exact rfl; (simp only [cS, cZ]; exact rfl); clear hR; intro w hR)
      | ((with_reducible apply q_ls hR); exact rfl; (with_reducible apply t_conv Tryd.underlying3 Tryd.underlying38); (apply EvC.now; exact rfl); exact HCJ.out; (simp only [cS, cZ]; exact rfl); clear hR; intro w hR)
      | (go_at_call 25; refine (cutR_any _ _).mono ?_; rintro e w' ⟨rfl, hb⟩; replace hR := hR.grow hb; clear hb)
      | (go_at_call 24; refine (truthR_any _ _).mono ?_; rintro e w' ⟨rfl, hb⟩; replace hR := hR.grow hb; clear hb))
  go_ret2
  exact ⟨_, _, rfl, hR.below, hD⟩
set_option maxHeartbeats 400000 in
theorem do3_any {a b : Int} (ha : in32 a) (hb : in32 b) (w0 : World) : Calls Tryd.prog 17 #[.int .i64 3, .int .i64 a, .int .i64 b] w0 (DoP 3 a b w0) := by
  have hD : DoR 3 a b (truthZ (a == b)) true := DoR.of (x := truthZ (decide (a = b))) (fun c d hc hd => by rw [doE_at hc hd]; rfl) (cut_in (truth_in _))
  have hR := Own.start w0
  go_enter Tryd.func17, Tryd.ntmps17
  go_wp2_with (first
      | ((with_reducible apply q_ls hR); exact rfl; (with_reducible apply t_numE); (apply EvC.now; exact rfl); (apply EvC.now; exact rfl); exact rfl; (with_reducible first | exact HJ.out | exact rfl); (simp only [cS, cZ]; exact rfl); clear hR; intro w hR)
      | ((with_reducible apply q_ls hR); exact rfl; (with_reducible apply t_shlE (k := j)); (apply EvC.now; exact rfl); (apply EvC.now; exact rfl); exact rfl; exact HJB.out; exact rfl; (simp only [cS, cZ]; exact rfl); clear hR; intro w hR)
      | ((with_reducible apply q_ls hR); exact rfl; (with_reducible apply t_cmp); (apply EvC.now; exact rfl); (apply EvC.now; exact rfl); (with_reducible first | exact HZ.out | exact rfl); (simp only [cS, cZ]; exact rfl); clear hR; intro w hR)
      | ((with_reducible apply q_ls hR); exact rfl; (with_reducible apply t_rem); (apply EvC.now; exact rfl); (apply EvC.now; exact rfl); exact HNZ.out; exact rfl; (simp only [cS, cZ]; exact rfl); clear hR; intro w hR)
      | ((with_reducible apply q_ls hR); exact rfl; (with_reducible apply t_conv Tryd.underlying3 Tryd.underlying38); (apply EvC.now; exact rfl); exact HCJ.out; (simp only [cS, cZ]; exact rfl); clear hR; intro w hR)
      | (go_at_call 25; refine (cutR_any _ _).mono ?_; rintro e w' ⟨rfl, hb⟩; replace hR := hR.grow hb; clear hb)
      | (go_at_call 24; refine (truthR_any _ _).mono ?_; rintro e w' ⟨rfl, hb⟩; replace hR := hR.grow hb; clear hb))
  go_ret2
  exact ⟨_, _, rfl, hR.below, hD⟩
set_option maxHeartbeats 400000 in
theorem do4_any {a b : Int} (ha : in32 a) (hb : in32 b) (w0 : World) : Calls Tryd.prog 17 #[.int .i64 4, .int .i64 a, .int .i64 b] w0 (DoP 4 a b w0) := by
  have hD : DoR 4 a b (truthZ (a != b)) true := DoR.of (x := truthZ (!decide (a = b))) (fun c d hc hd => by rw [doE_at hc hd]; rfl) (cut_in (truth_in _))
  have hR := Own.start w0
  go_enter Tryd.func17, Tryd.ntmps17
  go_wp2_with (first
      | ((with_reducible apply q_ls hR); exact rfl; (with_reducible apply t_numE); (apply EvC.now; exact rfl); (apply EvC.now; exact rfl); exact rfl; (with_reducible first | exact HJ.out | exact rfl); (simp only [cS, cZ]; exact rfl); clear hR; intro w hR)
      | ((with_reducible apply q_ls hR); exact rfl; (with_reducible apply t_shlE (k := j)); (apply EvC.now; exact rfl); (apply EvC.now; exact rfl); exact rfl; exact HJB.out; exact rfl; (simp only [cS, cZ]; exact rfl); clear hR; intro w hR)
      | ((with_reducible apply q_ls hR); exact rfl; (with_reducible apply t_cmp); (apply EvC.now; exact rfl); (apply EvC.now; exact rfl); (with_reducible first | exact HZ.out | exact rfl); (simp only [cS, cZ]; exact rfl); clear hR; intro w hR)
      | ((with_reducible apply q_ls hR); exact rfl; (with_reducible apply t_rem); (apply EvC.now; exact rfl); (apply EvC.now; exact rfl); exact HNZ.out; exact rfl; (simp only [cS, cZ]; exact rfl); clear hR; intro w hR)
      | ((with_reducible apply q_ls hR); exact rfl; (with_reducible apply t_conv Tryd.underlying3 Tryd.underlying38); (apply EvC.now; exact rfl); exact HCJ.out; (simp only [cS, cZ]; exact rfl); clear hR; intro w hR)
      | (go_at_call 25; refine (cutR_any _ _).mono ?_; rintro e w' ⟨rfl, hb⟩; replace hR := hR.grow hb; clear hb)
      | (go_at_call 24; refine (truthR_any _ _).mono ?_; rintro e w' ⟨rfl, hb⟩; replace hR := hR.grow hb; clear hb))
  go_ret2
  exact ⟨_, _, rfl, hR.below, hD⟩
set_option maxHeartbeats 400000 in
theorem do5_any {a b : Int} (ha : in32 a) (hb : in32 b) (w0 : World) : Calls Tryd.prog 17 #[.int .i64 5, .int .i64 a, .int .i64 b] w0 (DoP 5 a b w0) := by
  have hD : DoR 5 a b (truthZ (decide (a < b))) true := DoR.of (x := truthZ (decide (a < b))) (fun c d hc hd => by rw [doE_at hc hd]; rfl) (cut_in (truth_in _))
  have hR := Own.start w0
  go_enter Tryd.func17, Tryd.ntmps17
  go_wp2_with (first
      | ((with_reducible apply q_ls hR); exact rfl; (with_reducible apply t_numE); (apply EvC.now; exact rfl); (apply EvC.now; exact rfl); exact rfl; (with_reducible first | exact HJ.out | exact rfl); (simp only [cS, cZ]; exact rfl); clear hR; intro w hR)
      | ((with_reducible apply q_ls hR); exact rfl; (with_reducible apply t_shlE (k := j)); (apply EvC.now; exact rfl); (apply EvC.now; exact rfl); exact rfl; exact HJB.out; exact rfl; (simp only [cS, cZ]; exact rfl); clear hR; intro w hR)
      | ((with_reducible apply q_ls hR); exact rfl; (with_reducible apply t_cmp); (apply EvC.now; exact rfl); (apply EvC.now; exact rfl); (with_reducible first | exact HZ.out | exact rfl); (simp only [cS, cZ]; exact rfl); clear hR; intro w hR)
      | ((with_reducible apply q_ls hR); exact rfl; (with_reducible apply t_rem); (apply EvC.now; exact rfl); (apply EvC.now; exact rfl); exact HNZ.out; exact rfl; (simp only [cS, cZ]; exact rfl); clear hR; intro w hR)
      | ((with_reducible apply q_ls hR); exact rfl; (with_reducible apply t_conv Tryd.underlying3 Tryd.underlying38); (apply EvC.now; exact rfl); exact HCJ.out; (simp only [cS, cZ]; exact rfl); clear hR; intro w hR)
      | (go_at_call 25; refine (cutR_any _ _).mono ?_; rintro e w' ⟨rfl, hb⟩; replace hR := hR.grow hb; clear hb)
      | (go_at_call 24; refine (truthR_any _ _).mono ?_; rintro e w' ⟨rfl, hb⟩; replace hR := hR.grow hb; clear hb))
  go_ret2
  exact ⟨_, _, rfl, hR.below, hD⟩
set_option maxHeartbeats 400000 in
theorem do6_any {a b : Int} (ha : in32 a) (hb : in32 b) (w0 : World) : Calls Tryd.prog 17 #[.int .i64 6, .int .i64 a, .int .i64 b] w0 (DoP 6 a b w0) := by
  have hD : DoR 6 a b (truthZ (decide (b ≤ a))) true := DoR.of (x := truthZ (decide (b ≤ a))) (fun c d hc hd => by rw [doE_at hc hd]; rfl) (cut_in (truth_in _))
  have hR := Own.start w0
  go_enter Tryd.func17, Tryd.ntmps17
  go_wp2_with (first
      | ((with_reducible apply q_ls hR); exact rfl; (with_reducible apply t_numE); (apply EvC.now; exact rfl); (apply EvC.now; exact rfl); exact rfl; (with_reducible first | exact HJ.out | exact rfl); (simp only [cS, cZ]; exact rfl); clear hR; intro w hR)
      | ((with_reducible apply q_ls hR); exact rfl; (with_reducible apply t_shlE (k := j)); (apply EvC.now; exact rfl); (apply EvC.now; exact rfl); exact rfl; exact HJB.out; exact rfl; (simp only [cS, cZ]; exact rfl); clear hR; intro w hR)
      | ((with_reducible apply q_ls hR); exact rfl; (with_reducible apply t_cmp); (apply EvC.now; exact rfl); (apply EvC.now; exact rfl); (with_reducible first | exact HZ.out | exact rfl); (simp only [cS, cZ]; exact rfl); clear hR; intro w hR)
      | ((with_reducible apply q_ls hR); exact rfl; (with_reducible apply t_rem); (apply EvC.now; exact rfl); (apply EvC.now; exact rfl); exact HNZ.out; exact rfl; (simp only [cS, cZ]; exact rfl); clear hR; intro w hR)
      | ((with_reducible apply q_ls hR); exact rfl; (with_reducible apply t_conv Tryd.underlying3 Tryd.underlying38); (apply EvC.now; exact rfl); exact HCJ.out; (simp only [cS, cZ]; exact rfl); clear hR; intro w hR)
      | (go_at_call 25; refine (cutR_any _ _).mono ?_; rintro e w' ⟨rfl, hb⟩; replace hR := hR.grow hb; clear hb)
      | (go_at_call 24; refine (truthR_any _ _).mono ?_; rintro e w' ⟨rfl, hb⟩; replace hR := hR.grow hb; clear hb))
  go_ret2
  exact ⟨_, _, rfl, hR.below, hD⟩
set_option maxHeartbeats 400000 in
theorem do7_any {a b : Int} (ha : in32 a) (hb : in32 b) (w0 : World) : Calls Tryd.prog 17 #[.int .i64 7, .int .i64 a, .int .i64 b] w0 (DoP 7 a b w0) := by
  have hD : DoR 7 a b (cutZ (wrap64 (a + b))) true := DoR.of (x := a + b) (fun c d hc hd => by rw [doE_at hc hd]; rfl) ((cutZ_w64 _).symm)
  have hR := Own.start w0
  go_enter Tryd.func17, Tryd.ntmps17
  go_wp2_with (first
      | ((with_reducible apply q_ls hR); exact rfl; (with_reducible apply t_numE); (apply EvC.now; exact rfl); (apply EvC.now; exact rfl); exact rfl; (with_reducible first | exact HJ.out | exact rfl); (simp only [cS, cZ]; exact rfl); clear hR; intro w hR)
      | ((with_reducible apply q_ls hR); exact rfl; (with_reducible apply t_shlE (k := j)); (apply EvC.now; exact rfl); (apply EvC.now; exact rfl); exact rfl; exact HJB.out; exact rfl; (simp only [cS, cZ]; exact rfl); clear hR; intro w hR)
      | ((with_reducible apply q_ls hR); exact rfl; (with_reducible apply t_cmp); (apply EvC.now; exact rfl); (apply EvC.now; exact rfl); (with_reducible first | exact HZ.out | exact rfl); (simp only [cS, cZ]; exact rfl); clear hR; intro w hR)
      | ((with_reducible apply q_ls hR); exact rfl; (with_reducible apply t_rem); (apply EvC.now; exact rfl); (apply EvC.now; exact rfl); exact HNZ.out; exact rfl; (simp only [cS, cZ]; exact rfl); clear hR; intro w hR)
      | ((with_reducible apply q_ls hR); exact rfl; (with_reducible apply t_conv Tryd.underlying3 Tryd.underlying38); (apply EvC.now; exact rfl); exact HCJ.out; (simp only [cS, cZ]; exact rfl); clear hR; intro w hR)
      | (go_at_call 25; refine (cutR_any _ _).mono ?_; rintro e w' ⟨rfl, hb⟩; replace hR := hR.grow hb; clear hb)
      | (go_at_call 24; refine (truthR_any _ _).mono ?_; rintro e w' ⟨rfl, hb⟩; replace hR := hR.grow hb; clear hb))
  go_ret2
  exact ⟨_, _, rfl, hR.below, hD⟩
set_option maxHeartbeats 400000 in
theorem do8_any {a b : Int} (ha : in32 a) (hb : in32 b) (w0 : World) : Calls Tryd.prog 17 #[.int .i64 8, .int .i64 a, .int .i64 b] w0 (DoP 8 a b w0) := by
  have hD : DoR 8 a b (cutZ (wrap64 (a - b))) true := DoR.of (x := a + -b) (fun c d hc hd => by rw [doE_at hc hd]; rfl) (by rw [cutZ_w64, Int.sub_eq_add_neg])
  have hR := Own.start w0
  go_enter Tryd.func17, Tryd.ntmps17
  go_wp2_with (first
      | ((with_reducible apply q_ls hR); exact rfl; (with_reducible apply t_numE); (apply EvC.now; exact rfl); (apply EvC.now; exact rfl); exact rfl; (with_reducible first | exact HJ.out | exact rfl); (simp only [cS, cZ]; exact rfl); clear hR; intro w hR)
      | ((with_reducible apply q_ls hR); exact rfl; (with_reducible apply t_shlE (k := j)); (apply EvC.now; exact rfl); (apply EvC.now; exact rfl); exact rfl; exact HJB.out; exact rfl; (simp only [cS, cZ]; exact rfl); clear hR; intro w hR)
      | ((with_reducible apply q_ls hR); exact rfl; (with_reducible apply t_cmp); (apply EvC.now; exact rfl); (apply EvC.now; exact rfl); (with_reducible first | exact HZ.out | exact rfl); (simp only [cS, cZ]; exact rfl); clear hR; intro w hR)
      | ((with_reducible apply q_ls hR); exact rfl; (with_reducible apply t_rem); (apply EvC.now; exact rfl); (apply EvC.now; exact rfl); exact HNZ.out; exact rfl; (simp only [cS, cZ]; exact rfl); clear hR; intro w hR)
      | ((with_reducible apply q_ls hR); exact rfl; (with_reducible apply t_conv Tryd.underlying3 Tryd.underlying38); (apply EvC.now; exact rfl); exact HCJ.out; (simp only [cS, cZ]; exact rfl); clear hR; intro w hR)
      | (go_at_call 25; refine (cutR_any _ _).mono ?_; rintro e w' ⟨rfl, hb⟩; replace hR := hR.grow hb; clear hb)
      | (go_at_call 24; refine (truthR_any _ _).mono ?_; rintro e w' ⟨rfl, hb⟩; replace hR := hR.grow hb; clear hb))
  go_ret2
  exact ⟨_, _, rfl, hR.below, hD⟩
set_option maxHeartbeats 400000 in
theorem do9_any {a b : Int} (ha : in32 a) (hb : in32 b) (w0 : World) : Calls Tryd.prog 17 #[.int .i64 9, .int .i64 a, .int .i64 b] w0 (DoP 9 a b w0) := by
  have hD : DoR 9 a b (cutZ (wrap64 (a * b))) true := DoR.of (x := wrap64 (a * b)) (fun c d hc hd => by rw [doE_at hc hd]; rfl) (by rw [cutZ_w64])
  have hR := Own.start w0
  go_enter Tryd.func17, Tryd.ntmps17
  go_wp2_with (first
      | ((with_reducible apply q_ls hR); exact rfl; (with_reducible apply t_numE); (apply EvC.now; exact rfl); (apply EvC.now; exact rfl); exact rfl; (with_reducible first | exact HJ.out | exact rfl); (simp only [cS, cZ]; exact rfl); clear hR; intro w hR)
      | ((with_reducible apply q_ls hR); exact rfl; (with_reducible apply t_shlE (k := j)); (apply EvC.now; exact rfl); (apply EvC.now; exact rfl); exact rfl; exact HJB.out; exact rfl; (simp only [cS, cZ]; exact rfl); clear hR; intro w hR)
      | ((with_reducible apply q_ls hR); exact rfl; (with_reducible apply t_cmp); (apply EvC.now; exact rfl); (apply EvC.now; exact rfl); (with_reducible first | exact HZ.out | exact rfl); (simp only [cS, cZ]; exact rfl); clear hR; intro w hR)
      | ((with_reducible apply q_ls hR); exact rfl; (with_reducible apply t_rem); (apply EvC.now; exact rfl); (apply EvC.now; exact rfl); exact HNZ.out; exact rfl; (simp only [cS, cZ]; exact rfl); clear hR; intro w hR)
      | ((with_reducible apply q_ls hR); exact rfl; (with_reducible apply t_conv Tryd.underlying3 Tryd.underlying38); (apply EvC.now; exact rfl); exact HCJ.out; (simp only [cS, cZ]; exact rfl); clear hR; intro w hR)
      | (go_at_call 25; refine (cutR_any _ _).mono ?_; rintro e w' ⟨rfl, hb⟩; replace hR := hR.grow hb; clear hb)
      | (go_at_call 24; refine (truthR_any _ _).mono ?_; rintro e w' ⟨rfl, hb⟩; replace hR := hR.grow hb; clear hb))
  go_ret2
  exact ⟨_, _, rfl, hR.below, hD⟩
set_option maxHeartbeats 400000 in
theorem do10_any {a b : Int} (ha : in32 a) (hb : in32 b) (w0 : World) : Calls Tryd.prog 17 #[.int .i64 10, .int .i64 a, .int .i64 b] w0 (DoP 10 a b w0) := by
  by_cases h0 : b = 0
  · have HZ := Lib.hid (show cmpB .eql b 0 = some true from congrArg some (decide_eq_true h0))
    have hD : DoR 10 a b 0 false := DoR.no (fun c d hc hd => by rw [doE_at hc hd, h0]; rfl) ⟨by decide, by decide⟩
    have hR := Own.start w0
    go_enter Tryd.func17, Tryd.ntmps17
    go_wp2_with (first
        | ((with_reducible apply q_ls hR); exact rfl; (with_reducible apply t_numE); (apply EvC.now; exact rfl); (apply EvC.now; exact rfl); exact rfl; (with_reducible first | exact HJ.out | exact rfl); (simp only [cS, cZ]; exact rfl); clear hR; intro w hR)
        | ((with_reducible apply q_ls hR); exact rfl; (with_reducible apply t_shlE (k := j)); (apply EvC.now; exact rfl); (apply EvC.now; exact rfl); exact rfl; exact HJB.out; exact rfl; (simp only [cS, cZ]; exact rfl); clear hR; intro w hR)
        | ((with_reducible apply q_ls hR); exact rfl; (with_reducible apply t_cmp); (apply EvC.now; exact rfl); (apply EvC.now; exact rfl); (with_reducible first | exact HZ.out | exact rfl); (simp only [cS, cZ]; exact rfl); clear hR; intro w hR)
        | ((with_reducible apply q_ls hR); exact rfl; (with_reducible apply t_rem); (apply EvC.now; exact rfl); (apply EvC.now; exact rfl); exact HNZ.out; exact rfl; (simp only [cS, cZ]; exact rfl); clear hR; intro w hR)
        | ((with_reducible apply q_ls hR); exact rfl; (with_reducible apply t_conv Tryd.underlying3 Tryd.underlying38); (apply EvC.now; exact rfl); exact HCJ.out; (simp only [cS, cZ]; exact rfl); clear hR; intro w hR)
        | (go_at_call 25; refine (cutR_any _ _).mono ?_; rintro e w' ⟨rfl, hb⟩; replace hR := hR.grow hb; clear hb)
        | (go_at_call 24; refine (truthR_any _ _).mono ?_; rintro e w' ⟨rfl, hb⟩; replace hR := hR.grow hb; clear hb))
    go_ret2
    exact ⟨_, _, rfl, hR.below, hD⟩
  · have HZ := Lib.hid (show cmpB .eql b 0 = some false from congrArg some (decide_eq_false h0))
    have HNZ := Lib.hid h0
    have e : resZ 2 a b = (a.tmod b, true) := if_neg h0
    have hD : DoR 10 a b (a.tmod b) true := DoR.of (x := a.tmod b) (fun c d hc hd => by
      rw [doE_at hc hd]
      show (if (resZ 2 a b).2 then some (resZ 2 a b).1 else none) = _
      rw [e]; rfl) (cut_in (tmod_in ha))
    have hR := Own.start w0
    go_enter Tryd.func17, Tryd.ntmps17
    go_wp2_with (first
        | ((with_reducible apply q_ls hR); exact rfl; (with_reducible apply t_numE); (apply EvC.now; exact rfl); (apply EvC.now; exact rfl); exact rfl; (with_reducible first | exact HJ.out | exact rfl); (simp only [cS, cZ]; exact rfl); clear hR; intro w hR)
        | ((with_reducible apply q_ls hR); exact rfl; (with_reducible apply t_shlE (k := j)); (apply EvC.now; exact rfl); (apply EvC.now; exact rfl); exact rfl; exact HJB.out; exact rfl; (simp only [cS, cZ]; exact rfl); clear hR; intro w hR)
        | ((with_reducible apply q_ls hR); exact rfl; (with_reducible apply t_cmp); (apply EvC.now; exact rfl); (apply EvC.now; exact rfl); (with_reducible first | exact HZ.out | exact rfl); (simp only [cS, cZ]; exact rfl); clear hR; intro w hR)
        | ((with_reducible apply q_ls hR); exact rfl; (with_reducible apply t_rem); (apply EvC.now; exact rfl); (apply EvC.now; exact rfl); exact HNZ.out; exact rfl; (simp only [cS, cZ]; exact rfl); clear hR; intro w hR)
        | ((with_reducible apply q_ls hR); exact rfl; (with_reducible apply t_conv Tryd.underlying3 Tryd.underlying38); (apply EvC.now; exact rfl); exact HCJ.out; (simp only [cS, cZ]; exact rfl); clear hR; intro w hR)
        | (go_at_call 25; refine (cutR_any _ _).mono ?_; rintro e w' ⟨rfl, hb⟩; replace hR := hR.grow hb; clear hb)
        | (go_at_call 24; refine (truthR_any _ _).mono ?_; rintro e w' ⟨rfl, hb⟩; replace hR := hR.grow hb; clear hb))
    go_ret2
    exact ⟨_, _, rfl, hR.below, hD⟩
set_option maxHeartbeats 400000 in
theorem do11_any {a b : Int} (ha : in32 a) (hb : in32 b) (w0 : World) : Calls Tryd.prog 17 #[.int .i64 11, .int .i64 a, .int .i64 b] w0 (DoP 11 a b w0) := by
  obtain ⟨j, hj, hj2⟩ : ∃ j : Nat, b % 32 = (j : Int) ∧ j < 32 := ⟨(b % 32).toNat, by omega, by omega⟩
  have HJ := Lib.hid (show bits .and .i64 b 31 = (j : Int) from (i64_mask b 5 31 (by decide) (by decide)).trans hj)
  have HCJ := Lib.hid (show IntKind.u64.wrap (j : Int) = (j : Int) from IntWalk.u64_in _ (by omega))
  have HJB := Lib.hid (show j ≤ IntKind.i64.bits by show j ≤ 64; omega)
  have hjn : (b % 32).toNat = j := by omega
  by_cases h0 : b < 0
  · have HZ := Lib.hid (show cmpB .geq b 0 = some false from congrArg some (decide_eq_false (by omega)))
    have e : resZ 3 a b = (0, false) := if_pos h0
    have hD : DoR 11 a b (cutZ (wrap64 (a * 2 ^ j))) false := DoR.no (fun c d hc hd => by
      rw [doE_at hc hd]
      show (if (resZ 3 a b).2 then some (resZ 3 a b).1 else none) = _
      rw [e]; rfl) (cutZ_bd _)
    clear hj hj2 hjn h0 e
    have hR := Own.start w0
    go_enter Tryd.func17, Tryd.ntmps17
    go_wp2_with (first
        | ((with_reducible apply q_ls hR); exact rfl; (with_reducible apply t_numE); (apply EvC.now; exact rfl); (apply EvC.now; exact rfl); exact rfl; (with_reducible first | exact HJ.out | exact rfl); (simp only [cS, cZ]; exact rfl); clear hR; intro w hR)
        | ((with_reducible apply q_ls hR); exact rfl; (with_reducible apply t_shlE (k := j)); (apply EvC.now; exact rfl); (apply EvC.now; exact rfl); exact rfl; exact HJB.out; exact rfl; (simp only [cS, cZ]; exact rfl); clear hR; intro w hR)
        | ((with_reducible apply q_ls hR); exact rfl; (with_reducible apply t_cmp); (apply EvC.now; exact rfl); (apply EvC.now; exact rfl); (with_reducible first | exact HZ.out | exact rfl); (simp only [cS, cZ]; exact rfl); clear hR; intro w hR)
        | ((with_reducible apply q_ls hR); exact rfl; (with_reducible apply t_rem); (apply EvC.now; exact rfl); (apply EvC.now; exact rfl); exact HNZ.out; exact rfl; (simp only [cS, cZ]; exact rfl); clear hR; intro w hR)
        | ((with_reducible apply q_ls hR); exact rfl; (with_reducible apply t_conv Tryd.underlying3 Tryd.underlying38); (apply EvC.now; exact rfl); exact HCJ.out; (simp only [cS, cZ]; exact rfl); clear hR; intro w hR)
        | (go_at_call 25; refine (cutR_any _ _).mono ?_; rintro e w' ⟨rfl, hb⟩; replace hR := hR.grow hb; clear hb)
        | (go_at_call 24; refine (truthR_any _ _).mono ?_; rintro e w' ⟨rfl, hb⟩; replace hR := hR.grow hb; clear hb))
    go_ret2
    exact ⟨_, _, rfl, hR.below, hD⟩
  · have HZ := Lib.hid (show cmpB .geq b 0 = some true from congrArg some (decide_eq_true (by omega)))
    have e : resZ 3 a b = (a % 4294967296 * 2 ^ j % 4294967296, true) := by rw [← hjn]; exact if_neg h0
    have hD : DoR 11 a b (cutZ (wrap64 (a * 2 ^ j))) true := DoR.of (x := a % 4294967296 * 2 ^ j % 4294967296) (fun c d hc hd => by
      rw [doE_at hc hd]
      show (if (resZ 3 a b).2 then some (resZ 3 a b).1 else none) = _
      rw [e]; rfl) (cut_shl a _)
    clear hj hj2 hjn h0 e
    have hR := Own.start w0
    go_enter Tryd.func17, Tryd.ntmps17
    go_wp2_with (first
        | ((with_reducible apply q_ls hR); exact rfl; (with_reducible apply t_numE); (apply EvC.now; exact rfl); (apply EvC.now; exact rfl); exact rfl; (with_reducible first | exact HJ.out | exact rfl); (simp only [cS, cZ]; exact rfl); clear hR; intro w hR)
        | ((with_reducible apply q_ls hR); exact rfl; (with_reducible apply t_shlE (k := j)); (apply EvC.now; exact rfl); (apply EvC.now; exact rfl); exact rfl; exact HJB.out; exact rfl; (simp only [cS, cZ]; exact rfl); clear hR; intro w hR)
        | ((with_reducible apply q_ls hR); exact rfl; (with_reducible apply t_cmp); (apply EvC.now; exact rfl); (apply EvC.now; exact rfl); (with_reducible first | exact HZ.out | exact rfl); (simp only [cS, cZ]; exact rfl); clear hR; intro w hR)
        | ((with_reducible apply q_ls hR); exact rfl; (with_reducible apply t_rem); (apply EvC.now; exact rfl); (apply EvC.now; exact rfl); exact HNZ.out; exact rfl; (simp only [cS, cZ]; exact rfl); clear hR; intro w hR)
        | ((with_reducible apply q_ls hR); exact rfl; (with_reducible apply t_conv Tryd.underlying3 Tryd.underlying38); (apply EvC.now; exact rfl); exact HCJ.out; (simp only [cS, cZ]; exact rfl); clear hR; intro w hR)
        | (go_at_call 25; refine (cutR_any _ _).mono ?_; rintro e w' ⟨rfl, hb⟩; replace hR := hR.grow hb; clear hb)
        | (go_at_call 24; refine (truthR_any _ _).mono ?_; rintro e w' ⟨rfl, hb⟩; replace hR := hR.grow hb; clear hb))
    go_ret2
    exact ⟨_, _, rfl, hR.below, hD⟩
theorem do_any {o : Nat} (ho : o < 12) {a b : Int} (ha : in32 a) (hb : in32 b) (w0 : World) : Calls Tryd.prog 17 #[.int .i64 o, .int .i64 a, .int .i64 b] w0 (DoP o a b w0) := by
  rcases op_ways ho with rfl | rfl | rfl | rfl | rfl | rfl | rfl | rfl | rfl | rfl | rfl | rfl
  · exact do0_any ha hb w0
  · exact do1_any ha hb w0
  · exact do2_any ha hb w0
  · exact do3_any ha hb w0
  · exact do4_any ha hb w0
  · exact do5_any ha hb w0
  · exact do6_any ha hb w0
  · exact do7_any ha hb w0
  · exact do8_any ha hb w0
  · exact do9_any ha hb w0
  · exact do10_any ha hb w0
  · exact do11_any ha hb w0
end Go.Proofs.YtckkgooabnlooaaDoor
/- Contracts of hansomref30's Level, Ops. No statement of the seat is proved here. -/
namespace Go.Proofs.YtckkgooabnlooaaDoor
open Go.ChangeShapes Go.WideShapes Go.ChangeAt Go.RowKit
set_option linter.unusedVariables false
set_option linter.unusedSimpArgs false
set_option maxRecDepth 100000

theorem iIntL : (Tryd.prog.info? 3).map (·.size) = some 1 := by kernel_rfl
theorem bInt12 (a b c d e f g h i j k l : Int) : BuiltS Tryd.prog 22 12 [(0, .int .i64 a), (1, .int .i64 b), (2, .int .i64 c), (3, .int .i64 d), (4, .int .i64 e), (5, .int .i64 f), (6, .int .i64 g), (7, .int .i64 h), (8, .int .i64 i), (9, .int .i64 j), (10, .int .i64 k), (11, .int .i64 l)] 3 #[.int .i64 a, .int .i64 b, .int .i64 c, .int .i64 d, .int .i64 e, .int .i64 f, .int .i64 g, .int .i64 h, .int .i64 i, .int .i64 j, .int .i64 k, .int .i64 l] := ⟨fun w => by simp [go_sem]⟩
theorem bStr12 (a b c d e f g h i j k l : ByteArray) : BuiltS Tryd.prog 23 12 [(0, .string a), (1, .string b), (2, .string c), (3, .string d), (4, .string e), (5, .string f), (6, .string g), (7, .string h), (8, .string i), (9, .string j), (10, .string k), (11, .string l)] 9 #[.string a, .string b, .string c, .string d, .string e, .string f, .string g, .string h, .string i, .string j, .string k, .string l] := ⟨fun w => by simp [go_sem]⟩
set_option maxHeartbeats 1000000 in
theorem levelR_any {o : Nat} (ho : o < 12) (w0 : World) : Calls Tryd.prog 16 #[.int .i64 o] w0 fun e w' => e = .returned (.int .i64 (lvl o)) ∧ Below w0.heap.size w0 w' := by
  rcases op_ways ho with rfl | rfl | rfl | rfl | rfl | rfl | rfl | rfl | rfl | rfl | rfl | rfl
  all_goals
    have hR := Own.start w0
    go_enter Tryd.func16, Tryd.ntmps16
    go_wp2_with (first
    | ((with_reducible apply wpList_buildS hR); exact rfl; exact rfl; (exact bInt12 _ _ _ _ _ _ _ _ _ _ _ _); clear hR; intro g4 w hR; simp only [cS, cZ])
    | ((with_reducible apply q_ls hR); exact rfl; (with_reducible apply t_six Tryd.underlying22 iIntL); (apply EvC.now; exact rfl); (apply EvC.now; exact rfl); (constructor <;> decide); (simp only [cS, cZ]; exact rfl); clear hR; intro w hR)
    | ((with_reducible apply q_ls hR); exact rfl; ((with_reducible first | apply t_one tIntV) <;> (first | (focus (repeat (first | (apply EvC.gv; exact rfl; (with_reducible first | exact Imp.refl _ | (apply Imp.left; exact Imp.refl _) | (apply Imp.right; exact Imp.refl _) | (apply Imp.left; apply Imp.left; exact Imp.refl _))) | (apply EvC.now; exact rfl) | (with_reducible first | apply EvAll.cons | exact EvAll.nil))); done) | exact rfl | fail | (focus (repeat (first | apply List.Mem.head | apply List.Mem.tail | apply List.mem_append_right))))); (simp only [cS, cZ]; exact rfl); clear hR; intro w hR))
    go_ret
    exact ⟨rfl, hR.below⟩
def opsL : List (List Int) := [sOR, sXOR, sAND, sEQ, sNE, sLT, sGE, sPLUS, sMINUS, sSTAR, sMOD, sSHL]
theorem ops_at {o : Nat} (h : o < 12) : opsL[o]? = some (opS o) := by
  rcases op_ways h with rfl | rfl | rfl | rfl | rfl | rfl | rfl | rfl | rfl | rfl | rfl | rfl <;> rfl
theorem ops_ok : ∀ t ∈ opsL, bytesOk t := by
  intro t ht
  simp only [opsL, List.mem_cons, List.not_mem_nil, or_false] at ht
  rcases ht with rfl | rfl | rfl | rfl | rfl | rfl | rfl | rfl | rfl | rfl | rfl | rfl <;> exact ascii.ok (ascii_of rfl)
theorem op_tok {o : Nat} (h : o < 12) : TokIs (opS o) (opT o) := by
  rcases op_ways h with rfl | rfl | rfl | rfl | rfl | rfl | rfl | rfl | rfl | rfl | rfl | rfl
  all_goals first
    | exact .name (ascii.ok (ascii_of rfl)) (by decide)
    | exact .sign (by decide) (by decide) (by decide)
def opsC : Array Value := (opsL.flatMap cellT).toArray
theorem opsC_is : opsC = #[.string (strOfNums sOR), .string (strOfNums sXOR), .string (strOfNums sAND), .string (strOfNums sEQ), .string (strOfNums sNE), .string (strOfNums sLT), .string (strOfNums sGE), .string (strOfNums sPLUS), .string (strOfNums sMINUS), .string (strOfNums sSTAR), .string (strOfNums sMOD), .string (strOfNums sSHL)] := rfl
theorem opsC_at {o : Nat} (h : o < 12) : opsC[0 + (o : Int).toNat * 1]? = some (.string (strOfNums (opS o))) := by
  rcases op_ways h with rfl | rfl | rfl | rfl | rfl | rfl | rfl | rfl | rfl | rfl | rfl | rfl <;> rfl
theorem opsR_any (w0 : World) : Calls Tryd.prog 18 #[] w0 fun e w' => ∃ g, e = .returned (.slice (some ⟨g, 0, none⟩) 12 12) ∧ Own w0 w' [(g, opsC, 9)] := by
  have hR := Own.start w0
  go_enter Tryd.func18, Tryd.ntmps18
  go_wp2_with (first
    | ((with_reducible apply wpList_buildS hR); exact rfl; exact rfl; (exact bStr12 _ _ _ _ _ _ _ _ _ _ _ _); clear hR; intro gs w hR; simp only [cS, cZ]))
  go_ret
  exact ⟨_, rfl, hR⟩
end Go.Proofs.YtckkgooabnlooaaDoor
/- Contracts of strconv.Itoa below 100, and of hansomref30's cut, truth, Level. No statement of the seat is proved here. -/
namespace Go.Proofs.YtckkgooabnlooaaDoor
open Go.ChangeShapes Go.WideShapes Go.ChangeAt Go.RowKit
set_option linter.unusedVariables false
set_option linter.unusedSimpArgs false
set_option maxRecDepth 100000

def tenL : List Int := [48, 49, 50, 51, 52, 53, 54, 55, 56, 57, 97, 98, 99, 100, 101, 102, 103, 104, 105, 106, 107, 108, 109, 110, 111, 112, 113, 114, 115, 116, 117, 118, 119, 120, 121, 122]
def hunL : List Int := (List.range 100).flatMap fun n => [48 + ((n / 10 : Nat) : Int), 48 + ((n % 10 : Nat) : Int)]
theorem ten_at {n : Nat} (h : n < 10) : (tenL.drop n).take (n + 1 - n) = [48 + (n : Int)] := by
  have h2 : n = 0 ∨ n = 1 ∨ n = 2 ∨ n = 3 ∨ n = 4 ∨ n = 5 ∨ n = 6 ∨ n = 7 ∨ n = 8 ∨ n = 9 := by omega
  rcases h2 with rfl | rfl | rfl | rfl | rfl | rfl | rfl | rfl | rfl | rfl <;> rfl
theorem hun_all : ((List.range 100).all fun n => decide ((hunL.drop (2 * n)).take (2 * n + 2 - 2 * n) = [48 + ((n / 10 : Nat) : Int), 48 + ((n % 10 : Nat) : Int)])) = true := by kernel_rfl
theorem hun_at {n : Nat} (h : n < 100) : (hunL.drop (2 * n)).take (2 * n + 2 - 2 * n) = [48 + ((n / 10 : Nat) : Int), 48 + ((n % 10 : Nat) : Int)] := of_decide_eq_true (List.all_eq_true.1 hun_all n (List.mem_range.2 h))
set_option maxHeartbeats 400000 in
theorem small1_any {n : Nat} (hn : n < 10) (w0 : World) : Calls Tryd.prog 45 #[.int .i64 n] w0 fun e w' => e = .returned (.string (strOfNums [48 + (n : Int)])) ∧ Below w0.heap.size w0 w' := by
  have hR := Own.start w0
  have HL := Lib.hid (show cmpB .lss (n : Int) 10 = some true from congrArg some (decide_eq_true (by omega)))
  have HW := Lib.hid (show IntKind.i64.wrap ((n : Int) + 1) = ((n + 1 : Nat) : Int) by rw [IntWalk.i64_in _ (by omega)]; omega)
  have HM := Lib.hid (ten_at hn)
  have HB := Lib.hid (show n + 1 ≤ tenL.length by show n + 1 ≤ 36; omega)
  clear hn
  go_enter Tryd.func45, Tryd.ntmps45
  go_wp2_with (first
    | ((with_reducible apply q_ls hR); exact rfl; (with_reducible apply t_cmp (op := .lss)); (apply EvC.now; exact rfl); (apply EvC.now; exact rfl); exact HL.out; (simp only [cS, cZ]; exact rfl); clear hR; intro w hR)
    | ((with_reducible apply q_ls hR); exact rfl; (with_reducible apply t_numE); (apply EvC.now; exact rfl); (apply EvC.now; exact rfl); exact rfl; exact HW.out; (simp only [cS, cZ]; exact rfl); clear hR; intro w hR)
    | ((with_reducible apply q_ls hR); exact rfl; (with_reducible apply t_midE Tryd.underlying9 (ns := tenL) (a := n) (b := n + 1)); (exact lit_now (by kernel_rfl)); (apply EvC.now; exact rfl); (apply EvC.now; exact rfl); exact rfl; exact rfl; (exact Nat.le_succ _); exact HB.out; exact HM.out; (simp only [cS, cZ]; exact rfl); clear hR; intro w hR))
  go_ret
  exact ⟨rfl, hR.below⟩
set_option maxHeartbeats 400000 in
theorem small2_any {n : Nat} (hn : 10 ≤ n) (hn2 : n < 100) (w0 : World) : Calls Tryd.prog 45 #[.int .i64 n] w0 fun e w' => e = .returned (.string (strOfNums [48 + ((n / 10 : Nat) : Int), 48 + ((n % 10 : Nat) : Int)])) ∧ Below w0.heap.size w0 w' := by
  have hR := Own.start w0
  have HL := Lib.hid (show cmpB .lss (n : Int) 10 = some false from congrArg some (decide_eq_false (by omega)))
  have HW := Lib.hid (show IntKind.i64.wrap ((n : Int) * 2) = ((2 * n : Nat) : Int) by rw [IntWalk.i64_in _ (by omega)]; omega)
  have HV := Lib.hid (show IntKind.i64.wrap (((2 * n : Nat) : Int) + 2) = ((2 * n + 2 : Nat) : Int) by rw [IntWalk.i64_in _ (by omega)]; omega)
  have HM0 := hun_at hn2
  have HB0 : 2 * n + 2 ≤ hunL.length := by show 2 * n + 2 ≤ 200; omega
  have HC0 : 2 * n ≤ 2 * n + 2 := by omega
  clear hn hn2
  generalize n / 10 = a at *
  generalize n % 10 = b at *
  generalize 2 * n + 2 = u at *
  generalize 2 * n = v at *
  have HM := Lib.hid HM0
  have HB := Lib.hid HB0
  have HC := Lib.hid HC0
  clear HM0 HB0 HC0
  go_enter Tryd.func45, Tryd.ntmps45
  go_wp2_with (first
    | ((with_reducible apply q_ls hR); exact rfl; (with_reducible apply t_cmp (op := .lss)); (apply EvC.now; exact rfl); (apply EvC.now; exact rfl); exact HL.out; (simp only [cS, cZ]; exact rfl); clear hR; intro w hR)
    | ((with_reducible apply q_ls hR); exact rfl; (with_reducible apply t_numE); (apply EvC.now; exact rfl); (apply EvC.now; exact rfl); exact rfl; (with_reducible first | exact HW.out | exact HV.out); (simp only [cS, cZ]; exact rfl); clear hR; intro w hR)
    | ((with_reducible apply q_ls hR); exact rfl; (with_reducible apply t_midE Tryd.underlying9 (ns := hunL) (a := v) (b := u)); (exact lit_now (by kernel_rfl)); (apply EvC.now; exact rfl); (apply EvC.now; exact rfl); exact rfl; exact rfl; exact HC.out; exact HB.out; exact HM.out; (simp only [cS, cZ]; exact rfl); clear hR; intro w hR))
  go_ret
  exact ⟨rfl, hR.below⟩
theorem small_any {n : Nat} (hn : n < 100) (w0 : World) : Calls Tryd.prog 45 #[.int .i64 n] w0 fun e w' => e = .returned (.string (strOfNums (digsZ n))) ∧ Below w0.heap.size w0 w' := by
  by_cases h : n < 10
  · have e : digsZ n = [48 + (n : Int)] := if_pos h
    rw [e]; exact small1_any h w0
  · have e : digsZ n = [48 + ((n / 10 : Nat) : Int), 48 + ((n % 10 : Nat) : Int)] := if_neg h
    rw [e]; exact small2_any (by omega) hn w0
theorem formatI_any {n : Nat} (hn : n < 100) (w0 : World) : Calls Tryd.prog 31 #[.int .i64 n, .int .i64 10] w0 fun e w' => e = .returned (.string (strOfNums (digsZ n))) ∧ Below w0.heap.size w0 w' := by
  have hR := Own.start w0
  have HL := Lib.hid (show cmpB .leq 0 (n : Int) = some true from congrArg some (decide_eq_true (by omega)))
  have HH := Lib.hid (show cmpB .lss (n : Int) 100 = some true from congrArg some (decide_eq_true (by omega)))
  go_enter Tryd.func31, Tryd.ntmps31
  go_wp2_with (first
    | ((with_reducible apply q_ls hR); exact rfl; (with_reducible apply t_cmp); (apply EvC.now; exact rfl); (apply EvC.now; exact rfl); (with_reducible first | exact HL.out | exact HH.out); (simp only [cS, cZ]; exact rfl); clear hR; intro w hR)
    | (go_at_call 45; refine (small_any hn _).mono ?_; rintro e w' ⟨rfl, hb⟩; replace hR := hR.grow hb; clear hb))
  go_ret
  exact ⟨rfl, hR.below⟩
theorem itoaI_any {n : Nat} (hn : n < 100) (w0 : World) : Calls Tryd.prog 23 #[.int .i64 n] w0 fun e w' => e = .returned (.string (strOfNums (digsZ n))) ∧ Below w0.heap.size w0 w' := by
  have hR := Own.start w0
  go_enter Tryd.func23, Tryd.ntmps23
  go_wp2_with (first
    | (go_at_call 31; refine (formatI_any hn _).mono ?_; rintro e w' ⟨rfl, hb⟩; replace hR := hR.grow hb; clear hb))
  go_ret
  exact ⟨rfl, hR.below⟩
theorem itoa_any {n : Nat} (hn : n < 100) (w0 : World) : Calls Tryd.prog 15 #[.int .i64 n] w0 fun e w' => e = .returned (.string (strOfNums (digsZ n))) ∧ Below w0.heap.size w0 w' := by
  have hR := Own.start w0
  go_enter Tryd.func15, Tryd.ntmps15
  go_wp2_with (first
    | (go_at_call 23; refine (itoaI_any hn _).mono ?_; rintro e w' ⟨rfl, hb⟩; replace hR := hR.grow hb; clear hb))
  go_ret
  exact ⟨rfl, hR.below⟩
end Go.Proofs.YtckkgooabnlooaaDoor
/- The contract of hansomref30's Make: whatever the picks, a tree's pieces, its value, whether it has one, and how strong it is. No statement of the seat is proved here. -/
namespace Go.Proofs.YtckkgooabnlooaaDoor
open Go.ChangeShapes Go.WideShapes Go.ChangeAt Go.RowKit
set_option linter.unusedVariables false
set_option linter.unusedSimpArgs false
set_option maxRecDepth 100000

theorem results_tmp5 {fn : Func} {t u v x y : Tmp} (h : fn.results = #[.tmp t, .tmp u, .tmp v, .tmp x, .tmp y]) (tmps : Array Value) (P : Program) (w : World) :
    (results fn tmps).run P w = .ok (.tuple #[tmps.getD t undef, tmps.getD u undef, tmps.getD v undef, tmps.getD x undef, tmps.getD y undef]) w := by
  simp [results, h]
theorem sl_row {g : Nat} {c : Array Value} {ts : List (List Int)} {n : Nat} (hn : ts.length = n) (hc : c.toList = ts.flatMap cellT) (hl : n ≤ 1000) : Sl 9 1 [(g, c, 9)] (.slice (some ⟨g, 0, none⟩) n n) n (ts.flatMap cellT) := by
  subst hn
  have hlen : (ts.flatMap cellT).length = ts.length := by rw [flat_len cellT_len, Nat.mul_one]
  have hsz : c.size = ts.length := by rw [← hlen, ← hc]; simp
  exact ⟨by rw [hlen, Nat.mul_one], .inr ⟨g, ts.length, c, rfl, rfl, Nat.le_refl _, by simp [maxLen]; omega, by rw [hsz, Nat.mul_one], by rw [hc, Nat.mul_one]; exact List.take_of_length_le (by omega)⟩⟩
theorem castM {e : TypeId} {k n m : Nat} {s : List RowT} {v : Value} {xs ys : List Value} (h : Sl e k s v n xs) (hn : n = m) (hx : xs = ys) : Sl e k s v m ys := hn ▸ hx ▸ h
theorem are_app {a b : List (List Int)} {s t : List TokZ} (h1 : ToksAre a s) (h2 : ToksAre b t) : ToksAre (a ++ b) (s ++ t) := by
  induction h1 with
  | nil => exact h2
  | cons h _ ih => exact .cons h ih
theorem l35 : (⟨#[35]⟩ : ByteArray) = strOfNums [35] := rfl
theorem ok40 : ∀ t ∈ ([[40]] : List (List Int)), bytesOk t := by intro t ht; rw [List.mem_singleton.1 ht]; exact ascii.ok (ascii_of rfl)
theorem ok41 : ∀ t ∈ ([[41]] : List (List Int)), bytesOk t := by intro t ht; rw [List.mem_singleton.1 ht]; exact ascii.ok (ascii_of rfl)
theorem bStr0 : BuiltS Tryd.prog 23 0 [] 9 #[] := ⟨fun w => by simp [go_sem]⟩
/-- A list with brackets around it, if they are wanted. -/
def parW (b : Bool) (l : List (List Int)) : List (List Int) := if b then [[40]] ++ l ++ [[41]] else l
theorem par_are {b : Bool} {ws : List (List Int)} {ts : List TokZ} (h : ToksAre ws ts) : ToksAre (parW b ws) (parT b ts) := by
  cases b with
  | false => exact h
  | true => exact .cons (.sign (by decide) (by decide) (by decide)) (are_app h (.cons (.sign (by decide) (by decide) (by decide)) .nil))
theorem par_len (b : Bool) (ws : List (List Int)) : (parW b ws).length ≤ ws.length + 2 := by
  cases b with
  | false => exact Nat.le_add_right _ _
  | true => simp [parW]
def RelV (v : Option Int) (n : Int) (ok : Bool) : Prop := in32 n ∧ match v with
  | none => ok = false
  | some x => ok = true ∧ cutZ x = n
theorem rel_op {o : Nat} {l r : ExZ} {a b n : Int} {x y ok : Bool} (hl : RelV (valE l) a x) (hr : RelV (valE r) b y) (hd : DoR o a b n ok) : RelV (valE (.op o l r)) n ((ok && x) && y) := by
  refine ⟨hd.num, ?_⟩
  show match (match valE l with
    | none => none
    | some a => match valE r with
      | none => none
      | some b => doE o a b) with
    | none => ((ok && x) && y) = false
    | some z => ((ok && x) && y) = true ∧ cutZ z = n
  obtain ⟨_, hl⟩ := hl
  obtain ⟨_, hr⟩ := hr
  cases hvl : valE l with
  | none => rw [hvl] at hl; dsimp only at hl ⊢; rw [hl]; simp
  | some c =>
    rw [hvl] at hl
    obtain ⟨rfl, hc⟩ := hl
    cases hvr : valE r with
    | none => rw [hvr] at hr; dsimp only at hr ⊢; rw [hr]; simp
    | some d =>
      rw [hvr] at hr
      obtain ⟨rfl, hd2⟩ := hr
      have h := hd.val c d hc hd2
      dsimp only
      cases hdo : doE o c d with
      | none => rw [hdo] at h; dsimp only at h ⊢; rw [h]; rfl
      | some z => rw [hdo] at h; obtain ⟨rfl, hz⟩ := h; exact ⟨rfl, hz⟩
def lenB : Nat → Nat
  | 0 => 1
  | d + 1 => 2 * lenB d + 5
def szB : Nat → Nat
  | 0 => 1
  | d + 1 => 1 + 2 * szB d
def MakeP (d at0 : Nat) (w0 : World) (e : Ending) (w' : World) : Prop := ∃ (t : ExZ) (v : Value) (n : Int) (ok : Bool) (a : Nat) (ws : List (List Int)),
  e = .returned (.tuple #[v, .int .i64 n, .bool ok, .int .i64 (stE t), .int .i64 a]) ∧ Below w0.heap.size w0 w' ∧ okE t ∧ depE t ≤ d ∧ RelV (valE t) n ok ∧ Strs w' v ws ∧ ToksAre ws (tkE t) ∧ ws.length ≤ lenB d ∧ a ≤ at0 + szB d
set_option maxHeartbeats 1000000 in
theorem make0_any {w0 : World} {v : Value} {ks : List Int} (hK : Ints w0 v ks) (at0 : Nat) (hat : at0 + szB 0 ≤ 1000000) : Calls Tryd.prog 7 #[v, .int .i64 at0, .int .i64 0] w0 (MakeP 0 at0 w0) := by
    have hat2 : at0 + 1 ≤ 1000000 := hat
    by_cases hlt : at0 < ks.length
    · have HL := Lib.hid (show cmpB .lss (at0 : Int) (ks.length : Int) = some true from congrArg some (decide_eq_true (by omega)))
      obtain ⟨x, hx⟩ : ∃ x, ks[at0]? = some x := ⟨_, List.getElem?_eq_getElem hlt⟩
      obtain ⟨a, cap, rfl, hcell⟩ := Ints.el hK hx
      have HC := Lib.hid (show w0.cell? (a.add ((at0 : Int).toNat * 1)) = some (.int .i64 x) by rw [Nat.mul_one]; exact hcell)
      have HAB := Lib.hid (show (0 : Int) ≤ at0 ∧ (at0 : Int) < ks.length by omega)
      obtain ⟨p, hp0⟩ : ∃ p, x % 65536 = p := ⟨_, rfl⟩
      have hp : 0 ≤ p ∧ p < 65536 := by omega
      have HP := Lib.hid (show bits .and .i64 x 65535 = p from (i64_mask x 16 65535 (by decide) (by decide)).trans hp0)
      clear hcell hx hp0
      have HA1 := Lib.hid (show IntKind.i64.wrap ((at0 : Int) + 1) = ((at0 + 1 : Nat) : Int) by rw [IntWalk.i64_in _ (by omega)]; omega)
      obtain ⟨m, hm, hm64⟩ : ∃ m : Nat, p / 4 % 64 = (m : Int) ∧ m < 64 := ⟨(p / 4 % 64).toNat, by omega, by omega⟩
      have HSH := Lib.hid (show p / 2 ^ 2 = p / 4 from rfl)
      have HM := Lib.hid (show bits .and .i64 (p / 4) 63 = (m : Int) from (i64_mask (p / 4) 6 63 (by decide) (by decide)).trans hm)
      have HQ := Lib.hid (show bits .and .i64 p 3 = p % 4 from i64_mask p 2 3 (by decide) (by decide))
      have HM100 := Lib.hid (show m < 100 by omega)
      have HCT := Lib.hid (show [(35 : Int)].length + (digsZ m).length ≤ 1000000 by unfold digsZ; split <;> simp)
      have hrel : RelV (valE (.num m)) (m : Int) true := by
        have hw : IntKind.i64.wrap (m : Int) = m := IntWalk.i64_in _ (by omega)
        refine ⟨⟨by omega, by omega⟩, ?_⟩
        show true = true ∧ cutZ (IntKind.i64.wrap (m : Int)) = m
        rw [hw]
        exact ⟨rfl, cut_in ⟨by omega, by omega⟩⟩
      have hare : ToksAre [35 :: digsZ m] (tkE (.num m)) := .cons (.num (digs_z (by omega))) .nil
      have hlen : [35 :: digsZ m].length ≤ lenB 0 := Nat.le_refl 1
      have hsz : at0 + 1 ≤ at0 + szB 0 := Nat.le_refl _
      have hR := Own.start w0
      go_enter Tryd.func7, Tryd.ntmps7
      go_wp2_with (first
          | ((with_reducible apply q_ls hR); exact rfl; (with_reducible apply t_lenRd Tryd.underlying22); (apply EvC.now; exact rfl); exact hK; (simp only [cS, cZ]; exact rfl); clear hR; intro w hR)
          | ((with_reducible apply q_ls hR); exact rfl; (with_reducible apply t_six Tryd.underlying22 iIntL); (apply EvC.now; exact rfl); (apply EvC.now; exact rfl); exact HAB.out; (simp only [cS, cZ]; exact rfl); clear hR; intro w hR)
          | ((with_reducible apply q_ls hR); exact rfl; (with_reducible apply t_oldOne tIntV); (apply EvC.now; exact rfl); (exact HC.out); exact rfl; (simp only [cS, cZ]; exact rfl); clear hR; intro w hR)
          | ((with_reducible apply q_ls hR); exact rfl; (with_reducible apply t_shrE (k := 2)); (apply EvC.now; exact rfl); (apply EvC.now; exact rfl); exact rfl; (decide); exact HSH.out; (simp only [cS, cZ]; exact rfl); clear hR; intro w hR)
          | ((with_reducible apply q_ls hR); exact rfl; (with_reducible apply t_rem); (apply EvC.now; exact rfl); (apply EvC.now; exact rfl); (decide); exact HO.out; (simp only [cS, cZ]; exact rfl); clear hR; intro w hR)
          | ((with_reducible apply q_ls hR); exact rfl; (with_reducible apply t_numE); (apply EvC.now; exact rfl); (apply EvC.now; exact rfl); exact rfl; (with_reducible first | exact HP.out | exact HA1.out | exact HQ.out | exact HM.out | exact HDD.out); (simp only [cS, cZ]; exact rfl); clear hR; intro w hR)
          | ((with_reducible apply q_ls hR); exact rfl; (with_reducible apply t_cmp); (apply EvC.now; exact rfl); (apply EvC.now; exact rfl); (with_reducible first | exact HL.out | exact HD0.out | exact HQ0.out | exact HBL.out | exact HBR.out); (simp only [cS, cZ]; exact rfl); clear hR; intro w hR)
          | ((with_reducible apply q_ls hR); exact rfl; (with_reducible apply t_extract); (apply EvC.now; exact rfl); exact rfl; (simp only [cS, cZ]; exact rfl); clear hR; intro w hR)
          | (go_at_call 15; refine (itoa_any (n := m) HM100.out _).mono ?_; rintro e w' ⟨rfl, hb⟩; replace hR := hR.grow hb; clear hb)
          | ((with_reducible apply q_ls hR); exact rfl; (with_reducible apply t_catE); (exact lit_now l35); (apply EvC.now; exact rfl); exact HCT.out; exact rfl; (simp only [cS, cZ]; exact rfl); clear hR; intro w hR)
          | ((with_reducible apply wpList_buildS hR); exact rfl; exact rfl; (exact bStr1 _); clear hR; intro gs w hR; simp only [cS, cZ]))
      (try simp only [Exit.inBlock, Exit.then])
      refine bodyPost_ret (results_tmp5 rfl _ _ _) rfl ?_
      exact ⟨.num m, _, (m : Int), true, at0 + 1, [35 :: digsZ m], rfl, hR.below, trivial, Nat.zero_le _, hrel, strs_row hR (by (focus (repeat (first | apply List.Mem.head | apply List.Mem.tail | apply List.mem_append_right)))) rfl rfl hare.okS (Nat.le_of_ble_eq_true rfl), hare, hlen, hsz⟩
    · have HL := Lib.hid (show cmpB .lss (at0 : Int) (ks.length : Int) = some false from congrArg some (decide_eq_false (by omega)))
      have HA1 := Lib.hid (show IntKind.i64.wrap ((at0 : Int) + 1) = ((at0 + 1 : Nat) : Int) by rw [IntWalk.i64_in _ (by omega)]; omega)
      obtain ⟨m, hm, hm64⟩ : ∃ m : Nat, (0 : Int) / 4 % 64 = (m : Int) ∧ m < 64 := ⟨((0 : Int) / 4 % 64).toNat, by omega, by omega⟩
      have HSH := Lib.hid (show (0 : Int) / 2 ^ 2 = (0 : Int) / 4 from rfl)
      have HM := Lib.hid (show bits .and .i64 ((0 : Int) / 4) 63 = (m : Int) from (i64_mask ((0 : Int) / 4) 6 63 (by decide) (by decide)).trans hm)
      have HQ := Lib.hid (show bits .and .i64 (0 : Int) 3 = (0 : Int) % 4 from i64_mask (0 : Int) 2 3 (by decide) (by decide))
      have HM100 := Lib.hid (show m < 100 by omega)
      have HCT := Lib.hid (show [(35 : Int)].length + (digsZ m).length ≤ 1000000 by unfold digsZ; split <;> simp)
      have hrel : RelV (valE (.num m)) (m : Int) true := by
        have hw : IntKind.i64.wrap (m : Int) = m := IntWalk.i64_in _ (by omega)
        refine ⟨⟨by omega, by omega⟩, ?_⟩
        show true = true ∧ cutZ (IntKind.i64.wrap (m : Int)) = m
        rw [hw]
        exact ⟨rfl, cut_in ⟨by omega, by omega⟩⟩
      have hare : ToksAre [35 :: digsZ m] (tkE (.num m)) := .cons (.num (digs_z (by omega))) .nil
      have hlen : [35 :: digsZ m].length ≤ lenB 0 := Nat.le_refl 1
      have hsz : at0 + 1 ≤ at0 + szB 0 := Nat.le_refl _
      have hR := Own.start w0
      go_enter Tryd.func7, Tryd.ntmps7
      go_wp2_with (first
          | ((with_reducible apply q_ls hR); exact rfl; (with_reducible apply t_lenRd Tryd.underlying22); (apply EvC.now; exact rfl); exact hK; (simp only [cS, cZ]; exact rfl); clear hR; intro w hR)
          | ((with_reducible apply q_ls hR); exact rfl; (with_reducible apply t_six Tryd.underlying22 iIntL); (apply EvC.now; exact rfl); (apply EvC.now; exact rfl); exact HAB.out; (simp only [cS, cZ]; exact rfl); clear hR; intro w hR)
          | ((with_reducible apply q_ls hR); exact rfl; (with_reducible apply t_oldOne tIntV); (apply EvC.now; exact rfl); (exact HC.out); exact rfl; (simp only [cS, cZ]; exact rfl); clear hR; intro w hR)
          | ((with_reducible apply q_ls hR); exact rfl; (with_reducible apply t_shrE (k := 2)); (apply EvC.now; exact rfl); (apply EvC.now; exact rfl); exact rfl; (decide); exact HSH.out; (simp only [cS, cZ]; exact rfl); clear hR; intro w hR)
          | ((with_reducible apply q_ls hR); exact rfl; (with_reducible apply t_rem); (apply EvC.now; exact rfl); (apply EvC.now; exact rfl); (decide); exact HO.out; (simp only [cS, cZ]; exact rfl); clear hR; intro w hR)
          | ((with_reducible apply q_ls hR); exact rfl; (with_reducible apply t_numE); (apply EvC.now; exact rfl); (apply EvC.now; exact rfl); exact rfl; (with_reducible first | exact HP.out | exact HA1.out | exact HQ.out | exact HM.out | exact HDD.out); (simp only [cS, cZ]; exact rfl); clear hR; intro w hR)
          | ((with_reducible apply q_ls hR); exact rfl; (with_reducible apply t_cmp); (apply EvC.now; exact rfl); (apply EvC.now; exact rfl); (with_reducible first | exact HL.out | exact HD0.out | exact HQ0.out | exact HBL.out | exact HBR.out); (simp only [cS, cZ]; exact rfl); clear hR; intro w hR)
          | ((with_reducible apply q_ls hR); exact rfl; (with_reducible apply t_extract); (apply EvC.now; exact rfl); exact rfl; (simp only [cS, cZ]; exact rfl); clear hR; intro w hR)
          | (go_at_call 15; refine (itoa_any (n := m) HM100.out _).mono ?_; rintro e w' ⟨rfl, hb⟩; replace hR := hR.grow hb; clear hb)
          | ((with_reducible apply q_ls hR); exact rfl; (with_reducible apply t_catE); (exact lit_now l35); (apply EvC.now; exact rfl); exact HCT.out; exact rfl; (simp only [cS, cZ]; exact rfl); clear hR; intro w hR)
          | ((with_reducible apply wpList_buildS hR); exact rfl; exact rfl; (exact bStr1 _); clear hR; intro gs w hR; simp only [cS, cZ]))
      (try simp only [Exit.inBlock, Exit.then])
      refine bodyPost_ret (results_tmp5 rfl _ _ _) rfl ?_
      exact ⟨.num m, _, (m : Int), true, at0 + 1, [35 :: digsZ m], rfl, hR.below, trivial, Nat.zero_le _, hrel, strs_row hR (by (focus (repeat (first | apply List.Mem.head | apply List.Mem.tail | apply List.mem_append_right)))) rfl rfl hare.okS (Nat.le_of_ble_eq_true rfl), hare, hlen, hsz⟩
/-- One cell of a row of the call's own, at a place that an index told. -/
theorem t_oneAt {P : Program} {tp : TypeId} {pos : String} {af : Array Edge} {gd : Option (Nat × Bool)} {ls : List Value} {ds : List Deferred} {c : Bool} {dd : Option Tmp} {w0 : World} {l : List RowT} {ty : TypeId} (ht : OneTy P ty) {g off : Nat} {cs : Array Value} {v : Value} {t : TypeId} {x : Operand} (hx : EvC ls c x (.pointer (some ((⟨g, 0, none⟩ : Addr).add off)))) (hm : (g, cs, t) ∈ l) (hs : cs.toList[off]? = some v) :
    TIf P (fun w => Own w0 w l) c ⟨dd, .load ty x, tp, pos, af, gd⟩ ⟨ls.toArray, ds⟩ v := by
  rw [addr_mid] at hx
  exact t_one ht hx hm (by rw [Nat.zero_add]; exact hs)
theorem lenB_bd {d : Nat} (h : d ≤ 3) : lenB d ≤ 43 := by
  have h2 : d = 0 ∨ d = 1 ∨ d = 2 ∨ d = 3 := by omega
  rcases h2 with rfl | rfl | rfl | rfl <;> decide
set_option maxHeartbeats 4000000 in
theorem makeS_any {d : Nat} (hd4 : d ≤ 3) (ih : ∀ {w0 : World} {v : Value} {ks : List Int}, Ints w0 v ks → ∀ at0 : Nat, at0 + szB d ≤ 1000000 → Calls Tryd.prog 7 #[v, .int .i64 at0, .int .i64 d] w0 (MakeP d at0 w0))
    {w0 : World} {v : Value} {ks : List Int} (hK : Ints w0 v ks) (at0 : Nat) (hat : at0 + szB (d + 1) ≤ 1000000) : Calls Tryd.prog 7 #[v, .int .i64 at0, .int .i64 ((d + 1 : Nat) : Int)] w0 (MakeP (d + 1) at0 w0) := by
  have hat2 : at0 + (1 + 2 * szB d) ≤ 1000000 := hat
  have HD0 := Lib.hid (show cmpB .eql ((d + 1 : Nat) : Int) 0 = some false from congrArg some (decide_eq_false (show ¬ ((d + 1 : Nat) : Int) = 0 by omega)))
  by_cases hlt : at0 < ks.length
  case neg =>
    have HL := Lib.hid (show cmpB .lss (at0 : Int) (ks.length : Int) = some false from congrArg some (decide_eq_false (by omega)))
    have HQ0 := Lib.hid (show cmpB .eql ((0 : Int) % 4) 0 = some true from rfl)
    have HA1 := Lib.hid (show IntKind.i64.wrap ((at0 : Int) + 1) = ((at0 + 1 : Nat) : Int) by rw [IntWalk.i64_in _ (by omega)]; omega)
    obtain ⟨m, hm, hm64⟩ : ∃ m : Nat, (0 : Int) / 4 % 64 = (m : Int) ∧ m < 64 := ⟨((0 : Int) / 4 % 64).toNat, by omega, by omega⟩
    have HSH := Lib.hid (show (0 : Int) / 2 ^ 2 = (0 : Int) / 4 from rfl)
    have HM := Lib.hid (show bits .and .i64 ((0 : Int) / 4) 63 = (m : Int) from (i64_mask ((0 : Int) / 4) 6 63 (by decide) (by decide)).trans hm)
    have HQ := Lib.hid (show bits .and .i64 (0 : Int) 3 = (0 : Int) % 4 from i64_mask (0 : Int) 2 3 (by decide) (by decide))
    have HM100 := Lib.hid (show m < 100 by omega)
    have HCT := Lib.hid (show [(35 : Int)].length + (digsZ m).length ≤ 1000000 by unfold digsZ; split <;> simp)
    have hrel : RelV (valE (.num m)) (m : Int) true := by
      have hw : IntKind.i64.wrap (m : Int) = m := IntWalk.i64_in _ (by omega)
      refine ⟨⟨by omega, by omega⟩, ?_⟩
      show true = true ∧ cutZ (IntKind.i64.wrap (m : Int)) = m
      rw [hw]
      exact ⟨rfl, cut_in ⟨by omega, by omega⟩⟩
    have hare : ToksAre [35 :: digsZ m] (tkE (.num m)) := .cons (.num (digs_z (by omega))) .nil
    have hlen : [35 :: digsZ m].length ≤ lenB (d + 1) := (by show 1 ≤ 2 * lenB d + 5; omega)
    have hsz : at0 + 1 ≤ at0 + szB (d + 1) := (by show at0 + 1 ≤ at0 + (1 + 2 * szB d); omega)
    have hR := Own.start w0
    go_enter Tryd.func7, Tryd.ntmps7
    go_wp2_with (first
        | ((with_reducible apply q_ls hR); exact rfl; (with_reducible apply t_lenRd Tryd.underlying22); (apply EvC.now; exact rfl); exact hK; (simp only [cS, cZ]; exact rfl); clear hR; intro w hR)
        | ((with_reducible apply q_ls hR); exact rfl; (with_reducible apply t_six Tryd.underlying22 iIntL); (apply EvC.now; exact rfl); (apply EvC.now; exact rfl); exact HAB.out; (simp only [cS, cZ]; exact rfl); clear hR; intro w hR)
        | ((with_reducible apply q_ls hR); exact rfl; (with_reducible apply t_oldOne tIntV); (apply EvC.now; exact rfl); (exact HC.out); exact rfl; (simp only [cS, cZ]; exact rfl); clear hR; intro w hR)
        | ((with_reducible apply q_ls hR); exact rfl; (with_reducible apply t_shrE (k := 2)); (apply EvC.now; exact rfl); (apply EvC.now; exact rfl); exact rfl; (decide); exact HSH.out; (simp only [cS, cZ]; exact rfl); clear hR; intro w hR)
        | ((with_reducible apply q_ls hR); exact rfl; (with_reducible apply t_rem); (apply EvC.now; exact rfl); (apply EvC.now; exact rfl); (decide); exact HO.out; (simp only [cS, cZ]; exact rfl); clear hR; intro w hR)
        | ((with_reducible apply q_ls hR); exact rfl; (with_reducible apply t_numE); (apply EvC.now; exact rfl); (apply EvC.now; exact rfl); exact rfl; (with_reducible first | exact HP.out | exact HA1.out | exact HQ.out | exact HM.out | exact HDD.out); (simp only [cS, cZ]; exact rfl); clear hR; intro w hR)
        | ((with_reducible apply q_ls hR); exact rfl; (with_reducible apply t_cmp); (apply EvC.now; exact rfl); (apply EvC.now; exact rfl); (with_reducible first | exact HL.out | exact HD0.out | exact HQ0.out | exact HBL.out | exact HBR.out); (simp only [cS, cZ]; exact rfl); clear hR; intro w hR)
        | ((with_reducible apply q_ls hR); exact rfl; (with_reducible apply t_extract); (apply EvC.now; exact rfl); exact rfl; (simp only [cS, cZ]; exact rfl); clear hR; intro w hR)
        | (go_at_call 15; refine (itoa_any (n := m) HM100.out _).mono ?_; rintro e w' ⟨rfl, hb⟩; replace hR := hR.grow hb; clear hb)
        | ((with_reducible apply q_ls hR); exact rfl; (with_reducible apply t_catE); (exact lit_now l35); (apply EvC.now; exact rfl); exact HCT.out; exact rfl; (simp only [cS, cZ]; exact rfl); clear hR; intro w hR)
        | ((with_reducible apply wpList_buildS hR); exact rfl; exact rfl; (exact bStr1 _); clear hR; intro gs w hR; simp only [cS, cZ]))
    (try simp only [Exit.inBlock, Exit.then])
    refine bodyPost_ret (results_tmp5 rfl _ _ _) rfl ?_
    exact ⟨.num m, _, (m : Int), true, at0 + 1, [35 :: digsZ m], rfl, hR.below, trivial, Nat.zero_le _, hrel, strs_row hR (by (focus (repeat (first | apply List.Mem.head | apply List.Mem.tail | apply List.mem_append_right)))) rfl rfl hare.okS (Nat.le_of_ble_eq_true rfl), hare, hlen, hsz⟩
  have HL := Lib.hid (show cmpB .lss (at0 : Int) (ks.length : Int) = some true from congrArg some (decide_eq_true (by omega)))
  obtain ⟨x, hx⟩ : ∃ x, ks[at0]? = some x := ⟨_, List.getElem?_eq_getElem hlt⟩
  obtain ⟨a, cap, rfl, hcell⟩ := Ints.el hK hx
  have HC := Lib.hid (show w0.cell? (a.add ((at0 : Int).toNat * 1)) = some (.int .i64 x) by rw [Nat.mul_one]; exact hcell)
  have HAB := Lib.hid (show (0 : Int) ≤ at0 ∧ (at0 : Int) < ks.length by omega)
  obtain ⟨p, hp0⟩ : ∃ p, x % 65536 = p := ⟨_, rfl⟩
  have hp : 0 ≤ p ∧ p < 65536 := by omega
  have HP := Lib.hid (show bits .and .i64 x 65535 = p from (i64_mask x 16 65535 (by decide) (by decide)).trans hp0)
  clear hcell hx hp0 hlt
  by_cases hq : p % 4 = 0
  · have HQ0 := Lib.hid (show cmpB .eql (p % 4) 0 = some true from congrArg some (decide_eq_true hq))
    have HA1 := Lib.hid (show IntKind.i64.wrap ((at0 : Int) + 1) = ((at0 + 1 : Nat) : Int) by rw [IntWalk.i64_in _ (by omega)]; omega)
    obtain ⟨m, hm, hm64⟩ : ∃ m : Nat, p / 4 % 64 = (m : Int) ∧ m < 64 := ⟨(p / 4 % 64).toNat, by omega, by omega⟩
    have HSH := Lib.hid (show p / 2 ^ 2 = p / 4 from rfl)
    have HM := Lib.hid (show bits .and .i64 (p / 4) 63 = (m : Int) from (i64_mask (p / 4) 6 63 (by decide) (by decide)).trans hm)
    have HQ := Lib.hid (show bits .and .i64 p 3 = p % 4 from i64_mask p 2 3 (by decide) (by decide))
    have HM100 := Lib.hid (show m < 100 by omega)
    have HCT := Lib.hid (show [(35 : Int)].length + (digsZ m).length ≤ 1000000 by unfold digsZ; split <;> simp)
    have hrel : RelV (valE (.num m)) (m : Int) true := by
      have hw : IntKind.i64.wrap (m : Int) = m := IntWalk.i64_in _ (by omega)
      refine ⟨⟨by omega, by omega⟩, ?_⟩
      show true = true ∧ cutZ (IntKind.i64.wrap (m : Int)) = m
      rw [hw]
      exact ⟨rfl, cut_in ⟨by omega, by omega⟩⟩
    have hare : ToksAre [35 :: digsZ m] (tkE (.num m)) := .cons (.num (digs_z (by omega))) .nil
    have hlen : [35 :: digsZ m].length ≤ lenB (d + 1) := (by show 1 ≤ 2 * lenB d + 5; omega)
    have hsz : at0 + 1 ≤ at0 + szB (d + 1) := (by show at0 + 1 ≤ at0 + (1 + 2 * szB d); omega)
    have hR := Own.start w0
    go_enter Tryd.func7, Tryd.ntmps7
    go_wp2_with (first
        | ((with_reducible apply q_ls hR); exact rfl; (with_reducible apply t_lenRd Tryd.underlying22); (apply EvC.now; exact rfl); exact hK; (simp only [cS, cZ]; exact rfl); clear hR; intro w hR)
        | ((with_reducible apply q_ls hR); exact rfl; (with_reducible apply t_six Tryd.underlying22 iIntL); (apply EvC.now; exact rfl); (apply EvC.now; exact rfl); exact HAB.out; (simp only [cS, cZ]; exact rfl); clear hR; intro w hR)
        | ((with_reducible apply q_ls hR); exact rfl; (with_reducible apply t_oldOne tIntV); (apply EvC.now; exact rfl); (exact HC.out); exact rfl; (simp only [cS, cZ]; exact rfl); clear hR; intro w hR)
        | ((with_reducible apply q_ls hR); exact rfl; (with_reducible apply t_shrE (k := 2)); (apply EvC.now; exact rfl); (apply EvC.now; exact rfl); exact rfl; (decide); exact HSH.out; (simp only [cS, cZ]; exact rfl); clear hR; intro w hR)
        | ((with_reducible apply q_ls hR); exact rfl; (with_reducible apply t_rem); (apply EvC.now; exact rfl); (apply EvC.now; exact rfl); (decide); exact HO.out; (simp only [cS, cZ]; exact rfl); clear hR; intro w hR)
        | ((with_reducible apply q_ls hR); exact rfl; (with_reducible apply t_numE); (apply EvC.now; exact rfl); (apply EvC.now; exact rfl); exact rfl; (with_reducible first | exact HP.out | exact HA1.out | exact HQ.out | exact HM.out | exact HDD.out); (simp only [cS, cZ]; exact rfl); clear hR; intro w hR)
        | ((with_reducible apply q_ls hR); exact rfl; (with_reducible apply t_cmp); (apply EvC.now; exact rfl); (apply EvC.now; exact rfl); (with_reducible first | exact HL.out | exact HD0.out | exact HQ0.out | exact HBL.out | exact HBR.out); (simp only [cS, cZ]; exact rfl); clear hR; intro w hR)
        | ((with_reducible apply q_ls hR); exact rfl; (with_reducible apply t_extract); (apply EvC.now; exact rfl); exact rfl; (simp only [cS, cZ]; exact rfl); clear hR; intro w hR)
        | (go_at_call 15; refine (itoa_any (n := m) HM100.out _).mono ?_; rintro e w' ⟨rfl, hb⟩; replace hR := hR.grow hb; clear hb)
        | ((with_reducible apply q_ls hR); exact rfl; (with_reducible apply t_catE); (exact lit_now l35); (apply EvC.now; exact rfl); exact HCT.out; exact rfl; (simp only [cS, cZ]; exact rfl); clear hR; intro w hR)
        | ((with_reducible apply wpList_buildS hR); exact rfl; exact rfl; (exact bStr1 _); clear hR; intro gs w hR; simp only [cS, cZ]))
    (try simp only [Exit.inBlock, Exit.then])
    refine bodyPost_ret (results_tmp5 rfl _ _ _) rfl ?_
    exact ⟨.num m, _, (m : Int), true, at0 + 1, [35 :: digsZ m], rfl, hR.below, trivial, Nat.zero_le _, hrel, strs_row hR (by (focus (repeat (first | apply List.Mem.head | apply List.Mem.tail | apply List.mem_append_right)))) rfl rfl hare.okS (Nat.le_of_ble_eq_true rfl), hare, hlen, hsz⟩
  have HQ0 := Lib.hid (show cmpB .eql (p % 4) 0 = some false from congrArg some (decide_eq_false hq))
  have HA1 := Lib.hid (show IntKind.i64.wrap ((at0 : Int) + 1) = ((at0 + 1 : Nat) : Int) by rw [IntWalk.i64_in _ (by omega)]; omega)
  have HQ := Lib.hid (show bits .and .i64 p 3 = p % 4 from i64_mask p 2 3 (by decide) (by decide))
  have HSH := Lib.hid (show p / 2 ^ 2 = p / 4 from rfl)
  obtain ⟨o, ho, ho12⟩ : ∃ o : Nat, (p / 4).tmod 12 = (o : Int) ∧ o < 12 := ⟨(p / 4 % 12).toNat, by rw [rem_in (by omega)]; omega, by omega⟩
  have HO := Lib.hid ho
  have HDD := Lib.hid (show IntKind.i64.wrap (((d + 1 : Nat) : Int) - 1) = (d : Int) by rw [IntWalk.i64_in _ (by omega)]; omega)
  have HOB := Lib.hid (show (0 : Int) ≤ o ∧ (o : Int) < (12 : Nat) by omega)
  have HOC := Lib.hid (opsC_at ho12)
  have HOD := Lib.hid (show opsC.toList[(o : Int).toNat * 1]? = some (.string (strOfNums (opS o))) by have h := opsC_at ho12; rw [Nat.zero_add, ← Array.getElem?_toList] at h; exact h)
  have hoko : ∀ t ∈ [opS o], bytesOk t := by intro t ht; rw [List.mem_singleton.1 ht]; exact (op_tok ho12).okS
  have hlb := lenB_bd hd4
  have hR := Own.start w0
  have hZ := Since.start w0
  clear ho hq hp
  go_enter Tryd.func7, Tryd.ntmps7
  go_upto_region 9 with (first
    | ((with_reducible apply q_ls hR); exact rfl; (with_reducible apply t_lenRd Tryd.underlying22); (apply EvC.now; exact rfl); exact hK; (simp only [cS, cZ]; exact rfl); clear hR; intro w hR)
    | ((with_reducible apply q_ls hR); exact rfl; (with_reducible apply t_six Tryd.underlying22 iIntL); (apply EvC.now; exact rfl); (apply EvC.now; exact rfl); exact HAB.out; (simp only [cS, cZ]; exact rfl); clear hR; intro w hR)
    | ((with_reducible apply q_ls hR); exact rfl; (with_reducible apply t_oldOne tIntV); (apply EvC.now; exact rfl); (exact HC.out); exact rfl; (simp only [cS, cZ]; exact rfl); clear hR; intro w hR)
    | ((with_reducible apply q_ls hR); exact rfl; (with_reducible apply t_shrE (k := 2)); (apply EvC.now; exact rfl); (apply EvC.now; exact rfl); exact rfl; (decide); exact HSH.out; (simp only [cS, cZ]; exact rfl); clear hR; intro w hR)
    | ((with_reducible apply q_ls hR); exact rfl; (with_reducible apply t_rem); (apply EvC.now; exact rfl); (apply EvC.now; exact rfl); (decide); exact HO.out; (simp only [cS, cZ]; exact rfl); clear hR; intro w hR)
    | ((with_reducible apply q_ls hR); exact rfl; (with_reducible apply t_numE); (apply EvC.now; exact rfl); (apply EvC.now; exact rfl); exact rfl; (with_reducible first | exact HP.out | exact HA1.out | exact HQ.out | exact HM.out | exact HDD.out); (simp only [cS, cZ]; exact rfl); clear hR; intro w hR)
    | ((with_reducible apply q_ls hR); exact rfl; (with_reducible apply t_cmp); (apply EvC.now; exact rfl); (apply EvC.now; exact rfl); (with_reducible first | exact HL.out | exact HD0.out | exact HQ0.out | exact HBL.out | exact HBR.out); (simp only [cS, cZ]; exact rfl); clear hR; intro w hR)
    | ((with_reducible apply q_ls hR); exact rfl; (with_reducible apply t_extract); (apply EvC.now; exact rfl); exact rfl; (simp only [cS, cZ]; exact rfl); clear hR; intro w hR)
    | (go_at_call 7; refine (ih (hK.own hR) (at0 + 1) (by omega)).mono ?_; rintro e w1 ⟨tl, vl, nl, xl, al, wl, rfl, hb, hokl, hdl, hrl, hSl, hAl, hLl, hal⟩; replace hR := hR.grow hb; replace hK := hK.own hR; replace hZ := hZ.own hR; skip; clear hR hb; have hR := Own.start w1))
  go_upto_region 10 with (first
    | ((with_reducible apply q_ls hR); exact rfl; (with_reducible apply t_lenRd Tryd.underlying22); (apply EvC.now; exact rfl); exact hK; (simp only [cS, cZ]; exact rfl); clear hR; intro w hR)
    | ((with_reducible apply q_ls hR); exact rfl; (with_reducible apply t_six Tryd.underlying22 iIntL); (apply EvC.now; exact rfl); (apply EvC.now; exact rfl); exact HAB.out; (simp only [cS, cZ]; exact rfl); clear hR; intro w hR)
    | ((with_reducible apply q_ls hR); exact rfl; (with_reducible apply t_oldOne tIntV); (apply EvC.now; exact rfl); (exact HC.out); exact rfl; (simp only [cS, cZ]; exact rfl); clear hR; intro w hR)
    | ((with_reducible apply q_ls hR); exact rfl; (with_reducible apply t_shrE (k := 2)); (apply EvC.now; exact rfl); (apply EvC.now; exact rfl); exact rfl; (decide); exact HSH.out; (simp only [cS, cZ]; exact rfl); clear hR; intro w hR)
    | ((with_reducible apply q_ls hR); exact rfl; (with_reducible apply t_rem); (apply EvC.now; exact rfl); (apply EvC.now; exact rfl); (decide); exact HO.out; (simp only [cS, cZ]; exact rfl); clear hR; intro w hR)
    | ((with_reducible apply q_ls hR); exact rfl; (with_reducible apply t_numE); (apply EvC.now; exact rfl); (apply EvC.now; exact rfl); exact rfl; (with_reducible first | exact HP.out | exact HA1.out | exact HQ.out | exact HM.out | exact HDD.out); (simp only [cS, cZ]; exact rfl); clear hR; intro w hR)
    | ((with_reducible apply q_ls hR); exact rfl; (with_reducible apply t_cmp); (apply EvC.now; exact rfl); (apply EvC.now; exact rfl); (with_reducible first | exact HL.out | exact HD0.out | exact HQ0.out | exact HBL.out | exact HBR.out); (simp only [cS, cZ]; exact rfl); clear hR; intro w hR)
    | ((with_reducible apply q_ls hR); exact rfl; (with_reducible apply t_extract); (apply EvC.now; exact rfl); exact rfl; (simp only [cS, cZ]; exact rfl); clear hR; intro w hR)
    | (go_at_call 7; refine (ih (hK.own hR) (al) (by omega)).mono ?_; rintro e w1 ⟨tr, vr, nr, xr, ar, wr, rfl, hb, hokr, hdr, hrr, hSr, hAr, hLr, har⟩; replace hR := hR.grow hb; replace hK := hK.own hR; replace hZ := hZ.own hR; replace hSl := hSl.own hR; clear hR hb; have hR := Own.start w1))
  have HIL := Lib.hid hrl.1
  have HIR := Lib.hid hrr.1
  clear hK
  by_cases bl : stE tl < lvl o
  · have HBL := Lib.hid (show cmpB .lss (stE tl) (lvl o) = some true from congrArg some (decide_eq_true bl))
    have ebl : decide (stE tl < lvl o) = true := decide_eq_true bl
    go_upto_region 12 with (first
        | ((with_reducible apply q_ls hR); exact rfl; (with_reducible apply t_lenRd Tryd.underlying22); (apply EvC.now; exact rfl); exact hK; (simp only [cS, cZ]; exact rfl); clear hR; intro w hR)
        | ((with_reducible apply q_ls hR); exact rfl; (with_reducible apply t_six Tryd.underlying22 iIntL); (apply EvC.now; exact rfl); (apply EvC.now; exact rfl); exact HAB.out; (simp only [cS, cZ]; exact rfl); clear hR; intro w hR)
        | ((with_reducible apply q_ls hR); exact rfl; (with_reducible apply t_oldOne tIntV); (apply EvC.now; exact rfl); (exact HC.out); exact rfl; (simp only [cS, cZ]; exact rfl); clear hR; intro w hR)
        | ((with_reducible apply q_ls hR); exact rfl; (with_reducible apply t_shrE (k := 2)); (apply EvC.now; exact rfl); (apply EvC.now; exact rfl); exact rfl; (decide); exact HSH.out; (simp only [cS, cZ]; exact rfl); clear hR; intro w hR)
        | ((with_reducible apply q_ls hR); exact rfl; (with_reducible apply t_rem); (apply EvC.now; exact rfl); (apply EvC.now; exact rfl); (decide); exact HO.out; (simp only [cS, cZ]; exact rfl); clear hR; intro w hR)
        | ((with_reducible apply q_ls hR); exact rfl; (with_reducible apply t_numE); (apply EvC.now; exact rfl); (apply EvC.now; exact rfl); exact rfl; (with_reducible first | exact HP.out | exact HA1.out | exact HQ.out | exact HM.out | exact HDD.out); (simp only [cS, cZ]; exact rfl); clear hR; intro w hR)
        | ((with_reducible apply q_ls hR); exact rfl; (with_reducible apply t_cmp); (apply EvC.now; exact rfl); (apply EvC.now; exact rfl); (with_reducible first | exact HL.out | exact HD0.out | exact HQ0.out | exact HBL.out | exact HBR.out); (simp only [cS, cZ]; exact rfl); clear hR; intro w hR)
        | ((with_reducible apply q_ls hR); exact rfl; (with_reducible apply t_extract); (apply EvC.now; exact rfl); exact rfl; (simp only [cS, cZ]; exact rfl); clear hR; intro w hR)
        | (go_at_call 16; refine (levelR_any ho12 _).mono ?_; rintro e w' ⟨rfl, hb⟩; replace hR := hR.grow hb; clear hb)
        | ((with_reducible apply wpList_buildS hR); exact rfl; exact rfl; (exact bStr1 _); clear hR; intro gs w hR; simp only [cS, cZ])
        | ((with_reducible apply wpList_appG hR tStrsB); exact rfl; exact rfl; exact rfl; exact (sl_row (ts := [[40]]) rfl rfl (by decide)); exact Les.head; exact ((hSl.own hR).rd); (unfold maxLen; (try simp only [List.length_cons, List.length_nil]); omega); ((try simp only [List.length_cons, List.length_nil]); omega); clear hR ; intro s2 v2 w hR hS; simp only [cS, cZ])
        | ((with_reducible apply wpList_appG hR tStrsB); exact rfl; exact rfl; exact rfl; exact (hS); exact Les.tail Les.head; exact ((strs_row hR (by (focus (repeat (first | apply List.Mem.head | apply List.Mem.tail | apply List.mem_append_right)))) (ts := [[41]]) rfl rfl ok41 (by decide)).rd); (unfold maxLen; (try simp only [List.length_cons, List.length_nil]); omega); ((try simp only [List.length_cons, List.length_nil]); omega); clear hR hS; intro s2 v2 w hR hS; simp only [cS, cZ]))
    have hX : Strs w v2 (parW true wl) := (castM hS (m := (parW true wl).length) (ys := (parW true wl).flatMap cellT) (by simp [parW]; omega) (by simp [parW])).strs hR (fun r hr => List.mem_append_left _ hr) (par_are (b := true) hAl).okS
    clear hS hSl
    replace hSr := hSr.own hR
    have hZ2 := (hZ).own hR
    have hR2 := hR.fresh
    clear hR
    try clear hZ
    have hZ := hZ2
    have hR := hR2
    clear hZ2 hR2
    have hAX := par_are (b := true) hAl
    have hLX := par_len true wl
    by_cases br : stE tr ≤ lvl o
    · have HBR := Lib.hid (show cmpB .leq (stE tr) (lvl o) = some true from congrArg some (decide_eq_true br))
      have ebr : decide (stE tr ≤ lvl o) = true := decide_eq_true br
      go_upto_region 14 with (first
          | ((with_reducible apply q_ls hR); exact rfl; (with_reducible apply t_lenRd Tryd.underlying22); (apply EvC.now; exact rfl); exact hK; (simp only [cS, cZ]; exact rfl); clear hR; intro w hR)
          | ((with_reducible apply q_ls hR); exact rfl; (with_reducible apply t_six Tryd.underlying22 iIntL); (apply EvC.now; exact rfl); (apply EvC.now; exact rfl); exact HAB.out; (simp only [cS, cZ]; exact rfl); clear hR; intro w hR)
          | ((with_reducible apply q_ls hR); exact rfl; (with_reducible apply t_oldOne tIntV); (apply EvC.now; exact rfl); (exact HC.out); exact rfl; (simp only [cS, cZ]; exact rfl); clear hR; intro w hR)
          | ((with_reducible apply q_ls hR); exact rfl; (with_reducible apply t_shrE (k := 2)); (apply EvC.now; exact rfl); (apply EvC.now; exact rfl); exact rfl; (decide); exact HSH.out; (simp only [cS, cZ]; exact rfl); clear hR; intro w hR)
          | ((with_reducible apply q_ls hR); exact rfl; (with_reducible apply t_rem); (apply EvC.now; exact rfl); (apply EvC.now; exact rfl); (decide); exact HO.out; (simp only [cS, cZ]; exact rfl); clear hR; intro w hR)
          | ((with_reducible apply q_ls hR); exact rfl; (with_reducible apply t_numE); (apply EvC.now; exact rfl); (apply EvC.now; exact rfl); exact rfl; (with_reducible first | exact HP.out | exact HA1.out | exact HQ.out | exact HM.out | exact HDD.out); (simp only [cS, cZ]; exact rfl); clear hR; intro w hR)
          | ((with_reducible apply q_ls hR); exact rfl; (with_reducible apply t_cmp); (apply EvC.now; exact rfl); (apply EvC.now; exact rfl); (with_reducible first | exact HL.out | exact HD0.out | exact HQ0.out | exact HBL.out | exact HBR.out); (simp only [cS, cZ]; exact rfl); clear hR; intro w hR)
          | ((with_reducible apply q_ls hR); exact rfl; (with_reducible apply t_extract); (apply EvC.now; exact rfl); exact rfl; (simp only [cS, cZ]; exact rfl); clear hR; intro w hR)
          | (go_at_call 16; refine (levelR_any ho12 _).mono ?_; rintro e w' ⟨rfl, hb⟩; replace hR := hR.grow hb; clear hb)
          | ((with_reducible apply wpList_buildS hR); exact rfl; exact rfl; (exact bStr1 _); clear hR; intro gs w hR; simp only [cS, cZ])
          | ((with_reducible apply wpList_appG hR tStrsB); exact rfl; exact rfl; exact rfl; exact (sl_row (ts := [[40]]) rfl rfl (by decide)); exact Les.head; exact ((hSr.own hR).rd); (unfold maxLen; (try simp only [List.length_cons, List.length_nil]); omega); ((try simp only [List.length_cons, List.length_nil]); omega); clear hR ; intro s2 v2 w hR hS; simp only [cS, cZ])
          | ((with_reducible apply wpList_appG hR tStrsB); exact rfl; exact rfl; exact rfl; exact (hS); exact Les.tail Les.head; exact ((strs_row hR (by (focus (repeat (first | apply List.Mem.head | apply List.Mem.tail | apply List.mem_append_right)))) (ts := [[41]]) rfl rfl ok41 (by decide)).rd); (unfold maxLen; (try simp only [List.length_cons, List.length_nil]); omega); ((try simp only [List.length_cons, List.length_nil]); omega); clear hR hS; intro s2 v2 w hR hS; simp only [cS, cZ]))
      have hY0 : Strs w v2 (parW true wr) := (castM hS (m := (parW true wr).length) (ys := (parW true wr).flatMap cellT) (by simp [parW]; omega) (by simp [parW])).strs hR (fun r hr => List.mem_append_left _ hr) (par_are (b := true) hAr).okS
      have hY := hY0
      clear hY0 hS
      replace hX := hX.own hR
      have hZ2 := (hZ).own hR
      have hR2 := hR.fresh
      clear hR
      try clear hZ
      have hZ := hZ2
      have hR := hR2
      clear hZ2 hR2
      have hAY := par_are (b := true) hAr
      have hLY := par_len true wr
      go_upto_region 16 with (first
          | ((with_reducible apply q_ls hR); exact rfl; (with_reducible apply t_lenRd Tryd.underlying22); (apply EvC.now; exact rfl); exact hK; (simp only [cS, cZ]; exact rfl); clear hR; intro w hR)
          | ((with_reducible apply q_ls hR); exact rfl; (with_reducible apply t_six Tryd.underlying22 iIntL); (apply EvC.now; exact rfl); (apply EvC.now; exact rfl); exact HAB.out; (simp only [cS, cZ]; exact rfl); clear hR; intro w hR)
          | ((with_reducible apply q_ls hR); exact rfl; (with_reducible apply t_oldOne tIntV); (apply EvC.now; exact rfl); (exact HC.out); exact rfl; (simp only [cS, cZ]; exact rfl); clear hR; intro w hR)
          | ((with_reducible apply q_ls hR); exact rfl; (with_reducible apply t_shrE (k := 2)); (apply EvC.now; exact rfl); (apply EvC.now; exact rfl); exact rfl; (decide); exact HSH.out; (simp only [cS, cZ]; exact rfl); clear hR; intro w hR)
          | ((with_reducible apply q_ls hR); exact rfl; (with_reducible apply t_rem); (apply EvC.now; exact rfl); (apply EvC.now; exact rfl); (decide); exact HO.out; (simp only [cS, cZ]; exact rfl); clear hR; intro w hR)
          | ((with_reducible apply q_ls hR); exact rfl; (with_reducible apply t_numE); (apply EvC.now; exact rfl); (apply EvC.now; exact rfl); exact rfl; (with_reducible first | exact HP.out | exact HA1.out | exact HQ.out | exact HM.out | exact HDD.out); (simp only [cS, cZ]; exact rfl); clear hR; intro w hR)
          | ((with_reducible apply q_ls hR); exact rfl; (with_reducible apply t_cmp); (apply EvC.now; exact rfl); (apply EvC.now; exact rfl); (with_reducible first | exact HL.out | exact HD0.out | exact HQ0.out | exact HBL.out | exact HBR.out); (simp only [cS, cZ]; exact rfl); clear hR; intro w hR)
          | ((with_reducible apply q_ls hR); exact rfl; (with_reducible apply t_extract); (apply EvC.now; exact rfl); exact rfl; (simp only [cS, cZ]; exact rfl); clear hR; intro w hR)
          | (go_at_call 17; refine (do_any ho12 HIL.out HIR.out _).mono ?_; rintro e w' ⟨n, okn, rfl, hb, hDo⟩; replace hR := hR.grow hb; clear hb)
          | (go_at_call 18; refine (opsR_any _).mono ?_; rintro e w' ⟨gop, rfl, hO⟩; replace hR : Own _ _ ((gop, opsC, 9) :: _) := hR.join hO; clear hO)
          | ((with_reducible apply wpList_buildS hR); exact rfl; exact rfl; (exact bStr0); clear hR; intro gs w hR; simp only [cS, cZ])
          | ((with_reducible apply wpList_buildS hR); exact rfl; exact rfl; (exact bStr1 _); clear hR; intro gs w hR; simp only [cS, cZ])
          | ((with_reducible apply q_ls hR); exact rfl; (with_reducible apply t_six Tryd.underlying23 iStrE); (apply EvC.now; exact rfl); (apply EvC.now; exact rfl); exact HOB.out; (simp only [cS, cZ]; exact rfl); clear hR; intro w hR)
          | ((with_reducible apply q_ls hR); exact rfl; (with_reducible apply t_oneAt tStrE); (apply EvC.now; exact rfl); exact List.Mem.head _; exact HOD.out; (simp only [cS, cZ]; exact rfl); clear hR; intro w hR)
          | ((with_reducible apply wpList_appG hR tStrsB); exact rfl; exact rfl; exact rfl; exact (sl_row (ts := []) rfl rfl (by decide)); exact Les.head; exact ((hX.own hR).rd); (unfold maxLen; (try simp only [List.length_cons, List.length_nil]); omega); ((try simp only [List.length_cons, List.length_nil]); omega); clear hR ; intro s2 v2 w hR hS; simp only [cS, cZ])
          | ((with_reducible apply wpList_appG hR tStrsB); exact rfl; exact rfl; exact rfl; exact (hS); exact (Les.tail (Les.tail Les.head)); exact ((strs_row hR (by (focus (repeat (first | apply List.Mem.head | apply List.Mem.tail | apply List.mem_append_right)))) (ts := [opS o]) rfl rfl hoko (Nat.le_of_ble_eq_true rfl)).rd); (unfold maxLen; (try simp only [List.length_cons, List.length_nil]); omega); ((try simp only [List.length_cons, List.length_nil]); omega); clear hR hS; intro s2 v2 w hR hS; simp only [cS, cZ])
          | ((with_reducible apply wpList_appG hR tStrsB); exact rfl; exact rfl; exact rfl; exact (hS); exact Les.head; exact ((hY.own hR).rd); (unfold maxLen; (try simp only [List.length_cons, List.length_nil]); omega); ((try simp only [List.length_cons, List.length_nil]); omega); clear hR hS; intro s2 v2 w hR hS; simp only [cS, cZ]))
      have hF := (castM hS (m := (parW true wl ++ (opS o :: parW true wr)).length) (ys := (parW true wl ++ (opS o :: parW true wr)).flatMap cellT) (by simp; omega) (by simp [cellT])).strsR (are_app hAX (.cons (op_tok ho12) hAY)).okS
      refine wp_region_tame hR [0, 1, 2, 3, 4, 5, 6, 7, 8, 9, 10, 11, 12, 13, 14, 15, 16] rfl ?_
      repeat (refine wpT_step rfl ?_; first
          | ((first | (with_reducible apply q_pl) | ((with_reducible apply q_gd); (first | (apply GdBy.gt; exact rfl; exact rfl) | (apply GdBy.gf; exact rfl; exact rfl) | (apply GdBy.t; exact rfl; exact rfl) | (apply GdBy.f; exact rfl; exact rfl)))); (first | ((with_reducible first | apply t_move | apply t_assign | apply t_and | apply t_or | apply t_cmp | apply t_not | apply t_one tIntV | apply t_one tStrE) <;> (first | (focus (repeat (first | (apply EvC.gv; exact rfl; (with_reducible first | exact Imp.refl _ | (apply Imp.left; exact Imp.refl _) | (apply Imp.right; exact Imp.refl _) | (apply Imp.left; apply Imp.left; exact Imp.refl _))) | (apply EvC.now; exact rfl) | (with_reducible first | apply EvAll.cons | exact EvAll.nil))); done) | exact rfl | fail | (focus (repeat (first | apply List.Mem.head | apply List.Mem.tail | apply List.mem_append_right)))))); (simp only [cS, cZ]; exact rfl))
          | ((first | (with_reducible apply q_pl) | ((with_reducible apply q_gd); (first | (apply GdBy.gt; exact rfl; exact rfl) | (apply GdBy.gf; exact rfl; exact rfl) | (apply GdBy.t; exact rfl; exact rfl) | (apply GdBy.f; exact rfl; exact rfl)))); (with_reducible apply t_call Tryd.call16); (first | (focus (repeat (first | (apply EvC.gv; exact rfl; (with_reducible first | exact Imp.refl _ | (apply Imp.left; exact Imp.refl _) | (apply Imp.right; exact Imp.refl _) | (apply Imp.left; apply Imp.left; exact Imp.refl _))) | (apply EvC.now; exact rfl) | (with_reducible first | apply EvAll.cons | exact EvAll.nil))); done) | exact rfl | fail | (focus (repeat (first | apply List.Mem.head | apply List.Mem.tail | apply List.mem_append_right)))); (intro hcc w hC; exact tame_below (levelR_any ho12 _) hC); (simp only [cS, cZ]; exact rfl))
          | ((with_reducible apply q_gd); (first | (apply GdBy.gt; exact rfl; exact rfl) | (apply GdBy.gf; exact rfl; exact rfl) | (apply GdBy.t; exact rfl; exact rfl) | (apply GdBy.f; exact rfl; exact rfl)); ((with_reducible apply t_num) <;> (first | (focus (repeat (first | (apply EvC.gv; exact rfl; (with_reducible first | exact Imp.refl _ | (apply Imp.left; exact Imp.refl _) | (apply Imp.right; exact Imp.refl _) | (apply Imp.left; apply Imp.left; exact Imp.refl _))) | (apply EvC.now; exact rfl) | (with_reducible first | apply EvAll.cons | exact EvAll.nil))); done) | exact rfl | fail | (focus (repeat (first | apply List.Mem.head | apply List.Mem.tail | apply List.mem_append_right))))); (simp only [cS, cZ]; exact rfl))
          | ((with_reducible apply wpT1_gpure); (first | (apply GdBy.gt; exact rfl; exact rfl) | (apply GdBy.gf; exact rfl; exact rfl) | (apply GdBy.t; exact rfl; exact rfl) | (apply GdBy.f; exact rfl; exact rfl)); intro K hK; go_simp; refine hK _ ?_; clear hK K; simp only [cS, cZ])
          | ((with_reducible apply wpT1_pure); exact rfl; intro K hK; go_simp; refine hK _ ?_; clear hK K; simp only [cS, cZ]))
      refine wpT_nil ?_
      clear hR; intro w hR
      go_wp2_with fail
      (try simp only [Exit.inBlock, Exit.then])
      refine bodyPost_ret (results_tmp5 rfl _ _ _) rfl ?_
      refine ⟨.op o tl tr, _, n, (okn && xl) && xr, ar, parW true wl ++ (opS o :: parW true wr), rfl, (hZ.own hR).below, ⟨ho12, hokl, hokr⟩, ?_, rel_op hrl hrr hDo, hF _ _ _ hR (fun r hr => List.mem_append_left _ hr), ?_, ?_, ?_⟩
      · show max (depE tl) (depE tr) + 1 ≤ d + 1; omega
      · show ToksAre _ (parT (decide (stE tl < lvl o)) (tkE tl) ++ opT o :: parT (decide (stE tr ≤ lvl o)) (tkE tr))
        rw [ebl, ebr]
        exact are_app hAX (.cons (op_tok ho12) hAY)
      · show (parW true wl ++ (opS o :: parW true wr)).length ≤ 2 * lenB d + 5
        rw [List.length_append, List.length_cons]
        omega
      · show ar ≤ at0 + (1 + 2 * szB d); omega
    · have HBR := Lib.hid (show cmpB .leq (stE tr) (lvl o) = some false from congrArg some (decide_eq_false br))
      have ebr : decide (stE tr ≤ lvl o) = false := decide_eq_false br
      go_upto_region 14 with (first
          | ((with_reducible apply q_ls hR); exact rfl; (with_reducible apply t_lenRd Tryd.underlying22); (apply EvC.now; exact rfl); exact hK; (simp only [cS, cZ]; exact rfl); clear hR; intro w hR)
          | ((with_reducible apply q_ls hR); exact rfl; (with_reducible apply t_six Tryd.underlying22 iIntL); (apply EvC.now; exact rfl); (apply EvC.now; exact rfl); exact HAB.out; (simp only [cS, cZ]; exact rfl); clear hR; intro w hR)
          | ((with_reducible apply q_ls hR); exact rfl; (with_reducible apply t_oldOne tIntV); (apply EvC.now; exact rfl); (exact HC.out); exact rfl; (simp only [cS, cZ]; exact rfl); clear hR; intro w hR)
          | ((with_reducible apply q_ls hR); exact rfl; (with_reducible apply t_shrE (k := 2)); (apply EvC.now; exact rfl); (apply EvC.now; exact rfl); exact rfl; (decide); exact HSH.out; (simp only [cS, cZ]; exact rfl); clear hR; intro w hR)
          | ((with_reducible apply q_ls hR); exact rfl; (with_reducible apply t_rem); (apply EvC.now; exact rfl); (apply EvC.now; exact rfl); (decide); exact HO.out; (simp only [cS, cZ]; exact rfl); clear hR; intro w hR)
          | ((with_reducible apply q_ls hR); exact rfl; (with_reducible apply t_numE); (apply EvC.now; exact rfl); (apply EvC.now; exact rfl); exact rfl; (with_reducible first | exact HP.out | exact HA1.out | exact HQ.out | exact HM.out | exact HDD.out); (simp only [cS, cZ]; exact rfl); clear hR; intro w hR)
          | ((with_reducible apply q_ls hR); exact rfl; (with_reducible apply t_cmp); (apply EvC.now; exact rfl); (apply EvC.now; exact rfl); (with_reducible first | exact HL.out | exact HD0.out | exact HQ0.out | exact HBL.out | exact HBR.out); (simp only [cS, cZ]; exact rfl); clear hR; intro w hR)
          | ((with_reducible apply q_ls hR); exact rfl; (with_reducible apply t_extract); (apply EvC.now; exact rfl); exact rfl; (simp only [cS, cZ]; exact rfl); clear hR; intro w hR)
          | (go_at_call 16; refine (levelR_any ho12 _).mono ?_; rintro e w' ⟨rfl, hb⟩; replace hR := hR.grow hb; clear hb))
      have hY : Strs _ vr (parW false wr) := hSr
      have hAY := par_are (b := false) hAr
      have hLY := par_len false wr
      go_upto_region 16 with (first
          | ((with_reducible apply q_ls hR); exact rfl; (with_reducible apply t_lenRd Tryd.underlying22); (apply EvC.now; exact rfl); exact hK; (simp only [cS, cZ]; exact rfl); clear hR; intro w hR)
          | ((with_reducible apply q_ls hR); exact rfl; (with_reducible apply t_six Tryd.underlying22 iIntL); (apply EvC.now; exact rfl); (apply EvC.now; exact rfl); exact HAB.out; (simp only [cS, cZ]; exact rfl); clear hR; intro w hR)
          | ((with_reducible apply q_ls hR); exact rfl; (with_reducible apply t_oldOne tIntV); (apply EvC.now; exact rfl); (exact HC.out); exact rfl; (simp only [cS, cZ]; exact rfl); clear hR; intro w hR)
          | ((with_reducible apply q_ls hR); exact rfl; (with_reducible apply t_shrE (k := 2)); (apply EvC.now; exact rfl); (apply EvC.now; exact rfl); exact rfl; (decide); exact HSH.out; (simp only [cS, cZ]; exact rfl); clear hR; intro w hR)
          | ((with_reducible apply q_ls hR); exact rfl; (with_reducible apply t_rem); (apply EvC.now; exact rfl); (apply EvC.now; exact rfl); (decide); exact HO.out; (simp only [cS, cZ]; exact rfl); clear hR; intro w hR)
          | ((with_reducible apply q_ls hR); exact rfl; (with_reducible apply t_numE); (apply EvC.now; exact rfl); (apply EvC.now; exact rfl); exact rfl; (with_reducible first | exact HP.out | exact HA1.out | exact HQ.out | exact HM.out | exact HDD.out); (simp only [cS, cZ]; exact rfl); clear hR; intro w hR)
          | ((with_reducible apply q_ls hR); exact rfl; (with_reducible apply t_cmp); (apply EvC.now; exact rfl); (apply EvC.now; exact rfl); (with_reducible first | exact HL.out | exact HD0.out | exact HQ0.out | exact HBL.out | exact HBR.out); (simp only [cS, cZ]; exact rfl); clear hR; intro w hR)
          | ((with_reducible apply q_ls hR); exact rfl; (with_reducible apply t_extract); (apply EvC.now; exact rfl); exact rfl; (simp only [cS, cZ]; exact rfl); clear hR; intro w hR)
          | (go_at_call 17; refine (do_any ho12 HIL.out HIR.out _).mono ?_; rintro e w' ⟨n, okn, rfl, hb, hDo⟩; replace hR := hR.grow hb; clear hb)
          | (go_at_call 18; refine (opsR_any _).mono ?_; rintro e w' ⟨gop, rfl, hO⟩; replace hR : Own _ _ ((gop, opsC, 9) :: _) := hR.join hO; clear hO)
          | ((with_reducible apply wpList_buildS hR); exact rfl; exact rfl; (exact bStr0); clear hR; intro gs w hR; simp only [cS, cZ])
          | ((with_reducible apply wpList_buildS hR); exact rfl; exact rfl; (exact bStr1 _); clear hR; intro gs w hR; simp only [cS, cZ])
          | ((with_reducible apply q_ls hR); exact rfl; (with_reducible apply t_six Tryd.underlying23 iStrE); (apply EvC.now; exact rfl); (apply EvC.now; exact rfl); exact HOB.out; (simp only [cS, cZ]; exact rfl); clear hR; intro w hR)
          | ((with_reducible apply q_ls hR); exact rfl; (with_reducible apply t_oneAt tStrE); (apply EvC.now; exact rfl); exact List.Mem.head _; exact HOD.out; (simp only [cS, cZ]; exact rfl); clear hR; intro w hR)
          | ((with_reducible apply wpList_appG hR tStrsB); exact rfl; exact rfl; exact rfl; exact (sl_row (ts := []) rfl rfl (by decide)); exact Les.head; exact ((hX.own hR).rd); (unfold maxLen; (try simp only [List.length_cons, List.length_nil]); omega); ((try simp only [List.length_cons, List.length_nil]); omega); clear hR ; intro s2 v2 w hR hS; simp only [cS, cZ])
          | ((with_reducible apply wpList_appG hR tStrsB); exact rfl; exact rfl; exact rfl; exact (hS); exact (Les.tail (Les.tail Les.head)); exact ((strs_row hR (by (focus (repeat (first | apply List.Mem.head | apply List.Mem.tail | apply List.mem_append_right)))) (ts := [opS o]) rfl rfl hoko (Nat.le_of_ble_eq_true rfl)).rd); (unfold maxLen; (try simp only [List.length_cons, List.length_nil]); omega); ((try simp only [List.length_cons, List.length_nil]); omega); clear hR hS; intro s2 v2 w hR hS; simp only [cS, cZ])
          | ((with_reducible apply wpList_appG hR tStrsB); exact rfl; exact rfl; exact rfl; exact (hS); exact Les.head; exact ((hY.own hR).rd); (unfold maxLen; (try simp only [List.length_cons, List.length_nil]); omega); ((try simp only [List.length_cons, List.length_nil]); omega); clear hR hS; intro s2 v2 w hR hS; simp only [cS, cZ]))
      have hF := (castM hS (m := (parW true wl ++ (opS o :: parW false wr)).length) (ys := (parW true wl ++ (opS o :: parW false wr)).flatMap cellT) (by simp; omega) (by simp [cellT])).strsR (are_app hAX (.cons (op_tok ho12) hAY)).okS
      refine wp_region_tame hR [0, 1, 2, 3, 4, 5, 6, 7, 8, 9, 10, 11, 12, 13, 14, 15, 16] rfl ?_
      repeat (refine wpT_step rfl ?_; first
          | ((first | (with_reducible apply q_pl) | ((with_reducible apply q_gd); (first | (apply GdBy.gt; exact rfl; exact rfl) | (apply GdBy.gf; exact rfl; exact rfl) | (apply GdBy.t; exact rfl; exact rfl) | (apply GdBy.f; exact rfl; exact rfl)))); (first | ((with_reducible first | apply t_move | apply t_assign | apply t_and | apply t_or | apply t_cmp | apply t_not | apply t_one tIntV | apply t_one tStrE) <;> (first | (focus (repeat (first | (apply EvC.gv; exact rfl; (with_reducible first | exact Imp.refl _ | (apply Imp.left; exact Imp.refl _) | (apply Imp.right; exact Imp.refl _) | (apply Imp.left; apply Imp.left; exact Imp.refl _))) | (apply EvC.now; exact rfl) | (with_reducible first | apply EvAll.cons | exact EvAll.nil))); done) | exact rfl | fail | (focus (repeat (first | apply List.Mem.head | apply List.Mem.tail | apply List.mem_append_right)))))); (simp only [cS, cZ]; exact rfl))
          | ((first | (with_reducible apply q_pl) | ((with_reducible apply q_gd); (first | (apply GdBy.gt; exact rfl; exact rfl) | (apply GdBy.gf; exact rfl; exact rfl) | (apply GdBy.t; exact rfl; exact rfl) | (apply GdBy.f; exact rfl; exact rfl)))); (with_reducible apply t_call Tryd.call16); (first | (focus (repeat (first | (apply EvC.gv; exact rfl; (with_reducible first | exact Imp.refl _ | (apply Imp.left; exact Imp.refl _) | (apply Imp.right; exact Imp.refl _) | (apply Imp.left; apply Imp.left; exact Imp.refl _))) | (apply EvC.now; exact rfl) | (with_reducible first | apply EvAll.cons | exact EvAll.nil))); done) | exact rfl | fail | (focus (repeat (first | apply List.Mem.head | apply List.Mem.tail | apply List.mem_append_right)))); (intro hcc w hC; exact tame_below (levelR_any ho12 _) hC); (simp only [cS, cZ]; exact rfl))
          | ((with_reducible apply q_gd); (first | (apply GdBy.gt; exact rfl; exact rfl) | (apply GdBy.gf; exact rfl; exact rfl) | (apply GdBy.t; exact rfl; exact rfl) | (apply GdBy.f; exact rfl; exact rfl)); ((with_reducible apply t_num) <;> (first | (focus (repeat (first | (apply EvC.gv; exact rfl; (with_reducible first | exact Imp.refl _ | (apply Imp.left; exact Imp.refl _) | (apply Imp.right; exact Imp.refl _) | (apply Imp.left; apply Imp.left; exact Imp.refl _))) | (apply EvC.now; exact rfl) | (with_reducible first | apply EvAll.cons | exact EvAll.nil))); done) | exact rfl | fail | (focus (repeat (first | apply List.Mem.head | apply List.Mem.tail | apply List.mem_append_right))))); (simp only [cS, cZ]; exact rfl))
          | ((with_reducible apply wpT1_gpure); (first | (apply GdBy.gt; exact rfl; exact rfl) | (apply GdBy.gf; exact rfl; exact rfl) | (apply GdBy.t; exact rfl; exact rfl) | (apply GdBy.f; exact rfl; exact rfl)); intro K hK; go_simp; refine hK _ ?_; clear hK K; simp only [cS, cZ])
          | ((with_reducible apply wpT1_pure); exact rfl; intro K hK; go_simp; refine hK _ ?_; clear hK K; simp only [cS, cZ]))
      refine wpT_nil ?_
      clear hR; intro w hR
      go_wp2_with fail
      (try simp only [Exit.inBlock, Exit.then])
      refine bodyPost_ret (results_tmp5 rfl _ _ _) rfl ?_
      refine ⟨.op o tl tr, _, n, (okn && xl) && xr, ar, parW true wl ++ (opS o :: parW false wr), rfl, (hZ.own hR).below, ⟨ho12, hokl, hokr⟩, ?_, rel_op hrl hrr hDo, hF _ _ _ hR (fun r hr => List.mem_append_left _ hr), ?_, ?_, ?_⟩
      · show max (depE tl) (depE tr) + 1 ≤ d + 1; omega
      · show ToksAre _ (parT (decide (stE tl < lvl o)) (tkE tl) ++ opT o :: parT (decide (stE tr ≤ lvl o)) (tkE tr))
        rw [ebl, ebr]
        exact are_app hAX (.cons (op_tok ho12) hAY)
      · show (parW true wl ++ (opS o :: parW false wr)).length ≤ 2 * lenB d + 5
        rw [List.length_append, List.length_cons]
        omega
      · show ar ≤ at0 + (1 + 2 * szB d); omega
  · have HBL := Lib.hid (show cmpB .lss (stE tl) (lvl o) = some false from congrArg some (decide_eq_false bl))
    have ebl : decide (stE tl < lvl o) = false := decide_eq_false bl
    go_upto_region 12 with (first
        | ((with_reducible apply q_ls hR); exact rfl; (with_reducible apply t_lenRd Tryd.underlying22); (apply EvC.now; exact rfl); exact hK; (simp only [cS, cZ]; exact rfl); clear hR; intro w hR)
        | ((with_reducible apply q_ls hR); exact rfl; (with_reducible apply t_six Tryd.underlying22 iIntL); (apply EvC.now; exact rfl); (apply EvC.now; exact rfl); exact HAB.out; (simp only [cS, cZ]; exact rfl); clear hR; intro w hR)
        | ((with_reducible apply q_ls hR); exact rfl; (with_reducible apply t_oldOne tIntV); (apply EvC.now; exact rfl); (exact HC.out); exact rfl; (simp only [cS, cZ]; exact rfl); clear hR; intro w hR)
        | ((with_reducible apply q_ls hR); exact rfl; (with_reducible apply t_shrE (k := 2)); (apply EvC.now; exact rfl); (apply EvC.now; exact rfl); exact rfl; (decide); exact HSH.out; (simp only [cS, cZ]; exact rfl); clear hR; intro w hR)
        | ((with_reducible apply q_ls hR); exact rfl; (with_reducible apply t_rem); (apply EvC.now; exact rfl); (apply EvC.now; exact rfl); (decide); exact HO.out; (simp only [cS, cZ]; exact rfl); clear hR; intro w hR)
        | ((with_reducible apply q_ls hR); exact rfl; (with_reducible apply t_numE); (apply EvC.now; exact rfl); (apply EvC.now; exact rfl); exact rfl; (with_reducible first | exact HP.out | exact HA1.out | exact HQ.out | exact HM.out | exact HDD.out); (simp only [cS, cZ]; exact rfl); clear hR; intro w hR)
        | ((with_reducible apply q_ls hR); exact rfl; (with_reducible apply t_cmp); (apply EvC.now; exact rfl); (apply EvC.now; exact rfl); (with_reducible first | exact HL.out | exact HD0.out | exact HQ0.out | exact HBL.out | exact HBR.out); (simp only [cS, cZ]; exact rfl); clear hR; intro w hR)
        | ((with_reducible apply q_ls hR); exact rfl; (with_reducible apply t_extract); (apply EvC.now; exact rfl); exact rfl; (simp only [cS, cZ]; exact rfl); clear hR; intro w hR)
        | (go_at_call 16; refine (levelR_any ho12 _).mono ?_; rintro e w' ⟨rfl, hb⟩; replace hR := hR.grow hb; clear hb))
    have hX : Strs _ vl (parW false wl) := hSl
    have hAX := par_are (b := false) hAl
    have hLX := par_len false wl
    by_cases br : stE tr ≤ lvl o
    · have HBR := Lib.hid (show cmpB .leq (stE tr) (lvl o) = some true from congrArg some (decide_eq_true br))
      have ebr : decide (stE tr ≤ lvl o) = true := decide_eq_true br
      go_upto_region 14 with (first
          | ((with_reducible apply q_ls hR); exact rfl; (with_reducible apply t_lenRd Tryd.underlying22); (apply EvC.now; exact rfl); exact hK; (simp only [cS, cZ]; exact rfl); clear hR; intro w hR)
          | ((with_reducible apply q_ls hR); exact rfl; (with_reducible apply t_six Tryd.underlying22 iIntL); (apply EvC.now; exact rfl); (apply EvC.now; exact rfl); exact HAB.out; (simp only [cS, cZ]; exact rfl); clear hR; intro w hR)
          | ((with_reducible apply q_ls hR); exact rfl; (with_reducible apply t_oldOne tIntV); (apply EvC.now; exact rfl); (exact HC.out); exact rfl; (simp only [cS, cZ]; exact rfl); clear hR; intro w hR)
          | ((with_reducible apply q_ls hR); exact rfl; (with_reducible apply t_shrE (k := 2)); (apply EvC.now; exact rfl); (apply EvC.now; exact rfl); exact rfl; (decide); exact HSH.out; (simp only [cS, cZ]; exact rfl); clear hR; intro w hR)
          | ((with_reducible apply q_ls hR); exact rfl; (with_reducible apply t_rem); (apply EvC.now; exact rfl); (apply EvC.now; exact rfl); (decide); exact HO.out; (simp only [cS, cZ]; exact rfl); clear hR; intro w hR)
          | ((with_reducible apply q_ls hR); exact rfl; (with_reducible apply t_numE); (apply EvC.now; exact rfl); (apply EvC.now; exact rfl); exact rfl; (with_reducible first | exact HP.out | exact HA1.out | exact HQ.out | exact HM.out | exact HDD.out); (simp only [cS, cZ]; exact rfl); clear hR; intro w hR)
          | ((with_reducible apply q_ls hR); exact rfl; (with_reducible apply t_cmp); (apply EvC.now; exact rfl); (apply EvC.now; exact rfl); (with_reducible first | exact HL.out | exact HD0.out | exact HQ0.out | exact HBL.out | exact HBR.out); (simp only [cS, cZ]; exact rfl); clear hR; intro w hR)
          | ((with_reducible apply q_ls hR); exact rfl; (with_reducible apply t_extract); (apply EvC.now; exact rfl); exact rfl; (simp only [cS, cZ]; exact rfl); clear hR; intro w hR)
          | (go_at_call 16; refine (levelR_any ho12 _).mono ?_; rintro e w' ⟨rfl, hb⟩; replace hR := hR.grow hb; clear hb)
          | ((with_reducible apply wpList_buildS hR); exact rfl; exact rfl; (exact bStr1 _); clear hR; intro gs w hR; simp only [cS, cZ])
          | ((with_reducible apply wpList_appG hR tStrsB); exact rfl; exact rfl; exact rfl; exact (sl_row (ts := [[40]]) rfl rfl (by decide)); exact Les.head; exact ((hSr.own hR).rd); (unfold maxLen; (try simp only [List.length_cons, List.length_nil]); omega); ((try simp only [List.length_cons, List.length_nil]); omega); clear hR ; intro s2 v2 w hR hS; simp only [cS, cZ])
          | ((with_reducible apply wpList_appG hR tStrsB); exact rfl; exact rfl; exact rfl; exact (hS); exact Les.tail Les.head; exact ((strs_row hR (by (focus (repeat (first | apply List.Mem.head | apply List.Mem.tail | apply List.mem_append_right)))) (ts := [[41]]) rfl rfl ok41 (by decide)).rd); (unfold maxLen; (try simp only [List.length_cons, List.length_nil]); omega); ((try simp only [List.length_cons, List.length_nil]); omega); clear hR hS; intro s2 v2 w hR hS; simp only [cS, cZ]))
      have hY0 : Strs w v2 (parW true wr) := (castM hS (m := (parW true wr).length) (ys := (parW true wr).flatMap cellT) (by simp [parW]; omega) (by simp [parW])).strs hR (fun r hr => List.mem_append_left _ hr) (par_are (b := true) hAr).okS
      have hY := hY0
      clear hY0 hS
      replace hX := hX.own hR
      have hZ2 := (hZ).own hR
      have hR2 := hR.fresh
      clear hR
      try clear hZ
      have hZ := hZ2
      have hR := hR2
      clear hZ2 hR2
      have hAY := par_are (b := true) hAr
      have hLY := par_len true wr
      go_upto_region 16 with (first
          | ((with_reducible apply q_ls hR); exact rfl; (with_reducible apply t_lenRd Tryd.underlying22); (apply EvC.now; exact rfl); exact hK; (simp only [cS, cZ]; exact rfl); clear hR; intro w hR)
          | ((with_reducible apply q_ls hR); exact rfl; (with_reducible apply t_six Tryd.underlying22 iIntL); (apply EvC.now; exact rfl); (apply EvC.now; exact rfl); exact HAB.out; (simp only [cS, cZ]; exact rfl); clear hR; intro w hR)
          | ((with_reducible apply q_ls hR); exact rfl; (with_reducible apply t_oldOne tIntV); (apply EvC.now; exact rfl); (exact HC.out); exact rfl; (simp only [cS, cZ]; exact rfl); clear hR; intro w hR)
          | ((with_reducible apply q_ls hR); exact rfl; (with_reducible apply t_shrE (k := 2)); (apply EvC.now; exact rfl); (apply EvC.now; exact rfl); exact rfl; (decide); exact HSH.out; (simp only [cS, cZ]; exact rfl); clear hR; intro w hR)
          | ((with_reducible apply q_ls hR); exact rfl; (with_reducible apply t_rem); (apply EvC.now; exact rfl); (apply EvC.now; exact rfl); (decide); exact HO.out; (simp only [cS, cZ]; exact rfl); clear hR; intro w hR)
          | ((with_reducible apply q_ls hR); exact rfl; (with_reducible apply t_numE); (apply EvC.now; exact rfl); (apply EvC.now; exact rfl); exact rfl; (with_reducible first | exact HP.out | exact HA1.out | exact HQ.out | exact HM.out | exact HDD.out); (simp only [cS, cZ]; exact rfl); clear hR; intro w hR)
          | ((with_reducible apply q_ls hR); exact rfl; (with_reducible apply t_cmp); (apply EvC.now; exact rfl); (apply EvC.now; exact rfl); (with_reducible first | exact HL.out | exact HD0.out | exact HQ0.out | exact HBL.out | exact HBR.out); (simp only [cS, cZ]; exact rfl); clear hR; intro w hR)
          | ((with_reducible apply q_ls hR); exact rfl; (with_reducible apply t_extract); (apply EvC.now; exact rfl); exact rfl; (simp only [cS, cZ]; exact rfl); clear hR; intro w hR)
          | (go_at_call 17; refine (do_any ho12 HIL.out HIR.out _).mono ?_; rintro e w' ⟨n, okn, rfl, hb, hDo⟩; replace hR := hR.grow hb; clear hb)
          | (go_at_call 18; refine (opsR_any _).mono ?_; rintro e w' ⟨gop, rfl, hO⟩; replace hR : Own _ _ ((gop, opsC, 9) :: _) := hR.join hO; clear hO)
          | ((with_reducible apply wpList_buildS hR); exact rfl; exact rfl; (exact bStr0); clear hR; intro gs w hR; simp only [cS, cZ])
          | ((with_reducible apply wpList_buildS hR); exact rfl; exact rfl; (exact bStr1 _); clear hR; intro gs w hR; simp only [cS, cZ])
          | ((with_reducible apply q_ls hR); exact rfl; (with_reducible apply t_six Tryd.underlying23 iStrE); (apply EvC.now; exact rfl); (apply EvC.now; exact rfl); exact HOB.out; (simp only [cS, cZ]; exact rfl); clear hR; intro w hR)
          | ((with_reducible apply q_ls hR); exact rfl; (with_reducible apply t_oneAt tStrE); (apply EvC.now; exact rfl); exact List.Mem.head _; exact HOD.out; (simp only [cS, cZ]; exact rfl); clear hR; intro w hR)
          | ((with_reducible apply wpList_appG hR tStrsB); exact rfl; exact rfl; exact rfl; exact (sl_row (ts := []) rfl rfl (by decide)); exact Les.head; exact ((hX.own hR).rd); (unfold maxLen; (try simp only [List.length_cons, List.length_nil]); omega); ((try simp only [List.length_cons, List.length_nil]); omega); clear hR ; intro s2 v2 w hR hS; simp only [cS, cZ])
          | ((with_reducible apply wpList_appG hR tStrsB); exact rfl; exact rfl; exact rfl; exact (hS); exact (Les.tail (Les.tail Les.head)); exact ((strs_row hR (by (focus (repeat (first | apply List.Mem.head | apply List.Mem.tail | apply List.mem_append_right)))) (ts := [opS o]) rfl rfl hoko (Nat.le_of_ble_eq_true rfl)).rd); (unfold maxLen; (try simp only [List.length_cons, List.length_nil]); omega); ((try simp only [List.length_cons, List.length_nil]); omega); clear hR hS; intro s2 v2 w hR hS; simp only [cS, cZ])
          | ((with_reducible apply wpList_appG hR tStrsB); exact rfl; exact rfl; exact rfl; exact (hS); exact Les.head; exact ((hY.own hR).rd); (unfold maxLen; (try simp only [List.length_cons, List.length_nil]); omega); ((try simp only [List.length_cons, List.length_nil]); omega); clear hR hS; intro s2 v2 w hR hS; simp only [cS, cZ]))
      have hF := (castM hS (m := (parW false wl ++ (opS o :: parW true wr)).length) (ys := (parW false wl ++ (opS o :: parW true wr)).flatMap cellT) (by simp; omega) (by simp [cellT])).strsR (are_app hAX (.cons (op_tok ho12) hAY)).okS
      refine wp_region_tame hR [0, 1, 2, 3, 4, 5, 6, 7, 8, 9, 10, 11, 12, 13, 14, 15, 16] rfl ?_
      repeat (refine wpT_step rfl ?_; first
          | ((first | (with_reducible apply q_pl) | ((with_reducible apply q_gd); (first | (apply GdBy.gt; exact rfl; exact rfl) | (apply GdBy.gf; exact rfl; exact rfl) | (apply GdBy.t; exact rfl; exact rfl) | (apply GdBy.f; exact rfl; exact rfl)))); (first | ((with_reducible first | apply t_move | apply t_assign | apply t_and | apply t_or | apply t_cmp | apply t_not | apply t_one tIntV | apply t_one tStrE) <;> (first | (focus (repeat (first | (apply EvC.gv; exact rfl; (with_reducible first | exact Imp.refl _ | (apply Imp.left; exact Imp.refl _) | (apply Imp.right; exact Imp.refl _) | (apply Imp.left; apply Imp.left; exact Imp.refl _))) | (apply EvC.now; exact rfl) | (with_reducible first | apply EvAll.cons | exact EvAll.nil))); done) | exact rfl | fail | (focus (repeat (first | apply List.Mem.head | apply List.Mem.tail | apply List.mem_append_right)))))); (simp only [cS, cZ]; exact rfl))
          | ((first | (with_reducible apply q_pl) | ((with_reducible apply q_gd); (first | (apply GdBy.gt; exact rfl; exact rfl) | (apply GdBy.gf; exact rfl; exact rfl) | (apply GdBy.t; exact rfl; exact rfl) | (apply GdBy.f; exact rfl; exact rfl)))); (with_reducible apply t_call Tryd.call16); (first | (focus (repeat (first | (apply EvC.gv; exact rfl; (with_reducible first | exact Imp.refl _ | (apply Imp.left; exact Imp.refl _) | (apply Imp.right; exact Imp.refl _) | (apply Imp.left; apply Imp.left; exact Imp.refl _))) | (apply EvC.now; exact rfl) | (with_reducible first | apply EvAll.cons | exact EvAll.nil))); done) | exact rfl | fail | (focus (repeat (first | apply List.Mem.head | apply List.Mem.tail | apply List.mem_append_right)))); (intro hcc w hC; exact tame_below (levelR_any ho12 _) hC); (simp only [cS, cZ]; exact rfl))
          | ((with_reducible apply q_gd); (first | (apply GdBy.gt; exact rfl; exact rfl) | (apply GdBy.gf; exact rfl; exact rfl) | (apply GdBy.t; exact rfl; exact rfl) | (apply GdBy.f; exact rfl; exact rfl)); ((with_reducible apply t_num) <;> (first | (focus (repeat (first | (apply EvC.gv; exact rfl; (with_reducible first | exact Imp.refl _ | (apply Imp.left; exact Imp.refl _) | (apply Imp.right; exact Imp.refl _) | (apply Imp.left; apply Imp.left; exact Imp.refl _))) | (apply EvC.now; exact rfl) | (with_reducible first | apply EvAll.cons | exact EvAll.nil))); done) | exact rfl | fail | (focus (repeat (first | apply List.Mem.head | apply List.Mem.tail | apply List.mem_append_right))))); (simp only [cS, cZ]; exact rfl))
          | ((with_reducible apply wpT1_gpure); (first | (apply GdBy.gt; exact rfl; exact rfl) | (apply GdBy.gf; exact rfl; exact rfl) | (apply GdBy.t; exact rfl; exact rfl) | (apply GdBy.f; exact rfl; exact rfl)); intro K hK; go_simp; refine hK _ ?_; clear hK K; simp only [cS, cZ])
          | ((with_reducible apply wpT1_pure); exact rfl; intro K hK; go_simp; refine hK _ ?_; clear hK K; simp only [cS, cZ]))
      refine wpT_nil ?_
      clear hR; intro w hR
      go_wp2_with fail
      (try simp only [Exit.inBlock, Exit.then])
      refine bodyPost_ret (results_tmp5 rfl _ _ _) rfl ?_
      refine ⟨.op o tl tr, _, n, (okn && xl) && xr, ar, parW false wl ++ (opS o :: parW true wr), rfl, (hZ.own hR).below, ⟨ho12, hokl, hokr⟩, ?_, rel_op hrl hrr hDo, hF _ _ _ hR (fun r hr => List.mem_append_left _ hr), ?_, ?_, ?_⟩
      · show max (depE tl) (depE tr) + 1 ≤ d + 1; omega
      · show ToksAre _ (parT (decide (stE tl < lvl o)) (tkE tl) ++ opT o :: parT (decide (stE tr ≤ lvl o)) (tkE tr))
        rw [ebl, ebr]
        exact are_app hAX (.cons (op_tok ho12) hAY)
      · show (parW false wl ++ (opS o :: parW true wr)).length ≤ 2 * lenB d + 5
        rw [List.length_append, List.length_cons]
        omega
      · show ar ≤ at0 + (1 + 2 * szB d); omega
    · have HBR := Lib.hid (show cmpB .leq (stE tr) (lvl o) = some false from congrArg some (decide_eq_false br))
      have ebr : decide (stE tr ≤ lvl o) = false := decide_eq_false br
      go_upto_region 14 with (first
          | ((with_reducible apply q_ls hR); exact rfl; (with_reducible apply t_lenRd Tryd.underlying22); (apply EvC.now; exact rfl); exact hK; (simp only [cS, cZ]; exact rfl); clear hR; intro w hR)
          | ((with_reducible apply q_ls hR); exact rfl; (with_reducible apply t_six Tryd.underlying22 iIntL); (apply EvC.now; exact rfl); (apply EvC.now; exact rfl); exact HAB.out; (simp only [cS, cZ]; exact rfl); clear hR; intro w hR)
          | ((with_reducible apply q_ls hR); exact rfl; (with_reducible apply t_oldOne tIntV); (apply EvC.now; exact rfl); (exact HC.out); exact rfl; (simp only [cS, cZ]; exact rfl); clear hR; intro w hR)
          | ((with_reducible apply q_ls hR); exact rfl; (with_reducible apply t_shrE (k := 2)); (apply EvC.now; exact rfl); (apply EvC.now; exact rfl); exact rfl; (decide); exact HSH.out; (simp only [cS, cZ]; exact rfl); clear hR; intro w hR)
          | ((with_reducible apply q_ls hR); exact rfl; (with_reducible apply t_rem); (apply EvC.now; exact rfl); (apply EvC.now; exact rfl); (decide); exact HO.out; (simp only [cS, cZ]; exact rfl); clear hR; intro w hR)
          | ((with_reducible apply q_ls hR); exact rfl; (with_reducible apply t_numE); (apply EvC.now; exact rfl); (apply EvC.now; exact rfl); exact rfl; (with_reducible first | exact HP.out | exact HA1.out | exact HQ.out | exact HM.out | exact HDD.out); (simp only [cS, cZ]; exact rfl); clear hR; intro w hR)
          | ((with_reducible apply q_ls hR); exact rfl; (with_reducible apply t_cmp); (apply EvC.now; exact rfl); (apply EvC.now; exact rfl); (with_reducible first | exact HL.out | exact HD0.out | exact HQ0.out | exact HBL.out | exact HBR.out); (simp only [cS, cZ]; exact rfl); clear hR; intro w hR)
          | ((with_reducible apply q_ls hR); exact rfl; (with_reducible apply t_extract); (apply EvC.now; exact rfl); exact rfl; (simp only [cS, cZ]; exact rfl); clear hR; intro w hR)
          | (go_at_call 16; refine (levelR_any ho12 _).mono ?_; rintro e w' ⟨rfl, hb⟩; replace hR := hR.grow hb; clear hb))
      have hY : Strs _ vr (parW false wr) := hSr
      have hAY := par_are (b := false) hAr
      have hLY := par_len false wr
      go_upto_region 16 with (first
          | ((with_reducible apply q_ls hR); exact rfl; (with_reducible apply t_lenRd Tryd.underlying22); (apply EvC.now; exact rfl); exact hK; (simp only [cS, cZ]; exact rfl); clear hR; intro w hR)
          | ((with_reducible apply q_ls hR); exact rfl; (with_reducible apply t_six Tryd.underlying22 iIntL); (apply EvC.now; exact rfl); (apply EvC.now; exact rfl); exact HAB.out; (simp only [cS, cZ]; exact rfl); clear hR; intro w hR)
          | ((with_reducible apply q_ls hR); exact rfl; (with_reducible apply t_oldOne tIntV); (apply EvC.now; exact rfl); (exact HC.out); exact rfl; (simp only [cS, cZ]; exact rfl); clear hR; intro w hR)
          | ((with_reducible apply q_ls hR); exact rfl; (with_reducible apply t_shrE (k := 2)); (apply EvC.now; exact rfl); (apply EvC.now; exact rfl); exact rfl; (decide); exact HSH.out; (simp only [cS, cZ]; exact rfl); clear hR; intro w hR)
          | ((with_reducible apply q_ls hR); exact rfl; (with_reducible apply t_rem); (apply EvC.now; exact rfl); (apply EvC.now; exact rfl); (decide); exact HO.out; (simp only [cS, cZ]; exact rfl); clear hR; intro w hR)
          | ((with_reducible apply q_ls hR); exact rfl; (with_reducible apply t_numE); (apply EvC.now; exact rfl); (apply EvC.now; exact rfl); exact rfl; (with_reducible first | exact HP.out | exact HA1.out | exact HQ.out | exact HM.out | exact HDD.out); (simp only [cS, cZ]; exact rfl); clear hR; intro w hR)
          | ((with_reducible apply q_ls hR); exact rfl; (with_reducible apply t_cmp); (apply EvC.now; exact rfl); (apply EvC.now; exact rfl); (with_reducible first | exact HL.out | exact HD0.out | exact HQ0.out | exact HBL.out | exact HBR.out); (simp only [cS, cZ]; exact rfl); clear hR; intro w hR)
          | ((with_reducible apply q_ls hR); exact rfl; (with_reducible apply t_extract); (apply EvC.now; exact rfl); exact rfl; (simp only [cS, cZ]; exact rfl); clear hR; intro w hR)
          | (go_at_call 17; refine (do_any ho12 HIL.out HIR.out _).mono ?_; rintro e w' ⟨n, okn, rfl, hb, hDo⟩; replace hR := hR.grow hb; clear hb)
          | (go_at_call 18; refine (opsR_any _).mono ?_; rintro e w' ⟨gop, rfl, hO⟩; replace hR : Own _ _ ((gop, opsC, 9) :: _) := hR.join hO; clear hO)
          | ((with_reducible apply wpList_buildS hR); exact rfl; exact rfl; (exact bStr0); clear hR; intro gs w hR; simp only [cS, cZ])
          | ((with_reducible apply wpList_buildS hR); exact rfl; exact rfl; (exact bStr1 _); clear hR; intro gs w hR; simp only [cS, cZ])
          | ((with_reducible apply q_ls hR); exact rfl; (with_reducible apply t_six Tryd.underlying23 iStrE); (apply EvC.now; exact rfl); (apply EvC.now; exact rfl); exact HOB.out; (simp only [cS, cZ]; exact rfl); clear hR; intro w hR)
          | ((with_reducible apply q_ls hR); exact rfl; (with_reducible apply t_oneAt tStrE); (apply EvC.now; exact rfl); exact List.Mem.head _; exact HOD.out; (simp only [cS, cZ]; exact rfl); clear hR; intro w hR)
          | ((with_reducible apply wpList_appG hR tStrsB); exact rfl; exact rfl; exact rfl; exact (sl_row (ts := []) rfl rfl (by decide)); exact Les.head; exact ((hX.own hR).rd); (unfold maxLen; (try simp only [List.length_cons, List.length_nil]); omega); ((try simp only [List.length_cons, List.length_nil]); omega); clear hR ; intro s2 v2 w hR hS; simp only [cS, cZ])
          | ((with_reducible apply wpList_appG hR tStrsB); exact rfl; exact rfl; exact rfl; exact (hS); exact (Les.tail (Les.tail Les.head)); exact ((strs_row hR (by (focus (repeat (first | apply List.Mem.head | apply List.Mem.tail | apply List.mem_append_right)))) (ts := [opS o]) rfl rfl hoko (Nat.le_of_ble_eq_true rfl)).rd); (unfold maxLen; (try simp only [List.length_cons, List.length_nil]); omega); ((try simp only [List.length_cons, List.length_nil]); omega); clear hR hS; intro s2 v2 w hR hS; simp only [cS, cZ])
          | ((with_reducible apply wpList_appG hR tStrsB); exact rfl; exact rfl; exact rfl; exact (hS); exact Les.head; exact ((hY.own hR).rd); (unfold maxLen; (try simp only [List.length_cons, List.length_nil]); omega); ((try simp only [List.length_cons, List.length_nil]); omega); clear hR hS; intro s2 v2 w hR hS; simp only [cS, cZ]))
      have hF := (castM hS (m := (parW false wl ++ (opS o :: parW false wr)).length) (ys := (parW false wl ++ (opS o :: parW false wr)).flatMap cellT) (by simp; omega) (by simp [cellT])).strsR (are_app hAX (.cons (op_tok ho12) hAY)).okS
      refine wp_region_tame hR [0, 1, 2, 3, 4, 5, 6, 7, 8, 9, 10, 11, 12, 13, 14, 15, 16] rfl ?_
      repeat (refine wpT_step rfl ?_; first
          | ((first | (with_reducible apply q_pl) | ((with_reducible apply q_gd); (first | (apply GdBy.gt; exact rfl; exact rfl) | (apply GdBy.gf; exact rfl; exact rfl) | (apply GdBy.t; exact rfl; exact rfl) | (apply GdBy.f; exact rfl; exact rfl)))); (first | ((with_reducible first | apply t_move | apply t_assign | apply t_and | apply t_or | apply t_cmp | apply t_not | apply t_one tIntV | apply t_one tStrE) <;> (first | (focus (repeat (first | (apply EvC.gv; exact rfl; (with_reducible first | exact Imp.refl _ | (apply Imp.left; exact Imp.refl _) | (apply Imp.right; exact Imp.refl _) | (apply Imp.left; apply Imp.left; exact Imp.refl _))) | (apply EvC.now; exact rfl) | (with_reducible first | apply EvAll.cons | exact EvAll.nil))); done) | exact rfl | fail | (focus (repeat (first | apply List.Mem.head | apply List.Mem.tail | apply List.mem_append_right)))))); (simp only [cS, cZ]; exact rfl))
          | ((first | (with_reducible apply q_pl) | ((with_reducible apply q_gd); (first | (apply GdBy.gt; exact rfl; exact rfl) | (apply GdBy.gf; exact rfl; exact rfl) | (apply GdBy.t; exact rfl; exact rfl) | (apply GdBy.f; exact rfl; exact rfl)))); (with_reducible apply t_call Tryd.call16); (first | (focus (repeat (first | (apply EvC.gv; exact rfl; (with_reducible first | exact Imp.refl _ | (apply Imp.left; exact Imp.refl _) | (apply Imp.right; exact Imp.refl _) | (apply Imp.left; apply Imp.left; exact Imp.refl _))) | (apply EvC.now; exact rfl) | (with_reducible first | apply EvAll.cons | exact EvAll.nil))); done) | exact rfl | fail | (focus (repeat (first | apply List.Mem.head | apply List.Mem.tail | apply List.mem_append_right)))); (intro hcc w hC; exact tame_below (levelR_any ho12 _) hC); (simp only [cS, cZ]; exact rfl))
          | ((with_reducible apply q_gd); (first | (apply GdBy.gt; exact rfl; exact rfl) | (apply GdBy.gf; exact rfl; exact rfl) | (apply GdBy.t; exact rfl; exact rfl) | (apply GdBy.f; exact rfl; exact rfl)); ((with_reducible apply t_num) <;> (first | (focus (repeat (first | (apply EvC.gv; exact rfl; (with_reducible first | exact Imp.refl _ | (apply Imp.left; exact Imp.refl _) | (apply Imp.right; exact Imp.refl _) | (apply Imp.left; apply Imp.left; exact Imp.refl _))) | (apply EvC.now; exact rfl) | (with_reducible first | apply EvAll.cons | exact EvAll.nil))); done) | exact rfl | fail | (focus (repeat (first | apply List.Mem.head | apply List.Mem.tail | apply List.mem_append_right))))); (simp only [cS, cZ]; exact rfl))
          | ((with_reducible apply wpT1_gpure); (first | (apply GdBy.gt; exact rfl; exact rfl) | (apply GdBy.gf; exact rfl; exact rfl) | (apply GdBy.t; exact rfl; exact rfl) | (apply GdBy.f; exact rfl; exact rfl)); intro K hK; go_simp; refine hK _ ?_; clear hK K; simp only [cS, cZ])
          | ((with_reducible apply wpT1_pure); exact rfl; intro K hK; go_simp; refine hK _ ?_; clear hK K; simp only [cS, cZ]))
      refine wpT_nil ?_
      clear hR; intro w hR
      go_wp2_with fail
      (try simp only [Exit.inBlock, Exit.then])
      refine bodyPost_ret (results_tmp5 rfl _ _ _) rfl ?_
      refine ⟨.op o tl tr, _, n, (okn && xl) && xr, ar, parW false wl ++ (opS o :: parW false wr), rfl, (hZ.own hR).below, ⟨ho12, hokl, hokr⟩, ?_, rel_op hrl hrr hDo, hF _ _ _ hR (fun r hr => List.mem_append_left _ hr), ?_, ?_, ?_⟩
      · show max (depE tl) (depE tr) + 1 ≤ d + 1; omega
      · show ToksAre _ (parT (decide (stE tl < lvl o)) (tkE tl) ++ opT o :: parT (decide (stE tr ≤ lvl o)) (tkE tr))
        rw [ebl, ebr]
        exact are_app hAX (.cons (op_tok ho12) hAY)
      · show (parW false wl ++ (opS o :: parW false wr)).length ≤ 2 * lenB d + 5
        rw [List.length_append, List.length_cons]
        omega
      · show ar ≤ at0 + (1 + 2 * szB d); omega
theorem make4_any {w0 : World} {v : Value} {ks : List Int} (hK : Ints w0 v ks) : Calls Tryd.prog 7 #[v, .int .i64 0, .int .i64 4] w0 (MakeP 4 0 w0) :=
  makeS_any (d := 3) (by decide) (fun hK at0 h => makeS_any (d := 2) (by decide) (fun hK at0 h => makeS_any (d := 1) (by decide) (fun hK at0 h => makeS_any (d := 0) (by decide) (fun hK at0 h => make0_any hK at0 h) hK at0 h) hK at0 h) hK at0 h) hK 0 (by decide)
end Go.Proofs.YtckkgooabnlooaaDoor
