/- Several texts in one, in their order of building; each begins with what it is. No statement of the seat is proved here. -/
import Derived.Test.YtckkgooabnlooaaDoorReg30
import Derived.Test.YtckkgooabnlooaaDoorCell
import Derived.Deep.Slices
import Derived.OpenShut
/- Whatever pieces come, the reader's model comes to an end; what numbers in many brackets come to. No statement of the seat is proved here. -/
namespace Go.Proofs.YtckkgooabnlooaaDoor
open Go.ChangeShapes Go.WideShapes Go.ChangeAt Go.RowKit
set_option linter.unusedVariables false
set_option linter.unusedSimpArgs false
set_option maxRecDepth 100000

/-- It ends: with fewer than m pieces left, or as one of two errors. -/
def EndR (m : Nat) (r : Rs PartZ) : Prop := match r with
  | .ok _ s => s.l.length < m
  | .bad e => e = 3 ∨ e = 8
  | .out => False
theorem EndR.mono {m m' : Nat} {r : Rs PartZ} (h : EndR m r) (hm : m ≤ m') : EndR m' r := by
  cases r with
  | ok p s => exact Nat.lt_of_lt_of_le h hm
  | bad e => exact h
  | out => exact h
theorem deep_end {m : Nat} {f : St → Rs PartZ} {s : St} (h : EndR m (f (deepS s))) : EndR m (deepM f s) := by
  unfold deepM
  split
  · exact .inr rfl
  · cases hf : f (deepS s) with
    | ok p s' => rw [hf] at h; exact h
    | bad e => rw [hf] at h; exact h
    | out => rw [hf] at h; exact h
theorem must_end {m : Nat} {a : PartZ} {s : St} {c : List Int} (h : s.l.length < m) : EndR m (mustM a s c) := by
  unfold mustM
  split
  · exact .inl rfl
  · rename_i t r hl
    rw [hl] at h
    cases isZ t 4 c with
    | true => exact Nat.lt_of_succ_lt h
    | false => exact .inl rfl
theorem close_end {m : Nat} {r : Rs PartZ} (h : EndR m r) : EndR m (closeR r) := by
  cases r with
  | ok p s => exact must_end h
  | bad e => exact h
  | out => exact h
theorem end_end {m : Nat} {r : Rs PartZ} (h : EndR m r) : EndR m (endR r) := by
  cases r with
  | ok p s => exact must_end (show (outS s).l.length < m from h)
  | bad e => exact h
  | out => exact h
theorem bracket_end {m : Nat} {ex : St → Rs PartZ} {s : St} {a : List Int} (h : ∀ s', s'.l = s.l → EndR m (ex s')) : EndR m (bracketM ex s a) := by
  unfold bracketM
  split
  · exact close_end (deep_end (h _ rfl))
  split
  · exact end_end (deep_end (h _ rfl))
  · exact .inl rfl
theorem orBad_end {m : Nat} {o : Option PartZ} {s : St} (h : s.l.length < m) : EndR m (orBad o s) := by
  cases o with
  | none => exact .inl rfl
  | some p => exact h
theorem firstT_end {m : Nat} {tb : TabZ} {ex : St → Rs PartZ} {t : TokZ} {s : St} (h : ∀ s', s'.l = s.l → EndR m (ex s')) (hs : s.l.length < m) : EndR m (firstT tb ex t s) := by
  unfold firstT
  split
  · exact hs
  split
  · cases decide (t.s.length = 1) || decide (t.s.length = 2) with
    | true => exact hs
    | false => exact .inl rfl
  split
  · exact orBad_end hs
  split
  · exact bracket_end h
  · exact .inl rfl
theorem first_end {tb : TabZ} {ex : St → Rs PartZ} {s : St} (h : ∀ s', s'.l.length < s.l.length → EndR s.l.length (ex s')) : EndR s.l.length (firstM tb ex s) := by
  unfold firstM
  split
  · exact .inl rfl
  · rename_i t r hl
    have hr : r.length < s.l.length := by rw [hl]; exact Nat.lt_succ_self _
    exact firstT_end (fun s' hs' => h s' (by rw [hs']; exact hr)) hr
theorem then_end {m m' : Nat} {r : Rs PartZ} {f : PartZ → St → Rs PartZ} (h : EndR m r) (hf : ∀ p s, s.l.length < m → EndR m' (f p s)) : EndR m' (andThen r f) := by
  cases r with
  | ok p s => exact hf p s h
  | bad e => exact h
  | out => exact h.elim
theorem meet_end {m : Nat} {o : Option PartZ} {f : PartZ → Rs PartZ} (h : ∀ p, EndR m (f p)) : EndR m (meetR o f) := by
  cases o with
  | none => exact .inl rfl
  | some p => exact h p
theorem word_end {m : Nat} {a : List Int} {r : Rs PartZ} (h : EndR m r) : EndR m (wordR a r) := by
  cases r with
  | ok p s => exact orBad_end h
  | bad e => exact h
  | out => exact h
theorem kind_end {m : Nat} {n : Int} {r : Rs PartZ} (h : EndR m r) : EndR m (kindR n r) := by
  cases r with
  | ok p s => exact h
  | bad e => exact h
  | out => exact h
theorem over_end {m : Nat} {n : Int} {r : Rs PartZ} (h : EndR m r) : EndR m (overR n r) := by
  cases r with
  | ok p s => exact h
  | bad e => exact h
  | out => exact h
theorem ptr_end {m : Nat} {ah : St → Rs PartZ} {n : Int} {s : St} (h : ∀ s', s'.l.length < s.l.length → EndR m (ah s')) : EndR m (ptrM ah n s) := by
  unfold ptrM
  split
  · exact .inl rfl
  · rename_i t r hl
    cases isZ t 1 sPTR with
    | true => exact kind_end (deep_end (h _ (by rw [hl]; exact Nat.lt_succ_self _)))
    | false => exact .inl rfl
theorem tail_len {s : St} (h : s.l ≠ []) : (tailS s).l.length < s.l.length := by
  cases hl : s.l with
  | nil => exact absurd hl h
  | cons t r => unfold tailS; rw [hl]; simp
theorem tail_le {s : St} : (tailS s).l.length ≤ s.l.length := by
  unfold tailS; simp
def rankJ : Job → Nat
  | .ex _ => 2
  | .ah => 1
  | _ => 0
def moreJ : Job → Nat
  | .lo _ _ => 1
  | .ol _ => 1
  | _ => 0
theorem parse_end (tb : TabZ) : ∀ (n : Nat) (j : Job) (s : St), 3 * s.l.length + rankJ j < n → EndR (s.l.length + moreJ j) (parseM tb n j s) := by
  intro n
  induction n with
  | zero => intro j s h; exact absurd h (Nat.not_lt_zero _)
  | succ n ih =>
    intro j s h
    have hex : ∀ (k : Int) (s' : St), s'.l.length < s.l.length → EndR s'.l.length (parseM tb n (.ex k) s') := fun k s' hl => ih (.ex k) s' (by simp only [rankJ]; omega)
    have hex1 : ∀ s' : St, s'.l.length < s.l.length → EndR s.l.length (parseM tb n (.ex 1) s') := fun s' hl => (hex 1 s' hl).mono (by omega)
    cases j with
    | ex k =>
      simp only [rankJ] at h
      show EndR s.l.length (andThen (parseM tb n .ah s) fun p s1 => parseM tb n (.lo k p) s1)
      refine then_end (m := s.l.length) (ih .ah s (by simp only [rankJ]; omega)) fun p s1 h1 => ?_
      exact (ih (.lo k p) s1 (by simp only [rankJ]; omega)).mono (by simp only [moreJ]; omega)
    | lo k p =>
      show EndR (s.l.length + 1) (if strengthZ (nextZ s) < k then .ok p s else match s.l with
        | [] => .bad 3
        | t :: r => andThen (parseM tb n (.ex (strengthZ t + 1)) { s with l := r }) fun q s2 => meetR (togetherZ t.s p q) fun p' => parseM tb n (.lo k p') s2)
      split
      · exact Nat.lt_succ_self _
      split
      · exact .inl rfl
      · rename_i t r hl
        have hr : r.length < s.l.length := by rw [hl]; exact Nat.lt_succ_self _
        refine then_end (hex _ { s with l := r } hr) fun q s2 h2 => meet_end fun p' => ?_
        have h3 : s2.l.length < r.length := h2
        exact (ih (.lo k p') s2 (by simp only [rankJ] at h ⊢; omega)).mono (by simp only [moreJ]; omega)
    | ah =>
      simp only [rankJ] at h
      have hah : ∀ s' : St, s'.l.length < s.l.length → EndR s.l.length (parseM tb n .ah s') := fun s' hl => (ih .ah s' (by simp only [rankJ]; omega)).mono (by simp only [moreJ]; omega)
      show EndR s.l.length (aheadM (parseM tb n .ah) (parseM tb n .on) s)
      have hon : EndR s.l.length (parseM tb n .on s) := ih .on s (by simp only [rankJ]; omega)
      unfold aheadM
      by_cases hn : s.l = []
      · have e1 : leadsZ (nextZ s) = false := by unfold nextZ; rw [hn]; rfl
        have e2 : (decide ((nextZ s).k = 1) && !decide (pointedZ (nextZ s).s = 0)) = false := by unfold nextZ; rw [hn]; rfl
        have e3 : segB s = false := by unfold segB; rw [hn]; rfl
        rw [e1, e2, e3]
        exact hon
      · have ht := tail_len hn
        cases leadsZ (nextZ s) with
        | true => exact word_end (deep_end (hah _ ht))
        | false =>
          cases decide ((nextZ s).k = 1) && !decide (pointedZ (nextZ s).s = 0) with
          | true => exact ptr_end fun s' hs' => hah s' (by omega)
          | false =>
            cases segB s with
            | true => exact over_end (deep_end (hah _ (Nat.lt_of_le_of_lt tail_le ht)))
            | false => exact hon
    | on =>
      simp only [rankJ] at h
      show EndR s.l.length (andThen (firstM tb (parseM tb n (.ex 1)) s) fun p s1 => parseM tb n (.ol p) s1)
      refine then_end (first_end hex1) fun p s1 h1 => ?_
      exact (ih (.ol p) s1 (by simp only [rankJ]; omega)).mono (by simp only [moreJ]; omega)
    | ol p =>
      show EndR (s.l.length + 1) (bif isZ (nextZ s) 4 sIN then andThen (firstM tb (parseM tb n (.ex 1)) s) fun q s1 => meetR (addedZ p q) fun p' => parseM tb n (.ol p') s1 else .ok p s)
      cases isZ (nextZ s) 4 sIN with
      | true =>
        refine then_end (first_end hex1) fun q s1 h1 => meet_end fun p' => ?_
        exact (ih (.ol p') s1 (by simp only [rankJ] at h ⊢; omega)).mono (by simp only [moreJ]; omega)
      | false => exact Nat.lt_succ_self _
/-- An operand, or none. -/
theorem opd_end (tb : TabZ) {l : List TokZ} (hl : l.length ≤ 30) : (parseM tb 100 (.ex 1) (startS l)).got ∧ ((opdR (parseM tb 100 (.ex 1) (startS l))).2 = 0 ∨ ((opdR (parseM tb 100 (.ex 1) (startS l))).1 = zeroOpd ∧ ((opdR (parseM tb 100 (.ex 1) (startS l))).2 = 3 ∨ (opdR (parseM tb 100 (.ex 1) (startS l))).2 = 8))) := by
  have h := parse_end tb 100 (.ex 1) (startS l) (by show 3 * l.length + 2 < 100; omega)
  cases hp : parseM tb 100 (.ex 1) (startS l) with
  | ok p s =>
    refine ⟨trivial, ?_⟩
    by_cases h0 : s.l.length = 0
    · by_cases h1 : 40 < s.m
      · exact .inr (by simp [opdR, wholeR, h0, h1])
      · exact .inl (by simp [opdR, wholeR, h0, h1])
    · exact .inr (by simp [opdR, wholeR, h0])
  | bad e => rw [hp] at h; exact ⟨trivial, .inr ⟨rfl, h⟩⟩
  | out => rw [hp] at h; exact h.elim
/-! ### A number in many brackets -/
def deepT (k : Nat) : List TokZ := List.replicate k (tkS 40) ++ (tkN 7 :: List.replicate k (tkS 41))
def deepW (k : Nat) : List (List Int) := List.replicate k [40] ++ ([35, 55] :: List.replicate k [41])
def deepOk (k : Nat) : Bool := gotB (parseM zTab 400 (.ex 1) (startS (deepT k))) && (match numberR (opdR (parseM zTab 400 (.ex 1) (startS (deepT k)))) with
  | (v, f) => ((decide (f = 0) && decide (v.n = 7)) || (decide (f = 8) && decide (15 < k))) && (decide (15 < k) || decide (f = 0)))
theorem deep_all : ((List.range 65).all fun k => deepOk k) = true := by kernel_rfl
end Go.Proofs.YtckkgooabnlooaaDoor
/- Pieces as a law's argument. No statement of the seat is proved here. -/
namespace Go.Proofs.YtckkgooabnlooaaDoor
open Go.ChangeShapes Go.WideShapes Go.ChangeAt Go.RowKit
set_option linter.unusedVariables false
set_option linter.unusedSimpArgs false
set_option maxRecDepth 100000

theorem u64_nat {n : Int} (h : (Lit.int .u64 n).wf = true) : 0 ≤ n := (bounds_u64 h).1
section
variable {H : Type} {enc : TypeId × Value → H} {w : World} {base : Nat} {spare : Nat → Bool} {held : Bool}
theorem open_tokEl {m : Nat} {cs : List Value} {x : DataW H × List MemPlace} (h : DataW.trod enc Tryd.prog w base spare held m 59 cs = some x) (hl : cs.length = 4) : ∃ t : TokZ, bytesOk t.s ∧ cs = cellsTok t := by
  obtain ⟨ys, n, rfl, _, _, hy, hf⟩ := DataW.trod_struct Tryd.underlying59 h
  have c1 : Tryd.prog.cellsOf 3 = 1 := by kernel_rfl
  have c2 : Tryd.prog.cellsOf 9 = 1 := by kernel_rfl
  have c3 : Tryd.prog.cellsOf 57 = 1 := by kernel_rfl
  match cs, hl with
  | [x0, x1, x2, x3], _ =>
    have hy' : ys.length = 4 := hy
    have h0 : DataW.trod enc Tryd.prog w base spare held n 3 (([x0, x1, x2, x3].drop 0).take (Tryd.prog.cellsOf 3)) = ys[0]? := hf 0 _ rfl
    rw [c1] at h0
    have h1 : DataW.trod enc Tryd.prog w base spare held n 9 (([x0, x1, x2, x3].drop 1).take (Tryd.prog.cellsOf 9)) = ys[1]? := hf 1 _ rfl
    rw [c2] at h1
    have h2 : DataW.trod enc Tryd.prog w base spare held n 57 (([x0, x1, x2, x3].drop 2).take (Tryd.prog.cellsOf 57)) = ys[2]? := hf 2 _ rfl
    rw [c3] at h2
    have h3 : DataW.trod enc Tryd.prog w base spare held n 57 (([x0, x1, x2, x3].drop 3).take (Tryd.prog.cellsOf 57)) = ys[3]? := hf 3 _ rfl
    rw [c3] at h3
    obtain ⟨n0, rfl, w0⟩ := cell1 Tryd.underlying3 h0 (some_at hy' (by decide)) (x := x0) rfl
    obtain ⟨n2, rfl, w2⟩ := cell1 Tryd.underlying57 h2 (some_at hy' (by decide)) (x := x2) rfl
    obtain ⟨n3, rfl, w3⟩ := cell1 Tryd.underlying57 h3 (some_at hy' (by decide)) (x := x3) rfl
    obtain ⟨y1, hy1⟩ := Option.isSome_iff_exists.1 (some_at hy' (show 1 < 4 by decide))
    rw [hy1] at h1
    obtain ⟨s, hs, _, _⟩ := DataW.trod_string Tryd.underlying9 h1
    have : x1 = .string s := (List.cons.inj hs).1
    subst this
    refine ⟨⟨n0, numsS s, n2.toNat, n3.toNat⟩, numsS_ok s, ?_⟩
    show [Value.int .i64 n0, .string s, .int .u64 n2, .int .u64 n3] = [Value.int .i64 n0, .string (strOfNums (numsS s)), .int .u64 (n2.toNat : Int), .int .u64 (n3.toNat : Int)]
    rw [strOf_nums, Int.toNat_of_nonneg (u64_nat w2), Int.toNat_of_nonneg (u64_nat w3)]
def ToksIn (w : World) (v : Value) : Prop := ∃ ts, Toks w v ts
theorem open_toks {W : World} {b : Nat} {v : Value} {d : DataW H} {p : List MemPlace} (hk : Value.okWide Tryd.prog W .any b 31 v) (h : DataW.Trod enc Tryd.prog w base spare held 31 v d p) : ToksIn w v := by
  obtain ⟨a0, len, cap, rfl⟩ := okWide_slice Tryd.underlying31 hk
  obtain ⟨fuel, hf⟩ := h
  have hC : Tryd.prog.cellsOf 59 = 4 := by kernel_rfl
  rcases Deep.open_slice Tryd.underlying31 hf with ⟨h0, _⟩ | ⟨a, len', cap', m, n, D, Pl, h0, _, hlc, _, hm, _, hx⟩
  · have e : Value.slice a0 len cap = .slice none 0 0 := (List.cons.inj h0).1
    rw [e]
    exact ⟨[], ⟨(fun _ h => nomatch h), ⟨rfl, rfl, .inl ⟨rfl, rfl, rfl⟩⟩⟩⟩
  · have e : Value.slice a0 len cap = .slice (some a) len' cap' := (List.cons.inj h0).1
    rw [e]
    have hle : len' ≤ m := by rw [hm]; split <;> omega
    have hE : ∀ i, ∃ z : TokZ, i < len' → bytesOk z.s ∧ ∀ j u, (cellsTok z)[j]? = some u → w.cell? ((a.add (i * 4)).add j) = some u := by
      intro i
      by_cases hi : i < len'
      · obtain ⟨cs', h1, h2⟩ := hx i (by omega)
        rw [hC] at h1
        obtain ⟨_, hl, hat⟩ := World.cells?_some h1
        obtain ⟨z, hz, rfl⟩ := open_tokEl h2 hl
        refine ⟨z, fun _ => ⟨hz, fun j u hu => ?_⟩⟩
        have hj : j < 4 := (List.getElem?_eq_some_iff.1 hu).1
        rw [hat j hj]; exact hu
      · exact ⟨noTok, fun h => absurd h hi⟩
    obtain ⟨E, hE⟩ := Classical.axiomOfChoice hE
    refine ⟨(List.range len').map E, fun t ht => ?_, ?_⟩
    · obtain ⟨i, hi, rfl⟩ := List.mem_map.1 ht
      exact (hE i (by simpa using hi)).1
    · have hr := rd_flat (w := w) (a := a) (cap := cap') (E := E) cellsTok_len (by decide) cellsTok_one hlc (fun i hi j u hu => (hE i hi).2 j u hu)
      rw [List.length_map, List.length_range]
      exact hr
end
end Go.Proofs.YtckkgooabnlooaaDoor
/- 'table' of hansomlaw30. No statement of the seat is proved here. -/
namespace Go.Proofs.YtckkgooabnlooaaDoor
open Go.ChangeShapes Go.WideShapes Go.ChangeAt Go.RowKit
set_option linter.unusedVariables false
set_option linter.unusedSimpArgs false
set_option maxRecDepth 100000

theorem zTabT : ZeroTy Tryd.prog 35 (encTb zTab) := .of (by kernel_rfl)
theorem put_tabT (p q : TabZ) : PutRel (encTb p) 0 (encTb q).toList (encTb q) := putList_all rfl
theorem bStr4 (a b c d : ByteArray) : BuiltS Tryd.prog 23 4 [(0, .string a), (1, .string b), (2, .string c), (3, .string d)] 9 #[.string a, .string b, .string c, .string d] := ⟨fun w => by simp [go_sem]⟩
theorem bValL (n f x t : Int) (k : Bool) : Built Tryd.prog 27 [(0, .int .i64 n), (1, .int .i64 f), (2, .int .i64 x), (3, .int .i64 t), (5, .bool k)] (encV ⟨n, f, x, t, 0, k⟩) := ⟨by kernel_rfl⟩
theorem bValM (f x t : Int) (k : Bool) : Built Tryd.prog 27 [(1, .int .i64 f), (2, .int .i64 x), (3, .int .i64 t), (5, .bool k)] (encV ⟨0, f, x, t, 0, k⟩) := ⟨by kernel_rfl⟩
def tabN : List (List Int) := [[68], [78], [70], [75]]
def tabV (m : Int) : List ValZ := [⟨m, 1, 1, 2, 0, true⟩, ⟨3, 1, 2, 101, 0, true⟩, ⟨0, 3, 5, 102, 0, true⟩, ⟨40, 0, 0, 0, 0, true⟩]
def tabH : ValZ := ⟨9, 1, 2, 101, 0, true⟩
def tabL (m : Int) (g1 g2 : Nat) : TabZ := ⟨.slice (some ⟨g1, 0, none⟩) 4 4, .slice (some ⟨g2, 0, none⟩) 4 4, tabN, tabV m, tabH⟩
theorem bTabL (m : Int) (g1 g2 : Nat) : Built Tryd.prog 35 [(0, .slice (some ⟨g1, 0, none⟩) 4 4), (1, .slice (some ⟨g2, 0, none⟩) 4 4), (2, .agg (encV tabH))] (encTb (tabL m g1 g2)) := ⟨by kernel_rfl⟩
def valC (v : ValZ) : List Value := (encV v).toList
theorem valC_one (v : ValZ) : (valC v).all (·.oneCell') = true := by simp [valC, encV, Value.oneCell']
theorem valC_len (v : ValZ) : (valC v).length = 6 := rfl
def tabC (a b c d : ValZ) : List Value := [a, b, c, d].flatMap valC
theorem bVals4 (a b c d : ValZ) : BuiltS Tryd.prog 33 4 [(0, .agg (encV a)), (1, .agg (encV b)), (2, .agg (encV c)), (3, .agg (encV d))] 27 (tabC a b c d).toArray := ⟨fun w => by simp [go_sem, tabC, encV, valC]⟩
theorem tabC_sl (a b c d : ValZ) (g : Nat) : Sl 27 6 [(g, (tabC a b c d).toArray, 27)] (.slice (some ⟨g, 0, none⟩) 4 4) 4 (tabC a b c d) :=
  ⟨rfl, .inr ⟨g, 4, _, rfl, rfl, Nat.le_refl _, by decide, rfl, rfl⟩⟩
theorem one_tabT (m : Int) (g1 g2 : Nat) : (encTb (tabL m g1 g2)).all (·.oneCell') = true := by simp [encTb, tabL, Value.oneCell']
theorem tabN_ok : ∀ t ∈ tabN, bytesOk t := by
  intro t ht
  simp only [tabN, List.mem_cons, List.not_mem_nil, or_false] at ht
  rcases ht with rfl | rfl | rfl | rfl <;> exact ascii.ok (ascii_of rfl)
set_option maxHeartbeats 300000 in
theorem tableL_any (n : Int) (w0 : World) : Calls Tryd.prog 14 #[.int .i64 n] w0 fun e w' => ∃ tb, e = .returned (.agg (encTb tb)) ∧ Below w0.heap.size w0 w' ∧ TabIn w' tb := by
  have hR := Own.start w0
  obtain ⟨m, hm⟩ : ∃ m, bits .and .i64 n 255 = m := ⟨_, rfl⟩
  have HM := Lib.hid hm
  clear hm
  go_enter Tryd.func14, Tryd.ntmps14
  go_wp2_with (first
    | ((with_reducible apply wpList_buildS hR); exact rfl; exact rfl; (exact bStr4 _ _ _ _); clear hR; intro gs w hR; simp only [cS, cZ])
    | ((with_reducible apply q_ls hR); exact rfl; (with_reducible apply t_numE (op := .and)); (apply EvC.now; exact rfl); (apply EvC.now; exact rfl); exact rfl; exact HM.out; (simp only [cS, cZ]; exact rfl); clear hR; intro w hR)
    | ((with_reducible apply wpList_built); exact rfl; exact rfl; (first | exact bValL _ _ _ _ _ | exact bValM _ _ _ _ | exact bValN _ _ | exact bTabL m _ _); (simp only [cS, cZ]; exact rfl))
    | ((with_reducible apply wpList_buildS hR); exact rfl; exact rfl; (exact bVals4 _ _ _ _); clear hR; intro gv w hR; simp only [cS, cZ])
    | ((with_reducible apply wpList_make hR zTabT); exact rfl; clear hR; intro g w hR; simp only [cS, cZ])
    | ((with_reducible apply wpList_put hR tTab); exact rfl; exact rfl; exact rfl; (focus (repeat (first | apply List.Mem.head | apply List.Mem.tail | apply List.mem_append_right))); exact put_tabT _ _; exact rfl; exact Nat.le_refl 8; exact one_tabT _ _ _; (focus (repeat (first | apply Upd.head | apply Upd.tail))); clear hR; intro w hR))
  have hN : Strs w (.slice (some ⟨gs, 0, none⟩) 4 4) tabN := strs_row hR (by (focus (repeat (first | apply List.Mem.head | apply List.Mem.tail | apply List.mem_append_right)))) rfl rfl tabN_ok (by decide)
  have hV : Rd w 6 (.slice (some ⟨gv, 0, none⟩) 4 4) 4 ((tabV m).flatMap valC) := (tabC_sl _ _ _ _ gv).rd hR (fun r hr => by rw [List.mem_singleton.1 hr]; (focus (repeat (first | apply List.Mem.head | apply List.Mem.tail | apply List.mem_append_right)))) (flat_ones valC_one (tabV m))
  (try simp only [Exit.inBlock, Exit.then])
  exact post_row hR rfl (by rfl) (by (focus (repeat (first | apply List.Mem.head | apply List.Mem.tail | apply List.mem_append_right)))) Tryd.underlying35 rfl iTab (by rfl) (by rfl) ⟨tabL m gs gv, rfl, hR.below, ⟨show 4 ≤ 1000000 by decide, hN, hV⟩⟩
end Go.Proofs.YtckkgooabnlooaaDoor
