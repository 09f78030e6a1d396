/- A plain value (of bools, numbers, texts, and arrays and structs of such) is equal to itself; a row as a list of cells, each of its type. No statement of the seat is proved here. -/
import Derived.Test.YtjecckmcjcikdaaDoorRow
import Derived.DeepKeys
namespace Go.Proofs.YtjecckmcjcikdaaDoor
open Go.ChangeShapes Go.WideShapes Go.ChangeAt Go.RowKit
set_option linter.unusedVariables false
set_option linter.unusedSimpArgs false

def partOf (P : Program) (e : TypeId) (cs : List Value) (off : Nat) : Option Value :=
  match P.underlying e with
  | some d => if d.isRow then some (.agg ((cs.drop off).take (P.cellsOf e)).toArray) else cs[off]?
  | none => none

/-- Has a value the shape of its type? -/
def fitB (P : Program) : Nat → TypeId → Value → Bool
  | 0, _, _ => false
  | m + 1, t, v =>
    match P.underlying t with
    | some .bool => (match v with | .bool _ => true | _ => false)
    | some (.int _) => (match v with | .int _ _ => true | _ => false)
    | some .string => (match v with | .string _ => true | _ => false)
    | some (.array n e) => (match v with
      | .agg cs => (P.info? e).isSome && (List.range n).all fun k => (match partOf P e cs.toList (k * P.cellsOf e) with | some u => fitB P m e u | none => false)
      | _ => false)
    | some (.struct fs) => (match v with
      | .agg cs => !P.stoodInHeld t && fs.toList.all fun f => f.name == "_" || (match partOf P f.type cs.toList f.offset with | some u => fitB P m f.type u | none => false)
      | _ => false)
    | _ => false

section
variable {P : Program}
theorem run_partOf {e : TypeId} {cs : Array Value} {off : Nat} {u : Value} (h : partOf P e cs.toList off = some u) (w : World) : (part e cs off).run P w = .ok u w := by
  unfold partOf at h
  cases hu : P.underlying e with
  | none => simp [hu] at h
  | some d =>
    obtain ⟨i, hi⟩ := info_of_underlying hu
    have hc : P.cellsOf e = i.size := by simp [Program.cellsOf, hi]
    simp only [hu] at h
    cases hd : d.isRow with
    | true =>
      have hagg : (isAgg e).run P w = .ok true w := by
        unfold isAgg
        rw [Sem.run_bind, run_underlying hu w]
        cases d <;> simp_all
      rw [hd, if_pos rfl] at h
      have hx : (((cs.toList.drop off).take (P.cellsOf e)).toArray) = cs.extract off (off + P.cellsOf e) := by
        apply Array.toList_inj.1
        simp [List.extract]
      rw [← Option.some.inj h, hx]
      simp [part, hagg, sizeOf, typeInfo, hi, hc]
    | false =>
      have hagg : (isAgg e).run P w = .ok false w := by
        unfold isAgg
        rw [Sem.run_bind, run_underlying hu w]
        cases d <;> simp_all
      rw [hd, if_neg (by decide)] at h
      have h' : cs[off]? = some u := by rw [← Array.getElem?_toList]; exact h
      simp [part, hagg, h']

theorem eq_same : ∀ (m : Nat) (t : TypeId) (v : Value) (d : Nat) (w : World), fitB P m t v = true → (Op.equalIn (d + m) t v v).run P w = .ok true w
  | 0, _, _, _, _, h => by simp [fitB] at h
  | m + 1, t, v, d, w, h => by
    unfold fitB at h
    cases hu : P.underlying t with
    | none => simp [hu] at h
    | some k =>
      cases k <;> simp only [hu] at h <;> try (exact (Bool.false_ne_true h).elim)
      case bool =>
        cases v <;> first | (exact (Bool.false_ne_true h).elim) | skip
        rename_i b
        simp [← Nat.add_assoc, Op.equalIn, run_underlying hu]
      case int q =>
        cases v <;> first | (exact (Bool.false_ne_true h).elim) | skip
        simp [← Nat.add_assoc, Op.equalIn, run_underlying hu]
      case string =>
        cases v <;> first | (exact (Bool.false_ne_true h).elim) | skip
        simp [← Nat.add_assoc, Op.equalIn, run_underlying hu, beq_toListBytes]
      case array n e =>
        cases v <;> first | (exact (Bool.false_ne_true h).elim) | skip
        rename_i cs
        simp only [Bool.and_eq_true, List.all_eq_true] at h
        obtain ⟨i, hi⟩ := Option.isSome_iff_exists.1 h.1
        rw [← Nat.add_assoc, run_equalIn_array w (d + m) cs cs hu hi]
        have hall := h.2
        revert hall
        generalize List.range n = is
        intro hall
        induction is with
        | nil => simp [Op.eqItems]
        | cons j is ih =>
          have hj := hall j (.head _)
          have hr := ih (fun x hx => hall x (.tail _ hx))
          cases hp : partOf P e cs.toList (j * P.cellsOf e) with
          | none => simp [hp] at hj
          | some u =>
            simp only [hp] at hj
            simp only [Op.eqItems, Sem.run_bind, run_partOf hp w, Result.andThen_ok, eq_same m e u d w hj]
            simpa using hr
      case struct fs =>
        cases v <;> first | (exact (Bool.false_ne_true h).elim) | skip
        rename_i cs
        simp only [Bool.and_eq_true, Bool.not_eq_true', List.all_eq_true] at h
        have hfs : P.fieldsOf t = fs := by simp [Program.fieldsOf, hu]
        rw [← Nat.add_assoc, run_equalIn_struct w (d + m) t cs cs (by rw [hfs]; exact hu) h.1, hfs]
        have hall := h.2
        revert hall
        generalize fs.toList = l
        intro hall
        induction l with
        | nil => simp [Op.eqFields]
        | cons f l ih =>
          have hj := hall f (.head _)
          have hr := ih (fun x hx => hall x (.tail _ hx))
          simp only [Op.eqFields]
          by_cases hn : f.name = "_"
          · rw [if_neg (by simpa using hn)]; exact hr
          · rw [if_pos hn]
            cases hp : partOf P f.type cs.toList f.offset with
            | none => simp [hp, hn] at hj
            | some u =>
              simp only [hp, Bool.or_eq_true, beq_iff_eq, hn, false_or] at hj
              simp only [Sem.run_bind, run_partOf hp w, Result.andThen_ok, eq_same m f.type u d w hj]
              simpa using hr

theorem run_eqlSame {ρ : Operand → Value} {o : Oper} {t : TypeId} {x y : Operand} {c : Array Value} {t' : TypeId} (ho : o.op = .binOp .eql t x y t') (hx : ρ x = .agg c) (hy : ρ y = .agg c) (hm : P.eqGuardType P.depth t = false) (hf : fitB P 9 t (.agg c) = true) (w : World) :
    (execOp ρ o).run P w = .ok (.value (.bool true)) w := by
  have he := eq_same (P := P) 9 t (.agg c) 9991 w hf
  have h1 := run_eql_struct (P := P) w t c c
  have h2 : (Op.equalIn 10000 t (.agg c) (.agg c)).run P w = .ok true w := he
  rw [h2] at h1
  unfold execOp
  simp only [ho, hx, hy, Sem.run_bind, run_eqGuard_agg w .eql t x y c c hm, Result.andThen_ok, h1]
  simp

/-- .. in a region that draws its order. -/
theorem wpT1_same {ls' : List Value} {ops : Array Oper} {C : World → Prop} {R : Act → Prop} {is : List Nat} {tp : TypeId} {pos : String} {af : Array Edge} {gd : Option (Nat × Bool)} {ls : List Value} {ds : List Deferred} {t t' : TypeId} (hm : P.eqGuardType P.depth t = false) {d : Tmp} {x y : Operand} {c : Array Value}
    (hgd : Region.wanted ⟨some d, .binOp .eql t x y t', tp, pos, af, gd⟩ (yielded ops ls.toArray) = true) (hx : evalL ls x = some (.agg c)) (hy : evalL ls y = some (.agg c)) (hf : fitB P 9 t (.agg c) = true)
    (hls : ls.set d (.bool true) = ls') (h : wpT P ops C R is ⟨ls'.toArray, ds⟩) : wpT1 P ops C R is ⟨some d, .binOp .eql t x y t', tp, pos, af, gd⟩ ⟨ls.toArray, ds⟩ :=
  ⟨_, .inl ⟨hgd, .inl fun w _ => run_eqlSame rfl (eval_of hx) (eval_of hy) hm hf w⟩, by rw [put_list, hls]; exact h⟩
theorem wpList_same {ls' : List Value} {ops : Array Oper} {rest : List Oper} {Q : Exit → Act → World → Prop} {w : World} {tp : TypeId} {pos : String} {af : Array Edge} {gd : Option (Nat × Bool)} {ls : List Value} {ds : List Deferred} {t t' : TypeId} (hm : P.eqGuardType P.depth t = false) {d : Tmp} {x y : Operand} {c : Array Value}
    (hgd : Region.wanted ⟨some d, .binOp .eql t x y t', tp, pos, af, gd⟩ (yielded ops ls.toArray) = true) (hx : evalL ls x = some (.agg c)) (hy : evalL ls y = some (.agg c)) (hf : fitB P 9 t (.agg c) = true)
    (hls : ls.set d (.bool true) = ls') (h : wpList P ops Q rest ⟨ls'.toArray, ds⟩ w) : wpList P ops Q (⟨some d, .binOp .eql t x y t', tp, pos, af, gd⟩ :: rest) ⟨ls.toArray, ds⟩ w :=
  wpList_run_value hgd (run_eqlSame rfl (eval_of hx) (eval_of hy) hm hf w) (by rw [put_list, hls]; exact h)

/-- An argument of a struct or an array, as a list of cells, each of its type. -/
theorem open_flat {w : World} {r : Reach} {base : Nat} {t : TypeId} {d : TypeDesc} {ts : List TypeId} {v : Value} (hu : P.underlying t = some d) (hd : d.isRow = true) (hts : P.cellTypes P.depth t = some ts) (hsz : P.cellsOf t = ts.length) (h : Value.okWide P w r base t v) :
    ∃ cs : List Value, v = .agg cs.toArray ∧ cs.length = ts.length ∧ ∀ (i : Nat) (u : TypeId) (c : Value), ts[i]? = some u → cs[i]? = some c → Cell.okWide P w r base u c := by
  unfold Value.okWide at h
  rw [hu] at h
  have hx : ∃ cs, v = .agg cs ∧ cs.size = P.cellsOf t ∧ Row.okWide P w r base t cs := by
    cases d <;> first | exact h | simp at hd
  obtain ⟨cs, rfl, hs, ts', ht, _, hall⟩ := hx
  rw [hts] at ht
  obtain rfl := Option.some.inj ht
  refine ⟨cs.toList, by simp, by rw [← hsz, ← hs]; simp, fun i u c hi hc => ?_⟩
  have hil : i < ts.length := (List.getElem?_eq_some_iff.1 hi).1
  obtain ⟨u', hu', hok⟩ := hall i c (by simpa using hc)
  rw [Nat.mod_eq_of_lt hil, hi] at hu'
  rw [Option.some.inj hu']
  exact hok
theorem cell_int {w : World} {r : Reach} {base : Nat} {u : TypeId} {k : IntKind} {c : Value} (hu : P.underlying u = some (.int k)) (h : Cell.okWide P w r base u c) : ∃ n, c = .int k n ∧ k.has n := by
  unfold Cell.okWide at h
  rw [hu] at h
  unfold Cell.ok at h
  rw [hu] at h
  cases c <;> simp only [] at h <;> first | exact h.elim | skip
  rename_i k' n
  exact ⟨n, by rw [h.1], h.2⟩
theorem cell_bool {w : World} {r : Reach} {base : Nat} {u : TypeId} {c : Value} (hu : P.underlying u = some .bool) (h : Cell.okWide P w r base u c) : ∃ b, c = .bool b := by
  unfold Cell.okWide at h
  rw [hu] at h
  unfold Cell.ok at h
  rw [hu] at h
  cases c <;> simp only [] at h <;> first | exact h.elim | exact ⟨_, rfl⟩
end
end Go.Proofs.YtjecckmcjcikdaaDoor
