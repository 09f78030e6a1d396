/- Texts made of bytes of the call's own, and held against each other; '==' of two plain values as one Bool ('eqB'). No statement of the seat is proved here. -/
import Derived.Test.YtjecckmcjcikdaaDoorTame
import Derived.Test.YtjecckmcjcikdaaDoorSlice
import Derived.Test.YtjecckmcjcikdaaDoorSame
import Derived.Laws.BytesArg
namespace Go.Proofs.YtjecckmcjcikdaaDoor
open Go.ChangeShapes Go.WideShapes Go.ChangeAt Go.RowKit
set_option linter.unusedVariables false
set_option linter.unusedSimpArgs false

/-! ### Bytes as a text -/
/-- The types of bytes and texts. -/
structure TextTy (P : Program) (src e dst : TypeId) : Prop where
  src : P.underlying src = some (.slice e)
  byte : P.underlying e = some (.int .u8)
  dst : P.underlying dst = some .string
def cellsB (ns : List Int) : List Value := ns.map (.int .u8)
theorem cellsB_append (a b : List Int) : cellsB (a ++ b) = cellsB a ++ cellsB b := List.map_append
theorem cellsB_len (a : List Int) : (cellsB a).length = a.length := List.length_map _
theorem cellsB_inj {a b : List Int} (h : cellsB a = cellsB b) : a = b := by
  induction a generalizing b with
  | nil => cases b with
    | nil => rfl
    | cons _ _ => exact nomatch h
  | cons x a ih => cases b with
    | nil => exact nomatch h
    | cons y b =>
      have h1 := (List.cons.inj h).1
      injection h1 with _ h1
      rw [h1, ih (List.cons.inj h).2]
def bytesOk (ns : List Int) : Prop := ∀ n ∈ ns, 0 ≤ n ∧ n ≤ 255
theorem strOf_inj {a b : List Int} (ha : bytesOk a) (hb : bytesOk b) (h : strOfNums a = strOfNums b) : a = b := by
  have h' : a.map (fun n => UInt8.ofNat n.toNat) = b.map (fun n => UInt8.ofNat n.toNat) := by rw [← strOfNums_data, ← strOfNums_data, h]
  clear h
  induction a generalizing b with
  | nil => cases b with
    | nil => rfl
    | cons _ _ => exact nomatch h'
  | cons x a ih => cases b with
    | nil => exact nomatch h'
    | cons y b =>
      have h1 := (List.cons.inj h').1
      have bx := ha x (.head _)
      have by_ := hb y (.head _)
      have e1 := congrArg UInt8.toNat h1
      simp only [UInt8.toNat_ofNat'] at e1
      have : x = y := by omega
      rw [this, ih (fun n hn => ha n (.tail _ hn)) (fun n hn => hb n (.tail _ hn)) (List.cons.inj h').2]
/-- Two texts of bytes are the same where the bytes are. -/
theorem strOf_eq (a b : List Int) (ha : bytesOk a) (hb : bytesOk b) : ((strOfNums a).toList == (strOfNums b).toList) = decide (a = b) := by
  by_cases h : a = b
  · rw [h]; simp
  · rw [decide_eq_false h, beq_eq_false_iff_ne]
    intro e
    refine h (strOf_inj ha hb ?_)
    have := congrArg (fun l => (⟨l.toArray⟩ : ByteArray)) e
    have e2 : (strOfNums a).data = (strOfNums b).data := by simpa [ByteArray.toList_eq] using this
    exact ByteArray.ext e2

section
variable {P : Program} {w0 w : World} {l : List RowT} {ls : List Value} {ds : List Deferred} {c : Bool} {dd : Option Tmp} {tp : TypeId} {pos : String} {af : Array Edge} {gd : Option (Nat × Bool)} {C : World → Prop}
theorem run_str {src e dst : TypeId} (ht : TextTy P src e dst) {g n cap : Nat} {cur : Array Value} {e' : TypeId} {ns : List Int} (hg : w.heap[g]? = some (.cells cur e' (0, 0))) (hS : SlIs cur n cap (cellsB ns)) :
    (convert src dst (.slice (some ⟨g, 0, none⟩) n cap)).run P w = .ok (.string (strOfNums ns)) w := by
  refine run_convert_bytes_arg w src e ht.src ht.byte g 0 n cap ns (by rw [← cellsB_len, hS.len]) (fun i hi => ?_) dst ht.dst
  have hl : i < (cellsB ns).length := by rw [hS.len]; exact hi
  have h1 : (cellsB ns)[i]? = some (.int .u8 (ns.getD i 0)) := by
    rw [cellsB_len] at hl
    simp [cellsB, List.getD, List.getElem?_eq_getElem hl]
  rw [← hS.take, List.getElem?_take, if_pos hi] at h1
  rw [cell_of_row _ _ _ _ _ _ hg, Nat.zero_add, ← Array.getElem?_toList]; exact h1
theorem t_str {src e dst : TypeId} (ht : TextTy P src e dst) {x : Operand} {g n cap : Nat} {cur : Array Value} {e' : TypeId} {ns : List Int} (hx : EvC ls c x (.slice (some ⟨g, 0, none⟩) n cap)) (hm : (g, cur, e') ∈ l) (hS : SlIs cur n cap (cellsB ns)) :
    TIf P (fun w => Own w0 w l) c ⟨dd, .convert src dst x, tp, pos, af, gd⟩ ⟨ls.toArray, ds⟩ (.string (strOfNums ns)) := by
  refine ⟨fun e => .inl fun w hC => ?_⟩
  unfold execOp
  simp only [eval_of (hx.of e), Sem.run_bind, run_str ht (hC.get hm) hS, Result.andThen_ok, Sem.run_pure]
theorem t_strNil {src e dst : TypeId} (ht : TextTy P src e dst) {x : Operand} {n cap : Nat} (hx : EvC ls c x (.slice none n cap)) : TIf P C c ⟨dd, .convert src dst x, tp, pos, af, gd⟩ ⟨ls.toArray, ds⟩ (.string ByteArray.empty) := by
  refine ⟨fun e => .inl fun w hC => ?_⟩
  unfold execOp
  simp only [eval_of (hx.of e), Sem.run_bind, run_convert_bytes_nil w src _ ht.src ht.byte n cap dst ht.dst, Result.andThen_ok, Sem.run_pure]
theorem t_streq {ty ty' : TypeId} {x y : Operand} {a b : ByteArray} (hx : EvC ls c x (.string a)) (hy : EvC ls c y (.string b)) : TIf P C c ⟨dd, .binOp .eql ty x y ty', tp, pos, af, gd⟩ ⟨ls.toArray, ds⟩ (.bool (a.toList == b.toList)) := by
  refine ⟨fun e => .inl fun w _ => ?_⟩
  unfold execOp
  simp only [eval_of (hx.of e), eval_of (hy.of e)]
  simp [eqGuard, binOp, Op.stringOp]
end

/-! ### '==' of two plain values -/
/-- What '==' of two values of a type comes to. -/
def allB (P : Program) (f : Nat → Option Bool) : List Nat → Option Bool
  | [] => some true
  | j :: js => match f j, allB P f js with
    | some a, some b => some (a && b)
    | _, _ => none
def fieldsB (P : Program) (f : TypeId → Nat → Option Bool) : List Field → Option Bool
  | [] => some true
  | x :: xs => match (if x.name == "_" then some true else f x.type x.offset), fieldsB P f xs with
    | some a, some b => some (a && b)
    | _, _ => none
def eqB (P : Program) : Nat → TypeId → Value → Value → Option Bool
  | 0, _, _, _ => none
  | m + 1, t, v, u =>
    match P.underlying t with
    | some .bool => (match v, u with | .bool a, .bool b => some (a == b) | _, _ => none)
    | some (.int _) => (match v, u with | .int k a, .int k' b => if k = k' then some (a == b) else none | _, _ => none)
    | some .string => (match v, u with | .string a, .string b => some (a.toList == b.toList) | _, _ => none)
    | some (.array n e) => (match v, u with
      | .agg cs, .agg ds => if (P.info? e).isSome then allB P (fun k => match partOf P e cs.toList (k * P.cellsOf e), partOf P e ds.toList (k * P.cellsOf e) with | some x, some y => eqB P m e x y | _, _ => none) (List.range n) else none
      | _, _ => none)
    | some (.struct fs) => (match v, u with
      | .agg cs, .agg ds => if P.stoodInHeld t then none else fieldsB P (fun e o => match partOf P e cs.toList o, partOf P e ds.toList o with | some x, some y => eqB P m e x y | _, _ => none) fs.toList
      | _, _ => none)
    | _ => none
section
variable {P : Program}
theorem eq_two : ∀ (m : Nat) (t : TypeId) (v u : Value) (b : Bool) (d : Nat) (w : World), eqB P m t v u = some b → (Op.equalIn (d + m) t v u).run P w = .ok b w
  | 0, _, _, _, _, _, _, h => by simp [eqB] at h
  | m + 1, t, v, u, b, d, w, h => by
    unfold eqB at h
    cases hu : P.underlying t with
    | none => simp [hu] at h
    | some k =>
      cases k <;> simp only [hu, reduceCtorEq] at h
      case bool =>
        cases v <;> cases u <;> simp only [reduceCtorEq, Option.some.injEq] at h
        subst h
        simp [← Nat.add_assoc, Op.equalIn, run_underlying hu]
      case int q =>
        cases v <;> cases u <;> simp only [reduceCtorEq] at h
        split at h
        · rename_i k a k' b' hk
          subst hk
          obtain rfl := Option.some.inj h
          simp [← Nat.add_assoc, Op.equalIn, run_underlying hu]
        · exact nomatch h
      case string =>
        cases v <;> cases u <;> simp only [reduceCtorEq, Option.some.injEq] at h
        subst h
        simp [← Nat.add_assoc, Op.equalIn, run_underlying hu, beq_toListBytes]
      case array n e =>
        cases v <;> cases u <;> simp only [reduceCtorEq] at h
        rename_i cs ds
        split at h
        · rename_i hs
          obtain ⟨i, hi⟩ := Option.isSome_iff_exists.1 hs
          rw [← Nat.add_assoc, run_equalIn_array w (d + m) cs ds hu hi]
          revert h
          generalize List.range n = is
          induction is generalizing b with
          | nil => intro h; simp [allB] at h; subst h; simp [Op.eqItems]
          | cons j is ih =>
            intro h
            simp only [allB] at h
            cases hp : partOf P e cs.toList (j * P.cellsOf e) <;> cases hq : partOf P e ds.toList (j * P.cellsOf e) <;> simp only [hp, hq, reduceCtorEq] at h
            rename_i x y
            cases ha : eqB P m e x y <;> simp only [ha, reduceCtorEq] at h
            rename_i a
            generalize hr : allB P _ is = rest at h
            cases rest <;> simp only [reduceCtorEq, Option.some.injEq] at h
            rename_i a'
            have := ih a' hr
            simp only [Op.eqItems, Sem.run_bind, run_partOf hp w, run_partOf hq w, Result.andThen_ok, eq_two m e x y a d w ha]
            subst h
            cases a
            · simp
            · simpa using this
        · exact nomatch h
      case struct fs =>
        cases v <;> cases u <;> simp only [reduceCtorEq] at h
        rename_i cs ds
        split at h
        · exact nomatch h
        · rename_i hs
          have hfs : P.fieldsOf t = fs := by simp [Program.fieldsOf, hu]
          rw [← Nat.add_assoc, run_equalIn_struct w (d + m) t cs ds (by rw [hfs]; exact hu) (by simpa using hs), hfs]
          revert h
          generalize fs.toList = l
          induction l generalizing b with
          | nil => intro h; simp [fieldsB] at h; subst h; simp [Op.eqFields]
          | cons f l ih =>
            intro h
            simp only [fieldsB] at h
            simp only [Op.eqFields]
            by_cases hn : f.name = "_"
            · rw [if_neg (by simpa using hn)]
              simp only [hn, beq_self_eq_true, if_true] at h
              generalize hr : fieldsB P _ l = rest at h
              cases rest <;> simp only [reduceCtorEq, Option.some.injEq, Bool.true_and] at h
              subst h
              exact ih _ hr
            · rw [if_pos hn]
              rw [if_neg (by simpa using hn)] at h
              cases hp : partOf P f.type cs.toList f.offset <;> cases hq : partOf P f.type ds.toList f.offset <;> simp only [hp, hq, reduceCtorEq] at h
              rename_i x y
              cases ha : eqB P m f.type x y <;> simp only [ha, reduceCtorEq] at h
              rename_i a
              generalize hr : fieldsB P _ l = rest at h
              cases rest <;> simp only [reduceCtorEq, Option.some.injEq] at h
              rename_i a'
              have := ih a' hr
              simp only [Sem.run_bind, run_partOf hp w, run_partOf hq w, Result.andThen_ok, eq_two m f.type x y a d w ha]
              subst h
              cases a
              · simp
              · simpa using this
theorem t_eql {C : World → Prop} {ls : List Value} {ds : List Deferred} {c : Bool} {dd : Option Tmp} {tp : TypeId} {pos : String} {af : Array Edge} {gd : Option (Nat × Bool)} {t t' : TypeId} {x y : Operand} {cx cy : Array Value} {b : Bool}
    (hm : P.eqGuardType P.depth t = false) (hx : EvC ls c x (.agg cx)) (hy : EvC ls c y (.agg cy)) (hb : eqB P 9 t (.agg cx) (.agg cy) = some b) : TIf P C c ⟨dd, .binOp .eql t x y t', tp, pos, af, gd⟩ ⟨ls.toArray, ds⟩ (.bool b) := by
  refine ⟨fun e => .inl fun w _ => ?_⟩
  have he := eq_two (P := P) 9 t (.agg cx) (.agg cy) b 9991 w hb
  have h1 := run_eql_struct (P := P) w t cx cy
  have h2 : (Op.equalIn 10000 t (.agg cx) (.agg cy)).run P w = .ok b w := he
  rw [h2] at h1
  unfold execOp
  simp only [eval_of (hx.of e), eval_of (hy.of e), Sem.run_bind, run_eqGuard_agg w .eql t x y cx cy hm, Result.andThen_ok, h1]
  simp
end
end Go.Proofs.YtjecckmcjcikdaaDoor
