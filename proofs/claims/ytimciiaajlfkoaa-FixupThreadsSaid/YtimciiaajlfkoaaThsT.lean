








/- The struct of threads as a value. No statement of the seat is proved here. -/
import Derived.Test.YtimciiaajlfkoaaFixT
namespace Go.Proofs.Ytimciiaajlfkoaa
open Go.ChangeShapes Go.WideShapes Go.ChangeAt Go.RowKit
set_option linter.unusedVariables false
set_option linter.unusedSimpArgs false

def cellsThr (h : ThrZ) : List Value := [.bool h.is, .int .i64 h.b, .int .i64 h.n]
def cellsThs (t : ThsZ) : List Value := (t.fr ++ t.tg).flatMap cellsThr
def encThs (t : ThsZ) : Array Value := (cellsThs t).toArray
structure ThsZ.ok (t : ThsZ) : Prop where
  fr : t.fr.length = 4
  tg : t.tg.length = 4
  b : ∀ h ∈ t.fr ++ t.tg, i64B h.b ∧ i64B h.n
theorem ths0_ok : ths0.ok := ⟨rfl, rfl, fun h hh => by
  have : h = thr0 := by simpa [ths0] using hh
  subst this
  exact ⟨⟨by decide, by decide⟩, ⟨by decide, by decide⟩⟩⟩
theorem cellsThs_len {t : ThsZ} (h : t.ok) : (cellsThs t).length = 24 := by
  unfold cellsThs
  rw [List.length_flatMap]
  have h1 : (t.fr ++ t.tg).map (fun x => (cellsThr x).length) = (t.fr ++ t.tg).map (fun _ => 3) := rfl
  rw [h1, List.map_const', List.sum_replicate_nat, List.length_append, h.fr, h.tg]
theorem cellsThs_one (t : ThsZ) : (cellsThs t).all (·.oneCell') = true := by
  rw [List.all_eq_true]
  intro u hu
  obtain ⟨h, _, hu⟩ := List.mem_flatMap.1 hu
  simp only [cellsThr, List.mem_cons, List.not_mem_nil, or_false] at hu
  rcases hu with rfl | rfl | rfl <;> rfl
theorem iThs : (Try.prog.info? 42).map (·.size) = some 24 := by kernel_rfl
theorem tThs : RowTy Try.prog 42 24 := .of Try.underlying42 rfl iThs
theorem zThs : ZeroTy Try.prog 42 (encThs ths0) := .of (by kernel_rfl)
theorem bThs0 : Built Try.prog 42 [] (encThs ths0) := ⟨by kernel_rfl⟩
theorem put_ths (c : Array Value) (hc : c.size = 24) {t : ThsZ} (h : t.ok) : PutRel c 0 (encThs t).toList (encThs t) := putList_all (by rw [hc]; unfold encThs; simp [cellsThs_len h])
theorem encThs_size {t : ThsZ} (h : t.ok) : (encThs t).size = 24 := by unfold encThs; simp [cellsThs_len h]
theorem one_ths (t : ThsZ) : (encThs t).all (·.oneCell') = true := by
  have := cellsThs_one t
  unfold encThs
  simpa using this
theorem ext_ths {t : ThsZ} (h : t.ok) : ExtRel (encThs t) 0 24 (encThs t) := extract_all (encThs_size h)
/-! ### A thread in its place -/
def encThr (h : ThrZ) : Array Value := #[.bool h.is, .int .i64 h.b, .int .i64 h.n]
theorem iThr : (Try.prog.info? 39).map (·.size) = some 3 := by kernel_rfl
theorem tThr : RowTy Try.prog 39 3 := .of Try.underlying39 rfl iThr
theorem zThr : ZeroTy Try.prog 39 (encThr thr0) := .of (by kernel_rfl)
theorem bThr (b n : Int) : Built Try.prog 39 [(0, .bool true), (1, .int .i64 b), (2, .int .i64 n)] (encThr ⟨true, b, n⟩) := ⟨by kernel_rfl⟩
theorem gThr : Try.prog.eqGuardType Try.prog.depth 39 = false := by kernel_rfl
theorem eqThr_self (b n : Int) : eqB Try.prog 9 39 (.agg (encThr ⟨true, b, n⟩)) (.agg (encThr ⟨true, b, n⟩)) = some true := by
  have h : eqB Try.prog 9 39 (.agg (encThr ⟨true, b, n⟩)) (.agg (encThr ⟨true, b, n⟩)) = some ((true == true) && ((b == b) && ((n == n) && true))) := by kernel_rfl
  rw [h]; simp
theorem ThsZ.ok.put {t : ThsZ} (h : t.ok) (fr : Bool) (k : Nat) {x : ThrZ} (hx : i64B x.b ∧ i64B x.n) : (t.put fr k x).ok := by
  unfold ThsZ.put
  split
  · refine ⟨by rw [List.length_set]; exact h.fr, h.tg, fun y hy => ?_⟩
    rcases List.mem_append.1 hy with hy | hy
    · rcases List.mem_or_eq_of_mem_set hy with hy | rfl
      · exact h.b y (List.mem_append_left _ hy)
      · exact hx
    · exact h.b y (List.mem_append_right _ hy)
  · refine ⟨h.fr, by rw [List.length_set]; exact h.tg, fun y hy => ?_⟩
    rcases List.mem_append.1 hy with hy | hy
    · exact h.b y (List.mem_append_left _ hy)
    · rcases List.mem_or_eq_of_mem_set hy with hy | rfl
      · exact h.b y (List.mem_append_right _ hy)
      · exact hx
theorem fThs (k : Nat) (h : k < 2) : FieldAt Try.prog 42 k (k * 12) := by
  match k, h with
  | 0, _ => exact ⟨fun g w => by simp [go_sem, Instr.fieldAt, fieldPlace]⟩
  | 1, _ => exact ⟨fun g w => by simp [go_sem, Instr.fieldAt, fieldPlace]⟩
theorem gThs : Try.prog.eqGuardType Try.prog.depth 42 = false := by kernel_rfl
theorem eqThs0 : eqB Try.prog 9 42 (.agg (encThs ths0)) (.agg (encThs ths0)) = some true := by kernel_rfl
theorem run_pixK {P : Program} {ρ : Operand → Value} {o : Oper} {w : World} {ty e : TypeId} {x ix : Operand} {b z n k : Nat} {q : IntKind} {j : Int} (hu : P.underlying ty = some (.array n e)) (hz : (P.info? e).map (·.size) = some k) (ho : o.op = .indexAddr ty x ix)
    (hx : ρ x = .pointer (some ⟨b, z, none⟩)) (hi : ρ ix = .int q j) (hj : 0 ≤ j ∧ j < n) : (execOp ρ o).run P w = .ok (.value (.pointer (some ⟨b, z + j.toNat * k, none⟩))) w := by
  cases hq : P.info? e with
  | none => simp [hq] at hz
  | some inf =>
    have hsz : inf.size = k := by simpa [hq] using hz
    have ha : (⟨b, z, none⟩ : Addr).add (j.toNat * k) = ⟨b, z + j.toNat * k, none⟩ := addr_mid _ _ _
    unfold execOp
    simp [ho, Instr.indexAt, hx, hi, run_underlying hu, Instr.sureAddr, asIntOf, hj, sizeOf, typeInfo, hq, hsz, ha]
theorem t_pixK {P : Program} {C : World → Prop} {c : Bool} {dd : Option Tmp} {ls : List Value} {ds : List Deferred} {tp : TypeId} {pos : String} {af : Array Edge} {gd : Option (Nat × Bool)} {ty e : TypeId} {x ix : Operand} {b z n k : Nat} {q : IntKind} {j : Int} (hu : P.underlying ty = some (.array n e)) (hz : (P.info? e).map (·.size) = some k)
    (hx : EvC ls c x (.pointer (some ⟨b, z, none⟩))) (hi : EvC ls c ix (.int q j)) (hj : 0 ≤ j ∧ j < n) : TIf P C c ⟨dd, .indexAddr ty x ix, tp, pos, af, gd⟩ ⟨ls.toArray, ds⟩ (.pointer (some ⟨b, z + j.toNat * k, none⟩)) :=
  ⟨fun h => .inl fun w _ => run_pixK hu hz rfl (eval_of (hx.of h)) (eval_of (hi.of h)) hj⟩
/-! ### Four threads -/
def enc4 (l : List ThrZ) : Array Value := (l.flatMap cellsThr).toArray
theorem four {l : List ThrZ} (h : l.length = 4) : ∃ a b c d, l = [a, b, c, d] := by
  match l, h with
  | [a, b, c, d], _ => exact ⟨a, b, c, d, rfl⟩
theorem ext_tf {t : ThsZ} (h : t.ok) : ExtRel (encThs t) (0 * 12) 12 (enc4 t.fr) := by
  obtain ⟨a, b, c, d, h1⟩ := four h.fr
  obtain ⟨a2, b2, c2, d2, h2⟩ := four h.tg
  unfold encThs cellsThs
  rw [h1, h2]
  exact ⟨rfl⟩
theorem ext_tt {t : ThsZ} (h : t.ok) : ExtRel (encThs t) (1 * 12) 12 (enc4 t.tg) := by
  obtain ⟨a, b, c, d, h1⟩ := four h.fr
  obtain ⟨a2, b2, c2, d2, h2⟩ := four h.tg
  unfold encThs cellsThs
  rw [h1, h2]
  exact ⟨rfl⟩
theorem ext_4 {l : List ThrZ} (h : l.length = 4) {j : Int} (h0 : 0 ≤ j) (h3 : j ≤ 3) : ExtRel (enc4 l) (0 + j.toNat * 3) 3 (encThr (l.getD j.toNat thr0)) := by
  obtain ⟨a, b, c, d, rfl⟩ := four h
  rcases (by omega : j = 0 ∨ j = 1 ∨ j = 2 ∨ j = 3) with rfl | rfl | rfl | rfl <;> exact ⟨rfl⟩
theorem enc4_size {l : List ThrZ} (h : l.length = 4) : (enc4 l).size = 12 := by
  obtain ⟨a, b, c, d, rfl⟩ := four h
  rfl
theorem one_4 {l : List ThrZ} (h : l.length = 4) : (enc4 l).all (·.oneCell') = true := by
  obtain ⟨a, b, c, d, rfl⟩ := four h
  simp [enc4, cellsThr, Value.oneCell']
theorem put_4 {t : ThsZ} (h : t.ok) (fr : Bool) {j : Int} (h0 : 0 ≤ j) (h3 : j ≤ 3) (x : ThrZ) : PutRel (encThs t) ((if fr then 0 * 12 else 1 * 12) + j.toNat * 3) (encThr x).toList (encThs (t.put fr j.toNat x)) := by
  obtain ⟨a, b, c, d, h1⟩ := four h.fr
  obtain ⟨a2, b2, c2, d2, h2⟩ := four h.tg
  unfold encThs cellsThs ThsZ.put
  rw [h1, h2]
  cases fr <;> rcases (by omega : j = 0 ∨ j = 1 ∨ j = 2 ∨ j = 3) with rfl | rfl | rfl | rfl <;> exact ⟨rfl⟩
end Go.Proofs.Ytimciiaajlfkoaa
