









/- Contracts of package expr's reader: what comes, what is taken, what a name means. No statement of the seat is proved here. -/
import Derived.Test.YtckkgooabnlooaaDoorExpG
namespace Go.Proofs.YtckkgooabnlooaaDoor
open Go.ChangeShapes Go.WideShapes Go.ChangeAt Go.RowKit
set_option linter.unusedVariables false
set_option linter.unusedSimpArgs false
set_option maxRecDepth 100000

theorem iTok4 : (Tryd.prog.info? 59).map (·.size) = some 4 := iTok
theorem tToksK : SliceK Tryd.prog 31 59 4 := .of (z := .agg (encTok noTok)) (b := 40) Tryd.underlying31 (by kernel_rfl) (by decide) rfl (by decide)
/-- The places of a slice from one on, wherever it lies. -/
theorem run_tailA {P : Program} {ρ : Operand → Value} {o : Oper} {w : World} {t e : TypeId} {k : Nat} {x y : Operand} {a : Addr} {n cap m : Nat} {q : IntKind} {i : Int} (ht : SliceK P t e k) (ho : o.op = .slice t x (some y) none none) (hx : ρ x = .slice (some a) n cap)
    (hy : ρ y = .int q i) (hi : i = m) (hm : m ≤ n) (hc : n ≤ cap) : (execOp ρ o).run P w = .ok (.value (.slice (some (a.add (tailOff cap m k))) (n - m) (cap - m))) w := by
  subst hi
  unfold tailOff
  obtain ⟨inf, z, hinf, _, hsz, _⟩ := ht.info
  have e1 : (Instr.slice t (.slice (some a) n cap) (some (.int q (m : Int))) none none).run P w = .ok (.slice (some (a.add (if cap = m then 0 else m * k))) (n - m) (cap - m)) w := by
    have h1 : (0 : Int) ≤ (m : Int) ∧ (m : Int) ≤ (n : Int) := ⟨by omega, by omega⟩
    have h2 : (0 : Int) ≤ (n : Int) ∧ (n : Int) ≤ (cap : Int) := ⟨by omega, by omega⟩
    simp [Instr.slice, run_underlying ht.ty, Instr.sliceBounds, Instr.sliceBound, asIntOf, h1, h2, sizeOf, typeInfo, hinf, hsz]
    by_cases hcm : cap = m
    · simp [hcm]; rw [if_pos hm, show a.add 0 = a by simp [Addr.add]]
    · simp [hcm]; omega
  unfold execOp
  simp only [ho]
  simp [Instr.sliceAt, hx, hy, run_underlying ht.ty, e1]
theorem t_tailA {P : Program} {C : World → Prop} {c : Bool} {dd : Option Tmp} {ls : List Value} {ds : List Deferred} {tp : TypeId} {pos : String} {af : Array Edge} {gd : Option (Nat × Bool)} {t e : TypeId} {k : Nat} {x y : Operand} {a : Addr} {n cap m : Nat} {q : IntKind} {i : Int} (ht : SliceK P t e k) (hx : EvC ls c x (.slice (some a) n cap)) (hy : EvC ls c y (.int q i)) (hi : i = m) (hm : m ≤ n) (hc : n ≤ cap) :
    TIf P C c ⟨dd, .slice t x (some y) none none, tp, pos, af, gd⟩ ⟨ls.toArray, ds⟩ (.slice (some (a.add (tailOff cap m k))) (n - m) (cap - m)) :=
  ⟨fun h => .inl fun w _ => run_tailA ht rfl (eval_of (hx.of h)) (eval_of (hy.of h)) hi hm hc⟩
theorem Toks.cons {w : World} {v : Value} {t : TokZ} {r : List TokZ} (h : Toks w v (t :: r)) : ∃ a cap, v = .slice (some a) (r.length + 1) cap ∧ r.length + 1 ≤ cap ∧ (∀ j u, (encTok t).toList[j]? = some u → w.cell? ((a.add (0 * 4)).add j) = some u) ∧ Toks w (.slice (some (a.add (tailOff cap 1 4))) (r.length + 1 - 1) (cap - 1)) r := by
  rcases h.rd.way with ⟨_, h2, _⟩ | ⟨a, cap, h1, h2, h3⟩
  · exact absurd h2 (by simp)
  rw [List.length_cons] at h1 h2
  refine ⟨a, cap, h1, h2, fun j u hu => ?_, ⟨fun x hx => h.ok x (.tail _ hx), by rw [flat_len cellsTok_len], flat_ones cellsTok_one _, .inr ⟨_, _, rfl, by omega, fun j u hu => ?_⟩⟩⟩
  · rw [_root_.Go.Addr.add_add, Nat.zero_mul, Nat.zero_add]
    refine h3 j u ?_
    rw [List.flatMap_cons, List.getElem?_append_left (by rw [cellsTok_len]; have := (List.getElem?_eq_some_iff.1 hu).1; simpa [encTok] using this)]
    exact hu
  · have hne : ¬ cap = 1 := by
      intro hc
      have : r = [] := List.eq_nil_of_length_eq_zero (by omega)
      subst this
      exact nomatch hu
    unfold tailOff
    rw [if_neg hne, _root_.Go.Addr.add_add]
    refine h3 _ u ?_
    rw [List.flatMap_cons, List.getElem?_append_right (by rw [cellsTok_len]; omega), cellsTok_len, show 1 * 4 + j - 4 = j by omega]
    exact hu
theorem Toks.none (w : World) : Toks w (.slice none 0 0) [] := ⟨(fun _ h => nomatch h), ⟨rfl, rfl, .inl ⟨rfl, rfl, rfl⟩⟩⟩
theorem behindE_any {w : World} {gr : Nat} {v : Value} {tb : TabZ} {s : St} (hg : w.heap[gr]? = some (.cells (rdr v tb s) 66 (0, 0))) (hS : Toks w v s.l) (n : Nat) (hn : n ≤ 1000000) :
    Calls Tryd.prog 62 #[.pointer (some ⟨gr, 0, none⟩), .int .i64 n] w fun e w' => e = .returned (.agg (encTok (s.l.getD n noTok))) ∧ Below w.heap.size w w' := by
  have hR := Own.start w
  by_cases h : n < s.l.length
  · obtain ⟨t, ht⟩ : ∃ t, s.l[n]? = some t := ⟨_, List.getElem?_eq_getElem h⟩
    obtain ⟨a, cap, rfl, hc⟩ := hS.rd.el cellsTok_len ht
    have e : s.l.getD n noTok = t := by rw [List.getD_eq_getElem?_getD, ht]; rfl
    rw [e]
    have HG := Lib.hid (show cmpB .geq (n : Int) (s.l.length : Int) = some false from congrArg some (decide_eq_false (by omega)))
    have HC := Lib.hid hc
    have hlt : (0 : Int) ≤ (n : Int) ∧ (n : Int) < (s.l.length : Int) := ⟨by omega, by omega⟩
    have HL := Lib.hid hlt
    clear e hc ht h hlt
    go_enter Tryd.func62, Tryd.ntmps62
    go_wp2_with (first
    | ((with_reducible apply q_ls hR); exact rfl; (with_reducible apply t_old tToksE hg); (apply EvC.now; exact rfl); exact rfl; (simp only [cS, cZ]; exact rfl); clear hR; intro w hR)
    | ((with_reducible apply q_ls hR); exact rfl; (with_reducible apply t_lenRd Tryd.underlying31); (apply EvC.now; exact rfl); exact hS.rd; (simp only [cS, cZ]; exact rfl); clear hR; intro w hR)
    | ((with_reducible apply q_ls hR); exact rfl; (with_reducible apply t_cmp (op := .geq)); (apply EvC.now; exact rfl); (apply EvC.now; exact rfl); exact HG.out; (simp only [cS, cZ]; exact rfl); clear hR; intro w hR)
    | ((with_reducible apply q_ls hR); exact rfl; (with_reducible apply t_six Tryd.underlying31 iTok4); (apply EvC.now; exact rfl); (apply EvC.now; exact rfl); exact HL.out; (simp only [cS, cZ]; exact rfl); clear hR; intro w hR)
    | ((with_reducible apply q_ls hR); exact rfl; (with_reducible apply t_oldMany tTok); (apply EvC.now; exact rfl); (exact HC.out); exact rfl; (simp only [cS, cZ]; exact rfl); clear hR; intro w hR)
    | ((with_reducible apply wpList_box hR); exact rfl; exact rfl; clear hR; intro g w hR; simp only [cS, cZ])
    | ((with_reducible apply wpList_make hR zTok); exact rfl; clear hR; intro g w hR; simp only [cS, cZ])
    | ((with_reducible apply q_ls hR); exact rfl; ((with_reducible first | apply t_addr (fTok _ (by decide)) | apply t_addr fRdr0 | apply t_nilck | apply t_one tIntV | apply t_one tStrE | apply t_one tToksE | apply t_part tTok) <;> (first | (focus (repeat (first | (apply EvC.gv; exact rfl; (with_reducible first | exact Imp.refl _ | (apply Imp.left; exact Imp.refl _) | (apply Imp.right; exact Imp.refl _) | (apply Imp.left; apply Imp.left; exact Imp.refl _))) | (apply EvC.now; exact rfl) | (with_reducible first | apply EvAll.cons | exact EvAll.nil))); done) | exact rfl | exact ext_tok _ | (focus (repeat (first | apply List.Mem.head | apply List.Mem.tail | apply List.mem_append_right))))); (simp only [cS, cZ]; exact rfl); clear hR; intro w hR)
    | ((with_reducible apply wpList_put hR tTok); exact rfl; exact rfl; exact rfl; (focus (repeat (first | apply List.Mem.head | apply List.Mem.tail | apply List.mem_append_right))); exact put_tok _ _; exact rfl; exact Nat.le_refl 4; exact one_tok _; (focus (repeat (first | apply Upd.head | apply Upd.tail))); clear hR; intro w hR))
    (try simp only [Exit.inBlock, Exit.then])
    exact post_row hR rfl (by rfl) (by (focus (repeat (first | apply List.Mem.head | apply List.Mem.tail | apply List.mem_append_right)))) Tryd.underlying59 rfl iTok (by rfl) (by rfl) ⟨rfl, hR.below⟩
  · have e : s.l.getD n noTok = noTok := by rw [List.getD_eq_getElem?_getD, List.getElem?_eq_none (by omega)]; rfl
    rw [e]
    have HG := Lib.hid (show cmpB .geq (n : Int) (s.l.length : Int) = some true from congrArg some (decide_eq_true (by omega)))
    clear e h
    go_enter Tryd.func62, Tryd.ntmps62
    go_wp2_with (first
    | ((with_reducible apply q_ls hR); exact rfl; (with_reducible apply t_old tToksE hg); (apply EvC.now; exact rfl); exact rfl; (simp only [cS, cZ]; exact rfl); clear hR; intro w hR)
    | ((with_reducible apply q_ls hR); exact rfl; (with_reducible apply t_lenRd Tryd.underlying31); (apply EvC.now; exact rfl); exact hS.rd; (simp only [cS, cZ]; exact rfl); clear hR; intro w hR)
    | ((with_reducible apply q_ls hR); exact rfl; (with_reducible apply t_cmp (op := .geq)); (apply EvC.now; exact rfl); (apply EvC.now; exact rfl); exact HG.out; (simp only [cS, cZ]; exact rfl); clear hR; intro w hR)
    | ((with_reducible apply wpList_box hR); exact rfl; exact rfl; clear hR; intro g w hR; simp only [cS, cZ])
    | ((with_reducible apply wpList_make hR zTok); exact rfl; clear hR; intro g w hR; simp only [cS, cZ])
    | ((with_reducible apply q_ls hR); exact rfl; ((with_reducible first | apply t_addr (fTok _ (by decide)) | apply t_addr fRdr0 | apply t_nilck | apply t_one tIntV | apply t_one tStrE | apply t_one tToksE | apply t_part tTok) <;> (first | (focus (repeat (first | (apply EvC.gv; exact rfl; (with_reducible first | exact Imp.refl _ | (apply Imp.left; exact Imp.refl _) | (apply Imp.right; exact Imp.refl _) | (apply Imp.left; apply Imp.left; exact Imp.refl _))) | (apply EvC.now; exact rfl) | (with_reducible first | apply EvAll.cons | exact EvAll.nil))); done) | exact rfl | exact ext_tok _ | (focus (repeat (first | apply List.Mem.head | apply List.Mem.tail | apply List.mem_append_right))))); (simp only [cS, cZ]; exact rfl); clear hR; intro w hR)
    | ((with_reducible apply wpList_built); exact rfl; exact rfl; exact bTok0; (simp only [cS, cZ]; exact rfl))
    | ((with_reducible apply wpList_put hR tTok); exact rfl; exact rfl; exact rfl; (focus (repeat (first | apply List.Mem.head | apply List.Mem.tail | apply List.mem_append_right))); exact put_tok _ _; exact rfl; exact Nat.le_refl 4; exact one_tok _; (focus (repeat (first | apply Upd.head | apply Upd.tail))); clear hR; intro w hR))
    (try simp only [Exit.inBlock, Exit.then])
    exact post_row hR rfl (by rfl) (by (focus (repeat (first | apply List.Mem.head | apply List.Mem.tail | apply List.mem_append_right)))) Tryd.underlying59 rfl iTok (by rfl) (by rfl) ⟨rfl, hR.below⟩
theorem nextE_any {w : World} {gr : Nat} {v : Value} {tb : TabZ} {s : St} (hg : w.heap[gr]? = some (.cells (rdr v tb s) 66 (0, 0))) (hS : Toks w v s.l) :
    Calls Tryd.prog 42 #[.pointer (some ⟨gr, 0, none⟩)] w fun e w' => e = .returned (.agg (encTok (nextZ s))) ∧ Below w.heap.size w w' := by
  have hR := Own.start w
  have e : nextZ s = s.l.getD 0 noTok := by unfold nextZ; cases s.l <;> rfl
  rw [e]
  clear e
  go_enter Tryd.func42, Tryd.ntmps42
  go_wp2_with (first
    | ((with_reducible apply wpList_box hR); exact rfl; exact rfl; clear hR; intro g w hR; simp only [cS, cZ])
    | ((with_reducible apply wpList_make hR zTok); exact rfl; clear hR; intro g w hR; simp only [cS, cZ])
    | ((with_reducible apply q_ls hR); exact rfl; ((with_reducible first | apply t_addr (fTok _ (by decide)) | apply t_addr fRdr0 | apply t_nilck | apply t_one tIntV | apply t_one tStrE | apply t_one tToksE | apply t_part tTok) <;> (first | (focus (repeat (first | (apply EvC.gv; exact rfl; (with_reducible first | exact Imp.refl _ | (apply Imp.left; exact Imp.refl _) | (apply Imp.right; exact Imp.refl _) | (apply Imp.left; apply Imp.left; exact Imp.refl _))) | (apply EvC.now; exact rfl) | (with_reducible first | apply EvAll.cons | exact EvAll.nil))); done) | exact rfl | exact ext_tok _ | (focus (repeat (first | apply List.Mem.head | apply List.Mem.tail | apply List.mem_append_right))))); (simp only [cS, cZ]; exact rfl); clear hR; intro w hR)
    | (go_at_call 62; refine (behindE_any (hR.old hg) (hS.own hR) 0 (by decide)).mono ?_; rintro e w' ⟨rfl, hb⟩; replace hR := hR.grow hb; clear hb)
    | ((with_reducible apply wpList_put hR tTok); exact rfl; exact rfl; exact rfl; (focus (repeat (first | apply List.Mem.head | apply List.Mem.tail | apply List.mem_append_right))); exact put_tok _ _; exact rfl; exact Nat.le_refl 4; exact one_tok _; (focus (repeat (first | apply Upd.head | apply Upd.tail))); clear hR; intro w hR))
  (try simp only [Exit.inBlock, Exit.then])
  exact post_row hR rfl (by rfl) (by (focus (repeat (first | apply List.Mem.head | apply List.Mem.tail | apply List.mem_append_right)))) Tryd.underlying59 rfl iTok (by rfl) (by rfl) ⟨rfl, hR.below⟩
/-! ### What is taken -/
def takeM (s : St) : Rs TokZ := match s.l with
  | [] => .bad 3
  | t :: r => .ok t { s with l := r }
def tokV (t : TokZ) : Value := .agg (encTok t)
theorem put_left (v v' : Value) (tb : TabZ) (s : St) (r : List TokZ) : PutRel (rdr v tb s) 0 [v'] (rdr v' tb { s with l := r }) := ⟨rfl⟩
theorem takeE_any {w0 w : World} {gr : Nat} {v : Value} {tb : TabZ} {s : St} {L R : List RowT} (hS : Toks w0 v s.l) (hO : Own w0 w L) (hd : Del (gr, rdr v tb s, 66) L R) :
    Calls Tryd.prog 43 #[.pointer (some ⟨gr, 0, none⟩)] w (AnsR w0 gr tb tokV R (takeM s)) := by
  have hR := hO.lead hd
  clear hO hd
  obtain ⟨l, d, m, i⟩ := s
  rcases l with _ | ⟨t, r⟩
  · refine badR_ans ?_ rfl
    have HG := Lib.hid (show cmpB .gtr (([] : List TokZ).length : Int) 0 = some false from rfl)
    go_enter Tryd.func43, Tryd.ntmps43
    go_wp2_with (first
    | ((with_reducible apply wpList_box hR); exact rfl; exact rfl; clear hR; intro g w hR; simp only [cS, cZ])
    | ((with_reducible apply wpList_make hR zTok); exact rfl; clear hR; intro g w hR; simp only [cS, cZ])
    | ((with_reducible apply q_ls hR); exact rfl; ((with_reducible first | apply t_addr (fTok _ (by decide)) | apply t_addr fRdr0 | apply t_nilck | apply t_one tIntV | apply t_one tStrE | apply t_one tToksE | apply t_part tTok) <;> (first | (focus (repeat (first | (apply EvC.gv; exact rfl; (with_reducible first | exact Imp.refl _ | (apply Imp.left; exact Imp.refl _) | (apply Imp.right; exact Imp.refl _) | (apply Imp.left; apply Imp.left; exact Imp.refl _))) | (apply EvC.now; exact rfl) | (with_reducible first | apply EvAll.cons | exact EvAll.nil))); done) | exact rfl | exact ext_tok _ | (focus (repeat (first | apply List.Mem.head | apply List.Mem.tail | apply List.mem_append_right))))); (simp only [cS, cZ]; exact rfl); clear hR; intro w hR)
    | ((with_reducible apply q_ls hR); exact rfl; (with_reducible apply t_lenRd Tryd.underlying31); (apply EvC.now; exact rfl); exact hS.rd; (simp only [cS, cZ]; exact rfl); clear hR; intro w hR)
    | ((with_reducible apply q_ls hR); exact rfl; (with_reducible apply t_cmp (op := .gtr)); (apply EvC.now; exact rfl); (apply EvC.now; exact rfl); exact HG.out; (simp only [cS, cZ]; exact rfl); clear hR; intro w hR)
    | (go_at_call 30; refine (needE_no _).mono ?_; rintro e w' ⟨rfl, rfl⟩))
    exact ⟨rfl, rfl, hR.drop (by (focus (repeat (with_reducible first | exact List.Sublist.slnil | exact List.nil_sublist _ | exact List.Sublist.refl _ | exact List.sublist_append_right _ _ | apply List.Sublist.cons_cons | apply List.Sublist.cons | apply sub_right))))⟩
  · obtain ⟨a, cap, rfl, hle, hc, hS'⟩ := hS.cons
    refine okR_ans ?_ rfl
    generalize hn : r.length + 1 = n at *
    have HG := Lib.hid (show cmpB .gtr (n : Int) 0 = some true from congrArg some (decide_eq_true (by omega)))
    have HC := Lib.hid hc
    have HS := Lib.hid hS'
    have h1 : 1 ≤ n := by omega
    have HN := Lib.hid (show (0 : Int) ≤ 0 ∧ (0 : Int) < (n : Int) from ⟨by decide, by omega⟩)
    clear hc hS' hS hn
    go_enter Tryd.func43, Tryd.ntmps43
    go_wp2_with (first
    | ((with_reducible apply wpList_box hR); exact rfl; exact rfl; clear hR; intro g w hR; simp only [cS, cZ])
    | ((with_reducible apply wpList_make hR zTok); exact rfl; clear hR; intro g w hR; simp only [cS, cZ])
    | ((with_reducible apply q_ls hR); exact rfl; ((with_reducible first | apply t_addr (fTok _ (by decide)) | apply t_addr fRdr0 | apply t_nilck | apply t_one tIntV | apply t_one tStrE | apply t_one tToksE | apply t_part tTok) <;> (first | (focus (repeat (first | (apply EvC.gv; exact rfl; (with_reducible first | exact Imp.refl _ | (apply Imp.left; exact Imp.refl _) | (apply Imp.right; exact Imp.refl _) | (apply Imp.left; apply Imp.left; exact Imp.refl _))) | (apply EvC.now; exact rfl) | (with_reducible first | apply EvAll.cons | exact EvAll.nil))); done) | exact rfl | exact ext_tok _ | (focus (repeat (first | apply List.Mem.head | apply List.Mem.tail | apply List.mem_append_right))))); (simp only [cS, cZ]; exact rfl); clear hR; intro w hR)
    | ((with_reducible apply q_ls hR); exact rfl; (with_reducible apply t_len Tryd.underlying31); (apply EvC.now; exact rfl); (simp only [cS, cZ]; exact rfl); clear hR; intro w hR)
    | ((with_reducible apply q_ls hR); exact rfl; (with_reducible apply t_cmp (op := .gtr)); (apply EvC.now; exact rfl); (apply EvC.now; exact rfl); exact HG.out; (simp only [cS, cZ]; exact rfl); clear hR; intro w hR)
    | (go_at_call 30; refine (needE_yes _).mono ?_; rintro e w' ⟨rfl, rfl⟩)
    | ((with_reducible apply q_ls hR); exact rfl; (with_reducible apply t_six Tryd.underlying31 iTok4); (apply EvC.now; exact rfl); (apply EvC.now; exact rfl); exact HN.out; (simp only [cS, cZ]; exact rfl); clear hR; intro w hR)
    | ((with_reducible apply q_ls hR); exact rfl; (with_reducible apply t_oldMany tTok); (apply EvC.now; exact rfl); (exact HC.out); exact rfl; (simp only [cS, cZ]; exact rfl); clear hR; intro w hR)
    | ((with_reducible apply q_ls hR); exact rfl; (with_reducible apply t_tailA tToksK (m := 1)); (apply EvC.now; exact rfl); (apply EvC.now; exact rfl); exact rfl; exact h1; exact hle; (simp only [cS, cZ]; exact rfl); clear hR; intro w hR)
    | ((with_reducible apply wpList_put1 hR tToksE); exact rfl; exact rfl; exact rfl; (focus (repeat (first | apply List.Mem.head | apply List.Mem.tail | apply List.mem_append_right))); exact put_left _ _ _ _ r; (simp [rdr]); exact rfl; (focus (repeat (first | apply Upd.head | apply Upd.tail))); clear hR; intro w hR)
    | ((with_reducible apply wpList_put hR tTok); exact rfl; exact rfl; exact rfl; (focus (repeat (first | apply List.Mem.head | apply List.Mem.tail | apply List.mem_append_right))); exact put_tok _ _; exact rfl; exact Nat.le_refl 4; exact one_tok _; (focus (repeat (first | apply Upd.head | apply Upd.tail))); clear hR; intro w hR))
    (try simp only [Exit.inBlock, Exit.then])
    exact post_row hR rfl (by rfl) (by (focus (repeat (first | apply List.Mem.head | apply List.Mem.tail | apply List.mem_append_right)))) Tryd.underlying59 rfl iTok (by rfl) (by rfl) ⟨rfl, _, HS.out, (hR.lead (by (focus (repeat (first | apply Del.head | apply Del.tail))))).drop (by (focus (repeat (with_reducible first | exact List.Sublist.slnil | exact List.nil_sublist _ | exact List.Sublist.refl _ | exact List.sublist_append_right _ _ | apply List.Sublist.cons_cons | apply List.Sublist.cons | apply sub_right))))⟩
/-! ### What must come -/
def unitV (_ : Unit) : Value := .tuple #[]
theorem must_cons {α : Type} (a : α) (t : TokZ) (r : List TokZ) (d m i : Int) (c : List Int) : mustM a ⟨t :: r, d, m, i⟩ c = bif isZ t 4 c then .ok a ⟨r, d, m, i⟩ else .bad 3 := rfl
theorem mustE_any {w0 w : World} {gr : Nat} {v : Value} {tb : TabZ} {s : St} {L R : List RowT} (hS : Toks w0 v s.l) (hO : Own w0 w L) (hd : Del (gr, rdr v tb s, 66) L R) {c : List Int} (hc : bytesOk c) :
    Calls Tryd.prog 58 #[.pointer (some ⟨gr, 0, none⟩), .string (strOfNums c)] w (AnsR w0 gr tb unitV R (mustM () s c)) := by
  have hR := hO.lead hd
  clear hO hd
  obtain ⟨l, d, m, i⟩ := s
  rcases l with _ | ⟨t, r⟩
  · refine badR_ans ?_ rfl
    go_enter Tryd.func58, Tryd.ntmps58
    go_wp2_with fail
    refine (ansR_bad (takeE_any hS hR (by (focus (repeat (first | apply Del.head | apply Del.tail))))) rfl).mono ?_
    rintro e w' ⟨rfl, hO⟩
    go_wp2_with fail
    exact ⟨rfl, rfl, hO⟩
  · have ht := hS.ok t (.head _)
    cases hb : isZ t 4 c
    · refine badR_ans ?_ (show mustM () ⟨t :: r, d, m, i⟩ c = .bad 3 by rw [must_cons, hb]; rfl)
      have HI := Lib.hid (isE_any (t := t) 4 ht hc)
      rw [hb] at HI
      clear hb
      go_enter Tryd.func58, Tryd.ntmps58
      go_wp2_with fail
      refine (ansR_ok (takeE_any hS hR (by (focus (repeat (first | apply Del.head | apply Del.tail))))) rfl).mono ?_
      rintro e w' ⟨rfl, v2, hS2, hO⟩
      clear hR; have hR := hO; clear hO
      go_wp2_with (first
    | (go_at_call 56; refine (HI.out _).mono ?_; rintro e w' ⟨rfl, hb⟩; replace hR := hR.grow hb; clear hb)
    | (go_at_call 30; refine (needE_no _).mono ?_; rintro e w' ⟨rfl, rfl⟩))
      exact ⟨rfl, rfl, hR.tail⟩
    · refine okR_ans ?_ (show mustM () ⟨t :: r, d, m, i⟩ c = .ok () ⟨r, d, m, i⟩ by rw [must_cons, hb]; rfl)
      have HI := Lib.hid (isE_any (t := t) 4 ht hc)
      rw [hb] at HI
      clear hb
      go_enter Tryd.func58, Tryd.ntmps58
      go_wp2_with fail
      refine (ansR_ok (takeE_any hS hR (by (focus (repeat (first | apply Del.head | apply Del.tail))))) rfl).mono ?_
      rintro e w' ⟨rfl, v2, hS2, hO⟩
      clear hR; have hR := hO; clear hO
      go_wp2_with (first
    | (go_at_call 56; refine (HI.out _).mono ?_; rintro e w' ⟨rfl, hb⟩; replace hR := hR.grow hb; clear hb)
    | (go_at_call 30; refine (needE_yes _).mono ?_; rintro e w' ⟨rfl, rfl⟩))
      go_end0
      exact ⟨rfl, v2, hS2, hR⟩
/-! ### A segment register, and a colon -/
theorem segB_eq (s : St) : segB s = ((((nextZ s).k == 1) && decide (16 ≤ regIx (nextZ s).s)) && isZ (s.l.getD 1 noTok) 4 sCOLON) := by
  unfold segB nextZ
  have : (s.l.drop 1).headD noTok = s.l.getD 1 noTok := by
    rcases s.l with _ | ⟨a, _ | ⟨b, r⟩⟩ <;> rfl
  rw [this]
  rfl
theorem segE_any {w : World} {gr : Nat} {v : Value} {tb : TabZ} {s : St} (hT : Tabs w) (hg : w.heap[gr]? = some (.cells (rdr v tb s) 66 (0, 0))) (hS : Toks w v s.l) :
    Calls Tryd.prog 57 #[.pointer (some ⟨gr, 0, none⟩)] w fun e w' => e = .returned (.bool (segB s)) ∧ Below w.heap.size w w' := by
  have hR := Own.start w
  have HN := Lib.hid (fun (w' : World) (l : List RowT) (hO : Own w w' l) => nextE_any (hO.old hg) (hS.own hO))
  have HB := Lib.hid (fun (w' : World) (l : List RowT) (hO : Own w w' l) => behindE_any (hO.old hg) (hS.own hO) 1 (by decide))
  have hok : ∀ t : TokZ, t ∈ s.l ∨ t = noTok → bytesOk t.s := by
    rintro t (h | rfl)
    · exact hS.ok t h
    · exact .nil
  have hk1 : bytesOk (nextZ s).s := hok _ (by unfold nextZ; rcases s.l with _ | ⟨a, r⟩; exact .inr rfl; exact .inl (.head _))
  have hk2 : bytesOk (s.l.getD 1 noTok).s := hok _ (by rcases s.l with _ | ⟨a, _ | ⟨b, r⟩⟩; exact .inr rfl; exact .inr rfl; exact .inl (.tail _ (.head _)))
  rw [segB_eq]
  clear hok hg hS
  generalize s.l.getD 1 noTok = t2 at *
  generalize nextZ s = t1 at *
  go_enter Tryd.func57, Tryd.ntmps57
  go_upto_region 2 with (first
    | ((with_reducible apply wpList_box hR); exact rfl; exact rfl; clear hR; intro g w hR; simp only [cS, cZ])
    | ((with_reducible apply wpList_make hR zTok); exact rfl; clear hR; intro g w hR; simp only [cS, cZ])
    | ((with_reducible apply q_ls hR); exact rfl; ((with_reducible first | apply t_addr (fTok _ (by decide)) | apply t_addr fRdr0 | apply t_nilck | apply t_one tIntV | apply t_one tStrE | apply t_one tToksE | apply t_part tTok) <;> (first | (focus (repeat (first | (apply EvC.gv; exact rfl; (with_reducible first | exact Imp.refl _ | (apply Imp.left; exact Imp.refl _) | (apply Imp.right; exact Imp.refl _) | (apply Imp.left; apply Imp.left; exact Imp.refl _))) | (apply EvC.now; exact rfl) | (with_reducible first | apply EvAll.cons | exact EvAll.nil))); done) | exact rfl | exact ext_tok _ | (focus (repeat (first | apply List.Mem.head | apply List.Mem.tail | apply List.mem_append_right))))); (simp only [cS, cZ]; exact rfl); clear hR; intro w hR)
    | (go_at_call 42; refine (HN.out _ _ hR).mono ?_; rintro e w' ⟨rfl, hb⟩; replace hR := hR.grow hb; clear hb)
    | ((with_reducible apply wpList_put hR tTok); exact rfl; exact rfl; exact rfl; (focus (repeat (first | apply List.Mem.head | apply List.Mem.tail | apply List.mem_append_right))); exact put_tok _ _; exact rfl; exact Nat.le_refl 4; exact one_tok _; (focus (repeat (first | apply Upd.head | apply Upd.tail))); clear hR; intro w hR))
  refine wp_region_tame hR [0, 1, 2, 3, 4, 5, 6, 7, 8, 9, 10, 11, 12, 13, 14] rfl ?_
  repeat (refine wpT_step rfl ?_; first
    | ((first | (with_reducible apply q_pl) | ((with_reducible apply q_gd); (first | (apply GdBy.gt; exact rfl; exact rfl) | (apply GdBy.gf; exact rfl; exact rfl) | (apply GdBy.t; exact rfl; exact rfl) | (apply GdBy.f; exact rfl; exact rfl)))); (first | ((with_reducible first | apply t_move | apply t_assign | apply t_and | apply t_or | apply t_cmp | apply t_not | apply t_addr (fTok _ (by decide)) | apply t_addr fRdr0 | apply t_nilck | apply t_one tIntV | apply t_one tStrE | apply t_one tToksE | apply t_part tTok) <;> (first | (focus (repeat (first | (apply EvC.gv; exact rfl; (with_reducible first | exact Imp.refl _ | (apply Imp.left; exact Imp.refl _) | (apply Imp.right; exact Imp.refl _) | (apply Imp.left; apply Imp.left; exact Imp.refl _))) | (apply EvC.now; exact rfl) | (with_reducible first | apply EvAll.cons | exact EvAll.nil))); done) | exact rfl | exact ext_tok _ | (focus (repeat (first | apply List.Mem.head | apply List.Mem.tail | apply List.mem_append_right)))))); (simp only [cS, cZ]; exact rfl))
    | ((first | (with_reducible apply q_pl) | ((with_reducible apply q_gd); (first | (apply GdBy.gt; exact rfl; exact rfl) | (apply GdBy.gf; exact rfl; exact rfl) | (apply GdBy.t; exact rfl; exact rfl) | (apply GdBy.f; exact rfl; exact rfl)))); (with_reducible apply t_call Tryd.call13); (first | (focus (repeat (first | (apply EvC.gv; exact rfl; (with_reducible first | exact Imp.refl _ | (apply Imp.left; exact Imp.refl _) | (apply Imp.right; exact Imp.refl _) | (apply Imp.left; apply Imp.left; exact Imp.refl _))) | (apply EvC.now; exact rfl) | (with_reducible first | apply EvAll.cons | exact EvAll.nil))); done) | exact rfl | exact ext_tok _ | (focus (repeat (first | apply List.Mem.head | apply List.Mem.tail | apply List.mem_append_right)))); (intro hcc w hC; exact tame_below (registerE_any (hT.own hC) hk1) hC); (simp only [cS, cZ]; exact rfl))
    | ((first | (with_reducible apply q_pl) | ((with_reducible apply q_gd); (first | (apply GdBy.gt; exact rfl; exact rfl) | (apply GdBy.gf; exact rfl; exact rfl) | (apply GdBy.t; exact rfl; exact rfl) | (apply GdBy.f; exact rfl; exact rfl)))); (with_reducible apply t_call Tryd.call62); (first | (focus (repeat (first | (apply EvC.gv; exact rfl; (with_reducible first | exact Imp.refl _ | (apply Imp.left; exact Imp.refl _) | (apply Imp.right; exact Imp.refl _) | (apply Imp.left; apply Imp.left; exact Imp.refl _))) | (apply EvC.now; exact rfl) | (with_reducible first | apply EvAll.cons | exact EvAll.nil))); done) | exact rfl | exact ext_tok _ | (focus (repeat (first | apply List.Mem.head | apply List.Mem.tail | apply List.mem_append_right)))); (intro hcc w hC; exact tame_below (HB.out _ _ hC) hC); (simp only [cS, cZ]; exact rfl))
    | ((first | (with_reducible apply q_pl) | ((with_reducible apply q_gd); (first | (apply GdBy.gt; exact rfl; exact rfl) | (apply GdBy.gf; exact rfl; exact rfl) | (apply GdBy.t; exact rfl; exact rfl) | (apply GdBy.f; exact rfl; exact rfl)))); (with_reducible apply t_call Tryd.call56); (apply EvAll.cons; (first | (focus (repeat (first | (apply EvC.gv; exact rfl; (with_reducible first | exact Imp.refl _ | (apply Imp.left; exact Imp.refl _) | (apply Imp.right; exact Imp.refl _) | (apply Imp.left; apply Imp.left; exact Imp.refl _))) | (apply EvC.now; exact rfl) | (with_reducible first | apply EvAll.cons | exact EvAll.nil))); done) | exact rfl | exact ext_tok _ | (focus (repeat (first | apply List.Mem.head | apply List.Mem.tail | apply List.mem_append_right)))); apply EvAll.cons; (first | (focus (repeat (first | (apply EvC.gv; exact rfl; (with_reducible first | exact Imp.refl _ | (apply Imp.left; exact Imp.refl _) | (apply Imp.right; exact Imp.refl _) | (apply Imp.left; apply Imp.left; exact Imp.refl _))) | (apply EvC.now; exact rfl) | (with_reducible first | apply EvAll.cons | exact EvAll.nil))); done) | exact rfl | exact ext_tok _ | (focus (repeat (first | apply List.Mem.head | apply List.Mem.tail | apply List.mem_append_right)))); apply EvAll.cons; (exact lit_now lsCOLON); exact EvAll.nil); (intro hcc w hC; exact tame_below (isE_any 4 hk2 oksCOLON _) hC); (simp only [cS, cZ]; exact rfl))
    | ((with_reducible apply q_gd); (first | (apply GdBy.gt; exact rfl; exact rfl) | (apply GdBy.gf; exact rfl; exact rfl) | (apply GdBy.t; exact rfl; exact rfl) | (apply GdBy.f; exact rfl; exact rfl)); ((with_reducible apply t_num) <;> (first | (focus (repeat (first | (apply EvC.gv; exact rfl; (with_reducible first | exact Imp.refl _ | (apply Imp.left; exact Imp.refl _) | (apply Imp.right; exact Imp.refl _) | (apply Imp.left; apply Imp.left; exact Imp.refl _))) | (apply EvC.now; exact rfl) | (with_reducible first | apply EvAll.cons | exact EvAll.nil))); done) | exact rfl | exact ext_tok _ | (focus (repeat (first | apply List.Mem.head | apply List.Mem.tail | apply List.mem_append_right))))); (simp only [cS, cZ]; exact rfl))
    | ((with_reducible apply wpT1_gpure); (first | (apply GdBy.gt; exact rfl; exact rfl) | (apply GdBy.gf; exact rfl; exact rfl) | (apply GdBy.t; exact rfl; exact rfl) | (apply GdBy.f; exact rfl; exact rfl)); intro K hK; go_simp; refine hK _ ?_; clear hK K; simp only [cS, cZ])
    | ((with_reducible apply wpT1_pure); exact rfl; intro K hK; go_simp; refine hK _ ?_; clear hK K; simp only [cS, cZ]))
  refine wpT_nil ?_
  clear hR; intro w hR
  go_wp2_with fail
  go_ret
  exact ⟨rfl, hR.below⟩
end Go.Proofs.YtckkgooabnlooaaDoor
