/- Several texts in one, in their order of building; each begins with what it is. No statement of the seat is proved here. -/
import Derived.Test.YtimciiaajlfkoaaFixA
import Derived.Test.YtimciiaajlfkoaaFixS
import Derived.Deep.DeepCutAuto
import Derived.Deep.CutBlock
import Derived.Test.YtimciiaajlfkoaaRng
import Derived.Test.YtimciiaajlfkoaaBase
import Derived.RangeFuncStops
import Derived.Shelf.Abstract
import Derived.Shelf.RegionOpen
import Derived.OwnWalkIn
import Derived.TacticsInMore
import Derived.LoopNIn
import Derived.LoopIn
import Derived.Test.YtimciiaajlfkoaaAppG
/- An insertion sort of fixups by their places: what it comes to. Plain mathematics, rows of structs written at a place, and the contracts of what compares. No statement of the seat is proved here. -/
namespace Go.Proofs.Ytimciiaajlfkoaa
open Go.ChangeShapes Go.WideShapes Go.ChangeAt Go.RowKit
set_option linter.unusedVariables false
set_option linter.unusedSimpArgs false

/-! ### Sorted, of one place in their order -/
theorem stable_one (x : FixZ) : StableF [x] [x] := ⟨.refl _, by simp, fun _ => rfl⟩
theorem stable_nil : StableF [] [] := ⟨.refl _, .nil, fun _ => rfl⟩
theorem stable_put {X A B : List FixZ} {e : FixZ} (h : StableF X (A ++ B)) (hB : ∀ b ∈ B, e.a < b.a) (hA : A = [] ∨ ∃ C z, A = C ++ [z] ∧ z.a ≤ e.a) : StableF (X ++ [e]) (A ++ e :: B) := by
  obtain ⟨hp, hu, hs⟩ := h
  rw [List.pairwise_append] at hu
  obtain ⟨u1, u2, u3⟩ := hu
  have hle : ∀ a ∈ A, a.a ≤ e.a := by
    intro a ha
    rcases hA with rfl | ⟨C, z, rfl, hz⟩
    · exact nomatch ha
    · rcases List.mem_append.1 ha with ha | ha
      · rw [List.pairwise_append] at u1
        have := u1.2.2 a ha z (.head _)
        omega
      · rw [List.mem_singleton.1 ha]; exact hz
  refine ⟨?_, ?_, fun v => ?_⟩
  · exact (List.perm_middle.trans (hp.cons e)).trans (List.perm_append_comm (l₁ := [e]) (l₂ := X))
  · rw [List.pairwise_append]
    refine ⟨u1, List.pairwise_cons.2 ⟨fun b hb => by have := hB b hb; omega, u2⟩, fun a ha b hb => ?_⟩
    rcases List.mem_cons.1 hb with rfl | hb
    · exact hle a ha
    · exact u3 a ha b hb
  · have h1 := hs v
    rw [List.filter_append] at h1
    rw [List.filter_append, List.filter_append, List.filter_cons, ← h1]
    by_cases he : e.a = v
    · have hB0 : B.filter (fun f => f.a == v) = [] := by
        rw [List.filter_eq_nil_iff]
        intro b hb
        have := hB b hb
        simp; omega
      rw [if_pos (by simpa using he), hB0, List.append_nil, List.filter_cons, if_pos (by simpa using he), List.filter_nil]
    · rw [if_neg (by simpa using he), List.filter_cons, if_neg (by simpa using he), List.filter_nil, List.append_nil]
/-! ### A row of structs, written at a place -/
theorem putList_mid {c : Array Value} {P Q R vs : List Value} {off : Nat} (h : c.toList = P ++ (Q ++ R)) (hP : P.length = off) (hQ : Q.length = vs.length) : (putList c off vs).toList = P ++ (vs ++ R) := by
  have hsz : c.size = P.length + (Q.length + R.length) := by rw [← Array.length_toList, h]; simp
  apply List.ext_getElem?
  intro i
  rw [Array.getElem?_toList, putList_get _ _ _ _ (by omega), ← Array.getElem?_toList, h]
  subst hP
  simp only [List.getElem?_append]
  by_cases h2 : i < P.length
  · rw [if_neg (by omega), if_pos h2, if_pos h2]
  · by_cases h3 : i < P.length + vs.length
    · rw [if_pos (by omega), if_neg h2, if_pos (by omega)]
    · rw [if_neg (by omega), if_neg h2, if_neg h2, if_neg (by omega), if_neg (by omega), hQ]
theorem cellsFs_len (Y : List FixZ) : (Y.flatMap cellsF).length = Y.length * 8 := by
  rw [List.length_flatMap]
  have h1 : Y.map (fun x => (cellsF x).length) = Y.map (fun _ => 8) := rfl
  rw [h1, List.map_const', List.sum_replicate_nat]
/-- A row that holds these structs, and maybe more places. -/
structure FxRow (cur : Array Value) (cap : Nat) (Y : List FixZ) : Prop where
  is : RwIs 8 cur Y.length cap (Y.flatMap cellsF)
theorem FxRow.toList {cur : Array Value} {cap : Nat} {Y : List FixZ} (h : FxRow cur cap Y) : cur.toList = Y.flatMap cellsF ++ cur.toList.drop (Y.length * 8) := by
  have := h.is.take
  conv => lhs; rw [← List.take_append_drop (Y.length * 8) cur.toList]
  rw [this]
theorem FxRow.part {cur : Array Value} {cap : Nat} {A B : List FixZ} {y : FixZ} (h : FxRow cur cap (A ++ y :: B)) : Part cur (A.length * 8) (encF y).toList := by
  refine ⟨fun j u hu => ?_⟩
  have hj : j < 8 := (List.getElem?_eq_some_iff.1 hu).1
  rw [← Array.getElem?_toList, h.toList, List.flatMap_append, List.flatMap_cons, List.append_assoc, List.append_assoc]
  rw [List.getElem?_append_right (by rw [cellsFs_len]; omega), cellsFs_len, Nat.add_sub_cancel_left]
  rw [List.getElem?_append_left (by rw [cellsF_len]; exact hj)]
  exact hu
theorem FxRow.put {cur : Array Value} {cap : Nat} {A B : List FixZ} {y : FixZ} (h : FxRow cur cap (A ++ y :: B)) (f : FixZ) : ∃ cur', PutRel cur (A.length * 8) (encF f).toList cur' ∧ A.length * 8 + 8 ≤ cur.size ∧ FxRow cur' cap (A ++ f :: B) := by
  have h1 := h.toList
  have hlen : (A ++ y :: B).length = (A ++ f :: B).length := by simp
  rw [List.flatMap_append, List.flatMap_cons, List.append_assoc, List.append_assoc] at h1
  have h2 := putList_mid (vs := (encF f).toList) h1 (cellsFs_len A) rfl
  refine ⟨_, ⟨rfl⟩, ?_, ⟨?_, ?_, ?_, ?_, ?_⟩⟩
  · rw [h.is.size]
    have h3 := h.is.le
    rw [List.length_append, List.length_cons] at h3
    omega
  · rw [cellsFs_len]
  · rw [← hlen]; exact h.is.le
  · exact h.is.most
  · rw [putList_size]; exact h.is.size
  · rw [h2, ← hlen, List.flatMap_append, List.flatMap_cons]
    have h4 : (A.flatMap cellsF ++ (cellsF f ++ B.flatMap cellsF)).length = (A ++ y :: B).length * 8 := by
      rw [← List.flatMap_cons, ← List.flatMap_append, cellsFs_len, ← hlen]
    rw [show A.flatMap cellsF ++ ((encF f).toList ++ (B.flatMap cellsF ++ cur.toList.drop ((A ++ y :: B).length * 8))) = (A.flatMap cellsF ++ (cellsF f ++ B.flatMap cellsF)) ++ cur.toList.drop ((A ++ y :: B).length * 8) by simp [cellsF], ← h4]
    exact List.take_left
/-! ### What compares -/
def cmpV (x y : Int) : Int := if x < y then -1 else if y < x then 1 else 0
theorem cmpV_lt (x y : Int) : decide (cmpV x y < 0) = decide (x < y) := by
  unfold cmpV
  split
  · rename_i h; simp [h]
  · rename_i h; split <;> simp [h]
theorem isNaN_any (x : Int) (w : World) : Calls Try.prog 49 #[.int .i64 x] w fun e w' => e = .returned (.bool false) ∧ Below w.heap.size w w' := by
  have HN := Lib.hid (show cmpB .neq x x = some false by simp [cmpB])
  have hR := Own.start w
  go_enter Try.func49, Try.ntmps49
  go_wp2_with (first
    | ((with_reducible apply q_ls hR); exact rfl; (with_reducible apply t_cmp); (apply EvC.now; exact rfl); (apply EvC.now; exact rfl); exact HN.out; (simp only [List.set_cons_succ, List.set_cons_zero]; exact rfl); clear hR; intro w hR)
    | ((with_reducible apply q_ls hR); exact rfl; ((with_reducible first | apply t_addr (fFix _ (by decide)) | apply t_addr (fThs _ (by decide)) | apply t_addr (fThr _ (by decide)) | apply t_one tByteR | apply t_one tIntR | apply t_one tBoolF | apply t_one tWordF | apply t_part tFix) <;> (first | (apply EvC.gv; exact rfl; (with_reducible first | exact Imp.refl _ | (apply Imp.left; exact Imp.refl _) | (apply Imp.right; exact Imp.refl _) | (apply Imp.left; apply Imp.left; exact Imp.refl _))) | (apply EvC.now; exact rfl) | exact rfl | (with_reducible exact EvAll.nil) | (focus (repeat (first | apply EvAll.cons | exact EvAll.nil | (apply EvC.gv; exact rfl; (with_reducible first | exact Imp.refl _ | (apply Imp.left; exact Imp.refl _) | (apply Imp.right; exact Imp.refl _) | (apply Imp.left; apply Imp.left; exact Imp.refl _))) | (apply EvC.now; exact rfl))); done) | exact ext_fix _ | (focus (repeat (first | apply List.Mem.head | apply List.Mem.tail | apply List.mem_append_right))))); (simp only [List.set_cons_succ, List.set_cons_zero]; exact rfl); clear hR; intro w hR))
  go_ret
  exact ⟨rfl, hR.below⟩
theorem compare_any (x y : Int) (w : World) : Calls Try.prog 37 #[.int .i64 x, .int .i64 y] w fun e w' => e = .returned (.int .i64 (cmpV x y)) ∧ Below w.heap.size w w' := by
  have hR := Own.start w
  have HV := Lib.hid (show cmpV x y = if x < y then -1 else if y < x then 1 else 0 from rfl)
  go_enter Try.func37, Try.ntmps37
  go_wp2_with (first
    | (go_at_call 49; refine (isNaN_any _ _).mono ?_; rintro e w' ⟨rfl, hb⟩; replace hR := hR.grow hb; clear hb))
  all_goals go_ret
  all_goals refine ⟨?_, hR.below⟩
  all_goals rw [HV.out]
  all_goals first
    | (simp_all; done)
    | (simp_all; rw [if_neg (by omega), if_neg (by omega)])
theorem fixCmp_any (f h : FixZ) (w0 : World) : Calls Try.prog 36 #[.agg (encF f), .agg (encF h)] w0 fun e w' => e = .returned (.int .i64 (cmpV f.a h.a)) ∧ Below w0.heap.size w0 w' := by
  have hR := Own.start w0
  go_enter Try.func36, Try.ntmps36
  go_upto_region 1 with (first
    | ((with_reducible apply wpList_box hR); exact rfl; exact rfl; clear hR; intro g w hR; simp only [List.set_cons_succ, List.set_cons_zero]))
  go_wp2_with (first
    | (go_at_call 37; refine (compare_any _ _ _).mono ?_; rintro e w' ⟨rfl, hb⟩; replace hR := hR.grow hb; clear hb)
    | ((with_reducible apply q_ls hR); exact rfl; ((with_reducible first | apply t_addr (fFix _ (by decide)) | apply t_addr (fThs _ (by decide)) | apply t_addr (fThr _ (by decide)) | apply t_one tByteR | apply t_one tIntR | apply t_one tBoolF | apply t_one tWordF | apply t_part tFix) <;> (first | (apply EvC.gv; exact rfl; (with_reducible first | exact Imp.refl _ | (apply Imp.left; exact Imp.refl _) | (apply Imp.right; exact Imp.refl _) | (apply Imp.left; apply Imp.left; exact Imp.refl _))) | (apply EvC.now; exact rfl) | exact rfl | (with_reducible exact EvAll.nil) | (focus (repeat (first | apply EvAll.cons | exact EvAll.nil | (apply EvC.gv; exact rfl; (with_reducible first | exact Imp.refl _ | (apply Imp.left; exact Imp.refl _) | (apply Imp.right; exact Imp.refl _) | (apply Imp.left; apply Imp.left; exact Imp.refl _))) | (apply EvC.now; exact rfl))); done) | exact ext_fix _ | (focus (repeat (first | apply List.Mem.head | apply List.Mem.tail | apply List.mem_append_right))))); (simp only [List.set_cons_succ, List.set_cons_zero]; exact rfl); clear hR; intro w hR))
  go_ret
  exact ⟨rfl, hR.below⟩
end Go.Proofs.Ytimciiaajlfkoaa
/- An insertion sort of fixups, as the library does it: its contract. No statement of the seat is proved here. -/
namespace Go.Proofs.Ytimciiaajlfkoaa
open Go.ChangeShapes Go.WideShapes Go.ChangeAt Go.RowKit
set_option linter.unusedVariables false
set_option linter.unusedSimpArgs false

section
variable {P : Program} {C : World → Prop} {tp : TypeId} {pos : String} {af : Array Edge} {gd : Option (Nat × Bool)} {ls : List Value} {ds : List Deferred} {c : Bool} {dd : Option Tmp}
/-- A call through a function value that captured nothing. -/
theorem t_callv {F : FuncId} (hcf : ∀ (args : Array Value) w, (callFunc F args).run P w = .ok (.enter F args) w) {x : Operand} {xs : Array Operand} {ats : Array TypeId} {args : List Value} {v : Value} (hx : EvC ls c x (.func (.func F) #[] #[])) (ha : EvAll ls c xs.toList args)
    (hc : c = true → ∀ w, C w → Calls P F args.toArray w fun e w' => e = .returned v ∧ Below w.heap.size w w' ∧ C w') : TIf P C c ⟨dd, .call ⟨.value x, xs, ats⟩, tp, pos, af, gd⟩ ⟨ls.toArray, ds⟩ v := by
  refine ⟨fun e => .inr ⟨F, args.toArray, fun w => ?_, hc e⟩⟩
  have ha' : xs.map (⟨ls.toArray, ds⟩ : Act).eval = args.toArray := by
    apply Array.toList_inj.1
    rw [Array.toList_map, evalAll_of (ha.of e)]
  have hev : (⟨ls.toArray, ds⟩ : Act).eval x = .func (.func F) #[] #[] := eval_of (hx.of e)
  unfold execOp
  simp only [resolve, hev, Deferred.ofValue, ha', Sem.run_bind, Sem.run_pure, Result.andThen_ok, invoke, Array.empty_append, Array.append_empty, hcf]
/-- What a guard that is known does not let through. -/
theorem t_never {o : Oper} {a : Act} : TIf P C false o a undef := ⟨fun h => nomatch h⟩
end
theorem ev_add {ls : List Value} {x : Operand} {g n off : Nat} (h : evalL ls x = some (.pointer (some ((⟨g, 0, none⟩ : Addr).add n)))) (ho : n = off) : evalL ls x = some (.pointer (some ⟨g, off, none⟩)) := by rw [h, addr_mid, Nat.zero_add, ho]
theorem split_at {Y : List FixZ} {m : Nat} (h : m < Y.length) : ∃ A z, ∃ B, Y = A ++ z :: B ∧ A.length = m :=
  ⟨Y.take m, Y[m], Y.drop (m + 1), by rw [← List.drop_eq_getElem_cons h, List.take_append_drop], by rw [List.length_take]; omega⟩
set_option maxHeartbeats 2000000 in
theorem insSort_any {w0 w : World} {l : List RowT} {g cap : Nat} {cur : Array Value} {X : List FixZ} (hR : Own w0 w ((g, cur, 24) :: l)) (hX : FxRow cur cap X) (h1 : 1 ≤ X.length) (hl : X.length ≤ 20) :
    Calls Try.prog 56 #[.slice (some ⟨g, 0, none⟩) X.length cap, .int .i64 0, .int .i64 X.length, .func (.func 36) #[] #[]] w fun e w' => e = .returned (.tuple #[]) ∧ ∃ Y cur', StableF X Y ∧ Own w0 w' ((g, cur', 24) :: l) ∧ FxRow cur' cap Y := by
  obtain ⟨n, hn⟩ : ∃ n, X.length = n := ⟨_, rfl⟩
  rw [hn] at h1 hl ⊢
  go_enter Try.func56, Try.ntmps56
  go_wp2_with fail
  go_loopw [8] (fun i wr => ∃ (k : Nat) (A : List FixZ) (cur : Array Value), i = .int .i64 k ∧ 1 ≤ k ∧ k ≤ n ∧ StableF (X.take k) A ∧ Own w0 wr ((g, cur, 24) :: l) ∧ FxRow cur cap (A ++ X.drop k)) (fun i _ => n - (intOf i).toNat)
  case atStart =>
    obtain ⟨x, X', rfl⟩ : ∃ x X', X = x :: X' := by
      cases X with
      | nil => simp at hn; omega
      | cons x X' => exact ⟨x, X', rfl⟩
    exact ⟨1, [x], cur, rfl, Nat.le_refl _, h1, stable_one x, hR, hX⟩
  case round =>
    clear hR hX
    obtain ⟨k, A, cur, rfl, hk1, hkn, hSt, hR, hRow⟩ := hrel
    by_cases hkl : k < n
    · obtain ⟨e, he⟩ : ∃ e, X[k]? = some e := ⟨_, List.getElem?_eq_getElem (by omega)⟩
      have hdr : X.drop k = e :: X.drop (k + 1) := by
        obtain ⟨h2, h3⟩ := List.getElem?_eq_some_iff.1 he
        rw [List.drop_eq_getElem_cons h2, h3]
      have htk : X.take (k + 1) = X.take k ++ [e] := by rw [List.take_add_one, he]; rfl
      have hAl : A.length = k := by rw [hSt.perm.length_eq, List.length_take]; omega
      rw [hdr] at hRow
      have HL := Lib.hid (show cmpB .lss (k : Int) (n : Int) = some true by simp [cmpB]; omega)
      clear he hdr
      go_wp2_with (first
    | ((with_reducible apply q_ls hR); exact rfl; (with_reducible apply t_cmp); (apply EvC.now; exact rfl); (apply EvC.now; exact rfl); exact HL.out; (simp only [List.set_cons_succ, List.set_cons_zero]; exact rfl); clear hR; intro w hR)
    | ((with_reducible apply q_ls hR); exact rfl; ((with_reducible first | apply t_addr (fFix _ (by decide)) | apply t_addr (fThs _ (by decide)) | apply t_addr (fThr _ (by decide)) | apply t_one tByteR | apply t_one tIntR | apply t_one tBoolF | apply t_one tWordF | apply t_part tFix) <;> (first | (apply EvC.gv; exact rfl; (with_reducible first | exact Imp.refl _ | (apply Imp.left; exact Imp.refl _) | (apply Imp.right; exact Imp.refl _) | (apply Imp.left; apply Imp.left; exact Imp.refl _))) | (apply EvC.now; exact rfl) | exact rfl | (with_reducible exact EvAll.nil) | (focus (repeat (first | apply EvAll.cons | exact EvAll.nil | (apply EvC.gv; exact rfl; (with_reducible first | exact Imp.refl _ | (apply Imp.left; exact Imp.refl _) | (apply Imp.right; exact Imp.refl _) | (apply Imp.left; apply Imp.left; exact Imp.refl _))) | (apply EvC.now; exact rfl))); done) | exact ext_fix _ | (focus (repeat (first | apply List.Mem.head | apply List.Mem.tail | apply List.mem_append_right))))); (simp only [List.set_cons_succ, List.set_cons_zero]; exact rfl); clear hR; intro w hR))
      have HN := Lib.hid (show IntKind.i64.wrap ((k : Int) + 1) = ((k + 1 : Nat) : Int) by rw [IntWalk.i64_in _ (by omega)]; omega)
      go_loopw [9] (fun j wr => ∃ (A B : List FixZ) (cur : Array Value), j = .int .i64 A.length ∧ StableF (X.take k) (A ++ B) ∧ (∀ b ∈ B, e.a < b.a) ∧ Own w0 wr ((g, cur, 24) :: l) ∧ FxRow cur cap (A ++ e :: (B ++ X.drop (k + 1)))) (fun j _ => (intOf j).toNat)
      case atStart => exact ⟨A, [], cur, by rw [hAl], by rw [List.append_nil]; exact hSt, (fun b hb => nomatch hb), hR, hRow⟩
      case round =>
        clear hR hRow hSt hAl
        obtain ⟨A, B, cur, rfl, hSt, hB, hR, hRow⟩ := hrel
        rcases List.eq_nil_or_concat A with rfl | ⟨C, z, rfl⟩
        · have HG := Lib.hid (show cmpB .gtr ((([] : List FixZ).length : Nat) : Int) 0 = some false by decide)
          go_upto_region 4 with fail
          refine wp_region_rows hR [0, 1, 2, 3, 4, 5, 6, 7, 8, 9, 10, 11, 12, 13, 14, 15, 16] 0 (by kernel_rfl) (by kernel_rfl) (by kernel_rfl) rfl ?_
          clear hR; intro hR
          repeat (refine wpT_step rfl ?_; first
    | ((with_reducible apply q_pl); (with_reducible apply t_cmp); (first | (apply EvC.gv; exact rfl; (with_reducible first | exact Imp.refl _ | (apply Imp.left; exact Imp.refl _) | (apply Imp.right; exact Imp.refl _) | (apply Imp.left; apply Imp.left; exact Imp.refl _))) | (apply EvC.now; exact rfl) | exact rfl | (with_reducible exact EvAll.nil) | (focus (repeat (first | apply EvAll.cons | exact EvAll.nil | (apply EvC.gv; exact rfl; (with_reducible first | exact Imp.refl _ | (apply Imp.left; exact Imp.refl _) | (apply Imp.right; exact Imp.refl _) | (apply Imp.left; apply Imp.left; exact Imp.refl _))) | (apply EvC.now; exact rfl))); done) | exact ext_fix _ | (focus (repeat (first | apply List.Mem.head | apply List.Mem.tail | apply List.mem_append_right)))); (first | (apply EvC.gv; exact rfl; (with_reducible first | exact Imp.refl _ | (apply Imp.left; exact Imp.refl _) | (apply Imp.right; exact Imp.refl _) | (apply Imp.left; apply Imp.left; exact Imp.refl _))) | (apply EvC.now; exact rfl) | exact rfl | (with_reducible exact EvAll.nil) | (focus (repeat (first | apply EvAll.cons | exact EvAll.nil | (apply EvC.gv; exact rfl; (with_reducible first | exact Imp.refl _ | (apply Imp.left; exact Imp.refl _) | (apply Imp.right; exact Imp.refl _) | (apply Imp.left; apply Imp.left; exact Imp.refl _))) | (apply EvC.now; exact rfl))); done) | exact ext_fix _ | (focus (repeat (first | apply List.Mem.head | apply List.Mem.tail | apply List.mem_append_right)))); exact HG.out; (simp only [List.set_cons_succ, List.set_cons_zero]; exact rfl))
    | ((with_reducible apply q_pl); (with_reducible apply t_pick); (apply EvC.now; exact rfl); (apply EvC.now; exact rfl); (simp only [List.set_cons_succ, List.set_cons_zero]; exact rfl))
    | ((with_reducible apply q_gd); (first | (apply GdBy.gt; exact rfl; exact rfl) | (apply GdBy.gf; exact rfl; exact rfl) | (apply GdBy.t; exact rfl; exact rfl) | (apply GdBy.f; exact rfl; exact rfl)); (with_reducible exact t_never); (simp only [List.set_cons_succ, List.set_cons_zero]; exact rfl))
    | ((first | (with_reducible apply q_pl) | ((with_reducible apply q_gd); (first | (apply GdBy.gt; exact rfl; exact rfl) | (apply GdBy.gf; exact rfl; exact rfl) | (apply GdBy.t; exact rfl; exact rfl) | (apply GdBy.f; exact rfl; exact rfl)))); (first | ((with_reducible first | apply t_move | apply t_assign | apply t_and | apply t_or | apply t_cmp | apply t_not | apply t_addr (fFix _ (by decide)) | apply t_addr (fThs _ (by decide)) | apply t_addr (fThr _ (by decide)) | apply t_one tByteR | apply t_one tIntR | apply t_one tBoolF | apply t_one tWordF | apply t_part tFix) <;> (first | (apply EvC.gv; exact rfl; (with_reducible first | exact Imp.refl _ | (apply Imp.left; exact Imp.refl _) | (apply Imp.right; exact Imp.refl _) | (apply Imp.left; apply Imp.left; exact Imp.refl _))) | (apply EvC.now; exact rfl) | exact rfl | (with_reducible exact EvAll.nil) | (focus (repeat (first | apply EvAll.cons | exact EvAll.nil | (apply EvC.gv; exact rfl; (with_reducible first | exact Imp.refl _ | (apply Imp.left; exact Imp.refl _) | (apply Imp.right; exact Imp.refl _) | (apply Imp.left; apply Imp.left; exact Imp.refl _))) | (apply EvC.now; exact rfl))); done) | exact ext_fix _ | (focus (repeat (first | apply List.Mem.head | apply List.Mem.tail | apply List.mem_append_right)))))); (simp only [List.set_cons_succ, List.set_cons_zero]; exact rfl)))
          refine wpT_nil ?_
          refine wpG_end hR (by kernel_rfl) ?_
          clear hR; intro w hR
          go_upto_if 34 with fail
          refine wp_cond_at (nm := false) rfl rfl (fun h => absurd h (by decide)) (fun _ => ?_)
          have hst := stable_put hSt hB (.inl rfl)
          rw [← htk] at hst
          go_wp2_with (first
    | ((with_reducible apply q_ls hR); exact rfl; (with_reducible apply t_numE (op := .add)); (apply EvC.now; exact rfl); (apply EvC.now; exact rfl); exact rfl; exact HN.out; (simp only [List.set_cons_succ, List.set_cons_zero]; exact rfl); clear hR; intro w hR)
    | ((with_reducible apply q_ls hR); exact rfl; ((with_reducible first | apply t_addr (fFix _ (by decide)) | apply t_addr (fThs _ (by decide)) | apply t_addr (fThr _ (by decide)) | apply t_one tByteR | apply t_one tIntR | apply t_one tBoolF | apply t_one tWordF | apply t_part tFix) <;> (first | (apply EvC.gv; exact rfl; (with_reducible first | exact Imp.refl _ | (apply Imp.left; exact Imp.refl _) | (apply Imp.right; exact Imp.refl _) | (apply Imp.left; apply Imp.left; exact Imp.refl _))) | (apply EvC.now; exact rfl) | exact rfl | (with_reducible exact EvAll.nil) | (focus (repeat (first | apply EvAll.cons | exact EvAll.nil | (apply EvC.gv; exact rfl; (with_reducible first | exact Imp.refl _ | (apply Imp.left; exact Imp.refl _) | (apply Imp.right; exact Imp.refl _) | (apply Imp.left; apply Imp.left; exact Imp.refl _))) | (apply EvC.now; exact rfl))); done) | exact ext_fix _ | (focus (repeat (first | apply List.Mem.head | apply List.Mem.tail | apply List.mem_append_right))))); (simp only [List.set_cons_succ, List.set_cons_zero]; exact rfl); clear hR; intro w hR))
          go_round
          case rel => exact ⟨k + 1, e :: B, cur, rfl, by omega, by omega, hst, hR, hRow⟩
          case measure => simp [intOf]; omega
        · rw [List.concat_eq_append] at hSt hRow ⊢
          obtain ⟨j, hj⟩ : ∃ j, (C ++ [z]).length = j := ⟨_, rfl⟩
          obtain ⟨m, hm⟩ : ∃ m, C.length = m := ⟨_, rfl⟩
          have hjm : j = m + 1 := by rw [← hj, List.length_append, hm]; rfl
          have hlen := hSt.perm.length_eq
          rw [List.length_take, List.length_append, hj] at hlen
          have hjn : j < n := by omega
          have hRow2 : FxRow cur cap (C ++ z :: (e :: (B ++ X.drop (k + 1)))) := by rw [List.append_assoc] at hRow; exact hRow
          have hjt : ((j : Nat) : Int).toNat * 8 = (C ++ [z]).length * 8 := by rw [Int.toNat_natCast, hj]
          have hmt : ((m : Nat) : Int).toNat * 8 = C.length * 8 := by rw [Int.toNat_natCast, hm]
          have HPE := Lib.hid (show Part cur (((j : Nat) : Int).toNat * 8) (encF e).toList by rw [hjt]; exact hRow.part)
          have HPZ := Lib.hid (show Part cur (((m : Nat) : Int).toNat * 8) (encF z).toList by rw [hmt]; exact hRow2.part)
          have HG := Lib.hid (show cmpB .gtr ((j : Nat) : Int) 0 = some true by simp [cmpB]; omega)
          have HS := Lib.hid (show IntKind.i64.wrap (((j : Nat) : Int) - 1) = ((m : Nat) : Int) by rw [IntWalk.i64_in _ (by omega)]; omega)
          have HJT := Lib.hid hjt
          have HMT := Lib.hid hmt
          have hmn : m < n := by omega
          have HJM := Lib.hid hjm
          have HJ := Lib.hid hj
          have HM := Lib.hid hm
          rw [hj]
          clear hjt hmt hjm hj hm hlen
          cases hb : decide (e.a < z.a)
          · have HLT := Lib.hid (show cmpB .lss (cmpV e.a z.a) 0 = some false by rw [← hb, ← cmpV_lt]; rfl)
            have hle : z.a ≤ e.a := by simpa using hb
            clear hb
            go_upto_region 4 with fail
            refine wp_region_rows hR [0, 1, 2, 3, 4, 5, 6, 7, 8, 9, 10, 11, 12, 13, 14, 15, 16] 0 (by kernel_rfl) (by kernel_rfl) (by kernel_rfl) rfl ?_
            clear hR; intro hR
            repeat (refine wpT_step rfl ?_; first
                | ((with_reducible apply q_pl); (with_reducible apply t_cmp); (first | (apply EvC.gv; exact rfl; (with_reducible first | exact Imp.refl _ | (apply Imp.left; exact Imp.refl _) | (apply Imp.right; exact Imp.refl _) | (apply Imp.left; apply Imp.left; exact Imp.refl _))) | (apply EvC.now; exact rfl) | exact rfl | (with_reducible exact EvAll.nil) | (focus (repeat (first | apply EvAll.cons | exact EvAll.nil | (apply EvC.gv; exact rfl; (with_reducible first | exact Imp.refl _ | (apply Imp.left; exact Imp.refl _) | (apply Imp.right; exact Imp.refl _) | (apply Imp.left; apply Imp.left; exact Imp.refl _))) | (apply EvC.now; exact rfl))); done) | exact ext_fix _ | (focus (repeat (first | apply List.Mem.head | apply List.Mem.tail | apply List.mem_append_right)))); (first | (apply EvC.gv; exact rfl; (with_reducible first | exact Imp.refl _ | (apply Imp.left; exact Imp.refl _) | (apply Imp.right; exact Imp.refl _) | (apply Imp.left; apply Imp.left; exact Imp.refl _))) | (apply EvC.now; exact rfl) | exact rfl | (with_reducible exact EvAll.nil) | (focus (repeat (first | apply EvAll.cons | exact EvAll.nil | (apply EvC.gv; exact rfl; (with_reducible first | exact Imp.refl _ | (apply Imp.left; exact Imp.refl _) | (apply Imp.right; exact Imp.refl _) | (apply Imp.left; apply Imp.left; exact Imp.refl _))) | (apply EvC.now; exact rfl))); done) | exact ext_fix _ | (focus (repeat (first | apply List.Mem.head | apply List.Mem.tail | apply List.mem_append_right)))); exact HG.out; (simp only [List.set_cons_succ, List.set_cons_zero]; exact rfl))
                | ((with_reducible apply q_pl); (with_reducible apply t_pick); (apply EvC.now; exact rfl); (first | (apply EvC.gv; exact rfl; (with_reducible first | exact Imp.refl _ | (apply Imp.left; exact Imp.refl _) | (apply Imp.right; exact Imp.refl _) | (apply Imp.left; apply Imp.left; exact Imp.refl _))) | (apply EvC.now; exact rfl) | exact rfl | (with_reducible exact EvAll.nil) | (focus (repeat (first | apply EvAll.cons | exact EvAll.nil | (apply EvC.gv; exact rfl; (with_reducible first | exact Imp.refl _ | (apply Imp.left; exact Imp.refl _) | (apply Imp.right; exact Imp.refl _) | (apply Imp.left; apply Imp.left; exact Imp.refl _))) | (apply EvC.now; exact rfl))); done) | exact ext_fix _ | (focus (repeat (first | apply List.Mem.head | apply List.Mem.tail | apply List.mem_append_right)))); (simp only [List.set_cons_succ, List.set_cons_zero]; exact rfl))
                | ((first | (with_reducible apply q_pl) | ((with_reducible apply q_gd); (first | (apply GdBy.gt; exact rfl; exact rfl) | (apply GdBy.gf; exact rfl; exact rfl) | (apply GdBy.t; exact rfl; exact rfl) | (apply GdBy.f; exact rfl; exact rfl)))); (with_reducible apply t_cmp); (first | (apply EvC.gv; exact rfl; (with_reducible first | exact Imp.refl _ | (apply Imp.left; exact Imp.refl _) | (apply Imp.right; exact Imp.refl _) | (apply Imp.left; apply Imp.left; exact Imp.refl _))) | (apply EvC.now; exact rfl) | exact rfl | (with_reducible exact EvAll.nil) | (focus (repeat (first | apply EvAll.cons | exact EvAll.nil | (apply EvC.gv; exact rfl; (with_reducible first | exact Imp.refl _ | (apply Imp.left; exact Imp.refl _) | (apply Imp.right; exact Imp.refl _) | (apply Imp.left; apply Imp.left; exact Imp.refl _))) | (apply EvC.now; exact rfl))); done) | exact ext_fix _ | (focus (repeat (first | apply List.Mem.head | apply List.Mem.tail | apply List.mem_append_right)))); (first | (apply EvC.gv; exact rfl; (with_reducible first | exact Imp.refl _ | (apply Imp.left; exact Imp.refl _) | (apply Imp.right; exact Imp.refl _) | (apply Imp.left; apply Imp.left; exact Imp.refl _))) | (apply EvC.now; exact rfl) | exact rfl | (with_reducible exact EvAll.nil) | (focus (repeat (first | apply EvAll.cons | exact EvAll.nil | (apply EvC.gv; exact rfl; (with_reducible first | exact Imp.refl _ | (apply Imp.left; exact Imp.refl _) | (apply Imp.right; exact Imp.refl _) | (apply Imp.left; apply Imp.left; exact Imp.refl _))) | (apply EvC.now; exact rfl))); done) | exact ext_fix _ | (focus (repeat (first | apply List.Mem.head | apply List.Mem.tail | apply List.mem_append_right)))); exact HLT.out; (simp only [List.set_cons_succ, List.set_cons_zero]; exact rfl))
                | ((first | (with_reducible apply q_pl) | ((with_reducible apply q_gd); (first | (apply GdBy.gt; exact rfl; exact rfl) | (apply GdBy.gf; exact rfl; exact rfl) | (apply GdBy.t; exact rfl; exact rfl) | (apply GdBy.f; exact rfl; exact rfl)))); (with_reducible apply t_numE (op := .sub)); (first | (apply EvC.gv; exact rfl; (with_reducible first | exact Imp.refl _ | (apply Imp.left; exact Imp.refl _) | (apply Imp.right; exact Imp.refl _) | (apply Imp.left; apply Imp.left; exact Imp.refl _))) | (apply EvC.now; exact rfl) | exact rfl | (with_reducible exact EvAll.nil) | (focus (repeat (first | apply EvAll.cons | exact EvAll.nil | (apply EvC.gv; exact rfl; (with_reducible first | exact Imp.refl _ | (apply Imp.left; exact Imp.refl _) | (apply Imp.right; exact Imp.refl _) | (apply Imp.left; apply Imp.left; exact Imp.refl _))) | (apply EvC.now; exact rfl))); done) | exact ext_fix _ | (focus (repeat (first | apply List.Mem.head | apply List.Mem.tail | apply List.mem_append_right)))); (first | (apply EvC.gv; exact rfl; (with_reducible first | exact Imp.refl _ | (apply Imp.left; exact Imp.refl _) | (apply Imp.right; exact Imp.refl _) | (apply Imp.left; apply Imp.left; exact Imp.refl _))) | (apply EvC.now; exact rfl) | exact rfl | (with_reducible exact EvAll.nil) | (focus (repeat (first | apply EvAll.cons | exact EvAll.nil | (apply EvC.gv; exact rfl; (with_reducible first | exact Imp.refl _ | (apply Imp.left; exact Imp.refl _) | (apply Imp.right; exact Imp.refl _) | (apply Imp.left; apply Imp.left; exact Imp.refl _))) | (apply EvC.now; exact rfl))); done) | exact ext_fix _ | (focus (repeat (first | apply List.Mem.head | apply List.Mem.tail | apply List.mem_append_right)))); exact rfl; exact HS.out; (simp only [List.set_cons_succ, List.set_cons_zero]; exact rfl))
                | ((first | (with_reducible apply q_pl) | ((with_reducible apply q_gd); (first | (apply GdBy.gt; exact rfl; exact rfl) | (apply GdBy.gf; exact rfl; exact rfl) | (apply GdBy.t; exact rfl; exact rfl) | (apply GdBy.f; exact rfl; exact rfl)))); (with_reducible apply t_six Try.underlying34 iFix); (first | (apply EvC.gv; exact rfl; (with_reducible first | exact Imp.refl _ | (apply Imp.left; exact Imp.refl _) | (apply Imp.right; exact Imp.refl _) | (apply Imp.left; apply Imp.left; exact Imp.refl _))) | (apply EvC.now; exact rfl) | exact rfl | (with_reducible exact EvAll.nil) | (focus (repeat (first | apply EvAll.cons | exact EvAll.nil | (apply EvC.gv; exact rfl; (with_reducible first | exact Imp.refl _ | (apply Imp.left; exact Imp.refl _) | (apply Imp.right; exact Imp.refl _) | (apply Imp.left; apply Imp.left; exact Imp.refl _))) | (apply EvC.now; exact rfl))); done) | exact ext_fix _ | (focus (repeat (first | apply List.Mem.head | apply List.Mem.tail | apply List.mem_append_right)))); (first | (apply EvC.gv; exact rfl; (with_reducible first | exact Imp.refl _ | (apply Imp.left; exact Imp.refl _) | (apply Imp.right; exact Imp.refl _) | (apply Imp.left; apply Imp.left; exact Imp.refl _))) | (apply EvC.now; exact rfl) | exact rfl | (with_reducible exact EvAll.nil) | (focus (repeat (first | apply EvAll.cons | exact EvAll.nil | (apply EvC.gv; exact rfl; (with_reducible first | exact Imp.refl _ | (apply Imp.left; exact Imp.refl _) | (apply Imp.right; exact Imp.refl _) | (apply Imp.left; apply Imp.left; exact Imp.refl _))) | (apply EvC.now; exact rfl))); done) | exact ext_fix _ | (focus (repeat (first | apply List.Mem.head | apply List.Mem.tail | apply List.mem_append_right)))); (constructor <;> omega); (simp only [List.set_cons_succ, List.set_cons_zero]; exact rfl))
                | ((first | (with_reducible apply q_pl) | ((with_reducible apply q_gd); (first | (apply GdBy.gt; exact rfl; exact rfl) | (apply GdBy.gf; exact rfl; exact rfl) | (apply GdBy.t; exact rfl; exact rfl) | (apply GdBy.f; exact rfl; exact rfl)))); (with_reducible apply t_ownMany tFix); (first | (apply EvC.gv; exact rfl; (with_reducible first | exact Imp.refl _ | (apply Imp.left; exact Imp.refl _) | (apply Imp.right; exact Imp.refl _) | (apply Imp.left; apply Imp.left; exact Imp.refl _))) | (apply EvC.now; exact rfl) | exact rfl | (with_reducible exact EvAll.nil) | (focus (repeat (first | apply EvAll.cons | exact EvAll.nil | (apply EvC.gv; exact rfl; (with_reducible first | exact Imp.refl _ | (apply Imp.left; exact Imp.refl _) | (apply Imp.right; exact Imp.refl _) | (apply Imp.left; apply Imp.left; exact Imp.refl _))) | (apply EvC.now; exact rfl))); done) | exact ext_fix _ | (focus (repeat (first | apply List.Mem.head | apply List.Mem.tail | apply List.mem_append_right)))); (exact .head _); (with_reducible first | exact HPE.out | exact HPZ.out); exact rfl; (simp only [List.set_cons_succ, List.set_cons_zero]; exact rfl))
                | ((first | (with_reducible apply q_pl) | ((with_reducible apply q_gd); (first | (apply GdBy.gt; exact rfl; exact rfl) | (apply GdBy.gf; exact rfl; exact rfl) | (apply GdBy.t; exact rfl; exact rfl) | (apply GdBy.f; exact rfl; exact rfl)))); (with_reducible apply t_callv Try.call36); (first | (apply EvC.gv; exact rfl; (with_reducible first | exact Imp.refl _ | (apply Imp.left; exact Imp.refl _) | (apply Imp.right; exact Imp.refl _) | (apply Imp.left; apply Imp.left; exact Imp.refl _))) | (apply EvC.now; exact rfl) | exact rfl | (with_reducible exact EvAll.nil) | (focus (repeat (first | apply EvAll.cons | exact EvAll.nil | (apply EvC.gv; exact rfl; (with_reducible first | exact Imp.refl _ | (apply Imp.left; exact Imp.refl _) | (apply Imp.right; exact Imp.refl _) | (apply Imp.left; apply Imp.left; exact Imp.refl _))) | (apply EvC.now; exact rfl))); done) | exact ext_fix _ | (focus (repeat (first | apply List.Mem.head | apply List.Mem.tail | apply List.mem_append_right)))); (first | (apply EvC.gv; exact rfl; (with_reducible first | exact Imp.refl _ | (apply Imp.left; exact Imp.refl _) | (apply Imp.right; exact Imp.refl _) | (apply Imp.left; apply Imp.left; exact Imp.refl _))) | (apply EvC.now; exact rfl) | exact rfl | (with_reducible exact EvAll.nil) | (focus (repeat (first | apply EvAll.cons | exact EvAll.nil | (apply EvC.gv; exact rfl; (with_reducible first | exact Imp.refl _ | (apply Imp.left; exact Imp.refl _) | (apply Imp.right; exact Imp.refl _) | (apply Imp.left; apply Imp.left; exact Imp.refl _))) | (apply EvC.now; exact rfl))); done) | exact ext_fix _ | (focus (repeat (first | apply List.Mem.head | apply List.Mem.tail | apply List.mem_append_right)))); (intro hcc w hC; exact tame_below (fixCmp_any _ _ _) hC); (simp only [List.set_cons_succ, List.set_cons_zero]; exact rfl))
                | ((first | (with_reducible apply q_pl) | ((with_reducible apply q_gd); (first | (apply GdBy.gt; exact rfl; exact rfl) | (apply GdBy.gf; exact rfl; exact rfl) | (apply GdBy.t; exact rfl; exact rfl) | (apply GdBy.f; exact rfl; exact rfl)))); (first | ((with_reducible first | apply t_move | apply t_assign | apply t_and | apply t_or | apply t_cmp | apply t_not | apply t_addr (fFix _ (by decide)) | apply t_addr (fThs _ (by decide)) | apply t_addr (fThr _ (by decide)) | apply t_one tByteR | apply t_one tIntR | apply t_one tBoolF | apply t_one tWordF | apply t_part tFix) <;> (first | (apply EvC.gv; exact rfl; (with_reducible first | exact Imp.refl _ | (apply Imp.left; exact Imp.refl _) | (apply Imp.right; exact Imp.refl _) | (apply Imp.left; apply Imp.left; exact Imp.refl _))) | (apply EvC.now; exact rfl) | exact rfl | (with_reducible exact EvAll.nil) | (focus (repeat (first | apply EvAll.cons | exact EvAll.nil | (apply EvC.gv; exact rfl; (with_reducible first | exact Imp.refl _ | (apply Imp.left; exact Imp.refl _) | (apply Imp.right; exact Imp.refl _) | (apply Imp.left; apply Imp.left; exact Imp.refl _))) | (apply EvC.now; exact rfl))); done) | exact ext_fix _ | (focus (repeat (first | apply List.Mem.head | apply List.Mem.tail | apply List.mem_append_right)))))); (simp only [List.set_cons_succ, List.set_cons_zero]; exact rfl)))
            refine wpT_nil ?_
            refine wpG_end hR (by kernel_rfl) ?_
            clear hR; intro w hR
            go_upto_if 34 with fail
            refine wp_cond_at (nm := false) rfl rfl (fun h => absurd h (by decide)) (fun _ => ?_)
            have hst := stable_put hSt hB (.inr ⟨C, z, rfl, hle⟩)
            rw [← htk] at hst
            go_wp2_with (first
    | ((with_reducible apply q_ls hR); exact rfl; (with_reducible apply t_numE (op := .add)); (apply EvC.now; exact rfl); (apply EvC.now; exact rfl); exact rfl; exact HN.out; (simp only [List.set_cons_succ, List.set_cons_zero]; exact rfl); clear hR; intro w hR)
    | ((with_reducible apply q_ls hR); exact rfl; ((with_reducible first | apply t_addr (fFix _ (by decide)) | apply t_addr (fThs _ (by decide)) | apply t_addr (fThr _ (by decide)) | apply t_one tByteR | apply t_one tIntR | apply t_one tBoolF | apply t_one tWordF | apply t_part tFix) <;> (first | (apply EvC.gv; exact rfl; (with_reducible first | exact Imp.refl _ | (apply Imp.left; exact Imp.refl _) | (apply Imp.right; exact Imp.refl _) | (apply Imp.left; apply Imp.left; exact Imp.refl _))) | (apply EvC.now; exact rfl) | exact rfl | (with_reducible exact EvAll.nil) | (focus (repeat (first | apply EvAll.cons | exact EvAll.nil | (apply EvC.gv; exact rfl; (with_reducible first | exact Imp.refl _ | (apply Imp.left; exact Imp.refl _) | (apply Imp.right; exact Imp.refl _) | (apply Imp.left; apply Imp.left; exact Imp.refl _))) | (apply EvC.now; exact rfl))); done) | exact ext_fix _ | (focus (repeat (first | apply List.Mem.head | apply List.Mem.tail | apply List.mem_append_right))))); (simp only [List.set_cons_succ, List.set_cons_zero]; exact rfl); clear hR; intro w hR))
            go_round
            case rel => exact ⟨k + 1, C ++ [z] ++ e :: B, cur, rfl, by omega, by omega, hst, hR, by rw [List.append_assoc (C ++ [z])]; exact hRow⟩
            case measure => simp [intOf]; omega
          · have HLT := Lib.hid (show cmpB .lss (cmpV e.a z.a) 0 = some true by rw [← hb, ← cmpV_lt]; rfl)
            have hlt : e.a < z.a := by simpa using hb
            clear hb
            go_upto_region 4 with fail
            refine wp_region_rows hR [0, 1, 2, 3, 4, 5, 6, 7, 8, 9, 10, 11, 12, 13, 14, 15, 16] 0 (by kernel_rfl) (by kernel_rfl) (by kernel_rfl) rfl ?_
            clear hR; intro hR
            repeat (refine wpT_step rfl ?_; first
                | ((with_reducible apply q_pl); (with_reducible apply t_cmp); (first | (apply EvC.gv; exact rfl; (with_reducible first | exact Imp.refl _ | (apply Imp.left; exact Imp.refl _) | (apply Imp.right; exact Imp.refl _) | (apply Imp.left; apply Imp.left; exact Imp.refl _))) | (apply EvC.now; exact rfl) | exact rfl | (with_reducible exact EvAll.nil) | (focus (repeat (first | apply EvAll.cons | exact EvAll.nil | (apply EvC.gv; exact rfl; (with_reducible first | exact Imp.refl _ | (apply Imp.left; exact Imp.refl _) | (apply Imp.right; exact Imp.refl _) | (apply Imp.left; apply Imp.left; exact Imp.refl _))) | (apply EvC.now; exact rfl))); done) | exact ext_fix _ | (focus (repeat (first | apply List.Mem.head | apply List.Mem.tail | apply List.mem_append_right)))); (first | (apply EvC.gv; exact rfl; (with_reducible first | exact Imp.refl _ | (apply Imp.left; exact Imp.refl _) | (apply Imp.right; exact Imp.refl _) | (apply Imp.left; apply Imp.left; exact Imp.refl _))) | (apply EvC.now; exact rfl) | exact rfl | (with_reducible exact EvAll.nil) | (focus (repeat (first | apply EvAll.cons | exact EvAll.nil | (apply EvC.gv; exact rfl; (with_reducible first | exact Imp.refl _ | (apply Imp.left; exact Imp.refl _) | (apply Imp.right; exact Imp.refl _) | (apply Imp.left; apply Imp.left; exact Imp.refl _))) | (apply EvC.now; exact rfl))); done) | exact ext_fix _ | (focus (repeat (first | apply List.Mem.head | apply List.Mem.tail | apply List.mem_append_right)))); exact HG.out; (simp only [List.set_cons_succ, List.set_cons_zero]; exact rfl))
                | ((with_reducible apply q_pl); (with_reducible apply t_pick); (apply EvC.now; exact rfl); (first | (apply EvC.gv; exact rfl; (with_reducible first | exact Imp.refl _ | (apply Imp.left; exact Imp.refl _) | (apply Imp.right; exact Imp.refl _) | (apply Imp.left; apply Imp.left; exact Imp.refl _))) | (apply EvC.now; exact rfl) | exact rfl | (with_reducible exact EvAll.nil) | (focus (repeat (first | apply EvAll.cons | exact EvAll.nil | (apply EvC.gv; exact rfl; (with_reducible first | exact Imp.refl _ | (apply Imp.left; exact Imp.refl _) | (apply Imp.right; exact Imp.refl _) | (apply Imp.left; apply Imp.left; exact Imp.refl _))) | (apply EvC.now; exact rfl))); done) | exact ext_fix _ | (focus (repeat (first | apply List.Mem.head | apply List.Mem.tail | apply List.mem_append_right)))); (simp only [List.set_cons_succ, List.set_cons_zero]; exact rfl))
                | ((first | (with_reducible apply q_pl) | ((with_reducible apply q_gd); (first | (apply GdBy.gt; exact rfl; exact rfl) | (apply GdBy.gf; exact rfl; exact rfl) | (apply GdBy.t; exact rfl; exact rfl) | (apply GdBy.f; exact rfl; exact rfl)))); (with_reducible apply t_cmp); (first | (apply EvC.gv; exact rfl; (with_reducible first | exact Imp.refl _ | (apply Imp.left; exact Imp.refl _) | (apply Imp.right; exact Imp.refl _) | (apply Imp.left; apply Imp.left; exact Imp.refl _))) | (apply EvC.now; exact rfl) | exact rfl | (with_reducible exact EvAll.nil) | (focus (repeat (first | apply EvAll.cons | exact EvAll.nil | (apply EvC.gv; exact rfl; (with_reducible first | exact Imp.refl _ | (apply Imp.left; exact Imp.refl _) | (apply Imp.right; exact Imp.refl _) | (apply Imp.left; apply Imp.left; exact Imp.refl _))) | (apply EvC.now; exact rfl))); done) | exact ext_fix _ | (focus (repeat (first | apply List.Mem.head | apply List.Mem.tail | apply List.mem_append_right)))); (first | (apply EvC.gv; exact rfl; (with_reducible first | exact Imp.refl _ | (apply Imp.left; exact Imp.refl _) | (apply Imp.right; exact Imp.refl _) | (apply Imp.left; apply Imp.left; exact Imp.refl _))) | (apply EvC.now; exact rfl) | exact rfl | (with_reducible exact EvAll.nil) | (focus (repeat (first | apply EvAll.cons | exact EvAll.nil | (apply EvC.gv; exact rfl; (with_reducible first | exact Imp.refl _ | (apply Imp.left; exact Imp.refl _) | (apply Imp.right; exact Imp.refl _) | (apply Imp.left; apply Imp.left; exact Imp.refl _))) | (apply EvC.now; exact rfl))); done) | exact ext_fix _ | (focus (repeat (first | apply List.Mem.head | apply List.Mem.tail | apply List.mem_append_right)))); exact HLT.out; (simp only [List.set_cons_succ, List.set_cons_zero]; exact rfl))
                | ((first | (with_reducible apply q_pl) | ((with_reducible apply q_gd); (first | (apply GdBy.gt; exact rfl; exact rfl) | (apply GdBy.gf; exact rfl; exact rfl) | (apply GdBy.t; exact rfl; exact rfl) | (apply GdBy.f; exact rfl; exact rfl)))); (with_reducible apply t_numE (op := .sub)); (first | (apply EvC.gv; exact rfl; (with_reducible first | exact Imp.refl _ | (apply Imp.left; exact Imp.refl _) | (apply Imp.right; exact Imp.refl _) | (apply Imp.left; apply Imp.left; exact Imp.refl _))) | (apply EvC.now; exact rfl) | exact rfl | (with_reducible exact EvAll.nil) | (focus (repeat (first | apply EvAll.cons | exact EvAll.nil | (apply EvC.gv; exact rfl; (with_reducible first | exact Imp.refl _ | (apply Imp.left; exact Imp.refl _) | (apply Imp.right; exact Imp.refl _) | (apply Imp.left; apply Imp.left; exact Imp.refl _))) | (apply EvC.now; exact rfl))); done) | exact ext_fix _ | (focus (repeat (first | apply List.Mem.head | apply List.Mem.tail | apply List.mem_append_right)))); (first | (apply EvC.gv; exact rfl; (with_reducible first | exact Imp.refl _ | (apply Imp.left; exact Imp.refl _) | (apply Imp.right; exact Imp.refl _) | (apply Imp.left; apply Imp.left; exact Imp.refl _))) | (apply EvC.now; exact rfl) | exact rfl | (with_reducible exact EvAll.nil) | (focus (repeat (first | apply EvAll.cons | exact EvAll.nil | (apply EvC.gv; exact rfl; (with_reducible first | exact Imp.refl _ | (apply Imp.left; exact Imp.refl _) | (apply Imp.right; exact Imp.refl _) | (apply Imp.left; apply Imp.left; exact Imp.refl _))) | (apply EvC.now; exact rfl))); done) | exact ext_fix _ | (focus (repeat (first | apply List.Mem.head | apply List.Mem.tail | apply List.mem_append_right)))); exact rfl; exact HS.out; (simp only [List.set_cons_succ, List.set_cons_zero]; exact rfl))
                | ((first | (with_reducible apply q_pl) | ((with_reducible apply q_gd); (first | (apply GdBy.gt; exact rfl; exact rfl) | (apply GdBy.gf; exact rfl; exact rfl) | (apply GdBy.t; exact rfl; exact rfl) | (apply GdBy.f; exact rfl; exact rfl)))); (with_reducible apply t_six Try.underlying34 iFix); (first | (apply EvC.gv; exact rfl; (with_reducible first | exact Imp.refl _ | (apply Imp.left; exact Imp.refl _) | (apply Imp.right; exact Imp.refl _) | (apply Imp.left; apply Imp.left; exact Imp.refl _))) | (apply EvC.now; exact rfl) | exact rfl | (with_reducible exact EvAll.nil) | (focus (repeat (first | apply EvAll.cons | exact EvAll.nil | (apply EvC.gv; exact rfl; (with_reducible first | exact Imp.refl _ | (apply Imp.left; exact Imp.refl _) | (apply Imp.right; exact Imp.refl _) | (apply Imp.left; apply Imp.left; exact Imp.refl _))) | (apply EvC.now; exact rfl))); done) | exact ext_fix _ | (focus (repeat (first | apply List.Mem.head | apply List.Mem.tail | apply List.mem_append_right)))); (first | (apply EvC.gv; exact rfl; (with_reducible first | exact Imp.refl _ | (apply Imp.left; exact Imp.refl _) | (apply Imp.right; exact Imp.refl _) | (apply Imp.left; apply Imp.left; exact Imp.refl _))) | (apply EvC.now; exact rfl) | exact rfl | (with_reducible exact EvAll.nil) | (focus (repeat (first | apply EvAll.cons | exact EvAll.nil | (apply EvC.gv; exact rfl; (with_reducible first | exact Imp.refl _ | (apply Imp.left; exact Imp.refl _) | (apply Imp.right; exact Imp.refl _) | (apply Imp.left; apply Imp.left; exact Imp.refl _))) | (apply EvC.now; exact rfl))); done) | exact ext_fix _ | (focus (repeat (first | apply List.Mem.head | apply List.Mem.tail | apply List.mem_append_right)))); (constructor <;> omega); (simp only [List.set_cons_succ, List.set_cons_zero]; exact rfl))
                | ((first | (with_reducible apply q_pl) | ((with_reducible apply q_gd); (first | (apply GdBy.gt; exact rfl; exact rfl) | (apply GdBy.gf; exact rfl; exact rfl) | (apply GdBy.t; exact rfl; exact rfl) | (apply GdBy.f; exact rfl; exact rfl)))); (with_reducible apply t_ownMany tFix); (first | (apply EvC.gv; exact rfl; (with_reducible first | exact Imp.refl _ | (apply Imp.left; exact Imp.refl _) | (apply Imp.right; exact Imp.refl _) | (apply Imp.left; apply Imp.left; exact Imp.refl _))) | (apply EvC.now; exact rfl) | exact rfl | (with_reducible exact EvAll.nil) | (focus (repeat (first | apply EvAll.cons | exact EvAll.nil | (apply EvC.gv; exact rfl; (with_reducible first | exact Imp.refl _ | (apply Imp.left; exact Imp.refl _) | (apply Imp.right; exact Imp.refl _) | (apply Imp.left; apply Imp.left; exact Imp.refl _))) | (apply EvC.now; exact rfl))); done) | exact ext_fix _ | (focus (repeat (first | apply List.Mem.head | apply List.Mem.tail | apply List.mem_append_right)))); (exact .head _); (with_reducible first | exact HPE.out | exact HPZ.out); exact rfl; (simp only [List.set_cons_succ, List.set_cons_zero]; exact rfl))
                | ((first | (with_reducible apply q_pl) | ((with_reducible apply q_gd); (first | (apply GdBy.gt; exact rfl; exact rfl) | (apply GdBy.gf; exact rfl; exact rfl) | (apply GdBy.t; exact rfl; exact rfl) | (apply GdBy.f; exact rfl; exact rfl)))); (with_reducible apply t_callv Try.call36); (first | (apply EvC.gv; exact rfl; (with_reducible first | exact Imp.refl _ | (apply Imp.left; exact Imp.refl _) | (apply Imp.right; exact Imp.refl _) | (apply Imp.left; apply Imp.left; exact Imp.refl _))) | (apply EvC.now; exact rfl) | exact rfl | (with_reducible exact EvAll.nil) | (focus (repeat (first | apply EvAll.cons | exact EvAll.nil | (apply EvC.gv; exact rfl; (with_reducible first | exact Imp.refl _ | (apply Imp.left; exact Imp.refl _) | (apply Imp.right; exact Imp.refl _) | (apply Imp.left; apply Imp.left; exact Imp.refl _))) | (apply EvC.now; exact rfl))); done) | exact ext_fix _ | (focus (repeat (first | apply List.Mem.head | apply List.Mem.tail | apply List.mem_append_right)))); (first | (apply EvC.gv; exact rfl; (with_reducible first | exact Imp.refl _ | (apply Imp.left; exact Imp.refl _) | (apply Imp.right; exact Imp.refl _) | (apply Imp.left; apply Imp.left; exact Imp.refl _))) | (apply EvC.now; exact rfl) | exact rfl | (with_reducible exact EvAll.nil) | (focus (repeat (first | apply EvAll.cons | exact EvAll.nil | (apply EvC.gv; exact rfl; (with_reducible first | exact Imp.refl _ | (apply Imp.left; exact Imp.refl _) | (apply Imp.right; exact Imp.refl _) | (apply Imp.left; apply Imp.left; exact Imp.refl _))) | (apply EvC.now; exact rfl))); done) | exact ext_fix _ | (focus (repeat (first | apply List.Mem.head | apply List.Mem.tail | apply List.mem_append_right)))); (intro hcc w hC; exact tame_below (fixCmp_any _ _ _) hC); (simp only [List.set_cons_succ, List.set_cons_zero]; exact rfl))
                | ((first | (with_reducible apply q_pl) | ((with_reducible apply q_gd); (first | (apply GdBy.gt; exact rfl; exact rfl) | (apply GdBy.gf; exact rfl; exact rfl) | (apply GdBy.t; exact rfl; exact rfl) | (apply GdBy.f; exact rfl; exact rfl)))); (first | ((with_reducible first | apply t_move | apply t_assign | apply t_and | apply t_or | apply t_cmp | apply t_not | apply t_addr (fFix _ (by decide)) | apply t_addr (fThs _ (by decide)) | apply t_addr (fThr _ (by decide)) | apply t_one tByteR | apply t_one tIntR | apply t_one tBoolF | apply t_one tWordF | apply t_part tFix) <;> (first | (apply EvC.gv; exact rfl; (with_reducible first | exact Imp.refl _ | (apply Imp.left; exact Imp.refl _) | (apply Imp.right; exact Imp.refl _) | (apply Imp.left; apply Imp.left; exact Imp.refl _))) | (apply EvC.now; exact rfl) | exact rfl | (with_reducible exact EvAll.nil) | (focus (repeat (first | apply EvAll.cons | exact EvAll.nil | (apply EvC.gv; exact rfl; (with_reducible first | exact Imp.refl _ | (apply Imp.left; exact Imp.refl _) | (apply Imp.right; exact Imp.refl _) | (apply Imp.left; apply Imp.left; exact Imp.refl _))) | (apply EvC.now; exact rfl))); done) | exact ext_fix _ | (focus (repeat (first | apply List.Mem.head | apply List.Mem.tail | apply List.mem_append_right)))))); (simp only [List.set_cons_succ, List.set_cons_zero]; exact rfl)))
            refine wpT_nil ?_
            refine wpG_end hR (by kernel_rfl) ?_
            clear hR; intro w hR
            go_upto_if 34 with fail
            refine wp_cond_at (nm := true) rfl rfl (fun _ => ?_) (fun h => absurd h (by decide))
            obtain ⟨cur1, hp1, hz1, hRow1⟩ := hRow.put z
            rw [List.append_assoc] at hRow1
            obtain ⟨cur2, hp2, hz2, hRow3⟩ := FxRow.put (A := C) (y := z) (B := z :: (B ++ X.drop (k + 1))) hRow1 e
            go_upto_region 6 with fail
            refine wp_region_some hR [] (List.nil_sublist _) [0, 1, 2, 3, 4, 5, 6, 7, 8, 10, 11, 12] 6 (by kernel_rfl) (by kernel_rfl) (by kernel_rfl) rfl ?_
            clear hR; intro hR
            repeat (refine wpT_step rfl ?_; first
    | ((first | (with_reducible apply q_pl) | ((with_reducible apply q_gd); (first | (apply GdBy.gt; exact rfl; exact rfl) | (apply GdBy.gf; exact rfl; exact rfl) | (apply GdBy.t; exact rfl; exact rfl) | (apply GdBy.f; exact rfl; exact rfl)))); (with_reducible apply t_numE (op := .sub)); (first | (apply EvC.gv; exact rfl; (with_reducible first | exact Imp.refl _ | (apply Imp.left; exact Imp.refl _) | (apply Imp.right; exact Imp.refl _) | (apply Imp.left; apply Imp.left; exact Imp.refl _))) | (apply EvC.now; exact rfl) | exact rfl | (with_reducible exact EvAll.nil) | (focus (repeat (first | apply EvAll.cons | exact EvAll.nil | (apply EvC.gv; exact rfl; (with_reducible first | exact Imp.refl _ | (apply Imp.left; exact Imp.refl _) | (apply Imp.right; exact Imp.refl _) | (apply Imp.left; apply Imp.left; exact Imp.refl _))) | (apply EvC.now; exact rfl))); done) | exact ext_fix _ | (focus (repeat (first | apply List.Mem.head | apply List.Mem.tail | apply List.mem_append_right)))); (first | (apply EvC.gv; exact rfl; (with_reducible first | exact Imp.refl _ | (apply Imp.left; exact Imp.refl _) | (apply Imp.right; exact Imp.refl _) | (apply Imp.left; apply Imp.left; exact Imp.refl _))) | (apply EvC.now; exact rfl) | exact rfl | (with_reducible exact EvAll.nil) | (focus (repeat (first | apply EvAll.cons | exact EvAll.nil | (apply EvC.gv; exact rfl; (with_reducible first | exact Imp.refl _ | (apply Imp.left; exact Imp.refl _) | (apply Imp.right; exact Imp.refl _) | (apply Imp.left; apply Imp.left; exact Imp.refl _))) | (apply EvC.now; exact rfl))); done) | exact ext_fix _ | (focus (repeat (first | apply List.Mem.head | apply List.Mem.tail | apply List.mem_append_right)))); exact rfl; exact HS.out; (simp only [List.set_cons_succ, List.set_cons_zero]; exact rfl))
    | ((first | (with_reducible apply q_pl) | ((with_reducible apply q_gd); (first | (apply GdBy.gt; exact rfl; exact rfl) | (apply GdBy.gf; exact rfl; exact rfl) | (apply GdBy.t; exact rfl; exact rfl) | (apply GdBy.f; exact rfl; exact rfl)))); (with_reducible apply t_six Try.underlying34 iFix); (first | (apply EvC.gv; exact rfl; (with_reducible first | exact Imp.refl _ | (apply Imp.left; exact Imp.refl _) | (apply Imp.right; exact Imp.refl _) | (apply Imp.left; apply Imp.left; exact Imp.refl _))) | (apply EvC.now; exact rfl) | exact rfl | (with_reducible exact EvAll.nil) | (focus (repeat (first | apply EvAll.cons | exact EvAll.nil | (apply EvC.gv; exact rfl; (with_reducible first | exact Imp.refl _ | (apply Imp.left; exact Imp.refl _) | (apply Imp.right; exact Imp.refl _) | (apply Imp.left; apply Imp.left; exact Imp.refl _))) | (apply EvC.now; exact rfl))); done) | exact ext_fix _ | (focus (repeat (first | apply List.Mem.head | apply List.Mem.tail | apply List.mem_append_right)))); (first | (apply EvC.gv; exact rfl; (with_reducible first | exact Imp.refl _ | (apply Imp.left; exact Imp.refl _) | (apply Imp.right; exact Imp.refl _) | (apply Imp.left; apply Imp.left; exact Imp.refl _))) | (apply EvC.now; exact rfl) | exact rfl | (with_reducible exact EvAll.nil) | (focus (repeat (first | apply EvAll.cons | exact EvAll.nil | (apply EvC.gv; exact rfl; (with_reducible first | exact Imp.refl _ | (apply Imp.left; exact Imp.refl _) | (apply Imp.right; exact Imp.refl _) | (apply Imp.left; apply Imp.left; exact Imp.refl _))) | (apply EvC.now; exact rfl))); done) | exact ext_fix _ | (focus (repeat (first | apply List.Mem.head | apply List.Mem.tail | apply List.mem_append_right)))); (constructor <;> omega); (simp only [List.set_cons_succ, List.set_cons_zero]; exact rfl))
    | ((first | (with_reducible apply q_pl) | ((with_reducible apply q_gd); (first | (apply GdBy.gt; exact rfl; exact rfl) | (apply GdBy.gf; exact rfl; exact rfl) | (apply GdBy.t; exact rfl; exact rfl) | (apply GdBy.f; exact rfl; exact rfl)))); (first | ((with_reducible first | apply t_move | apply t_assign | apply t_and | apply t_or | apply t_cmp | apply t_not | apply t_addr (fFix _ (by decide)) | apply t_addr (fThs _ (by decide)) | apply t_addr (fThr _ (by decide)) | apply t_one tByteR | apply t_one tIntR | apply t_one tBoolF | apply t_one tWordF | apply t_part tFix) <;> (first | (apply EvC.gv; exact rfl; (with_reducible first | exact Imp.refl _ | (apply Imp.left; exact Imp.refl _) | (apply Imp.right; exact Imp.refl _) | (apply Imp.left; apply Imp.left; exact Imp.refl _))) | (apply EvC.now; exact rfl) | exact rfl | (with_reducible exact EvAll.nil) | (focus (repeat (first | apply EvAll.cons | exact EvAll.nil | (apply EvC.gv; exact rfl; (with_reducible first | exact Imp.refl _ | (apply Imp.left; exact Imp.refl _) | (apply Imp.right; exact Imp.refl _) | (apply Imp.left; apply Imp.left; exact Imp.refl _))) | (apply EvC.now; exact rfl))); done) | exact ext_fix _ | (focus (repeat (first | apply List.Mem.head | apply List.Mem.tail | apply List.mem_append_right)))))); (simp only [List.set_cons_succ, List.set_cons_zero]; exact rfl)))
            refine wpT_nil ?_
            refine wpG_two hR (i := 9) (j := 13) (by kernel_rfl) ?_ ?_
            · clear hR; intro w hR
              refine opQ hR rfl rfl (t_ownMany tFix (EvC.now rfl) (.head _) HPZ.out rfl) (by (simp only [List.set_cons_succ, List.set_cons_zero]; exact rfl)) ?_
              clear hR; intro w hR
              refine ⟨hR.drop (List.nil_sublist _), ?_⟩
              refine wpG_one hR (i := 13) (by kernel_rfl) ?_
              clear hR; intro w hR
              refine opQ hR rfl rfl (t_ownMany tFix (EvC.now rfl) (.head _) HPE.out rfl) (by (simp only [List.set_cons_succ, List.set_cons_zero]; exact rfl)) ?_
              clear hR; intro w hR
              refine ⟨hR.drop (List.nil_sublist _), ?_⟩
              refine wpG_q hR (i := 14) (by kernel_rfl) rfl rfl (t_six Try.underlying34 iFix (EvC.now rfl) (EvC.now rfl) (by constructor <;> omega)) (by (simp only [List.set_cons_succ, List.set_cons_zero]; exact rfl)) (List.nil_sublist _) ?_
              clear hR; intro w hR
              refine wpG_put hR tFix (i := 15) (by kernel_rfl) rfl (ev_add rfl HJT.out) rfl (.head _) hp1 rfl hz1 (one_fix _) .head (List.nil_sublist _) ?_
              clear hR; intro w hR
              refine wpG_q hR (i := 16) (by kernel_rfl) rfl rfl (t_six Try.underlying34 iFix (EvC.now rfl) (EvC.now rfl) (by constructor <;> omega)) (by (simp only [List.set_cons_succ, List.set_cons_zero]; exact rfl)) (List.nil_sublist _) ?_
              clear hR; intro w hR
              refine wpG_put hR tFix (i := 17) (by kernel_rfl) rfl (ev_add rfl HMT.out) rfl (.head _) hp2 rfl hz2 (one_fix _) .head (List.nil_sublist _) ?_
              clear hR; intro w hR
              refine wpG_end hR (by kernel_rfl) ?_
              clear hR; intro w hR
              go_wp2_with (first
                  | ((with_reducible apply q_ls hR); exact rfl; (with_reducible apply t_numE (op := .sub)); (apply EvC.now; exact rfl); (apply EvC.now; exact rfl); exact rfl; exact HS.out; (simp only [List.set_cons_succ, List.set_cons_zero]; exact rfl); clear hR; intro w hR)
                  | ((with_reducible apply q_ls hR); exact rfl; ((with_reducible first | apply t_addr (fFix _ (by decide)) | apply t_addr (fThs _ (by decide)) | apply t_addr (fThr _ (by decide)) | apply t_one tByteR | apply t_one tIntR | apply t_one tBoolF | apply t_one tWordF | apply t_part tFix) <;> (first | (apply EvC.gv; exact rfl; (with_reducible first | exact Imp.refl _ | (apply Imp.left; exact Imp.refl _) | (apply Imp.right; exact Imp.refl _) | (apply Imp.left; apply Imp.left; exact Imp.refl _))) | (apply EvC.now; exact rfl) | exact rfl | (with_reducible exact EvAll.nil) | (focus (repeat (first | apply EvAll.cons | exact EvAll.nil | (apply EvC.gv; exact rfl; (with_reducible first | exact Imp.refl _ | (apply Imp.left; exact Imp.refl _) | (apply Imp.right; exact Imp.refl _) | (apply Imp.left; apply Imp.left; exact Imp.refl _))) | (apply EvC.now; exact rfl))); done) | exact ext_fix _ | (focus (repeat (first | apply List.Mem.head | apply List.Mem.tail | apply List.mem_append_right))))); (simp only [List.set_cons_succ, List.set_cons_zero]; exact rfl); clear hR; intro w hR))
              go_round
              case rel => exact ⟨C, z :: B, cur2, by rw [HM.out], by rw [List.append_assoc] at hSt; exact hSt, fun b hb => (List.mem_cons.1 hb).elim (fun q => by rw [q]; exact hlt) (hB b), hR, hRow3⟩
              case measure => have := HJM.out; simp [intOf]; omega
            · clear hR; intro w hR
              refine opQ hR rfl rfl (t_ownMany tFix (EvC.now rfl) (.head _) HPE.out rfl) (by (simp only [List.set_cons_succ, List.set_cons_zero]; exact rfl)) ?_
              clear hR; intro w hR
              refine ⟨hR.drop (List.nil_sublist _), ?_⟩
              refine wpG_one hR (i := 9) (by kernel_rfl) ?_
              clear hR; intro w hR
              refine opQ hR rfl rfl (t_ownMany tFix (EvC.now rfl) (.head _) HPZ.out rfl) (by (simp only [List.set_cons_succ, List.set_cons_zero]; exact rfl)) ?_
              clear hR; intro w hR
              refine ⟨hR.drop (List.nil_sublist _), ?_⟩
              refine wpG_q hR (i := 14) (by kernel_rfl) rfl rfl (t_six Try.underlying34 iFix (EvC.now rfl) (EvC.now rfl) (by constructor <;> omega)) (by (simp only [List.set_cons_succ, List.set_cons_zero]; exact rfl)) (List.nil_sublist _) ?_
              clear hR; intro w hR
              refine wpG_put hR tFix (i := 15) (by kernel_rfl) rfl (ev_add rfl HJT.out) rfl (.head _) hp1 rfl hz1 (one_fix _) .head (List.nil_sublist _) ?_
              clear hR; intro w hR
              refine wpG_q hR (i := 16) (by kernel_rfl) rfl rfl (t_six Try.underlying34 iFix (EvC.now rfl) (EvC.now rfl) (by constructor <;> omega)) (by (simp only [List.set_cons_succ, List.set_cons_zero]; exact rfl)) (List.nil_sublist _) ?_
              clear hR; intro w hR
              refine wpG_put hR tFix (i := 17) (by kernel_rfl) rfl (ev_add rfl HMT.out) rfl (.head _) hp2 rfl hz2 (one_fix _) .head (List.nil_sublist _) ?_
              clear hR; intro w hR
              refine wpG_end hR (by kernel_rfl) ?_
              clear hR; intro w hR
              go_wp2_with (first
                  | ((with_reducible apply q_ls hR); exact rfl; (with_reducible apply t_numE (op := .sub)); (apply EvC.now; exact rfl); (apply EvC.now; exact rfl); exact rfl; exact HS.out; (simp only [List.set_cons_succ, List.set_cons_zero]; exact rfl); clear hR; intro w hR)
                  | ((with_reducible apply q_ls hR); exact rfl; ((with_reducible first | apply t_addr (fFix _ (by decide)) | apply t_addr (fThs _ (by decide)) | apply t_addr (fThr _ (by decide)) | apply t_one tByteR | apply t_one tIntR | apply t_one tBoolF | apply t_one tWordF | apply t_part tFix) <;> (first | (apply EvC.gv; exact rfl; (with_reducible first | exact Imp.refl _ | (apply Imp.left; exact Imp.refl _) | (apply Imp.right; exact Imp.refl _) | (apply Imp.left; apply Imp.left; exact Imp.refl _))) | (apply EvC.now; exact rfl) | exact rfl | (with_reducible exact EvAll.nil) | (focus (repeat (first | apply EvAll.cons | exact EvAll.nil | (apply EvC.gv; exact rfl; (with_reducible first | exact Imp.refl _ | (apply Imp.left; exact Imp.refl _) | (apply Imp.right; exact Imp.refl _) | (apply Imp.left; apply Imp.left; exact Imp.refl _))) | (apply EvC.now; exact rfl))); done) | exact ext_fix _ | (focus (repeat (first | apply List.Mem.head | apply List.Mem.tail | apply List.mem_append_right))))); (simp only [List.set_cons_succ, List.set_cons_zero]; exact rfl); clear hR; intro w hR))
              go_round
              case rel => exact ⟨C, z :: B, cur2, by rw [HM.out], by rw [List.append_assoc] at hSt; exact hSt, fun b hb => (List.mem_cons.1 hb).elim (fun q => by rw [q]; exact hlt) (hB b), hR, hRow3⟩
              case measure => have := HJM.out; simp [intOf]; omega
    · obtain rfl : k = n := by omega
      rw [List.take_of_length_le (by omega)] at hSt
      rw [List.drop_of_length_le (by omega), List.append_nil] at hRow
      have HL := Lib.hid (show cmpB .lss (k : Int) (k : Int) = some false by simp [cmpB])
      go_wp2_with (first
    | ((with_reducible apply q_ls hR); exact rfl; (with_reducible apply t_cmp); (apply EvC.now; exact rfl); (apply EvC.now; exact rfl); exact HL.out; (simp only [List.set_cons_succ, List.set_cons_zero]; exact rfl); clear hR; intro w hR)
    | ((with_reducible apply q_ls hR); exact rfl; ((with_reducible first | apply t_addr (fFix _ (by decide)) | apply t_addr (fThs _ (by decide)) | apply t_addr (fThr _ (by decide)) | apply t_one tByteR | apply t_one tIntR | apply t_one tBoolF | apply t_one tWordF | apply t_part tFix) <;> (first | (apply EvC.gv; exact rfl; (with_reducible first | exact Imp.refl _ | (apply Imp.left; exact Imp.refl _) | (apply Imp.right; exact Imp.refl _) | (apply Imp.left; apply Imp.left; exact Imp.refl _))) | (apply EvC.now; exact rfl) | exact rfl | (with_reducible exact EvAll.nil) | (focus (repeat (first | apply EvAll.cons | exact EvAll.nil | (apply EvC.gv; exact rfl; (with_reducible first | exact Imp.refl _ | (apply Imp.left; exact Imp.refl _) | (apply Imp.right; exact Imp.refl _) | (apply Imp.left; apply Imp.left; exact Imp.refl _))) | (apply EvC.now; exact rfl))); done) | exact ext_fix _ | (focus (repeat (first | apply List.Mem.head | apply List.Mem.tail | apply List.mem_append_right))))); (simp only [List.set_cons_succ, List.set_cons_zero]; exact rfl); clear hR; intro w hR))
      go_end0
      exact ⟨rfl, A, cur, hSt, hR, hRow⟩
end Go.Proofs.Ytimciiaajlfkoaa
/- The library's stable sort of at most 12 fixups: its contract. No statement of the seat is proved here. -/
namespace Go.Proofs.Ytimciiaajlfkoaa
open Go.ChangeShapes Go.WideShapes Go.ChangeAt Go.RowKit
set_option linter.unusedVariables false
set_option linter.unusedSimpArgs false

theorem insSort_nil (w0 : World) (v : Value) : Calls Try.prog 56 #[v, .int .i64 0, .int .i64 0, .func (.func 36) #[] #[]] w0 fun e w' => e = .returned (.tuple #[]) ∧ Below w0.heap.size w0 w' := by
  have hR := Own.start w0
  go_enter Try.func56, Try.ntmps56
  go_wp2_with fail
  go_loopw [8] (fun i wr => i = .int .i64 1 ∧ Own w0 wr []) (fun _ _ => 0)
  case atStart => exact ⟨rfl, hR⟩
  case round =>
    clear hR
    obtain ⟨rfl, hR⟩ := hrel
    go_wp2_with fail
    go_end0
    exact ⟨rfl, hR.below⟩
/-- What a sort leaves: the same rows but for its own, which holds them sorted. -/
def SortsF (w0 : World) (s l : List RowT) (v : Value) (X : List FixZ) (w' : World) : Prop := ∃ Y s', StableF X Y ∧ Own w0 w' (s' ++ l) ∧ Sl 24 8 s' v Y.length (Y.flatMap cellsF)
theorem ins_any {w0 w : World} {s l : List RowT} {v : Value} {X : List FixZ} (hR : Own w0 w (s ++ l)) (hS : Sl 24 8 s v X.length (X.flatMap cellsF)) (hl : X.length ≤ 12) :
    Calls Try.prog 56 #[v, .int .i64 0, .int .i64 X.length, .func (.func 36) #[] #[]] w fun e w' => e = .returned (.tuple #[]) ∧ SortsF w0 s l v X w' := by
  have hlen := hS.len
  rcases hS.way with ⟨rfl, rfl, h0⟩ | ⟨g, cap, cur, rfl, rfl, h1, h2, h3, h4⟩
  · have hX : X = [] := List.length_eq_zero_iff.1 h0
    subst hX
    refine (insSort_nil w _).mono ?_
    rintro e w' ⟨rfl, hb⟩
    exact ⟨rfl, [], [], stable_nil, hR.grow hb, Sl.nil _ _⟩
  · by_cases h0 : X = []
    · subst h0
      refine (insSort_nil w _).mono ?_
      rintro e w' ⟨rfl, hb⟩
      exact ⟨rfl, [], _, stable_nil, hR.grow hb, hS⟩
    · refine (insSort_any hR ⟨⟨hlen, h1, h2, h3, h4⟩⟩ (by have := List.length_pos_iff.2 h0; omega) (by omega)).mono ?_
      rintro e w' ⟨rfl, Y, cur', hY, hO, hrow⟩
      have hsl := hrow.is.sl (g := g) (e := 24)
      have hyl : Y.length = X.length := hY.perm.length_eq
      rw [← hyl]
      exact ⟨rfl, Y, _, hY, hO, hsl⟩
theorem stab_any {w0 w : World} {s l : List RowT} {v : Value} {X : List FixZ} (hR : Own w0 w (s ++ l)) (hS : Sl 24 8 s v X.length (X.flatMap cellsF)) (hl : X.length ≤ 12) :
    Calls Try.prog 54 #[v, .int .i64 X.length, .func (.func 36) #[] #[]] w fun e w' => e = .returned (.tuple #[]) ∧ SortsF w0 s l v X w' := by
  have HL := Lib.hid (show cmpB .leq (20 : Int) (X.length : Int) = some false by simp [cmpB]; omega)
  have HT := Lib.hid (show cmpB .lss (20 : Int) (X.length : Int) = some false by simp [cmpB]; omega)
  go_enter Try.func54, Try.ntmps54
  go_wp2_with fail
  go_loopw [7, 8] (fun a b wr => a = .int .i64 0 ∧ b = .int .i64 20 ∧ Own w0 wr (s ++ l)) (fun _ _ _ => 0)
  case atStart => exact ⟨rfl, rfl, hR⟩
  case round =>
    clear hR
    obtain ⟨rfl, rfl, hR⟩ := hrel
    go_wp2_with (first
    | ((with_reducible apply q_ls hR); exact rfl; (with_reducible apply t_cmp); (apply EvC.now; exact rfl); (apply EvC.now; exact rfl); exact HL.out; (simp only [List.set_cons_succ, List.set_cons_zero]; exact rfl); clear hR; intro w hR)
    | (go_at_call 56; refine (ins_any hR hS hl).mono ?_; rintro e w' ⟨rfl, hG⟩; clear hR)
    | ((with_reducible apply q_ls hR); exact rfl; ((with_reducible first | apply t_addr (fFix _ (by decide)) | apply t_addr (fThs _ (by decide)) | apply t_addr (fThr _ (by decide)) | apply t_one tByteR | apply t_one tIntR | apply t_one tBoolF | apply t_one tWordF | apply t_part tFix) <;> (first | (apply EvC.gv; exact rfl; (with_reducible first | exact Imp.refl _ | (apply Imp.left; exact Imp.refl _) | (apply Imp.right; exact Imp.refl _) | (apply Imp.left; apply Imp.left; exact Imp.refl _))) | (apply EvC.now; exact rfl) | exact rfl | (with_reducible exact EvAll.nil) | (focus (repeat (first | apply EvAll.cons | exact EvAll.nil | (apply EvC.gv; exact rfl; (with_reducible first | exact Imp.refl _ | (apply Imp.left; exact Imp.refl _) | (apply Imp.right; exact Imp.refl _) | (apply Imp.left; apply Imp.left; exact Imp.refl _))) | (apply EvC.now; exact rfl))); done) | exact ext_fix _ | (focus (repeat (first | apply List.Mem.head | apply List.Mem.tail | apply List.mem_append_right))))); (simp only [List.set_cons_succ, List.set_cons_zero]; exact rfl); clear hR; intro w hR))
    go_loopw [6] (fun a wr => a = .int .i64 20 ∧ SortsF w0 s l v X wr) (fun _ _ => 0)
    case atStart => exact ⟨rfl, hG⟩
    case round =>
      clear hG
      obtain ⟨rfl, hG⟩ := hrel
      go_wp2_with fail
      go_end0
      exact ⟨rfl, hG⟩
theorem sortStable_any {w0 w : World} {s l : List RowT} {v : Value} {X : List FixZ} (hR : Own w0 w (s ++ l)) (hS : Sl 24 8 s v X.length (X.flatMap cellsF)) (hl : X.length ≤ 12) :
    Calls Try.prog 47 #[v, .func (.func 36) #[] #[]] w fun e w' => e = .returned (.tuple #[]) ∧ SortsF w0 s l v X w' := by
  go_enter Try.func47, Try.ntmps47
  go_wp2_with (first
    | ((with_reducible apply q_ls hR); exact rfl; (with_reducible apply t_lenSl Try.underlying34); (apply EvC.now; exact rfl); exact hS; (simp only [List.set_cons_succ, List.set_cons_zero]; exact rfl); clear hR; intro w hR)
    | (go_at_call 54; refine (stab_any hR hS hl).mono ?_; rintro e w' ⟨rfl, hG⟩; clear hR)
    | ((with_reducible apply q_ls hR); exact rfl; ((with_reducible first | apply t_addr (fFix _ (by decide)) | apply t_addr (fThs _ (by decide)) | apply t_addr (fThr _ (by decide)) | apply t_one tByteR | apply t_one tIntR | apply t_one tBoolF | apply t_one tWordF | apply t_part tFix) <;> (first | (apply EvC.gv; exact rfl; (with_reducible first | exact Imp.refl _ | (apply Imp.left; exact Imp.refl _) | (apply Imp.right; exact Imp.refl _) | (apply Imp.left; apply Imp.left; exact Imp.refl _))) | (apply EvC.now; exact rfl) | exact rfl | (with_reducible exact EvAll.nil) | (focus (repeat (first | apply EvAll.cons | exact EvAll.nil | (apply EvC.gv; exact rfl; (with_reducible first | exact Imp.refl _ | (apply Imp.left; exact Imp.refl _) | (apply Imp.right; exact Imp.refl _) | (apply Imp.left; apply Imp.left; exact Imp.refl _))) | (apply EvC.now; exact rfl))); done) | exact ext_fix _ | (focus (repeat (first | apply List.Mem.head | apply List.Mem.tail | apply List.mem_append_right))))); (simp only [List.set_cons_succ, List.set_cons_zero]; exact rfl); clear hR; intro w hR))
  go_end0
  exact ⟨rfl, hG⟩
end Go.Proofs.Ytimciiaajlfkoaa
/- slices.Values on fixups that lie somewhere: what its iterator hands out, whatever the loop's body does to blocks of its own. No statement of the seat is proved here. -/
namespace Go.Proofs.Ytimciiaajlfkoaa
open Go.ChangeShapes Go.WideShapes Go.ChangeAt Go.RowKit
set_option linter.unusedVariables false
set_option linter.unusedSimpArgs false

theorem tFsO : OneTy Try.prog 34 := .of Try.underlying34 rfl (by kernel_rfl)
section
variable {P : Program} {tp : TypeId} {pos : String} {af : Array Edge} {gd : Option (Nat × Bool)} {ls : List Value} {ds : List Deferred} {ops : Array Oper} {Q : Exit → Act → World → Prop} {rest : List Oper} {w0 w : World} {l : List RowT}
/-- A value of one cell is boxed. -/
theorem wpList_boxF (hR : Own w0 w l) {d : Tmp} {v : Value} {cs : Array Value} {ty : TypeId} {x : Operand} (hgd : Region.wanted ⟨some d, .box ty x, tp, pos, af, gd⟩ (yielded ops ls.toArray) = true) (hx : evalL ls x = some v) (hc : v.cells = cs)
    (h : ∀ g w', Own w0 w' ((g, cs, ty) :: l) → wpList P ops Q rest ⟨(ls.set d (.pointer (some ⟨g, 0, none⟩))).toArray, ds⟩ w') : wpList P ops Q (⟨some d, .box ty x, tp, pos, af, gd⟩ :: rest) ⟨ls.toArray, ds⟩ w :=
  wpList_run_value hgd (run_boxRow rfl (eval_of hx) hc) (by rw [put_list]; exact h _ _ (hR.alloc cs ty))
end
theorem values_any {w0 w : World} {l : List RowT} (hO : Own w0 w l) (a : Option Addr) (n c : Nat) :
    Calls Try.prog 35 #[.slice a n c] w fun e w' => ∃ g1, e = .returned (.func (.func 48) #[] #[.pointer (some ⟨g1, 0, none⟩)]) ∧ Own w0 w' ((g1, #[.slice a n c], 34) :: l) := by
  have hR := hO
  clear hO
  go_enter Try.func35, Try.ntmps35
  go_wp2_with (first
    | ((with_reducible apply wpList_boxF hR); exact rfl; exact rfl; exact rfl; clear hR; intro g1 w hR; simp only [List.set_cons_succ, List.set_cons_zero])
    | ((with_reducible apply wpList_func); exact rfl; exact rfl; simp only [List.set_cons_succ, List.set_cons_zero]))
  go_ret
  exact ⟨_, rfl, hR⟩
/-! ### The iterator -/
abbrev FxI (X : List FixZ) : Type := { i : Nat // i < X.length }
def fxAt (X : List FixZ) (x : FxI X) : FixZ := X[x.1]'x.2
theorem fxAt_some (X : List FixZ) (x : FxI X) : X[x.1]? = some (fxAt X x) := List.getElem?_eq_getElem x.2
/-- The first k of them. -/
def fxUp (X : List FixZ) : (k : Nat) → k ≤ X.length → List (FxI X)
  | 0, _ => []
  | k + 1, h => fxUp X k (Nat.le_of_succ_le h) ++ [⟨k, h⟩]
theorem fxUp_len (X : List FixZ) : ∀ (k : Nat) (h : k ≤ X.length), (fxUp X k h).length = k
  | 0, _ => rfl
  | k + 1, h => by simp [fxUp, fxUp_len X k]
theorem fxUp_map (X : List FixZ) : ∀ (k : Nat) (h : k ≤ X.length), (fxUp X k h).map (fxAt X) = X.take k
  | 0, _ => rfl
  | k + 1, h => by
    rw [List.take_add_one, List.getElem?_eq_getElem (show k < X.length from h), ← fxUp_map X k (Nat.le_of_succ_le h)]
    simp [fxUp, fxAt]
theorem abides_belowF {β : Type} {B : Nat} {J : β → World → Prop} (h : AbidesFrom B J) {s : β} {W W' : World} (hs : J s W) (hb : Below W.heap.size W W') : J s W' :=
  h s W W' none hs ⟨hb.os, hb.tape, hb.output, hb.size, fun k hk _ => hb.block k hk⟩ (fun r e => nomatch e)
theorem KpR.ownF {w0 w w' : World} {G : List Nat} {l : List RowT} (h : KpR w0.heap.size G w w') (hO : Own w0 w l) (hG : ∀ x ∈ l, x.1 ∈ G) : Own w0 w' l :=
  ⟨hO.below.trans h.1, fun x hx => ⟨(hO.here x hx).1, by rw [h.2 x.1 (hG x hx) (hO.lt hx)]; exact (hO.here x hx).2⟩, hO.apart⟩
set_option maxHeartbeats 1000000 in
theorem valSeq_stops {w0 w : World} {v : Value} {X : List FixZ} {g1 : Nat} (hV : RowsAt 8 cellsF w0 v X) (hO : Own w0 w [(g1, #[v], 34)]) (hl : X.length ≤ 1000) (n : Nat) :
    SeqStopsK Fence.wide n Try.prog 48 #[.pointer (some ⟨g1, 0, none⟩)] (fun x : FxI X => #[.agg (encF (fxAt X x))]) (KpR w0.heap.size [g1]) (fun ys => ys = fxUp X X.length (Nat.le_refl _)) (fun _ => True) X.length w := by
  intro l J Jx W hW hJ hJx hY h0
  have hR := hO.grow hW
  clear hO
  obtain ⟨va, vn, vc, rfl⟩ := hV.shape
  refine callsIn_of_wp (F := wideR none) Try.func48 rfl trivial ?_
  simp only [Try.ntmps48, List.size_toArray, List.length_cons, List.length_nil, Nat.reduceAdd, Nat.reduceSub, Array.replicate_succ, Array.replicate_zero, List.push_toArray, List.append_toArray, List.nil_append, List.cons_append]
  have hno : NoOut (bodyPost Try.prog Try.f48 fun e W' => (∃ v, e = .returned v) ∧ ((∃ xs, xs = fxUp X X.length (Nat.le_refl _) ∧ J xs W') ∨ (∃ pre, True ∧ Jx pre W'))) := by
    rintro ⟨a, w, ⟨v, hv⟩, _⟩
    exact nomatch hv
  have hC1 : W.cell? ⟨g1, 0, none⟩ = some (.slice va vn vc) := by rw [cell_of_row _ _ _ _ _ _ (hR.get (.head _))]; rfl
  have hB := Own.start W
  refine wpIn_seq ?_
  refine wpR_lit (r := none) ?_ (by kernel_rfl) ?_
  · rintro ⟨a, w, h⟩; exact hno ⟨a, w, h⟩
  repeat (first
    | ((with_reducible apply q_ls hB); exact rfl; (with_reducible apply t_move); (apply EvC.now; exact rfl); (simp only [List.set_cons_succ, List.set_cons_zero]; exact rfl); clear hB; intro w hB)
    | ((with_reducible apply q_ls hB); exact rfl; (with_reducible apply t_oldCell tFsO); (apply EvC.now; exact rfl); exact hC1; (simp only [List.set_cons_succ, List.set_cons_zero]; exact rfl); clear hB; intro w hB)
    | ((with_reducible apply q_ls hB); exact rfl; (with_reducible apply t_lenRd Try.underlying34); (apply EvC.now; exact rfl); exact hV.own hR; (simp only [List.set_cons_succ, List.set_cons_zero]; exact rfl); clear hB; intro w hB))
  refine wpList_nil ?_
  show Code.wpIn _ _ _ (Code.block _ _) _ _ _
  have hRw := hR.grow hB.below
  have hJw := abides_belowF hJ h0 hB.below
  clear hR h0 hB hC1
  gi_wp2
  gi_loopw [7] (fun i wr => ∃ (k : Nat) (hk : k ≤ X.length), i = .int .i64 (k : Int) ∧ Own w0 wr [(g1, #[.slice va vn vc], 34)] ∧ J (fxUp X k hk) wr) (fun i _ => X.length - (intOf i).toNat)
  case atStart => exact ⟨0, Nat.zero_le _, rfl, hRw, hJw⟩
  case round =>
    clear hRw hJw
    obtain ⟨k, hk, rfl, hR, hJk⟩ := hrel
    have hB := Own.start wr
    by_cases hkl : k < X.length
    · have HL := Lib.hid (show cmpB .lss (k : Int) (X.length : Int) = some true by simp [cmpB]; omega)
      have HN := Lib.hid (show IntKind.i64.wrap ((k : Int) + 1) = ((k + 1 : Nat) : Int) by rw [IntWalk.i64_in _ (by omega)]; omega)
      obtain ⟨f, hf⟩ : ∃ f, fxAt X ⟨k, hkl⟩ = f := ⟨_, rfl⟩
      have hfs : X[k]? = some f := by rw [← hf]; exact fxAt_some X ⟨k, hkl⟩
      obtain ⟨ad, cap, hve0, hcell⟩ := hV.el cellsF_len hfs
      have hve := Lib.hid hve0
      have HEL := Lib.hid (show ∀ (w : World), Own w0 w [] → ∀ jj u, (encF f).toList[jj]? = some u → w.cell? ((ad.add ((k : Int).toNat * 8)).add jj) = some u from fun w hC => by
        rw [Int.toNat_natCast]
        rw [hve.out] at hV
        exact (hV.own hC).cell cellsF_len hfs)
      clear hcell hve0
      refine wpIn_seq ?_
      refine wpR_lit (r := none) ?_ (by kernel_rfl) ?_
      · rintro ⟨a, w, h⟩; exact hno ⟨a, w, h⟩
      repeat (first
    | ((with_reducible apply q_ls hB); exact rfl; (with_reducible apply t_move); (apply EvC.now; exact rfl); (simp only [List.set_cons_succ, List.set_cons_zero]; exact rfl); clear hB; intro w hB)
    | ((with_reducible apply q_ls hB); exact rfl; (with_reducible apply t_cmp); (apply EvC.now; exact rfl); (apply EvC.now; exact rfl); exact HL.out; (simp only [List.set_cons_succ, List.set_cons_zero]; exact rfl); clear hB; intro w hB))
      refine wpList_nil ?_
      show Code.wpIn _ _ _ (Code.seq _ _) _ _ _
      refine wpIn_seq ?_
      refine wpIn_cond (t := true) rfl ?_
      refine wpIn_skip ?_
      show Code.wpIn _ _ _ (Code.seq _ _) _ _ _
      refine wpIn_seq (wpIn_block (wpIn_seq ?_))
      refine wpR_lit (r := none) ?_ (by kernel_rfl) ?_
      · rintro ⟨a, w, h⟩; exact hno ⟨a, w, h⟩
      repeat (first
    | ((with_reducible apply q_ls hB); exact rfl; (with_reducible apply t_six Try.underlying34 iFix); (apply EvC.now; exact congrArg some hve.out); (apply EvC.now; exact rfl); (constructor <;> omega); (simp only [List.set_cons_succ, List.set_cons_zero]; exact rfl); clear hB; intro w hB)
    | ((with_reducible apply q_ls hB); exact rfl; (with_reducible apply t_manyW tFix); (apply EvC.now; exact rfl); (exact fun w hC => HEL.out w ((hR.grow hC.below).drop (List.nil_sublist _))); exact rfl; (simp only [List.set_cons_succ, List.set_cons_zero]; exact rfl); clear hB; intro w hB)
    | ((with_reducible apply wpList_make hB zFix); exact rfl; clear hB; intro g4 w hB; simp only [List.set_cons_succ, List.set_cons_zero])
    | ((with_reducible apply wpList_put hB tFix); exact rfl; exact rfl; exact rfl; (exact .head _); exact put_fix _ _; exact rfl; (simp [encF]); exact one_fix _; exact .head; clear hB; intro w hB))
      refine wpList_nil ?_
      show Code.wpIn _ _ _ (Code.seq _ _) _ _ _
      refine wpIn_seq ?_
      refine wpR_take (r := none) 2 (by decide) (by kernel_rfl) (js := [2, 3]) rfl ?_
      simp only [List.take_succ_cons, List.take_zero]
      repeat (first
    | ((with_reducible apply q_ls hB); exact rfl; (with_reducible apply t_move); (apply EvC.now; exact rfl); (simp only [List.set_cons_succ, List.set_cons_zero]; exact rfl); clear hB; intro w hB)
    | ((with_reducible apply q_ls hB); exact rfl; (with_reducible apply t_part tFix); (apply EvC.now; exact rfl); (exact .head _); exact ext_fix _; exact rfl; (simp only [List.set_cons_succ, List.set_cons_zero]; exact rfl); clear hB; intro w hB))
      refine wpList_nil ⟨rfl, ?_⟩
      have hJw := abides_belowF hJ hJk hB.below
      have hRw := hR.grow hB.below
      have hYw := hY (fxUp X k hk) ⟨k, hkl⟩ w hJw (by rw [fxUp_len]; exact hkl)
      rw [hf] at hYw
      refine opsIn_yield (r := none) rfl rfl rfl hYw ?_
      rintro e2 W2 (⟨rfl, hJ2, hK2⟩ | ⟨rfl, hJx2⟩)
      · refine ⟨_, rfl, opsR1 (r := none) ?_ (by kernel_rfl) rfl ?_⟩
        · rintro ⟨a, w, h⟩; exact hno ⟨a, w, h⟩
        clear hB
        have hR2 := hK2.ownF hRw (fun y hy => by rw [List.mem_singleton.1 hy]; exact .head _)
        have hB := Own.start W2
        repeat (first
    | ((with_reducible apply q_ls hB); exact rfl; (with_reducible apply t_not); (apply EvC.now; exact rfl); (simp only [List.set_cons_succ, List.set_cons_zero]; exact rfl); clear hB; intro w hB))
        refine wpList_nil ?_
        show Code.wpIn _ _ _ (Code.cond _ _ _) _ _ _
        refine wpIn_cond (t := false) rfl ?_
        refine wpIn_skip ?_
        show Code.wpIn _ _ _ (Code.region _ _ _) _ _ _
        refine wpR_lit (r := none) ?_ (by kernel_rfl) ?_
        · rintro ⟨a, w, h⟩; exact hno ⟨a, w, h⟩
        repeat (first
    | ((with_reducible apply q_ls hB); exact rfl; (with_reducible apply t_move); (apply EvC.now; exact rfl); (simp only [List.set_cons_succ, List.set_cons_zero]; exact rfl); clear hB; intro w hB)
    | ((with_reducible apply q_ls hB); exact rfl; (with_reducible apply t_numE (op := .add)); (apply EvC.now; exact rfl); (apply EvC.now; exact rfl); exact rfl; exact HN.out; (simp only [List.set_cons_succ, List.set_cons_zero]; exact rfl); clear hB; intro w hB))
        refine wpList_nil ?_
        simp only [Exit.then, Exit.inBlock]
        go_roundw
        case rel => exact ⟨k + 1, hkl, rfl, hR2.grow hB.below, abides_belowF hJ hJ2 hB.below⟩
        case measure => simp [intOf]; omega
      · refine ⟨_, rfl, opsR1 (r := none) ?_ (by kernel_rfl) rfl ?_⟩
        · rintro ⟨a, w, h⟩; exact hno ⟨a, w, h⟩
        clear hB
        have hB := Own.start W2
        repeat (first
    | ((with_reducible apply q_ls hB); exact rfl; (with_reducible apply t_not); (apply EvC.now; exact rfl); (simp only [List.set_cons_succ, List.set_cons_zero]; exact rfl); clear hB; intro w hB))
        refine wpList_nil ?_
        show Code.wpIn _ _ _ (Code.cond _ _ _) _ _ _
        refine wpIn_cond (t := true) rfl ?_
        refine wpIn_ret ?_
        simp only [Exit.then, Exit.inBlock]
        exact bodyPost_ret (results_none rfl _ _ _) rfl ⟨⟨_, rfl⟩, .inr ⟨_, trivial, abides_belowF hJx hJx2 hB.below⟩⟩
    · obtain rfl : k = X.length := by omega
      have HL := Lib.hid (show cmpB .lss (X.length : Int) (X.length : Int) = some false by simp [cmpB])
      refine wpIn_seq ?_
      refine wpR_lit (r := none) ?_ (by kernel_rfl) ?_
      · rintro ⟨a, w, h⟩; exact hno ⟨a, w, h⟩
      repeat (first
    | ((with_reducible apply q_ls hB); exact rfl; (with_reducible apply t_move); (apply EvC.now; exact rfl); (simp only [List.set_cons_succ, List.set_cons_zero]; exact rfl); clear hB; intro w hB)
    | ((with_reducible apply q_ls hB); exact rfl; (with_reducible apply t_cmp); (apply EvC.now; exact rfl); (apply EvC.now; exact rfl); exact HL.out; (simp only [List.set_cons_succ, List.set_cons_zero]; exact rfl); clear hB; intro w hB))
      refine wpList_nil ?_
      show Code.wpIn _ _ _ (Code.seq _ _) _ _ _
      refine wpIn_seq ?_
      refine wpIn_cond (t := false) rfl ?_
      refine wpIn_exit ?_
      simp only [Exit.then, Exit.inBlock, if_true]
      go_end0
      exact ⟨⟨_, rfl⟩, .inl ⟨_, rfl, abides_belowF hJ hJk hB.below⟩⟩
end Go.Proofs.Ytimciiaajlfkoaa
/- slices.AppendSeq over the iterator of fixups that lie somewhere: they come into a row of the call's own. No statement of the seat is proved here. -/
namespace Go.Proofs.Ytimciiaajlfkoaa
open Go.ChangeShapes Go.WideShapes Go.ChangeAt Go.RowKit
set_option linter.unusedVariables false
set_option linter.unusedSimpArgs false

section
variable {P : Program} {ops : Array Oper} {Q : Exit → Act → World → Prop} {rest : List Oper} {ls ls' : List Value} {ds : List Deferred} {W w0 w : World} {l : List RowT} {ks : List Nat} {tp : TypeId} {pos : String} {af : Array Edge} {gd : Option (Nat × Bool)} {d : Tmp}
theorem wpList_buildK (hR : Own w0 w l) (hA : Apart W w ks) {t e : TypeId} {m : Nat} {parts : Array (Nat × Operand)} {ps : List (Nat × Value)} {c : Array Value} (hgd : Region.wanted ⟨some d, .buildSlice t m parts, tp, pos, af, gd⟩ (yielded ops ls.toArray) = true)
    (hq : evalParts ls parts.toList = some ps) (hb : BuiltS P t m ps e c) (h : ∀ g w', Own w0 w' ((g, c, e) :: l) → Apart W w' ks → wpList P ops Q rest ⟨(ls.set d (.slice (some ⟨g, 0, none⟩) m m)).toArray, ds⟩ w') :
    wpList P ops Q (⟨some d, .buildSlice t m parts, tp, pos, af, gd⟩ :: rest) ⟨ls.toArray, ds⟩ w :=
  wpList_run_value hgd (run_buildS rfl (evalParts_of hq) hb) (by rw [put_list]; exact h _ _ (hR.alloc c e) (hA.below ((Below.refl _ w).alloc (Nat.le_refl _) _)))
theorem wpList_appK (hR : Own w0 w l) (hA : Apart W w ks) {L' s : List RowT} {t e : TypeId} {k b : Nat} (ht : SliceB P t e k b) {x y : Operand} {v y' : Value} {m0 m : Nat} {xs ys : List Value}
    (hgd : Region.wanted ⟨some d, .call { callee := .builtin .append, args := #[x, y], argTypes := #[t, t] }, tp, pos, af, gd⟩ (yielded ops ls.toArray) = true)
    (hx : evalL ls x = some v) (hy : evalL ls y = some y') (hd : Les s l L') (hS : Sl e k s v m0 xs) (hP : Rd w k y' m ys) (h63 : m0 + m ≤ maxLen) (hsm : (m0 + m) * b ≤ 140737488355328) (hks : ∀ r ∈ s.map (·.1), r ∈ ks)
    (h : ∀ s' v' w', Own w0 w' (s' ++ L') → Sl e k s' v' (m0 + m) (xs ++ ys) → Apart W w' ks → wpList P ops Q rest ⟨(ls.set d v').toArray, ds⟩ w') :
    wpList P ops Q (⟨some d, .call { callee := .builtin .append, args := #[x, y], argTypes := #[t, t] }, tp, pos, af, gd⟩ :: rest) ⟨ls.toArray, ds⟩ w := by
  obtain ⟨s', v', w', hr, hO, hS', q, hgr, hq⟩ := run_appGK (o := ⟨some d, .call { callee := .builtin .append, args := #[x, y], argTypes := #[t, t] }, tp, pos, af, gd⟩) ht hR rfl (eval_of hx) (eval_of hy) hd hS hP h63 hsm
  exact wpList_run_value hgd hr (by rw [put_list]; exact h s' v' w' hO hS' (hA.grown hgr fun r hr _ => hks r (hq r hr)))
/-- A struct whose cells are known is read; the world is as it was. -/
theorem wpList_many0 {ty : TypeId} {n : Nat} (ht : RowTy P ty n) {x : Operand} {a : Addr} {cs : Array Value} (hgd : Region.wanted ⟨some d, .load ty x, tp, pos, af, gd⟩ (yielded ops ls.toArray) = true) (hx : evalL ls x = some (.pointer (some a)))
    (hc : ∀ j u, cs.toList[j]? = some u → w.cell? (a.add j) = some u) (hn : cs.size = n) (hls : ls.set d (.agg cs) = ls') (h : wpList P ops Q rest ⟨ls'.toArray, ds⟩ w) : wpList P ops Q (⟨some d, .load ty x, tp, pos, af, gd⟩ :: rest) ⟨ls.toArray, ds⟩ w := by
  obtain ⟨d', hu, hd, hi⟩ := ht
  exact wpList_run_value hgd (run_loadMany rfl (eval_of hx) hc hu hd hi hn) (by rw [put_list, hls]; exact h)
end
/-- The variable that is appended to, and its row. -/
def AppI (w0 : World) (X : List FixZ) (v : Value) (g1 g2 : Nat) (pre : List (FxI X)) (W : World) : Prop :=
  ∃ (sl : List RowT) (lv : Value), Own w0 W ((g2, #[lv], 34) :: (g1, #[v], 34) :: (sl ++ [])) ∧ Sl 24 8 sl lv pre.length ((pre.map (fxAt X)).flatMap cellsF)
theorem appI_from {w0 : World} {X : List FixZ} {v : Value} {g1 g2 B : Nat} (hB : w0.heap.size ≤ B) : OwnFrom B (AppI w0 X v g1 g2) := by
  rintro pre W W' row ⟨sl, lv, hR, hS⟩ hg hr
  exact ⟨sl, lv, hR.grownNC hg hB hr, hS⟩
/-- The loop's own variable holds this fixup. -/
def AppX (w0 : World) (v0 : Value) (g1 g2 : Nat) (X : List FixZ) (x : FxI X) (a : Act) (W : World) : Prop :=
  ∃ g5, a = { tmps := #[.slice none 0 0, .func (.func 48) #[] #[.pointer (some ⟨g1, 0, none⟩)], .pointer (some ⟨g2, 0, none⟩), undef, .slice none 0 0, .pointer (some ⟨g5, 0, none⟩), .func (.func 48) #[] #[.pointer (some ⟨g1, 0, none⟩)], .agg (encF (fxAt X x)), undef, undef, undef, undef, undef], defers := [] } ∧
    W.heap[g5]? = some (.cells (encF (fxAt X x)) 24 (0, 0))
theorem appX_from {w0 : World} {v0 : Value} {g1 g2 B : Nat} {X : List FixZ} (x : FxI X) (a : Act) : OwnFrom B (fun (_ : Unit) W => AppX w0 v0 g1 g2 X x a W) := by
  rintro _ W W' row ⟨g5, ha, h5⟩ hg hr
  refine ⟨g5, ha, ?_⟩
  rw [hg.block g5 (Array.getElem?_eq_some_iff.1 h5).1 (fun e => ?_)]
  · exact h5
  · obtain ⟨_, o, ho, hc⟩ := hr g5 e.symm
    rw [h5] at ho
    cases ho
    exact nomatch hc
set_option maxHeartbeats 2000000 in
theorem appSeq_any {w0 w : World} {v : Value} {X : List FixZ} {g1 : Nat} (hV : RowsAt 8 cellsF w0 v X) (hO : Own w0 w [(g1, #[v], 34)]) (hl : X.length ≤ 1000) :
    Calls Try.prog 53 #[.slice none 0 0, .func (.func 48) #[] #[.pointer (some ⟨g1, 0, none⟩)]] w fun e w' => ∃ s v', e = .returned v' ∧ Own w0 w' s ∧ Sl 24 8 s v' X.length (X.flatMap cellsF) := by
  have hR := hO
  clear hO
  obtain ⟨va, vn, vc, rfl⟩ := hV.shape
  refine (callsIn_wide (n := 3)).1 ?_
  refine callsIn_of_wp_marks Try.func53 rfl trivial ?_
  refine wpIn_wide.2 ?_
  simp only [Try.ntmps53, List.size_toArray, List.length_cons, List.length_nil, Nat.reduceAdd, Nat.reduceSub, Array.replicate_succ, Array.replicate_zero, List.push_toArray, List.append_toArray, List.nil_append, List.cons_append]
  go_wp2_with (first
    | ((with_reducible apply wpList_boxF hR (cs := #[.slice none 0 0])); exact rfl; exact rfl; exact rfl; clear hR; intro g2 w hR; simp only [List.set_cons_succ, List.set_cons_zero]))
  rename_i K hK
  have hR1 : Own w0 w [(g1, #[.slice va vn vc], 34)] := hR.drop (List.sublist_cons_self _ _)
  have hlt1 : ∀ g ∈ [g1], g < w.heap.size := fun g hg => by rw [List.mem_singleton.1 hg]; exact hR1.lt (.head _)
  have hlow : w0.heap.size ≤ w.heap.size := hR1.below.size
  refine (wpIn_wide (n := 3)).1 (wpIn_rangeFunc_ownH (α := FxI X) rfl (by decide) (gf := 48) (lb := #[.pointer (some ⟨g1, 0, none⟩)]) rfl trivial (enters_of Try.func48 (by kernel_rfl) rfl)
    (valSeq_stops hV hR1 hl 2) kpR_t (kpR_b hlow hlt1) (Below.refl _ _) (fun _ => rfl)
    (AppI w0 X (.slice va vn vc) g1 g2) (fun _ _ _ => False) (appI_from hlow) (fun _ _ _ _ _ hs _ _ => hs) ⟨[], .slice none 0 0, hR, Sl.nil _ _⟩
    (AppX w0 (.slice va vn vc) g1 g2 X) (fun x a => appX_from x a) ?assign ?body ?done ?stop)
  case assign =>
    rintro l pre x W K ⟨sl, lv, hRW, hSl⟩ hK
    refine wpR_lit (r := some l) ?_ (by kernel_rfl) ?_
    · rintro ⟨a, w, h⟩; exact h
    simp only [List.zip_toArray, List.zip_cons_cons, List.zip_nil_right, List.size_toArray, List.length_cons, List.length_nil, Nat.zero_add, List.foldl_toArray', List.foldl_cons, List.foldl_nil, List.setIfInBounds_toArray, List.set_cons_succ, List.set_cons_zero]
    have hB := Own.start W
    repeat (first
    | ((with_reducible apply wpList_make hB zFix); exact rfl; clear hB; intro g5 w hB; simp only [List.set_cons_succ, List.set_cons_zero])
    | ((with_reducible apply wpList_put hB tFix); exact rfl; exact rfl; exact rfl; (exact .head _); exact put_fix _ _; exact rfl; (simp [encF]); exact one_fix _; exact .head; clear hB; intro w hB))
    refine wpList_nil ?_
    have hA := (Apart.refl W []).below hB.below
    refine hK _ _ (hA.from _ (fun _ h => nomatch h)) (hA.kpR hRW.below.size (fun _ h => nomatch h) (fun _ _ h => nomatch h)) ⟨sl, lv, hRW.grow hB.below, hSl⟩ ⟨g5, rfl, hB.get (.head _)⟩
  case body =>
    rintro l pre x a' W hlw ⟨r, hr⟩ ⟨sl, lv, hRW, hSl⟩ ⟨g5, rfl, h5⟩ hlt
    clear hR hR1 hK
    obtain ⟨f, hf⟩ : ∃ f, fxAt X x = f := ⟨_, rfl⟩
    rw [hf] at h5 ⊢
    have hpl : pre.length ≤ 1000 := by omega
    have hc5 : ∀ j u, (encF f).toList[j]? = some u → W.cell? ((⟨g5, 0, none⟩ : Addr).add j) = some u := fun j u hu => by
      rw [addr_mid, Nat.zero_add, cell_of_row _ _ _ _ _ _ h5]
      simpa using hu
    obtain ⟨ks, hks⟩ : ∃ ks, ks = g2 :: sl.map (·.1) := ⟨_, rfl⟩
    have hg2 : g2 ∈ ks := by rw [hks]; exact .head _
    have hin : ∀ k ∈ ks, k ∈ ((g2, #[lv], 34) :: (g1, #[.slice va vn vc], 34) :: (sl ++ []) : List RowT).map (·.1) := by
      intro k hk
      rw [hks] at hk
      simp only [List.map_cons, List.map_append, List.mem_cons, List.mem_append] at hk ⊢
      rcases hk with h | h
      · exact .inl h
      · exact .inr (.inr (.inl h))
    have hcells : ∀ k ∈ ks, ∀ o', W.heap[k]? = some o' → o'.isCells = true := fun k hk o' ho' => hRW.isCells (hin k hk) ho'
    have hkge : ∀ k ∈ ks, w0.heap.size ≤ k := by
      intro k hk
      obtain ⟨y, hy, rfl⟩ := List.mem_map.1 (hin k hk)
      exact (hRW.here y hy).1
    have hG : ∀ g ∈ [g1], g ∉ ks := by
      have hap := hRW.apart
      simp only [List.map_cons, List.map_append, List.nodup_cons, List.mem_cons, List.mem_append, not_or] at hap
      obtain ⟨⟨a1, _⟩, ⟨b1, _⟩, _⟩ := hap
      intro g hg
      rw [List.mem_singleton.1 hg, hks]
      simp only [List.mem_cons, not_or]
      exact ⟨fun e => a1 e.symm, b1⟩
    obtain ⟨a1, n1, c1, rfl⟩ := hSl.shapeIdx
    show Code.wpIn (wideR (some l)) _ _ _ _ _ _
    refine wpIn_block ?_
    refine wpR_lit (r := some l) ?_ (by kernel_rfl) ?_
    · rintro ⟨a, w, h⟩; exact h
    have hA := Apart.refl W ks
    have hR := hRW
    repeat (first
    | ((with_reducible apply wpList_one hR tFsO); exact rfl; exact rfl; (exact .head _); exact rfl; (simp only [List.set_cons_succ, List.set_cons_zero]; exact rfl))
    | ((with_reducible apply wpList_many0 tFix); exact rfl; exact rfl; exact hc5; exact rfl; (simp only [List.set_cons_succ, List.set_cons_zero]; exact rfl))
    | ((with_reducible apply wpList_buildK hR hA); exact rfl; exact rfl; (exact bFixes1 _); clear hR hA; intro gb w hR hA; simp only [List.set_cons_succ, List.set_cons_zero])
    | ((with_reducible apply wpList_appK hR hA tFixesB); exact rfl; exact rfl; exact rfl; (exact Les.tail (Les.tail (Les.tail Les.head))); exact hSl; (exact rd_one (z := f) cellsF_len cellsF_one hR (.head _)); (simp only [maxLen]; omega); omega; (intro r hr; rw [hks]; exact .tail _ hr); clear hR hA; intro s2 v2 w hR hS2 hA; (obtain ⟨a2, n2, c2, rfl⟩ := hS2.shapeIdx); (replace hR := hR.les (Les.skip _ (Les.tail Les.one))); (simp only [List.cons_append, List.nil_append] at hR); (replace hR := (hR.les (Les.tail (Les.skip _ (Les.tail Les.one)))).swap); (replace hR := hR.drop (List.Sublist.cons_cons _ (List.Sublist.cons_cons _ (List.Sublist.append (List.Sublist.refl _) (List.nil_sublist _))))); simp only [List.set_cons_succ, List.set_cons_zero])
    | ((with_reducible apply wpList_putK hR hA (c' := #[.slice a2 n2 c2]) tFsO); exact rfl; exact rfl; exact rfl; (exact .head _); exact ⟨rfl⟩; (simp); exact rfl; exact .head; exact hg2; clear hR hA; intro w hR hA))
    refine wpList_nil ?_
    refine ⟨hA.from _ hcells, hA.kpR hRW.below.size hkge hG, s2, _, hR, ?_⟩
    rw [List.length_append, List.map_append, List.flatMap_append]
    refine hS2.cast ?_
    simp [hf]
  case done =>
    rintro D ys W hD rfl ⟨sl, lv, hR6, hSl⟩ hK6
    show K _ _
    refine hK _ _ ?_
    dsimp only
    clear hR hR1
    have hR := hR6
    clear hR6
    go_wp2_with (first
    | ((with_reducible apply wpList_one hR tFsO); exact rfl; exact rfl; (exact .head _); exact rfl; (simp only [List.set_cons_succ, List.set_cons_zero]; exact rfl)))
    (try simp only [Exit.inBlock, Exit.then])
    refine ⟨by simp, .inl ⟨_, _, rfl, run_takeDeferred hK6, ?_⟩⟩
    refine ⟨_, results_tmp rfl _ _ _, ?_⟩
    have hRD := hR.grownNC (grownBy_putObj' W D (.deferred none)) hlow (fun r e => by cases e; exact ⟨hD, _, hK6, rfl⟩)
    rw [fxUp_len, fxUp_map, List.take_length] at hSl
    exact ⟨sl, lv, rfl, hRD.drop (.cons _ (.cons _ (List.sublist_append_left _ _))), hSl⟩
  case stop =>
    rintro D c pre W _ _ hx _
    exact hx.elim
end Go.Proofs.Ytimciiaajlfkoaa
/- The contract of fixup.Sorted. No statement of the seat is proved here. -/
namespace Go.Proofs.Ytimciiaajlfkoaa
open Go.ChangeShapes Go.WideShapes Go.ChangeAt Go.RowKit
set_option linter.unusedVariables false
set_option linter.unusedSimpArgs false

theorem collect_any {w0 w : World} {v : Value} {X : List FixZ} {g1 : Nat} (hV : RowsAt 8 cellsF w0 v X) (hO : Own w0 w [(g1, #[v], 34)]) (hl : X.length ≤ 1000) :
    Calls Try.prog 46 #[.func (.func 48) #[] #[.pointer (some ⟨g1, 0, none⟩)]] w fun e w' => ∃ s v', e = .returned v' ∧ Own w0 w' s ∧ Sl 24 8 s v' X.length (X.flatMap cellsF) := by
  go_enter Try.func46, Try.ntmps46
  go_wp2_with (first
    | (go_at_call 53; refine (appSeq_any hV hO hl).mono ?_; rintro e w' ⟨s, v', rfl, hR, hS⟩))
  go_ret
  exact ⟨s, v', rfl, hR, hS⟩
theorem sortedStable_any {w0 w : World} {v : Value} {X : List FixZ} {g1 : Nat} (hV : RowsAt 8 cellsF w0 v X) (hO : Own w0 w [(g1, #[v], 34)]) (hl : X.length ≤ 12) :
    Calls Try.prog 34 #[.func (.func 48) #[] #[.pointer (some ⟨g1, 0, none⟩)], .func (.func 36) #[] #[]] w fun e w' => ∃ Y s v', StableF X Y ∧ e = .returned v' ∧ Own w0 w' s ∧ Sl 24 8 s v' Y.length (Y.flatMap cellsF) := by
  go_enter Try.func34, Try.ntmps34
  go_wp2_with (first
    | (go_at_call 46; refine (collect_any hV hO (by omega)).mono ?_; rintro e w' ⟨s, v', rfl, hR, hS⟩; (replace hR : Own w0 w' (s ++ []) := by rw [List.append_nil]; exact hR))
    | (go_at_call 47; refine (sortStable_any (l := []) hR hS hl).mono ?_; rintro e w' ⟨rfl, Y, s2, hY, hR2, hS2⟩))
  go_ret
  rw [List.append_nil] at hR2
  exact ⟨Y, s2, _, hY, rfl, hR2, hS2⟩
theorem fixSorted_any {w : World} {v : Value} {X : List FixZ} (h : RowsAt 8 cellsF w v X) (hl : X.length ≤ 12) :
    Calls Try.prog 19 #[v] w fun e w' => ∃ Y v', StableF X Y ∧ e = .returned v' ∧ Below w.heap.size w w' ∧ RowsAt 8 cellsF w' v' Y := by
  have hO := Own.start w
  obtain ⟨w0, hw0⟩ : ∃ w0, w0 = w := ⟨_, rfl⟩
  rw [← hw0] at hO h ⊢
  clear hw0
  obtain ⟨a, n, c, rfl⟩ := h.shape
  go_enter Try.func19, Try.ntmps19
  go_wp2_with (first
    | (go_at_call 35; refine (values_any hO _ _ _).mono ?_; rintro e w' ⟨g1, rfl, hR⟩)
    | (go_at_call 34; refine (sortedStable_any h hR hl).mono ?_; rintro e w' ⟨Y, s, v', hY, rfl, hR2, hS2⟩))
  go_ret
  exact ⟨Y, v', hY, rfl, hR2.below, hS2.rowsAt cellsF_one hR2 (fun r hr => hr)⟩
end Go.Proofs.Ytimciiaajlfkoaa
