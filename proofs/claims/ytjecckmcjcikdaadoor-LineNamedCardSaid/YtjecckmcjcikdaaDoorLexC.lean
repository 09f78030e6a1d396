







/- The contract of lex.run: over whatever bytes. No statement of the seat is proved here. -/
import Derived.Test.YtjecckmcjcikdaaDoorLexA
import Derived.Laws.RangeAny
namespace Go.Proofs.YtjecckmcjcikdaaDoor
open Go.ChangeShapes Go.WideShapes Go.ChangeAt Go.RowKit
set_option linter.unusedVariables false
set_option linter.unusedSimpArgs false

section
variable {P : Program} {C : World → Prop} {tp : TypeId} {pos : String} {af : Array Edge} {gd : Option (Nat × Bool)} {ls : List Value} {ds : List Deferred} {c : Bool} {dd : Option Tmp}
/-- A call through a function value that captured nothing. -/
theorem t_callF {F : FuncId} (hcf : ∀ (args : Array Value) w, (callFunc F args).run P w = .ok (.enter F args) w) {x : Operand} {xs : Array Operand} {ats : Array TypeId} {args : List Value} {v : Value} (hx : EvC ls c x (.func (.func F) #[] #[])) (ha : EvAll ls c xs.toList args)
    (hc : c = true → ∀ w, C w → Calls P F args.toArray w fun e w' => e = .returned v ∧ Below w.heap.size w w' ∧ C w') : TIf P C c ⟨dd, .call ⟨.value x, xs, ats⟩, tp, pos, af, gd⟩ ⟨ls.toArray, ds⟩ v := by
  refine ⟨fun e => .inr ⟨F, args.toArray, fun w => ?_, hc e⟩⟩
  have ha' : xs.map (⟨ls.toArray, ds⟩ : Act).eval = args.toArray := by
    apply Array.toList_inj.1
    rw [Array.toList_map, evalAll_of (ha.of e)]
  have hev : (⟨ls.toArray, ds⟩ : Act).eval x = .func (.func F) #[] #[] := eval_of (hx.of e)
  unfold execOp
  simp only [resolve, hev, Deferred.ofValue, ha', Sem.run_bind, Sem.run_pure, Result.andThen_ok, invoke, Array.empty_append, Array.append_empty, hcf]
theorem next_ascii {ns : List Int} (hb : bytesOk ns) {k : Nat} {x : Int} (hk : ns[k]? = some x) (hx : x ≤ 127) (w : World) (ty : TypeId) :
    (Instr.next (.pointer (some ⟨w.heap.size, 0, none⟩)) true ty).run P (w.iter (strOfNums ns) k) = .ok (.tuple #[.bool true, .int .i64 k, .int .i32 x]) (w.iter (strOfNums ns) (k + 1)) := by
  have hl : k < (strOfNums ns).size := by rw [strOf_len]; exact (List.getElem?_eq_some_iff.1 hk).1
  have hv := strOf_at hb hk hl
  rw [run_next_ascii w _ k ty hl (by omega), hv]
theorem next_high {ns : List Int} (hb : bytesOk ns) {k : Nat} {x : Int} (hk : ns[k]? = some x) (hx : 128 ≤ x) (w : World) :
    ∃ r j, 128 ≤ r ∧ ∀ ty : TypeId, (Instr.next (.pointer (some ⟨w.heap.size, 0, none⟩)) true ty).run P (w.iter (strOfNums ns) k) = .ok (.tuple #[.bool true, .int .i64 k, .int .i32 r]) (w.iter (strOfNums ns) j) := by
  have hl : k < (strOfNums ns).size := by rw [strOf_len]; exact (List.getElem?_eq_some_iff.1 hk).1
  have hv := strOf_at hb hk hl
  exact ⟨_, _, by have := (decode_high (strOfNums ns) k hl (by omega)).1; omega, fun ty => run_next_any w _ k ty hl⟩
theorem next_none (ns : List Int) (w : World) (ty : TypeId) : (Instr.next (.pointer (some ⟨w.heap.size, 0, none⟩)) true ty).run P (w.iter (strOfNums ns) ns.length) = .ok (.tuple #[.bool false]) (w.iter (strOfNums ns) ns.length) :=
  run_next_end w _ _ ty (by rw [strOf_len]; omega)
end
theorem Below.iter (w : World) (s : ByteArray) (k : Nat) : Below w.heap.size w (w.iter s k) := (Below.refl _ w).alloc (Nat.le_refl _) _
/-- A test on letters that a text is gone over by: none above 127 passes it. -/
structure TestIs (F : FuncId) (m : Int → Bool) (A : Bool) : Prop where
  fn : ∀ (args : Array Value) w, (callFunc F args).run Tryd.prog w = .ok (.enter F args) w
  high : ∀ r, 128 ≤ r → m r = false
  any : ∀ r (w0 : World), 0 ≤ r → (A = true → r ≤ 127) → Calls Tryd.prog F #[.int .i32 r] w0 fun e w' => e = .returned (.bool (m r)) ∧ w' = w0
theorem runZ_drop {m : Int → Bool} {s : List Int} {k : Nat} {x : Int} (hk : s[k]? = some x) : runZ m (s.drop k) = if m x then runZ m (s.drop (k + 1)) + 1 else 0 := by
  obtain ⟨hl, hx⟩ := List.getElem?_eq_some_iff.1 hk
  rw [List.drop_eq_getElem_cons hl, runZ_cons, hx]
set_option maxRecDepth 100000 in
theorem run_any {F : FuncId} {m : Int → Bool} {A : Bool} (hT : TestIs F m A) {s : List Int} (hs : bytesOk s) (hA : A = true → ascii s) (w0 : World) :
    Calls Tryd.prog 20 #[.string (strOfNums s), .func (.func F) #[] #[]] w0 fun e w' => e = .returned (.int .i64 (runZ m s)) ∧ Below w0.heap.size w0 w' := by
  go_enter Tryd.func20, Tryd.ntmps20
  go_wp2_with fail
  go_loopw [5] (fun _ wr => ∃ k : Nat, k ≤ s.length ∧ wr = w0.iter (strOfNums s) k ∧ runZ m s = k + runZ m (s.drop k)) (fun _ wr => s.length - wr.iterPos w0.heap.size)
  case atStart => exact ⟨0, Nat.zero_le _, rfl, by simp⟩
  case round =>
    obtain ⟨k, hk, rfl, hrun⟩ := hrel
    by_cases hlt : k < s.length
    · obtain ⟨c, hc⟩ : ∃ c, s[k]? = some c := ⟨_, List.getElem?_eq_getElem hlt⟩
      obtain ⟨hc0, hc1⟩ := hs.at hc
      rw [runZ_drop hc] at hrun
      by_cases h128 : c ≤ 127
      · have hnx := next_ascii (P := Tryd.prog) hs hc h128 w0
        cases hm : m c
        · rw [hm] at hrun
          go_wp2_with (first
    | ((with_reducible apply q_ls0); exact rfl; (with_reducible apply t_callF hT.fn); (apply EvC.now; exact rfl); (first | (apply EvC.gv; exact rfl; (with_reducible first | exact Imp.refl _ | (apply Imp.left; exact Imp.refl _) | (apply Imp.right; exact Imp.refl _) | (apply Imp.left; apply Imp.left; exact Imp.refl _))) | (apply EvC.now; exact rfl) | exact rfl | (with_reducible exact EvAll.nil) | (focus (repeat (first | apply EvAll.cons | exact EvAll.nil | (apply EvC.gv; exact rfl; (with_reducible first | exact Imp.refl _ | (apply Imp.left; exact Imp.refl _) | (apply Imp.right; exact Imp.refl _) | (apply Imp.left; apply Imp.left; exact Imp.refl _))) | (apply EvC.now; exact rfl))); done) | exact rfl | (focus (repeat (first | apply List.Mem.head | apply List.Mem.tail | apply List.mem_append_right)))); (intro hcc w hC; subst hC; exact (hT.any _ _ (by omega) (fun _ => h128)).mono (by rintro e w' ⟨rfl, rfl⟩; exact ⟨rfl, Below.refl _ _, rfl⟩)); (simp only [List.set_cons_succ, List.set_cons_zero]; exact rfl)))
          go_ret
          exact ⟨by first | rfl | (rw [hrun]; simp), Below.iter _ _ _⟩
        · rw [hm] at hrun
          go_wp2_with (first
    | ((with_reducible apply q_ls0); exact rfl; (with_reducible apply t_callF hT.fn); (apply EvC.now; exact rfl); (first | (apply EvC.gv; exact rfl; (with_reducible first | exact Imp.refl _ | (apply Imp.left; exact Imp.refl _) | (apply Imp.right; exact Imp.refl _) | (apply Imp.left; apply Imp.left; exact Imp.refl _))) | (apply EvC.now; exact rfl) | exact rfl | (with_reducible exact EvAll.nil) | (focus (repeat (first | apply EvAll.cons | exact EvAll.nil | (apply EvC.gv; exact rfl; (with_reducible first | exact Imp.refl _ | (apply Imp.left; exact Imp.refl _) | (apply Imp.right; exact Imp.refl _) | (apply Imp.left; apply Imp.left; exact Imp.refl _))) | (apply EvC.now; exact rfl))); done) | exact rfl | (focus (repeat (first | apply List.Mem.head | apply List.Mem.tail | apply List.mem_append_right)))); (intro hcc w hC; subst hC; exact (hT.any _ _ (by omega) (fun _ => h128)).mono (by rintro e w' ⟨rfl, rfl⟩; exact ⟨rfl, Below.refl _ _, rfl⟩)); (simp only [List.set_cons_succ, List.set_cons_zero]; exact rfl)))
          go_roundw
          case rel => exact ⟨k + 1, hlt, rfl, by rw [hrun]; simp; omega⟩
          case measure => simp; omega
      · obtain ⟨r, j, hr, hnx⟩ := next_high (P := Tryd.prog) hs hc (by omega) w0
        have hm := hT.high r hr
        have hm2 := hT.high c (by omega)
        have hAf : A = true → r ≤ 127 := fun h => absurd (hA h c (List.mem_of_getElem? hc)).2 (by omega)
        rw [hm2] at hrun
        go_wp2_with (first
    | ((with_reducible apply q_ls0); exact rfl; (with_reducible apply t_callF hT.fn); (apply EvC.now; exact rfl); (first | (apply EvC.gv; exact rfl; (with_reducible first | exact Imp.refl _ | (apply Imp.left; exact Imp.refl _) | (apply Imp.right; exact Imp.refl _) | (apply Imp.left; apply Imp.left; exact Imp.refl _))) | (apply EvC.now; exact rfl) | exact rfl | (with_reducible exact EvAll.nil) | (focus (repeat (first | apply EvAll.cons | exact EvAll.nil | (apply EvC.gv; exact rfl; (with_reducible first | exact Imp.refl _ | (apply Imp.left; exact Imp.refl _) | (apply Imp.right; exact Imp.refl _) | (apply Imp.left; apply Imp.left; exact Imp.refl _))) | (apply EvC.now; exact rfl))); done) | exact rfl | (focus (repeat (first | apply List.Mem.head | apply List.Mem.tail | apply List.mem_append_right)))); (intro hcc w hC; subst hC; exact (hT.any _ _ (by omega) hAf).mono (by rintro e w' ⟨rfl, rfl⟩; exact ⟨rfl, Below.refl _ _, rfl⟩)); (simp only [List.set_cons_succ, List.set_cons_zero]; exact rfl)))
        go_ret
        exact ⟨by first | rfl | (rw [hrun]; simp), Below.iter _ _ _⟩
    · obtain rfl : k = s.length := by omega
      have hnx := next_none (P := Tryd.prog) s w0
      rw [List.drop_length] at hrun
      go_wp2_with (first
    | ((with_reducible apply q_ls0); exact rfl; (with_reducible apply t_lenN Tryd.underlying9); (apply EvC.now; exact rfl); (simp only [List.set_cons_succ, List.set_cons_zero]; exact rfl)))
      go_ret
      exact ⟨by first | rfl | (rw [hrun]; simp [runZ]), Below.iter _ _ _⟩
theorem readL_is : TestIs 21 readZ false :=
  ⟨Tryd.call21, fun r h => by unfold readZ; simp; omega, fun r w0 _ _ => readL_any r w0⟩
theorem countL_is : TestIs 36 countZ false :=
  ⟨Tryd.call36, fun r h => by unfold countZ digitZ letterZ; simp; omega, fun r w0 _ _ => countL_any r w0⟩
theorem hasB_not {l : List Int} {c : Int} (h : c ∉ l) : hasB l c = false := by unfold hasB; rw [idxB_none h]; rfl
theorem namedL_is : TestIs 30 namedZ true :=
  ⟨Tryd.call30, fun r h => by
    have : hasB marksZ r = false := hasB_not (by unfold marksZ; simp; omega)
    unfold namedZ countZ digitZ letterZ; rw [this]; simp; omega, fun r w0 h0 h1 => namedL_any ⟨h0, h1 rfl⟩ w0⟩
end Go.Proofs.YtjecckmcjcikdaaDoor
