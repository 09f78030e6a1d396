



/- The contract of code.All; some instructions as the cells of a row. No statement of the seat is proved here. -/
import Derived.Test.YtlklfnmhnffmoaaDoorCodeD
import Derived.Test.YtlklfnmhnffmoaaDoorMany
namespace Go.Proofs.YtlklfnmhnffmoaaDoor
open Go.ChangeShapes Go.WideShapes Go.ChangeAt Go.RowKit
set_option linter.unusedVariables false
set_option linter.unusedSimpArgs false

/-- Instructions' cells, one behind the other. -/
def encL (js : List InstZ) : List Value := js.flatMap fun j => (encI j).toList
theorem encI_len (j : InstZ) : (encI j).toList.length = 10 := rfl
theorem encL_append (a b : List InstZ) : encL (a ++ b) = encL a ++ encL b := by unfold encL; rw [List.flatMap_append]
theorem encL_len (js : List InstZ) : (encL js).length = js.length * 10 := by
  induction js with
  | nil => rfl
  | cons j js ih => rw [show encL (j :: js) = (encI j).toList ++ encL js from rfl, List.length_append, ih, encI_len]; simp; omega
theorem encL_ones (js : List InstZ) : (encL js).all (·.oneCell') = true := by
  rw [List.all_eq_true]
  intro v hv
  obtain ⟨j, _, hj⟩ := List.mem_flatMap.1 hv
  have := one_inst j
  exact (Array.all_eq_true_iff_forall_mem.1 this) v (by simpa using hj)
theorem encL_at (js : List InstZ) (k : Nat) (j : InstZ) (h : js[k]? = some j) (m : Nat) (u : Value) (hu : (encI j).toList[m]? = some u) : (encL js)[k * 10 + m]? = some u := by
  induction js generalizing k with
  | nil => simp at h
  | cons x js ih =>
    rw [show encL (x :: js) = (encI x).toList ++ encL js from rfl]
    cases k with
    | zero =>
      simp at h
      subst h
      have hm : m < (encI x).toList.length := (List.getElem?_eq_some_iff.1 hu).1
      rw [Nat.zero_mul, Nat.zero_add, List.getElem?_append_left hm]; exact hu
    | succ k =>
      rw [List.getElem?_append_right (by rw [encI_len]; omega), encI_len, show (k + 1) * 10 + m - 10 = k * 10 + m by omega]
      exact ih k (by simpa using h)
theorem part_el {cur : Array Value} {js : List InstZ} {n cap : Nat} (h : RwIs 10 cur n cap (encL js)) {k : Nat} {j : InstZ} (hk : js[k]? = some j) : Part cur (k * 10) (encI j).toList :=
  ⟨fun m u hu => by have := h.part.get _ u (encL_at js k j hk m u hu); rw [Nat.zero_add] at this; exact this⟩
theorem tInsts : SliceK Tryd.prog 34 24 10 := .of (z := .agg (encI zeroI)) (b := 64) Tryd.underlying34 (by kernel_rfl) (by decide) (by rfl) (by decide)

/-- What All answers. -/
def AllP (w0 : World) (L : List RowT) (js : List InstZ) (en : Ending) (w' : World) : Prop :=
  (js.all mayR = true ∧ ∃ v', en = .returned (.tuple #[v', .int .i64 0]) ∧ SIs w0 (cellsB (js.flatMap putN)) (15 * js.length) L v' w') ∨
  (js.all mayR = false ∧ en = .returned (.tuple #[.slice none 0 0, .int .i64 1]) ∧ Own w0 w' L)
theorem take_more {α : Type} {l : List α} {k : Nat} {x : α} (h : l[k]? = some x) : l.take (k + 1) = l.take k ++ [x] := by
  rw [List.take_add_one, h]; rfl
set_option maxHeartbeats 2000000 in
theorem all_any (js : List InstZ) (hjs : ∀ j ∈ js, j.ok) (hlen : js.length ≤ 50) {w0 w : World} {L : List RowT} {g cap : Nat} {cur : Array Value} (hT : Tabs w0) (hO : Own w0 w L) (hm : (g, cur, 24) ∈ L) (hS : RwIs 10 cur js.length cap (encL js)) :
    Calls Tryd.prog 11 #[.slice (some ⟨g, 0, none⟩) js.length cap] w (AllP w0 L js) := by
  have hR := hO
  clear hO
  have HS := Lib.hid hS
  have HJ := Lib.hid hjs
  clear hS hjs
  go_enter Tryd.func11, Tryd.ntmps11
  go_wp2_with (first
    | ((with_reducible apply q_ls hR); exact rfl; (with_reducible apply t_len Tryd.underlying34); (apply EvC.now; exact rfl); (simp only [List.set_cons_succ, List.set_cons_zero]; exact rfl); clear hR; intro w hR)
    | ((with_reducible apply q_ls hR); exact rfl; (with_reducible apply t_six Tryd.underlying34 iInst); (apply EvC.now; exact rfl); (apply EvC.now; exact rfl); (constructor <;> omega); (simp only [List.set_cons_succ, List.set_cons_zero]; exact rfl); clear hR; intro w hR)
    | ((with_reducible apply q_ls hR); exact rfl; (with_reducible apply t_ownMany tInst); (apply EvC.now; exact rfl); (exact List.mem_append_right _ hm); (exact HP.out); (exact rfl); (simp only [List.set_cons_succ, List.set_cons_zero]; exact rfl); clear hR; intro w hR)
    | ((with_reducible apply wpList_make hR zInst); exact rfl; clear hR; intro gk w hR; simp only [List.set_cons_succ, List.set_cons_zero])
    | ((with_reducible apply q_ls hR); exact rfl; ((with_reducible first | apply t_addr (fInst _ (by decide)) | apply t_addr (fRow _ (by decide)) | apply t_one tInt | apply t_one tWord | apply t_one tByte | apply t_one tBool | apply t_part tInst | apply t_part tRow) <;> (first | (apply EvC.gv; exact rfl; (with_reducible first | exact Imp.refl _ | (apply Imp.left; exact Imp.refl _) | (apply Imp.right; exact Imp.refl _) | (apply Imp.left; apply Imp.left; exact Imp.refl _))) | (apply EvC.now; exact rfl) | exact rfl | (with_reducible exact EvAll.nil) | (focus (repeat (first | apply EvAll.cons | exact EvAll.nil | (apply EvC.gv; exact rfl; (with_reducible first | exact Imp.refl _ | (apply Imp.left; exact Imp.refl _) | (apply Imp.right; exact Imp.refl _) | (apply Imp.left; apply Imp.left; exact Imp.refl _))) | (apply EvC.now; exact rfl))); done) | (first | apply ext_inst | apply ext_row) | (focus (repeat (first | apply List.Mem.head | apply List.Mem.tail | apply List.mem_append_right))))); (simp only [List.set_cons_succ, List.set_cons_zero]; exact rfl); clear hR; intro w hR)
    | ((with_reducible apply wpList_box hR); exact rfl; exact rfl; clear hR; intro g w hR; simp only [List.set_cons_succ, List.set_cons_zero])
    | ((with_reducible apply wpList_make hR zInst); exact rfl; clear hR; intro g w hR; simp only [List.set_cons_succ, List.set_cons_zero])
    | ((with_reducible apply wpList_make hR zRow); exact rfl; clear hR; intro g w hR; simp only [List.set_cons_succ, List.set_cons_zero])
    | ((with_reducible apply wpList_put hR tInst); exact rfl; exact rfl; exact rfl; (focus (repeat (first | apply List.Mem.head | apply List.Mem.tail | apply List.mem_append_right))); apply put_inst; exact rfl; simp [encI]; apply one_inst; (focus (repeat (first | apply Upd.head | apply Upd.tail))); clear hR; intro w hR)
    | ((with_reducible apply wpList_put hR tRow); exact rfl; exact rfl; exact rfl; (focus (repeat (first | apply List.Mem.head | apply List.Mem.tail | apply List.mem_append_right))); apply put_row; exact rfl; simp [encR]; apply one_row; (focus (repeat (first | apply Upd.head | apply Upd.tail))); clear hR; intro w hR)
    | ((with_reducible apply wpList_built); exact rfl; exact rfl; (first | exact bInst1 _ | exact bInst2 _ _ | exact bInst3 _ _ | exact bRow0); (simp only [List.set_cons_succ, List.set_cons_zero]; exact rfl)))
  go_loopw [4, 9] (fun b i wr => ∃ k : Nat, k ≤ js.length ∧ i = .int .i64 k ∧ (js.take k).all mayR = true ∧ SIs w0 (cellsB ((js.take k).flatMap putN)) (15 * k) L b wr) (fun _ i _ => js.length - (intOf i).toNat)
  case atStart => exact ⟨0, by omega, rfl, rfl, SIs.of hR (Les.none _) (by (focus (repeat (with_reducible first | exact List.Sublist.slnil | exact List.nil_sublist _ | exact List.Sublist.refl _ | exact List.sublist_append_right _ _ | apply List.Sublist.cons_cons | apply List.Sublist.cons | apply sub_right)))) (Sl.nil _ _) (by omega) rfl⟩
  case round =>
    clear hR
    obtain ⟨k, hk, rfl, hal, s, n, hn, hR, hS⟩ := hrel
    have HA := Lib.hid hal
    clear hal
    by_cases hlt : k < js.length
    · obtain ⟨j, hj⟩ : ∃ j, js[k]? = some j := ⟨_, List.getElem?_eq_getElem hlt⟩
      have hjo : j.ok := HJ.out j (List.mem_of_getElem? hj)
      have HP : Hid (Part cur ((k : Int).toNat * 10) (encI j).toList) := Lib.hid (by rw [Int.toNat_natCast]; exact part_el HS.out hj)
      have HN := Lib.hid (take_more hj)
      have HJK := Lib.hid hj
      clear hj
      rcases Bool.eq_false_or_eq_true (mayR j) with hmj | hmj
      · have hmay : ∀ w, Calls Tryd.prog 17 #[.agg (encI j)] w fun e w' => e = .returned (.bool true) ∧ Below w.heap.size w w' := by
          intro w; have := may_any j hjo w; rw [may_same j hjo, hmj] at this; exact this
        have HM := Lib.hid hmay
        have HF := Lib.hid (fine_of j hjo hmj)
        have HMJ := Lib.hid hmj
        clear hmay hmj
        go_wp2_with (first
    | ((with_reducible apply q_ls hR); exact rfl; (with_reducible apply t_len Tryd.underlying34); (apply EvC.now; exact rfl); (simp only [List.set_cons_succ, List.set_cons_zero]; exact rfl); clear hR; intro w hR)
    | ((with_reducible apply q_ls hR); exact rfl; (with_reducible apply t_six Tryd.underlying34 iInst); (apply EvC.now; exact rfl); (apply EvC.now; exact rfl); (constructor <;> omega); (simp only [List.set_cons_succ, List.set_cons_zero]; exact rfl); clear hR; intro w hR)
    | ((with_reducible apply q_ls hR); exact rfl; (with_reducible apply t_ownMany tInst); (apply EvC.now; exact rfl); (exact List.mem_append_right _ hm); (exact HP.out); (exact rfl); (simp only [List.set_cons_succ, List.set_cons_zero]; exact rfl); clear hR; intro w hR)
    | ((with_reducible apply wpList_make hR zInst); exact rfl; clear hR; intro gk w hR; simp only [List.set_cons_succ, List.set_cons_zero])
    | ((with_reducible apply q_ls hR); exact rfl; ((with_reducible first | apply t_addr (fInst _ (by decide)) | apply t_addr (fRow _ (by decide)) | apply t_one tInt | apply t_one tWord | apply t_one tByte | apply t_one tBool | apply t_part tInst | apply t_part tRow) <;> (first | (apply EvC.gv; exact rfl; (with_reducible first | exact Imp.refl _ | (apply Imp.left; exact Imp.refl _) | (apply Imp.right; exact Imp.refl _) | (apply Imp.left; apply Imp.left; exact Imp.refl _))) | (apply EvC.now; exact rfl) | exact rfl | (with_reducible exact EvAll.nil) | (focus (repeat (first | apply EvAll.cons | exact EvAll.nil | (apply EvC.gv; exact rfl; (with_reducible first | exact Imp.refl _ | (apply Imp.left; exact Imp.refl _) | (apply Imp.right; exact Imp.refl _) | (apply Imp.left; apply Imp.left; exact Imp.refl _))) | (apply EvC.now; exact rfl))); done) | (first | apply ext_inst | apply ext_row) | (focus (repeat (first | apply List.Mem.head | apply List.Mem.tail | apply List.mem_append_right))))); (simp only [List.set_cons_succ, List.set_cons_zero]; exact rfl); clear hR; intro w hR)
    | ((with_reducible apply wpList_box hR); exact rfl; exact rfl; clear hR; intro g w hR; simp only [List.set_cons_succ, List.set_cons_zero])
    | ((with_reducible apply wpList_make hR zInst); exact rfl; clear hR; intro g w hR; simp only [List.set_cons_succ, List.set_cons_zero])
    | ((with_reducible apply wpList_make hR zRow); exact rfl; clear hR; intro g w hR; simp only [List.set_cons_succ, List.set_cons_zero])
    | ((with_reducible apply wpList_put hR tInst); exact rfl; exact rfl; exact rfl; (focus (repeat (first | apply List.Mem.head | apply List.Mem.tail | apply List.mem_append_right))); apply put_inst; exact rfl; simp [encI]; apply one_inst; (focus (repeat (first | apply Upd.head | apply Upd.tail))); clear hR; intro w hR)
    | ((with_reducible apply wpList_put hR tRow); exact rfl; exact rfl; exact rfl; (focus (repeat (first | apply List.Mem.head | apply List.Mem.tail | apply List.mem_append_right))); apply put_row; exact rfl; simp [encR]; apply one_row; (focus (repeat (first | apply Upd.head | apply Upd.tail))); clear hR; intro w hR)
    | ((with_reducible apply wpList_built); exact rfl; exact rfl; (first | exact bInst1 _ | exact bInst2 _ _ | exact bInst3 _ _ | exact bRow0); (simp only [List.set_cons_succ, List.set_cons_zero]; exact rfl))
    | (go_at_call 17; refine (HM.out _).mono ?_; rintro e w' ⟨rfl, hb⟩; replace hR := hR.grow hb; clear hb)
    | (go_at_call 18; refine (whole_any j HF.out hT hR (by (focus (repeat (with_reducible first | apply Les.head | apply Les.tail)))) hS (by omega)).mono ?_; rintro e w' ⟨v1, rfl, HW⟩; clear hR hS))
        go_roundw
        case rel =>
          obtain ⟨s2, n2, hn2, hO2, hS2⟩ := HW
          exact ⟨k + 1, by omega, by go_num, by rw [HN.out, List.all_append, HA.out, List.all_cons, HMJ.out]; rfl,
            s2, n2, by omega, hO2.drop (List.Sublist.append (List.Sublist.refl _) (by (focus (repeat (with_reducible first | exact List.Sublist.slnil | exact List.nil_sublist _ | exact List.Sublist.refl _ | exact List.sublist_append_right _ _ | apply List.Sublist.cons_cons | apply List.Sublist.cons | apply sub_right))))), hS2.cast (by rw [HN.out, List.flatMap_append, cellsB_append, putN_cells]; simp)⟩
        case measure => simp [intOf]; omega
      · have hmay : ∀ w, Calls Tryd.prog 17 #[.agg (encI j)] w fun e w' => e = .returned (.bool false) ∧ Below w.heap.size w w' := by
          intro w; have := may_any j hjo w; rw [may_same j hjo, hmj] at this; exact this
        have HM := Lib.hid hmay
        have HMJ := Lib.hid hmj
        clear hmay hmj
        go_wp2_with (first
    | ((with_reducible apply q_ls hR); exact rfl; (with_reducible apply t_len Tryd.underlying34); (apply EvC.now; exact rfl); (simp only [List.set_cons_succ, List.set_cons_zero]; exact rfl); clear hR; intro w hR)
    | ((with_reducible apply q_ls hR); exact rfl; (with_reducible apply t_six Tryd.underlying34 iInst); (apply EvC.now; exact rfl); (apply EvC.now; exact rfl); (constructor <;> omega); (simp only [List.set_cons_succ, List.set_cons_zero]; exact rfl); clear hR; intro w hR)
    | ((with_reducible apply q_ls hR); exact rfl; (with_reducible apply t_ownMany tInst); (apply EvC.now; exact rfl); (exact List.mem_append_right _ hm); (exact HP.out); (exact rfl); (simp only [List.set_cons_succ, List.set_cons_zero]; exact rfl); clear hR; intro w hR)
    | ((with_reducible apply wpList_make hR zInst); exact rfl; clear hR; intro gk w hR; simp only [List.set_cons_succ, List.set_cons_zero])
    | ((with_reducible apply q_ls hR); exact rfl; ((with_reducible first | apply t_addr (fInst _ (by decide)) | apply t_addr (fRow _ (by decide)) | apply t_one tInt | apply t_one tWord | apply t_one tByte | apply t_one tBool | apply t_part tInst | apply t_part tRow) <;> (first | (apply EvC.gv; exact rfl; (with_reducible first | exact Imp.refl _ | (apply Imp.left; exact Imp.refl _) | (apply Imp.right; exact Imp.refl _) | (apply Imp.left; apply Imp.left; exact Imp.refl _))) | (apply EvC.now; exact rfl) | exact rfl | (with_reducible exact EvAll.nil) | (focus (repeat (first | apply EvAll.cons | exact EvAll.nil | (apply EvC.gv; exact rfl; (with_reducible first | exact Imp.refl _ | (apply Imp.left; exact Imp.refl _) | (apply Imp.right; exact Imp.refl _) | (apply Imp.left; apply Imp.left; exact Imp.refl _))) | (apply EvC.now; exact rfl))); done) | (first | apply ext_inst | apply ext_row) | (focus (repeat (first | apply List.Mem.head | apply List.Mem.tail | apply List.mem_append_right))))); (simp only [List.set_cons_succ, List.set_cons_zero]; exact rfl); clear hR; intro w hR)
    | ((with_reducible apply wpList_box hR); exact rfl; exact rfl; clear hR; intro g w hR; simp only [List.set_cons_succ, List.set_cons_zero])
    | ((with_reducible apply wpList_make hR zInst); exact rfl; clear hR; intro g w hR; simp only [List.set_cons_succ, List.set_cons_zero])
    | ((with_reducible apply wpList_make hR zRow); exact rfl; clear hR; intro g w hR; simp only [List.set_cons_succ, List.set_cons_zero])
    | ((with_reducible apply wpList_put hR tInst); exact rfl; exact rfl; exact rfl; (focus (repeat (first | apply List.Mem.head | apply List.Mem.tail | apply List.mem_append_right))); apply put_inst; exact rfl; simp [encI]; apply one_inst; (focus (repeat (first | apply Upd.head | apply Upd.tail))); clear hR; intro w hR)
    | ((with_reducible apply wpList_put hR tRow); exact rfl; exact rfl; exact rfl; (focus (repeat (first | apply List.Mem.head | apply List.Mem.tail | apply List.mem_append_right))); apply put_row; exact rfl; simp [encR]; apply one_row; (focus (repeat (first | apply Upd.head | apply Upd.tail))); clear hR; intro w hR)
    | ((with_reducible apply wpList_built); exact rfl; exact rfl; (first | exact bInst1 _ | exact bInst2 _ _ | exact bInst3 _ _ | exact bRow0); (simp only [List.set_cons_succ, List.set_cons_zero]; exact rfl))
    | (go_at_call 17; refine (HM.out _).mono ?_; rintro e w' ⟨rfl, hb⟩; replace hR := hR.grow hb; clear hb))
        go_ret2
        refine .inr ⟨?_, rfl, hR.drop (by (focus (repeat (with_reducible first | exact List.Sublist.slnil | exact List.nil_sublist _ | exact List.Sublist.refl _ | exact List.sublist_append_right _ _ | apply List.Sublist.cons_cons | apply List.Sublist.cons | apply sub_right))))⟩
        cases h : js.all mayR
        · rfl
        · have := List.all_eq_true.1 h j (List.mem_of_getElem? HJK.out)
          rw [HMJ.out] at this
          exact nomatch this
    · have e : k = js.length := by omega
      subst e
      go_wp2_with fail
      go_ret2
      rw [List.take_length] at hS
      have h1 := HA.out
      rw [List.take_length] at h1
      exact .inl ⟨h1, _, rfl, s, n, by omega, hR, hS⟩
end Go.Proofs.YtlklfnmhnffmoaaDoor
