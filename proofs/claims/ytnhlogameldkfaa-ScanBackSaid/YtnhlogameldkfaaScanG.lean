




/- awake of hansomlaw07, and the contract of scan.All ('allX'). No statement of the seat is proved here. -/
import Derived.Test.YtnhlogameldkfaaScanF
import Derived.Test.YtnhlogameldkfaaEncL
namespace Go.Proofs.Ytnhlogameldkfaa
open Go.ChangeShapes Go.WideShapes Go.ChangeAt Go.RowKit
set_option linter.unusedVariables false
set_option linter.unusedSimpArgs false

/-! ### awake -/
theorem bS4 (a b c d : Int) : BuiltS Try.prog 26 4 [(0, .int .u8 a), (1, .int .u8 b), (2, .int .u8 c), (3, .int .u8 d)] 5 #[.int .u8 a, .int .u8 b, .int .u8 c, .int .u8 d] := ⟨fun w => by simp [go_sem]⟩
theorem awake_src {w0 w : World} {l : List RowT} {g : Nat} (hR : Own w0 w ((g, #[.int .u8 184, .int .u8 52, .int .u8 18, .int .u8 144], 5) :: l)) : Src w (.slice (some ⟨g, 0, none⟩) 4 4) [184, 52, 18, 144] :=
  ⟨SrcW.ofRw (bs := [184, 52, 18, 144]) hR (.head _) (RwIs.all rfl (by decide)) (by intro n hn; simp at hn; omega), by decide⟩
theorem awake_get : getV (instM [184, 52, 18, 144]) ([184, 52, 18, 144] : List Int).length = .tuple #[.agg (encI { zeroI with op := 184, imm := 4660 }), .int .i64 3, .int .i64 0] := by kernel_rfl
theorem awake_call {w0 w : World} {l : List RowT} {g : Nat} (hR : Own w0 w ((g, #[.int .u8 184, .int .u8 52, .int .u8 18, .int .u8 144], 5) :: l)) :
    Calls Try.prog 8 #[.slice (some ⟨g, 0, none⟩) 4 4] w fun en w' => en = .returned (.tuple #[.agg (encI { zeroI with op := 184, imm := 4660 }), .int .i64 3, .int .i64 0]) ∧ Below w.heap.size w w' := by
  have := get_any (awake_src hR)
  rw [awake_get] at this
  exact this
set_option maxHeartbeats 1000000 in
theorem awake7_any (w0 : World) : Calls Try.prog 9 #[] w0 fun e w' => e = .returned (.bool true) ∧ Below w0.heap.size w0 w' := by
  have hR := Own.start w0
  go_enter Try.func9, Try.ntmps9
  go_upto_region 2 with (first
    | ((with_reducible apply wpList_make hR zInst); exact rfl; clear hR; intro gk w hR; simp only [List.set_cons_succ, List.set_cons_zero])
    | ((with_reducible apply q_ls hR); exact rfl; ((with_reducible first | apply t_addr (fRd _ (by decide)) | apply t_addr (fInst _ (by decide)) | apply t_addr (fRow _ (by decide)) | apply t_one tInt | apply t_one tWord | apply t_one tByte | apply t_one tBool | apply t_one tSlB | apply t_part tInst | apply t_part tRow) <;> (first | (apply EvC.gv; exact rfl; (with_reducible first | exact Imp.refl _ | (apply Imp.left; exact Imp.refl _) | (apply Imp.right; exact Imp.refl _) | (apply Imp.left; apply Imp.left; exact Imp.refl _))) | (apply EvC.now; exact rfl) | exact rfl | (with_reducible exact EvAll.nil) | (focus (repeat (first | apply EvAll.cons | exact EvAll.nil | (apply EvC.gv; exact rfl; (with_reducible first | exact Imp.refl _ | (apply Imp.left; exact Imp.refl _) | (apply Imp.right; exact Imp.refl _) | (apply Imp.left; apply Imp.left; exact Imp.refl _))) | (apply EvC.now; exact rfl))); done) | (first | apply ext_inst | apply ext_row) | (focus (repeat (first | apply List.Mem.head | apply List.Mem.tail | apply List.mem_append_right))))); (simp only [List.set_cons_succ, List.set_cons_zero]; exact rfl); clear hR; intro w hR)
    | ((with_reducible apply wpList_put hR tInst); exact rfl; exact rfl; exact rfl; (focus (repeat (first | apply List.Mem.head | apply List.Mem.tail | apply List.mem_append_right))); apply put_inst; exact rfl; simp [encI]; apply one_inst; (focus (repeat (first | apply Upd.head | apply Upd.tail))); clear hR; intro w hR)
    | ((with_reducible apply wpList_buildS hR); exact rfl; exact rfl; exact bS4 _ _ _ _; clear hR; intro g w hR; simp only [List.set_cons_succ, List.set_cons_zero])
    | (go_at_call 8; refine (awake_call hR).mono ?_; rintro e w' ⟨rfl, hb⟩; replace hR := hR.grow hb; clear hb))
  go_wp2_with (first
    | ((with_reducible apply wpList_make hR zInst); exact rfl; clear hR; intro gk w hR; simp only [List.set_cons_succ, List.set_cons_zero])
    | ((with_reducible apply q_ls hR); exact rfl; ((with_reducible first | apply t_addr (fRd _ (by decide)) | apply t_addr (fInst _ (by decide)) | apply t_addr (fRow _ (by decide)) | apply t_one tInt | apply t_one tWord | apply t_one tByte | apply t_one tBool | apply t_one tSlB | apply t_part tInst | apply t_part tRow) <;> (first | (apply EvC.gv; exact rfl; (with_reducible first | exact Imp.refl _ | (apply Imp.left; exact Imp.refl _) | (apply Imp.right; exact Imp.refl _) | (apply Imp.left; apply Imp.left; exact Imp.refl _))) | (apply EvC.now; exact rfl) | exact rfl | (with_reducible exact EvAll.nil) | (focus (repeat (first | apply EvAll.cons | exact EvAll.nil | (apply EvC.gv; exact rfl; (with_reducible first | exact Imp.refl _ | (apply Imp.left; exact Imp.refl _) | (apply Imp.right; exact Imp.refl _) | (apply Imp.left; apply Imp.left; exact Imp.refl _))) | (apply EvC.now; exact rfl))); done) | (first | apply ext_inst | apply ext_row) | (focus (repeat (first | apply List.Mem.head | apply List.Mem.tail | apply List.mem_append_right))))); (simp only [List.set_cons_succ, List.set_cons_zero]; exact rfl); clear hR; intro w hR)
    | ((with_reducible apply wpList_put hR tInst); exact rfl; exact rfl; exact rfl; (focus (repeat (first | apply List.Mem.head | apply List.Mem.tail | apply List.mem_append_right))); apply put_inst; exact rfl; simp [encI]; apply one_inst; (focus (repeat (first | apply Upd.head | apply Upd.tail))); clear hR; intro w hR)
    | ((with_reducible apply wpList_buildS hR); exact rfl; exact rfl; exact bS4 _ _ _ _; clear hR; intro g w hR; simp only [List.set_cons_succ, List.set_cons_zero]))
  go_ret
  exact ⟨ret_bool (by first | rfl | decide +kernel), hR.below⟩

/-! ### All -/
theorem allM_fuel (n m : Nat) (l : List Int) (h1 : l.length < n) (h2 : l.length < m) : allM n l = allM m l := by
  induction n generalizing m l with
  | zero => exact absurd h1 (Nat.not_lt_zero _)
  | succ n ih =>
    cases m with
    | zero => exact absurd h2 (Nat.not_lt_zero _)
    | succ m =>
      unfold allM
      cases h : instM l with
      | bad e => rfl
      | ok i r =>
        have := read_lt h
        simp only
        rw [ih m r (by omega) (by omega)]
def allX (l : List Int) : List InstZ × Nat := allM (l.length + 1) l
theorem allX_ok {l r : List Int} {i : InstZ} (h : instM l = .ok i r) : allX l = (i :: (allX r).1, (l.length - r.length) + (allX r).2) := by
  have hl := read_lt h
  show (match instM l with | .ok i r => (i :: (allM l.length r).1, (l.length - r.length) + (allM l.length r).2) | .bad _ => ([], 0)) = _
  rw [h]
  simp only
  unfold allX
  rw [allM_fuel l.length (r.length + 1) r hl (by omega)]
theorem allX_bad {l : List Int} {e : Int} (h : instM l = .bad e) : allX l = ([], 0) := by
  show (match instM l with | .ok i r => (i :: (allM l.length r).1, (l.length - r.length) + (allM l.length r).2) | .bad _ => ([], 0)) = _
  rw [h]
/-- What All answers. -/
def AllP (w0 : World) (bs : List Int) (en : Ending) (w' : World) : Prop :=
  ∃ s l, en = .returned (.tuple #[l, .int .i64 ((allX bs).2 : Nat)]) ∧ Own w0 w' (s ++ []) ∧ Sl 24 10 s l (allX bs).1.length (encL (allX bs).1)
/-- How far All has come. -/
def AllIs (w0 : World) (bs : List Int) (k : Nat) (lv av : Value) (wr : World) : Prop :=
  ∃ (js : List InstZ) (m : Nat) (s : List RowT), k = bs.length - m ∧ av = .int .i64 (m : Int) ∧ m ≤ bs.length ∧ js.length ≤ m ∧ allX bs = (js ++ (allX (bs.drop m)).1, m + (allX (bs.drop m)).2) ∧ Own w0 wr (s ++ []) ∧ Sl 24 10 s lv js.length (encL js)
theorem Src.cutAt {w0 w : World} {v : Value} {bs : List Int} (hS : Src w0 v bs) (hb : Below w0.heap.size w0 w) (m : Nat) (hm : m ≤ bs.length) : Src w (cutV v m bs.length) (bs.drop m) := by
  have h := (hS.toSrcW.cut m bs.length hm (Nat.le_refl _)).keep hb
  rw [List.take_length] at h
  have h2 := hS.most
  exact ⟨h, by rw [List.length_drop]; omega⟩
theorem suf_drop {l r : List Int} (h : r <:+ l) : l.drop (l.length - r.length) = r := (List.suffix_iff_eq_drop.1 h).symm
set_option maxHeartbeats 4000000 in
theorem allS_any {v : Value} {bs : List Int} {w0 : World} (hS : Src w0 v bs) : Calls Try.prog 11 #[v] w0 (AllP w0 bs) := by
  have hR := Own.start w0
  have hmost := hS.most
  go_enter Try.func11, Try.ntmps11
  go_wp2
  go_loopg [4, 5] bs.length (fun k lv av wr => AllIs w0 bs k lv av wr)
  case atStart => exact ⟨[], 0, [], by simp, rfl, Nat.zero_le _, Nat.le_refl _, by simp, hR, Sl.nil _ _⟩
  case round =>
    clear hR
    obtain ⟨js, m, s, rfl, rfl, hm, hjm, hall, hR, hSl⟩ := hrel
    have HA := Lib.hid hall
    clear hall
    have hdl : (bs.drop m).length = bs.length - m := List.length_drop
    rcases hi : instM (bs.drop m) with ⟨i, r⟩ | e
    · have hg : ∀ w, Own w0 w (s ++ []) → Calls Try.prog 8 #[cutV v m bs.length] w fun en w' => en = .returned (.tuple #[.agg (encI i), .int .i64 ((bs.length - m - r.length : Nat) : Int), .int .i64 0]) ∧ Below w.heap.size w w' := by
        intro w hO
        have := get_any (hS.cutAt hO.below m hm)
        rw [hi, hdl] at this
        exact this
      have hlt := read_lt hi
      have hs := suf_drop (Ext.inst.suf _ i r hi)
      rw [List.drop_drop] at hs
      have HX := Lib.hid (allX_ok hi)
      rw [hdl] at hlt hs HX
      generalize hn : bs.length - m - r.length = n at hs HX hg
      have hn0 : 0 < n := by omega
      have hnm : m + n ≤ bs.length := by omega
      have HS := Lib.hid hs
      have HG := Lib.hid hg
      clear hg hs hi hdl hn hlt
      go_wp2_with (first
    | ((with_reducible apply q_ls hR); exact rfl; (with_reducible apply t_cutL tBytes hS.toSrcW); (apply EvC.now; exact rfl); (apply EvC.now; exact rfl); exact rfl; exact hm; (simp only [List.set_cons_succ, List.set_cons_zero]; exact rfl); clear hR; intro w hR)
    | ((with_reducible apply wpList_make hR zInst); exact rfl; clear hR; intro gk w hR; simp only [List.set_cons_succ, List.set_cons_zero])
    | ((with_reducible apply q_ls hR); exact rfl; ((with_reducible first | apply t_addr (fRd _ (by decide)) | apply t_addr (fInst _ (by decide)) | apply t_addr (fRow _ (by decide)) | apply t_one tInt | apply t_one tWord | apply t_one tByte | apply t_one tBool | apply t_one tSlB | apply t_part tInst | apply t_part tRow) <;> (first | (apply EvC.gv; exact rfl; (with_reducible first | exact Imp.refl _ | (apply Imp.left; exact Imp.refl _) | (apply Imp.right; exact Imp.refl _) | (apply Imp.left; apply Imp.left; exact Imp.refl _))) | (apply EvC.now; exact rfl) | exact rfl | (with_reducible exact EvAll.nil) | (focus (repeat (first | apply EvAll.cons | exact EvAll.nil | (apply EvC.gv; exact rfl; (with_reducible first | exact Imp.refl _ | (apply Imp.left; exact Imp.refl _) | (apply Imp.right; exact Imp.refl _) | (apply Imp.left; apply Imp.left; exact Imp.refl _))) | (apply EvC.now; exact rfl))); done) | (first | apply ext_inst | apply ext_row) | (focus (repeat (first | apply List.Mem.head | apply List.Mem.tail | apply List.mem_append_right))))); (simp only [List.set_cons_succ, List.set_cons_zero]; exact rfl); clear hR; intro w hR)
    | ((with_reducible apply wpList_put hR tInst); exact rfl; exact rfl; exact rfl; (focus (repeat (first | apply List.Mem.head | apply List.Mem.tail | apply List.mem_append_right))); apply put_inst; exact rfl; simp [encI]; apply one_inst; (focus (repeat (first | apply Upd.head | apply Upd.tail))); clear hR; intro w hR)
    | ((with_reducible apply wpList_buildS hR); exact rfl; exact rfl; exact bI1 _; clear hR; intro g w hR; simp only [List.set_cons_succ, List.set_cons_zero])
    | ((with_reducible apply wpList_appN hR tInsts); exact rfl; exact rfl; exact rfl; exact hSl; (focus (repeat (with_reducible first | apply Les.head | apply Les.tail))); (focus (repeat (first | apply List.Mem.head | apply List.Mem.tail | apply List.mem_append_right))); exact Part.all _; exact rfl; (simpa using one_inst _); omega; clear hR hSl; intro s v w hR hSl; simp only [List.set_cons_succ, List.set_cons_zero])
    | (go_at_call 8; refine (HG.out _ hR).mono ?_; rintro e w' ⟨rfl, hb⟩; replace hR := hR.grow hb; clear hb))
      go_roundg (bs.length - (m + n))
      case measure => omega
      case rel =>
        exact ⟨js ++ [i], m + n, s, rfl, by simp, hnm, by simp; omega, by rw [HA.out, HX.out, HS.out]; simp only [List.append_assoc, List.singleton_append, Nat.add_assoc], hR.drop ((List.Sublist.refl _).append (List.nil_sublist _)), by rw [List.length_append, encL_append]; exact hSl.cast (by simp [encL])⟩
    · have hg : ∀ w, Own w0 w (s ++ []) → Calls Try.prog 8 #[cutV v m bs.length] w fun en w' => en = .returned (.tuple #[.agg (encI zeroI), .int .i64 0, .int .i64 e]) ∧ Below w.heap.size w w' := by
        intro w hO
        have := get_any (hS.cutAt hO.below m hm)
        rw [hi] at this
        exact this
      have HX := Lib.hid (allX_bad hi)
      have HG := Lib.hid hg
      have he := Ext.inst.two _ e hi
      clear hg hi hdl
      rcases he with rfl | rfl
      all_goals
        go_wp2_with (first
    | ((with_reducible apply q_ls hR); exact rfl; (with_reducible apply t_cutL tBytes hS.toSrcW); (apply EvC.now; exact rfl); (apply EvC.now; exact rfl); exact rfl; exact hm; (simp only [List.set_cons_succ, List.set_cons_zero]; exact rfl); clear hR; intro w hR)
    | ((with_reducible apply wpList_make hR zInst); exact rfl; clear hR; intro gk w hR; simp only [List.set_cons_succ, List.set_cons_zero])
    | ((with_reducible apply q_ls hR); exact rfl; ((with_reducible first | apply t_addr (fRd _ (by decide)) | apply t_addr (fInst _ (by decide)) | apply t_addr (fRow _ (by decide)) | apply t_one tInt | apply t_one tWord | apply t_one tByte | apply t_one tBool | apply t_one tSlB | apply t_part tInst | apply t_part tRow) <;> (first | (apply EvC.gv; exact rfl; (with_reducible first | exact Imp.refl _ | (apply Imp.left; exact Imp.refl _) | (apply Imp.right; exact Imp.refl _) | (apply Imp.left; apply Imp.left; exact Imp.refl _))) | (apply EvC.now; exact rfl) | exact rfl | (with_reducible exact EvAll.nil) | (focus (repeat (first | apply EvAll.cons | exact EvAll.nil | (apply EvC.gv; exact rfl; (with_reducible first | exact Imp.refl _ | (apply Imp.left; exact Imp.refl _) | (apply Imp.right; exact Imp.refl _) | (apply Imp.left; apply Imp.left; exact Imp.refl _))) | (apply EvC.now; exact rfl))); done) | (first | apply ext_inst | apply ext_row) | (focus (repeat (first | apply List.Mem.head | apply List.Mem.tail | apply List.mem_append_right))))); (simp only [List.set_cons_succ, List.set_cons_zero]; exact rfl); clear hR; intro w hR)
    | ((with_reducible apply wpList_put hR tInst); exact rfl; exact rfl; exact rfl; (focus (repeat (first | apply List.Mem.head | apply List.Mem.tail | apply List.mem_append_right))); apply put_inst; exact rfl; simp [encI]; apply one_inst; (focus (repeat (first | apply Upd.head | apply Upd.tail))); clear hR; intro w hR)
    | ((with_reducible apply wpList_buildS hR); exact rfl; exact rfl; exact bI1 _; clear hR; intro g w hR; simp only [List.set_cons_succ, List.set_cons_zero])
    | ((with_reducible apply wpList_appN hR tInsts); exact rfl; exact rfl; exact rfl; exact hSl; (focus (repeat (with_reducible first | apply Les.head | apply Les.tail))); (focus (repeat (first | apply List.Mem.head | apply List.Mem.tail | apply List.mem_append_right))); exact Part.all _; exact rfl; (simpa using one_inst _); omega; clear hR hSl; intro s v w hR hSl; simp only [List.set_cons_succ, List.set_cons_zero])
    | (go_at_call 8; refine (HG.out _ hR).mono ?_; rintro e w' ⟨rfl, hb⟩; replace hR := hR.grow hb; clear hb))
        go_ret2
        exact ⟨s, _, by rw [HA.out, HX.out]; rfl, hR.drop (by (focus (repeat (with_reducible first | exact List.Sublist.slnil | exact List.nil_sublist _ | exact List.Sublist.refl _ | exact List.sublist_append_right _ _ | apply List.Sublist.cons_cons | apply List.Sublist.cons | apply sub_right)))), by rw [HA.out, HX.out, List.append_nil]; exact hSl⟩
end Go.Proofs.Ytnhlogameldkfaa
